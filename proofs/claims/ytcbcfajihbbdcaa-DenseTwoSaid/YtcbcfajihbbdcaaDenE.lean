/- Layer 10: a matrix's way there, its contract. -/
import Derived.Test.YtcbcfajihbbdcaaDenD
namespace Go.Proofs.Ytcbcfajihbbdcaa
open Go.RowKit
set_option maxRecDepth 100000
set_option linter.unusedSimpArgs false
set_option maxHeartbeats 2000000
/-- What a tensor of two lengths is. -/
theorem may2 {t : Tn} (h : mayB t = true) (hl : t.dims.length = 2) : 1 ≤ t.dims.getD 0 0 ∧ t.dims.getD 0 0 ≤ 4096 ∧ 1 ≤ t.dims.getD 1 0 ∧ t.dims.getD 1 0 ≤ 4096 ∧ (t.data.length : Int) = t.dims.getD 0 0 * t.dims.getD 1 0 ∧ t.dims.getD 0 0 * t.dims.getD 1 0 ≤ 8192 ∧ -64 ≤ t.exp ∧ t.exp ≤ 64 := by
  obtain ⟨D, e, L⟩ := t
  simp only [mayB, Bool.and_eq_true, decide_eq_true_eq] at h
  obtain ⟨⟨⟨h1, h2⟩, h3⟩, _⟩ := h
  have h4 := (mayD_iff D).1 h1
  simp only at hl
  match D, hl with
  | [a, b], _ =>
    have ha := h4.2.1 a (by simp)
    have hb := h4.2.1 b (by simp)
    have hp := h4.2.2
    simp only [szD, h1, if_true] at h2
    have e1 : prodFrom 1 [a, b] = a * b := by simp [prodFrom]
    rw [e1] at hp h2
    simp only [expB, Bool.and_eq_true, decide_eq_true_eq] at h3
    exact ⟨ha.1, ha.2, hb.1, hb.2, h2, hp, h3.1, h3.2⟩
theorem may1 {t : Tn} (h : mayB t = true) (hl : t.dims.length = 1) : 1 ≤ t.dims.getD 0 0 ∧ t.dims.getD 0 0 ≤ 4096 ∧ (t.data.length : Int) = t.dims.getD 0 0 ∧ -64 ≤ t.exp ∧ t.exp ≤ 64 := by
  obtain ⟨D, e, L⟩ := t
  simp only [mayB, Bool.and_eq_true, decide_eq_true_eq] at h
  obtain ⟨⟨⟨h1, h2⟩, h3⟩, _⟩ := h
  have h4 := (mayD_iff D).1 h1
  simp only at hl
  match D, hl with
  | [a], _ =>
    have ha := h4.2.1 a (by simp)
    simp only [szD, h1, if_true] at h2
    have e1 : prodFrom 1 [a] = a := by simp [prodFrom]
    rw [e1] at h2
    simp only [expB, Bool.and_eq_true, decide_eq_true_eq] at h3
    exact ⟨ha.1, ha.2, h2, h3.1, h3.2⟩
def cnd2 (x w b : Tn) : Prop := x.dims.length = 2 ∧ w.dims.length = 2 ∧ b.dims.length = 1 ∧ x.dims.getD 1 0 = w.dims.getD 1 0 ∧ w.dims.getD 0 0 = b.dims.getD 0 0
instance (x w b : Tn) : Decidable (cnd2 x w b) := by unfold cnd2; exact inferInstance
def fwdErr (x w b : Tn) : Int := if (mayB x && mayB w && mayB b) = true then (if cnd2 x w b then roomF [.z (x.dims.getD 1 0), .l [x.dims.getD 0 0, w.dims.getD 0 0]] else 2) else 1
def outL (x w b : Tn) (j : Nat) : Int := dt (rowsR x) (rowsR w) (w.dims.getD 0 0).toNat j (x.dims.getD 1 0).toNat + alignI (b.data.getD (j % b.data.length) 0) b.exp (x.exp + w.exp)
def fwdRes (x w b : Tn) : Tn := ⟨[x.dims.getD 0 0, w.dims.getD 0 0], x.exp + w.exp, (List.range ((x.dims.getD 0 0).toNat * (w.dims.getD 0 0).toNat)).map (outL x w b)⟩
def fwdE (xa : List AV) : Int := match xa with
  | [.st [.l D1, .z e1, .l L1], .st [.l D2, .z e2, .l L2], .st [.l D3, .z e3, .l L3]] => fwdErr ⟨D1, e1, L1⟩ ⟨D2, e2, L2⟩ ⟨D3, e3, L3⟩
  | _ => 0
def fwdR (xa : List AV) : Tn := match xa with
  | [.st [.l D1, .z e1, .l L1], .st [.l D2, .z e2, .l L2], .st [.l D3, .z e3, .l L3]] => fwdRes ⟨D1, e1, L1⟩ ⟨D2, e2, L2⟩ ⟨D3, e3, L3⟩
  | _ => ⟨[], 0, []⟩
theorem room_zero {n : Int} {D : List Int} (h : roomF [.z n, .l D] = 0) : 0 ≤ n ∧ n ≤ 959 ∧ mayD D = true := by
  have e : roomF [.z n, .l D] = if decide (0 ≤ n ∧ n ≤ 959) = true then (if mayD D = true then 0 else 1) else 3 := rfl
  rw [e] at h
  by_cases h1 : decide (0 ≤ n ∧ n ≤ 959) = true
  · rw [if_pos h1] at h
    rw [decide_eq_true_eq] at h1
    by_cases h2 : mayD D = true
    · exact ⟨h1.1, h1.2, h2⟩
    · rw [if_neg h2] at h; exact absurd h (by decide)
  · rw [if_neg h1] at h; exact absurd h (by decide)
theorem rows_mulP {x w : Tn} (hx : mayB x = true) (hw : mayB w = true) (h1 : x.dims.length = 2) (h2 : w.dims.length = 2) (h3 : x.dims.getD 1 0 = w.dims.getD 1 0) (h4 : x.dims.getD 1 0 ≤ 959) : mulP (rowsR x) (rowsR w) (x.dims.getD 1 0) := by
  obtain ⟨a1, a2, a3, a4, a5, a6, _⟩ := may2 hx h1
  obtain ⟨b1, b2, b3, b4, b5, b6, _⟩ := may2 hw h2
  refine ⟨⟨?_, ?_⟩, ⟨?_, ?_⟩, ⟨?_, ?_⟩, ⟨?_, ?_⟩, ⟨?_, ?_⟩, ⟨?_, ?_⟩, ?_, h4, ?_⟩
  all_goals try simp only [rowsR]
  all_goals try omega
  intro i k z hi hi2 hk hk2 hz hz2
  rw [a5, b5]
  have e1 := Int.mul_le_mul_of_nonneg_right (show i + 1 ≤ x.dims.getD 0 0 by omega) (show 0 ≤ x.dims.getD 1 0 by omega)
  have e2 := Int.mul_le_mul_of_nonneg_right (show k + 1 ≤ w.dims.getD 0 0 by omega) (show 0 ≤ w.dims.getD 1 0 by omega)
  rw [Int.add_mul] at e1 e2
  omega
theorem dt_in {a b : Ln} (ha : Fits .i8 a.data) (hb : Fits .i8 b.data) (m j n : Nat) (hn : n ≤ 959) : -15712256 ≤ dt a b m j n ∧ dt a b m j n ≤ 15712256 := by
  have := sumTo_in _ 0 (prI_in ha hb ((j / m : Nat) : Int) ((j % m : Nat) : Int)) n
  unfold dt
  omega
theorem fwd_ok : CtrOk Try.prog 24 (resC [tnTy .i8, tnTy .i8, tnTy .i8] .i32 3 21 fwdE fwdR) := by
  refine fn_ok (ck := true) Try.func24 rfl tt_ok (G := [(48, boolC [.sl (tnTy .i8)] mayAllF), (49, intC [.int .i64, .sl (.int .i64)] .i64 roomF), (51, lnC two rowsR), (50, mulC mulP mulR), (52, intC [.int .i64, .int .i64, .int .i64] .i64 alF)])
    ⟨⟨may_ok, by unfold FnOk; kernel_rfl⟩, ⟨room_ok, by unfold FnOk; kernel_rfl⟩, ⟨rowsOf_ok, by unfold FnOk; kernel_rfl⟩, ⟨mul_ok, by unfold FnOk; kernel_rfl⟩, ⟨al_ok, by unfold FnOk; kernel_rfl⟩, trivial⟩ mixed (by kernel_rfl) ?_
  intro xa xs h hx hp
  obtain ⟨a1, as1, x1, xs1, rfl, rfl, h1, h⟩ := svArgs_cons h
  obtain ⟨a2, as2, x2, xs2, rfl, rfl, h2, h⟩ := svArgs_cons h
  obtain ⟨a3, as3, x3, xs3, rfl, rfl, h3, h⟩ := svArgs_cons h
  obtain ⟨rfl, rfl⟩ := svArgs_nil h
  obtain ⟨x, rfl, rfl⟩ := argSV_tn h1
  obtain ⟨w, rfl, rfl⟩ := argSV_tn h2
  obtain ⟨b, rfl, rfl⟩ := argSV_tn h3
  have sx := svf_tn (hx (x.sv .i8) (by simp))
  have sw := svf_tn (hx (w.sv .i8) (by simp))
  have sb := svf_tn (hx (b.sv .i8) (by simp))
  clear h1 h2 h3 h hx hp
  refine fwd_vc _ rfl x.dims x.data w.dims w.data b.dims b.data x.exp w.exp b.exp mayAllF roomF alF two rfl rowsR mulP mulR (fwdErr x w b) (fwdRes x w b) ((x.dims.getD 0 0).toNat * (w.dims.getD 0 0).toNat : Nat) ((x.dims.getD 0 0).toNat * (w.dims.getD 0 0).toNat) ci
    (fun c => mixL (fun j => dt (rowsR x) (rowsR w) (w.dims.getD 0 0).toNat j (x.dims.getD 1 0).toNat) (outL x w b) ((x.dims.getD 0 0).toNat * (w.dims.getD 0 0).toNat) c) (fun _ => rfl) rfl (by rw [mixL_all]; rfl) ?_ ?_ ?_ ?_
  · rw [mayAll_three]
    intro hm hc h0
    simp only [Bool.and_eq_true] at hm
    obtain ⟨⟨m1, m2⟩, m3⟩ := hm
    have m1 : mayB x = true := m1
    have m2 : mayB w = true := m2
    have m3 : mayB b = true := m3
    have hr : roomF [.z (x.dims.getD 1 0), .l [x.dims.getD 0 0, w.dims.getD 0 0]] = 0 := by
      unfold fwdErr at h0
      rw [if_pos (show (mayB x && mayB w && mayB b) = true by rw [show mayB x = true from m1, show mayB w = true from m2, show mayB b = true from m3]; rfl), if_pos (show cnd2 x w b from hc)] at h0
      exact h0
    obtain ⟨r1, r2, r3⟩ := room_zero hr
    obtain ⟨c1, c2, c3, c4, c5⟩ := hc
    obtain ⟨a1, a2, a3, a4, a5, a6, a7, a8⟩ := may2 m1 c1
    obtain ⟨b1, b2, b3, b4, b5, b6, b7, b8⟩ := may2 m2 c2
    obtain ⟨d1, d2, d3, d4, d5⟩ := may1 m3 c3
    have hnm : (x.dims.getD 0 0).toNat * (w.dims.getD 0 0).toNat ≤ 4096 * 4096 := Nat.mul_le_mul (by omega) (by omega)
    refine ⟨rows_mulP m1 m2 c1 c2 c4 r2, by omega, ?_, ?_, fun c => mixL_len _ _ _ _, by omega, by omega, ?_⟩
    · show ((mulR (rowsR x) (rowsR w) _).length : Int) = _
      simp [mulR, mulL, rowsR]
    · rw [mixL_none]; rfl
    · intro c hc
      rw [mixL_get _ _ hc, if_neg (Nat.lt_irrefl _)]
      have g1 := fits8 sb.2.2.1 (c % b.data.length)
      have g2 := alignS _ b.exp (x.exp + w.exp) g1
      have g3 := dt_in (a := rowsR x) (b := rowsR w) sx.2.2.1 sw.2.2.1 (w.dims.getD 0 0).toNat c (x.dims.getD 1 0).toNat (by omega)
      have e : alF [.z (b.data.getD (c % b.data.length) 0), .z b.exp, .z (x.exp + w.exp)] = alignI (b.data.getD (c % b.data.length) 0) b.exp (x.exp + w.exp) := rfl
      rw [e, w32 (by omega) (by omega)]
      refine ⟨⟨by omega, by omega⟩, ?_⟩
      exact mixL_set _ _ hc
  · rw [mayAll_three]
    intro hm
    unfold fwdErr
    rw [if_neg (show ¬ (mayB x && mayB w && mayB b) = true by rw [show (mayB x && mayB w && mayB b) = false from hm]; decide)]
  · rw [mayAll_three]
    intro hm hc
    unfold fwdErr
    rw [if_pos (show (mayB x && mayB w && mayB b) = true from hm), if_neg (show ¬ cnd2 x w b from hc)]
  · rw [mayAll_three]
    intro hm hc
    unfold fwdErr
    rw [if_pos (show (mayB x && mayB w && mayB b) = true from hm), if_pos (show cnd2 x w b from hc)]
end Go.Proofs.Ytcbcfajihbbdcaa
