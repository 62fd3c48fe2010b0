/- Layer 10's counterpart: what is asked; there. -/
import Derived.Test.YtcbcfajihbbdcaaDenF
import Derived.Test.YtcbcfajihbbdcaaRef
namespace Go.Proofs.Ytcbcfajihbbdcaa
open Go.RowKit
set_option maxRecDepth 100000
set_option linter.unusedSimpArgs false
set_option linter.unusedVariables false
set_option maxHeartbeats 4000000
theorem rfits_ok : CtrOk Try.prog 34 (boolC [.int .i64] fitsF) := by
  obtain ⟨G, hG⟩ : ∃ G : List (FuncId × Ctr), G = [] := ⟨_, rfl⟩
  refine fn_ok (ck := true) Try.func34 rfl tt_ok (G := G) (by rw [hG]; exact trivial) mixed (by kernel_rfl) ?_
  intro xa xs h hx hp
  obtain ⟨a0, as0, x0, xs0, rfl, rfl, h0, H1⟩ := svArgs_cons h
  obtain ⟨rfl, rfl⟩ := svArgs_nil H1
  obtain ⟨n, rfl, rfl⟩ := argSV_int h0
  have sn := of_i64 (hx (.v (.int .i64 n)) (by simp))
  have SN := Lib.hid sn
  clear sn
  clear hx hp h h0 H1
  generalize hA : std = A
  subst hG
  generalize h_c : ci = c
  generalize h_fR : fitsF = fR
  cbv
  (repeat' (first | apply And.intro | apply BrB.mk | apply BrP.mk | intro _))
  (all_goals (subst hA; subst h_c; subst h_fR); all_goals (have f_sn := SN.out); all_goals (try simp only [std, stdBin, stdCmp, stdUna, stdIn, ci, beq_iff_eq, bne_iff_ne, beq_eq_false_iff_ne, bne_eq_false_iff_eq, decide_eq_true_eq, decide_eq_false_iff_not, Bool.not_true, Bool.not_false, Bool.not_eq_true', Bool.not_eq_false', Bool.not_not, tn0, tn1, tn2, tn3] at *); all_goals (try omega))
  all_goals (try rw [show n * 1 * 2 ^ Int.toNat 14 = n * 16384 from by rw [Int.mul_one]; rfl])
  all_goals (try omega)
  all_goals (refine vb ?_; simp only [fitsF])
  · exact decide_eq_decide.2 (by omega)
  · exact decide_eq_false (by omega)
  · exact decide_eq_false (by omega)
def cnd3 (x w b : Tn) : Prop := (x.dims.length : Int) = 2 ∧ (w.dims.length : Int) = 2 ∧ (b.dims.length : Int) = 1 ∧ x.dims.getD 1 0 = w.dims.getD 1 0 ∧ b.dims.getD 0 0 = w.dims.getD 0 0
theorem cnd3_iff (x w b : Tn) : cnd2 x w b ↔ cnd3 x w b := by
  unfold cnd2 cnd3
  constructor
  · rintro ⟨h1, h2, h3, h4, h5⟩; exact ⟨by omega, by omega, by omega, h4, h5.symm⟩
  · rintro ⟨h1, h2, h3, h4, h5⟩; exact ⟨by omega, by omega, by omega, h4, h5.symm⟩
theorem fwdErr_eq (x w b : Tn) : fwdErr x w b = if (mayB x && mayB w && mayB b) = true then (if (x.dims.length : Int) = 2 ∧ (w.dims.length : Int) = 2 ∧ (b.dims.length : Int) = 1 ∧ x.dims.getD 1 0 = w.dims.getD 1 0 ∧ b.dims.getD 0 0 = w.dims.getD 0 0 then (if fitsF [.z (x.dims.getD 1 0)] = true then (if mayD [x.dims.getD 0 0, w.dims.getD 0 0] = true then 0 else 1) else 3) else 2) else 1 := by
  unfold fwdErr
  simp only [cnd3_iff, cnd3]
  rfl
theorem exps3 {x w b : Tn} (h : (mayB x && mayB w && mayB b) = true) : (-64 ≤ x.exp ∧ x.exp ≤ 64) ∧ (-64 ≤ w.exp ∧ w.exp ≤ 64) ∧ (-64 ≤ b.exp ∧ b.exp ≤ 64) := by
  simp only [Bool.and_eq_true] at h
  exact ⟨may_exp h.1.1, may_exp h.1.2, may_exp h.2⟩
theorem fits_le {k : Int} (h : fitsF [.z k] = true) : 0 ≤ k ∧ k ≤ 959 := of_decide_eq_true h
theorem mat_nat {t : Tn} (h : mayB t = true) (hl : (t.dims.length : Int) = 2) : ∃ n k : Nat, t.dims.getD 0 0 = (n : Int) ∧ t.dims.getD 1 0 = (k : Int) ∧ 1 ≤ n ∧ n ≤ 4096 ∧ 1 ≤ k ∧ k ≤ 4096 ∧ t.data.length = n * k ∧ n * k ≤ 8192 := by
  obtain ⟨a1, a2, a3, a4, a5, a6, _⟩ := may2 h (by omega)
  refine ⟨(t.dims.getD 0 0).toNat, (t.dims.getD 1 0).toNat, by omega, by omega, by omega, by omega, by omega, by omega, ?_, ?_⟩
  · have e : ((t.data.length : Nat) : Int) = (((t.dims.getD 0 0).toNat * (t.dims.getD 1 0).toNat : Nat) : Int) := by
      rw [Int.natCast_mul, Int.toNat_of_nonneg (by omega), Int.toNat_of_nonneg (by omega)]
      exact a5
    exact Int.ofNat.inj e
  · have e : (((t.dims.getD 0 0).toNat * (t.dims.getD 1 0).toNat : Nat) : Int) ≤ 8192 := by
      rw [Int.natCast_mul, Int.toNat_of_nonneg (by omega), Int.toNat_of_nonneg (by omega)]
      exact a6
    omega
theorem mayD2_sz {a b : Nat} (h : mayD [(a : Int), (b : Int)] = true) : szD [(a : Int), (b : Int)] = ((a * b : Nat) : Int) ∧ a * b ≤ 8192 := by
  have h1 := ((mayD_iff _).1 h).2.2
  have e : prodFrom 1 [(a : Int), (b : Int)] = ((a * b : Nat) : Int) := by simp [prodFrom]
  rw [e] at h1
  refine ⟨?_, by omega⟩
  unfold szD
  rw [if_pos h, e]
theorem prI_nat (a b : Ln) (i o j n1 n2 s1 s2 : Nat) (e1 : a.next = n1) (e2 : b.next = n2) (e3 : a.step = s1) (e4 : b.step = s2) : prI a b (i : Int) (o : Int) (0 + (j : Int)) = a.data.getD (i * n1 + j * s1) 0 * b.data.getD (o * n2 + j * s2) 0 := by
  unfold prI
  rw [e1, e2, e3, e4, Int.zero_add, ← Int.natCast_mul, ← Int.natCast_mul, ← Int.natCast_add, ← Int.natCast_mul, ← Int.natCast_mul, ← Int.natCast_add, Int.toNat_natCast, Int.toNat_natCast]
theorem fwd_main {x w b : Tn} (hm : (mayB x && mayB w && mayB b) = true) (h1 : (x.dims.length : Int) = 2) (h2 : (w.dims.length : Int) = 2) (h3 : (b.dims.length : Int) = 1) (h4 : x.dims.getD 1 0 = w.dims.getD 1 0) (h5 : b.dims.getD 0 0 = w.dims.getD 0 0) (h6 : fitsF [.z (x.dims.getD 1 0)] = true) (h7 : mayD [x.dims.getD 0 0, w.dims.getD 0 0] = true) :
    ∃ n k m : Nat, x.dims.getD 0 0 = n ∧ x.dims.getD 1 0 = k ∧ w.dims.getD 0 0 = m ∧ w.dims.getD 1 0 = k ∧ b.dims.getD 0 0 = m ∧ (1 ≤ n ∧ n ≤ 4096) ∧ (1 ≤ k ∧ k ≤ 959) ∧ (1 ≤ m ∧ m ≤ 4096) ∧ x.data.length = n * k ∧ w.data.length = m * k ∧ b.data.length = m ∧ n * m ≤ 8192 ∧ szD [(n : Int), (m : Int)] = ((n * m : Nat) : Int) ∧ ((-64 ≤ x.exp ∧ x.exp ≤ 64) ∧ (-64 ≤ w.exp ∧ w.exp ≤ 64) ∧ (-64 ≤ b.exp ∧ b.exp ≤ 64)) := by
  have he := exps3 hm
  simp only [Bool.and_eq_true] at hm
  obtain ⟨⟨m1, m2⟩, m3⟩ := hm
  obtain ⟨n, k, a1, a2, a3, a4, a5, a6, a7, a8⟩ := mat_nat m1 h1
  obtain ⟨m, k', b1, b2, b3, b4, b5, b6, b7, b8⟩ := mat_nat m2 h2
  obtain ⟨d1, d2, d3, d4, d5⟩ := may1 m3 (by omega)
  have hk : k = k' := by rw [a2, b2] at h4; omega
  subst hk
  have h8 := fits_le h6
  rw [a1, b1] at h7
  obtain ⟨s1, s2⟩ := mayD2_sz h7
  exact ⟨n, k, m, a1, a2, b1, b2, by rw [h5, b1], ⟨a3, a4⟩, ⟨a5, by omega⟩, ⟨b3, b4⟩, a7, b7, by omega, s2, s1, he⟩
/-- What of a place comes there. -/
theorem outL_at {xD xL wD wL bD bL : List Int} {xE wE bE : Int} {n k m : Nat} (e1 : xD.getD 1 0 = k) (e2 : wD.getD 0 0 = m) (e3 : bL.length = m) (e4 : wD.getD 1 0 = k) {i o : Nat} (ho : o < m) : outL ⟨xD, xE, xL⟩ ⟨wD, wE, wL⟩ ⟨bD, bE, bL⟩ (i * m + o) = alignI (bL.getD o 0) bE (xE + wE) + sumTo (prI (rowsR ⟨xD, xE, xL⟩) (rowsR ⟨wD, wE, wL⟩) (i : Int) (o : Int)) 0 k := by
  obtain ⟨q1, q2⟩ := idx_div (i := i) ho
  unfold outL dt
  simp only [e1, e2, e3, Int.toNat_natCast, q1, q2]
  rw [Int.add_comm]
end Go.Proofs.Ytcbcfajihbbdcaa
