/- Sums: may they be; how wide; alike; noughts. -/
import Derived.Test.YtekokhlldcmjfaaTensor
import Derived.Test.YtekokhlldcmjfaaSlices
import Derived.Test.YtekokhlldcmjfaaRound
namespace Go.Proofs.Ytekokhlldcmjfaa
open Go.RowKit
set_option maxHeartbeats 1000000
def mayAccB (t : Tn) : Bool := mayD t.dims && decide ((t.data.length : Int) = szD t.dims) && expB t.exp 128
theorem mayAcc_any (v : Value) (t : Tn) (w : World) (h : RT .i32 w v t) :
    Calls Try.prog 103 #[v] w fun r w' => r = .returned (.bool (mayAccB t)) ∧ Below w.heap.size w w' := by
  obtain ⟨d, a, rfl, hd, ha, hw⟩ := h
  obtain ⟨D, e, A⟩ := t
  simp only at hd ha hw ⊢
  obtain ⟨ao, cap, hav, _⟩ := ha.1
  rw [kv_len] at hav
  obtain ⟨n, hn⟩ : ∃ n, A.length = n := ⟨_, rfl⟩
  rw [hn] at hav
  subst hav
  have hb : Below w.heap.size w (w.alloc (.cells #[d, .int .i64 e, .slice ao n cap] 30)) := (Below.refl _ _).alloc (Nat.le_refl _) _
  have HD := Lib.hid (hd.below hb)
  have HB := Lib.hid hb
  obtain ⟨z, hz⟩ : ∃ z, szD D = z := ⟨_, rfl⟩
  unfold mayAccB
  simp only [hz, hn]
  have HZ := Lib.hid hz
  clear hd hb ha hz hn
  by_cases h1 : mayD D = true
  · have H1 := Lib.hid h1
    rw [h1]
    clear h1
    by_cases h2 : (n : Int) = z
    · have h2' : ((n : Int) == z) = true := beq_iff_eq.2 h2
      rw [decide_eq_true h2]
      clear h2
      obtain ⟨b, h3⟩ : ∃ b, expB e 128 = b := ⟨_, rfl⟩
      have H3 := Lib.hid h3
      rw [h3]
      clear h3
      go_enter Try.func103, Try.ntmps103
      go_wp2_with fail
      go_quiet ((first | (go_at_call 129; exact may_q HD.out H1.out _) | (go_at_call 130; exact size_q HD.out HZ.out _) | (go_at_call 108; exact mayExp_q _ (by decide) (by decide) H3.out _)))
      go_wp2
      go_ret
      exact ⟨ret_bool (by simp), below_drewN' HB.out _⟩
    · have h2' : ((n : Int) == z) = false := beq_eq_false_iff_ne.2 h2
      rw [decide_eq_false h2]
      clear h2
      go_enter Try.func103, Try.ntmps103
      go_wp2_with fail
      go_quiet ((first | (go_at_call 129; exact may_q HD.out H1.out _) | (go_at_call 130; exact size_q HD.out HZ.out _)))
      go_wp2
      go_ret
      exact ⟨ret_bool (by simp), below_drewN' HB.out _⟩
  · have h1 : mayD D = false := by simpa using h1
    have H1 := Lib.hid h1
    rw [h1]
    clear h1
    go_enter Try.func103, Try.ntmps103
    go_wp2_with fail
    go_quiet ((go_at_call 129; exact may_q HD.out H1.out _))
    go_wp2
    go_ret
    exact ⟨ret_bool (by simp), below_drewN' HB.out _⟩
/-- How many bits the greatest has. -/
def widthL (l : List Int) : Int := l.foldl (fun a x => max a (bitsI x)) 0
def widthB (t : Tn) : Int := if mayAccB t then widthL t.data else 0
theorem bitsI_in (x : Int) : 0 ≤ bitsI x ∧ bitsI x ≤ 63 := by
  unfold bitsI
  have h := numb_in x
  refine ⟨by omega, ?_⟩
  have : Lib.bitLen (numb x).natAbs ≤ 63 := by
    exact Lib.bitLen_le _ 63 (by omega) (by omega)
  omega
theorem widthFrom_in (l : List Int) : ∀ a, 0 ≤ a → a ≤ 63 → 0 ≤ l.foldl (fun a x => max a (bitsI x)) a ∧ l.foldl (fun a x => max a (bitsI x)) a ≤ 63 := by
  induction l with
  | nil => intro a h0 h1; exact ⟨h0, h1⟩
  | cons x l ih => intro a h0 h1; have := bitsI_in x; rw [List.foldl_cons]; exact ih (max a (bitsI x)) (by omega) (by omega)
theorem width_any (v : Value) (t : Tn) (w : World) (h : RT .i32 w v t) :
    Calls Try.prog 107 #[v] w fun r w' => r = .returned (.int .i64 (widthB t)) ∧ Below w.heap.size w w' := by
  have HRT := Lib.hid h
  obtain ⟨d, a, rfl, hd, ha, hw⟩ := h
  obtain ⟨D, e, A⟩ := t
  simp only at hd ha hw HRT ⊢
  have HA := Lib.hid ha
  obtain ⟨ao, cap, hav, hcap, hcm, hh⟩ := ha.1
  rw [kv_len] at hav hcap
  have hm := ha.2.2
  unfold maxLen at hm hcm
  obtain ⟨n, hn⟩ : ∃ n, A.length = n := ⟨_, rfl⟩
  rw [hn] at hav hcap hm
  subst hav
  obtain ⟨wb, hwb⟩ : ∃ wb, wb = w.alloc (.cells #[d, .int .i64 e, .slice ao n cap] 30) := ⟨_, rfl⟩
  have hb : Below w.heap.size w wb := by rw [hwb]; exact (Below.refl _ _).alloc (Nat.le_refl _) _
  have HB := Lib.hid hb
  have HRB : Hid (RT .i32 wb (.agg #[d, .int .i64 e, .slice ao n cap]) ⟨D, e, A⟩) := Lib.hid ⟨d, _, rfl, hd.below hb, ha.below hb, hw⟩
  have HN := Lib.hid hn
  have HH := Lib.hid hh
  have HWB := Lib.hid hwb
  unfold widthB
  clear hd ha hb hn hh hwb
  by_cases h1 : mayAccB ⟨D, e, A⟩ = true
  · rw [if_pos h1]
    have H1 := Lib.hid h1
    clear h1
    obtain ⟨R, hR⟩ : ∃ R, widthL A = R := ⟨_, rfl⟩
    have HR := Lib.hid hR
    simp only [hR]
    clear hR
    go_enter Try.func107, Try.ntmps107
    go_wp2_with fail
    rw [← HWB.out]
    refine (mayAcc_any _ _ _ HRB.out).mono ?_
    rintro e1 w1 ⟨rfl, hb1⟩
    rw [H1.out]
    have hc : w1.cell? ⟨w.heap.size, 0, none⟩ = some d ∧ w1.cell? ⟨w.heap.size, 1, none⟩ = some (.int .i64 e) ∧ w1.cell? ⟨w.heap.size, 2, none⟩ = some (.slice ao n cap) := by
      have hs : w.heap.size < wb.heap.size := by rw [HWB.out]; simp
      refine ⟨(hb1.cell (p := ⟨w.heap.size, 0, none⟩) hs).trans ?_, (hb1.cell (p := ⟨w.heap.size, 1, none⟩) hs).trans ?_, (hb1.cell (p := ⟨w.heap.size, 2, none⟩) hs).trans ?_⟩ <;>
        (rw [HWB.out, World.cell?_alloc_at _ _ _ _ rfl]; rfl)
    obtain ⟨c0, c1, c2⟩ := hc
    have HB1 := Lib.hid (HB.out.trans (hb1.mono HB.out.size))
    clear hb1
    go_wp2
    go_loop [3, 12] (fun s c => ∃ (k : Nat) (z : Int), c = .int .i64 k ∧ s = .int .i64 z ∧ k ≤ n ∧ 0 ≤ z ∧ z ≤ 63 ∧ (A.drop k).foldl (fun a x => max a (bitsI x)) z = R) (fun _ c => n - (intOf c).toNat)
    case atStart => exact ⟨0, 0, rfl, rfl, by omega, by omega, by omega, HR.out⟩
    case round =>
      obtain ⟨k, z, rfl, rfl, hk, hz0, hz1, hS⟩ := hrel
      have HS := Lib.hid hS
      clear hS
      by_cases hlt : k < n
      · have e1 := kv_getD .i32 A k (by rw [HN.out]; omega)
        rcases HH.out with h | ⟨b1, o1, rfl, h⟩
        · simp [h] at e1
        have g0 := h k _ e1
        have g1 := (HB1.out.cell (p := ⟨b1, o1 + k, none⟩) (World.block_lt_of_cell? w _ g0)).trans g0
        have hdr := drop_getD A k (by rw [HN.out]; omega)
        obtain ⟨x, hx⟩ : ∃ x, A.getD k 0 = x := ⟨_, rfl⟩
        have hxb := HA.out.2.1.i32 k
        rw [hx] at g1 hdr hxb
        obtain ⟨q, hq⟩ : ∃ q, bitsI x = q := ⟨_, rfl⟩
        have HN2 : Hid ((A.drop (k + 1)).foldl (fun a x => max a (bitsI x)) (max z q) = R) := Lib.hid (by have := HS.out; rw [hdr, List.foldl_cons, hq] at this; exact this)
        have hq2 := bitsI_in x
        rw [hq] at hq2
        have HQ := Lib.hid hq
        clear e1 h g0 hdr hx hq
        go_wp2_with (go_at_call 133; refine (bits_any _ _).mono ?_; rintro e w' ⟨rfl, rfl⟩; rw [HQ.out])
        go_round
        case rel => exact ⟨k + 1, max z q, by go_num, rfl, by omega, by omega, by omega, HN2.out⟩
        case measure => simp [intOf]; omega
      · have hkn : k = n := by omega
        subst hkn
        go_wp2
        go_ret
        exact ⟨ret_int (by have := HS.out; rw [← HN.out, List.drop_length] at this; exact this), HB1.out⟩
  · rw [if_neg h1]
    have h1 : mayAccB ⟨D, e, A⟩ = false := by simpa using h1
    have H1 := Lib.hid h1
    clear h1
    go_enter Try.func107, Try.ntmps107
    go_wp2_with fail
    rw [← HWB.out]
    refine (mayAcc_any _ _ _ HRB.out).mono ?_
    rintro e1 w1 ⟨rfl, hb1⟩
    rw [H1.out]
    go_wp2
    go_ret
    exact ⟨rfl, HB.out.trans (hb1.mono HB.out.size)⟩
end Go.Proofs.Ytekokhlldcmjfaa
