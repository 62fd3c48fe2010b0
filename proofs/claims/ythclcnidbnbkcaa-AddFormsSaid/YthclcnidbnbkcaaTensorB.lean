/- Sums: may they be; how wide; alike; noughts. -/
import Derived.Test.YthclcnidbnbkcaaTensor
import Derived.Test.YthclcnidbnbkcaaSlices
import Derived.Test.YthclcnidbnbkcaaRound
namespace Go.Proofs.Ythclcnidbnbkcaa
open Go.RowKit
set_option maxHeartbeats 1000000
def mayAccB (t : Tn) : Bool := mayD t.dims && decide ((t.data.length : Int) = szD t.dims) && expB t.exp 128
theorem mayAcc_any (v : Value) (t : Tn) (w : World) (h : RT .i32 w v t) :
    Calls Try.prog 53 #[v] w fun r w' => r = .returned (.bool (mayAccB t)) ∧ Below w.heap.size w w' := by
  obtain ⟨d, a, rfl, hd, ha, hw⟩ := h
  obtain ⟨D, e, A⟩ := t
  simp only at hd ha hw ⊢
  obtain ⟨ao, cap, hav, _⟩ := ha.1
  rw [kv_len] at hav
  obtain ⟨n, hn⟩ : ∃ n, A.length = n := ⟨_, rfl⟩
  rw [hn] at hav
  subst hav
  have hb : Below w.heap.size w (w.alloc (.cells #[d, .int .i64 e, .slice ao n cap] 40)) := (Below.refl _ _).alloc (Nat.le_refl _) _
  have HD := Lib.hid (hd.below hb)
  have HB := Lib.hid hb
  obtain ⟨z, hz⟩ : ∃ z, szD D = z := ⟨_, rfl⟩
  unfold mayAccB
  simp only [hz, hn]
  have HZ := Lib.hid hz
  clear hd hb ha hz hn
  by_cases h1 : mayD D = true
  · have H1 := Lib.hid h1
    rw [h1]
    clear h1
    by_cases h2 : (n : Int) = z
    · have h2' : ((n : Int) == z) = true := beq_iff_eq.2 h2
      rw [decide_eq_true h2]
      clear h2
      obtain ⟨b, h3⟩ : ∃ b, expB e 128 = b := ⟨_, rfl⟩
      have H3 := Lib.hid h3
      rw [h3]
      clear h3
      go_enter Try.func53, Try.ntmps53
      go_wp2_with fail
      go_quiet ((first | (go_at_call 35; exact may_q HD.out H1.out _) | (go_at_call 36; exact size_q HD.out HZ.out _) | (go_at_call 45; exact mayExp_q _ (by decide) (by decide) H3.out _)))
      go_wp2
      go_ret
      exact ⟨ret_bool (by simp), below_drewN' HB.out _⟩
    · have h2' : ((n : Int) == z) = false := beq_eq_false_iff_ne.2 h2
      rw [decide_eq_false h2]
      clear h2
      go_enter Try.func53, Try.ntmps53
      go_wp2_with fail
      go_quiet ((first | (go_at_call 35; exact may_q HD.out H1.out _) | (go_at_call 36; exact size_q HD.out HZ.out _)))
      go_wp2
      go_ret
      exact ⟨ret_bool (by simp), below_drewN' HB.out _⟩
  · have h1 : mayD D = false := by simpa using h1
    have H1 := Lib.hid h1
    rw [h1]
    clear h1
    go_enter Try.func53, Try.ntmps53
    go_wp2_with fail
    go_quiet ((go_at_call 35; exact may_q HD.out H1.out _))
    go_wp2
    go_ret
    exact ⟨ret_bool (by simp), below_drewN' HB.out _⟩
/-- How many bits the greatest has. -/
def widthL (l : List Int) : Int := l.foldl (fun a x => max a (bitsI x)) 0
def widthB (t : Tn) : Int := if mayAccB t then widthL t.data else 0
theorem bitsI_in (x : Int) : 0 ≤ bitsI x ∧ bitsI x ≤ 63 := by
  unfold bitsI
  have h := numb_in x
  refine ⟨by omega, ?_⟩
  have : Lib.bitLen (numb x).natAbs ≤ 63 := by
    exact Lib.bitLen_le _ 63 (by omega) (by omega)
  omega
theorem widthFrom_in (l : List Int) : ∀ a, 0 ≤ a → a ≤ 63 → 0 ≤ l.foldl (fun a x => max a (bitsI x)) a ∧ l.foldl (fun a x => max a (bitsI x)) a ≤ 63 := by
  induction l with
  | nil => intro a h0 h1; exact ⟨h0, h1⟩
  | cons x l ih => intro a h0 h1; have := bitsI_in x; rw [List.foldl_cons]; exact ih (max a (bitsI x)) (by omega) (by omega)
end Go.Proofs.Ythclcnidbnbkcaa
