/- The laws of prng over numbers alone: PrngForms, PrngParts, PrngBelow, PrngUnlike. -/
import Derived.Test.YtofoilmepddmaaaPrng
namespace Go.Proofs.Ytofoilmepddmaaa
open Go.RowKit
set_option maxHeartbeats 400000
theorem prngParts_any (a b c : BitVec 64) (w : World) :
    Calls Try.prog 8 #[u64 a, u64 b, u64 c] w fun e w' => e = .returned (.bool true) ∧ w = w' := by
  go_enter Try.func8, Try.ntmps8
  go_wp2_with (first | (go_at_call 15; (try rw [bv_xor]); refine (mix_any _ _).mono ?_; rintro e w' ⟨rfl, rfl⟩) | (go_at_call 17; refine (at_any _ _ _ _).mono ?_; rintro e w' ⟨rfl, rfl⟩; unfold atB) | (go_at_call 21; refine (awake1_any _).mono ?_; rintro e w' ⟨rfl, rfl⟩))
  go_ret
  exact ⟨rfl, rfl⟩
theorem prngForms_any (x a b c : BitVec 64) (n : Int) (w : World) :
    Calls Try.prog 3 #[u64 x, u64 a, u64 b, u64 c, .int .i64 n] w fun e w' => e = .returned (.bool true) ∧ w = w' := by
  go_enter Try.func3, Try.ntmps3
  go_wp2_with (first | (go_at_call 15; refine (mix_any _ _).mono ?_; rintro e w' ⟨rfl, rfl⟩) | (go_at_call 16; refine (rmix_any _ _).mono ?_; rintro e w' ⟨rfl, rfl⟩) | (go_at_call 17; refine (at_any _ _ _ _).mono ?_; rintro e w' ⟨rfl, rfl⟩) | (go_at_call 18; refine (rat_any _ _ _ _).mono ?_; rintro e w' ⟨rfl, rfl⟩) | (go_at_call 19; refine (below_any _ _ _ _ _).mono ?_; rintro e w' ⟨rfl, rfl⟩) | (go_at_call 20; refine (rbelow_any _ _ _ _ _).mono ?_; rintro e w' ⟨rfl, rfl⟩) | (go_at_call 21; refine (awake1_any _).mono ?_; rintro e w' ⟨rfl, rfl⟩))
  go_ret
  exact ⟨rfl, rfl⟩
theorem belowB_out (a b c : BitVec 64) (n : Int) (h : n < 1 ∨ 2147483648 < n) : belowB a b c n = 0 := by unfold belowB; rw [if_pos h]
theorem prngBelow_any (a b c : BitVec 64) (n : Int) (w : World) :
    Calls Try.prog 7 #[u64 a, u64 b, u64 c, .int .i64 n] w fun e w' => e = .returned (.bool true) ∧ w = w' := by
  by_cases h : n < 1 ∨ 2147483648 < n
  · have hb : (belowB a b c n == 0) = true := by rw [belowB_out a b c n h]; rfl
    rcases h with h | h
    · go_enter Try.func7, Try.ntmps7
      go_wp2_with (first | (go_at_call 19; refine (below_any _ _ _ _ _).mono ?_; rintro e w' ⟨rfl, rfl⟩) | (go_at_call 21; refine (awake1_any _).mono ?_; rintro e w' ⟨rfl, rfl⟩))
      go_ret
      exact ⟨rfl, rfl⟩
    · have h1 : ¬ n < 1 := by omega
      go_enter Try.func7, Try.ntmps7
      go_wp2_with (first | (go_at_call 19; refine (below_any _ _ _ _ _).mono ?_; rintro e w' ⟨rfl, rfl⟩) | (go_at_call 21; refine (awake1_any _).mono ?_; rintro e w' ⟨rfl, rfl⟩))
      go_ret
      exact ⟨rfl, rfl⟩
  · have h1 : 1 ≤ n := by omega
    have h2 : n ≤ 2147483648 := by omega
    have hb := belowB_lo a b c n h1 h2
    have hc : (belowB a b c 1 == 0) = true := by have := belowB_lo a b c 1 (by omega) (by omega); rw [beq_iff_eq]; omega
    clear h
    go_enter Try.func7, Try.ntmps7
    go_wp2_with (first | (go_at_call 19; refine (below_any _ _ _ _ _).mono ?_; rintro e w' ⟨rfl, rfl⟩) | (go_at_call 21; refine (awake1_any _).mono ?_; rintro e w' ⟨rfl, rfl⟩))
    go_ret
    exact ⟨rfl, rfl⟩
theorem prngUnlike_any (a b c : BitVec 64) (w : World) :
    Calls Try.prog 6 #[u64 a, u64 b, u64 c] w fun e w' => e = .returned (.bool true) ∧ w = w' := by
  by_cases h : a = b
  · subst h
    go_enter Try.func6, Try.ntmps6
    go_wp2_with (first | (go_at_call 15; refine (mix_any _ _).mono ?_; rintro e w' ⟨rfl, rfl⟩) | (go_at_call 17; refine (at_any _ _ _ _).mono ?_; rintro e w' ⟨rfl, rfl⟩) | (go_at_call 21; refine (awake1_any _).mono ?_; rintro e w' ⟨rfl, rfl⟩))
    go_ret
    exact ⟨rfl, rfl⟩
  · have e0 : (N a == N b) = false := by rw [N_beq]; exact beq_eq_false_iff_ne.2 h
    have e1 : (N (mix a) == N (mix b)) = false := by rw [N_beq]; exact beq_eq_false_iff_ne.2 (fun e => h ((mix_iff _ _).1 e))
    have e2 : (N (atB a c c) == N (atB b c c)) = false := by rw [N_beq]; exact beq_eq_false_iff_ne.2 (fun e => h ((at1_iff _ _ _ _).1 e))
    have e3 : (N (atB c a c) == N (atB c b c)) = false := by rw [N_beq]; exact beq_eq_false_iff_ne.2 (fun e => h ((at2_iff _ _ _ _).1 e))
    have e4 : (N (atB c c a) == N (atB c c b)) = false := by rw [N_beq]; exact beq_eq_false_iff_ne.2 (fun e => h ((at3_iff _ _ _ _).1 e))
    clear h
    go_enter Try.func6, Try.ntmps6
    go_wp2_with (first | (go_at_call 15; refine (mix_any _ _).mono ?_; rintro e w' ⟨rfl, rfl⟩) | (go_at_call 17; refine (at_any _ _ _ _).mono ?_; rintro e w' ⟨rfl, rfl⟩) | (go_at_call 21; refine (awake1_any _).mono ?_; rintro e w' ⟨rfl, rfl⟩))
    go_ret
    exact ⟨rfl, rfl⟩
/-- The lowest bits of a number of 64 bits. -/
theorem bv_low (x : BitVec 64) (j : Nat) (hj : j ≤ 63) : bits .and .u64 (N x) ((2 : Int) ^ j - 1) = N x % 2 ^ j := by
  have hp : 0 < 2 ^ j := Nat.two_pow_pos j
  have hq : 2 ^ j ≤ 2 ^ 63 := Nat.pow_le_pow_right (by omega) hj
  have e : ((2 : Int) ^ j - 1) = ((2 ^ j - 1 : Nat) : Int) := by
    have : (((2 ^ j : Nat)) : Int) = (2 : Int) ^ j := by norm_cast
    omega
  rw [e]
  unfold N
  rw [u64_and_nat _ _ x.isLt (by omega), Nat.and_two_pow_sub_one_eq_mod]
  norm_cast
theorem two_pow_lt (j k : Nat) (hj : j < k) : (1 : Int) ≤ 2 ^ j ∧ (2 : Int) * 2 ^ j ≤ 2 ^ k := by
  have hp : 0 < 2 ^ j := Nat.two_pow_pos j
  have hq : 2 ^ (j + 1) ≤ 2 ^ k := Nat.pow_le_pow_right (by omega) hj
  have e1 : (((2 ^ j : Nat)) : Int) = (2 : Int) ^ j := by norm_cast
  have e2 : (((2 ^ k : Nat)) : Int) = (2 : Int) ^ k := by norm_cast
  rw [Nat.pow_succ] at hq
  omega
theorem belowB_pow (a b c : BitVec 64) (j : Nat) (hj : j < 32) : belowB a b c ((2 : Int) ^ j) = N (atB a b c) % 2 ^ j := by
  have h := two_pow_lt j 32 hj
  have e32 : (2 : Int) ^ 32 = 4294967296 := rfl
  have hz : (18446744073709551616 : Int) % 2 ^ j = 0 := by
    have : (18446744073709551616 : Int) = 2 ^ j * 2 ^ (64 - j) := by
      rw [← Int.pow_add, show j + (64 - j) = 64 from by omega]; rfl
    rw [this]; exact Int.mul_emod_right _ _
  unfold belowB
  rw [if_neg (by omega), hz, pick, if_pos (N_lo _)]
theorem powers_eq (a b c : BitVec 64) (j : Nat) (hj : j < 32) :
    (IntKind.u64.wrap (belowB a b c (wrap64 (2 ^ j))) == bits .and .u64 (N (atB a b c)) (IntKind.u64.wrap (IntKind.u64.wrap (2 ^ j) - 1))) = true := by
  have h := two_pow_lt j 32 hj
  have e32 : (2 : Int) ^ 32 = 4294967296 := rfl
  have h1 := Int.emod_nonneg (N (atB a b c)) (show (2 : Int) ^ j ≠ 0 by omega)
  have h2 := Int.emod_lt_of_pos (N (atB a b c)) (show (0 : Int) < 2 ^ j by omega)
  rw [IntWalk.wrap64_in _ (by omega), belowB_pow a b c j hj, IntWalk.u64_in (2 ^ j) (by omega), IntWalk.u64_in (2 ^ j - 1) (by omega), bv_low _ _ (by omega), IntWalk.u64_in _ (by omega)]
  exact beq_self_eq_true _
theorem prngPowers_any (a b c : BitVec 64) (k : Int) (w : World) :
    Calls Try.prog 9 #[u64 a, u64 b, u64 c, .int .i64 k] w fun e w' => e = .returned (.bool true) ∧ w = w' := by
  obtain ⟨j, hj, hlt⟩ : ∃ j : Nat, (IntKind.u64.wrap k).tmod 32 = (j:Int) ∧ j < 32 := by
    rw [IntKind.wrap_u64, Int.tmod_eq_emod_of_nonneg (by omega)]
    exact ⟨(k % 18446744073709551616 % 32).toNat, by omega, by omega⟩
  have hm : min j 64 = j := by omega
  have he := powers_eq a b c j hlt
  go_enter Try.func9, Try.ntmps9
  go_wp2_with (first | (go_at_call 19; refine (below_any _ _ _ _ _).mono ?_; rintro e w' ⟨rfl, rfl⟩) | (go_at_call 17; refine (at_any _ _ _ _).mono ?_; rintro e w' ⟨rfl, rfl⟩) | (go_at_call 21; refine (awake1_any _).mono ?_; rintro e w' ⟨rfl, rfl⟩))
  go_ret
  exact ⟨rfl, rfl⟩
end Go.Proofs.Ytofoilmepddmaaa
