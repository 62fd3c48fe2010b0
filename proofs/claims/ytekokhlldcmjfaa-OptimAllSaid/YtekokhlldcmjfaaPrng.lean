/- What the functions of prng, and the document's own of that chapter, answer: Mix, At, Below. -/
import Derived.Test.YtekokhlldcmjfaaProg
import Derived.Test.YtekokhlldcmjfaaBv
import Derived.ScopeJumps
import Derived.WalkMore
namespace Go.Proofs.Ytekokhlldcmjfaa
open Go.RowKit
set_option maxHeartbeats 400000
theorem mix_any (x : BitVec 64) (w : World) :
    Calls Try.prog 67 #[u64 x] w fun e w' => e = .returned (u64 (mix x)) ∧ w = w' := by
  go_enter Try.func67, Try.ntmps67
  go_wp2
  go_ret
  exact ⟨ret_int (by simp only [bv_add_c, bv_mul_c1, bv_mul_c2, bv_shr30, bv_shr27, bv_shr31, bv_xor]; rfl), rfl⟩
theorem rmix_any (x : BitVec 64) (w : World) :
    Calls Try.prog 113 #[u64 x] w fun e w' => e = .returned (u64 (mix x)) ∧ w = w' := by
  go_enter Try.func113, Try.ntmps113
  go_wp2
  go_ret
  exact ⟨ret_int (by simp only [bv_add_c, bv_mul_c1, bv_mul_c2, bv_shr30, bv_shr27, bv_shr31, bv_xor]; rfl), rfl⟩
theorem at_any (a b c : BitVec 64) (w : World) :
    Calls Try.prog 26 #[u64 a, u64 b, u64 c] w fun e w' => e = .returned (u64 (atB a b c)) ∧ w = w' := by
  go_enter Try.func26, Try.ntmps26
  go_wp2_with (go_at_call 67; (try rw [bv_xor]); refine (mix_any _ _).mono ?_; rintro e w' ⟨rfl, rfl⟩)
  go_ret
  exact ⟨rfl, rfl⟩
theorem rat_any (a b c : BitVec 64) (w : World) :
    Calls Try.prog 60 #[u64 a, u64 b, u64 c] w fun e w' => e = .returned (u64 (atB a b c)) ∧ w = w' := by
  go_enter Try.func60, Try.ntmps60
  go_wp2_with (go_at_call 113; (try rw [bv_xor]); refine (rmix_any _ _).mono ?_; rintro e w' ⟨rfl, rfl⟩)
  go_ret
  exact ⟨rfl, rfl⟩
/-- 2 to the 64, modulo n, as the code reckons it. -/
theorem neg_mod (n : Int) (h1 : 1 ≤ n) (h2 : n ≤ 2147483648) : (IntKind.u64.wrap (-n)).tmod n = 18446744073709551616 % n := by
  have e : IntKind.u64.wrap (-n) = 18446744073709551616 - n := by rw [IntKind.wrap_u64]; omega
  rw [e, Int.tmod_eq_emod_of_nonneg (by omega)]
  exact Int.sub_emod_right _ _
theorem pick_yes (k : Nat) (x : BitVec 64) (t n R : Int) (h : t ≤ N x) (hp : pick (k + 1) x t n = R) (h1 : 1 ≤ n) (h2 : n ≤ 2147483648) : wrap64 ((N x).tmod n) = R := by
  rw [Int.tmod_eq_emod_of_nonneg (N_lo x)]
  rw [pick, if_pos h] at hp
  have e1 := Int.emod_nonneg (N x) (show n ≠ 0 by omega)
  have e2 := Int.emod_lt_of_pos (N x) (show 0 < n by omega)
  rw [IntWalk.wrap64_in _ (by omega)]; exact hp
theorem pick_no (k : Nat) (x : BitVec 64) (t n R : Int) (h : N x < t) (hp : pick (k + 1) x t n = R) : pick k (mix x) t n = R := by
  rw [pick, if_neg (by omega)] at hp; exact hp
/-- What holds whenever the code asks again. -/
def BelowJ (a b c : BitVec 64) (n t R : Int) (w : World) (a' : Act) (w' : World) : Prop :=
  w = w' ∧ ∃ (k : Nat) (x : BitVec 64) (u4 u5 u6 u7 u13 u14 u15 u16 u17 u18 u19 u20 u21 u22 u23 u24 u25 u26 u27 u28 u29 u30 u31 u32 u33 u34 u35 u36 u37 u38 u39 u40 u41 : Value), a' = { tmps := #[u64 a, u64 b, u64 c, .int .i64 n, u4, u5, u6, u7, .int .i64 0, .int .u64 n, .int .u64 t, u64 x, .int .i64 (100 - (k : Int)), u13, u14, u15, u16, u17, u18, u19, u20, u21, u22, u23, u24, u25, u26, u27, u28, u29, u30, u31, u32, u33, u34, u35, u36, u37, u38, u39, u40, u41], defers := [] } ∧ k ≤ 99 ∧ pick (k + 1) x t n = R
def BelowM (a : Act) : Nat := (100 - intOf (a.tmps.getD 12 undef)).toNat
theorem ref_mod (n : Int) (h1 : 1 ≤ n) (h2 : n ≤ 2147483648) : (IntKind.u64.wrap (18446744073709551615 % n + 1)).tmod n = 18446744073709551616 % n := by
  have e1 := Int.emod_nonneg (18446744073709551615 : Int) (show n ≠ 0 by omega)
  have e2 := Int.emod_lt_of_pos (18446744073709551615 : Int) (show 0 < n by omega)
  rw [IntWalk.u64_in _ (by omega), Int.tmod_eq_emod_of_nonneg (by omega), Int.emod_add_emod]
  rfl
end Go.Proofs.Ytekokhlldcmjfaa
