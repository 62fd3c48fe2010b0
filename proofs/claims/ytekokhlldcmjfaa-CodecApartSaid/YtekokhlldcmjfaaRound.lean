/- What the functions of round, and the document's own of that chapter, answer. -/
import Derived.Test.YtekokhlldcmjfaaProg
import Derived.Test.YtekokhlldcmjfaaBv
import Derived.Test.YtekokhlldcmjfaaShelf
import Derived.Lib.BitFns
import Derived.Lib.MinMax
import Derived.Deep.QuietTactic
import Derived.BigQuiet
namespace Go.Proofs.Ytekokhlldcmjfaa
open Go.RowKit
set_option maxHeartbeats 400000
theorem quiet_left {P : Program} {f : FuncId} {args : Array Value} {w : World} {n : Nat} {v : Value}
    (h : Calls P f args (w.drewN n) fun e w' => e = .returned v ∧ w.drewN n = w') : Calls P f args (w.drewN n) fun e w'' => e = .returned v ∧ ∃ m, w'' = w.drewN m :=
  h.mono fun _ _ ⟨he, hm⟩ => ⟨he, n, hm.symm⟩
/-- v, not below lo, not above hi. -/
def cl (v lo hi : Int) : Int := max lo (min hi v)
theorem cl_in (v lo hi : Int) (h : lo ≤ hi) : lo ≤ cl v lo hi ∧ cl v lo hi ≤ hi := by unfold cl; omega
def numb (v : Int) : Int := cl v (-4611686018427387904) 4611686018427387904
theorem numb_in (v : Int) : -4611686018427387904 ≤ numb v ∧ numb v ≤ 4611686018427387904 := cl_in _ _ _ (by omega)
def shN (s : Int) : Nat := (cl s 0 62).toNat
theorem shN_in (s : Int) : shN s ≤ 62 := by unfold shN cl; omega
theorem shN_eq (s : Int) : cl s 0 62 = (shN s : Int) := by unfold shN cl; omega
def downI (v s : Int) : Int := numb v / 2 ^ shN s
def nearI (v s : Int) : Int := if shN s = 0 then numb v else (numb v + 2 ^ (shN s - 1)) / 2 ^ shN s
def chanceI (v s : Int) (r : BitVec 64) : Int := (numb v + N r % 2 ^ shN s) / 2 ^ shN s
theorem within_i (v lo hi : Int) (w : World) : Calls Try.prog 69 #[.int .i64 v, .int .i64 lo, .int .i64 hi] w fun e w' => e = .returned (.int .i64 (cl v lo hi)) ∧ w = w' := by
  go_enter Try.func69, Try.ntmps69
  go_wp2
  all_goals go_ret
  all_goals refine ⟨ret_int ?_, rfl⟩
  all_goals (unfold cl; omega)
theorem within_l (v lo hi : Int) (w : World) : Calls Try.prog 70 #[.int .i64 v, .int .i64 lo, .int .i64 hi] w fun e w' => e = .returned (.int .i64 (cl v lo hi)) ∧ w = w' := by
  go_enter Try.func70, Try.ntmps70
  go_wp2
  all_goals go_ret
  all_goals refine ⟨ret_int ?_, rfl⟩
  all_goals (unfold cl; omega)
theorem number_any (v : Int) (w : World) : Calls Try.prog 66 #[.int .i64 v] w fun e w' => e = .returned (.int .i64 (numb v)) ∧ w = w' := by
  go_enter Try.func66, Try.ntmps66
  go_wp2_with (go_at_call 70; refine (within_l _ _ _ _).mono ?_; rintro e w' ⟨rfl, rfl⟩)
  go_ret
  exact ⟨rfl, rfl⟩
theorem shift_any (s : Int) (w : World) : Calls Try.prog 65 #[.int .i64 s] w fun e w' => e = .returned (.int .i64 (shN s : Int)) ∧ w = w' := by
  go_enter Try.func65, Try.ntmps65
  go_wp2_with (go_at_call 69; refine (within_i _ _ _ _).mono ?_; rintro e w' ⟨rfl, rfl⟩)
  go_ret
  exact ⟨ret_int (shN_eq s), rfl⟩
theorem down_any (v s : Int) (w : World) : Calls Try.prog 109 #[.int .i64 v, .int .i64 s] w fun e w' => e = .returned (.int .i64 (downI v s)) ∧ w = w' := by
  have h1 := shN_in s
  have h2 := numb_in v
  have hm : min (shN s) 64 = shN s := by omega
  go_enter Try.func109, Try.ntmps109
  go_wp2_with (first | (go_at_call 66; refine (number_any _ _).mono ?_; rintro e w' ⟨rfl, rfl⟩) | (go_at_call 65; refine (shift_any _ _).mono ?_; rintro e w' ⟨rfl, rfl⟩))
  go_ret
  exact ⟨rfl, rfl⟩
theorem near_zero (v s : Int) (w : World) (hz : ((shN s : Int) == 0) = true) : Calls Try.prog 28 #[.int .i64 v, .int .i64 s] w fun e w' => e = .returned (.int .i64 (numb v)) ∧ w = w' := by
  go_enter Try.func28, Try.ntmps28
  go_wp2_with (first | (go_at_call 66; refine (number_any _ _).mono ?_; rintro e w' ⟨rfl, rfl⟩) | (go_at_call 65; refine (shift_any _ _).mono ?_; rintro e w' ⟨rfl, rfl⟩))
  go_ret
  exact ⟨rfl, rfl⟩
theorem near_pos (v s : Int) (T : Nat) (hT : shN s = T + 1) (w : World) : Calls Try.prog 28 #[.int .i64 v, .int .i64 s] w fun e w' => e = .returned (.int .i64 ((numb v + 2 ^ T) / 2 ^ (T + 1))) ∧ ∃ n, w' = w.drewN n := by
  have h1 := shN_in s
  have h2 := numb_in v
  have hm : min T 64 = T := by omega
  have hm' : min (T + 1) 64 = T + 1 := by omega
  have hT61 : T ≤ 61 := by omega
  have HT := Lib.hid hT
  clear hT
  have hp1 : (1 : Int) ≤ 2 ^ T ∧ (2 : Int) ^ T ≤ 2305843009213693952 := by
    have hp : 0 < 2 ^ T := Nat.two_pow_pos T
    have hq : 2 ^ T ≤ 2 ^ 61 := Nat.pow_le_pow_right (by omega) hT61
    have e1 : (((2 ^ T : Nat)) : Int) = (2 : Int) ^ T := by norm_cast
    omega
  go_enter Try.func28, Try.ntmps28
  go_wp2_with (go_at_call 65; refine (shift_any _ _).mono ?_; rintro e w' ⟨rfl, rfl⟩; rw [HT.out])
  go_quiet ((go_at_call 66; exact quiet_left (number_any _ _)))
  go_wp2
  go_ret
  exact ⟨rfl, _, rfl⟩
theorem near_any (v s : Int) (w : World) : Calls Try.prog 28 #[.int .i64 v, .int .i64 s] w fun e w' => e = .returned (.int .i64 (nearI v s)) ∧ ∃ n, w' = w.drewN n := by
  unfold nearI
  by_cases h : shN s = 0
  · rw [if_pos h]
    exact (near_zero v s w (by rw [h]; rfl)).mono fun e w' ⟨he, hw⟩ => ⟨he, 0, hw.symm⟩
  · rw [if_neg h]
    have := near_pos v s (shN s - 1) (by omega) w
    rw [show shN s - 1 + 1 = shN s from by omega] at this
    exact this
theorem two_pow_ub (S K : Nat) (h : S ≤ K) : (1 : Int) ≤ 2 ^ S ∧ (2 : Int) ^ S ≤ 2 ^ K := by
  have hp : 0 < 2 ^ S := Nat.two_pow_pos S
  have hq : 2 ^ S ≤ 2 ^ K := Nat.pow_le_pow_right (by omega) h
  have e1 : (((2 ^ S : Nat)) : Int) = (2 : Int) ^ S := by norm_cast
  have e2 : (((2 ^ K : Nat)) : Int) = (2 : Int) ^ K := by norm_cast
  omega
theorem chance_any (v s : Int) (r : BitVec 64) (w : World) : Calls Try.prog 25 #[.int .i64 v, .int .i64 s, u64 r] w fun e w' => e = .returned (.int .i64 (chanceI v s r)) ∧ ∃ n, w' = w.drewN n := by
  unfold chanceI
  have h1 := shN_in s
  have h2 := numb_in v
  have hm : min (shN s) 64 = shN s := by omega
  have hp := two_pow_ub (shN s) 62 h1
  have hp' : (1 : Int) ≤ 2 ^ shN s ∧ (2 : Int) ^ shN s ≤ 4611686018427387904 := hp
  have hr1 := Int.emod_nonneg (N r) (show (2 : Int) ^ shN s ≠ 0 by omega)
  have hr2 := Int.emod_lt_of_pos (N r) (show (0 : Int) < 2 ^ shN s by omega)
  have hN := N_lo r
  clear hp
  go_enter Try.func25, Try.ntmps25
  go_wp2_with (go_at_call 65; refine (shift_any _ _).mono ?_; rintro e w' ⟨rfl, rfl⟩)
  go_quiet ((go_at_call 66; exact quiet_left (number_any _ _)))
  go_wp2
  go_ret
  exact ⟨rfl, _, rfl⟩
def bitsI (v : Int) : Int := (Lib.bitLen (numb v).natAbs : Int)
theorem bits_any (v : Int) (w : World) : Calls Try.prog 133 #[.int .i64 v] w fun e w' => e = .returned (.int .i64 (bitsI v)) ∧ w = w' := by
  have h2 := numb_in v
  unfold bitsI
  by_cases h : numb v < 0
  · have _e : (-numb v).toNat = (numb v).natAbs := by omega
    go_enter Try.func133, Try.ntmps133
    go_wp2_with (first | (go_at_call 66; refine (number_any _ _).mono ?_; rintro e w' ⟨rfl, rfl⟩) | (go_at_call 141; refine (Try.bits_Len64 _ _ (by omega) (by omega)).mono ?_; rintro e w' ⟨rfl, rfl⟩))
    go_ret
    exact ⟨rfl, rfl⟩
  · have _e : (numb v).toNat = (numb v).natAbs := by omega
    go_enter Try.func133, Try.ntmps133
    go_wp2_with (first | (go_at_call 66; refine (number_any _ _).mono ?_; rintro e w' ⟨rfl, rfl⟩) | (go_at_call 141; refine (Try.bits_Len64 _ _ (by omega) (by omega)).mono ?_; rintro e w' ⟨rfl, rfl⟩))
    go_ret
    exact ⟨rfl, rfl⟩
/-- The greatest number of so many bits, one of them for the sign. -/
def wid (w : Int) : Nat := (cl w 1 32 - 1).toNat
theorem wid_in (w : Int) : wid w ≤ 31 := by unfold wid cl; omega
theorem wid_eq (w : Int) : cl w 1 32 = (wid w : Int) + 1 := by unfold wid cl; omega
def clampI (v w : Int) : Int := cl v (-(2 ^ wid w - 1)) (2 ^ wid w - 1)
theorem cl_numb (v m : Int) (h0 : 0 ≤ m) (h1 : m ≤ 4611686018427387904) : cl (numb v) (-m) m = cl v (-m) m := by unfold numb cl; omega
theorem clamp_any (v x : Int) (w : World) : Calls Try.prog 29 #[.int .i64 v, .int .i64 x] w fun e w' => e = .returned (.int .i64 (clampI v x)) ∧ w = w' := by
  have h1 := wid_in x
  have h2 := numb_in v
  have hm : min (wid x) 64 = wid x := by omega
  have hp : (1 : Int) ≤ 2 ^ wid x ∧ (2 : Int) ^ wid x ≤ 2147483648 := two_pow_ub (wid x) 31 h1
  go_enter Try.func29, Try.ntmps29
  go_wp2_with (first | (go_at_call 66; refine (number_any _ _).mono ?_; rintro e w' ⟨rfl, rfl⟩) | (go_at_call 69; refine (within_i _ _ _ _).mono ?_; rintro e w' ⟨rfl, rfl⟩; rw [wid_eq]) | (go_at_call 70; refine (within_l _ _ _ _).mono ?_; rintro e w' ⟨rfl, rfl⟩))
  go_ret
  exact ⟨ret_int (cl_numb v _ (by omega) (by omega)), rfl⟩
/-- So many bits apart are two exponents, each at most 1000 off. -/
def gap (a b : Int) : Int := cl a (-1000) 1000 - cl b (-1000) 1000
theorem gap_in (a b : Int) : -2000 ≤ gap a b ∧ gap a b ≤ 2000 := by unfold gap cl; omega
def cut20 (v : Int) : Int := cl v (-1048576) 1048576
theorem cut20_in (v : Int) : -1048576 ≤ cut20 v ∧ cut20 v ≤ 1048576 := cl_in _ _ _ (by omega)
def alignI (v a b : Int) : Int := if gap a b < 0 then downI v (-gap a b) else cut20 (cut20 v * 2 ^ (min (gap a b) 20).toNat)
theorem mul_in (c p : Int) (hc : -1048576 ≤ c ∧ c ≤ 1048576) (hp : 1 ≤ p ∧ p ≤ 1048576) : -1099511627776 ≤ c * p ∧ c * p ≤ 1099511627776 := by
  have h1 := Int.mul_le_mul_of_nonneg_right hc.2 (show 0 ≤ p by omega)
  have h2 := Int.mul_le_mul_of_nonneg_right hc.1 (show 0 ≤ p by omega)
  omega
theorem rwithin_any (v lo hi : Int) (w : World) : Calls Try.prog 114 #[.int .i64 v, .int .i64 lo, .int .i64 hi] w fun e w' => e = .returned (.int .i64 (cl v lo hi)) ∧ w = w' := by
  go_enter Try.func114, Try.ntmps114
  go_wp2
  all_goals go_ret
  all_goals refine ⟨ret_int ?_, rfl⟩
  all_goals (unfold cl; omega)
theorem rtaken_any (v s : Int) (w : World) : Calls Try.prog 112 #[.int .i64 v, .int .i64 s] w fun e w' => e = .returned (.tuple #[.int .i64 (numb v), .int .u64 (shN s : Int)]) ∧ w = w' := by
  have h1 := shN_in s
  go_enter Try.func112, Try.ntmps112
  go_wp2_with (go_at_call 114; refine (rwithin_any _ _ _ _).mono ?_; rintro e w' ⟨rfl, rfl⟩; try rw [shN_eq])
  go_ret2
  exact ⟨rfl, rfl⟩
theorem rdown_any (v s : Int) (w : World) : Calls Try.prog 58 #[.int .i64 v, .int .i64 s] w fun e w' => e = .returned (.int .i64 (downI v s)) ∧ w = w' := by
  have h1 := shN_in s
  have h2 := numb_in v
  have hm : min (shN s) 64 = shN s := by omega
  go_enter Try.func58, Try.ntmps58
  go_wp2_with (go_at_call 112; refine (rtaken_any _ _ _).mono ?_; rintro e w' ⟨rfl, rfl⟩)
  go_ret
  exact ⟨rfl, rfl⟩
theorem rnear_any (v s : Int) (w : World) : Calls Try.prog 61 #[.int .i64 v, .int .i64 s] w fun e w' => e = .returned (.int .i64 (nearI v s)) ∧ w = w' := by
  unfold nearI
  have h2 := numb_in v
  by_cases h : shN s = 0
  · rw [if_pos h]
    have hz : ((shN s : Int) == 0) = true := by rw [h]; rfl
    clear h
    go_enter Try.func61, Try.ntmps61
    go_wp2_with (go_at_call 112; refine (rtaken_any _ _ _).mono ?_; rintro e w' ⟨rfl, rfl⟩)
    go_ret
    exact ⟨rfl, rfl⟩
  · rw [if_neg h]
    have h1 := shN_in s
    obtain ⟨T, hT⟩ : ∃ T, shN s = T + 1 := ⟨shN s - 1, by omega⟩
    rw [hT, show T + 1 - 1 = T from by omega]
    have hm : min T 64 = T := by omega
    have hm' : min (T + 1) 64 = T + 1 := by omega
    have hT61 : T ≤ 61 := by omega
    have HT := Lib.hid hT
    clear hT h
    have hp1 : (1 : Int) ≤ 2 ^ T ∧ (2 : Int) ^ T ≤ 2305843009213693952 := two_pow_ub T 61 hT61
    go_enter Try.func61, Try.ntmps61
    go_wp2_with (go_at_call 112; refine (rtaken_any _ _ _).mono ?_; rintro e w' ⟨rfl, rfl⟩; rw [HT.out])
    go_ret
    exact ⟨rfl, rfl⟩
theorem bv_low' (x : BitVec 64) (j : Nat) (hj : j ≤ 63) : bits .and .u64 (N x) ((2 : Int) ^ j - 1) = N x % 2 ^ j := by
  have hp : 0 < 2 ^ j := Nat.two_pow_pos j
  have hq : 2 ^ j ≤ 2 ^ 63 := Nat.pow_le_pow_right (by omega) hj
  have e : ((2 : Int) ^ j - 1) = ((2 ^ j - 1 : Nat) : Int) := by
    have : (((2 ^ j : Nat)) : Int) = (2 : Int) ^ j := by norm_cast
    omega
  rw [e]
  unfold N
  rw [u64_and_nat _ _ x.isLt (by omega), Nat.and_two_pow_sub_one_eq_mod]
  norm_cast
theorem rchance_any (v s : Int) (r : BitVec 64) (w : World) : Calls Try.prog 59 #[.int .i64 v, .int .i64 s, u64 r] w fun e w' => e = .returned (.int .i64 (chanceI v s r)) ∧ w = w' := by
  unfold chanceI
  have h1 := shN_in s
  have h2 := numb_in v
  have hm : min (shN s) 64 = shN s := by omega
  have hp : (1 : Int) ≤ 2 ^ shN s ∧ (2 : Int) ^ shN s ≤ 4611686018427387904 := two_pow_ub (shN s) 62 h1
  have hr1 := Int.emod_nonneg (N r) (show (2 : Int) ^ shN s ≠ 0 by omega)
  have hr2 := Int.emod_lt_of_pos (N r) (show (0 : Int) < 2 ^ shN s by omega)
  have hN := N_lo r
  have hb := bv_low' r (shN s) (by omega)
  go_enter Try.func59, Try.ntmps59
  go_wp2_with (go_at_call 112; refine (rtaken_any _ _ _).mono ?_; rintro e w' ⟨rfl, rfl⟩)
  go_ret
  exact ⟨rfl, rfl⟩
theorem rclamp_any (v x : Int) (w : World) : Calls Try.prog 62 #[.int .i64 v, .int .i64 x] w fun e w' => e = .returned (.int .i64 (clampI v x)) ∧ w = w' := by
  have h1 := wid_in x
  have hm : min (wid x) 64 = wid x := by omega
  have hp : (1 : Int) ≤ 2 ^ wid x ∧ (2 : Int) ^ wid x ≤ 2147483648 := two_pow_ub (wid x) 31 h1
  go_enter Try.func62, Try.ntmps62
  go_wp2_with (go_at_call 114; refine (rwithin_any _ _ _ _).mono ?_; rintro e w' ⟨rfl, rfl⟩; try rw [wid_eq])
  go_ret
  exact ⟨rfl, rfl⟩
theorem bitLen_zero : Lib.bitLen 0 = 0 := rfl
theorem rbits_any (v : Int) (w : World) : Calls Try.prog 134 #[.int .i64 v] w fun e w' => e = .returned (.int .i64 (bitsI v)) ∧ w = w' := by
  have h2 := numb_in v
  unfold bitsI
  obtain ⟨M, hM, hM1⟩ : ∃ M : Nat, (numb v).natAbs = M ∧ M ≤ 4611686018427387904 := ⟨_, rfl, by omega⟩
  rw [hM]
  have HM := Lib.hid hM
  clear hM
  go_enter Try.func134, Try.ntmps134
  go_wp2_with (go_at_call 112; refine (rtaken_any _ _ _).mono ?_; rintro e w' ⟨rfl, rfl⟩)
  rw [show max (numb v) (-numb v) = (M : Int) from by have := HM.out; omega]
  go_loop [3, 4] (fun n u => ∃ k U : Nat, n = .int .i64 k ∧ u = .int .i64 U ∧ U ≤ M ∧ k ≤ 64 ∧ k + Lib.bitLen U = Lib.bitLen M) (fun _ u => (intOf u).toNat)
  case atStart => exact ⟨0, M, rfl, rfl, by omega, by omega, by omega⟩
  case round =>
    obtain ⟨k, U, rfl, rfl, hU, hk, hb⟩ := hrel
    have HB := Lib.hid hb
    clear hb
    by_cases hlt : 0 < U
    · have HH : Hid (k + 1 + Lib.bitLen (U / 2) = Lib.bitLen M) := Lib.hid (by
        have := HB.out; rw [Lib.bitLen_half U (by omega) (by omega)] at this; omega)
      have hk2 : k + 1 ≤ 64 := by
        have h1 := Lib.bitLen_le M 64 (by omega) (by omega)
        have h3 := HH.out
        omega
      go_wp2
      go_round
      case rel => exact ⟨k + 1, U / 2, by go_num, by go_num, by omega, hk2, HH.out⟩
      case measure => simp [intOf]; omega
    · obtain rfl : U = 0 := by omega
      go_wp2
      go_ret
      exact ⟨ret_int (by have := HB.out; rw [bitLen_zero] at this; omega), rfl⟩
theorem al_down (v A B : Int) (h : A - B < 0) : numb v / 2 ^ (min (B - A) 62).toNat = downI v (-(A - B)) := by
  unfold downI shN cl
  rw [show (min (B - A) 62).toNat = (max 0 (min 62 (-(A - B)))).toNat from by omega]
theorem cut20_numb (v : Int) : cl (numb v) (-1048576) 1048576 = cut20 v := by unfold cut20 numb cl; omega
theorem al_zero (v : Int) (k : Nat) (h : (numb v == 0) = true) : 0 = cut20 (cut20 v * 2 ^ k) := by
  have h1 := beq_iff_eq.1 h
  have hv : cut20 v = 0 := by unfold numb cl at h1; unfold cut20 cl; omega
  rw [hv, Int.zero_mul]; rfl
theorem al_far (v A B : Int) (h : 20 < A - B) (h0 : (numb v == 0) = false) :
    cl (wrap64 (cl (cl (numb v) (-1) 1) (-1048576) 1048576 * 2 ^ (B + 20 - B).toNat)) (-1048576) 1048576 = cut20 (cut20 v * 2 ^ (min (A - B) 20).toNat) := by
  have h1 := beq_eq_false_iff_ne.1 h0
  rw [show (B + 20 - B).toNat = 20 from by omega, show (min (A - B) 20).toNat = 20 from by omega, show (2 : Int) ^ 20 = 1048576 from rfl]
  have e : cl (cl (numb v) (-1) 1) (-1048576) 1048576 = cl (numb v) (-1) 1 := by unfold cl; omega
  rw [e, IntWalk.wrap64_in _ (by unfold cl; omega)]
  unfold cut20 numb cl
  unfold numb cl at h1
  omega
theorem al_near (v A B : Int) (h0 : 0 ≤ A - B) (h : A - B ≤ 20) :
    cl (wrap64 (cl (numb v) (-1048576) 1048576 * 2 ^ (A - B).toNat)) (-1048576) 1048576 = cut20 (cut20 v * 2 ^ (min (A - B) 20).toNat) := by
  have hM := mul_in (cut20 v) _ (cut20_in v) (two_pow_ub (min (A - B) 20).toNat 20 (by omega))
  rw [cut20_numb, show (A - B).toNat = (min (A - B) 20).toNat from by omega, IntWalk.wrap64_in _ (by omega)]
  rfl
end Go.Proofs.Ytekokhlldcmjfaa
