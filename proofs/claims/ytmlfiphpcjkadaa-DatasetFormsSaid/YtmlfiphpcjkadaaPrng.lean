/- What the functions of prng, and the document's own of that chapter, answer: Mix, At, Below. -/
import Derived.Test.YtmlfiphpcjkadaaProg
import Derived.Test.YtmlfiphpcjkadaaBv
import Derived.ScopeJumps
import Derived.WalkMore
namespace Go.Proofs.Ytmlfiphpcjkadaa
open Go.RowKit
set_option maxHeartbeats 400000
theorem mix_any (x : BitVec 64) (w : World) :
    Calls Try.prog 81 #[u64 x] w fun e w' => e = .returned (u64 (mix x)) ∧ w = w' := by
  go_enter Try.func81, Try.ntmps81
  go_wp2
  go_ret
  exact ⟨ret_int (by simp only [bv_add_c, bv_mul_c1, bv_mul_c2, bv_shr30, bv_shr27, bv_shr31, bv_xor]; rfl), rfl⟩
theorem rmix_any (x : BitVec 64) (w : World) :
    Calls Try.prog 83 #[u64 x] w fun e w' => e = .returned (u64 (mix x)) ∧ w = w' := by
  go_enter Try.func83, Try.ntmps83
  go_wp2
  go_ret
  exact ⟨ret_int (by simp only [bv_add_c, bv_mul_c1, bv_mul_c2, bv_shr30, bv_shr27, bv_shr31, bv_xor]; rfl), rfl⟩
theorem at_any (a b c : BitVec 64) (w : World) :
    Calls Try.prog 80 #[u64 a, u64 b, u64 c] w fun e w' => e = .returned (u64 (atB a b c)) ∧ w = w' := by
  go_enter Try.func80, Try.ntmps80
  go_wp2_with (go_at_call 81; (try rw [bv_xor]); refine (mix_any _ _).mono ?_; rintro e w' ⟨rfl, rfl⟩)
  go_ret
  exact ⟨rfl, rfl⟩
theorem rat_any (a b c : BitVec 64) (w : World) :
    Calls Try.prog 82 #[u64 a, u64 b, u64 c] w fun e w' => e = .returned (u64 (atB a b c)) ∧ w = w' := by
  go_enter Try.func82, Try.ntmps82
  go_wp2_with (go_at_call 83; (try rw [bv_xor]); refine (rmix_any _ _).mono ?_; rintro e w' ⟨rfl, rfl⟩)
  go_ret
  exact ⟨rfl, rfl⟩
theorem below_out (a b c : BitVec 64) (n : Int) (w : World) (h : n < 1 ∨ 2147483648 < n) :
    Calls Try.prog 77 #[u64 a, u64 b, u64 c, .int .i64 n] w fun e w' => e = .returned (.int .i64 0) ∧ w = w' := by
  rcases h with h | h
  · go_enter Try.func77, Try.ntmps77
    go_wp2_with fail
    go_step3
    go_wp2_with fail
    rw [Exit.noGoto_ret]
    go_ret
    exact ⟨rfl, rfl⟩
  · have h1 : ¬ n < 1 := by omega
    go_enter Try.func77, Try.ntmps77
    go_wp2_with fail
    go_step3
    go_wp2_with fail
    rw [Exit.noGoto_ret]
    go_ret
    exact ⟨rfl, rfl⟩
theorem rbelow_out (a b c : BitVec 64) (n : Int) (w : World) (h : n < 1 ∨ 2147483648 < n) :
    Calls Try.prog 78 #[u64 a, u64 b, u64 c, .int .i64 n] w fun e w' => e = .returned (.int .i64 0) ∧ w = w' := by
  rcases h with h | h
  · go_enter Try.func78, Try.ntmps78
    go_wp2_with fail
    go_ret
    exact ⟨rfl, rfl⟩
  · have h1 : ¬ n < 1 := by omega
    go_enter Try.func78, Try.ntmps78
    go_wp2_with fail
    go_ret
    exact ⟨rfl, rfl⟩
/-- 2 to the 64, modulo n, as the code reckons it. -/
theorem neg_mod (n : Int) (h1 : 1 ≤ n) (h2 : n ≤ 2147483648) : (IntKind.u64.wrap (-n)).tmod n = 18446744073709551616 % n := by
  have e : IntKind.u64.wrap (-n) = 18446744073709551616 - n := by rw [IntKind.wrap_u64]; omega
  rw [e, Int.tmod_eq_emod_of_nonneg (by omega)]
  exact Int.sub_emod_right _ _
theorem pick_yes (k : Nat) (x : BitVec 64) (t n R : Int) (h : t ≤ N x) (hp : pick (k + 1) x t n = R) (h1 : 1 ≤ n) (h2 : n ≤ 2147483648) : wrap64 ((N x).tmod n) = R := by
  rw [Int.tmod_eq_emod_of_nonneg (N_lo x)]
  rw [pick, if_pos h] at hp
  have e1 := Int.emod_nonneg (N x) (show n ≠ 0 by omega)
  have e2 := Int.emod_lt_of_pos (N x) (show 0 < n by omega)
  rw [IntWalk.wrap64_in _ (by omega)]; exact hp
theorem pick_no (k : Nat) (x : BitVec 64) (t n R : Int) (h : N x < t) (hp : pick (k + 1) x t n = R) : pick k (mix x) t n = R := by
  rw [pick, if_neg (by omega)] at hp; exact hp
/-- What holds whenever the code asks again. -/
def BelowJ (a b c : BitVec 64) (n t R : Int) (w : World) (a' : Act) (w' : World) : Prop :=
  w = w' ∧ ∃ (k : Nat) (x : BitVec 64) (u4 u5 u6 u7 u13 u14 u15 u16 u17 u18 u19 u20 u21 u22 u23 u24 u25 u26 u27 u28 u29 u30 u31 u32 u33 u34 u35 u36 u37 u38 u39 u40 u41 : Value), a' = { tmps := #[u64 a, u64 b, u64 c, .int .i64 n, u4, u5, u6, u7, .int .i64 0, .int .u64 n, .int .u64 t, u64 x, .int .i64 (100 - (k : Int)), u13, u14, u15, u16, u17, u18, u19, u20, u21, u22, u23, u24, u25, u26, u27, u28, u29, u30, u31, u32, u33, u34, u35, u36, u37, u38, u39, u40, u41], defers := [] } ∧ k ≤ 99 ∧ pick (k + 1) x t n = R
def BelowM (a : Act) : Nat := (100 - intOf (a.tmps.getD 12 undef)).toNat
theorem below_in (a b c : BitVec 64) (n : Int) (w : World) (h1 : 1 ≤ n) (h2 : n ≤ 2147483648) :
    Calls Try.prog 77 #[u64 a, u64 b, u64 c, .int .i64 n] w fun e w' => e = .returned (.int .i64 (pick 100 (atB a b c) (18446744073709551616 % n) n)) ∧ w = w' := by
  obtain ⟨R, hR⟩ : ∃ R, R = pick 100 (atB a b c) (18446744073709551616 % n) n := ⟨_, rfl⟩
  obtain ⟨t, ht⟩ : ∃ t, t = 18446744073709551616 % n := ⟨_, rfl⟩
  have hnm := neg_mod n h1 h2
  rw [← hR]
  rw [← ht] at hR hnm
  have HM := Lib.hid hnm
  have HL : Hid (pick 100 (atB a b c) t n = R) := Lib.hid hR.symm
  clear ht hR hnm
  go_enter Try.func77, Try.ntmps77
  go_wp2_with fail
  refine wp_scope_jumps 0 (BelowJ a b c n t R w) (fun a' _ => BelowM a') rfl ?_ ?_
  · go_wp2_with (go_at_call 80; refine (at_any _ _ _ _).mono ?_; rintro e w' ⟨rfl, rfl⟩)
    rw [HM.out]
    go_step3
    go_wp2_with (go_at_call 81; refine (mix_any _ _).mono ?_; rintro e w' ⟨rfl, rfl⟩)
    · have h : t ≤ N (atB a b c) := by assumption
      simp only [Exit.jump]
      go_ret
      exact ⟨ret_int (pick_yes 99 _ _ _ _ h HL.out h1 h2), rfl⟩
    · go_step3
      refine ⟨rfl, ⟨rfl, 98, mix (atB a b c), _, _, _, _, _, _, _, _, _, _, _, _, _, _, _, _, _, _, _, _, _, _, _, _, _, _, _, _, _, _, _, _, _, rfl, by omega, pick_no _ _ _ _ _ (by assumption) HL.out⟩⟩
  · rintro a' w' ⟨rfl, k, x, u4, u5, u6, u7, u13, u14, u15, u16, u17, u18, u19, u20, u21, u22, u23, u24, u25, u26, u27, u28, u29, u30, u31, u32, u33, u34, u35, u36, u37, u38, u39, u40, u41, rfl, hk, hp⟩
    have HP := Lib.hid hp
    clear hp
    go_wp2_with (go_at_call 81; refine (mix_any _ _).mono ?_; rintro e w' ⟨rfl, rfl⟩)
    · have h : t ≤ N x := by assumption
      simp only [Exit.jump]
      go_ret
      exact ⟨ret_int (pick_yes _ _ _ _ _ h HP.out h1 h2), rfl⟩
    · have h : N x < t := by assumption
      have h' : ((100 : Int) - (k : Int) == 100) = true := by assumption
      simp only [Exit.jump]
      go_ret
      have hk0 : k = 0 := by have := beq_iff_eq.1 h'; omega
      subst hk0
      exact ⟨ret_int (by have := pick_no _ _ _ _ _ h HP.out; rw [pick] at this; exact this), rfl⟩
    · have h : N x < t := by assumption
      have h' : ((100 : Int) - (k : Int) == 100) = false := by assumption
      go_step3
      have hk0 : k ≠ 0 := by have := beq_eq_false_iff_ne.1 h'; omega
      have e12 : (100 : Int) - (k : Int) + 1 = 100 - ((k - 1 : Nat) : Int) := by omega
      rw [e12]
      refine ⟨rfl, ⟨rfl, k - 1, mix x, _, _, _, _, _, _, _, _, _, _, _, _, _, _, _, _, _, _, _, _, _, _, _, _, _, _, _, _, _, _, _, _, _, rfl, by omega, pick_no _ _ _ _ _ h (by rw [show k - 1 + 1 = k from by omega]; exact HP.out)⟩, ?_⟩
      simp [BelowM, intOf]; omega
theorem ref_mod (n : Int) (h1 : 1 ≤ n) (h2 : n ≤ 2147483648) : (IntKind.u64.wrap (18446744073709551615 % n + 1)).tmod n = 18446744073709551616 % n := by
  have e1 := Int.emod_nonneg (18446744073709551615 : Int) (show n ≠ 0 by omega)
  have e2 := Int.emod_lt_of_pos (18446744073709551615 : Int) (show 0 < n by omega)
  rw [IntWalk.u64_in _ (by omega), Int.tmod_eq_emod_of_nonneg (by omega), Int.emod_add_emod]
  rfl
theorem rbelow_in (a b c : BitVec 64) (n : Int) (w : World) (h1 : 1 ≤ n) (h2 : n ≤ 2147483648) :
    Calls Try.prog 78 #[u64 a, u64 b, u64 c, .int .i64 n] w fun e w' => e = .returned (.int .i64 (pick 100 (atB a b c) (18446744073709551616 % n) n)) ∧ w = w' := by
  obtain ⟨R, hR⟩ : ∃ R, R = pick 100 (atB a b c) (18446744073709551616 % n) n := ⟨_, rfl⟩
  obtain ⟨t, ht⟩ : ∃ t, t = 18446744073709551616 % n := ⟨_, rfl⟩
  have hnm := ref_mod n h1 h2
  rw [← hR]
  rw [← ht] at hR hnm
  have HM := Lib.hid hnm
  have HL : Hid (pick 100 (atB a b c) t n = R) := Lib.hid hR.symm
  clear ht hR hnm
  go_enter Try.func78, Try.ntmps78
  go_wp2_with (go_at_call 82; refine (rat_any _ _ _ _).mono ?_; rintro e w' ⟨rfl, rfl⟩)
  rw [HM.out]
  go_loop [10, 28] (fun x i => ∃ (k : Nat) (X : BitVec 64), k ≤ 100 ∧ x = u64 X ∧ i = .int .i64 k ∧ pick (100 - k) X t n = R) (fun _ i => 100 - (intOf i).toNat)
  case atStart => exact ⟨0, _, by omega, rfl, rfl, HL.out⟩
  case round =>
    obtain ⟨k, X, hk, rfl, rfl, hp⟩ := hrel
    have HP := Lib.hid hp
    clear hp
    by_cases hlt : k < 100
    · have HQ : Hid (pick (99 - k + 1) X t n = R) := Lib.hid (by rw [show 99 - k + 1 = 100 - k from by omega]; exact HP.out)
      go_wp2_with (go_at_call 83; refine (rmix_any _ _).mono ?_; rintro e w' ⟨rfl, rfl⟩)
      · have h : t ≤ N X := by assumption
        go_ret
        exact ⟨ret_int (pick_yes _ _ _ _ _ h HQ.out h1 h2), rfl⟩
      · have h : N X < t := by assumption
        go_round
        case rel => exact ⟨k + 1, mix X, by omega, rfl, by go_num, by rw [show 100 - (k + 1) = 99 - k from by omega]; exact pick_no _ _ _ _ _ h HQ.out⟩
        case measure => simp [intOf]; omega
    · have hk0 : 100 - k = 0 := by omega
      go_wp2
      go_ret
      exact ⟨ret_int (by have := HP.out; rw [hk0, pick] at this; exact this), rfl⟩
theorem below_any (a b c : BitVec 64) (n : Int) (w : World) :
    Calls Try.prog 77 #[u64 a, u64 b, u64 c, .int .i64 n] w fun e w' => e = .returned (.int .i64 (belowB a b c n)) ∧ w = w' := by
  unfold belowB
  by_cases h : n < 1 ∨ 2147483648 < n
  · rw [if_pos h]; exact below_out a b c n w h
  · rw [if_neg h]; exact below_in a b c n w (by omega) (by omega)
theorem rbelow_any (a b c : BitVec 64) (n : Int) (w : World) :
    Calls Try.prog 78 #[u64 a, u64 b, u64 c, .int .i64 n] w fun e w' => e = .returned (.int .i64 (belowB a b c n)) ∧ w = w' := by
  unfold belowB
  by_cases h : n < 1 ∨ 2147483648 < n
  · rw [if_pos h]; exact rbelow_out a b c n w h
  · rw [if_neg h]; exact rbelow_in a b c n w (by omega) (by omega)
end Go.Proofs.Ytmlfiphpcjkadaa
