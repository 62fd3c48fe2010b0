/- Four laws of round: each returns true. -/
import Derived.Test.YtofoilmepddmaaaRoundBase
namespace Go.Proofs.Ytofoilmepddmaaa
open Go.RowKit
set_option maxHeartbeats 1000000
theorem roundForms_any (v s x a b : Int) (r : BitVec 64) (w : World) :
    Calls Try.prog 11 #[.int .i64 v, .int .i64 s, .int .i64 x, .int .i64 a, .int .i64 b, u64 r] w fun e w' => e = .returned (.bool true) ∧ ∃ n, w' = w.drewN n := by
  go_enter Try.func11, Try.ntmps11
  go_wp2_with (first | (go_at_call 25; refine (down_any _ _ _).mono ?_; rintro e w' ⟨rfl, rfl⟩) | (go_at_call 27; refine (near_any _ _ _).mono ?_; rintro e w' ⟨rfl, n, rfl⟩) | (go_at_call 29; refine (chance_any _ _ _ _).mono ?_; rintro e w' ⟨rfl, n, rfl⟩) | (go_at_call 31; refine (bits_any _ _).mono ?_; rintro e w' ⟨rfl, rfl⟩) | (go_at_call 33; refine (clamp_any _ _ _).mono ?_; rintro e w' ⟨rfl, rfl⟩) | (go_at_call 35; refine (align_any _ _ _ _).mono ?_; rintro e w' ⟨rfl, rfl⟩) | (go_at_call 26; refine (rdown_any _ _ _).mono ?_; rintro e w' ⟨rfl, rfl⟩) | (go_at_call 28; refine (rnear_any _ _ _).mono ?_; rintro e w' ⟨rfl, rfl⟩) | (go_at_call 30; refine (rchance_any _ _ _ _).mono ?_; rintro e w' ⟨rfl, rfl⟩) | (go_at_call 32; refine (rbits_any _ _).mono ?_; rintro e w' ⟨rfl, rfl⟩) | (go_at_call 34; refine (rclamp_any _ _ _).mono ?_; rintro e w' ⟨rfl, rfl⟩) | (go_at_call 36; refine (ralign_any _ _ _ _).mono ?_; rintro e w' ⟨rfl, rfl⟩) | (go_at_call 37; refine (awake2_any _).mono ?_; rintro e w' ⟨rfl, n, rfl⟩))
  go_ret
  exact ⟨rfl, _, rfl⟩
set_option maxRecDepth 20000 in
theorem roundNear_any (v s : Int) (w : World) :
    Calls Try.prog 13 #[.int .i64 v, .int .i64 s] w fun e w' => e = .returned (.bool true) ∧ ∃ n, w' = w.drewN n := by
  obtain ⟨S, hS, hS8⟩ : ∃ S : Nat, (IntKind.u64.wrap s).tmod 50 = (S:Int) ∧ S < 50 := by
    rw [IntKind.wrap_u64, Int.tmod_eq_emod_of_nonneg (by omega)]
    exact ⟨(s % 18446744073709551616 % 50).toNat, by omega, by omega⟩
  obtain ⟨V, hV, hV1⟩ : ∃ V : Int, v.tmod 1152921504606846976 = V ∧ (-1152921504606846976 < V ∧ V < 1152921504606846976) := ⟨_, rfl, tmod_in v _ (by omega)⟩
  have hm : min S 64 = S := by omega
  have hp : (1 : Int) ≤ 2 ^ S ∧ (2 : Int) ^ S ≤ 562949953421312 := two_pow_ub S 49 (by omega)
  obtain ⟨q, hq⟩ : ∃ q, V / 2 ^ S = q := ⟨_, rfl⟩
  have hd := down_id V S (by omega) (by omega)
  have hf := div_facts V (2 ^ S) hp.1
  have hn := near_split V S (by omega) (by omega)
  have hi := div_in V (2 ^ S) 1152921504606846976 hp.1 (by omega)
  rw [hq] at hd hf hn hi
  have HD := Lib.hid hd
  clear hd hq
  rcases hn with ⟨hn, hb⟩ | ⟨hn, hb, hb'⟩
  · have HN := Lib.hid hn
    clear hn
    have hbe : (q == q + 1) = false := by rw [beq_eq_false_iff_ne]; omega
    go_enter Try.func13, Try.ntmps13
    go_wp2_with (first | (go_at_call 25; refine (down_any _ _ _).mono ?_; rintro e w' ⟨rfl, rfl⟩; rw [HD.out]) | (go_at_call 27; refine (near_any _ _ _).mono ?_; rintro e w' ⟨rfl, n, rfl⟩; rw [HN.out]) | (go_at_call 37; refine (awake2_any _).mono ?_; rintro e w' ⟨rfl, n, rfl⟩))
    go_ret
    exact ⟨rfl, _, rfl⟩
  · have HN := Lib.hid hn
    clear hn
    obtain ⟨P, hP, hP1, hP2⟩ : ∃ P, (q + 1) * 2 ^ S = P ∧ 2 * (P - V) ≤ 2 ^ S ∧ V ≤ P := ⟨_, rfl, hb, by omega⟩
    clear hb hb'
    have hbe : (q + 1 == q) = false := by rw [beq_eq_false_iff_ne]; omega
    go_enter Try.func13, Try.ntmps13
    go_wp2_with (first | (go_at_call 25; refine (down_any _ _ _).mono ?_; rintro e w' ⟨rfl, rfl⟩; rw [HD.out]) | (go_at_call 27; refine (near_any _ _ _).mono ?_; rintro e w' ⟨rfl, n, rfl⟩; rw [HN.out]) | (go_at_call 37; refine (awake2_any _).mono ?_; rintro e w' ⟨rfl, n, rfl⟩))
    go_ret
    exact ⟨rfl, _, rfl⟩
theorem roundBits_any (v : Int) (w : World) :
    Calls Try.prog 14 #[.int .i64 v] w fun e w' => e = .returned (.bool true) ∧ ∃ n, w' = w.drewN n := by
  obtain ⟨V, hV, hV1⟩ : ∃ V : Int, v.tmod 2147483648 = V ∧ (-2147483648 < V ∧ V < 2147483648) := ⟨_, rfl, tmod_in v _ (by omega)⟩
  have H2 : (clampI V 2 == max (-1) (min V 1)) = true := by rw [clamp_two]; exact beq_self_eq_true _
  rcases bits_split V hV1 with ⟨hb, h0⟩ | ⟨T, hb, hT, h1, h2⟩
  · have HB := Lib.hid hb
    have H1 : (clampI V 1 == V) = true := by have := clamp_stays V 0 (by omega) (by rw [h0]; decide); rw [beq_iff_eq]; exact this
    have h0' : max V (-V) < 1 := by omega
    clear hb h0
    go_enter Try.func14, Try.ntmps14
    go_wp2_with (first | (go_at_call 31; refine (bits_any _ _).mono ?_; rintro e w' ⟨rfl, rfl⟩; rw [HB.out]) | (go_at_call 33; refine (clamp_any _ _ _).mono ?_; rintro e w' ⟨rfl, rfl⟩) | (go_at_call 37; refine (awake2_any _).mono ?_; rintro e w' ⟨rfl, n, rfl⟩))
    go_ret
    exact ⟨rfl, _, rfl⟩
  · have HB := Lib.hid hb
    have H1 : (clampI V ((T : Int) + 1 + 1) == V) = true := by have := clamp_stays V (T + 1) (by omega) h2; rw [beq_iff_eq]; exact this
    clear hb
    have hm : min T 64 = T := by omega
    have hm' : min (T + 1) 64 = T + 1 := by omega
    have hp : (1 : Int) ≤ 2 ^ T ∧ (2 : Int) ^ T ≤ 1073741824 := two_pow_ub T 30 hT
    have hp' : (1 : Int) ≤ 2 ^ (T + 1) ∧ (2 : Int) ^ (T + 1) ≤ 2147483648 := two_pow_ub (T + 1) 31 (by omega)
    have hz : ((T : Int) + 1 == 0) = false := by rw [beq_eq_false_iff_ne]; omega
    go_enter Try.func14, Try.ntmps14
    go_wp2_with (first | (go_at_call 31; refine (bits_any _ _).mono ?_; rintro e w' ⟨rfl, rfl⟩; rw [HB.out]) | (go_at_call 33; refine (clamp_any _ _ _).mono ?_; rintro e w' ⟨rfl, rfl⟩) | (go_at_call 37; refine (awake2_any _).mono ?_; rintro e w' ⟨rfl, n, rfl⟩))
    go_ret
    exact ⟨rfl, _, rfl⟩
theorem roundChance_any (v s : Int) (w : World) :
    Calls Try.prog 12 #[.int .i64 v, .int .i64 s] w fun e w' => e = .returned (.bool true) ∧ ∃ n, w' = w.drewN n := by
  obtain ⟨S, hS, hS8⟩ : ∃ S : Nat, (IntKind.u64.wrap s).tmod 8 = (S:Int) ∧ S < 8 := by
    rw [IntKind.wrap_u64, Int.tmod_eq_emod_of_nonneg (by omega)]
    exact ⟨(s % 18446744073709551616 % 8).toNat, by omega, by omega⟩
  obtain ⟨V, hV, hV1⟩ : ∃ V : Int, v.tmod 1125899906842624 = V ∧ (-1125899906842624 < V ∧ V < 1125899906842624) := ⟨_, rfl, tmod_in v _ (by omega)⟩
  have hm : min S 64 = S := by omega
  have hp : (1 : Int) ≤ 2 ^ S ∧ (2 : Int) ^ S ≤ 128 := two_pow_ub S 7 (by omega)
  obtain ⟨M, hM⟩ : ∃ M : Nat, (2 : Int) ^ S = M := ⟨2 ^ S, by norm_cast⟩
  have hcs := fun (k : Nat) (hk : (k : Int) < 2 ^ S) => chance_split V S k hV1 hS8 hk
  have hd := down_id V S (by omega) (by omega)
  have hf := div_facts V (2 ^ S) hp.1
  have hi := div_in V (2 ^ S) 1125899906842624 hp.1 (by omega)
  obtain ⟨q, hq⟩ : ∃ q, V / 2 ^ S = q := ⟨_, rfl⟩
  rw [hq] at hd hf hi
  rw [hq] at hcs
  obtain ⟨L, hL⟩ : ∃ L, V - q * 2 ^ S = L := ⟨_, rfl⟩
  rw [hL] at hcs
  have hL1 : 0 ≤ L ∧ L < 2 ^ S := by omega
  rw [hM] at hp hL1 hcs hL hf
  have HCS := Lib.hid hcs
  have HD := Lib.hid hd
  clear hd hq hcs
  have hqm : -2251799813685248 ≤ q * M ∧ q * M ≤ 2251799813685248 := by omega
  clear hf
  go_enter Try.func12, Try.ntmps12
  go_wp2_with (go_at_call 25; refine (down_any _ _ _).mono ?_; rintro e w' ⟨rfl, rfl⟩; rw [HD.out])
  obtain ⟨wo, rfl⟩ : ∃ wo : World, wo = w := ⟨_, rfl⟩
  go_loopw [7, 28] (fun up r wr => ∃ k : Nat, k ≤ M ∧ up = .int .i64 (max 0 ((k : Int) + L - M)) ∧ r = .int .u64 k ∧ ∃ n, wr = wo.drewN n) (fun _ r _ => M - (intOf r).toNat)
  case atStart => exact ⟨0, by omega, by congr 1; omega, rfl, 0, rfl⟩
  case round =>
    obtain ⟨k, hk, rfl, rfl, n, rfl⟩ := hrel
    by_cases hlt : k < M
    · have hv := HCS.out k (by omega)
      by_cases hc : (M : Int) ≤ L + k
      · rw [if_pos hc] at hv
        have HV := Lib.hid hv
        clear hv
        have hne : (q + 1 == q) = false := by rw [beq_eq_false_iff_ne]; omega
        have e1 : max 0 ((k : Int) + L - M) + (q + 1 - q) = max 0 (((k + 1 : Nat) : Int) + L - M) := by omega
        have E1 := Lib.hid e1
        clear e1
        go_wp2_with (go_at_call 29; refine (chance_int _ _ _ (by omega) (by omega) _).mono ?_; rintro e w' ⟨rfl, n', rfl⟩; rw [HV.out])
        rw [E1.out]
        go_roundw
        case rel => exact ⟨k + 1, by omega, rfl, by go_num, _, rfl⟩
        case measure => simp [intOf]; omega
      · rw [if_neg hc, Int.add_zero] at hv
        have HV := Lib.hid hv
        clear hv
        have e1 : max 0 ((k : Int) + L - M) = max 0 (((k + 1 : Nat) : Int) + L - M) := by omega
        have E1 := Lib.hid e1
        clear e1
        go_wp2_with (go_at_call 29; refine (chance_int _ _ _ (by omega) (by omega) _).mono ?_; rintro e w' ⟨rfl, n', rfl⟩; rw [HV.out])
        go_roundw
        case rel => exact ⟨k + 1, by omega, by rw [← E1.out], by go_num, _, rfl⟩
        case measure => simp [intOf]; omega
    · have hk0 : k = M := by omega
      subst hk0
      have hx : max 0 ((k : Int) + L - k) = L := by omega
      go_wp2_with (go_at_call 37; refine (awake2_any _).mono ?_; rintro e w' ⟨rfl, n', rfl⟩)
      go_ret
      exact ⟨rfl, _, rfl⟩
end Go.Proofs.Ytofoilmepddmaaa
