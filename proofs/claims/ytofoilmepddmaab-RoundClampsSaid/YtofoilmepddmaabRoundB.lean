/- Four further laws of round: each returns true. -/
import Derived.Test.YtofoilmepddmaabRoundBase
namespace Go.Proofs.Ytofoilmepddmaab
open Go.RowKit
set_option maxHeartbeats 1000000
theorem mod_ex (s : Int) (m : Int) (hm : 0 < m) (hm2 : m ≤ 9223372036854775807) : ∃ S : Nat, (IntKind.u64.wrap s).tmod m = (S:Int) ∧ (S : Int) < m := by
  have h1 : 0 ≤ IntKind.u64.wrap s := by rw [IntKind.wrap_u64]; omega
  rw [Int.tmod_eq_emod_of_nonneg h1]
  have h2 := Int.emod_nonneg (IntKind.u64.wrap s) (show m ≠ 0 by omega)
  have h3 := Int.emod_lt_of_pos (IntKind.u64.wrap s) hm
  exact ⟨(IntKind.u64.wrap s % m).toNat, by omega, by omega⟩
theorem shl_div (V : Int) (S : Nat) : V * 2 ^ S / 2 ^ S = V := Int.mul_ediv_cancel _ (by have := two_pow_ub S S (by omega); omega)
theorem near_whole (V : Int) (S : Nat) (h : -4611686018427387904 ≤ V * 2 ^ S ∧ V * 2 ^ S ≤ 4611686018427387904) (hS : S ≤ 62) : nearI (V * 2 ^ S) S = V := by
  rcases near_split (V * 2 ^ S) S h hS with ⟨h1, _⟩ | ⟨h1, h2, h3⟩
  · rw [h1, shl_div]
  · have hp := two_pow_ub S S (by omega)
    rw [shl_div, Int.add_mul] at h2
    omega
theorem chance_whole (V : Int) (S : Nat) (r : BitVec 64) (h : -4611686018427387904 ≤ V * 2 ^ S ∧ V * 2 ^ S ≤ 4611686018427387904) (hS : S ≤ 62) : chanceI (V * 2 ^ S) S r = V := by
  unfold chanceI
  have hp := two_pow_ub S S (by omega)
  have hr1 := Int.emod_nonneg (N r) (show (2 : Int) ^ S ≠ 0 by omega)
  have hr2 := Int.emod_lt_of_pos (N r) (show (0 : Int) < 2 ^ S by omega)
  rw [numb_id _ h, shN_id S hS]
  exact div_uniq _ _ _ hp.1 (by omega) (by omega)
theorem down_whole (V : Int) (S : Nat) (h : -4611686018427387904 ≤ V * 2 ^ S ∧ V * 2 ^ S ≤ 4611686018427387904) (hS : S ≤ 62) : downI (V * 2 ^ S) S = V := by
  rw [down_id _ _ h hS, shl_div]
theorem mul_in' (c p C P : Int) (hc : -C ≤ c ∧ c ≤ C) (hp : 1 ≤ p ∧ p ≤ P) (hC : 0 ≤ C) : -(C * P) ≤ c * p ∧ c * p ≤ C * P := by
  have h1 := Int.mul_le_mul_of_nonneg_right hc.2 (show 0 ≤ p by omega)
  have h2 := Int.mul_le_mul_of_nonneg_right hc.1 (show 0 ≤ p by omega)
  have h3 := Int.mul_le_mul_of_nonneg_left hp.2 hC
  rw [Int.neg_mul] at h2
  omega
theorem roundWhole_any (v s : Int) (r : BitVec 64) (w : World) :
    Calls Try.prog 6 #[.int .i64 v, .int .i64 s, u64 r] w fun e w' => e = .returned (.bool true) ∧ ∃ n, w' = w.drewN n := by
  obtain ⟨S, hS, hS8⟩ := mod_ex s 20 (by omega) (by omega)
  obtain ⟨V, hV, hV1⟩ : ∃ V : Int, v.tmod 1099511627776 = V ∧ (-1099511627776 < V ∧ V < 1099511627776) := ⟨_, rfl, tmod_in v _ (by omega)⟩
  have hm : min S 64 = S := by omega
  have hp : (1 : Int) ≤ 2 ^ S ∧ (2 : Int) ^ S ≤ 1048576 := two_pow_ub S 20 (by omega)
  have hx : -1152921504606846976 ≤ V * 2 ^ S ∧ V * 2 ^ S ≤ 1152921504606846976 := mul_in' V _ 1099511627776 1048576 (by omega) hp (by omega)
  have h1 := down_whole V S (by omega) (by omega)
  have h2 := near_whole V S (by omega) (by omega)
  have h3 := chance_whole V S r (by omega) (by omega)
  have h4 : chanceI V 0 r = V := by have := chance_whole V 0 r (by omega) (by omega); simpa using this
  have h5 : nearI V 0 = V := by have := near_whole V 0 (by omega) (by omega); simpa using this
  obtain ⟨X, hX⟩ : ∃ X, V * 2 ^ S = X := ⟨_, rfl⟩
  rw [hX] at h1 h2 h3 hx
  have H1 := Lib.hid h1; have H2 := Lib.hid h2; have H3 := Lib.hid h3; have H4 := Lib.hid h4; have H5 := Lib.hid h5
  clear h1 h2 h3 h4 h5
  go_enter Try.func6, Try.ntmps6
  go_wp2_with (first | (go_at_call 17; refine (down_any _ _ _).mono ?_; rintro e w' ⟨rfl, rfl⟩; rw [H1.out]) | (go_at_call 18; refine (near_any _ _ _).mono ?_; rintro e w' ⟨rfl, n, rfl⟩; first | rw [H2.out] | rw [H5.out]) | (go_at_call 19; refine (chance_any _ _ _ _).mono ?_; rintro e w' ⟨rfl, n, rfl⟩; first | rw [H3.out] | rw [H4.out]) | (go_at_call 16; refine (awake2_any _).mono ?_; rintro e w' ⟨rfl, n, rfl⟩))
  go_ret
  exact ⟨rfl, _, rfl⟩
theorem gap_near (F : Int) (D : Nat) (hF : -500 < F ∧ F < 500) (hD : D < 10) : gap F (F - D) = D ∧ gap (F - D) F = -D ∧ gap F F = 0 := by unfold gap cl; omega
theorem align_up (V F : Int) (D : Nat) (hV : -1024 < V ∧ V < 1024) (hF : -500 < F ∧ F < 500) (hD : D < 10) : alignI V F (F - D) = V * 2 ^ D := by
  have hp : (1 : Int) ≤ 2 ^ D ∧ (2 : Int) ^ D ≤ 512 := two_pow_ub D 9 (by omega)
  have hx := mul_in' V _ 1023 512 (by omega) hp (by omega)
  unfold alignI
  rw [(gap_near F D hF hD).1, if_neg (by omega), show cut20 V = V from by unfold cut20 cl; omega, show (min (D : Int) 20).toNat = D from by omega]
  unfold cut20 cl; omega
theorem align_back (V F : Int) (D : Nat) (hV : -1024 < V ∧ V < 1024) (hF : -500 < F ∧ F < 500) (hD : D < 10) : alignI (V * 2 ^ D) (F - D) F = V := by
  have hp : (1 : Int) ≤ 2 ^ D ∧ (2 : Int) ^ D ≤ 512 := two_pow_ub D 9 (by omega)
  have hx := mul_in' V _ 1023 512 (by omega) hp (by omega)
  unfold alignI
  rw [(gap_near F D hF hD).2.1]
  by_cases h : D = 0
  · subst h
    rw [if_neg (by omega), show (min (-((0 : Nat) : Int)) 20).toNat = 0 from by omega, show (2 : Int) ^ 0 = 1 from rfl, Int.mul_one, Int.mul_one]
    unfold cut20 cl; omega
  · rw [if_pos (by omega), Int.neg_neg]
    exact down_whole V D (by omega) (by omega)
theorem align_nil (a b : Int) : alignI 0 a b = 0 := by
  unfold alignI
  split
  · unfold downI
    rw [show numb 0 = 0 from rfl, Int.zero_ediv]
  · rw [show cut20 0 = 0 from rfl, Int.zero_mul]; rfl
theorem align_same (V F : Int) (hV : -1024 < V ∧ V < 1024) : alignI V F F = V := by
  unfold alignI
  rw [show gap F F = 0 from by unfold gap; omega, if_neg (by omega), show (min (0 : Int) 20).toNat = 0 from rfl, show (2 : Int) ^ 0 = 1 from rfl, Int.mul_one]
  unfold cut20 cl; omega
set_option maxHeartbeats 1000000 in
theorem roundAlign_any (v f d : Int) (w : World) :
    Calls Try.prog 3 #[.int .i64 v, .int .i64 f, .int .i64 d] w fun e w' => e = .returned (.bool true) ∧ ∃ n, w' = w.drewN n := by
  obtain ⟨D, hD, hD10⟩ := mod_ex d 10 (by omega) (by omega)
  obtain ⟨V, hV, hV1⟩ : ∃ V : Int, v.tmod 1024 = V ∧ (-1024 < V ∧ V < 1024) := ⟨_, rfl, tmod_in v _ (by omega)⟩
  obtain ⟨F, hF, hF1⟩ : ∃ F : Int, f.tmod 500 = F ∧ (-500 < F ∧ F < 500) := ⟨_, rfl, tmod_in f _ (by omega)⟩
  have hm : min D 64 = D := by omega
  have hp : (1 : Int) ≤ 2 ^ D ∧ (2 : Int) ^ D ≤ 512 := two_pow_ub D 9 (by omega)
  have hx : -523776 ≤ V * 2 ^ D ∧ V * 2 ^ D ≤ 523776 := mul_in' V _ 1023 512 (by omega) hp (by omega)
  have h1 := align_up V F D hV1 hF1 (by omega)
  have h2 := align_back V F D hV1 hF1 (by omega)
  have h3 := align_nil F D
  have h4 := align_same V F hV1
  obtain ⟨X, hX⟩ : ∃ X, V * 2 ^ D = X := ⟨_, rfl⟩
  rw [hX] at h1 h2 hx
  have H1 := Lib.hid h1; have H2 := Lib.hid h2; have H3 := Lib.hid h3; have H4 := Lib.hid h4
  clear h1 h2 h3 h4
  go_enter Try.func3, Try.ntmps3
  go_wp2_with (first | (go_at_call 15; refine (align_any _ _ _ _).mono ?_; rintro e w' ⟨rfl, rfl⟩; first | rw [H1.out] | rw [H2.out] | rw [H3.out] | rw [H4.out]) | (go_at_call 16; refine (awake2_any _).mono ?_; rintro e w' ⟨rfl, n, rfl⟩))
  go_ret
  exact ⟨rfl, _, rfl⟩
theorem clamp_in (v : Int) (L : Nat) (hL : L ≤ 31) : clampI v (1 + (L : Int)) = cl v (-(2 ^ L - 1)) (2 ^ L - 1) := by
  unfold clampI
  rw [show wid (1 + (L : Int)) = L from by unfold wid cl; omega]
theorem pow_le (A B : Nat) (h : A ≤ B) : (2 : Int) ^ A ≤ 2 ^ B := (two_pow_ub A B h).2
theorem clamp_narrow (v : Int) (X Y : Nat) (hX : X ≤ 31) (hY : Y ≤ 31) :
    (clampI (clampI v (max (1 + (X : Int)) (1 + (Y : Int)))) (min (1 + (X : Int)) (1 + (Y : Int))) == clampI v (min (1 + (X : Int)) (1 + (Y : Int)))) = true := by
  rw [beq_iff_eq, show max (1 + (X : Int)) (1 + (Y : Int)) = 1 + ((max X Y : Nat) : Int) from by omega, show min (1 + (X : Int)) (1 + (Y : Int)) = 1 + ((min X Y : Nat) : Int) from by omega,
    clamp_in v (max X Y) (by omega), clamp_in v (min X Y) (by omega), clamp_in _ (min X Y) (by omega)]
  have h := pow_le (min X Y) (max X Y) (by omega)
  have h1 := (two_pow_ub (min X Y) 31 (by omega)).1
  unfold cl
  omega
set_option maxHeartbeats 1000000 in
theorem roundClamps_any (v x y : Int) (w : World) :
    Calls Try.prog 5 #[.int .i64 v, .int .i64 x, .int .i64 y] w fun e w' => e = .returned (.bool true) ∧ ∃ n, w' = w.drewN n := by
  obtain ⟨X, hX, hX32⟩ := mod_ex x 32 (by omega) (by omega)
  obtain ⟨Y, hY, hY32⟩ := mod_ex y 32 (by omega) (by omega)
  have hm : min X 64 = X := by omega
  have hp : (1 : Int) ≤ 2 ^ X ∧ (2 : Int) ^ X ≤ 2147483648 := two_pow_ub X 31 (by omega)
  have hK3 := clamp_narrow v X Y (by omega) (by omega)
  rw [show max (1 + (X : Int)) (1 + (Y : Int)) = 1 + max (X : Int) (Y : Int) from by omega, show min (1 + (X : Int)) (1 + (Y : Int)) = 1 + min (X : Int) (Y : Int) from by omega] at hK3
  have hw : wrap64 ((2 : Int) ^ X) = 2 ^ X := IntWalk.wrap64_in _ (by omega)
  have hc := clamp_in v X (by omega)
  obtain ⟨c, hcc⟩ : ∃ c, clampI v (1 + (X : Int)) = c := ⟨_, rfl⟩
  have hc1 : -(2 ^ X - 1) ≤ c ∧ c ≤ 2 ^ X - 1 := by rw [← hcc, hc]; exact cl_in _ _ _ (by omega)
  have hK2 : (clampI c (1 + (X : Int)) == c) = true := by rw [beq_iff_eq, clamp_in c X (by omega)]; unfold cl; omega
  have hK4 : (clampI (-c) (1 + (X : Int)) == -c) = true := by rw [beq_iff_eq, clamp_in (-c) X (by omega)]; unfold cl; omega
  have hC3 : v < -(2 ^ X - 1) ∨ 2 ^ X - 1 < v ∨ (c == v) = true := by
    by_cases h1 : v < -(2 ^ X - 1)
    · exact .inl h1
    · by_cases h2 : 2 ^ X - 1 < v
      · exact .inr (.inl h2)
      · exact .inr (.inr (by rw [beq_iff_eq, ← hcc, hc]; unfold cl; omega))
  have HC := Lib.hid hcc
  clear hc hcc
  rcases hC3 with h | h | h
  · go_enter Try.func5, Try.ntmps5
    go_wp2_with (first | (go_at_call 20; refine (clamp_any _ _ _).mono ?_; rintro e w' ⟨rfl, rfl⟩; try rw [HC.out]) | (go_at_call 16; refine (awake2_any _).mono ?_; rintro e w' ⟨rfl, n, rfl⟩))
    go_ret
    exact ⟨rfl, _, rfl⟩
  · have h' : ¬ v < -(2 ^ X - 1) := by omega
    go_enter Try.func5, Try.ntmps5
    go_wp2_with (first | (go_at_call 20; refine (clamp_any _ _ _).mono ?_; rintro e w' ⟨rfl, rfl⟩; try rw [HC.out]) | (go_at_call 16; refine (awake2_any _).mono ?_; rintro e w' ⟨rfl, n, rfl⟩))
    go_ret
    exact ⟨rfl, _, rfl⟩
  · have h1 : ¬ v < -(2 ^ X - 1) := by have := beq_iff_eq.1 h; omega
    have h2 : ¬ 2 ^ X - 1 < v := by have := beq_iff_eq.1 h; omega
    go_enter Try.func5, Try.ntmps5
    go_wp2_with (first | (go_at_call 20; refine (clamp_any _ _ _).mono ?_; rintro e w' ⟨rfl, rfl⟩; try rw [HC.out]) | (go_at_call 16; refine (awake2_any _).mono ?_; rintro e w' ⟨rfl, n, rfl⟩))
    go_ret
    exact ⟨rfl, _, rfl⟩
theorem ediv_mono (a b M : Int) (hM : 1 ≤ M) (h : a ≤ b) : a / M ≤ b / M := Int.ediv_le_ediv (by omega) h
theorem numb_mono (a b : Int) (h : a ≤ b) : numb a ≤ numb b := by unfold numb cl; omega
theorem down_mono (a b s : Int) (h : a ≤ b) : downI a s ≤ downI b s := ediv_mono _ _ _ (two_pow_ub _ _ (Nat.le_refl _)).1 (numb_mono a b h)
theorem near_mono (a b s : Int) (h : a ≤ b) : nearI a s ≤ nearI b s := by
  have := numb_mono a b h
  unfold nearI
  split
  · exact this
  · exact ediv_mono _ _ _ (two_pow_ub _ _ (Nat.le_refl _)).1 (by omega)
theorem chance_mono (a b s : Int) (r : BitVec 64) (h : a ≤ b) : chanceI a s r ≤ chanceI b s r := by
  have := numb_mono a b h
  exact ediv_mono _ _ _ (two_pow_ub _ _ (Nat.le_refl _)).1 (by omega)
theorem down_down (v : Int) (S T : Nat) (h : S ≤ T) (hT : T < 60) : downI (downI v S) ((T : Int) - S) = downI v T := by
  have hn := numb_in v
  have hp := two_pow_ub S S (by omega)
  have hd := div_in (numb v) (2 ^ S) 4611686018427387904 hp.1 (by omega)
  unfold downI
  rw [shN_id S (by omega), shN_id T (by omega), show ((T : Int) - S) = ((T - S : Nat) : Int) from by omega, shN_id (T - S) (by omega), numb_id _ hd]
  rw [Int.ediv_ediv_of_nonneg (by omega), ← Int.pow_add, show S + (T - S) = T from by omega]
set_option maxHeartbeats 1000000 in
theorem rises_core (a b : Int) (S T : Nat) (r : BitVec 64) (hab : a ≤ b) (h : S ≤ T) (hT : T < 60) :
    downI a S ≤ downI b S ∧ nearI a S ≤ nearI b S ∧ chanceI a S r ≤ chanceI b S r ∧ (downI (downI a S) ((T : Int) - S) == downI a T) = true :=
  ⟨down_mono a b S hab, near_mono a b S hab, chance_mono a b S r hab, by rw [beq_iff_eq]; exact down_down a S T h hT⟩
set_option maxHeartbeats 2000000 in
theorem roundRises_any (v x s t : Int) (r : BitVec 64) (w : World) :
    Calls Try.prog 4 #[.int .i64 v, .int .i64 x, .int .i64 s, .int .i64 t, u64 r] w fun e w' => e = .returned (.bool true) ∧ ∃ n, w' = w.drewN n := by
  obtain ⟨S, hS, hS60⟩ := mod_ex s 60 (by omega) (by omega)
  obtain ⟨T, hT, hT60⟩ := mod_ex t 60 (by omega) (by omega)
  by_cases h1 : x < v
  · by_cases h2 : T < S
    · obtain ⟨k1, k2, k3, k4⟩ := rises_core x v T S r (by omega) (by omega) (by omega)
      go_enter Try.func4, Try.ntmps4
      go_wp2_with (first | (go_at_call 17; refine (down_any _ _ _).mono ?_; rintro e w' ⟨rfl, rfl⟩) | (go_at_call 18; refine (near_any _ _ _).mono ?_; rintro e w' ⟨rfl, n, rfl⟩) | (go_at_call 19; refine (chance_any _ _ _ _).mono ?_; rintro e w' ⟨rfl, n, rfl⟩) | (go_at_call 16; refine (awake2_any _).mono ?_; rintro e w' ⟨rfl, n, rfl⟩))
      go_ret
      exact ⟨rfl, _, rfl⟩
    · obtain ⟨k1, k2, k3, k4⟩ := rises_core x v S T r (by omega) (by omega) (by omega)
      go_enter Try.func4, Try.ntmps4
      go_wp2_with (first | (go_at_call 17; refine (down_any _ _ _).mono ?_; rintro e w' ⟨rfl, rfl⟩) | (go_at_call 18; refine (near_any _ _ _).mono ?_; rintro e w' ⟨rfl, n, rfl⟩) | (go_at_call 19; refine (chance_any _ _ _ _).mono ?_; rintro e w' ⟨rfl, n, rfl⟩) | (go_at_call 16; refine (awake2_any _).mono ?_; rintro e w' ⟨rfl, n, rfl⟩))
      go_ret
      exact ⟨rfl, _, rfl⟩
  · by_cases h2 : T < S
    · obtain ⟨k1, k2, k3, k4⟩ := rises_core v x T S r (by omega) (by omega) (by omega)
      go_enter Try.func4, Try.ntmps4
      go_wp2_with (first | (go_at_call 17; refine (down_any _ _ _).mono ?_; rintro e w' ⟨rfl, rfl⟩) | (go_at_call 18; refine (near_any _ _ _).mono ?_; rintro e w' ⟨rfl, n, rfl⟩) | (go_at_call 19; refine (chance_any _ _ _ _).mono ?_; rintro e w' ⟨rfl, n, rfl⟩) | (go_at_call 16; refine (awake2_any _).mono ?_; rintro e w' ⟨rfl, n, rfl⟩))
      go_ret
      exact ⟨rfl, _, rfl⟩
    · obtain ⟨k1, k2, k3, k4⟩ := rises_core v x S T r (by omega) (by omega) (by omega)
      go_enter Try.func4, Try.ntmps4
      go_wp2_with (first | (go_at_call 17; refine (down_any _ _ _).mono ?_; rintro e w' ⟨rfl, rfl⟩) | (go_at_call 18; refine (near_any _ _ _).mono ?_; rintro e w' ⟨rfl, n, rfl⟩) | (go_at_call 19; refine (chance_any _ _ _ _).mono ?_; rintro e w' ⟨rfl, n, rfl⟩) | (go_at_call 16; refine (awake2_any _).mono ?_; rintro e w' ⟨rfl, n, rfl⟩))
      go_ret
      exact ⟨rfl, _, rfl⟩
end Go.Proofs.Ytofoilmepddmaab
