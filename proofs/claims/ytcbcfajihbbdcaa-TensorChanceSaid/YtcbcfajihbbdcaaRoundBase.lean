/- Plain facts on shifts, and what round awakens to. -/
import Derived.Test.YtcbcfajihbbdcaaRound
namespace Go.Proofs.Ytcbcfajihbbdcaa
open Go.RowKit
set_option maxHeartbeats 1000000
theorem grown_drewN (w : World) (n : Nat) : Grown w (w.drewN n) := by
  induction n with
  | zero => exact Grown.refl w
  | succ n ih => exact ih.drew
theorem awake2_a : (nearI 5 1 == 3) = true := by decide
theorem awake2_b : (downI (-5) 1 == -3) = true := by decide
theorem awake2_c : (chanceI 5 2 3#64 == 2) = true := by decide
theorem div_facts (V M : Int) (hM : 1 ≤ M) : V / M * M ≤ V ∧ V < V / M * M + M := by
  have h1 := Int.mul_ediv_add_emod V M
  have h2 := Int.emod_nonneg V (show M ≠ 0 by omega)
  have h3 := Int.emod_lt_of_pos V (show 0 < M by omega)
  rw [Int.mul_comm] at h1
  omega
theorem div_uniq (V M q : Int) (hM : 1 ≤ M) (h1 : q * M ≤ V) (h2 : V < q * M + M) : V / M = q := by
  have h3 := div_facts V M hM
  have a1 : V / M * M < (q + 1) * M := by rw [Int.add_mul]; omega
  have a2 : q * M < (V / M + 1) * M := by rw [Int.add_mul]; omega
  have b1 := Int.lt_of_mul_lt_mul_right a1 (by omega)
  have b2 := Int.lt_of_mul_lt_mul_right a2 (by omega)
  omega
theorem div_in (V M K : Int) (hM : 1 ≤ M) (h : -K ≤ V ∧ V ≤ K) : -K ≤ V / M ∧ V / M ≤ K := by
  have h3 := div_facts V M hM
  have hK : 0 ≤ K := by omega
  constructor
  · by_cases h0 : 0 ≤ V / M
    · omega
    · have a := Int.mul_le_mul_of_nonpos_left (show V / M + 1 ≤ 0 by omega) hM
      rw [Int.mul_one, Int.add_mul, Int.one_mul] at a
      omega
  · by_cases h0 : 0 ≤ V / M
    · have a := Int.mul_le_mul_of_nonneg_left hM h0
      rw [Int.mul_one] at a
      omega
    · omega
theorem numb_id (V : Int) (h : -4611686018427387904 ≤ V ∧ V ≤ 4611686018427387904) : numb V = V := by unfold numb cl; omega
theorem shN_id (S : Nat) (h : S ≤ 62) : shN (S : Int) = S := by unfold shN cl; omega
theorem down_id (V : Int) (S : Nat) (h : -4611686018427387904 ≤ V ∧ V ≤ 4611686018427387904) (hS : S ≤ 62) : downI V S = V / 2 ^ S := by
  unfold downI; rw [numb_id V h, shN_id S hS]
/-- The nearest is the one below, or one more: whichever is not farther than a half. -/
theorem near_split (V : Int) (S : Nat) (h : -4611686018427387904 ≤ V ∧ V ≤ 4611686018427387904) (hS : S ≤ 62) :
    (nearI V S = V / 2 ^ S ∧ 2 * (V - V / 2 ^ S * 2 ^ S) ≤ 2 ^ S) ∨ (nearI V S = V / 2 ^ S + 1 ∧ 2 * ((V / 2 ^ S + 1) * 2 ^ S - V) ≤ 2 ^ S ∧ 0 ≤ (V / 2 ^ S + 1) * 2 ^ S - V) := by
  have hp := two_pow_ub S S (by omega)
  have hf := div_facts V (2 ^ S) hp.1
  unfold nearI
  rw [numb_id V h, shN_id S hS]
  by_cases h0 : S = 0
  · subst h0
    left
    have : (2 : Int) ^ 0 = 1 := rfl
    rw [if_pos rfl, this]
    omega
  · rw [if_neg h0]
    obtain ⟨T, rfl⟩ : ∃ T, S = T + 1 := ⟨S - 1, by omega⟩
    have e : (2 : Int) ^ (T + 1) = 2 * 2 ^ T := by rw [Int.pow_succ]; omega
    rw [show T + 1 - 1 = T from by omega]
    have hT := two_pow_ub T T (by omega)
    by_cases hc : 2 * (V - V / 2 ^ (T + 1) * 2 ^ (T + 1)) < 2 ^ (T + 1)
    · left
      exact ⟨div_uniq _ _ _ hp.1 (by omega) (by omega), by omega⟩
    · right
      have e2 : (V / 2 ^ (T + 1) + 1) * 2 ^ (T + 1) = V / 2 ^ (T + 1) * 2 ^ (T + 1) + 2 ^ (T + 1) := by rw [Int.add_mul, Int.one_mul]
      rw [e2]
      exact ⟨div_uniq _ _ _ hp.1 (by rw [e2]; omega) (by rw [e2]; omega), by omega, by omega⟩
theorem tmod_in (v m : Int) (hm : 0 < m) : -m < v.tmod m ∧ v.tmod m < m := ⟨Int.lt_tmod_of_pos v hm, Int.tmod_lt_of_pos v hm⟩
theorem bitLen_lt (x : Nat) (h : x < 2 ^ 64) : x < 2 ^ Lib.bitLen x ∧ (Lib.bitLen x = 0 ∨ 2 ^ (Lib.bitLen x - 1) ≤ x) := by
  induction x using Nat.strongRecOn with
  | _ x ih =>
    by_cases h0 : x = 0
    · subst h0; exact ⟨by decide, .inl rfl⟩
    · have hh := Lib.bitLen_half x h0 h
      have ih2 := ih (x / 2) (by omega) (by omega)
      rw [hh, show 1 + Lib.bitLen (x / 2) = Lib.bitLen (x / 2) + 1 from by omega]
      have e : 2 ^ (Lib.bitLen (x / 2) + 1) = 2 * 2 ^ Lib.bitLen (x / 2) := by rw [Nat.pow_succ]; omega
      refine ⟨by omega, .inr ?_⟩
      rw [show Lib.bitLen (x / 2) + 1 - 1 = Lib.bitLen (x / 2) from by omega]
      rcases ih2.2 with hz | hz
      · rw [hz]; simp; omega
      · by_cases hb : Lib.bitLen (x / 2) = 0
        · rw [hb]; simp; omega
        · have e2 : 2 ^ Lib.bitLen (x / 2) = 2 * 2 ^ (Lib.bitLen (x / 2) - 1) := by
            rw [show Lib.bitLen (x / 2) = (Lib.bitLen (x / 2) - 1) + 1 from by omega, Nat.pow_succ]
            simp; omega
          omega
theorem bits_split (V : Int) (h : -2147483648 < V ∧ V < 2147483648) :
    (bitsI V = 0 ∧ V = 0) ∨ ∃ T : Nat, bitsI V = ((T + 1 : Nat) : Int) ∧ T ≤ 30 ∧ (2 : Int) ^ T ≤ max V (-V) ∧ max V (-V) < 2 ^ (T + 1) := by
  unfold bitsI
  rw [numb_id V (by omega)]
  have hl := Lib.bitLen_le V.natAbs 31 (by omega) (by omega)
  have hb := bitLen_lt V.natAbs (by omega)
  rcases hb.2 with hz | hz
  · left
    rw [hz] at hb ⊢
    exact ⟨rfl, by simp at hb; omega⟩
  · by_cases h0 : Lib.bitLen V.natAbs = 0
    · left
      rw [h0] at hb ⊢
      exact ⟨rfl, by simp at hb; omega⟩
    · right
      refine ⟨Lib.bitLen V.natAbs - 1, ?_, by omega, ?_, ?_⟩
      · congr 1; omega
      · have e1 : (((2 ^ (Lib.bitLen V.natAbs - 1) : Nat)) : Int) = (2 : Int) ^ (Lib.bitLen V.natAbs - 1) := by norm_cast
        omega
      · rw [show Lib.bitLen V.natAbs - 1 + 1 = Lib.bitLen V.natAbs from by omega]
        have e1 : (((2 ^ (Lib.bitLen V.natAbs) : Nat)) : Int) = (2 : Int) ^ (Lib.bitLen V.natAbs) := by norm_cast
        omega
theorem clamp_stays (V : Int) (L : Nat) (hL : L ≤ 31) (h : max V (-V) < 2 ^ L) : clampI V ((L : Int) + 1) = V := by
  unfold clampI
  rw [show wid ((L : Int) + 1) = L from by unfold wid cl; omega]
  unfold cl
  omega
theorem clamp_two (V : Int) : clampI V 2 = max (-1) (min V 1) := by
  unfold clampI
  rw [show wid 2 = 1 from rfl, show (2 : Int) ^ 1 = 2 from rfl]
  unfold cl
  omega
theorem chance_split (V : Int) (S k : Nat) (h : -1125899906842624 < V ∧ V < 1125899906842624) (hS : S < 8) (hk : (k : Int) < 2 ^ S) :
    (numb V + (k : Int) % 2 ^ shN (S : Int)) / 2 ^ shN (S : Int) = V / 2 ^ S + (if 2 ^ S ≤ V - V / 2 ^ S * 2 ^ S + k then 1 else 0) := by
  have hp : (1 : Int) ≤ 2 ^ S ∧ (2 : Int) ^ S ≤ 128 := two_pow_ub S 7 (by omega)
  have hf := div_facts V (2 ^ S) hp.1
  rw [numb_id V (by omega), shN_id S (by omega), Int.emod_eq_of_lt (by omega) hk]
  split
  · exact div_uniq _ _ _ hp.1 (by rw [Int.add_mul]; omega) (by rw [Int.add_mul]; omega)
  · exact div_uniq _ _ _ hp.1 (by rw [Int.add_zero]; omega) (by rw [Int.add_zero]; omega)
theorem chance_int (v s r : Int) (h0 : 0 ≤ r) (h1 : r ≤ 18446744073709551615) (w : World) : Calls Try.prog 39 #[.int .i64 v, .int .i64 s, .int .u64 r] w fun e w' => e = .returned (.int .i64 ((numb v + r % 2 ^ shN s) / 2 ^ shN s)) ∧ ∃ n, w' = w.drewN n := by
  obtain ⟨x, rfl⟩ := N_ex r h0 h1
  exact chance_any v s x w
end Go.Proofs.Ytcbcfajihbbdcaa
