/- Rows of lengths: Out. -/
import Derived.Test.YtbdokpfjggilhaaShape2
namespace Go.Proofs.Ytbdokpfjggilhaa
open Go.RowKit
set_option maxHeartbeats 1000000
def outI (n k s p : Int) : Int :=
  if n < 1 ∨ 16 < n ∨ k < 1 ∨ 5 < k ∨ s < 1 ∨ 4 < s ∨ p < 0 ∨ k ≤ p ∨ n + 2 * p < k then 0 else (n + 2 * p - k) / s + 1
theorem out_any (n k s p : Int) (w : World) : Calls Try.prog 22 #[.int .i64 n, .int .i64 k, .int .i64 s, .int .i64 p] w fun e w' => e = .returned (.int .i64 (outI n k s p)) ∧ w = w' := by
  by_cases h0 : n < 1
  · have hz : outI n k s p = 0 := by unfold outI; rw [if_pos (by omega)]
    rw [hz]
    clear hz
    go_enter Try.func22, Try.ntmps22
    go_wp2
    go_ret
    exact ⟨rfl, rfl⟩
  · skip
    by_cases h1 : 16 < n
    · have hz : outI n k s p = 0 := by unfold outI; rw [if_pos (by omega)]
      rw [hz]
      clear hz
      go_enter Try.func22, Try.ntmps22
      go_wp2
      go_ret
      exact ⟨rfl, rfl⟩
    · skip
      by_cases h2 : k < 1
      · have hz : outI n k s p = 0 := by unfold outI; rw [if_pos (by omega)]
        rw [hz]
        clear hz
        go_enter Try.func22, Try.ntmps22
        go_wp2
        go_ret
        exact ⟨rfl, rfl⟩
      · skip
        by_cases h3 : 5 < k
        · have hz : outI n k s p = 0 := by unfold outI; rw [if_pos (by omega)]
          rw [hz]
          clear hz
          go_enter Try.func22, Try.ntmps22
          go_wp2
          go_ret
          exact ⟨rfl, rfl⟩
        · skip
          by_cases h4 : s < 1
          · have hz : outI n k s p = 0 := by unfold outI; rw [if_pos (by omega)]
            rw [hz]
            clear hz
            go_enter Try.func22, Try.ntmps22
            go_wp2
            go_ret
            exact ⟨rfl, rfl⟩
          · skip
            by_cases h5 : 4 < s
            · have hz : outI n k s p = 0 := by unfold outI; rw [if_pos (by omega)]
              rw [hz]
              clear hz
              go_enter Try.func22, Try.ntmps22
              go_wp2
              go_ret
              exact ⟨rfl, rfl⟩
            · skip
              by_cases h6 : p < 0
              · have hz : outI n k s p = 0 := by unfold outI; rw [if_pos (by omega)]
                rw [hz]
                clear hz
                go_enter Try.func22, Try.ntmps22
                go_wp2
                go_ret
                exact ⟨rfl, rfl⟩
              · skip
                by_cases h7 : k ≤ p
                · have hz : outI n k s p = 0 := by unfold outI; rw [if_pos (by omega)]
                  rw [hz]
                  clear hz
                  go_enter Try.func22, Try.ntmps22
                  go_wp2
                  go_ret
                  exact ⟨rfl, rfl⟩
                · skip
                  by_cases h8 : n + 2 * p < k
                  · have hz : outI n k s p = 0 := by unfold outI; rw [if_pos (by omega)]
                    rw [hz]
                    clear hz
                    go_enter Try.func22, Try.ntmps22
                    go_wp2
                    go_ret
                    exact ⟨rfl, rfl⟩
                  · skip
                    have hz : outI n k s p = (n + 2 * p - k) / s + 1 := by unfold outI; rw [if_neg (by omega)]
                    have hd := Int.ediv_nonneg (show 0 ≤ n + 2 * p - k by omega) (show 0 ≤ s by omega)
                    have hd2 := Int.ediv_le_self s (show 0 ≤ n + 2 * p - k by omega)
                    rw [hz]
                    clear hz
                    go_enter Try.func22, Try.ntmps22
                    go_wp2
                    go_ret
                    exact ⟨rfl, rfl⟩
theorem rout_any (n k s p : Int) (w : World) : Calls Try.prog 23 #[.int .i64 n, .int .i64 k, .int .i64 s, .int .i64 p] w fun e w' => e = .returned (.int .i64 (outI n k s p)) ∧ w = w' := by
  by_cases h0 : n < 1
  · have hz : outI n k s p = 0 := by unfold outI; rw [if_pos (by omega)]
    rw [hz]
    clear hz
    go_enter Try.func23, Try.ntmps23
    go_wp2
    go_ret
    exact ⟨rfl, rfl⟩
  · skip
    by_cases h1 : 16 < n
    · have hz : outI n k s p = 0 := by unfold outI; rw [if_pos (by omega)]
      rw [hz]
      clear hz
      go_enter Try.func23, Try.ntmps23
      go_wp2
      go_ret
      exact ⟨rfl, rfl⟩
    · skip
      by_cases h2 : k < 1
      · have hz : outI n k s p = 0 := by unfold outI; rw [if_pos (by omega)]
        rw [hz]
        clear hz
        go_enter Try.func23, Try.ntmps23
        go_wp2
        go_ret
        exact ⟨rfl, rfl⟩
      · skip
        by_cases h3 : 5 < k
        · have hz : outI n k s p = 0 := by unfold outI; rw [if_pos (by omega)]
          rw [hz]
          clear hz
          go_enter Try.func23, Try.ntmps23
          go_wp2
          go_ret
          exact ⟨rfl, rfl⟩
        · skip
          by_cases h4 : s < 1
          · have hz : outI n k s p = 0 := by unfold outI; rw [if_pos (by omega)]
            rw [hz]
            clear hz
            go_enter Try.func23, Try.ntmps23
            go_wp2
            go_ret
            exact ⟨rfl, rfl⟩
          · skip
            by_cases h5 : 4 < s
            · have hz : outI n k s p = 0 := by unfold outI; rw [if_pos (by omega)]
              rw [hz]
              clear hz
              go_enter Try.func23, Try.ntmps23
              go_wp2
              go_ret
              exact ⟨rfl, rfl⟩
            · skip
              by_cases h6 : p < 0
              · have hz : outI n k s p = 0 := by unfold outI; rw [if_pos (by omega)]
                rw [hz]
                clear hz
                go_enter Try.func23, Try.ntmps23
                go_wp2
                go_ret
                exact ⟨rfl, rfl⟩
              · skip
                by_cases h7 : k ≤ p
                · have hz : outI n k s p = 0 := by unfold outI; rw [if_pos (by omega)]
                  rw [hz]
                  clear hz
                  go_enter Try.func23, Try.ntmps23
                  go_wp2
                  go_ret
                  exact ⟨rfl, rfl⟩
                · skip
                  by_cases h8 : n + 2 * p < k
                  · have hz : outI n k s p = 0 := by unfold outI; rw [if_pos (by omega)]
                    rw [hz]
                    clear hz
                    go_enter Try.func23, Try.ntmps23
                    go_wp2
                    go_ret
                    exact ⟨rfl, rfl⟩
                  · skip
                    have hz : outI n k s p = (n + 2 * p - k) / s + 1 := by unfold outI; rw [if_neg (by omega)]
                    have hd := Int.ediv_nonneg (show 0 ≤ n + 2 * p - k by omega) (show 0 ≤ s by omega)
                    have hd2 := Int.ediv_le_self s (show 0 ≤ n + 2 * p - k by omega)
                    rw [hz]
                    clear hz
                    go_enter Try.func23, Try.ntmps23
                    go_wp2
                    go_ret
                    exact ⟨rfl, rfl⟩
theorem awake7_a : (idxD [2, 3] [1, 2] == 5) = true := by decide +kernel
theorem awake7_b : (outI 5 3 2 1 == 3) = true := by decide +kernel
theorem reads_two (w : World) (a b : Int) (ha : (Lit.int .i64 a).wf = true) (hb : (Lit.int .i64 b).wf = true) (t : TypeId) (g : Nat) (hg : g = w.heap.size) :
    Reads .i64 (w.alloc (.cells #[.int .i64 a, .int .i64 b] t)) (.slice (some ⟨g, 0, none⟩) 2 2) [a, b] := by
  refine ⟨⟨_, 2, rfl, by simp, by decide, .inr ⟨g, 0, rfl, ?_⟩⟩, ?_, by unfold maxLen; simp⟩
  · intro i u hu
    rw [Nat.zero_add, World.cell?_alloc_at _ _ _ _ hg]
    simpa using hu
  · intro x hx
    simp at hx
    rcases hx with rfl | rfl
    · exact ha
    · exact hb
theorem Reads.below0 {k : IntKind} {w w' : World} {v : Value} {l : List Int} (h : Reads k w v l) (hb : Below w.heap.size w w') : Reads k w' v l := ⟨h.1.below hb, h.2⟩
theorem awake7_any (w : World) : Calls Try.prog 24 #[] w fun e w' => e = .returned (.bool true) ∧ Below w.heap.size w w' := by
  have h1 := awake7_a
  have h2 := awake7_b
  obtain ⟨wo, rfl⟩ : ∃ wo : World, wo = w := ⟨_, rfl⟩
  go_enter Try.func24, Try.ntmps24
  go_wp2_with fail
  refine (index_any _ _ [2, 3] [1, 2] _ ((reads_two wo 2 3 rfl rfl _ _ rfl).below ((Below.refl _ _).alloc (Nat.le_refl _) _)) ?_).mono ?_
  · exact reads_two _ 1 2 rfl rfl _ _ (by simp)
  rintro e w1 ⟨rfl, hb1⟩
  have hb : Below wo.heap.size wo w1 := (((Below.refl _ _).alloc (Nat.le_refl _) _).alloc (by simp) _).trans (hb1.mono (by simp; omega))
  go_wp2_with (go_at_call 22; refine (out_any _ _ _ _ _).mono ?_; rintro e w' ⟨rfl, rfl⟩)
  go_ret
  exact ⟨rfl, hb⟩
theorem shapeOut_any (n k s p : Int) (w : World) :
    Calls Try.prog 5 #[.int .i64 n, .int .i64 k, .int .i64 s, .int .i64 p] w fun e w' => e = .returned (.bool true) ∧ Below w.heap.size w w' := by
  by_cases hc : n < 1 ∨ 16 < n ∨ k < 1 ∨ 5 < k ∨ s < 1 ∨ 4 < s ∨ p < 0 ∨ k ≤ p ∨ n + 2 * p < k
  · have hz : outI n k s p = 0 := by unfold outI; rw [if_pos hc]
    have HZ := Lib.hid hz
    clear hz hc
    go_enter Try.func5, Try.ntmps5
    go_wp2_with (first | (go_at_call 22; refine (out_any _ _ _ _ _).mono ?_; rintro e w' ⟨rfl, rfl⟩; rw [HZ.out]) | (go_at_call 24; refine (awake7_any _).mono ?_; rintro e w' ⟨rfl, hbel⟩))
    go_ret
    exact ⟨rfl, by assumption⟩
  · have hz : outI n k s p = (n + 2 * p - k) / s + 1 := by unfold outI; rw [if_neg hc]
    obtain ⟨o, ho⟩ : ∃ o, outI n k s p = o := ⟨_, rfl⟩
    have HZ := Lib.hid ho
    have h1 := Int.mul_ediv_add_emod (n + 2 * p - k) s
    have h2 := Int.emod_nonneg (n + 2 * p - k) (show s ≠ 0 by omega)
    have h3 := Int.emod_lt_of_pos (n + 2 * p - k) (show 0 < s by omega)
    have hd := Int.ediv_nonneg (show 0 ≤ n + 2 * p - k by omega) (show 0 ≤ s by omega)
    have hd2 := Int.ediv_le_self s (show 0 ≤ n + 2 * p - k by omega)
    obtain ⟨q, hq⟩ : ∃ q, (n + 2 * p - k) / s = q := ⟨_, rfl⟩
    rw [hq] at hz h1 hd hd2
    have hsq := Int.mul_nonneg (show 0 ≤ s by omega) hd
    have e1 : (o - 1) * s = s * q := by rw [← ho, hz, show q + 1 - 1 = q from by omega, Int.mul_comm]
    have e2 : o * s = s * q + s := by rw [← ho, hz, Int.add_mul, Int.one_mul, Int.mul_comm]
    have k1 : (o - 1) * s + k ≤ n + 2 * p ∧ 0 ≤ (o - 1) * s := by rw [e1]; omega
    have k2 : n + 2 * p < o * s + k ∧ o * s ≤ 100 := by rw [e2]; omega
    have k3 : 1 ≤ o ∧ o ≤ 40 := by omega
    have k4 : (o == 0) = false := by rw [beq_eq_false_iff_ne]; omega
    have k5 : 1 ≤ n ∧ n ≤ 16 ∧ 1 ≤ k ∧ k ≤ 5 ∧ 0 ≤ p ∧ p ≤ 5 := by omega
    clear ho hz h1 h2 h3 hd hd2 hq e1 e2 hc hsq
    go_enter Try.func5, Try.ntmps5
    go_wp2_with (first | (go_at_call 22; refine (out_any _ _ _ _ _).mono ?_; rintro e w' ⟨rfl, rfl⟩; rw [HZ.out]) | (go_at_call 24; refine (awake7_any _).mono ?_; rintro e w' ⟨rfl, hbel⟩))
    go_ret
    exact ⟨rfl, by assumption⟩
end Go.Proofs.Ytbdokpfjggilhaa
