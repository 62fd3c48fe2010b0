/- Layer 10: a matrix's way there. -/
import Derived.Test.YtcbcfajihbbdcaaDenC
namespace Go.Proofs.Ytcbcfajihbbdcaa
open Go.RowKit
set_option maxRecDepth 100000
set_option linter.unusedSimpArgs false
set_option maxHeartbeats 2000000
theorem brE {er k : Int} {X : Prop} (h : er = k) (hk : k ≠ 0) : BrP (er = 0) X ((Value.int .i64 k = Value.int .i64 er ∧ True) ∧ True) := ⟨fun h0 => absurd (h.symm.trans h0) hk, fun _ => by rw [h]; exact ⟨⟨rfl, trivial⟩, trivial⟩⟩
theorem fwd_vc (A : Sy) (hA : A = std) (D1 L1 D2 L2 D3 L3 : List Int) (e1 e2 e3 : Int) (fm : List AV → Bool) (fr fa : List AV → Int) (tw : List Int → Prop) (htw : tw = two) (r : Tn → Ln) (p : Ln → Ln → Int → Prop) (q : Ln → Ln → Int → List Int) (er : Int) (R : Tn)
    (N : Int) (n : Nat) (c : Nat → Int) (S : Nat → List Int) (hc : ∀ x : Nat, c x = ci x) (hN : N = ci n) (hR : R = ⟨[D1.getD 0 0, D2.getD 0 0], e1 + e2, S n⟩)
    (H : fm [.d (.list [tnD A D1 e1 L1, tnD A D2 e2 L2, tnD A D3 e3 L3])] = true → (D1.length = 2 ∧ D2.length = 2 ∧ D3.length = 1 ∧ D1.getD 1 0 = D2.getD 1 0 ∧ D2.getD 0 0 = D3.getD 0 0) → er = 0 →
      p ⟨L1, (r ⟨D1, e1, L1⟩).rows, (r ⟨D1, e1, L1⟩).next, (r ⟨D1, e1, L1⟩).step⟩ ⟨L2, (r ⟨D2, e2, L2⟩).rows, (r ⟨D2, e2, L2⟩).next, (r ⟨D2, e2, L2⟩).step⟩ (D1.getD 1 0) ∧ (-9223372036854775808 ≤ e1 + e2 ∧ e1 + e2 ≤ 9223372036854775807) ∧ ci (q ⟨L1, (r ⟨D1, e1, L1⟩).rows, (r ⟨D1, e1, L1⟩).next, (r ⟨D1, e1, L1⟩).step⟩ ⟨L2, (r ⟨D2, e2, L2⟩).rows, (r ⟨D2, e2, L2⟩).next, (r ⟨D2, e2, L2⟩).step⟩ (D1.getD 1 0)).length = N ∧ S 0 = q ⟨L1, (r ⟨D1, e1, L1⟩).rows, (r ⟨D1, e1, L1⟩).next, (r ⟨D1, e1, L1⟩).step⟩ ⟨L2, (r ⟨D2, e2, L2⟩).rows, (r ⟨D2, e2, L2⟩).next, (r ⟨D2, e2, L2⟩).step⟩ (D1.getD 1 0) ∧ (∀ x, (S x).length = n) ∧ 1 ≤ L3.length ∧ n ≤ 9223372036854775806 ∧
      ∀ x : Nat, x < n → stdIn .i32 ((S x).getD x 0 + IntKind.i32.wrap (fa [.z (L3.getD (x % L3.length) 0), .z e3, .z (e1 + e2)])) ∧ (S x).set x ((S x).getD x 0 + IntKind.i32.wrap (fa [.z (L3.getD (x % L3.length) 0), .z e3, .z (e1 + e2)])) = S (x + 1))
    (h1 : fm [.d (.list [tnD A D1 e1 L1, tnD A D2 e2 L2, tnD A D3 e3 L3])] = false → er = 1)
    (h2 : fm [.d (.list [tnD A D1 e1 L1, tnD A D2 e2 L2, tnD A D3 e3 L3])] = true → ¬ (D1.length = 2 ∧ D2.length = 2 ∧ D3.length = 1 ∧ D1.getD 1 0 = D2.getD 1 0 ∧ D2.getD 0 0 = D3.getD 0 0) → er = 2)
    (h3 : fm [.d (.list [tnD A D1 e1 L1, tnD A D2 e2 L2, tnD A D3 e3 L3])] = true → (D1.length = 2 ∧ D2.length = 2 ∧ D3.length = 1 ∧ D1.getD 1 0 = D2.getD 1 0 ∧ D2.getD 0 0 = D3.getD 0 0) → er = fr [.z (D1.getD 1 0), .l [D1.getD 0 0, D2.getD 0 0]]) :
    vcFn ⟨A, tt, [(48, boolC [.sl (tnTy .i8)] fm), (49, intC [.int .i64, .sl (.int .i64)] .i64 fr), (51, lnC tw r), (50, mulC p q), (52, intC [.int .i64, .int .i64, .int .i64] .i64 fa)], true, false, [], true⟩ Try.f24
      [.agg [.iimm .i64 D1, .v (.int .i64 e1), .iimm .i8 L1], .agg [.iimm .i64 D2, .v (.int .i64 e2), .iimm .i8 L2], .agg [.iimm .i64 D3, .v (.int .i64 e3), .iimm .i8 L3]]
      (.ite (er = 0) (.ret (.tup [.agg [.hdl 0, .v (.int .i64 R.exp), .hdl 1], .v (.int .i64 0)]) [(0, .irow 3 .i64 R.dims), (2, .irow 21 .i32 R.data)]) (.ret (.tup [.agg [.v (.slice none 0 0), .v (.int .i64 0), .v (.slice none 0 0)], .v (.int .i64 er)]) [])) := by
  cbv
  refine ⟨fun g1 => brE (h1 ?_) (by decide), fun g1 => ⟨fun g2 => ⟨fun g3 => ⟨fun g4 => ⟨?_, ?_, fun g5 => ⟨?_, ?_, fun g6 => brE (h2 ?_ ?_) (by decide), fun g6 => ⟨?_, ?_, ?_, fun g7 => ?_, fun g7 => ?_⟩⟩, fun g5 => brE (h2 ?_ ?_) (by decide)⟩, fun g4 => brE (h2 ?_ ?_) (by decide)⟩, fun g3 => brE (h2 ?_ ?_) (by decide)⟩, fun g2 => brE (h2 ?_ ?_) (by decide)⟩⟩
  case refine_1 => subst hA; simpa [std, tnD] using g1
  all_goals (try (subst hA; simp only [std, stdBin, stdCmp, stdUna, stdIn, ci, beq_iff_eq, bne_iff_ne, beq_eq_false_iff_ne, bne_eq_false_iff_eq, decide_eq_true_eq, decide_eq_false_iff_not, Bool.not_true, Bool.not_false, Bool.not_eq_true', Bool.not_eq_false', Bool.not_not, tn0, tn1, tn2, tn3] at g1 g2 g3 g4 g5 ⊢; first | omega | exact g1 | exact fun h => g5 h.2.2.2.1))
  all_goals (try (subst hA; simp only [std, stdBin, stdCmp, stdUna, stdIn, ci, beq_iff_eq, bne_iff_ne, beq_eq_false_iff_ne, bne_eq_false_iff_eq, decide_eq_true_eq, decide_eq_false_iff_not, Bool.not_true, Bool.not_false, Bool.not_eq_true', Bool.not_eq_false', Bool.not_not, tn0, tn1, tn2, tn3] at g1 g2 g3 g4 ⊢; first | omega | exact g1 | exact fun h => g5 h.2.2.2.1))
  all_goals (try (subst hA; simp only [std, stdBin, stdCmp, stdUna, stdIn, ci, beq_iff_eq, bne_iff_ne, beq_eq_false_iff_ne, bne_eq_false_iff_eq, decide_eq_true_eq, decide_eq_false_iff_not, Bool.not_true, Bool.not_false, Bool.not_eq_true', Bool.not_eq_false', Bool.not_not, tn0, tn1, tn2, tn3] at g1 g2 g3 ⊢; first | omega | exact g1 | exact fun h => g5 h.2.2.2.1))
  all_goals (try (subst hA; simp only [std, stdBin, stdCmp, stdUna, stdIn, ci, beq_iff_eq, bne_iff_ne, beq_eq_false_iff_ne, bne_eq_false_iff_eq, decide_eq_true_eq, decide_eq_false_iff_not, Bool.not_true, Bool.not_false, Bool.not_eq_true', Bool.not_eq_false', Bool.not_not, tn0, tn1, tn2, tn3] at g1 g2 ⊢; first | omega | exact g1 | exact fun h => g5 h.2.2.2.1))
  · subst hA
    simp only [std, stdBin, stdCmp, stdUna, stdIn, ci, beq_iff_eq, bne_iff_ne, beq_eq_false_iff_ne, bne_eq_false_iff_eq, decide_eq_true_eq, decide_eq_false_iff_not, Bool.not_true, Bool.not_false, Bool.not_eq_true', Bool.not_eq_false', Bool.not_not, tn0, tn1, tn2, tn3] at g6
    exact fun h => g6 h.2.2.2.2
  · subst hA
    simp only [std, stdBin, stdCmp, stdUna, stdIn, ci, beq_iff_eq, bne_iff_ne, beq_eq_false_iff_ne, bne_eq_false_iff_eq, decide_eq_true_eq, decide_eq_false_iff_not, Bool.not_true, Bool.not_false, Bool.not_eq_true', Bool.not_eq_false', Bool.not_not, tn0, tn1, tn2, tn3] at g1 g2 g3 g4 g5 g6 g7 ⊢
    exact brE (h3 g1 ⟨by omega, by omega, by omega, g5, g6⟩) g7
  · have c1 : er = 0 ∧ D1.length = 2 ∧ D2.length = 2 ∧ D3.length = 1 ∧ D1.getD 1 0 = D2.getD 1 0 ∧ D2.getD 0 0 = D3.getD 0 0 := by
      clear h1 h2 H
      subst hA
      simp only [std, stdBin, stdCmp, stdUna, stdIn, ci, beq_iff_eq, bne_iff_ne, beq_eq_false_iff_ne, bne_eq_false_iff_eq, decide_eq_true_eq, decide_eq_false_iff_not, Bool.not_true, Bool.not_false, Bool.not_eq_true', Bool.not_eq_false', Bool.not_not, tn0, tn1, tn2, tn3] at g1 g2 g3 g4 g5 g6 g7
      have e1 : D1.length = 2 ∧ D2.length = 2 ∧ D3.length = 1 ∧ D1.getD 1 0 = D2.getD 1 0 ∧ D2.getD 0 0 = D3.getD 0 0 := ⟨by omega, by omega, by omega, g5, g6⟩
      exact ⟨(h3 g1 e1).trans g7, e1⟩
    have gm : fm [.d (.list [tnD A D1 e1 L1, tnD A D2 e2 L2, tnD A D3 e3 L3])] = true := by
      clear h1 h2 h3 H
      subst hA
      simp only [std, stdBin, stdCmp, stdUna, stdIn, ci, beq_iff_eq, bne_iff_ne, beq_eq_false_iff_ne, bne_eq_false_iff_eq, decide_eq_true_eq, decide_eq_false_iff_not, Bool.not_true, Bool.not_false, Bool.not_eq_true', Bool.not_eq_false', Bool.not_not, tn0, tn1, tn2, tn3] at g1
      exact g1
    obtain ⟨c0, c1⟩ := c1
    obtain ⟨hp, he, hN0, hS0, hlen, h0, hn, hst⟩ := H gm c1 c0
    obtain ⟨c1, c2, c3, c4, c5⟩ := c1
    clear H h1 h2 h3 g1 g2 g3 g4 g5 g6 g7 gm
    simp only [ci] at hN0
    refine ⟨?_, by rw [htw]; exact c1, by rw [htw]; exact c2, ?_, ?_, ?_⟩
    · rw [hA]; simp only [std, stdBin, stdCmp, stdUna, stdIn, ci, beq_iff_eq, bne_iff_ne, beq_eq_false_iff_ne, bne_eq_false_iff_eq, decide_eq_true_eq, decide_eq_false_iff_not, Bool.not_true, Bool.not_false, Bool.not_eq_true', Bool.not_eq_false', Bool.not_not, tn0, tn1, tn2, tn3]; omega
    · rw [hA]; simp only [std, stdBin, stdCmp, stdUna, stdIn, ci, beq_iff_eq, bne_iff_ne, beq_eq_false_iff_ne, bne_eq_false_iff_eq, decide_eq_true_eq, decide_eq_false_iff_not, Bool.not_true, Bool.not_false, Bool.not_eq_true', Bool.not_eq_false', Bool.not_not, tn0, tn1, tn2, tn3]; omega
    · rw [hA]; simp only [std, stdBin, stdCmp, stdUna, stdIn, ci, beq_iff_eq, bne_iff_ne, beq_eq_false_iff_ne, bne_eq_false_iff_eq, decide_eq_true_eq, decide_eq_false_iff_not, Bool.not_true, Bool.not_false, Bool.not_eq_true', Bool.not_eq_false', Bool.not_not, tn0, tn1, tn2, tn3]; exact hp
    refine loop_at Nat 11 (fun x => [(95, .v (.int .i64 N)), (96, .v (.int .i64 (c x)))]) (fun x o => o.take 6 ++ [.irow 21 .i32 (S x)] ++ o.drop 7) (fun x => x ≤ n) (fun x => n - x) 0 (Nat.zero_le _) ?_ ?_
    · cbv
      rw [hA]
      simp only [std, stdBin, stdCmp, stdUna, stdIn, ci, beq_iff_eq, bne_iff_ne, beq_eq_false_iff_ne, bne_eq_false_iff_eq, decide_eq_true_eq, decide_eq_false_iff_not, Bool.not_true, Bool.not_false, Bool.not_eq_true', Bool.not_eq_false', Bool.not_not, tn0, tn1, tn2, tn3, hN0, hS0, hc]
      repeat' apply And.intro
      all_goals first | exact True.intro | rfl | exact congrArg (Value.int .i64) (by omega)
    · intro x hx
      cbv
      refine ⟨fun g1 => ?_, fun g1 => ?_⟩
      · have gx : x < n := by
          rw [hA] at g1; simp only [std, stdBin, stdCmp, stdUna, stdIn, ci, beq_iff_eq, bne_iff_ne, beq_eq_false_iff_ne, bne_eq_false_iff_eq, decide_eq_true_eq, decide_eq_false_iff_not, Bool.not_true, Bool.not_false, Bool.not_eq_true', Bool.not_eq_false', Bool.not_not, tn0, tn1, tn2, tn3, hc, hN] at g1; omega
        have hm : Int.tmod (x : Int) (L3.length : Int) = ((x % L3.length : Nat) : Int) := (Int.ofNat_tmod x L3.length).symm
        have hml := Nat.mod_lt x (show 0 < L3.length by omega)
        obtain ⟨k1, k2⟩ := hst x gx
        simp only [stdIn] at k1
        repeat' apply And.intro
        any_goals (rw [hA]; simp only [std, stdBin, stdCmp, stdUna, stdIn, ci, beq_iff_eq, bne_iff_ne, beq_eq_false_iff_ne, bne_eq_false_iff_eq, decide_eq_true_eq, decide_eq_false_iff_not, Bool.not_true, Bool.not_false, Bool.not_eq_true', Bool.not_eq_false', Bool.not_not, tn0, tn1, tn2, tn3, hc, hlen, hm, Int.toNat_natCast]; first | omega | exact k1.1 | exact k1.2)
        refine ⟨x + 1, gx, ?_, Nat.sub_lt_sub_left gx (Nat.lt_succ_self x)⟩
        cbv
        rw [hA]
        simp only [std, stdBin, stdCmp, stdUna, stdIn, ci, beq_iff_eq, bne_iff_ne, beq_eq_false_iff_ne, bne_eq_false_iff_eq, decide_eq_true_eq, decide_eq_false_iff_not, Bool.not_true, Bool.not_false, Bool.not_eq_true', Bool.not_eq_false', Bool.not_not, tn0, tn1, tn2, tn3, hc, hm, Int.toNat_natCast, k2]
        repeat' apply And.intro
        all_goals first | exact True.intro | rfl | exact congrArg (Value.int .i64) (by omega)
      · have gx : x = n := by
          rw [hA] at g1; simp only [std, stdBin, stdCmp, stdUna, stdIn, ci, beq_iff_eq, bne_iff_ne, beq_eq_false_iff_ne, bne_eq_false_iff_eq, decide_eq_true_eq, decide_eq_false_iff_not, Bool.not_true, Bool.not_false, Bool.not_eq_true', Bool.not_eq_false', Bool.not_not, tn0, tn1, tn2, tn3, hc, hN] at g1; omega
        subst gx
        refine ⟨fun _ => ?_, fun h => absurd c0 h⟩
        rw [hR, hA]
        simp only [std, stdBin, stdCmp, stdUna, stdIn, ci, beq_iff_eq, bne_iff_ne, beq_eq_false_iff_ne, bne_eq_false_iff_eq, decide_eq_true_eq, decide_eq_false_iff_not, Bool.not_true, Bool.not_false, Bool.not_eq_true', Bool.not_eq_false', Bool.not_not, tn0, tn1, tn2, tn3]
        repeat' apply And.intro
        all_goals first | exact True.intro | rfl
end Go.Proofs.Ytcbcfajihbbdcaa
