/- Layer 19's counterparts: the rest. -/
import Derived.Test.YtdbfgcpohloabaaLossH
namespace Go.Proofs.Ytdbfgcpohloabaa
open Go.RowKit
set_option maxRecDepth 100000
set_option linter.unusedSimpArgs false
set_option linter.unusedVariables false
set_option maxHeartbeats 40000000
set_option cbv.maxSteps 10000000
theorem rrows_ok : CtrOk Try.prog 32 (intC [tnTy .i8] .i64 (t1 chkI 0)) := by
  obtain ⟨G, hG⟩ : ∃ G : List (FuncId × Ctr), G = [(39, boolC [tnTy .i8] tnMayF)] := ⟨_, rfl⟩
  refine fn_ok (ck := true) Try.func32 rfl tt_ok (G := G) (by rw [hG]; exact ⟨⟨rmayT_ok, by unfold FnOk; kernel_rfl⟩, trivial⟩) mixed (by kernel_rfl) ?_
  intro xa xs h hx hp
  obtain ⟨a0, as0, x0, xs0, rfl, rfl, h0, H1⟩ := svArgs_cons h
  obtain ⟨rfl, rfl⟩ := svArgs_nil H1
  obtain ⟨⟨yD, yE, yL⟩, rfl, rfl⟩ := argSV_tn h0
  have sy : (Fits .i64 yD ∧ ci yD.length ≤ 9223372036854775807) ∧ (-9223372036854775808 ≤ yE ∧ yE ≤ 9223372036854775807) ∧ Fits .i8 yL ∧ ci yL.length ≤ 9223372036854775807 := svf_tn (hx (Tn.sv .i8 ⟨yD, yE, yL⟩) (by simp))
  have SY := Lib.hid sy
  clear sy
  clear hx hp h h0 H1
  subst hG
  generalize hA : std = A
  generalize h_c : ci = c
  generalize h_fm : tnMayF = fm
  generalize h_fR : t1 chkI 0 = fR
  cbv
  (repeat' (first | apply And.intro | apply BrB.mk | apply BrP.mk | intro _))
  (all_goals (subst hA; subst h_c; subst h_fm; subst h_fR); all_goals (have f_sy := SY.out); all_goals (try simp only [std, stdBin, stdCmp, stdUna, stdIn, ci, beq_iff_eq, bne_iff_ne, beq_eq_false_iff_ne, bne_eq_false_iff_eq, decide_eq_true_eq, decide_eq_false_iff_not, Bool.not_true, Bool.not_false, Bool.not_eq_true', Bool.not_eq_false', Bool.not_not, tn0, tn1, tn2, tn3, t1, tnMayF] at *); all_goals (try omega))
  all_goals (simp only [chkI] at *)
  all_goals (simp_all; try omega)
theorem rlab_ok : CtrOk Try.prog 28 (intC [tnTy .i8, .sl (.int .i64)] .i64 (tq chqI 0)) := by
  obtain ⟨G, hG⟩ : ∃ G : List (FuncId × Ctr), G = [(32, intC [tnTy .i8] .i64 (t1 chkI 0))] := ⟨_, rfl⟩
  refine fn_ok (ck := true) Try.func28 rfl tt_ok (G := G) (by rw [hG]; exact ⟨⟨rrows_ok, by unfold FnOk; kernel_rfl⟩, trivial⟩) mixed (by kernel_rfl) ?_
  intro xa xs h hx hp
  obtain ⟨a0, as0, x0, xs0, rfl, rfl, h0, H1⟩ := svArgs_cons h
  obtain ⟨a1, as1, x1, xs1, rfl, rfl, h1, H2⟩ := svArgs_cons H1
  obtain ⟨rfl, rfl⟩ := svArgs_nil H2
  obtain ⟨⟨yD, yE, yL⟩, rfl, rfl⟩ := argSV_tn h0
  obtain ⟨q, rfl, rfl⟩ := argSV_ints h1
  have sy : (Fits .i64 yD ∧ ci yD.length ≤ 9223372036854775807) ∧ (-9223372036854775808 ≤ yE ∧ yE ≤ 9223372036854775807) ∧ Fits .i8 yL ∧ ci yL.length ≤ 9223372036854775807 := svf_tn (hx (Tn.sv .i8 ⟨yD, yE, yL⟩) (by simp))
  have sq : Fits .i64 q ∧ ci q.length ≤ 9223372036854775807 := svf_ints (hx (.iimm .i64 q) (by simp))
  have SY := Lib.hid sy
  clear sy
  have SQ := Lib.hid sq
  clear sq
  clear hx hp h h0 H1 h1 H2
  subst hG
  generalize hA : std = A
  generalize h_c : ci = c
  generalize h_fc : t1 chkI 0 = fc
  generalize h_fR : tq chqI 0 = fR
  cbv
  (repeat' (first | apply And.intro | apply BrB.mk | apply BrP.mk | intro _))
  all_goals try (refine loop_at Nat 22 (fun j => [(7, .any), (22, .v (.int .i64 (c j)))]) (fun _ o => o) (fun j => j ≤ q.length ∧ okq q (yD.getD 1 0) j = true) (fun j => q.length - j) 0 ?h0 ?hle ?round)
  case h0 => exact ⟨Nat.zero_le _, rfl⟩
  case hle => (cbv; (repeat' (first | apply And.intro | apply BrB.mk | apply BrP.mk | intro _)); all_goals (subst hA; subst h_c; subst h_fc; subst h_fR); all_goals (have f_sy := SY.out; have f_sq := SQ.out); all_goals (try simp only [std, stdBin, stdCmp, stdUna, stdIn, ci, beq_iff_eq, bne_iff_ne, beq_eq_false_iff_ne, bne_eq_false_iff_eq, decide_eq_true_eq, decide_eq_false_iff_not, Bool.not_true, Bool.not_false, Bool.not_eq_true', Bool.not_eq_false', Bool.not_not, tn0, tn1, tn2, tn3] at *); (all_goals first | exact True.intro | rfl | exact congrArg (Value.int .i64) (by omega)))
  case round =>
    intro j hj
    cbv
    (repeat' (first | apply And.intro | apply BrB.mk | apply BrP.mk | intro _))
    all_goals try (refine ⟨j + 1, ?_, ?_, ?_⟩)
    all_goals try (show AS.le _ _; (cbv; (repeat' (first | apply And.intro | apply BrB.mk | apply BrP.mk | intro _)); all_goals (subst hA; subst h_c; subst h_fc; subst h_fR); all_goals (have f_sy := SY.out; have f_sq := SQ.out); all_goals (try simp only [std, stdBin, stdCmp, stdUna, stdIn, ci, beq_iff_eq, bne_iff_ne, beq_eq_false_iff_ne, bne_eq_false_iff_eq, decide_eq_true_eq, decide_eq_false_iff_not, Bool.not_true, Bool.not_false, Bool.not_eq_true', Bool.not_eq_false', Bool.not_not, tn0, tn1, tn2, tn3] at *); (all_goals first | exact True.intro | rfl | exact congrArg (Value.int .i64) (by omega))))
    (all_goals (subst hA; subst h_c; subst h_fc; subst h_fR); all_goals (have f_sy := SY.out; have f_sq := SQ.out); all_goals (try simp only [std, stdBin, stdCmp, stdUna, stdIn, ci, beq_iff_eq, bne_iff_ne, beq_eq_false_iff_ne, bne_eq_false_iff_eq, decide_eq_true_eq, decide_eq_false_iff_not, Bool.not_true, Bool.not_false, Bool.not_eq_true', Bool.not_eq_false', Bool.not_not, tn0, tn1, tn2, tn3, t1, tq] at *); all_goals (try omega))
    all_goals (obtain ⟨c1, c2, c3, c4⟩ := chk_zero (t := ⟨yD, yE, yL⟩) (by assumption); simp only at c2 c3 c4)
    all_goals (try omega)
    · refine congrArg _ ?_
      unfold chqI
      rw [if_pos (by assumption), if_pos (by assumption), if_neg]
      simp only
      rw [okq, allTo_false (x := j) (by omega) (decide_eq_false (by rw [Int.toNat_natCast] at *; omega))]
      decide
    · refine ⟨by omega, ?_⟩
      unfold okq
      rw [allTo, Bool.and_eq_true]
      exact ⟨hj.2, decide_eq_true (by rw [Int.toNat_natCast] at *; omega)⟩
    · refine congrArg _ ?_
      unfold chqI
      rw [if_pos (by assumption), if_pos (by assumption), if_neg]
      simp only
      rw [okq, allTo_false (x := j) (by omega) (decide_eq_false (by rw [Int.toNat_natCast] at *; omega))]
      decide
    · refine congrArg _ ?_
      unfold chqI
      rw [if_pos (by assumption), if_pos (by assumption), if_pos]
      rw [show q.length = j by omega]
      exact hj.2
  (all_goals (subst hA; subst h_c; subst h_fc; subst h_fR); all_goals (have f_sy := SY.out; have f_sq := SQ.out); all_goals (try simp only [std, stdBin, stdCmp, stdUna, stdIn, ci, beq_iff_eq, bne_iff_ne, beq_eq_false_iff_ne, bne_eq_false_iff_eq, decide_eq_true_eq, decide_eq_false_iff_not, Bool.not_true, Bool.not_false, Bool.not_eq_true', Bool.not_eq_false', Bool.not_not, tn0, tn1, tn2, tn3, t1, tq] at *); all_goals (try omega))
  · refine congrArg _ ?_
    unfold chqI
    rw [if_neg (by assumption)]
  · have := chk_zero (t := ⟨yD, yE, yL⟩) (by assumption)
    simp only at this
    omega
  · refine congrArg _ ?_
    unfold chqI
    rw [if_pos (by assumption), if_neg (by assumption)]
theorem bst_less (l : List Int) : ∀ n i, i < bst l n → l.getD i 0 < l.getD (bst l n) 0
  | 0, i, h => by simp [bst] at h
  | n + 1, i, h => by
    have ih := bst_less l n
    have hg := bst_ge l n
    unfold bst at h ⊢
    split
    · rename_i h1
      rw [if_pos h1] at h
      have := hg i h
      omega
    · rename_i h1
      rw [if_neg h1] at h
      exact ih i h
theorem bst_top {l : List Int} (h : 1 ≤ l.length) : idxV l (mxTo l (l.length - 1)) = (bst l l.length : Int) := by
  have h1 := bst_lt h l.length (Nat.le_refl _)
  have h2 : l.getD (bst l l.length) 0 = mxTo l (l.length - 1) := by
    obtain ⟨k, hk, h3⟩ := mxTo_at l (l.length - 1)
    have h4 := mxTo_ge l (l.length - 1) (bst l l.length) (by omega)
    have h5 := bst_ge l l.length k (by omega)
    omega
  unfold idxV
  rw [fst_eq h1 h2 (fun i hi => by have := bst_less l l.length i hi; omega), if_pos h1]
theorem sub_row {D L : List Int} {e : Int} {C n : Nat} (h : D.getD 1 0 = C) : List.take (((n : Int) + 1) * (C : Int) - (n : Int) * (C : Int)).toNat (List.drop ((n : Int) * (C : Int)).toNat L) = rowL ⟨D, e, L⟩ n := by
  rw [row_take h, ← Int.natCast_mul, Int.toNat_natCast]
  have : ((n : Int) + 1) * (C : Int) - ((n * C : Nat) : Int) = (C : Int) := by rw [Int.add_mul, Int.natCast_mul]; omega
  rw [this, Int.toNat_natCast]
theorem rgrad_ok : CtrOk Try.prog 13 (resC [tnTy .i8, .sl (.int .i64)] .i8 3 41 (tq chqI 0) (tq gradR ⟨[], 0, []⟩)) := by
  obtain ⟨G, hG⟩ : ∃ G : List (FuncId × Ctr), G = [(28, intC [tnTy .i8, .sl (.int .i64)] .i64 (tq chqI 0)), (21, rowC [.sl (.int .i8), .int .i64] 3 .i64 softF)] := ⟨_, rfl⟩
  refine fn_ok (ck := true) Try.func13 rfl tt_ok (G := G) (by rw [hG]; exact ⟨⟨rlab_ok, by unfold FnOk; kernel_rfl⟩, ⟨rsoft_ok, by unfold FnOk; kernel_rfl⟩, trivial⟩) mixed (by kernel_rfl) ?_
  intro xa xs h hx hp
  obtain ⟨a0, as0, x0, xs0, rfl, rfl, h0, H1⟩ := svArgs_cons h
  obtain ⟨a1, as1, x1, xs1, rfl, rfl, h1, H2⟩ := svArgs_cons H1
  obtain ⟨rfl, rfl⟩ := svArgs_nil H2
  obtain ⟨⟨yD, yE, yL⟩, rfl, rfl⟩ := argSV_tn h0
  obtain ⟨q, rfl, rfl⟩ := argSV_ints h1
  have sy : (Fits .i64 yD ∧ ci yD.length ≤ 9223372036854775807) ∧ (-9223372036854775808 ≤ yE ∧ yE ≤ 9223372036854775807) ∧ Fits .i8 yL ∧ ci yL.length ≤ 9223372036854775807 := svf_tn (hx (Tn.sv .i8 ⟨yD, yE, yL⟩) (by simp))
  have sq : Fits .i64 q ∧ ci q.length ≤ 9223372036854775807 := svf_ints (hx (.iimm .i64 q) (by simp))
  have SY := Lib.hid sy
  clear sy
  have SQ := Lib.hid sq
  clear sq
  clear hx hp h h0 H1 h1 H2
  subst hG
  generalize hA : std = A
  generalize h_c : ci = c
  generalize h_fs : softF = fs
  generalize h_fE : tq chqI 0 = fE
  generalize h_fR : tq gradR ⟨[], 0, []⟩ = fR
  obtain ⟨T, hT⟩ : ∃ T : Nat → Nat → List Int, ∀ n k, T n k = (List.range (n * (yD.getD 1 0).toNat + k)).map (gradAt ⟨yD, yE, yL⟩ q) := ⟨_, fun _ _ => rfl⟩
  have HT := Lib.hid hT
  clear hT
  cbv
  (repeat' (first | apply And.intro | apply BrB.mk | apply BrP.mk | intro _))
  all_goals try (refine loop_nil [.cell 3 2 41 .i8] Nat 30 (fun x => [(9, .any), (10, .any), (11, .any), (12, .any), (30, .v (.int .i64 (c x)))]) (fun x o => o.set 4 (.irow 41 .i8 (T x 0))) (fun x => x ≤ q.length) (fun x => q.length - x) 0 (Nat.zero_le _) ?hle ?round)
  case hle =>
    cbv
    (repeat' (first | apply And.intro | apply BrB.mk | apply BrP.mk | intro _))
    (all_goals (subst hA; subst h_c; subst h_fs; subst h_fE; subst h_fR); all_goals (have f_sy := SY.out; have f_sq := SQ.out); all_goals (try simp only [std, stdBin, stdCmp, stdUna, stdIn, ci, beq_iff_eq, bne_iff_ne, beq_eq_false_iff_ne, bne_eq_false_iff_eq, decide_eq_true_eq, decide_eq_false_iff_not, Bool.not_true, Bool.not_false, Bool.not_eq_true', Bool.not_eq_false', Bool.not_not, tn0, tn1, tn2, tn3, tq] at *); all_goals (try omega))
    all_goals first | exact True.intro | rfl | skip
    all_goals (rw [HT.out, Nat.zero_mul]; rfl)
  case round =>
    intro n hn
    cbv
    refine BrB.mk (fun gx => ?yx) (fun gx => ?nx)
    case yx =>
      (repeat' (first | apply And.intro | apply BrB.mk | apply BrP.mk | intro _))
      all_goals try (refine loop_at Nat 49 (fun x => [(11, .any), (12, .any), (49, .v (.int .i64 (c x)))]) (fun x o => o.set 4 (.irow 41 .i8 (T n x))) (fun x => ci x ≤ yD.getD 1 0) (fun x => (yD.getD 1 0 - ci x).toNat) 0 ?h0 ?hle ?round)
      case h0 =>
        (all_goals (subst hA; subst h_c; subst h_fs; subst h_fE; subst h_fR); all_goals (have f_sy := SY.out; have f_sq := SQ.out); all_goals (try simp only [std, stdBin, stdCmp, stdUna, stdIn, ci, beq_iff_eq, bne_iff_ne, beq_eq_false_iff_ne, bne_eq_false_iff_eq, decide_eq_true_eq, decide_eq_false_iff_not, Bool.not_true, Bool.not_false, Bool.not_eq_true', Bool.not_eq_false', Bool.not_not, tn0, tn1, tn2, tn3, tq] at *); all_goals (try omega))
        (all_goals (obtain ⟨N, C, c1, c2, ⟨n1, n2⟩, ⟨k1, k2⟩, c3, c4, c5, c6, ⟨x1, x2⟩, c7, c8⟩ := chq_main (t := ⟨yD, yE, yL⟩) (q := q) (by assumption); simp only at c1 c2 c4 c6 x1 x2; have K2 := Lib.hid c2; have K4 := Lib.hid c4))
        omega
      case hle =>
        cbv
        (repeat' (first | apply And.intro | apply BrB.mk | apply BrP.mk | intro _))
        (all_goals (subst hA; subst h_c; subst h_fs; subst h_fE; subst h_fR); all_goals (have f_sy := SY.out; have f_sq := SQ.out); all_goals (try simp only [std, stdBin, stdCmp, stdUna, stdIn, ci, beq_iff_eq, bne_iff_ne, beq_eq_false_iff_ne, bne_eq_false_iff_eq, decide_eq_true_eq, decide_eq_false_iff_not, Bool.not_true, Bool.not_false, Bool.not_eq_true', Bool.not_eq_false', Bool.not_not, tn0, tn1, tn2, tn3, tq] at *); all_goals (try omega))
        all_goals first | exact True.intro | rfl | skip
      case round =>
        intro k hk
        cbv
        refine BrB.mk (fun gy => ?yy) (fun gy => ?ny)
        case yy =>
          (repeat' (first | apply And.intro | apply BrB.mk | apply BrP.mk | intro _))
          all_goals try (refine ⟨k + 1, ?_, ?_, ?_⟩)
          all_goals try (show AS.le _ _; cbv; (repeat' (first | apply And.intro | apply BrB.mk | apply BrP.mk | intro _)))
          (all_goals (subst hA; subst h_c; subst h_fs; subst h_fE; subst h_fR); all_goals (have f_sy := SY.out; have f_sq := SQ.out); all_goals (try simp only [std, stdBin, stdCmp, stdUna, stdIn, ci, beq_iff_eq, bne_iff_ne, beq_eq_false_iff_ne, bne_eq_false_iff_eq, decide_eq_true_eq, decide_eq_false_iff_not, Bool.not_true, Bool.not_false, Bool.not_eq_true', Bool.not_eq_false', Bool.not_not, tn0, tn1, tn2, tn3, tq] at *); all_goals (try omega))
          (all_goals (obtain ⟨N, C, c1, c2, ⟨n1, n2⟩, ⟨k1, k2⟩, c3, c4, c5, c6, ⟨x1, x2⟩, c7, c8⟩ := chq_main (t := ⟨yD, yE, yL⟩) (q := q) (by assumption); simp only at c1 c2 c4 c6 x1 x2; have K2 := Lib.hid c2; have K4 := Lib.hid c4))
          (all_goals (have hr := row19_len (t := ⟨yD, yE, yL⟩) (n := n) K2.out K4.out (by omega); have hs : softF [.l (List.take (((n : Int) + 1) * (C : Int) - (n : Int) * (C : Int)).toNat (List.drop ((n : Int) * (C : Int)).toNat yL)), .z yE] = softL (rowL ⟨yD, yE, yL⟩ n) yE := (by rw [sub_row (e := yE) K2.out]; exact soft_row (by omega)); have hc : (k : Int) < C → (0 ≤ partI (rowL ⟨yD, yE, yL⟩ n) yE k ∧ partI (rowL ⟨yD, yE, yL⟩ n) yE k ≤ 127) ∧ (softL (rowL ⟨yD, yE, yL⟩ n) yE).getD k 0 = partI (rowL ⟨yD, yE, yL⟩ n) yE k ∧ gradAt ⟨yD, yE, yL⟩ q (n * C + k) = (if (k : Int) = q.getD n 0 then partI (rowL ⟨yD, yE, yL⟩ n) yE k - 127 else partI (rowL ⟨yD, yE, yL⟩ n) yE k) ∧ n * C + k < N * C := (fun h => ⟨part_in (row_fits (t := ⟨yD, yE, yL⟩) f_sy.2.2.1 n) yE (by omega), soft_get yE (by omega), grad_at (t := ⟨yD, yE, yL⟩) (q := q) (n := n) K2.out (by omega), idx_lt (by omega) (by omega)⟩); have HC := Lib.hid hc; clear hc; (try simp only [hs, soft_len, hr, K2.out, HT.out, List.length_map, List.length_range, List.length_singleton, Int.toNat_natCast] at *)))
          all_goals (obtain ⟨hp, hg, ha, hi⟩ := HC.out (by omega); (try simp only [hg, Int.toNat_natCast] at *))
          all_goals (try first | omega | (exact congrArg _ (Int.natCast_add k 1)))
          · have hz := range_snoc19 (gradAt ⟨yD, yE, yL⟩ q) (n * C + k)
            rw [ha, if_pos (by assumption)] at hz
            rw [w8 (by omega) (by omega)]
            exact hz.symm
          · have hz := range_snoc19 (gradAt ⟨yD, yE, yL⟩ q) (n * C + k)
            rw [ha, if_neg (by assumption)] at hz
            rw [w8 (by omega) (by omega)]
            exact hz.symm
        case ny =>
          (repeat' (first | apply And.intro | apply BrB.mk | apply BrP.mk | intro _))
          all_goals try (refine ⟨n + 1, ?_, ?_, ?_⟩)
          all_goals try (show AS.le _ _; cbv; (repeat' (first | apply And.intro | apply BrB.mk | apply BrP.mk | intro _)))
          (all_goals (subst hA; subst h_c; subst h_fs; subst h_fE; subst h_fR); all_goals (have f_sy := SY.out; have f_sq := SQ.out); all_goals (try simp only [std, stdBin, stdCmp, stdUna, stdIn, ci, beq_iff_eq, bne_iff_ne, beq_eq_false_iff_ne, bne_eq_false_iff_eq, decide_eq_true_eq, decide_eq_false_iff_not, Bool.not_true, Bool.not_false, Bool.not_eq_true', Bool.not_eq_false', Bool.not_not, tn0, tn1, tn2, tn3, tq] at *); all_goals (try omega))
          (all_goals (obtain ⟨N, C, c1, c2, ⟨n1, n2⟩, ⟨k1, k2⟩, c3, c4, c5, c6, ⟨x1, x2⟩, c7, c8⟩ := chq_main (t := ⟨yD, yE, yL⟩) (q := q) (by assumption); simp only at c1 c2 c4 c6 x1 x2; have K2 := Lib.hid c2; have K4 := Lib.hid c4))
          (all_goals (have hr := row19_len (t := ⟨yD, yE, yL⟩) (n := n) K2.out K4.out (by omega); have hs : softF [.l (List.take (((n : Int) + 1) * (C : Int) - (n : Int) * (C : Int)).toNat (List.drop ((n : Int) * (C : Int)).toNat yL)), .z yE] = softL (rowL ⟨yD, yE, yL⟩ n) yE := (by rw [sub_row (e := yE) K2.out]; exact soft_row (by omega)); have hc : (k : Int) < C → (0 ≤ partI (rowL ⟨yD, yE, yL⟩ n) yE k ∧ partI (rowL ⟨yD, yE, yL⟩ n) yE k ≤ 127) ∧ (softL (rowL ⟨yD, yE, yL⟩ n) yE).getD k 0 = partI (rowL ⟨yD, yE, yL⟩ n) yE k ∧ gradAt ⟨yD, yE, yL⟩ q (n * C + k) = (if (k : Int) = q.getD n 0 then partI (rowL ⟨yD, yE, yL⟩ n) yE k - 127 else partI (rowL ⟨yD, yE, yL⟩ n) yE k) ∧ n * C + k < N * C := (fun h => ⟨part_in (row_fits (t := ⟨yD, yE, yL⟩) f_sy.2.2.1 n) yE (by omega), soft_get yE (by omega), grad_at (t := ⟨yD, yE, yL⟩) (q := q) (n := n) K2.out (by omega), idx_lt (by omega) (by omega)⟩); have HC := Lib.hid hc; clear hc; (try simp only [hs, soft_len, hr, K2.out, HT.out, List.length_map, List.length_range, List.length_singleton, Int.toNat_natCast] at *)))
          all_goals (try first | omega | (exact congrArg _ (Int.natCast_add n 1)))
          rw [show k = C by omega, Nat.add_zero, Nat.succ_mul]
      (all_goals (subst hA; subst h_c; subst h_fs; subst h_fE; subst h_fR); all_goals (have f_sy := SY.out; have f_sq := SQ.out); all_goals (try simp only [std, stdBin, stdCmp, stdUna, stdIn, ci, beq_iff_eq, bne_iff_ne, beq_eq_false_iff_ne, bne_eq_false_iff_eq, decide_eq_true_eq, decide_eq_false_iff_not, Bool.not_true, Bool.not_false, Bool.not_eq_true', Bool.not_eq_false', Bool.not_not, tn0, tn1, tn2, tn3, tq] at *); all_goals (try omega))
      (all_goals (obtain ⟨N, C, c1, c2, ⟨n1, n2⟩, ⟨k1, k2⟩, c3, c4, c5, c6, ⟨x1, x2⟩, c7, c8⟩ := chq_main (t := ⟨yD, yE, yL⟩) (q := q) (by assumption); simp only at c1 c2 c4 c6 x1 x2; have K2 := Lib.hid c2; have K4 := Lib.hid c4))
      all_goals (have h7 : ((n : Int) + 1) * (C : Int) = ((n * C : Nat) : Int) + C := (by rw [Int.add_mul, Int.natCast_mul]; omega); have h8 := Nat.mul_le_mul_right C (show n + 1 ≤ N by omega); rw [Nat.succ_mul] at h8; simp only [K2.out, K4.out, h7, ← Int.natCast_mul] at *; omega)
    case nx =>
      (repeat' (first | apply And.intro | apply BrB.mk | apply BrP.mk | intro _))
      (all_goals (subst hA; subst h_c; subst h_fs; subst h_fE; subst h_fR); all_goals (have f_sy := SY.out; have f_sq := SQ.out); all_goals (try simp only [std, stdBin, stdCmp, stdUna, stdIn, ci, beq_iff_eq, bne_iff_ne, beq_eq_false_iff_ne, bne_eq_false_iff_eq, decide_eq_true_eq, decide_eq_false_iff_not, Bool.not_true, Bool.not_false, Bool.not_eq_true', Bool.not_eq_false', Bool.not_not, tn0, tn1, tn2, tn3, tq] at *); all_goals (try omega))
      · rfl
      · rfl
      · (all_goals (obtain ⟨N, C, c1, c2, ⟨n1, n2⟩, ⟨k1, k2⟩, c3, c4, c5, c6, ⟨x1, x2⟩, c7, c8⟩ := chq_main (t := ⟨yD, yE, yL⟩) (q := q) (by assumption); simp only at c1 c2 c4 c6 x1 x2; have K2 := Lib.hid c2; have K4 := Lib.hid c4))
        rw [HT.out, c2, Int.toNat_natCast, show n = N by omega, Nat.add_zero]
        show _ = (List.range yL.length).map _
        rw [c4]
  (all_goals (subst hA; subst h_c; subst h_fs; subst h_fE; subst h_fR); all_goals (have f_sy := SY.out; have f_sq := SQ.out); all_goals (try simp only [std, stdBin, stdCmp, stdUna, stdIn, ci, beq_iff_eq, bne_iff_ne, beq_eq_false_iff_ne, bne_eq_false_iff_eq, decide_eq_true_eq, decide_eq_false_iff_not, Bool.not_true, Bool.not_false, Bool.not_eq_true', Bool.not_eq_false', Bool.not_not, tn0, tn1, tn2, tn3, tq] at *); all_goals (try omega))
  (all_goals (obtain ⟨N, C, c1, c2, ⟨n1, n2⟩, ⟨k1, k2⟩, c3, c4, c5, c6, ⟨x1, x2⟩, c7, c8⟩ := chq_main (t := ⟨yD, yE, yL⟩) (q := q) (by assumption); simp only at c1 c2 c4 c6 x1 x2; have K2 := Lib.hid c2; have K4 := Lib.hid c4))
  all_goals omega
theorem rtop_ok : CtrOk Try.prog 15 (rowE [tnTy .i8] 3 .i64 (t1 chkI 0) (t1 topR [])) := by
  obtain ⟨G, hG⟩ : ∃ G : List (FuncId × Ctr), G = [(32, intC [tnTy .i8] .i64 (t1 chkI 0))] := ⟨_, rfl⟩
  refine fn_ok (ck := true) Try.func15 rfl tt_ok (G := G) (by rw [hG]; exact ⟨⟨rrows_ok, by unfold FnOk; kernel_rfl⟩, trivial⟩) mixed (by kernel_rfl) ?_
  intro xa xs h hx hp
  obtain ⟨a0, as0, x0, xs0, rfl, rfl, h0, H1⟩ := svArgs_cons h
  obtain ⟨rfl, rfl⟩ := svArgs_nil H1
  obtain ⟨⟨yD, yE, yL⟩, rfl, rfl⟩ := argSV_tn h0
  have sy : (Fits .i64 yD ∧ ci yD.length ≤ 9223372036854775807) ∧ (-9223372036854775808 ≤ yE ∧ yE ≤ 9223372036854775807) ∧ Fits .i8 yL ∧ ci yL.length ≤ 9223372036854775807 := svf_tn (hx (Tn.sv .i8 ⟨yD, yE, yL⟩) (by simp))
  have SY := Lib.hid sy
  clear sy
  clear hx hp h h0 H1
  subst hG
  generalize hA : std = A
  generalize h_c : ci = c
  generalize h_fE : t1 chkI 0 = fE
  generalize h_fR : t1 topR [] = fR
  obtain ⟨T, hT⟩ : ∃ T : Nat → List Int, ∀ n, T n = (List.range n).map (topAt ⟨yD, yE, yL⟩) := ⟨_, fun _ => rfl⟩
  obtain ⟨B, hB⟩ : ∃ T : Nat → Nat → Int, ∀ n j, T n j = ci (bst (rowL ⟨yD, yE, yL⟩ n) j) := ⟨_, fun _ _ => rfl⟩
  have HT := Lib.hid hT
  have HB := Lib.hid hB
  clear hT hB
  cbv
  (repeat' (first | apply And.intro | apply BrB.mk | apply BrP.mk | intro _))
  all_goals try (refine loop_nil [.slot 5 3 .i64] Nat 23 (fun x => [(5, .hdl 1), (7, .any), (8, .any), (9, .any), (23, .v (.int .i64 (c x)))]) (fun x o => o.set 1 (.irow 3 .i64 (T x))) (fun x => ci x ≤ yD.getD 0 0) (fun x => (yD.getD 0 0 - ci x).toNat) 0 ?h0 ?hle ?round)
  case h0 =>
    (all_goals (subst hA; subst h_c; subst h_fE; subst h_fR); all_goals (have f_sy := SY.out); all_goals (try simp only [std, stdBin, stdCmp, stdUna, stdIn, ci, beq_iff_eq, bne_iff_ne, beq_eq_false_iff_ne, bne_eq_false_iff_eq, decide_eq_true_eq, decide_eq_false_iff_not, Bool.not_true, Bool.not_false, Bool.not_eq_true', Bool.not_eq_false', Bool.not_not, tn0, tn1, tn2, tn3, t1] at *); all_goals (try omega))
    (all_goals (obtain ⟨N, C, c1, c2, ⟨n1, n2⟩, ⟨k1, k2⟩, c4, c5, c6⟩ := chk_main (t := ⟨yD, yE, yL⟩) (by assumption); simp only at c1 c2 c4 c6; have K2 := Lib.hid c2; have K4 := Lib.hid c4))
    omega
  case hle =>
    cbv
    (repeat' (first | apply And.intro | apply BrB.mk | apply BrP.mk | intro _))
    (all_goals (subst hA; subst h_c; subst h_fE; subst h_fR); all_goals (have f_sy := SY.out); all_goals (try simp only [std, stdBin, stdCmp, stdUna, stdIn, ci, beq_iff_eq, bne_iff_ne, beq_eq_false_iff_ne, bne_eq_false_iff_eq, decide_eq_true_eq, decide_eq_false_iff_not, Bool.not_true, Bool.not_false, Bool.not_eq_true', Bool.not_eq_false', Bool.not_not, tn0, tn1, tn2, tn3, t1] at *); all_goals (try omega))
    all_goals first | exact True.intro | rfl | skip
    all_goals (rw [HT.out]; rfl)
  case round =>
    intro n hn
    cbv
    refine BrB.mk (fun gx => ?yx) (fun gx => ?nx)
    case yx =>
      (repeat' (first | apply And.intro | apply BrB.mk | apply BrP.mk | intro _))
      all_goals try (refine loop_at Nat 27 (fun x => [(8, .v (.int .i64 (B n x))), (9, .any), (27, .v (.int .i64 (c x)))]) (fun x o => o) (fun x => ci x ≤ yD.getD 1 0) (fun x => (yD.getD 1 0 - ci x).toNat) 0 ?h0 ?hle ?round)
      case h0 =>
        (all_goals (subst hA; subst h_c; subst h_fE; subst h_fR); all_goals (have f_sy := SY.out); all_goals (try simp only [std, stdBin, stdCmp, stdUna, stdIn, ci, beq_iff_eq, bne_iff_ne, beq_eq_false_iff_ne, bne_eq_false_iff_eq, decide_eq_true_eq, decide_eq_false_iff_not, Bool.not_true, Bool.not_false, Bool.not_eq_true', Bool.not_eq_false', Bool.not_not, tn0, tn1, tn2, tn3, t1] at *); all_goals (try omega))
        (all_goals (obtain ⟨N, C, c1, c2, ⟨n1, n2⟩, ⟨k1, k2⟩, c4, c5, c6⟩ := chk_main (t := ⟨yD, yE, yL⟩) (by assumption); simp only at c1 c2 c4 c6; have K2 := Lib.hid c2; have K4 := Lib.hid c4))
        omega
      case hle =>
        cbv
        (repeat' (first | apply And.intro | apply BrB.mk | apply BrP.mk | intro _))
        (all_goals (subst hA; subst h_c; subst h_fE; subst h_fR); all_goals (have f_sy := SY.out); all_goals (try simp only [std, stdBin, stdCmp, stdUna, stdIn, ci, beq_iff_eq, bne_iff_ne, beq_eq_false_iff_ne, bne_eq_false_iff_eq, decide_eq_true_eq, decide_eq_false_iff_not, Bool.not_true, Bool.not_false, Bool.not_eq_true', Bool.not_eq_false', Bool.not_not, tn0, tn1, tn2, tn3, t1] at *); all_goals (try omega))
        all_goals first | exact True.intro | rfl | skip
        all_goals (rw [HB.out]; rfl)
      case round =>
        intro k hk
        cbv
        refine BrB.mk (fun gy => ?yy) (fun gy => ?ny)
        case yy =>
          (repeat' (first | apply And.intro | apply BrB.mk | apply BrP.mk | intro _))
          all_goals try (refine ⟨k + 1, ?_, ?_, ?_⟩)
          all_goals try (show AS.le _ _; cbv; (repeat' (first | apply And.intro | apply BrB.mk | apply BrP.mk | intro _)))
          (all_goals (subst hA; subst h_c; subst h_fE; subst h_fR); all_goals (have f_sy := SY.out); all_goals (try simp only [std, stdBin, stdCmp, stdUna, stdIn, ci, beq_iff_eq, bne_iff_ne, beq_eq_false_iff_ne, bne_eq_false_iff_eq, decide_eq_true_eq, decide_eq_false_iff_not, Bool.not_true, Bool.not_false, Bool.not_eq_true', Bool.not_eq_false', Bool.not_not, tn0, tn1, tn2, tn3, t1] at *); all_goals (try omega))
          (all_goals (obtain ⟨N, C, c1, c2, ⟨n1, n2⟩, ⟨k1, k2⟩, c4, c5, c6⟩ := chk_main (t := ⟨yD, yE, yL⟩) (by assumption); simp only at c1 c2 c4 c6; have K2 := Lib.hid c2; have K4 := Lib.hid c4))
          (all_goals (have hr := row19_len (t := ⟨yD, yE, yL⟩) (n := n) K2.out K4.out (by omega); have bl := bst_lt (l := rowL ⟨yD, yE, yL⟩ n) (by omega) k (by omega); rw [hr] at bl; have i1 := idx_lt (i := n) (n := N) (j := bst (rowL ⟨yD, yE, yL⟩ n) k) (k := C) (by omega) bl; have i2 : (k : Int) < C → n * C + k < N * C := (fun h => idx_lt (by omega) (by omega)); have g2 := row_get (t := ⟨yD, yE, yL⟩) (n := n) (N := N) K2.out bl; have g1 : (k : Int) < C → (rowL ⟨yD, yE, yL⟩ n).getD k 0 = yL.getD (n * C + k) 0 := (fun h => row_get (t := ⟨yD, yE, yL⟩) (n := n) (N := N) K2.out (by omega)); have hb : bst (rowL ⟨yD, yE, yL⟩ n) k.succ = if (rowL ⟨yD, yE, yL⟩ n).getD k 0 > (rowL ⟨yD, yE, yL⟩ n).getD (bst (rowL ⟨yD, yE, yL⟩ n) k) 0 then k else bst (rowL ⟨yD, yE, yL⟩ n) k := rfl; have bt := bst_top (l := rowL ⟨yD, yE, yL⟩ n) (by omega); have ta : topAt ⟨yD, yE, yL⟩ n = idxV (rowL ⟨yD, yE, yL⟩ n) (mxTo (rowL ⟨yD, yE, yL⟩ n) ((rowL ⟨yD, yE, yL⟩ n).length - 1)) := rfl; rw [← ta] at bt; (try simp only [HB.out, HT.out, K2.out, K4.out, ci, ← Int.natCast_mul, ← Int.natCast_add, Int.toNat_natCast, List.length_map, List.length_range, List.length_singleton] at *)))
          all_goals (have i3 := i2 (by omega); have g3 := g1 (by omega); (try simp only [hb, g2, g3] at *))
          all_goals (try first | omega | (exact congrArg _ (Int.natCast_add k 1)))
          · rw [if_pos (by assumption)]
          · rw [if_neg (by assumption)]
        case ny =>
          (repeat' (first | apply And.intro | apply BrB.mk | apply BrP.mk | intro _))
          all_goals try (refine ⟨n + 1, ?_, ?_, ?_⟩)
          all_goals try (show AS.le _ _; cbv; (repeat' (first | apply And.intro | apply BrB.mk | apply BrP.mk | intro _)))
          (all_goals (subst hA; subst h_c; subst h_fE; subst h_fR); all_goals (have f_sy := SY.out); all_goals (try simp only [std, stdBin, stdCmp, stdUna, stdIn, ci, beq_iff_eq, bne_iff_ne, beq_eq_false_iff_ne, bne_eq_false_iff_eq, decide_eq_true_eq, decide_eq_false_iff_not, Bool.not_true, Bool.not_false, Bool.not_eq_true', Bool.not_eq_false', Bool.not_not, tn0, tn1, tn2, tn3, t1] at *); all_goals (try omega))
          (all_goals (obtain ⟨N, C, c1, c2, ⟨n1, n2⟩, ⟨k1, k2⟩, c4, c5, c6⟩ := chk_main (t := ⟨yD, yE, yL⟩) (by assumption); simp only at c1 c2 c4 c6; have K2 := Lib.hid c2; have K4 := Lib.hid c4))
          (all_goals (have hr := row19_len (t := ⟨yD, yE, yL⟩) (n := n) K2.out K4.out (by omega); have bl := bst_lt (l := rowL ⟨yD, yE, yL⟩ n) (by omega) k (by omega); rw [hr] at bl; have i1 := idx_lt (i := n) (n := N) (j := bst (rowL ⟨yD, yE, yL⟩ n) k) (k := C) (by omega) bl; have i2 : (k : Int) < C → n * C + k < N * C := (fun h => idx_lt (by omega) (by omega)); have g2 := row_get (t := ⟨yD, yE, yL⟩) (n := n) (N := N) K2.out bl; have g1 : (k : Int) < C → (rowL ⟨yD, yE, yL⟩ n).getD k 0 = yL.getD (n * C + k) 0 := (fun h => row_get (t := ⟨yD, yE, yL⟩) (n := n) (N := N) K2.out (by omega)); have hb : bst (rowL ⟨yD, yE, yL⟩ n) k.succ = if (rowL ⟨yD, yE, yL⟩ n).getD k 0 > (rowL ⟨yD, yE, yL⟩ n).getD (bst (rowL ⟨yD, yE, yL⟩ n) k) 0 then k else bst (rowL ⟨yD, yE, yL⟩ n) k := rfl; have bt := bst_top (l := rowL ⟨yD, yE, yL⟩ n) (by omega); have ta : topAt ⟨yD, yE, yL⟩ n = idxV (rowL ⟨yD, yE, yL⟩ n) (mxTo (rowL ⟨yD, yE, yL⟩ n) ((rowL ⟨yD, yE, yL⟩ n).length - 1)) := rfl; rw [← ta] at bt; (try simp only [HB.out, HT.out, K2.out, K4.out, ci, ← Int.natCast_mul, ← Int.natCast_add, Int.toNat_natCast, List.length_map, List.length_range, List.length_singleton] at *)))
          all_goals (try first | omega | (exact congrArg _ (Int.natCast_add n 1)))
          have hz := range_snoc19 (topAt ⟨yD, yE, yL⟩) n
          rw [bt, hr, show C = k by omega] at hz
          exact hz.symm
      (all_goals (subst hA; subst h_c; subst h_fE; subst h_fR); all_goals (have f_sy := SY.out); all_goals (try simp only [std, stdBin, stdCmp, stdUna, stdIn, ci, beq_iff_eq, bne_iff_ne, beq_eq_false_iff_ne, bne_eq_false_iff_eq, decide_eq_true_eq, decide_eq_false_iff_not, Bool.not_true, Bool.not_false, Bool.not_eq_true', Bool.not_eq_false', Bool.not_not, tn0, tn1, tn2, tn3, t1] at *); all_goals (try omega))
      skip
    case nx =>
      (repeat' (first | apply And.intro | apply BrB.mk | apply BrP.mk | intro _))
      (all_goals (subst hA; subst h_c; subst h_fE; subst h_fR); all_goals (have f_sy := SY.out); all_goals (try simp only [std, stdBin, stdCmp, stdUna, stdIn, ci, beq_iff_eq, bne_iff_ne, beq_eq_false_iff_ne, bne_eq_false_iff_eq, decide_eq_true_eq, decide_eq_false_iff_not, Bool.not_true, Bool.not_false, Bool.not_eq_true', Bool.not_eq_false', Bool.not_not, tn0, tn1, tn2, tn3, t1] at *); all_goals (try omega))
      (all_goals (obtain ⟨N, C, c1, c2, ⟨n1, n2⟩, ⟨k1, k2⟩, c4, c5, c6⟩ := chk_main (t := ⟨yD, yE, yL⟩) (by assumption); simp only at c1 c2 c4 c6; have K2 := Lib.hid c2; have K4 := Lib.hid c4))
      · exact congrArg _ (Eq.symm (by assumption))
      · unfold topR topN
        rw [if_pos (by assumption), HT.out, show n = (yD.getD 0 0).toNat by omega]
  (all_goals (subst hA; subst h_c; subst h_fE; subst h_fR); all_goals (have f_sy := SY.out); all_goals (try simp only [std, stdBin, stdCmp, stdUna, stdIn, ci, beq_iff_eq, bne_iff_ne, beq_eq_false_iff_ne, bne_eq_false_iff_eq, decide_eq_true_eq, decide_eq_false_iff_not, Bool.not_true, Bool.not_false, Bool.not_eq_true', Bool.not_eq_false', Bool.not_not, tn0, tn1, tn2, tn3, t1] at *); all_goals (try omega))
  · unfold topR
    rw [if_neg (by assumption)]
  (all_goals (obtain ⟨N, C, c1, c2, ⟨n1, n2⟩, ⟨k1, k2⟩, c4, c5, c6⟩ := chk_main (t := ⟨yD, yE, yL⟩) (by assumption); simp only at c1 c2 c4 c6; have K2 := Lib.hid c2; have K4 := Lib.hid c4))
  all_goals omega
theorem rright_ok : CtrOk Try.prog 17 (intE [tnTy .i8, .sl (.int .i64)] .i64 (tq chqI 0) (tq rgtR 0)) := by
  obtain ⟨G, hG⟩ : ∃ G : List (FuncId × Ctr), G = [(28, intC [tnTy .i8, .sl (.int .i64)] .i64 (tq chqI 0)), (15, rowE [tnTy .i8] 3 .i64 (t1 chkI 0) (t1 topR []))] := ⟨_, rfl⟩
  refine fn_ok (ck := true) Try.func17 rfl tt_ok (G := G) (by rw [hG]; exact ⟨⟨rlab_ok, by unfold FnOk; kernel_rfl⟩, ⟨rtop_ok, by unfold FnOk; kernel_rfl⟩, trivial⟩) mixed (by kernel_rfl) ?_
  intro xa xs h hx hp
  obtain ⟨a0, as0, x0, xs0, rfl, rfl, h0, H1⟩ := svArgs_cons h
  obtain ⟨a1, as1, x1, xs1, rfl, rfl, h1, H2⟩ := svArgs_cons H1
  obtain ⟨rfl, rfl⟩ := svArgs_nil H2
  obtain ⟨⟨yD, yE, yL⟩, rfl, rfl⟩ := argSV_tn h0
  obtain ⟨q, rfl, rfl⟩ := argSV_ints h1
  have sy : (Fits .i64 yD ∧ ci yD.length ≤ 9223372036854775807) ∧ (-9223372036854775808 ≤ yE ∧ yE ≤ 9223372036854775807) ∧ Fits .i8 yL ∧ ci yL.length ≤ 9223372036854775807 := svf_tn (hx (Tn.sv .i8 ⟨yD, yE, yL⟩) (by simp))
  have sq : Fits .i64 q ∧ ci q.length ≤ 9223372036854775807 := svf_ints (hx (.iimm .i64 q) (by simp))
  have SY := Lib.hid sy
  clear sy
  have SQ := Lib.hid sq
  clear sq
  clear hx hp h h0 H1 h1 H2
  subst hG
  generalize hA : std = A
  generalize h_c : ci = c
  generalize h_fh : t1 chkI 0 = fh
  generalize h_ft : t1 topR [] = ft
  generalize h_fE : tq chqI 0 = fE
  generalize h_fR : tq rgtR 0 = fR
  obtain ⟨V, hV⟩ : ∃ T : Nat → Int, ∀ n, T n = rgtN ⟨yD, yE, yL⟩ q n := ⟨_, fun _ => rfl⟩
  have HV := Lib.hid hV
  clear hV
  cbv
  (repeat' (first | apply And.intro | apply BrB.mk | apply BrP.mk | intro _))
  all_goals try (refine loop_at Nat 25 (fun x => [(9, .v (.int .i64 (V x))), (10, .any), (11, .any), (25, .v (.int .i64 (c x)))]) (fun x o => o) (fun x => x ≤ q.length) (fun x => q.length - x) 0 (Nat.zero_le _) ?hle ?round)
  case hle =>
    cbv
    (repeat' (first | apply And.intro | apply BrB.mk | apply BrP.mk | intro _))
    (all_goals (subst hA; subst h_c; subst h_fh; subst h_ft; subst h_fE; subst h_fR); all_goals (have f_sy := SY.out; have f_sq := SQ.out); all_goals (try simp only [std, stdBin, stdCmp, stdUna, stdIn, ci, beq_iff_eq, bne_iff_ne, beq_eq_false_iff_ne, bne_eq_false_iff_eq, decide_eq_true_eq, decide_eq_false_iff_not, Bool.not_true, Bool.not_false, Bool.not_eq_true', Bool.not_eq_false', Bool.not_not, tn0, tn1, tn2, tn3, t1] at *); all_goals (try omega))
    all_goals first | exact True.intro | rfl | skip
    rw [HV.out, rgtN]
  case round =>
    intro n hn
    cbv
    refine BrB.mk (fun gx => ?yx) (fun gx => ?nx)
    case yx =>
      (repeat' (first | apply And.intro | apply BrB.mk | apply BrP.mk | intro _))
      all_goals try (refine ⟨n + 1, ?_, ?_, ?_⟩)
      all_goals try (show AS.le _ _; cbv; (repeat' (first | apply And.intro | apply BrB.mk | apply BrP.mk | intro _)))
      (all_goals (subst hA; subst h_c; subst h_fh; subst h_ft; subst h_fE; subst h_fR); all_goals (have f_sy := SY.out; have f_sq := SQ.out); all_goals (try simp only [std, stdBin, stdCmp, stdUna, stdIn, ci, beq_iff_eq, bne_iff_ne, beq_eq_false_iff_ne, bne_eq_false_iff_eq, decide_eq_true_eq, decide_eq_false_iff_not, Bool.not_true, Bool.not_false, Bool.not_eq_true', Bool.not_eq_false', Bool.not_not, tn0, tn1, tn2, tn3, t1, tq] at *); all_goals (try omega))
      all_goals (have h0 := chq_chk (t := ⟨yD, yE, yL⟩) (q := q) (by assumption))
      (all_goals (obtain ⟨N, C, c1, c2, ⟨n1, n2⟩, ⟨k1, k2⟩, c3, c4, c5, c6, ⟨x1, x2⟩, c7, c8⟩ := chq_main (t := ⟨yD, yE, yL⟩) (q := q) (by assumption); simp only at c1 c2 c4 c6 x1 x2; have K2 := Lib.hid c2; have K4 := Lib.hid c4))
      all_goals (have ht := topR_at h0 (n := n) (by show (n : Int) < yD.getD 0 0; omega); have hl := topR_len h0; have hv := rgt_in ⟨yD, yE, yL⟩ q n; have hs : rgtN ⟨yD, yE, yL⟩ q n.succ = (if topAt ⟨yD, yE, yL⟩ n = q.getD n 0 then rgtN ⟨yD, yE, yL⟩ q n + 1 else rgtN ⟨yD, yE, yL⟩ q n) := rfl; simp only [HV.out, hs, Int.toNat_natCast, ht, hl, c1] at *)
      all_goals (first | omega | (exact congrArg _ (Int.natCast_add n 1)) | (refine congrArg _ ?_; first | (rw [if_pos (by assumption)]) | (rw [if_neg (by assumption)])))
    case nx =>
      (repeat' (first | apply And.intro | apply BrB.mk | apply BrP.mk | intro _))
      (all_goals (subst hA; subst h_c; subst h_fh; subst h_ft; subst h_fE; subst h_fR); all_goals (have f_sy := SY.out; have f_sq := SQ.out); all_goals (try simp only [std, stdBin, stdCmp, stdUna, stdIn, ci, beq_iff_eq, bne_iff_ne, beq_eq_false_iff_ne, bne_eq_false_iff_eq, decide_eq_true_eq, decide_eq_false_iff_not, Bool.not_true, Bool.not_false, Bool.not_eq_true', Bool.not_eq_false', Bool.not_not, tn0, tn1, tn2, tn3, t1, tq] at *); all_goals (try omega))
      · refine congrArg _ ?_
        unfold rgtR
        rw [if_pos (by assumption), HV.out, show n = q.length by omega]
      · exact congrArg _ (Eq.symm (by assumption))
  (all_goals (subst hA; subst h_c; subst h_fh; subst h_ft; subst h_fE; subst h_fR); all_goals (have f_sy := SY.out; have f_sq := SQ.out); all_goals (try simp only [std, stdBin, stdCmp, stdUna, stdIn, ci, beq_iff_eq, bne_iff_ne, beq_eq_false_iff_ne, bne_eq_false_iff_eq, decide_eq_true_eq, decide_eq_false_iff_not, Bool.not_true, Bool.not_false, Bool.not_eq_true', Bool.not_eq_false', Bool.not_not, tn0, tn1, tn2, tn3, t1, tq] at *); all_goals (try omega))
  refine congrArg _ ?_
  unfold rgtR
  rw [if_neg (by assumption)]
end Go.Proofs.Ytdbfgcpohloabaa
