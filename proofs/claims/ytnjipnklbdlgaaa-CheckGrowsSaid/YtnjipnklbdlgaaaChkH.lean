/- Layer 16: what each layer gives hangs on those up to it. -/
import Derived.Test.YtnjipnklbdlgaaaChkG
namespace Go.Proofs.Ytnjipnklbdlgaaa
open Go.RowKit
set_option maxRecDepth 1000000
set_option linter.unusedSimpArgs false
set_option linter.unusedVariables false
set_option maxHeartbeats 16000000
set_option cbv.maxSteps 10000000
theorem shp_congr {c h w : Int} {x y : Dat} : ∀ {j : Nat}, (∀ i, i < j → x.at i = y.at i) → shp c h w x j = shp c h w y j
  | 0, _ => rfl
  | j + 1, hh => by
    have h1 := shp_congr (c := c) (h := h) (w := w) (j := j) fun i hi => hh i (by omega)
    have h2 := hh j (by omega)
    simp only [shp, layI, h1, h2]
theorem shT_congr {c h w : Int} {x y : Dat} {j : Nat} (hh : ∀ i, i < j → x.at i = y.at i) : shT c h w x j = shT c h w y j := by
  unfold shT; rw [shp_congr hh]
theorem shErr_congr {c h w : Int} {x y : Dat} {i : Nat} (hh : ∀ q, q < i + 1 → x.at q = y.at q) : shErr c h w x i = shErr c h w y i := by
  have h1 : shT c h w x i = shT c h w y i := shT_congr fun q hq => hh q (by omega)
  have h2 : shT c h w x (i + 1) = shT c h w y (i + 1) := shT_congr hh
  have h3 : shp c h w x i = shp c h w y i := shp_congr fun q hq => hh q (by omega)
  have h4 := hh i (by omega)
  unfold shErr
  rw [h1, h2, h3]
  simp only [layI, h4]
  rfl
theorem layAt_congr {x y : Dat} {i : Nat} (hh : x.at i = y.at i) : layAt x i = layAt y i := by
  unfold layAt; rw [hh]
theorem mdl_mk {c h w : Int} {x : Dat} (h1 : 1 ≤ c ∧ c ≤ 8) (h2 : 1 ≤ h ∧ h ≤ 16) (h3 : 1 ≤ w ∧ w ≤ 16) (h4 : 1 ≤ x.ls.length ∧ x.ls.length ≤ 12) (h5 : ∀ i, i < x.ls.length → layAt x i = true) : mdlB c h w x = true := by
  unfold mdlB in3B inB
  simp only [Bool.and_eq_true]
  exact ⟨⟨decide_eq_true h1, decide_eq_true h2, decide_eq_true h3⟩, decide_eq_true (by omega), allTo_all h5⟩
/-- A net's beginning. -/
theorem beg_ok {c h w : Int} {x y : Dat} {k : Nat} (hz : (shpR c h w x).2 = 0) (hk : 1 ≤ k ∧ k ≤ x.ls.length) (hl : y.ls.length = k) (ha : ∀ i, i < k → y.at i = x.at i) : shpR c h w y = (0, 0) ∧ shp c h w y y.ls.length = shp c h w x k := by
  obtain ⟨hm, hS⟩ := shpR_ok hz
  obtain ⟨m1, m2, m3, m4, m5⟩ := mdl_of hm
  refine ⟨shpR_all (mdl_mk m1 m2 m3 (by omega) fun i hi => ?_) fun i hi => ?_, by rw [hl]; exact shp_congr ha⟩
  · rw [layAt_congr (ha i (by omega))]; exact m5 i (by omega)
  · rw [shErr_congr (y := x) fun q hq => ha q (by omega)]; exact hS i (by omega)
/-- A net with one layer more, that changes no shape. -/
theorem end_ok {c h w : Int} {x y : Dat} (hz : (shpR c h w x).2 = 0) (hn : x.ls.length < 12) (hl : y.ls.length = x.ls.length + 1) (ha : ∀ i, i < x.ls.length → y.at i = x.at i) (he : y.at x.ls.length = .agg [.int 5, .int 0, .int 0, .int 0, .int 0, .int 0, .bool false]) :
    mdlB c h w y = true ∧ shpR c h w y = (0, 0) ∧ shT c h w y (x.ls.length + 1) = shT c h w x x.ls.length := by
  obtain ⟨hm, hS⟩ := shpR_ok hz
  obtain ⟨m1, m2, m3, m4, m5⟩ := mdl_of hm
  have hr : layAt y x.ls.length = true := by
    unfold layAt; rw [he]; rfl
  have ht : shT c h w y x.ls.length = shT c h w x x.ls.length := shT_congr ha
  have hv : shT c h w y (x.ls.length + 1) = shT c h w x x.ls.length := by
    rw [shT_succ, ht]
    unfold layI; rw [he]; rfl
  have hmy : mdlB c h w y = true := mdl_mk m1 m2 m3 (by omega) fun i hi => by
    by_cases e : i = x.ls.length
    · rw [e]; exact hr
    · rw [layAt_congr (ha i (by omega))]; exact m5 i (by omega)
  refine ⟨hmy, shpR_all hmy fun i hi => ?_, hv⟩
  by_cases e : i = x.ls.length
  · subst e
    refine shErr_zero ?_ ?_ (by rw [hv]; exact shT_may hm hS _ (Nat.le_refl _))
    · unfold layI; rw [he]; rfl
    · unfold layI; rw [he]; rfl
  · rw [shErr_congr (y := x) fun q hq => ha q (by omega)]; exact hS i (by omega)
theorem grow_q {x : Dat} (k : Int) (h1 : 1 ≤ x.ls.length) (h2 : x.ls.length ≤ 12) : ∃ q : Nat, (1 ≤ q ∧ q ≤ x.ls.length) ∧ IntKind.u64.wrap (x.ls.length : Int) = (x.ls.length : Int) ∧ 1 + IntKind.i64.wrap ((IntKind.u64.wrap k).tmod (x.ls.length : Int)) = (q : Int) := by
  have h0 : 0 ≤ IntKind.u64.wrap k := by
    rw [IntKind.wrap_u64]; omega
  have hw : IntKind.u64.wrap (x.ls.length : Int) = (x.ls.length : Int) := by
    rw [IntKind.wrap_u64]; omega
  have ha := Int.tmod_lt_of_pos (IntKind.u64.wrap k) (show (0 : Int) < (x.ls.length : Int) by omega)
  have hb := Int.tmod_nonneg (x.ls.length : Int) h0
  have hi : IntKind.i64.wrap ((IntKind.u64.wrap k).tmod (x.ls.length : Int)) = (IntKind.u64.wrap k).tmod (x.ls.length : Int) := by
    rw [IntKind.wrap_i64]; omega
  refine ⟨(1 + (IntKind.u64.wrap k).tmod (x.ls.length : Int)).toNat, ⟨by omega, by omega⟩, hw, ?_⟩
  rw [hi]; omega
theorem grow_facts {c h w : Int} {x : Dat} (k : Int) (hz : (shpR c h w x).2 = 0) : ∃ q : Nat, (1 ≤ q ∧ q ≤ x.ls.length ∧ x.ls.length ≤ 12) ∧ IntKind.u64.wrap (x.ls.length : Int) = (x.ls.length : Int) ∧ 1 + IntKind.i64.wrap ((IntKind.u64.wrap k).tmod (x.ls.length : Int)) = (q : Int) ∧
    shpR c h w (Dat.list (List.take ((q : Int) - 0).toNat (List.drop 0 x.ls))) = (0, 0) ∧ (Dat.list (List.take ((q : Int) - 0).toNat (List.drop 0 x.ls))).ls.length = q ∧ (∀ j, j ≤ q → (shp c h w (Dat.list (List.take ((q : Int) - 0).toNat (List.drop 0 x.ls))) q).getD j [] = (shp c h w x x.ls.length).getD j []) ∧
    (x.ls.length < 12 → mdlB c h w (Dat.list ((Dat.list ((Dat.list []).ls ++ x.ls)).ls ++ (Dat.list [Dat.agg [Dat.int 5, Dat.int 0, Dat.int 0, Dat.int 0, Dat.int 0, Dat.int 0, Dat.bool false]]).ls)) = true ∧ shpR c h w (Dat.list ((Dat.list ((Dat.list []).ls ++ x.ls)).ls ++ (Dat.list [Dat.agg [Dat.int 5, Dat.int 0, Dat.int 0, Dat.int 0, Dat.int 0, Dat.int 0, Dat.bool false]]).ls)) = (0, 0) ∧ (shp c h w (Dat.list ((Dat.list ((Dat.list []).ls ++ x.ls)).ls ++ (Dat.list [Dat.agg [Dat.int 5, Dat.int 0, Dat.int 0, Dat.int 0, Dat.int 0, Dat.int 0, Dat.bool false]]).ls)) (x.ls.length + 1)).getD (x.ls.length + 1) [] = (shp c h w x x.ls.length).getD x.ls.length []) ∧
    (Dat.list ((Dat.list ((Dat.list []).ls ++ x.ls)).ls ++ (Dat.list [Dat.agg [Dat.int 5, Dat.int 0, Dat.int 0, Dat.int 0, Dat.int 0, Dat.int 0, Dat.bool false]]).ls)).ls.length = x.ls.length + 1 ∧ (Dat.list ((Dat.list []).ls ++ x.ls)).ls.length = x.ls.length ∧ (Dat.list []).ls.length = 0 ∧ (Dat.list [Dat.agg [Dat.int 5, Dat.int 0, Dat.int 0, Dat.int 0, Dat.int 0, Dat.int 0, Dat.bool false]]).ls.length = 1 ∧ (((x.ls.length + 1 : Nat) : Int) - 1).toNat = x.ls.length := by
  obtain ⟨hm, hS⟩ := shpR_ok hz
  obtain ⟨m1, m2, m3, m4, m5⟩ := mdl_of hm
  obtain ⟨q, ⟨q1, q2⟩, hw, hq⟩ := grow_q k m4.1 m4.2
  have hl1 : (Dat.list (List.take ((q : Int) - 0).toNat (List.drop 0 x.ls))).ls.length = q := by
    show (List.take ((q : Int) - 0).toNat (List.drop 0 x.ls)).length = q
    rw [List.length_take, List.length_drop]; omega
  have ha1 : ∀ i, i < q → (Dat.list (List.take ((q : Int) - 0).toNat (List.drop 0 x.ls))).at i = x.at i := by
    intro i hi
    show (List.take ((q : Int) - 0).toNat (List.drop 0 x.ls)).getD i _ = x.ls.getD i _
    rw [List.getD_eq_getElem?_getD, List.getElem?_take, if_pos (by omega), List.drop_zero, ← List.getD_eq_getElem?_getD]
  obtain ⟨b1, b2⟩ := beg_ok hz ⟨q1, q2⟩ hl1 ha1
  have hl2 : (Dat.list ((Dat.list ((Dat.list []).ls ++ x.ls)).ls ++ (Dat.list [Dat.agg [Dat.int 5, Dat.int 0, Dat.int 0, Dat.int 0, Dat.int 0, Dat.int 0, Dat.bool false]]).ls)).ls.length = x.ls.length + 1 := by
    show ([] ++ x.ls ++ [_]).length = _
    simp
  refine ⟨q, ⟨q1, q2, m4.2⟩, hw, hq, b1, hl1, fun j hj => ?_, fun h12 => ?_, hl2, by show ([] ++ x.ls).length = _; rfl, rfl, rfl, by omega⟩
  · rw [hl1] at b2
    rw [b2, shp_at hj, shp_at (by omega)]
  · obtain ⟨e1, e2, e3⟩ := end_ok (y := (Dat.list ((Dat.list ((Dat.list []).ls ++ x.ls)).ls ++ (Dat.list [Dat.agg [Dat.int 5, Dat.int 0, Dat.int 0, Dat.int 0, Dat.int 0, Dat.int 0, Dat.bool false]]).ls))) hz h12 hl2 (fun i hi => by
      show ([] ++ x.ls ++ [_]).getD i _ = x.ls.getD i _
      rw [List.nil_append, List.getD_eq_getElem?_getD, List.getElem?_append_left hi, ← List.getD_eq_getElem?_getD]) (by
      show ([] ++ x.ls ++ [_]).getD x.ls.length _ = _
      rw [List.nil_append, List.getD_eq_getElem?_getD, List.getElem?_append_right (Nat.le_refl _), Nat.sub_self]; rfl)
    refine ⟨e1, e2, ?_⟩
    exact e3
theorem grows_ok : CtrOk Try.prog 6 (yes6 [mdlTy, .int .i64] (fun _ => True)) := by
  obtain ⟨G, hG⟩ : ∃ G : List (FuncId × Ctr), G = [(14, boolC [.sl (.int .i64), .sl (.int .i64)] eqF), (20, boolC [mdlTy] mdlF), (11, yes6 [] (fun _ => True))] := ⟨_, rfl⟩
  refine fn_inl2 (ck := true) rfl [(12, shpC shpE shpN shpD)] ⟨⟨by unfold FnOk; kernel_rfl, shapes_ok⟩, trivial⟩ [] trivial Try.func6 rfl tt_ok (G := G) (by rw [hG]; exact ⟨⟨rsame_ok, by unfold FnOk; kernel_rfl⟩, ⟨rmm_ok, by unfold FnOk; kernel_rfl⟩, ⟨awake16_ok, by unfold FnOk; kernel_rfl⟩, trivial⟩) mixed (by kernel_rfl) ?_
  intro xa xs h hx hp
  obtain ⟨a0, as0, x0, xs0, rfl, rfl, h0, H1⟩ := svArgs_cons h
  obtain ⟨a1, as1, x1, xs1, rfl, rfl, h1, H2⟩ := svArgs_cons H1
  obtain ⟨rfl, rfl⟩ := svArgs_nil H2
  obtain ⟨mc, mh, mw, mx, rfl, rfl⟩ := argSV_mdl h0
  obtain ⟨k, rfl, rfl⟩ := argSV_int h1
  have sm : (-9223372036854775808 ≤ mc ∧ mc ≤ 9223372036854775807) ∧ (-9223372036854775808 ≤ mh ∧ mh ≤ 9223372036854775807) ∧ (-9223372036854775808 ≤ mw ∧ mw ≤ 9223372036854775807) ∧ ((ci mx.ls.length ≤ 9223372036854775807) ∧ Wt (.sl layTy) mx) := svf_mdl (hx (.agg [.v (.int .i64 mc), .v (.int .i64 mh), .v (.int .i64 mw), .imm layTy mx]) (List.mem_of_getElem? (i := 0) rfl))
  have sk := of_i64 (hx (.v (.int .i64 k)) (by simp))
  have SM := Lib.hid sm
  clear sm
  have SK := Lib.hid sk
  clear sk
  clear hx hp h h0 H1 h1 H2
  generalize hA : std = A
  subst hG
  generalize h_c : ci = c
  generalize h_fe : shpE = fe
  generalize h_fN : shpN = fN
  generalize h_fD : shpD = fD
  generalize h_fs : eqF = fs
  generalize h_fm : mdlF = fm
  obtain ⟨N, hN⟩ : ∃ N : Nat, N = (1 + IntKind.i64.wrap ((IntKind.u64.wrap k).tmod (IntKind.u64.wrap mx.ls.length))).toNat + 1 := ⟨_, rfl⟩
  have HN := Lib.hid hN
  clear hN
  cbv
  (repeat' (first | apply And.intro | apply BrB.mk | apply BrP.mk | intro _))
  (all_goals try (exfalso; (subst hA; subst h_c; subst h_fe; subst h_fN; subst h_fD; subst h_fs; subst h_fm); (try simp only [std, stdBin, stdCmp, stdUna, stdIn, ci, beq_iff_eq, bne_iff_ne, beq_eq_false_iff_ne, bne_eq_false_iff_eq, decide_eq_true_eq, decide_eq_false_iff_not, Bool.not_true, Bool.not_false, Bool.not_eq_true', Bool.not_eq_false', Bool.not_not, tn0, tn1, tn2, tn3] at *); first | omega | contradiction))
  all_goals try (refine loop_at Nat 81 (fun j => [(4, .lit false), (11, .any), (81, .v (.int .i64 (c j)))]) (fun j o => o) (fun j => j ≤ N) (fun j => N - j) 0 ?h0 ?hle ?round)
  case h0 => exact Nat.zero_le _
  case hle => (cbv; (repeat' (first | apply And.intro | apply BrB.mk | apply BrP.mk | intro _)); all_goals (subst hA; subst h_c; subst h_fe; subst h_fN; subst h_fD; subst h_fs; subst h_fm); all_goals (have f_sm := SM.out; have f_sk := SK.out); all_goals (try simp only [std, stdBin, stdCmp, stdUna, stdIn, ci, beq_iff_eq, bne_iff_ne, beq_eq_false_iff_ne, bne_eq_false_iff_eq, decide_eq_true_eq, decide_eq_false_iff_not, Bool.not_true, Bool.not_false, Bool.not_eq_true', Bool.not_eq_false', Bool.not_not, tn0, tn1, tn2, tn3] at *); (all_goals first | exact True.intro | rfl | exact congrArg (Value.int .i64) (by omega)))
  case round =>
    intro j hj
    cbv
    refine BrB.mk (fun gx => ?yx) (fun gx => ?nx)
    case yx =>
      (repeat' (first | apply And.intro | apply BrB.mk | apply BrP.mk | intro _))
      all_goals try (refine ⟨j + 1, ?_, ?_, ?_⟩)
      all_goals try (show AS.le _ _; (cbv; (repeat' (first | apply And.intro | apply BrB.mk | apply BrP.mk | intro _)); all_goals (subst hA; subst h_c; subst h_fe; subst h_fN; subst h_fD; subst h_fs; subst h_fm); all_goals (have f_sm := SM.out; have f_sk := SK.out); all_goals (try simp only [std, stdBin, stdCmp, stdUna, stdIn, ci, beq_iff_eq, bne_iff_ne, beq_eq_false_iff_ne, bne_eq_false_iff_eq, decide_eq_true_eq, decide_eq_false_iff_not, Bool.not_true, Bool.not_false, Bool.not_eq_true', Bool.not_eq_false', Bool.not_not, tn0, tn1, tn2, tn3] at *); (all_goals first | exact True.intro | rfl | exact congrArg (Value.int .i64) (by omega))))
      (all_goals (subst hA; subst h_c; subst h_fe; subst h_fN; subst h_fD; subst h_fs; subst h_fm); all_goals (have f_sm := SM.out; have f_sk := SK.out); all_goals (try simp only [std, stdBin, stdCmp, stdUna, stdIn, ci, beq_iff_eq, bne_iff_ne, beq_eq_false_iff_ne, bne_eq_false_iff_eq, decide_eq_true_eq, decide_eq_false_iff_not, Bool.not_true, Bool.not_false, Bool.not_eq_true', Bool.not_eq_false', Bool.not_not, tn0, tn1, tn2, tn3, shpE, shpN, shpD, mdlF, eqF, rowsD_at', rowsD_len, shp_len, Int.toNat_natCast] at *); all_goals (try omega))
      all_goals first | (have hz0 : (shpR mc mh mw mx).snd = 0 := (by assumption); obtain ⟨q, f1, f2, f3, f4, f5, f6, f7, f8, f9, f10, f11, f12⟩ := grow_facts k hz0; have HN2 := HN.out; simp only [f2, f3, f4, f5, f8, f9, f10, f11, f12, Int.toNat_natCast] at *; first | omega | contradiction | (have f6j := f6 j (by omega); contradiction) | (obtain ⟨g1, g2, g3⟩ := f7 (by omega); simp only [g1, g2, g3] at *; first | contradiction | omega | (simp at *; done) | (simp_all; done)) | (exfalso; simp_all; done) | (simp_all; omega)) | trace_state
    case nx =>
      (repeat' (first | apply And.intro | apply BrB.mk | apply BrP.mk | intro _))
      (all_goals (subst hA; subst h_c; subst h_fe; subst h_fN; subst h_fD; subst h_fs; subst h_fm); all_goals (have f_sm := SM.out; have f_sk := SK.out); all_goals (try simp only [std, stdBin, stdCmp, stdUna, stdIn, ci, beq_iff_eq, bne_iff_ne, beq_eq_false_iff_ne, bne_eq_false_iff_eq, decide_eq_true_eq, decide_eq_false_iff_not, Bool.not_true, Bool.not_false, Bool.not_eq_true', Bool.not_eq_false', Bool.not_not, tn0, tn1, tn2, tn3, shpE, shpN, shpD, mdlF, eqF, rowsD_at', rowsD_len, shp_len, Int.toNat_natCast] at *); all_goals (try omega))
      all_goals first | (have hz0 : (shpR mc mh mw mx).snd = 0 := (by assumption); obtain ⟨q, f1, f2, f3, f4, f5, f6, f7, f8, f9, f10, f11, f12⟩ := grow_facts k hz0; have HN2 := HN.out; simp only [f2, f3, f4, f5, f8, f9, f10, f11, f12, Int.toNat_natCast] at *; first | omega | contradiction | (have f6j := f6 j (by omega); contradiction) | (obtain ⟨g1, g2, g3⟩ := f7 (by omega); simp only [g1, g2, g3] at *; first | contradiction | omega | (simp at *; done) | (simp_all; done)) | (exfalso; simp_all; done) | (simp_all; omega)) | trace_state
  (all_goals (subst hA; subst h_c; subst h_fe; subst h_fN; subst h_fD; subst h_fs; subst h_fm); all_goals (have f_sm := SM.out; have f_sk := SK.out); all_goals (try simp only [std, stdBin, stdCmp, stdUna, stdIn, ci, beq_iff_eq, bne_iff_ne, beq_eq_false_iff_ne, bne_eq_false_iff_eq, decide_eq_true_eq, decide_eq_false_iff_not, Bool.not_true, Bool.not_false, Bool.not_eq_true', Bool.not_eq_false', Bool.not_not, tn0, tn1, tn2, tn3, shpE, shpN, shpD, mdlF, eqF, rowsD_at', rowsD_len, shp_len, Int.toNat_natCast] at *); all_goals (try omega))
  all_goals first | (have hz0 : (shpR mc mh mw mx).snd = 0 := (by assumption); obtain ⟨q, f1, f2, f3, f4, f5, f6, f7, f8, f9, f10, f11, f12⟩ := grow_facts k hz0; have HN2 := HN.out; simp only [f2, f3, f4, f5, f8, f9, f10, f11, f12, Int.toNat_natCast] at *; first | omega | contradiction | (have f6j := f6 j (by omega); contradiction) | (obtain ⟨g1, g2, g3⟩ := f7 (by omega); simp only [g1, g2, g3] at *; first | contradiction | omega | (simp at *; done) | (simp_all; done)) | (exfalso; simp_all; done) | (simp_all; omega)) | trace_state
end Go.Proofs.Ytnjipnklbdlgaaa
