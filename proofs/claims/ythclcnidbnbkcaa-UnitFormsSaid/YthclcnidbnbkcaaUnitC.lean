/- Layer 13's counterparts; what of it is as the document says. -/
import Derived.Test.YthclcnidbnbkcaaUnitB
namespace Go.Proofs.Ythclcnidbnbkcaa
open Go.RowKit
set_option maxRecDepth 100000
set_option linter.unusedSimpArgs false
set_option linter.unusedVariables false
set_option maxHeartbeats 8000000
theorem range_snoc (f : Nat → Int) (j : Nat) : (List.range (j + 1)).map f = (List.range j).map f ++ [f j] := by
  rw [List.range_succ, List.map_append]; rfl
theorem rrback_ok : CtrOk Try.prog 15 (resC [tnTy .i8, tnTy .i8] .i8 3 35 (t2 rbErr 0) (t2 rbRes ⟨[], 0, []⟩)) := by
  refine fn_ok (ck := true) Try.func15 rfl tt_ok (G := [(33, boolC [.sl (tnTy .i8)] mayAllF), (23, boolC [.sl (.int .i64), .sl (.int .i64)] eqF)]) ⟨⟨rtmay_ok, by unfold FnOk; kernel_rfl⟩, ⟨rsame_ok, by unfold FnOk; kernel_rfl⟩, trivial⟩ mixed (by kernel_rfl) ?_
  intro xa xs h hx hp
  obtain ⟨a0, as0, x0, xs0, rfl, rfl, h0, H1⟩ := svArgs_cons h
  obtain ⟨a1, as1, x1, xs1, rfl, rfl, h1, H2⟩ := svArgs_cons H1
  obtain ⟨rfl, rfl⟩ := svArgs_nil H2
  obtain ⟨⟨gD, gE, gL⟩, rfl, rfl⟩ := argSV_tn h0
  obtain ⟨⟨xD, xE, xL⟩, rfl, rfl⟩ := argSV_tn h1
  have sg : (Fits .i64 gD ∧ ci gD.length ≤ 9223372036854775807) ∧ (-9223372036854775808 ≤ gE ∧ gE ≤ 9223372036854775807) ∧ Fits .i8 gL ∧ ci gL.length ≤ 9223372036854775807 := svf_tn (hx (Tn.sv .i8 ⟨gD, gE, gL⟩) (by simp))
  have sx : (Fits .i64 xD ∧ ci xD.length ≤ 9223372036854775807) ∧ (-9223372036854775808 ≤ xE ∧ xE ≤ 9223372036854775807) ∧ Fits .i8 xL ∧ ci xL.length ≤ 9223372036854775807 := svf_tn (hx (Tn.sv .i8 ⟨xD, xE, xL⟩) (by simp))
  have SG := Lib.hid sg
  clear sg
  have SX := Lib.hid sx
  clear sx
  clear hx hp h h0 H1 h1 H2
  generalize hA : std = A
  generalize h_c : ci = c
  generalize h_fm : mayAllF = fm
  generalize h_fs : eqF = fs
  generalize h_fR : t2 rbRes ⟨[], 0, []⟩ = fR
  generalize h_fE : t2 rbErr 0 = fE
  obtain ⟨S, hS⟩ : ∃ S : Nat → List Int, ∀ j, S j = (List.range j).map (fun i => if 0 < xL.getD i 0 then gL.getD i 0 else 0) := ⟨_, fun _ => rfl⟩
  cbv
  (repeat' (first | apply And.intro | apply BrB.mk | apply BrP.mk | intro _))
  all_goals try (refine loop_nil [.cell 5 2 35 .i8] Nat 31 (fun j => [(7, .any), (8, .any), (31, .v (.int .i64 (c j)))]) (fun j o => o.set 6 (.irow 35 .i8 (S j))) (fun j => ci j ≤ ci gL.length) (fun j => gL.length - j) 0 ?h0 ?hle ?round)
  case h0 => simp [ci]
  case hle =>
    cbv
    (repeat' (first | apply And.intro | apply BrB.mk | apply BrP.mk | intro _))
    (all_goals (subst hA; subst h_c; subst h_fm; subst h_fs; subst h_fR; subst h_fE); all_goals (have f_sg := SG.out; have f_sx := SX.out); all_goals (try simp only [std, stdBin, stdCmp, stdUna, stdIn, ci, beq_iff_eq, bne_iff_ne, beq_eq_false_iff_ne, bne_eq_false_iff_eq, decide_eq_true_eq, decide_eq_false_iff_not, Bool.not_true, Bool.not_false, Bool.not_eq_true', Bool.not_eq_false', Bool.not_not, tn0, tn1, tn2, tn3, t2] at *); all_goals (try omega))
    all_goals first | exact True.intro | rfl | skip
    all_goals (rw [hS]; rfl)
  case round =>
    intro j hj
    cbv
    refine BrB.mk (fun gx => ?yx) (fun gx => ?nx)
    case yx =>
      (repeat' (first | apply And.intro | apply BrB.mk | apply BrP.mk | intro _))
      all_goals try (refine ⟨j + 1, ?_, ?_, ?_⟩)
      all_goals try (show AS.le _ _; cbv; (repeat' (first | apply And.intro | apply BrB.mk | apply BrP.mk | intro _)); all_goals (subst hA; subst h_c; subst h_fm; subst h_fs; subst h_fR; subst h_fE); all_goals (have f_sg := SG.out; have f_sx := SX.out); all_goals (try simp only [std, stdBin, stdCmp, stdUna, stdIn, ci, beq_iff_eq, bne_iff_ne, beq_eq_false_iff_ne, bne_eq_false_iff_eq, decide_eq_true_eq, decide_eq_false_iff_not, Bool.not_true, Bool.not_false, Bool.not_eq_true', Bool.not_eq_false', Bool.not_not, tn0, tn1, tn2, tn3, t2, mayD2, eqF, beq_iff_eq, hS, range_snoc, Int.toNat_natCast] at *); all_goals (try omega); all_goals first | exact True.intro | rfl | skip)
      all_goals (try (subst hA; subst h_c; subst h_fm; subst h_fs; subst h_fR; subst h_fE))
      all_goals (try (have f_sg := SG.out; have f_sx := SX.out))
      all_goals (try simp only [std, stdBin, stdCmp, stdUna, stdIn, ci, beq_iff_eq, bne_iff_ne, beq_eq_false_iff_ne, bne_eq_false_iff_eq, decide_eq_true_eq, decide_eq_false_iff_not, Bool.not_true, Bool.not_false, Bool.not_eq_true', Bool.not_eq_false', Bool.not_not, tn0, tn1, tn2, tn3, t2, mayD2, eqF, beq_iff_eq, hS, List.length_map, List.length_range, List.length_singleton, Int.toNat_natCast] at *)
      all_goals (try omega)
      all_goals (have h12 : (mayB ⟨gD, gE, gL⟩ && mayB ⟨xD, xE, xL⟩) = true := (by assumption); have hm := may_lens (g := ⟨gD, gE, gL⟩) (x := ⟨xD, xE, xL⟩) h12 (by assumption); simp only at hm)
      all_goals (try omega)
      all_goals first | (rw [if_neg (by omega)]) | (rw [if_pos (by omega)])
    case nx =>
      (repeat' (first | apply And.intro | apply BrB.mk | apply BrP.mk | intro _))
      (all_goals (subst hA; subst h_c; subst h_fm; subst h_fs; subst h_fR; subst h_fE); all_goals (have f_sg := SG.out; have f_sx := SX.out); all_goals (try simp only [std, stdBin, stdCmp, stdUna, stdIn, ci, beq_iff_eq, bne_iff_ne, beq_eq_false_iff_ne, bne_eq_false_iff_eq, decide_eq_true_eq, decide_eq_false_iff_not, Bool.not_true, Bool.not_false, Bool.not_eq_true', Bool.not_eq_false', Bool.not_not, tn0, tn1, tn2, tn3, t2, mayD2, eqF] at *); all_goals (try omega))
      all_goals (have h12 : (mayB ⟨gD, gE, gL⟩ && mayB ⟨xD, xE, xL⟩) = true := (by assumption); have hm := may_lens (g := ⟨gD, gE, gL⟩) (x := ⟨xD, xE, xL⟩) h12 (by assumption); simp only at hm)
      · rfl
      · rfl
      · rw [hS, show j = gL.length by omega]
        rfl
      · simp only [rbErr] at *
        simp_all
  (all_goals (subst hA; subst h_c; subst h_fm; subst h_fs; subst h_fR; subst h_fE); all_goals (have f_sg := SG.out; have f_sx := SX.out); all_goals (try simp only [std, stdBin, stdCmp, stdUna, stdIn, ci, beq_iff_eq, bne_iff_ne, beq_eq_false_iff_ne, bne_eq_false_iff_eq, decide_eq_true_eq, decide_eq_false_iff_not, Bool.not_true, Bool.not_false, Bool.not_eq_true', Bool.not_eq_false', Bool.not_not, tn0, tn1, tn2, tn3, t2, mayD2, eqF] at *); all_goals (try omega))
  all_goals (try (simp only [rbErr] at *; generalize (mayB ⟨gD, gE, gL⟩ && mayB ⟨xD, xE, xL⟩) = q at *; simp_all; done))
  all_goals (have h12 : (mayB ⟨gD, gE, gL⟩ && mayB ⟨xD, xE, xL⟩) = true := (by assumption); have hm := may_lens (g := ⟨gD, gE, gL⟩) (x := ⟨xD, xE, xL⟩) h12 (by assumption); simp only at hm; omega)
theorem rrelu_ok : CtrOk Try.prog 13 (resC [tnTy .i8] .i8 3 35 (t1 (fun x => rbErr x x) 0) (t1 (fun x => rbRes x x) ⟨[], 0, []⟩)) := by
  refine fn_ok (ck := true) Try.func13 rfl tt_ok (G := [(15, resC [tnTy .i8, tnTy .i8] .i8 3 35 (t2 rbErr 0) (t2 rbRes ⟨[], 0, []⟩))]) ⟨⟨rrback_ok, by unfold FnOk; kernel_rfl⟩, trivial⟩ mixed (by kernel_rfl) ?_
  intro xa xs h hx hp
  obtain ⟨a0, as0, x0, xs0, rfl, rfl, h0, H1⟩ := svArgs_cons h
  obtain ⟨rfl, rfl⟩ := svArgs_nil H1
  obtain ⟨⟨xD, xE, xL⟩, rfl, rfl⟩ := argSV_tn h0
  have sx : (Fits .i64 xD ∧ ci xD.length ≤ 9223372036854775807) ∧ (-9223372036854775808 ≤ xE ∧ xE ≤ 9223372036854775807) ∧ Fits .i8 xL ∧ ci xL.length ≤ 9223372036854775807 := svf_tn (hx (Tn.sv .i8 ⟨xD, xE, xL⟩) (by simp))
  have SX := Lib.hid sx
  clear sx
  clear hx hp h h0 H1
  generalize hA : std = A
  generalize h_c : ci = c
  generalize h_fR : t2 rbRes ⟨[], 0, []⟩ = fR
  generalize h_fE : t2 rbErr 0 = fE
  generalize h_gR : t1 (fun x => rbRes x x) ⟨[], 0, []⟩ = gR
  generalize h_gE : t1 (fun x => rbErr x x) 0 = gE
  cbv
  (repeat' (first | apply And.intro | apply BrB.mk | apply BrP.mk | intro _))
  (all_goals (subst hA; subst h_c; subst h_fR; subst h_fE; subst h_gR; subst h_gE); all_goals (have f_sx := SX.out); all_goals (try simp only [std, stdBin, stdCmp, stdUna, stdIn, ci, beq_iff_eq, bne_iff_ne, beq_eq_false_iff_ne, bne_eq_false_iff_eq, decide_eq_true_eq, decide_eq_false_iff_not, Bool.not_true, Bool.not_false, Bool.not_eq_true', Bool.not_eq_false', Bool.not_not, tn0, tn1, tn2, tn3, t1, t2] at *); all_goals (try omega))
  all_goals (try contradiction)
  all_goals rfl
theorem rshp_ok : CtrOk Try.prog 19 (resC [tnTy .i8, .sl (.int .i64)] .i8 3 35 (t1i shpErr 0) (t1i shpRes ⟨[], 0, []⟩)) := by
  refine fn_ok (ck := true) Try.func19 rfl tt_ok (G := [(33, boolC [.sl (tnTy .i8)] mayAllF), (34, boolC [.sl (.int .i64)] shMayF), (38, intC [.sl (.int .i64)] .i64 szF)]) ⟨⟨rtmay_ok, by unfold FnOk; kernel_rfl⟩, ⟨rmay_ok, by unfold FnOk; kernel_rfl⟩, ⟨rsize_ok, by unfold FnOk; kernel_rfl⟩, trivial⟩ mixed (by kernel_rfl) ?_
  intro xa xs h hx hp
  obtain ⟨a0, as0, x0, xs0, rfl, rfl, h0, H1⟩ := svArgs_cons h
  obtain ⟨a1, as1, x1, xs1, rfl, rfl, h1, H2⟩ := svArgs_cons H1
  obtain ⟨rfl, rfl⟩ := svArgs_nil H2
  obtain ⟨⟨xD, xE, xL⟩, rfl, rfl⟩ := argSV_tn h0
  obtain ⟨d, rfl, rfl⟩ := argSV_ints h1
  have sx : (Fits .i64 xD ∧ ci xD.length ≤ 9223372036854775807) ∧ (-9223372036854775808 ≤ xE ∧ xE ≤ 9223372036854775807) ∧ Fits .i8 xL ∧ ci xL.length ≤ 9223372036854775807 := svf_tn (hx (Tn.sv .i8 ⟨xD, xE, xL⟩) (by simp))
  have sd : Fits .i64 d ∧ ci d.length ≤ 9223372036854775807 := svf_ints (hx (.iimm .i64 d) (by simp))
  have SX := Lib.hid sx
  clear sx
  have SD := Lib.hid sd
  clear sd
  clear hx hp h h0 H1 h1 H2
  generalize hA : std = A
  generalize h_c : ci = c
  generalize h_fm : mayAllF = fm
  generalize h_fs : shMayF = fs
  generalize h_fz : szF = fz
  generalize h_fR : t1i shpRes ⟨[], 0, []⟩ = fR
  generalize h_fE : t1i shpErr 0 = fE
  cbv
  (repeat' (first | apply And.intro | apply BrB.mk | apply BrP.mk | intro _))
  (all_goals (subst hA; subst h_c; subst h_fm; subst h_fs; subst h_fz; subst h_fR; subst h_fE); all_goals (have f_sx := SX.out; have f_sd := SD.out); all_goals (try simp only [std, stdBin, stdCmp, stdUna, stdIn, ci, beq_iff_eq, bne_iff_ne, beq_eq_false_iff_ne, bne_eq_false_iff_eq, decide_eq_true_eq, decide_eq_false_iff_not, Bool.not_true, Bool.not_false, Bool.not_eq_true', Bool.not_eq_false', Bool.not_not, tn0, tn1, tn2, tn3, t1i, mayD1, shMayF, szF] at *); all_goals (try omega))
  all_goals (try (simp only [shpErr] at *; simp_all; done))
  all_goals (have h1 := may_len (x := ⟨xD, xE, xL⟩) (by assumption); have h2 := mayD_len (D := d) (by assumption); simp only at h1)
  all_goals first | rfl | omega
theorem flErr_eq (x : Tn) : flErr x = if mayB x = true then (if mayD (flD x) = true then 0 else 1) else 1 := by
  obtain ⟨D, e, L⟩ := x
  unfold flErr
  by_cases h : mayB ⟨D, e, L⟩ = true
  · rw [if_pos h, if_pos h]
    unfold shpErr
    rw [if_pos h]
    by_cases hm : mayD (flD ⟨D, e, L⟩) = true
    · rw [if_pos hm, if_pos hm]
      exact if_pos (flD_sz h hm)
    · rw [if_neg hm, if_neg hm]
  · rw [if_neg h, if_neg h]
theorem rflat_ok : CtrOk Try.prog 17 (resC [tnTy .i8] .i8 3 35 (t1 flErr 0) (t1 flRes ⟨[], 0, []⟩)) := by
  refine fn_ok (ck := false) Try.func17 rfl tt_ok (G := [(33, boolC [.sl (tnTy .i8)] mayAllF), (34, boolC [.sl (.int .i64)] shMayF)]) ⟨⟨rtmay_ok, by unfold FnOk; kernel_rfl⟩, ⟨rmay_ok, by unfold FnOk; kernel_rfl⟩, trivial⟩ mixed (by kernel_rfl) ?_
  intro xa xs h hx hp
  obtain ⟨a0, as0, x0, xs0, rfl, rfl, h0, H1⟩ := svArgs_cons h
  obtain ⟨rfl, rfl⟩ := svArgs_nil H1
  obtain ⟨⟨xD, xE, xL⟩, rfl, rfl⟩ := argSV_tn h0
  have sx : (Fits .i64 xD ∧ ci xD.length ≤ 9223372036854775807) ∧ (-9223372036854775808 ≤ xE ∧ xE ≤ 9223372036854775807) ∧ Fits .i8 xL ∧ ci xL.length ≤ 9223372036854775807 := svf_tn (hx (Tn.sv .i8 ⟨xD, xE, xL⟩) (by simp))
  have SX := Lib.hid sx
  clear sx
  clear hx hp h h0 H1
  generalize hA : std = A
  generalize h_c : ci = c
  generalize h_fm : mayAllF = fm
  generalize h_fs : shMayF = fs
  generalize h_gR : t1 flRes ⟨[], 0, []⟩ = gR
  generalize h_gE : t1 flErr 0 = gE
  cbv
  (repeat' (first | apply And.intro | apply BrB.mk | apply BrP.mk | intro _))
  (all_goals (subst hA; subst h_c; subst h_fm; subst h_fs; subst h_gR; subst h_gE); all_goals (have f_sx := SX.out); all_goals (try simp only [std, stdBin, stdCmp, stdUna, stdIn, ci, beq_iff_eq, bne_iff_ne, beq_eq_false_iff_ne, bne_eq_false_iff_eq, decide_eq_true_eq, decide_eq_false_iff_not, Bool.not_true, Bool.not_false, Bool.not_eq_true', Bool.not_eq_false', Bool.not_not, tn0, tn1, tn2, tn3, t1, mayD1, shMayF] at *); all_goals (try omega))
  all_goals (try (simp only [flErr_eq, flD, flRes, shpRes] at *; simp_all; done))
  all_goals (have h0 := may_len (x := ⟨xD, xE, xL⟩) (by assumption); have h1 := may_first (x := ⟨xD, xE, xL⟩) (by assumption); simp only at h0 h1; first | rfl | omega)
theorem rreluU_ok : CtrOk Try.prog 13 (resU [tnTy .i8] .i8 3 35 (t1 (fun x => rbErr x x) 0) (rU (t1 (fun x => rbErr x x) 0) (t1 (fun x => rbRes x x) ⟨[], 0, []⟩))) := by
  exact resU_of rrelu_ok
theorem rrbackU_ok : CtrOk Try.prog 15 (resU [tnTy .i8, tnTy .i8] .i8 3 35 (t2 rbErr 0) (rU (t2 rbErr 0) (t2 rbRes ⟨[], 0, []⟩))) := by
  exact resU_of rrback_ok
theorem rflatU_ok : CtrOk Try.prog 17 (resU [tnTy .i8] .i8 3 35 (t1 flErr 0) (rU (t1 flErr 0) (t1 flRes ⟨[], 0, []⟩))) := by
  exact resU_of rflat_ok
theorem rshpU_ok : CtrOk Try.prog 19 (resU [tnTy .i8, .sl (.int .i64)] .i8 3 35 (t1i shpErr 0) (rU (t1i shpErr 0) (t1i shpRes ⟨[], 0, []⟩))) := by
  exact resU_of rshp_ok
end Go.Proofs.Ythclcnidbnbkcaa
