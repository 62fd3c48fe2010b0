/- Layer 13: it is as the document says. -/
import Derived.Test.YthclcnidbnbkcaaUnitC
namespace Go.Proofs.Ythclcnidbnbkcaa
open Go.RowKit
set_option maxRecDepth 100000
set_option linter.unusedSimpArgs false
set_option linter.unusedVariables false
set_option maxHeartbeats 8000000
theorem forms13_ok : CtrOk Try.prog 3 (boolC [tnTy .i8, tnTy .i8, .sl (.int .i64)] yes) := by
  obtain ⟨G, hG⟩ : ∃ G : List (FuncId × Ctr), G = [(12, resU [tnTy .i8] .i8 3 35 (t1 (fun x => rbErr x x) 0) (rU (t1 (fun x => rbErr x x) 0) (t1 (fun x => rbRes x x) ⟨[], 0, []⟩))), (13, resU [tnTy .i8] .i8 3 35 (t1 (fun x => rbErr x x) 0) (rU (t1 (fun x => rbErr x x) 0) (t1 (fun x => rbRes x x) ⟨[], 0, []⟩))), (14, resU [tnTy .i8, tnTy .i8] .i8 3 35 (t2 rbErr 0) (rU (t2 rbErr 0) (t2 rbRes ⟨[], 0, []⟩))), (15, resU [tnTy .i8, tnTy .i8] .i8 3 35 (t2 rbErr 0) (rU (t2 rbErr 0) (t2 rbRes ⟨[], 0, []⟩))), (16, resU [tnTy .i8] .i8 3 35 (t1 flErr 0) (rU (t1 flErr 0) (t1 flRes ⟨[], 0, []⟩))), (17, resU [tnTy .i8] .i8 3 35 (t1 flErr 0) (rU (t1 flErr 0) (t1 flRes ⟨[], 0, []⟩))), (18, resU [tnTy .i8, .sl (.int .i64)] .i8 3 35 (t1i shpErr 0) (rU (t1i shpErr 0) (t1i shpRes ⟨[], 0, []⟩))), (19, resU [tnTy .i8, .sl (.int .i64)] .i8 3 35 (t1i shpErr 0) (rU (t1i shpErr 0) (t1i shpRes ⟨[], 0, []⟩))), (20, boolC [tnTy .i8, tnTy .i8] sameTnF), (21, boolC [] yes)] := ⟨_, rfl⟩
  refine fn_ok (ck := true) Try.func3 rfl tt_ok (G := G) (by rw [hG]; exact ⟨⟨reluU_ok, by unfold FnOk; kernel_rfl⟩, ⟨rreluU_ok, by unfold FnOk; kernel_rfl⟩, ⟨rbackU_ok, by unfold FnOk; kernel_rfl⟩, ⟨rrbackU_ok, by unfold FnOk; kernel_rfl⟩, ⟨flatU_ok, by unfold FnOk; kernel_rfl⟩, ⟨rflatU_ok, by unfold FnOk; kernel_rfl⟩, ⟨shpU_ok, by unfold FnOk; kernel_rfl⟩, ⟨rshpU_ok, by unfold FnOk; kernel_rfl⟩, ⟨rsameT_ok, by unfold FnOk; kernel_rfl⟩, ⟨awake13_ok, by unfold FnOk; kernel_rfl⟩, trivial⟩) mixed (by kernel_rfl) ?_
  intro xa xs h hx hp
  obtain ⟨a0, as0, x0, xs0, rfl, rfl, h0, H1⟩ := svArgs_cons h
  obtain ⟨a1, as1, x1, xs1, rfl, rfl, h1, H2⟩ := svArgs_cons H1
  obtain ⟨a2, as2, x2, xs2, rfl, rfl, h2, H3⟩ := svArgs_cons H2
  obtain ⟨rfl, rfl⟩ := svArgs_nil H3
  obtain ⟨⟨gD, gE, gL⟩, rfl, rfl⟩ := argSV_tn h0
  obtain ⟨⟨xD, xE, xL⟩, rfl, rfl⟩ := argSV_tn h1
  obtain ⟨d, rfl, rfl⟩ := argSV_ints h2
  have sg : (Fits .i64 gD ∧ ci gD.length ≤ 9223372036854775807) ∧ (-9223372036854775808 ≤ gE ∧ gE ≤ 9223372036854775807) ∧ Fits .i8 gL ∧ ci gL.length ≤ 9223372036854775807 := svf_tn (hx (Tn.sv .i8 ⟨gD, gE, gL⟩) (by simp))
  have sx : (Fits .i64 xD ∧ ci xD.length ≤ 9223372036854775807) ∧ (-9223372036854775808 ≤ xE ∧ xE ≤ 9223372036854775807) ∧ Fits .i8 xL ∧ ci xL.length ≤ 9223372036854775807 := svf_tn (hx (Tn.sv .i8 ⟨xD, xE, xL⟩) (by simp))
  have sd : Fits .i64 d ∧ ci d.length ≤ 9223372036854775807 := svf_ints (hx (.iimm .i64 d) (by simp))
  have SG := Lib.hid sg
  clear sg
  have SX := Lib.hid sx
  clear sx
  have SD := Lib.hid sd
  clear sd
  clear hx hp h h0 H1 h1 H2 h2 H3
  subst hG
  generalize hA : std = A
  generalize h_c : ci = c
  generalize h_fR : rU (t1 (fun x => rbErr x x) 0) (t1 (fun x => rbRes x x) ⟨[], 0, []⟩) = fR
  generalize h_fE : t1 (fun x => rbErr x x) 0 = fE
  generalize h_bR : rU (t2 rbErr 0) (t2 rbRes ⟨[], 0, []⟩) = bR
  generalize h_bE : t2 rbErr 0 = bE
  generalize h_lR : rU (t1 flErr 0) (t1 flRes ⟨[], 0, []⟩) = lR
  generalize h_lE : t1 flErr 0 = lE
  generalize h_sR : rU (t1i shpErr 0) (t1i shpRes ⟨[], 0, []⟩) = sR
  generalize h_sE : t1i shpErr 0 = sE
  generalize h_fs : sameTnF = fs
  generalize h_fY : yes = fY
  cbv
  (repeat' (first | apply And.intro | apply BrB.mk | apply BrP.mk | intro _))
  all_goals (subst hA; subst h_c; subst h_fR; subst h_fE; subst h_bR; subst h_bE; subst h_lR; subst h_lE; subst h_sR; subst h_sE; subst h_fs; subst h_fY)
  all_goals (have f_sg := SG.out; have f_sx := SX.out; have f_sd := SD.out)
  all_goals (try simp only [std, stdBin, stdCmp, stdUna, stdIn, ci, beq_iff_eq, bne_iff_ne, beq_eq_false_iff_ne, bne_eq_false_iff_eq, decide_eq_true_eq, decide_eq_false_iff_not, Bool.not_true, Bool.not_false, Bool.not_eq_true', Bool.not_eq_false', Bool.not_not, tn0, tn1, tn2, tn3, sameTnF_eq, Tn.eta, sameTn_self] at *)
  all_goals (try first | rfl | contradiction | omega)
  all_goals trace_state
end Go.Proofs.Ythclcnidbnbkcaa
