/- Layer 14: it is as the document says. -/
import Derived.Test.YthclcnidbnbkcaaAddE
namespace Go.Proofs.Ythclcnidbnbkcaa
open Go.RowKit
set_option maxRecDepth 1000000
set_option linter.unusedSimpArgs false
set_option linter.unusedVariables false
set_option maxHeartbeats 8000000
set_option cbv.maxSteps 10000000
theorem raccU_ok : CtrOk Try.prog 27 (resU [tnTy .i32, tnTy .i32] .i32 3 21 (t2 accErr 0) (rU (t2 accErr 0) (t2 accRes ⟨[], 0, []⟩))) := by
  exact resU_of racc_ok
theorem forms14_ok : CtrOk Try.prog 7 (boolC [tnTy .i8, tnTy .i8, tnTy .i32, tnTy .i32] yes) := by
  obtain ⟨G, hG⟩ : ∃ G : List (FuncId × Ctr), G = [(24, resU [tnTy .i8, tnTy .i8] .i32 3 21 (t2 addErr 0) (rU (t2 addErr 0) (t2 addRes ⟨[], 0, []⟩))), (25, resU [tnTy .i8, tnTy .i8] .i32 3 21 (t2 addErr 0) (rU (t2 addErr 0) (t2 addRes ⟨[], 0, []⟩))), (26, resU [tnTy .i32, tnTy .i32] .i32 3 21 (t2 accErr 0) (rU (t2 accErr 0) (t2 accRes ⟨[], 0, []⟩))), (27, resU [tnTy .i32, tnTy .i32] .i32 3 21 (t2 accErr 0) (rU (t2 accErr 0) (t2 accRes ⟨[], 0, []⟩))), (28, boolC [tnTy .i32, tnTy .i32] sameTnF), (29, boolC [] yes)] := ⟨_, rfl⟩
  refine fn_ok (ck := true) Try.func7 rfl tt_ok (G := G) (by rw [hG]; exact ⟨⟨addU_ok, by unfold FnOk; kernel_rfl⟩, ⟨raddU_ok, by unfold FnOk; kernel_rfl⟩, ⟨accU_ok, by unfold FnOk; kernel_rfl⟩, ⟨raccU_ok, by unfold FnOk; kernel_rfl⟩, ⟨rsameAcc_ok, by unfold FnOk; kernel_rfl⟩, ⟨awake14_ok, by unfold FnOk; kernel_rfl⟩, trivial⟩) mixed (by kernel_rfl) ?_
  intro xa xs h hx hp
  obtain ⟨a0, as0, x0, xs0, rfl, rfl, h0, H1⟩ := svArgs_cons h
  obtain ⟨a1, as1, x1, xs1, rfl, rfl, h1, H2⟩ := svArgs_cons H1
  obtain ⟨a2, as2, x2, xs2, rfl, rfl, h2, H3⟩ := svArgs_cons H2
  obtain ⟨a3, as3, x3, xs3, rfl, rfl, h3, H4⟩ := svArgs_cons H3
  obtain ⟨rfl, rfl⟩ := svArgs_nil H4
  obtain ⟨⟨aD, aE, aL⟩, rfl, rfl⟩ := argSV_tn h0
  obtain ⟨⟨bD, bE, bL⟩, rfl, rfl⟩ := argSV_tn h1
  obtain ⟨⟨dD, dE, dL⟩, rfl, rfl⟩ := argSV_tn h2
  obtain ⟨⟨eD, eE, eL⟩, rfl, rfl⟩ := argSV_tn h3
  have sa : (Fits .i64 aD ∧ ci aD.length ≤ 9223372036854775807) ∧ (-9223372036854775808 ≤ aE ∧ aE ≤ 9223372036854775807) ∧ Fits .i8 aL ∧ ci aL.length ≤ 9223372036854775807 := svf_tn (hx (Tn.sv .i8 ⟨aD, aE, aL⟩) (by simp))
  have sb : (Fits .i64 bD ∧ ci bD.length ≤ 9223372036854775807) ∧ (-9223372036854775808 ≤ bE ∧ bE ≤ 9223372036854775807) ∧ Fits .i8 bL ∧ ci bL.length ≤ 9223372036854775807 := svf_tn (hx (Tn.sv .i8 ⟨bD, bE, bL⟩) (by simp))
  have sd : (Fits .i64 dD ∧ ci dD.length ≤ 9223372036854775807) ∧ (-9223372036854775808 ≤ dE ∧ dE ≤ 9223372036854775807) ∧ Fits .i32 dL ∧ ci dL.length ≤ 9223372036854775807 := svf_tn (hx (Tn.sv .i32 ⟨dD, dE, dL⟩) (by simp))
  have se : (Fits .i64 eD ∧ ci eD.length ≤ 9223372036854775807) ∧ (-9223372036854775808 ≤ eE ∧ eE ≤ 9223372036854775807) ∧ Fits .i32 eL ∧ ci eL.length ≤ 9223372036854775807 := svf_tn (hx (Tn.sv .i32 ⟨eD, eE, eL⟩) (by simp))
  have SA := Lib.hid sa
  clear sa
  have SB := Lib.hid sb
  clear sb
  have SD := Lib.hid sd
  clear sd
  have SE := Lib.hid se
  clear se
  clear hx hp h h0 H1 h1 H2 h2 H3 h3 H4
  generalize hA : std = A
  subst hG
  generalize h_c : ci = c
  generalize h_xR : rU (t2 addErr 0) (t2 addRes ⟨[], 0, []⟩) = xR
  generalize h_xE : t2 addErr 0 = xE
  generalize h_yR : rU (t2 accErr 0) (t2 accRes ⟨[], 0, []⟩) = yR
  generalize h_yE : t2 accErr 0 = yE
  generalize h_fs : sameTnF = fs
  generalize h_fY : yes = fY
  cbv
  (repeat' (first | apply And.intro | apply BrB.mk | apply BrP.mk | intro _))
  all_goals (subst hA; subst h_c; subst h_xR; subst h_xE; subst h_yR; subst h_yE; subst h_fs; subst h_fY)
  all_goals (have f_sa := SA.out; have f_sb := SB.out; have f_sd := SD.out; have f_se := SE.out)
  all_goals (try simp only [std, stdBin, stdCmp, stdUna, stdIn, ci, beq_iff_eq, bne_iff_ne, beq_eq_false_iff_ne, bne_eq_false_iff_eq, decide_eq_true_eq, decide_eq_false_iff_not, Bool.not_true, Bool.not_false, Bool.not_eq_true', Bool.not_eq_false', Bool.not_not, tn0, tn1, tn2, tn3, sameF_eta, sameTn_refl] at *)
  all_goals (try first | rfl | contradiction | omega)
  all_goals trace_state
end Go.Proofs.Ythclcnidbnbkcaa
