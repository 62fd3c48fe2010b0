/- Layer 17: weights that every program must know; as many biases as the first length. -/
import Derived.Test.YtnjipnklbdlgaaaParB
import Derived.Test.YtnjipnklbdlgaaaFrzR
namespace Go.Proofs.Ytnjipnklbdlgaaa
open Go.RowKit
set_option maxRecDepth 1000000
set_option linter.unusedSimpArgs false
set_option linter.unusedVariables false
set_option maxHeartbeats 16000000
set_option cbv.maxSteps 10000000
theorem f17_e : iniR 1 1 2 flatX = 0 := by kernel_rfl
theorem f17_n : (wMix 1 1 2 flatX 7 flatX.ls.length).ls.length = 2 := by kernel_rfl
theorem f17_a : ((((wMix 1 1 2 flatX 7 flatX.ls.length).at 1).fld 0).fld 2).ints.length = 6 := by kernel_rfl
theorem f17_b : (((wMix 1 1 2 flatX 7 flatX.ls.length).at 1).fld 1).ints.length = 6 := by kernel_rfl
theorem f17_c : ((((wMix 1 1 2 flatX 7 flatX.ls.length).at 1).fld 2).fld 2).ints.length = 3 := by kernel_rfl
theorem f17_d : pdV 1 1 2 flatX 2 = [3, 2] := by kernel_rfl
theorem f17_f : pdN 1 1 2 flatX 2 = 3 := by kernel_rfl
theorem awake17_ok : CtrOk Try.prog 22 (yes6 [] (fun _ => True)) := by
  obtain ⟨G, hG⟩ : ∃ G : List (FuncId × Ctr), G = [(27, rowI0 [mdlTy, .int .i64] 3 pdVF pdNF), (14, boolC [.sl (.int .i64), .sl (.int .i64)] eqF)] := ⟨_, rfl⟩
  refine fn_inl3 (ck := true) rfl [(23, iniC iniE iniD)] ⟨⟨by unfold FnOk; kernel_rfl, pInit_ok⟩, trivial⟩ [(48, Try.f48)] ⟨⟨Try.func48, by unfold FnOk; kernel_rfl, by kernel_rfl⟩, trivial⟩ Try.func22 rfl tt_ok (G := G) (by rw [hG]; exact ⟨⟨pD_ok, by unfold FnOk; kernel_rfl⟩, ⟨rsame_ok, by unfold FnOk; kernel_rfl⟩, trivial⟩) mixed (by kernel_rfl) ?_
  intro xa xs h hx hp
  obtain ⟨rfl, rfl⟩ := svArgs_nil h
  refine Bx.out ?_
  clear hx hp h 
  generalize hA : std = A
  subst hG
  generalize h_c : ci = c
  generalize h_fE : iniE = fE
  generalize h_fW : iniD = fW
  generalize h_fV : pdVF = fV
  generalize h_fN : pdNF = fN
  generalize h_fs : eqF = fs
  cbv
  refine Bx.mk ?_
  (repeat' (first | apply And.intro | apply BrB.mk | apply BrP.mk | intro _))
  (all_goals (subst hA; subst h_c; subst h_fE; subst h_fW; subst h_fV; subst h_fN; subst h_fs); all_goals (skip); all_goals (try simp only [std, stdBin, stdCmp, stdUna, stdIn, ci, beq_iff_eq, bne_iff_ne, beq_eq_false_iff_ne, bne_eq_false_iff_eq, decide_eq_true_eq, decide_eq_false_iff_not, Bool.not_true, Bool.not_false, Bool.not_eq_true', Bool.not_eq_false', Bool.not_not, tn0, tn1, tn2, tn3, iniE, iniD, pdVF, pdNF, eqF, f17_e, f17_n, f17_a, f17_b, f17_c, f17_d, f17_f] at *); all_goals (try omega))
  all_goals first | exact True.intro | rfl | omega | contradiction | trace_state
end Go.Proofs.Ytnjipnklbdlgaaa
