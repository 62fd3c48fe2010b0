/- Layer 21: the counterpart of a layer's step down. -/
import Derived.Test.YtekokhlldcmjfaaOptN
namespace Go.Proofs.Ytekokhlldcmjfaa
open Go.RowKit
set_option maxRecDepth 1000000
set_option linter.unusedSimpArgs false
set_option linter.unusedVariables false
set_option maxHeartbeats 16000000
set_option cbv.maxSteps 10000000
def cpP (xa : List AV) : Prop := match xa with
  | [.st [.st [.l D, .z E, .l L], .l M, .st [.l F, .z G, .l H]]] => ((D.length : Int) * 8 ≤ 140737488355328 ∧ (L.length : Int) * 1 ≤ 140737488355328) ∧ (M.length : Int) * 4 ≤ 140737488355328 ∧ (F.length : Int) * 8 ≤ 140737488355328 ∧ (H.length : Int) * 1 ≤ 140737488355328
  | _ => False
def cpR (xa : List AV) : Pm := match xa with
  | [.st [.st [.l D, .z E, .l L], .l M, .st [.l F, .z G, .l H]]] => ⟨D, E, L, M, F, G, H⟩
  | _ => ⟨[], 0, [], [], [], 0, []⟩
def prmU (ts : List Ty) (tI t8 t32 : TypeId) (p : List AV → Prop) (r : List AV → Pm) : Ctr :=
  ⟨ts, fun xa => some (p xa), fun xa => .ret (.agg [.hdl 0, .v (.int .i64 (r xa).e), .hdl 1, .hdl 2, .hdl 3, .v (.int .i64 (r xa).g), .hdl 4]) [(0, .irow tI .i64 (r xa).d), (2, .irow t8 .i8 (r xa).l), (3, .irow t32 .i32 (r xa).m), (4, .irow tI .i64 (r xa).f), (6, .irow t8 .i8 (r xa).h)], false⟩
theorem rcopied21_ok : CtrOk Try.prog 53 (prmU [prmTy] 3 52 21 cpP cpR) := by
  obtain ⟨G, hG⟩ : ∃ G : List (FuncId × Ctr), G = [] := ⟨_, rfl⟩
  refine fn_ok (ck := true) Try.func53 rfl tt_ok (G := G) (by rw [hG]; exact trivial) mixed (by kernel_rfl) ?_
  intro xa xs h hx hp
  obtain ⟨a0, as0, x0, xs0, rfl, rfl, h0, H1⟩ := svArgs_cons h
  obtain ⟨rfl, rfl⟩ := svArgs_nil H1
  obtain ⟨pD, pE, pL, pM, pF, pG, pH, rfl, rfl⟩ := argSV_prm h0
  have sp : (Fits .i64 pD ∧ ci pD.length ≤ 9223372036854775807) ∧ (-9223372036854775808 ≤ pE ∧ pE ≤ 9223372036854775807) ∧ (Fits .i8 pL ∧ ci pL.length ≤ 9223372036854775807) ∧ (Fits .i32 pM ∧ ci pM.length ≤ 9223372036854775807) ∧ (Fits .i64 pF ∧ ci pF.length ≤ 9223372036854775807) ∧ (-9223372036854775808 ≤ pG ∧ pG ≤ 9223372036854775807) ∧ (Fits .i8 pH ∧ ci pH.length ≤ 9223372036854775807) := svf_prm (hx (.agg [.iimm .i64 pD, .v (.int .i64 pE), .iimm .i8 pL, .iimm .i32 pM, .iimm .i64 pF, .v (.int .i64 pG), .iimm .i8 pH]) (List.mem_of_getElem? (i := 0) rfl))
  have SP := Lib.hid sp
  clear sp
  have HP := Lib.hid (hp _ rfl)
  clear hx hp h h0 H1
  generalize hA : std = A
  subst hG
  generalize h_c : ci = c
  generalize h_fp : cpP = fp
  generalize h_fR : cpR = fR
  cbv
  (repeat' (first | apply And.intro | apply BrB.mk | apply BrP.mk | intro _))
  (all_goals (subst hA; subst h_c; subst h_fp; subst h_fR); all_goals (have f_sp := SP.out; have f_hp := HP.out); all_goals (try simp only [std, stdBin, stdCmp, stdUna, stdIn, ci, beq_iff_eq, bne_iff_ne, beq_eq_false_iff_ne, bne_eq_false_iff_eq, decide_eq_true_eq, decide_eq_false_iff_not, Bool.not_true, Bool.not_false, Bool.not_eq_true', Bool.not_eq_false', Bool.not_not, tn0, tn1, tn2, tn3, cpP, cpR] at *); all_goals (try omega))
  all_goals (have q := (show ((pD.length : Int) * 8 ≤ 140737488355328 ∧ (pL.length : Int) * 1 ≤ 140737488355328) ∧ (pM.length : Int) * 4 ≤ 140737488355328 ∧ (pF.length : Int) * 8 ≤ 140737488355328 ∧ (pH.length : Int) * 1 ≤ 140737488355328 from f_hp))
  all_goals first | omega | rfl | trace_state
end Go.Proofs.Ytekokhlldcmjfaa
