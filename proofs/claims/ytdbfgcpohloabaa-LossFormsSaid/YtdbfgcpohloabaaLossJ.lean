/- Layer 19: LossForms. -/
import Derived.Test.YtdbfgcpohloabaaLossI
namespace Go.Proofs.Ytdbfgcpohloabaa
open Go.RowKit
set_option maxRecDepth 100000
set_option linter.unusedSimpArgs false
set_option linter.unusedVariables false
set_option maxHeartbeats 40000000
set_option cbv.maxSteps 10000000
theorem rgradU_ok : CtrOk Try.prog 13 (resU [tnTy .i8, .sl (.int .i64)] .i8 3 41 (tq chqI 0) (rU (tq chqI 0) (tq gradR ⟨[], 0, []⟩))) := by
  exact resU_of rgrad_ok
theorem sameF_self (D L : List Int) (e : Int) : sameTnF [.st [.l D, .z e, .l L], .st [.l D, .z e, .l L]] = true := (sameTn_iff D L D L e e).2 ⟨rfl, rfl, rfl⟩
theorem forms19_ok : CtrOk Try.prog 4 (boolC [tnTy .i8, .sl (.int .i64), .sl (.int .i8), .int .i64] yes) := by
  obtain ⟨G, hG⟩ : ∃ G : List (FuncId × Ctr), G = [(12, resU [tnTy .i8, .sl (.int .i64)] .i8 3 41 (tq chqI 0) (rU (tq chqI 0) (tq gradR ⟨[], 0, []⟩))), (13, resU [tnTy .i8, .sl (.int .i64)] .i8 3 41 (tq chqI 0) (rU (tq chqI 0) (tq gradR ⟨[], 0, []⟩))), (14, rowE [tnTy .i8] 3 .i64 (t1 chkI 0) (t1 topR [])), (15, rowE [tnTy .i8] 3 .i64 (t1 chkI 0) (t1 topR [])), (16, intE [tnTy .i8, .sl (.int .i64)] .i64 (tq chqI 0) (tq rgtR 0)), (17, intE [tnTy .i8, .sl (.int .i64)] .i64 (tq chqI 0) (tq rgtR 0)), (18, boolC [tnTy .i8, tnTy .i8] sameTnF), (19, boolC [.sl (.int .i64), .sl (.int .i64)] eqF), (20, rowC [.sl (.int .i8), .int .i64] 3 .i64 softF), (21, rowC [.sl (.int .i8), .int .i64] 3 .i64 softF), (11, boolC [] yes)] := ⟨_, rfl⟩
  refine fn_ok (ck := true) Try.func4 rfl tt_ok (G := G) (by rw [hG]; exact ⟨⟨gradU_ok, by unfold FnOk; kernel_rfl⟩, ⟨rgradU_ok, by unfold FnOk; kernel_rfl⟩, ⟨top_ok, by unfold FnOk; kernel_rfl⟩, ⟨rtop_ok, by unfold FnOk; kernel_rfl⟩, ⟨right_ok, by unfold FnOk; kernel_rfl⟩, ⟨rright_ok, by unfold FnOk; kernel_rfl⟩, ⟨rsameT_ok, by unfold FnOk; kernel_rfl⟩, ⟨rsame_ok, by unfold FnOk; kernel_rfl⟩, ⟨soft_ok, by unfold FnOk; kernel_rfl⟩, ⟨rsoft_ok, by unfold FnOk; kernel_rfl⟩, ⟨awake19_ok, by unfold FnOk; kernel_rfl⟩, trivial⟩) mixed (by kernel_rfl) ?_
  intro xa xs h hx hp
  obtain ⟨a0, as0, x0, xs0, rfl, rfl, h0, H1⟩ := svArgs_cons h
  obtain ⟨a1, as1, x1, xs1, rfl, rfl, h1, H2⟩ := svArgs_cons H1
  obtain ⟨a2, as2, x2, xs2, rfl, rfl, h2, H3⟩ := svArgs_cons H2
  obtain ⟨a3, as3, x3, xs3, rfl, rfl, h3, H4⟩ := svArgs_cons H3
  obtain ⟨rfl, rfl⟩ := svArgs_nil H4
  obtain ⟨⟨yD, yE, yL⟩, rfl, rfl⟩ := argSV_tn h0
  obtain ⟨q, rfl, rfl⟩ := argSV_ints h1
  obtain ⟨l, rfl, rfl⟩ := argSV_ints h2
  obtain ⟨e, rfl, rfl⟩ := argSV_int h3
  have sy : (Fits .i64 yD ∧ ci yD.length ≤ 9223372036854775807) ∧ (-9223372036854775808 ≤ yE ∧ yE ≤ 9223372036854775807) ∧ Fits .i8 yL ∧ ci yL.length ≤ 9223372036854775807 := svf_tn (hx (Tn.sv .i8 ⟨yD, yE, yL⟩) (by simp))
  have sq : Fits .i64 q ∧ ci q.length ≤ 9223372036854775807 := svf_ints (hx (.iimm .i64 q) (by simp))
  have sl : Fits .i8 l ∧ ci l.length ≤ 9223372036854775807 := svf_ints (hx (.iimm .i8 l) (by simp))
  have se := of_i64 (hx (.v (.int .i64 e)) (by simp))
  have SY := Lib.hid sy
  clear sy
  have SQ := Lib.hid sq
  clear sq
  have SL := Lib.hid sl
  clear sl
  have SE := Lib.hid se
  clear se
  clear hx hp h h0 H1 h1 H2 h2 H3 h3 H4
  subst hG
  generalize hA : std = A
  generalize h_c : ci = c
  generalize h_fR : rU (tq chqI 0) (tq gradR ⟨[], 0, []⟩) = fR
  generalize h_fh : t1 chkI 0 = fh
  generalize h_ft : t1 topR [] = ft
  generalize h_fr : tq rgtR 0 = fr
  generalize h_fE : tq chqI 0 = fE
  generalize h_fs : sameTnF = fs
  generalize h_fq : eqF = fq
  generalize h_fo : softF = fo
  generalize h_fY : yes = fY
  cbv
  (repeat' (first | apply And.intro | apply BrB.mk | apply BrP.mk | intro _))
  (all_goals (subst hA; subst h_c; subst h_fR; subst h_fh; subst h_ft; subst h_fr; subst h_fE; subst h_fs; subst h_fq; subst h_fo; subst h_fY); all_goals (have f_sy := SY.out; have f_sq := SQ.out; have f_sl := SL.out; have f_se := SE.out); all_goals (try simp only [std, stdBin, stdCmp, stdUna, stdIn, ci, beq_iff_eq, bne_iff_ne, beq_eq_false_iff_ne, bne_eq_false_iff_eq, decide_eq_true_eq, decide_eq_false_iff_not, Bool.not_true, Bool.not_false, Bool.not_eq_true', Bool.not_eq_false', Bool.not_not, tn0, tn1, tn2, tn3, t1, tq] at *); all_goals (try omega))
  all_goals (try first | rfl | contradiction)
  all_goals (exfalso; simp only [sameF_self, eqF_self, reduceCtorEq] at *)
end Go.Proofs.Ytdbfgcpohloabaa
