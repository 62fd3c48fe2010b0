/- Layer 10: the counterpart of what comes back to the bias; all that comes, there and back. -/
import Derived.Test.YtcbcfajihbbdcaaDenK
import Derived.Test.YtcbcfajihbbdcaaDenH
import Derived.Test.YtcbcfajihbbdcaaDenI
namespace Go.Proofs.Ytcbcfajihbbdcaa
open Go.RowKit
set_option maxRecDepth 1000000
set_option linter.unusedSimpArgs false
set_option linter.unusedVariables false
set_option maxHeartbeats 16000000
set_option cbv.maxSteps 10000000
theorem mayD1_sz {a : Int} (h : mayD [a] = true) : szD [a] = a := by
  unfold szD
  rw [if_pos h]
  simp [prodFrom]
theorem rbias_ok : CtrOk Try.prog 31 (resC [tnTy .i8] .i32 3 21 (t1 bsErr 0) (t1 bsRes ⟨[], 0, []⟩)) := by
  obtain ⟨G, hG⟩ : ∃ G : List (FuncId × Ctr), G = [(53, boolC [.sl (tnTy .i8)] mayAllF), (34, boolC [.int .i64] fitsF), (72, boolC [.sl (.int .i64)] shMayF), (73, intC [.sl (.int .i64)] .i64 szF)] := ⟨_, rfl⟩
  refine fn_inl (ck := true) [(54, Try.f54), (69, Try.f69)] ⟨⟨Try.func54, by unfold FnOk; kernel_rfl, by kernel_rfl⟩, ⟨Try.func69, by unfold FnOk; kernel_rfl, by kernel_rfl⟩, trivial⟩ Try.func31 rfl tt_ok (G := G) (by rw [hG]; exact ⟨⟨rtmay_ok, by unfold FnOk; kernel_rfl⟩, ⟨rfits_ok, by unfold FnOk; kernel_rfl⟩, ⟨rmay_ok, by unfold FnOk; kernel_rfl⟩, ⟨rsize_ok, by unfold FnOk; kernel_rfl⟩, trivial⟩) mixed (by kernel_rfl) ?_
  intro xa xs h hx hp
  obtain ⟨a0, as0, x0, xs0, rfl, rfl, h0, H1⟩ := svArgs_cons h
  obtain ⟨rfl, rfl⟩ := svArgs_nil H1
  obtain ⟨⟨gD, gE, gL⟩, rfl, rfl⟩ := argSV_tn h0
  have sg : (Fits .i64 gD ∧ ci gD.length ≤ 9223372036854775807) ∧ (-9223372036854775808 ≤ gE ∧ gE ≤ 9223372036854775807) ∧ Fits .i8 gL ∧ ci gL.length ≤ 9223372036854775807 := svf_tn (hx (Tn.sv .i8 ⟨gD, gE, gL⟩) (by simp))
  have SG := Lib.hid sg
  clear sg
  clear hx hp h h0 H1
  generalize hA : std = A
  subst hG
  generalize h_c : ci = c
  generalize h_fm : mayAllF = fm
  generalize h_ff : fitsF = ff
  generalize h_fd : shMayF = fd
  generalize h_fs : szF = fs
  generalize h_fE : t1 bsErr 0 = fE
  generalize h_fR : t1 bsRes ⟨[], 0, []⟩ = fR
  obtain ⟨S, hS⟩ : ∃ S, S = bsL gL (gD.getD 1 0).toNat := ⟨_, rfl⟩
  cbv
  (repeat' (first | apply And.intro | apply BrB.mk | apply BrP.mk | intro _))
  (all_goals try (exfalso; (subst hA; subst h_c; subst h_fm; subst h_ff; subst h_fd; subst h_fs; subst h_fE; subst h_fR); (try simp only [std, stdBin, stdCmp, stdUna, stdIn, ci, beq_iff_eq, bne_iff_ne, beq_eq_false_iff_ne, bne_eq_false_iff_eq, decide_eq_true_eq, decide_eq_false_iff_not, Bool.not_true, Bool.not_false, Bool.not_eq_true', Bool.not_eq_false', Bool.not_not, tn0, tn1, tn2, tn3] at *); first | omega | contradiction))
  all_goals try first
    | (refine loop_at Nat 40 (fun x => [(6, .any), (7, .any), (40, .v (.int .i64 (c x)))]) (fun x o => o.set 5 (.irow 21 .i32 (S x))) (fun x => ci x ≤ ci gL.length) (fun x => gL.length - x) 0 (by simp [ci]) ?_ ?_
       focus
         show AS.le _ _
         cbv
         (repeat' (first | apply And.intro | apply BrB.mk | apply BrP.mk | intro _))
         (all_goals (subst hA; subst h_c; subst h_fm; subst h_ff; subst h_fd; subst h_fs; subst h_fE; subst h_fR); all_goals (have f_sg := SG.out); all_goals (try simp only [std, stdBin, stdCmp, stdUna, stdIn, ci, beq_iff_eq, bne_iff_ne, beq_eq_false_iff_ne, bne_eq_false_iff_eq, decide_eq_true_eq, decide_eq_false_iff_not, Bool.not_true, Bool.not_false, Bool.not_eq_true', Bool.not_eq_false', Bool.not_not, tn0, tn1, tn2, tn3, szF, shMayF] at *); all_goals (try omega))
         all_goals first | exact True.intro | rfl | (rw [hS, bsL_zero, mayD1_sz (by assumption)]; done)
         done)
    | (refine loop_at Nat 40 (fun x => [(6, .any), (7, .any), (40, .v (.int .i64 (c x)))]) (fun x o => o.set 6 (.irow 21 .i32 (S x))) (fun x => ci x ≤ ci gL.length) (fun x => gL.length - x) 0 (by simp [ci]) ?_ ?_
       focus
         show AS.le _ _
         cbv
         (repeat' (first | apply And.intro | apply BrB.mk | apply BrP.mk | intro _))
         (all_goals (subst hA; subst h_c; subst h_fm; subst h_ff; subst h_fd; subst h_fs; subst h_fE; subst h_fR); all_goals (have f_sg := SG.out); all_goals (try simp only [std, stdBin, stdCmp, stdUna, stdIn, ci, beq_iff_eq, bne_iff_ne, beq_eq_false_iff_ne, bne_eq_false_iff_eq, decide_eq_true_eq, decide_eq_false_iff_not, Bool.not_true, Bool.not_false, Bool.not_eq_true', Bool.not_eq_false', Bool.not_not, tn0, tn1, tn2, tn3, szF, shMayF] at *); all_goals (try omega))
         all_goals first | exact True.intro | rfl | (rw [hS, bsL_zero, mayD1_sz (by assumption)]; done)
         done)
    | (refine loop_at Nat 40 (fun x => [(6, .any), (7, .any), (40, .v (.int .i64 (c x)))]) (fun x o => o.set 7 (.irow 21 .i32 (S x))) (fun x => ci x ≤ ci gL.length) (fun x => gL.length - x) 0 (by simp [ci]) ?_ ?_
       focus
         show AS.le _ _
         cbv
         (repeat' (first | apply And.intro | apply BrB.mk | apply BrP.mk | intro _))
         (all_goals (subst hA; subst h_c; subst h_fm; subst h_ff; subst h_fd; subst h_fs; subst h_fE; subst h_fR); all_goals (have f_sg := SG.out); all_goals (try simp only [std, stdBin, stdCmp, stdUna, stdIn, ci, beq_iff_eq, bne_iff_ne, beq_eq_false_iff_ne, bne_eq_false_iff_eq, decide_eq_true_eq, decide_eq_false_iff_not, Bool.not_true, Bool.not_false, Bool.not_eq_true', Bool.not_eq_false', Bool.not_not, tn0, tn1, tn2, tn3, szF, shMayF] at *); all_goals (try omega))
         all_goals first | exact True.intro | rfl | (rw [hS, bsL_zero, mayD1_sz (by assumption)]; done)
         done)
    | (refine loop_at Nat 40 (fun x => [(6, .any), (7, .any), (40, .v (.int .i64 (c x)))]) (fun x o => o.set 8 (.irow 21 .i32 (S x))) (fun x => ci x ≤ ci gL.length) (fun x => gL.length - x) 0 (by simp [ci]) ?_ ?_
       focus
         show AS.le _ _
         cbv
         (repeat' (first | apply And.intro | apply BrB.mk | apply BrP.mk | intro _))
         (all_goals (subst hA; subst h_c; subst h_fm; subst h_ff; subst h_fd; subst h_fs; subst h_fE; subst h_fR); all_goals (have f_sg := SG.out); all_goals (try simp only [std, stdBin, stdCmp, stdUna, stdIn, ci, beq_iff_eq, bne_iff_ne, beq_eq_false_iff_ne, bne_eq_false_iff_eq, decide_eq_true_eq, decide_eq_false_iff_not, Bool.not_true, Bool.not_false, Bool.not_eq_true', Bool.not_eq_false', Bool.not_not, tn0, tn1, tn2, tn3, szF, shMayF] at *); all_goals (try omega))
         all_goals first | exact True.intro | rfl | (rw [hS, bsL_zero, mayD1_sz (by assumption)]; done)
         done)
    | (refine loop_at Nat 40 (fun x => [(6, .any), (7, .any), (40, .v (.int .i64 (c x)))]) (fun x o => o.set 4 (.irow 21 .i32 (S x))) (fun x => ci x ≤ ci gL.length) (fun x => gL.length - x) 0 (by simp [ci]) ?_ ?_
       focus
         show AS.le _ _
         cbv
         (repeat' (first | apply And.intro | apply BrB.mk | apply BrP.mk | intro _))
         (all_goals (subst hA; subst h_c; subst h_fm; subst h_ff; subst h_fd; subst h_fs; subst h_fE; subst h_fR); all_goals (have f_sg := SG.out); all_goals (try simp only [std, stdBin, stdCmp, stdUna, stdIn, ci, beq_iff_eq, bne_iff_ne, beq_eq_false_iff_ne, bne_eq_false_iff_eq, decide_eq_true_eq, decide_eq_false_iff_not, Bool.not_true, Bool.not_false, Bool.not_eq_true', Bool.not_eq_false', Bool.not_not, tn0, tn1, tn2, tn3, szF, shMayF] at *); all_goals (try omega))
         all_goals first | exact True.intro | rfl | (rw [hS, bsL_zero, mayD1_sz (by assumption)]; done)
         done)
    | (refine loop_at Nat 40 (fun x => [(6, .any), (7, .any), (40, .v (.int .i64 (c x)))]) (fun x o => o.set 3 (.irow 21 .i32 (S x))) (fun x => ci x ≤ ci gL.length) (fun x => gL.length - x) 0 (by simp [ci]) ?_ ?_
       focus
         show AS.le _ _
         cbv
         (repeat' (first | apply And.intro | apply BrB.mk | apply BrP.mk | intro _))
         (all_goals (subst hA; subst h_c; subst h_fm; subst h_ff; subst h_fd; subst h_fs; subst h_fE; subst h_fR); all_goals (have f_sg := SG.out); all_goals (try simp only [std, stdBin, stdCmp, stdUna, stdIn, ci, beq_iff_eq, bne_iff_ne, beq_eq_false_iff_ne, bne_eq_false_iff_eq, decide_eq_true_eq, decide_eq_false_iff_not, Bool.not_true, Bool.not_false, Bool.not_eq_true', Bool.not_eq_false', Bool.not_not, tn0, tn1, tn2, tn3, szF, shMayF] at *); all_goals (try omega))
         all_goals first | exact True.intro | rfl | (rw [hS, bsL_zero, mayD1_sz (by assumption)]; done)
         done)
  all_goals try (intro x hx; cbv; (repeat' (first | apply And.intro | apply BrB.mk | apply BrP.mk | intro _)))
  all_goals try (refine ⟨x + 1, ?_, ?_, ?_⟩)
  all_goals try (show AS.le _ _; cbv; (repeat' (first | apply And.intro | apply BrB.mk | apply BrP.mk | intro _)))
  (all_goals (subst hA; subst h_c; subst h_fm; subst h_ff; subst h_fd; subst h_fs; subst h_fE; subst h_fR); all_goals (have f_sg := SG.out); all_goals (try simp only [std, stdBin, stdCmp, stdUna, stdIn, ci, beq_iff_eq, bne_iff_ne, beq_eq_false_iff_ne, bne_eq_false_iff_eq, decide_eq_true_eq, decide_eq_false_iff_not, Bool.not_true, Bool.not_false, Bool.not_eq_true', Bool.not_eq_false', Bool.not_not, tn0, tn1, tn2, tn3, t1, mayD1, szF, shMayF] at *); all_goals (try omega))
  all_goals (try (simp only [bsErr, room_eq'] at *; simp_all; done))
  all_goals (have c3 : mayB ⟨gD, gE, gL⟩ = true := by assumption)
  all_goals (have c1 : (gD.length : Int) = 2 := by assumption)
  all_goals (obtain ⟨d1, d2, d3, d4, d5, d6, d7, d8⟩ := may2 c3 (show gD.length = 2 by omega))
  all_goals (simp only at d1 d2 d3 d4 d5 d6 d7 d8)
  all_goals (try omega)
  all_goals (have hszd := mayD1_sz (show mayD [gD.getD 1 0] = true by assumption))
  all_goals (obtain ⟨m, hm⟩ : ∃ m : Nat, gD.getD 1 0 = (m : Int) := ⟨(gD.getD 1 0).toNat, by omega⟩)
  all_goals first
    | (rw [hszd]; omega)
    | (exact congrArg _ (Int.natCast_succ _).symm)
    | rfl
    | (show [gD.getD 1 0] = [gD.getD 1 0]; rfl)
    | (show S x = bsL gL (gD.getD 1 0).toNat gL.length; rw [hS, show x = gL.length by omega]; done)
    | (have hmod := Nat.mod_lt x (show 0 < m by omega)
       have hb := bsum_in f_sg.2.2.1 m (x % m) x
       have hg := fits8 f_sg.2.2.1 x
       simp only [hm, hS, tmod_nat, Int.toNat_natCast, bsL_len, bsL_get _ hmod]
       first | omega | (rw [bsL_set _ (by omega)]; done))
    | trace_state
end Go.Proofs.Ytcbcfajihbbdcaa
/- Layer 10: it is as the document says. -/
namespace Go.Proofs.Ytcbcfajihbbdcaa
open Go.RowKit
set_option maxRecDepth 1000000
set_option linter.unusedSimpArgs false
set_option linter.unusedVariables false
set_option maxHeartbeats 16000000
set_option cbv.maxSteps 10000000
/-- How many numbers tensors have, wrapped as they add it up. -/
def wsum (d : Dat) : Nat → Int
  | 0 => 0
  | n + 1 => IntKind.i64.wrap (wsum d n + ci (tnOf (d.at n)).data.length)
def lightF (xa : List AV) : Bool := match xa with
  | [.d d] => decide (wsum d d.ls.length ≤ 3000)
  | _ => false
theorem light10_ok : CtrOk Try.prog 22 (boolC [.sl (tnTy .i8)] lightF) := by
  obtain ⟨G, hG⟩ : ∃ G : List (FuncId × Ctr), G = [] := ⟨_, rfl⟩
  refine fn_ok (ck := false) Try.func22 rfl tt_ok (G := G) (by rw [hG]; exact trivial) mixed (by kernel_rfl) ?_
  intro xa xs h hx hp
  obtain ⟨a0, as0, x0, xs0, rfl, rfl, h0, H1⟩ := svArgs_cons h
  obtain ⟨rfl, rfl⟩ := svArgs_nil H1
  obtain ⟨d, rfl, rfl⟩ := argSV_rows h0
  have sd : ci d.ls.length ≤ 9223372036854775807 := wt_len (hx _ (List.mem_of_getElem? (i := 0) rfl))
  have SD := Lib.hid sd
  clear sd
  clear hx hp h h0 H1
  generalize hA : std = A
  subst hG
  generalize h_c : ci = c
  generalize h_fR : lightF = fR
  obtain ⟨V, hV⟩ : ∃ V : Nat → Int, ∀ x, V x = wsum d x := ⟨_, fun _ => rfl⟩
  cbv
  (repeat' (first | apply And.intro | apply BrB.mk | apply BrP.mk | intro _))
  all_goals try (refine loop_at Nat 8 (fun x => [(3, .v (.int .i64 (V x))), (5, .any), (8, .v (.int .i64 (c x)))]) (fun _ o => o) (fun x => ci x ≤ ci d.ls.length) (fun x => d.ls.length - x) 0 ?h0 ?hle ?round)
  case h0 => simp [ci]
  case hle =>
    cbv
    (repeat' (first | apply And.intro | apply BrB.mk | apply BrP.mk | intro _))
    (all_goals (subst hA; subst h_c; subst h_fR); all_goals (have f_sd := SD.out); all_goals (try simp only [std, stdBin, stdCmp, stdUna, stdIn, ci, beq_iff_eq, bne_iff_ne, beq_eq_false_iff_ne, bne_eq_false_iff_eq, decide_eq_true_eq, decide_eq_false_iff_not, Bool.not_true, Bool.not_false, Bool.not_eq_true', Bool.not_eq_false', Bool.not_not, tn0, tn1, tn2, tn3] at *); all_goals (try omega))
    all_goals first | exact True.intro | rfl | skip
    rw [hV]; rfl
  case round =>
    intro x hx
    cbv
    (repeat' (first | apply And.intro | apply BrB.mk | apply BrP.mk | intro _))
    all_goals try (refine ⟨x + 1, ?i, ?le, ?mu⟩)
    case le =>
      cbv
      (repeat' (first | apply And.intro | apply BrB.mk | apply BrP.mk | intro _))
      (all_goals (subst hA; subst h_c; subst h_fR); all_goals (have f_sd := SD.out); all_goals (try simp only [std, stdBin, stdCmp, stdUna, stdIn, ci, beq_iff_eq, bne_iff_ne, beq_eq_false_iff_ne, bne_eq_false_iff_eq, decide_eq_true_eq, decide_eq_false_iff_not, Bool.not_true, Bool.not_false, Bool.not_eq_true', Bool.not_eq_false', Bool.not_not, tn0, tn1, tn2, tn3] at *); all_goals (try omega))
      all_goals first | exact True.intro | rfl | skip
      · rw [hV, hV]; rfl
      · rw [w64 (by omega) (by omega)]; exact congrArg _ (by omega)
    (all_goals (subst hA; subst h_c; subst h_fR); all_goals (have f_sd := SD.out); all_goals (try simp only [std, stdBin, stdCmp, stdUna, stdIn, ci, beq_iff_eq, bne_iff_ne, beq_eq_false_iff_ne, bne_eq_false_iff_eq, decide_eq_true_eq, decide_eq_false_iff_not, Bool.not_true, Bool.not_false, Bool.not_eq_true', Bool.not_eq_false', Bool.not_not, tn0, tn1, tn2, tn3] at *); all_goals (try omega))
    refine vb ?_
    rw [hV, show x = d.ls.length by omega]
    rfl
theorem Tn.eta (t : Tn) : (⟨t.dims, t.exp, t.data⟩ : Tn) = t := rfl
theorem sameTnF_eq (D L D' L' : List Int) (e e' : Int) : sameTnF [.st [.l D, .z e, .l L], .st [.l D', .z e', .l L']] = sameTn ⟨D, e, L⟩ ⟨D', e', L'⟩ := rfl
theorem sameTn_self (t : Tn) : sameTn t t = true := (sameTn_iff t.dims t.data t.dims t.data t.exp t.exp).2 ⟨rfl, rfl, rfl⟩
theorem rdenseU_ok : CtrOk Try.prog 25 (resU [tnTy .i8, tnTy .i8, tnTy .i8] .i32 3 21 (t3 fwdErr 0) (rU (t3 fwdErr 0) (t3 fwdRes ⟨[], 0, []⟩))) := by
  exact resU_of rdense_ok
theorem rinpU_ok : CtrOk Try.prog 27 (resU [tnTy .i8, tnTy .i8] .i32 3 21 (t2 inErr 0) (rU (t2 inErr 0) (t2 inRes ⟨[], 0, []⟩))) := by
  exact resU_of rinp_ok
theorem rwgtU_ok : CtrOk Try.prog 29 (resU [tnTy .i8, tnTy .i8] .i32 3 21 (t2 wtErr 0) (rU (t2 wtErr 0) (t2 wtRes ⟨[], 0, []⟩))) := by
  exact resU_of rwgt_ok
theorem rbiasU_ok : CtrOk Try.prog 31 (resU [tnTy .i8] .i32 3 21 (t1 bsErr 0) (rU (t1 bsErr 0) (t1 bsRes ⟨[], 0, []⟩))) := by
  exact resU_of rbias_ok
theorem forms10_ok : CtrOk Try.prog 7 (boolC [tnTy .i8, tnTy .i8, tnTy .i8, tnTy .i8, .int .i64] yes) := by
  obtain ⟨G, hG⟩ : ∃ G : List (FuncId × Ctr), G = [(24, resU [tnTy .i8, tnTy .i8, tnTy .i8] .i32 3 21 fwdE (rU fwdE fwdR)), (25, resU [tnTy .i8, tnTy .i8, tnTy .i8] .i32 3 21 (t3 fwdErr 0) (rU (t3 fwdErr 0) (t3 fwdRes ⟨[], 0, []⟩))), (26, resU [tnTy .i8, tnTy .i8] .i32 3 21 (t2 inErr 0) (rU (t2 inErr 0) (t2 inRes ⟨[], 0, []⟩))), (27, resU [tnTy .i8, tnTy .i8] .i32 3 21 (t2 inErr 0) (rU (t2 inErr 0) (t2 inRes ⟨[], 0, []⟩))), (28, resU [tnTy .i8, tnTy .i8] .i32 3 21 (t2 wtErr 0) (rU (t2 wtErr 0) (t2 wtRes ⟨[], 0, []⟩))), (29, resU [tnTy .i8, tnTy .i8] .i32 3 21 (t2 wtErr 0) (rU (t2 wtErr 0) (t2 wtRes ⟨[], 0, []⟩))), (30, resU [tnTy .i8] .i32 3 21 (t1 bsErr 0) (rU (t1 bsErr 0) (t1 bsRes ⟨[], 0, []⟩))), (31, resU [tnTy .i8] .i32 3 21 (t1 bsErr 0) (rU (t1 bsErr 0) (t1 bsRes ⟨[], 0, []⟩))), (32, boolC [tnTy .i32, tnTy .i32] sameTnF), (33, boolC [.int .i64] fitsF), (34, boolC [.int .i64] fitsF), (22, boolC [.sl (tnTy .i8)] lightF), (23, boolC [] yes)] := ⟨_, rfl⟩
  refine fn_ok (ck := true) Try.func7 rfl tt_ok (G := G) (by rw [hG]; exact ⟨⟨fwdU_ok, by unfold FnOk; kernel_rfl⟩, ⟨rdenseU_ok, by unfold FnOk; kernel_rfl⟩, ⟨inpU_ok, by unfold FnOk; kernel_rfl⟩, ⟨rinpU_ok, by unfold FnOk; kernel_rfl⟩, ⟨wgtU_ok, by unfold FnOk; kernel_rfl⟩, ⟨rwgtU_ok, by unfold FnOk; kernel_rfl⟩, ⟨biasU_ok, by unfold FnOk; kernel_rfl⟩, ⟨rbiasU_ok, by unfold FnOk; kernel_rfl⟩, ⟨rsameAcc_ok, by unfold FnOk; kernel_rfl⟩, ⟨fits_ok, by unfold FnOk; kernel_rfl⟩, ⟨rfits_ok, by unfold FnOk; kernel_rfl⟩, ⟨light10_ok, by unfold FnOk; kernel_rfl⟩, ⟨awake10_ok, by unfold FnOk; kernel_rfl⟩, trivial⟩) mixed (by kernel_rfl) ?_
  intro xa xs h hx hp
  obtain ⟨a0, as0, x0, xs0, rfl, rfl, h0, H1⟩ := svArgs_cons h
  obtain ⟨a1, as1, x1, xs1, rfl, rfl, h1, H2⟩ := svArgs_cons H1
  obtain ⟨a2, as2, x2, xs2, rfl, rfl, h2, H3⟩ := svArgs_cons H2
  obtain ⟨a3, as3, x3, xs3, rfl, rfl, h3, H4⟩ := svArgs_cons H3
  obtain ⟨a4, as4, x4, xs4, rfl, rfl, h4, H5⟩ := svArgs_cons H4
  obtain ⟨rfl, rfl⟩ := svArgs_nil H5
  obtain ⟨⟨xD, xE, xL⟩, rfl, rfl⟩ := argSV_tn h0
  obtain ⟨⟨wD, wE, wL⟩, rfl, rfl⟩ := argSV_tn h1
  obtain ⟨⟨bD, bE, bL⟩, rfl, rfl⟩ := argSV_tn h2
  obtain ⟨⟨gD, gE, gL⟩, rfl, rfl⟩ := argSV_tn h3
  obtain ⟨n, rfl, rfl⟩ := argSV_int h4
  have sx : (Fits .i64 xD ∧ ci xD.length ≤ 9223372036854775807) ∧ (-9223372036854775808 ≤ xE ∧ xE ≤ 9223372036854775807) ∧ Fits .i8 xL ∧ ci xL.length ≤ 9223372036854775807 := svf_tn (hx (Tn.sv .i8 ⟨xD, xE, xL⟩) (by simp))
  have sw : (Fits .i64 wD ∧ ci wD.length ≤ 9223372036854775807) ∧ (-9223372036854775808 ≤ wE ∧ wE ≤ 9223372036854775807) ∧ Fits .i8 wL ∧ ci wL.length ≤ 9223372036854775807 := svf_tn (hx (Tn.sv .i8 ⟨wD, wE, wL⟩) (by simp))
  have sb : (Fits .i64 bD ∧ ci bD.length ≤ 9223372036854775807) ∧ (-9223372036854775808 ≤ bE ∧ bE ≤ 9223372036854775807) ∧ Fits .i8 bL ∧ ci bL.length ≤ 9223372036854775807 := svf_tn (hx (Tn.sv .i8 ⟨bD, bE, bL⟩) (by simp))
  have sg : (Fits .i64 gD ∧ ci gD.length ≤ 9223372036854775807) ∧ (-9223372036854775808 ≤ gE ∧ gE ≤ 9223372036854775807) ∧ Fits .i8 gL ∧ ci gL.length ≤ 9223372036854775807 := svf_tn (hx (Tn.sv .i8 ⟨gD, gE, gL⟩) (by simp))
  have sn := of_i64 (hx (.v (.int .i64 n)) (by simp))
  have SX := Lib.hid sx
  clear sx
  have SW := Lib.hid sw
  clear sw
  have SB := Lib.hid sb
  clear sb
  have SG := Lib.hid sg
  clear sg
  have SN := Lib.hid sn
  clear sn
  clear hx hp h h0 H1 h1 H2 h2 H3 h3 H4 h4 H5
  generalize hA : std = A
  subst hG
  generalize h_c : ci = c
  generalize h_fR : rU fwdE fwdR = fR
  generalize h_fE : fwdE = fE
  generalize h_tR : rU (t3 fwdErr 0) (t3 fwdRes ⟨[], 0, []⟩) = tR
  generalize h_tE : t3 fwdErr 0 = tE
  generalize h_iR : rU (t2 inErr 0) (t2 inRes ⟨[], 0, []⟩) = iR
  generalize h_iE : t2 inErr 0 = iE
  generalize h_wR : rU (t2 wtErr 0) (t2 wtRes ⟨[], 0, []⟩) = wR
  generalize h_wE : t2 wtErr 0 = wE
  generalize h_bR : rU (t1 bsErr 0) (t1 bsRes ⟨[], 0, []⟩) = bR
  generalize h_bE : t1 bsErr 0 = bE
  generalize h_fs : sameTnF = fs
  generalize h_fF : fitsF = fF
  generalize h_fL : lightF = fL
  generalize h_fY : yes = fY
  cbv
  (repeat' (first | apply And.intro | apply BrB.mk | apply BrP.mk | intro _))
  all_goals (subst hA; subst h_c; subst h_fR; subst h_fE; subst h_tR; subst h_tE; subst h_iR; subst h_iE; subst h_wR; subst h_wE; subst h_bR; subst h_bE; subst h_fs; subst h_fF; subst h_fL; subst h_fY)
  all_goals (have f_sx := SX.out; have f_sw := SW.out; have f_sb := SB.out; have f_sg := SG.out; have f_sn := SN.out)
  all_goals (have e1 : t3 fwdErr 0 = fwdE := rfl; have e2 : t3 fwdRes ⟨[], 0, []⟩ = fwdR := rfl)
  all_goals (try simp only [std, stdBin, stdCmp, stdUna, stdIn, ci, beq_iff_eq, bne_iff_ne, beq_eq_false_iff_ne, bne_eq_false_iff_eq, decide_eq_true_eq, decide_eq_false_iff_not, Bool.not_true, Bool.not_false, Bool.not_eq_true', Bool.not_eq_false', Bool.not_not, tn0, tn1, tn2, tn3, e1, e2, sameTnF_eq, Tn.eta, sameTn_self] at *)
  all_goals (try first | rfl | contradiction | omega)
  all_goals trace_state
end Go.Proofs.Ytcbcfajihbbdcaa
