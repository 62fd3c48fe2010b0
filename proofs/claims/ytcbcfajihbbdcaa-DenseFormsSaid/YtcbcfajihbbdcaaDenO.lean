/- Layer 10: the counterpart of what comes back to the bias; all that comes, there and back. -/
import Derived.Test.YtcbcfajihbbdcaaDenK
import Derived.Test.YtcbcfajihbbdcaaDenH
import Derived.Test.YtcbcfajihbbdcaaDenI
namespace Go.Proofs.Ytcbcfajihbbdcaa
open Go.RowKit
set_option maxRecDepth 1000000
set_option linter.unusedSimpArgs false
set_option linter.unusedVariables false
set_option maxHeartbeats 16000000
set_option cbv.maxSteps 10000000
theorem mayD1_sz {a : Int} (h : mayD [a] = true) : szD [a] = a := by
  unfold szD
  rw [if_pos h]
  simp [prodFrom]
theorem rbias_ok : CtrOk Try.prog 31 (resC [tnTy .i8] .i32 3 21 (t1 bsErr 0) (t1 bsRes ⟨[], 0, []⟩)) := by
  obtain ⟨G, hG⟩ : ∃ G : List (FuncId × Ctr), G = [(53, boolC [.sl (tnTy .i8)] mayAllF), (34, boolC [.int .i64] fitsF), (72, boolC [.sl (.int .i64)] shMayF), (73, intC [.sl (.int .i64)] .i64 szF)] := ⟨_, rfl⟩
  refine fn_inl (ck := true) [(54, Try.f54), (69, Try.f69)] ⟨⟨Try.func54, by unfold FnOk; kernel_rfl, by kernel_rfl⟩, ⟨Try.func69, by unfold FnOk; kernel_rfl, by kernel_rfl⟩, trivial⟩ Try.func31 rfl tt_ok (G := G) (by rw [hG]; exact ⟨⟨rtmay_ok, by unfold FnOk; kernel_rfl⟩, ⟨rfits_ok, by unfold FnOk; kernel_rfl⟩, ⟨rmay_ok, by unfold FnOk; kernel_rfl⟩, ⟨rsize_ok, by unfold FnOk; kernel_rfl⟩, trivial⟩) mixed (by kernel_rfl) ?_
  intro xa xs h hx hp
  obtain ⟨a0, as0, x0, xs0, rfl, rfl, h0, H1⟩ := svArgs_cons h
  obtain ⟨rfl, rfl⟩ := svArgs_nil H1
  obtain ⟨⟨gD, gE, gL⟩, rfl, rfl⟩ := argSV_tn h0
  have sg : (Fits .i64 gD ∧ ci gD.length ≤ 9223372036854775807) ∧ (-9223372036854775808 ≤ gE ∧ gE ≤ 9223372036854775807) ∧ Fits .i8 gL ∧ ci gL.length ≤ 9223372036854775807 := svf_tn (hx (Tn.sv .i8 ⟨gD, gE, gL⟩) (by simp))
  have SG := Lib.hid sg
  clear sg
  clear hx hp h h0 H1
  generalize hA : std = A
  subst hG
  generalize h_c : ci = c
  generalize h_fm : mayAllF = fm
  generalize h_ff : fitsF = ff
  generalize h_fd : shMayF = fd
  generalize h_fs : szF = fs
  generalize h_fE : t1 bsErr 0 = fE
  generalize h_fR : t1 bsRes ⟨[], 0, []⟩ = fR
  obtain ⟨S, hS⟩ : ∃ S, S = bsL gL (gD.getD 1 0).toNat := ⟨_, rfl⟩
  cbv
  (repeat' (first | apply And.intro | apply BrB.mk | apply BrP.mk | intro _))
  (all_goals try (exfalso; (subst hA; subst h_c; subst h_fm; subst h_ff; subst h_fd; subst h_fs; subst h_fE; subst h_fR); (try simp only [std, stdBin, stdCmp, stdUna, stdIn, ci, beq_iff_eq, bne_iff_ne, beq_eq_false_iff_ne, bne_eq_false_iff_eq, decide_eq_true_eq, decide_eq_false_iff_not, Bool.not_true, Bool.not_false, Bool.not_eq_true', Bool.not_eq_false', Bool.not_not, tn0, tn1, tn2, tn3] at *); first | omega | contradiction))
  all_goals try first
    | (refine loop_at Nat 40 (fun x => [(6, .any), (7, .any), (40, .v (.int .i64 (c x)))]) (fun x o => o.set 5 (.irow 21 .i32 (S x))) (fun x => ci x ≤ ci gL.length) (fun x => gL.length - x) 0 (by simp [ci]) ?_ ?_
       focus
         show AS.le _ _
         cbv
         (repeat' (first | apply And.intro | apply BrB.mk | apply BrP.mk | intro _))
         (all_goals (subst hA; subst h_c; subst h_fm; subst h_ff; subst h_fd; subst h_fs; subst h_fE; subst h_fR); all_goals (have f_sg := SG.out); all_goals (try simp only [std, stdBin, stdCmp, stdUna, stdIn, ci, beq_iff_eq, bne_iff_ne, beq_eq_false_iff_ne, bne_eq_false_iff_eq, decide_eq_true_eq, decide_eq_false_iff_not, Bool.not_true, Bool.not_false, Bool.not_eq_true', Bool.not_eq_false', Bool.not_not, tn0, tn1, tn2, tn3, szF, shMayF] at *); all_goals (try omega))
         all_goals first | exact True.intro | rfl | (rw [hS, bsL_zero, mayD1_sz (by assumption)]; done)
         done)
    | (refine loop_at Nat 40 (fun x => [(6, .any), (7, .any), (40, .v (.int .i64 (c x)))]) (fun x o => o.set 6 (.irow 21 .i32 (S x))) (fun x => ci x ≤ ci gL.length) (fun x => gL.length - x) 0 (by simp [ci]) ?_ ?_
       focus
         show AS.le _ _
         cbv
         (repeat' (first | apply And.intro | apply BrB.mk | apply BrP.mk | intro _))
         (all_goals (subst hA; subst h_c; subst h_fm; subst h_ff; subst h_fd; subst h_fs; subst h_fE; subst h_fR); all_goals (have f_sg := SG.out); all_goals (try simp only [std, stdBin, stdCmp, stdUna, stdIn, ci, beq_iff_eq, bne_iff_ne, beq_eq_false_iff_ne, bne_eq_false_iff_eq, decide_eq_true_eq, decide_eq_false_iff_not, Bool.not_true, Bool.not_false, Bool.not_eq_true', Bool.not_eq_false', Bool.not_not, tn0, tn1, tn2, tn3, szF, shMayF] at *); all_goals (try omega))
         all_goals first | exact True.intro | rfl | (rw [hS, bsL_zero, mayD1_sz (by assumption)]; done)
         done)
    | (refine loop_at Nat 40 (fun x => [(6, .any), (7, .any), (40, .v (.int .i64 (c x)))]) (fun x o => o.set 7 (.irow 21 .i32 (S x))) (fun x => ci x ≤ ci gL.length) (fun x => gL.length - x) 0 (by simp [ci]) ?_ ?_
       focus
         show AS.le _ _
         cbv
         (repeat' (first | apply And.intro | apply BrB.mk | apply BrP.mk | intro _))
         (all_goals (subst hA; subst h_c; subst h_fm; subst h_ff; subst h_fd; subst h_fs; subst h_fE; subst h_fR); all_goals (have f_sg := SG.out); all_goals (try simp only [std, stdBin, stdCmp, stdUna, stdIn, ci, beq_iff_eq, bne_iff_ne, beq_eq_false_iff_ne, bne_eq_false_iff_eq, decide_eq_true_eq, decide_eq_false_iff_not, Bool.not_true, Bool.not_false, Bool.not_eq_true', Bool.not_eq_false', Bool.not_not, tn0, tn1, tn2, tn3, szF, shMayF] at *); all_goals (try omega))
         all_goals first | exact True.intro | rfl | (rw [hS, bsL_zero, mayD1_sz (by assumption)]; done)
         done)
    | (refine loop_at Nat 40 (fun x => [(6, .any), (7, .any), (40, .v (.int .i64 (c x)))]) (fun x o => o.set 8 (.irow 21 .i32 (S x))) (fun x => ci x ≤ ci gL.length) (fun x => gL.length - x) 0 (by simp [ci]) ?_ ?_
       focus
         show AS.le _ _
         cbv
         (repeat' (first | apply And.intro | apply BrB.mk | apply BrP.mk | intro _))
         (all_goals (subst hA; subst h_c; subst h_fm; subst h_ff; subst h_fd; subst h_fs; subst h_fE; subst h_fR); all_goals (have f_sg := SG.out); all_goals (try simp only [std, stdBin, stdCmp, stdUna, stdIn, ci, beq_iff_eq, bne_iff_ne, beq_eq_false_iff_ne, bne_eq_false_iff_eq, decide_eq_true_eq, decide_eq_false_iff_not, Bool.not_true, Bool.not_false, Bool.not_eq_true', Bool.not_eq_false', Bool.not_not, tn0, tn1, tn2, tn3, szF, shMayF] at *); all_goals (try omega))
         all_goals first | exact True.intro | rfl | (rw [hS, bsL_zero, mayD1_sz (by assumption)]; done)
         done)
    | (refine loop_at Nat 40 (fun x => [(6, .any), (7, .any), (40, .v (.int .i64 (c x)))]) (fun x o => o.set 4 (.irow 21 .i32 (S x))) (fun x => ci x ≤ ci gL.length) (fun x => gL.length - x) 0 (by simp [ci]) ?_ ?_
       focus
         show AS.le _ _
         cbv
         (repeat' (first | apply And.intro | apply BrB.mk | apply BrP.mk | intro _))
         (all_goals (subst hA; subst h_c; subst h_fm; subst h_ff; subst h_fd; subst h_fs; subst h_fE; subst h_fR); all_goals (have f_sg := SG.out); all_goals (try simp only [std, stdBin, stdCmp, stdUna, stdIn, ci, beq_iff_eq, bne_iff_ne, beq_eq_false_iff_ne, bne_eq_false_iff_eq, decide_eq_true_eq, decide_eq_false_iff_not, Bool.not_true, Bool.not_false, Bool.not_eq_true', Bool.not_eq_false', Bool.not_not, tn0, tn1, tn2, tn3, szF, shMayF] at *); all_goals (try omega))
         all_goals first | exact True.intro | rfl | (rw [hS, bsL_zero, mayD1_sz (by assumption)]; done)
         done)
    | (refine loop_at Nat 40 (fun x => [(6, .any), (7, .any), (40, .v (.int .i64 (c x)))]) (fun x o => o.set 3 (.irow 21 .i32 (S x))) (fun x => ci x ≤ ci gL.length) (fun x => gL.length - x) 0 (by simp [ci]) ?_ ?_
       focus
         show AS.le _ _
         cbv
         (repeat' (first | apply And.intro | apply BrB.mk | apply BrP.mk | intro _))
         (all_goals (subst hA; subst h_c; subst h_fm; subst h_ff; subst h_fd; subst h_fs; subst h_fE; subst h_fR); all_goals (have f_sg := SG.out); all_goals (try simp only [std, stdBin, stdCmp, stdUna, stdIn, ci, beq_iff_eq, bne_iff_ne, beq_eq_false_iff_ne, bne_eq_false_iff_eq, decide_eq_true_eq, decide_eq_false_iff_not, Bool.not_true, Bool.not_false, Bool.not_eq_true', Bool.not_eq_false', Bool.not_not, tn0, tn1, tn2, tn3, szF, shMayF] at *); all_goals (try omega))
         all_goals first | exact True.intro | rfl | (rw [hS, bsL_zero, mayD1_sz (by assumption)]; done)
         done)
  all_goals try (intro x hx; cbv; (repeat' (first | apply And.intro | apply BrB.mk | apply BrP.mk | intro _)))
  all_goals try (refine ⟨x + 1, ?_, ?_, ?_⟩)
  all_goals try (show AS.le _ _; cbv; (repeat' (first | apply And.intro | apply BrB.mk | apply BrP.mk | intro _)))
  (all_goals (subst hA; subst h_c; subst h_fm; subst h_ff; subst h_fd; subst h_fs; subst h_fE; subst h_fR); all_goals (have f_sg := SG.out); all_goals (try simp only [std, stdBin, stdCmp, stdUna, stdIn, ci, beq_iff_eq, bne_iff_ne, beq_eq_false_iff_ne, bne_eq_false_iff_eq, decide_eq_true_eq, decide_eq_false_iff_not, Bool.not_true, Bool.not_false, Bool.not_eq_true', Bool.not_eq_false', Bool.not_not, tn0, tn1, tn2, tn3, t1, mayD1, szF, shMayF] at *); all_goals (try omega))
  all_goals (try (simp only [bsErr, room_eq'] at *; simp_all; done))
  all_goals (have c3 : mayB ⟨gD, gE, gL⟩ = true := by assumption)
  all_goals (have c1 : (gD.length : Int) = 2 := by assumption)
  all_goals (obtain ⟨d1, d2, d3, d4, d5, d6, d7, d8⟩ := may2 c3 (show gD.length = 2 by omega))
  all_goals (simp only at d1 d2 d3 d4 d5 d6 d7 d8)
  all_goals (try omega)
  all_goals (have hszd := mayD1_sz (show mayD [gD.getD 1 0] = true by assumption))
  all_goals (obtain ⟨m, hm⟩ : ∃ m : Nat, gD.getD 1 0 = (m : Int) := ⟨(gD.getD 1 0).toNat, by omega⟩)
  all_goals first
    | (rw [hszd]; omega)
    | (exact congrArg _ (Int.natCast_succ _).symm)
    | rfl
    | (show [gD.getD 1 0] = [gD.getD 1 0]; rfl)
    | (show S x = bsL gL (gD.getD 1 0).toNat gL.length; rw [hS, show x = gL.length by omega]; done)
    | (have hmod := Nat.mod_lt x (show 0 < m by omega)
       have hb := bsum_in f_sg.2.2.1 m (x % m) x
       have hg := fits8 f_sg.2.2.1 x
       simp only [hm, hS, tmod_nat, Int.toNat_natCast, bsL_len, bsL_get _ hmod]
       first | omega | (rw [bsL_set _ (by omega)]; done))
    | trace_state
end Go.Proofs.Ytcbcfajihbbdcaa
