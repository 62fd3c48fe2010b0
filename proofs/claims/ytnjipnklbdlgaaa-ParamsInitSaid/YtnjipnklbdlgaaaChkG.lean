/- Layer 15, 16: the counterparts of models. -/
import Derived.Test.YtnjipnklbdlgaaaChkF
namespace Go.Proofs.Ytnjipnklbdlgaaa
open Go.RowKit
set_option maxRecDepth 1000000
set_option linter.unusedSimpArgs false
set_option linter.unusedVariables false
set_option maxHeartbeats 16000000
set_option cbv.maxSteps 10000000
theorem rin10_ok : CtrOk Try.prog 40 (boolC [.int .i64, .int .i64, .int .i64] inF) := by
  obtain ⟨G, hG⟩ : ∃ G : List (FuncId × Ctr), G = [] := ⟨_, rfl⟩
  refine fn_ok (ck := true) Try.func40 rfl tt_ok (G := G) (by rw [hG]; exact trivial) mixed (by kernel_rfl) ?_
  intro xa xs h hx hp
  obtain ⟨a0, as0, x0, xs0, rfl, rfl, h0, H1⟩ := svArgs_cons h
  obtain ⟨a1, as1, x1, xs1, rfl, rfl, h1, H2⟩ := svArgs_cons H1
  obtain ⟨a2, as2, x2, xs2, rfl, rfl, h2, H3⟩ := svArgs_cons H2
  obtain ⟨rfl, rfl⟩ := svArgs_nil H3
  obtain ⟨n, rfl, rfl⟩ := argSV_int h0
  obtain ⟨a, rfl, rfl⟩ := argSV_int h1
  obtain ⟨b, rfl, rfl⟩ := argSV_int h2
  have sn := of_i64 (hx (.v (.int .i64 n)) (by simp))
  have sa := of_i64 (hx (.v (.int .i64 a)) (by simp))
  have sb := of_i64 (hx (.v (.int .i64 b)) (by simp))
  have SN := Lib.hid sn
  clear sn
  have SA := Lib.hid sa
  clear sa
  have SB := Lib.hid sb
  clear sb
  clear hx hp h h0 H1 h1 H2 h2 H3
  generalize hA : std = A
  subst hG
  generalize h_c : ci = c
  generalize h_fR : inF = fR
  cbv
  (repeat' (first | apply And.intro | apply BrB.mk | apply BrP.mk | intro _))
  (all_goals (subst hA; subst h_c; subst h_fR); all_goals (have f_sn := SN.out; have f_sa := SA.out; have f_sb := SB.out); all_goals (try simp only [std, stdBin, stdCmp, stdUna, stdIn, ci, beq_iff_eq, bne_iff_ne, beq_eq_false_iff_ne, bne_eq_false_iff_eq, decide_eq_true_eq, decide_eq_false_iff_not, Bool.not_true, Bool.not_false, Bool.not_eq_true', Bool.not_eq_false', Bool.not_not, tn0, tn1, tn2, tn3, inF] at *); all_goals (try omega))
  all_goals (refine vb ?_; simp only [inF, inB])
  all_goals first | (rw [decide_eq_decide]; omega) | (rw [decide_eq_false_iff_not]; omega) | (rw [decide_eq_true_eq]; omega) | trace_state
theorem rmin_ok : CtrOk Try.prog 45 (boolC [in3Ty] in3F) := by
  obtain ⟨G, hG⟩ : ∃ G : List (FuncId × Ctr), G = [(40, boolC [.int .i64, .int .i64, .int .i64] inF)] := ⟨_, rfl⟩
  refine fn_ok (ck := true) Try.func45 rfl tt_ok (G := G) (by rw [hG]; exact ⟨⟨rin10_ok, by unfold FnOk; kernel_rfl⟩, trivial⟩) mixed (by kernel_rfl) ?_
  intro xa xs h hx hp
  obtain ⟨a0, as0, x0, xs0, rfl, rfl, h0, H1⟩ := svArgs_cons h
  obtain ⟨rfl, rfl⟩ := svArgs_nil H1
  obtain ⟨ta, tb, tc, rfl, rfl⟩ := argSV_in3 h0
  have st : (-9223372036854775808 ≤ ta ∧ ta ≤ 9223372036854775807) ∧ (-9223372036854775808 ≤ tb ∧ tb ≤ 9223372036854775807) ∧ (-9223372036854775808 ≤ tc ∧ tc ≤ 9223372036854775807) := svf_in3 (hx (.agg [.v (.int .i64 ta), .v (.int .i64 tb), .v (.int .i64 tc)]) (List.mem_of_getElem? (i := 0) rfl))
  have ST := Lib.hid st
  clear st
  clear hx hp h h0 H1
  generalize hA : std = A
  subst hG
  generalize h_c : ci = c
  generalize h_fi : inF = fi
  generalize h_fR : in3F = fR
  cbv
  (repeat' (first | apply And.intro | apply BrB.mk | apply BrP.mk | intro _))
  (all_goals (subst hA; subst h_c; subst h_fi; subst h_fR); all_goals (have f_st := ST.out); all_goals (try simp only [std, stdBin, stdCmp, stdUna, stdIn, ci, beq_iff_eq, bne_iff_ne, beq_eq_false_iff_ne, bne_eq_false_iff_eq, decide_eq_true_eq, decide_eq_false_iff_not, Bool.not_true, Bool.not_false, Bool.not_eq_true', Bool.not_eq_false', Bool.not_not, tn0, tn1, tn2, tn3, inF, in3F, in3B] at *); all_goals (try omega))
  all_goals (refine vb ?_; simp_all [in3F, in3B])
theorem rlay_ok : CtrOk Try.prog 46 (boolP [layTy, .int .i64] layP layF) := by
  obtain ⟨G, hG⟩ : ∃ G : List (FuncId × Ctr), G = [(40, boolC [.int .i64, .int .i64, .int .i64] inF)] := ⟨_, rfl⟩
  refine fn_ok (ck := true) Try.func46 rfl tt_ok (G := G) (by rw [hG]; exact ⟨⟨rin10_ok, by unfold FnOk; kernel_rfl⟩, trivial⟩) mixed (by kernel_rfl) ?_
  intro xa xs h hx hp
  obtain ⟨a0, as0, x0, xs0, rfl, rfl, h0, H1⟩ := svArgs_cons h
  obtain ⟨a1, as1, x1, xs1, rfl, rfl, h1, H2⟩ := svArgs_cons H1
  obtain ⟨rfl, rfl⟩ := svArgs_nil H2
  obtain ⟨lk, lo, lw, ls, lp, lf, lz, rfl, rfl⟩ := argSV_lay h0
  obtain ⟨a, rfl, rfl⟩ := argSV_int h1
  have sl : (-9223372036854775808 ≤ lk ∧ lk ≤ 9223372036854775807) ∧ (-9223372036854775808 ≤ lo ∧ lo ≤ 9223372036854775807) ∧ (-9223372036854775808 ≤ lw ∧ lw ≤ 9223372036854775807) ∧ (-9223372036854775808 ≤ ls ∧ ls ≤ 9223372036854775807) ∧ (-9223372036854775808 ≤ lp ∧ lp ≤ 9223372036854775807) ∧ (-9223372036854775808 ≤ lf ∧ lf ≤ 9223372036854775807) := svf_lay (hx (.agg [.v (.int .i64 lk), .v (.int .i64 lo), .v (.int .i64 lw), .v (.int .i64 ls), .v (.int .i64 lp), .v (.int .i64 lf), .v (.bool lz)]) (List.mem_of_getElem? (i := 0) rfl))
  have sa := of_i64 (hx (.v (.int .i64 a)) (by simp))
  have SL := Lib.hid sl
  clear sl
  have SA := Lib.hid sa
  clear sa
  have HP := Lib.hid (hp _ rfl)
  clear hx hp h h0 H1 h1 H2
  generalize hA : std = A
  subst hG
  generalize h_c : ci = c
  generalize h_fi : inF = fi
  generalize h_fR : layF = fR
  cbv
  (repeat' (first | apply And.intro | apply BrB.mk | apply BrP.mk | intro _))
  (all_goals (subst hA; subst h_c; subst h_fi; subst h_fR); all_goals (have f_sl := SL.out; have f_sa := SA.out; have f_hp := HP.out); all_goals (try simp only [std, stdBin, stdCmp, stdUna, stdIn, ci, beq_iff_eq, bne_iff_ne, beq_eq_false_iff_ne, bne_eq_false_iff_eq, decide_eq_true_eq, decide_eq_false_iff_not, Bool.not_true, Bool.not_false, Bool.not_eq_true', Bool.not_eq_false', Bool.not_not, tn0, tn1, tn2, tn3, inF, inB, layP, layF] at *); all_goals (try omega))
  all_goals (refine vb ?_; rw [Bool.eq_iff_iff]; unfold layB)
  all_goals (cases lz <;> (repeat' split) <;> try first | omega | (simp only [beq_self_eq_true, Bool.true_and, Bool.and_true, beq_iff_eq, decide_eq_true_eq, decide_eq_false_iff_not, Bool.false_eq_true, iff_false] at *; omega) | (simp_all; done) | (simp_all; omega))
  all_goals first
    | (have hp := of_decide_eq_true (show decide (0 ≤ lp ∧ lp ≤ lw - 1) = true by assumption)
       constructor
       · intro hh
         have h1 := of_decide_eq_true hh
         simp [h1.1]
       · intro hh
         simp at hh
         exact decide_eq_true (by omega))
    | (have hp := of_decide_eq_false (show decide (0 ≤ lp ∧ lp ≤ lw - 1) = false by assumption)
       constructor
       · intro hh
         have h1 := of_decide_eq_true hh
         omega
       · intro hh
         cases hh)
    | (have hp := of_decide_eq_true (show decide (0 ≤ lf ∧ lf ≤ a - 1) = true by assumption)
       constructor
       · intro hh
         have h1 := of_decide_eq_true hh
         simp [h1.1, h1.2.1, h1.2.2.1, h1.2.2.2.1]
       · intro hh
         simp at hh
         exact decide_eq_true ⟨by omega, by omega, by omega, by omega, rfl, by omega, by omega⟩)
    | (have hp := of_decide_eq_false (show decide (0 ≤ lf ∧ lf ≤ a - 1) = false by assumption)
       constructor
       · intro hh
         have h1 := of_decide_eq_true hh
         omega
       · intro hh
         cases hh)
    | trace_state
theorem rmm_ok : CtrOk Try.prog 20 (boolC [mdlTy] mdlF) := by
  obtain ⟨G, hG⟩ : ∃ G : List (FuncId × Ctr), G = [(40, boolC [.int .i64, .int .i64, .int .i64] inF), (45, boolC [in3Ty] in3F), (46, boolP [layTy, .int .i64] layP layF)] := ⟨_, rfl⟩
  refine fn_ok (ck := true) Try.func20 rfl tt_ok (G := G) (by rw [hG]; exact ⟨⟨rin10_ok, by unfold FnOk; kernel_rfl⟩, ⟨rmin_ok, by unfold FnOk; kernel_rfl⟩, ⟨rlay_ok, by unfold FnOk; kernel_rfl⟩, trivial⟩) mixed (by kernel_rfl) ?_
  intro xa xs h hx hp
  obtain ⟨a0, as0, x0, xs0, rfl, rfl, h0, H1⟩ := svArgs_cons h
  obtain ⟨rfl, rfl⟩ := svArgs_nil H1
  obtain ⟨mc, mh, mw, mx, rfl, rfl⟩ := argSV_mdl h0
  have sm : (-9223372036854775808 ≤ mc ∧ mc ≤ 9223372036854775807) ∧ (-9223372036854775808 ≤ mh ∧ mh ≤ 9223372036854775807) ∧ (-9223372036854775808 ≤ mw ∧ mw ≤ 9223372036854775807) ∧ ((ci mx.ls.length ≤ 9223372036854775807) ∧ Wt (.sl layTy) mx) := svf_mdl (hx (.agg [.v (.int .i64 mc), .v (.int .i64 mh), .v (.int .i64 mw), .imm layTy mx]) (List.mem_of_getElem? (i := 0) rfl))
  have SM := Lib.hid sm
  clear sm
  clear hx hp h h0 H1
  generalize hA : std = A
  subst hG
  generalize h_c : ci = c
  generalize h_fi : inF = fi
  generalize h_fn : in3F = fn
  generalize h_fl : layF = fl
  generalize h_pl : layP = pl
  generalize h_fR : mdlF = fR
  cbv
  (repeat' (first | apply And.intro | apply BrB.mk | apply BrP.mk | intro _))
  all_goals try (refine loop_at Nat 19 (fun x => [(2, .any), (3, .any), (4, .any), (19, .v (.int .i64 (c x)))]) (fun _ o => o) (fun x => x ≤ mx.ls.length ∧ allTo (layAt mx) x = true) (fun x => mx.ls.length - x) 0 ?h0 ?hle ?round)
  case h0 => exact ⟨Nat.zero_le _, rfl⟩
  case hle => (cbv; (repeat' (first | apply And.intro | apply BrB.mk | apply BrP.mk | intro _)); all_goals (subst hA; subst h_c; subst h_fi; subst h_fn; subst h_fl; subst h_pl; subst h_fR); all_goals (have f_sm := SM.out); all_goals (try simp only [std, stdBin, stdCmp, stdUna, stdIn, ci, beq_iff_eq, bne_iff_ne, beq_eq_false_iff_ne, bne_eq_false_iff_eq, decide_eq_true_eq, decide_eq_false_iff_not, Bool.not_true, Bool.not_false, Bool.not_eq_true', Bool.not_eq_false', Bool.not_not, tn0, tn1, tn2, tn3] at *); (all_goals first | exact True.intro | rfl | exact congrArg (Value.int .i64) (by omega)))
  case round =>
    intro x hx
    cbv
    (repeat' (first | apply And.intro | apply BrB.mk | apply BrP.mk | intro _))
    all_goals try (refine ⟨x + 1, ?_, ?_, ?_⟩)
    all_goals try (show AS.le _ _; (cbv; (repeat' (first | apply And.intro | apply BrB.mk | apply BrP.mk | intro _)); all_goals (subst hA; subst h_c; subst h_fi; subst h_fn; subst h_fl; subst h_pl; subst h_fR); all_goals (have f_sm := SM.out); all_goals (try simp only [std, stdBin, stdCmp, stdUna, stdIn, ci, beq_iff_eq, bne_iff_ne, beq_eq_false_iff_ne, bne_eq_false_iff_eq, decide_eq_true_eq, decide_eq_false_iff_not, Bool.not_true, Bool.not_false, Bool.not_eq_true', Bool.not_eq_false', Bool.not_not, tn0, tn1, tn2, tn3] at *); (all_goals first | exact True.intro | rfl | exact congrArg (Value.int .i64) (by omega))))
    (all_goals (subst hA; subst h_c; subst h_fi; subst h_fn; subst h_fl; subst h_pl; subst h_fR); all_goals (have f_sm := SM.out); all_goals (try simp only [std, stdBin, stdCmp, stdUna, stdIn, ci, beq_iff_eq, bne_iff_ne, beq_eq_false_iff_ne, bne_eq_false_iff_eq, decide_eq_true_eq, decide_eq_false_iff_not, Bool.not_true, Bool.not_false, Bool.not_eq_true', Bool.not_eq_false', Bool.not_not, tn0, tn1, tn2, tn3, inF, in3F, layF, layP, Int.toNat_natCast] at *); all_goals (try omega))
    all_goals (have hn : 1 ≤ (mx.ls.length : Int) ∧ (mx.ls.length : Int) ≤ 12 := of_decide_eq_true (show inB mx.ls.length 1 12 = true by assumption))
    all_goals first
      | exact True.intro
      | omega
      | (refine vb ?_
         show mdlB mc mh mw mx = false
         have hg : layAt mx x = false := by assumption
         unfold mdlB
         rw [allTo_false (x := x) (by omega) hg, Bool.and_false, Bool.and_false])
      | (refine ⟨by omega, ?_⟩
         have hg : layAt mx x = true := by assumption
         simp only [allTo, hx.2, hg, Bool.true_and])
      | (refine vb ?_
         have hl : mx.ls.length = x := by omega
         have h1 : in3B mc mh mw = true := by assumption
         have h2 : inB mx.ls.length 1 12 = true := by assumption
         show mdlB mc mh mw mx = true
         unfold mdlB
         rw [h1, h2, hl, hx.2]; rfl)
      | trace_state
  (all_goals (subst hA; subst h_c; subst h_fi; subst h_fn; subst h_fl; subst h_pl; subst h_fR); all_goals (have f_sm := SM.out); all_goals (try simp only [std, stdBin, stdCmp, stdUna, stdIn, ci, beq_iff_eq, bne_iff_ne, beq_eq_false_iff_ne, bne_eq_false_iff_eq, decide_eq_true_eq, decide_eq_false_iff_not, Bool.not_true, Bool.not_false, Bool.not_eq_true', Bool.not_eq_false', Bool.not_not, tn0, tn1, tn2, tn3, inF, in3F, mdlF, mdlB] at *); all_goals (try omega))
  all_goals (refine vb ?_; simp_all)
end Go.Proofs.Ytnjipnklbdlgaaa
