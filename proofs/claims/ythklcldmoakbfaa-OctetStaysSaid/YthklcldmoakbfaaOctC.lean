/- Layer 3: behind the first call that is short. -/
import Derived.Test.YthklcldmoakbfaaOctB
namespace Go.Proofs.Ythklcldmoakbfaa
open Go.RowKit
set_option maxRecDepth 100000
set_option linter.unusedSimpArgs false
set_option linter.unusedVariables false
set_option maxHeartbeats 8000000
theorem stays_ok : CtrOk Try.prog 6 (yesP [.sl (.int .u8), .sl callTy] (fun _ => True)) := by
  obtain ⟨G, hG⟩ : ∃ G : List (FuncId × Ctr), G = [(32, rowP [.sl (.int .u8)] 5 .u8 (lenP 1) sameL), (8, yesP [] (fun _ => True))] := ⟨_, rfl⟩
  refine fn_inl (ck := true) [(9, Try.f9), (10, Try.f10), (12, Try.f12), (14, Try.f14), (16, Try.f16), (33, Try.f33), (18, Try.f18), (35, Try.f35), (20, Try.f20), (21, Try.f21)] ⟨⟨Try.func9, by unfold FnOk; kernel_rfl, by kernel_rfl⟩, ⟨Try.func10, by unfold FnOk; kernel_rfl, by kernel_rfl⟩, ⟨Try.func12, by unfold FnOk; kernel_rfl, by kernel_rfl⟩, ⟨Try.func14, by unfold FnOk; kernel_rfl, by kernel_rfl⟩, ⟨Try.func16, by unfold FnOk; kernel_rfl, by kernel_rfl⟩, ⟨Try.func33, by unfold FnOk; kernel_rfl, by kernel_rfl⟩, ⟨Try.func18, by unfold FnOk; kernel_rfl, by kernel_rfl⟩, ⟨Try.func35, by unfold FnOk; kernel_rfl, by kernel_rfl⟩, ⟨Try.func20, by unfold FnOk; kernel_rfl, by kernel_rfl⟩, ⟨Try.func21, by unfold FnOk; kernel_rfl, by kernel_rfl⟩, trivial⟩ Try.func6 rfl tt_ok (G := G) (by rw [hG]; exact ⟨⟨cloneB_ok, by unfold FnOk; kernel_rfl⟩, ⟨awake3_ok, by unfold FnOk; kernel_rfl⟩, trivial⟩) mixed (by kernel_rfl) ?_
  intro xa xs h hx hp
  obtain ⟨a0, as0, x0, xs0, rfl, rfl, h0, H1⟩ := svArgs_cons h
  obtain ⟨a1, as1, x1, xs1, rfl, rfl, h1, H2⟩ := svArgs_cons H1
  obtain ⟨rfl, rfl⟩ := svArgs_nil H2
  obtain ⟨b, rfl, rfl⟩ := argSV_ints h0
  obtain ⟨l, rfl, rfl⟩ := argSV_rows h1
  have sb : Fits .u8 b ∧ ci b.length ≤ 9223372036854775807 := svf_ints (hx (.iimm .u8 b) (by simp))
  have sl : ci l.ls.length ≤ 9223372036854775807 ∧ Wt (.sl callTy) l := ⟨wtl_len (hx (.imm callTy l) (List.mem_of_getElem? (i := 1) rfl)), hx (.imm callTy l) (List.mem_of_getElem? (i := 1) rfl)⟩
  have SB := Lib.hid sb
  clear sb
  have SL := Lib.hid sl
  clear sl
  clear hx hp h h0 H1 h1 H2
  subst hG
  generalize hA : std = A
  generalize h_c : ci = c
  generalize h_fl : lenP 1 = fl
  generalize h_fc : sameL = fc
  cbv
  (repeat' (first | apply And.intro | apply BrB.mk | apply BrP.mk | intro _))
  (all_goals try (exfalso; (subst hA; subst h_c; subst h_fl; subst h_fc); (try simp only [std, stdBin, stdCmp, stdUna, stdIn, ci, beq_iff_eq, bne_iff_ne, beq_eq_false_iff_ne, bne_eq_false_iff_eq, decide_eq_true_eq, decide_eq_false_iff_not, Bool.not_true, Bool.not_false, Bool.not_eq_true', Bool.not_eq_false', Bool.not_not, tn0, tn1, tn2, tn3] at *); first | omega | contradiction))
  all_goals try (refine loop_at Nat 34 (fun k => [(4, .any), (6, .any), (7, .any), (8, .any), (34, .v (.int .i64 (c k)))]) (fun _ o => o) (fun k => ci k ≤ ci l.ls.length) (fun k => l.ls.length - k) 0 ?h0 ?hle ?round)
  case h0 => simp [ci]
  case hle => (cbv; (repeat' (first | apply And.intro | apply BrB.mk | apply BrP.mk | intro _)); all_goals (subst hA; subst h_c; subst h_fl; subst h_fc); all_goals (have f_sb := SB.out; have f_sl := SL.out); all_goals (try simp only [std, stdBin, stdCmp, stdUna, stdIn, ci, beq_iff_eq, bne_iff_ne, beq_eq_false_iff_ne, bne_eq_false_iff_eq, decide_eq_true_eq, decide_eq_false_iff_not, Bool.not_true, Bool.not_false, Bool.not_eq_true', Bool.not_eq_false', Bool.not_not, tn0, tn1, tn2, tn3] at *); (all_goals first | exact True.intro | rfl | exact congrArg (Value.int .i64) (by omega)))
  case round =>
    intro k hk
    cbv
    (repeat' (first | apply And.intro | apply BrB.mk | apply BrP.mk | intro _))
    (all_goals try (exfalso; (subst hA; subst h_c; subst h_fl; subst h_fc); (try simp only [std, stdBin, stdCmp, stdUna, stdIn, ci, beq_iff_eq, bne_iff_ne, beq_eq_false_iff_ne, bne_eq_false_iff_eq, decide_eq_true_eq, decide_eq_false_iff_not, Bool.not_true, Bool.not_false, Bool.not_eq_true', Bool.not_eq_false', Bool.not_not, tn0, tn1, tn2, tn3] at *); first | omega | contradiction))
    all_goals try (refine ⟨k + 1, ?_, ?_, ?_⟩)
    all_goals try (show AS.le _ _; (cbv; (repeat' (first | apply And.intro | apply BrB.mk | apply BrP.mk | intro _)); all_goals (subst hA; subst h_c; subst h_fl; subst h_fc); all_goals (have f_sb := SB.out; have f_sl := SL.out); all_goals (try simp only [std, stdBin, stdCmp, stdUna, stdIn, ci, beq_iff_eq, bne_iff_ne, beq_eq_false_iff_ne, bne_eq_false_iff_eq, decide_eq_true_eq, decide_eq_false_iff_not, Bool.not_true, Bool.not_false, Bool.not_eq_true', Bool.not_eq_false', Bool.not_not, tn0, tn1, tn2, tn3] at *); (all_goals first | exact True.intro | rfl | exact congrArg (Value.int .i64) (by omega))))
    (all_goals (subst hA; subst h_c; subst h_fl; subst h_fc); all_goals (have f_sb := SB.out; have f_sl := SL.out); all_goals (try simp only [std, stdBin, stdCmp, stdUna, stdIn, ci, beq_iff_eq, bne_iff_ne, beq_eq_false_iff_ne, bne_eq_false_iff_eq, decide_eq_true_eq, decide_eq_false_iff_not, Bool.not_true, Bool.not_false, Bool.not_eq_true', Bool.not_eq_false', Bool.not_not, tn0, tn1, tn2, tn3] at *); all_goals (try omega))
  (all_goals (subst hA; subst h_c; subst h_fl; subst h_fc); all_goals (have f_sb := SB.out; have f_sl := SL.out); all_goals (try simp only [std, stdBin, stdCmp, stdUna, stdIn, ci, beq_iff_eq, bne_iff_ne, beq_eq_false_iff_ne, bne_eq_false_iff_eq, decide_eq_true_eq, decide_eq_false_iff_not, Bool.not_true, Bool.not_false, Bool.not_eq_true', Bool.not_eq_false', Bool.not_not, tn0, tn1, tn2, tn3, lenP, sameL] at *); all_goals (try omega))
end Go.Proofs.Ythklcldmoakbfaa
