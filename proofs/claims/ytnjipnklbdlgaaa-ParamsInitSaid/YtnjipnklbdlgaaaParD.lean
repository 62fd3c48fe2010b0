/- Layer 17: as many biases as the first length; as many weights as go in, or a window has, for each. -/
import Derived.Test.YtnjipnklbdlgaaaParA
import Derived.Test.YtnjipnklbdlgaaaChkI
namespace Go.Proofs.Ytnjipnklbdlgaaa
open Go.RowKit
set_option maxRecDepth 1000000
set_option linter.unusedSimpArgs false
set_option linter.unusedVariables false
set_option maxHeartbeats 16000000
set_option cbv.maxSteps 10000000
theorem dm_facts {k o w t : Int} : (k = 1 → (dmV k o w t).length = 2 ∧ (dmV k o w t).getD 0 0 = o) ∧ (k = 2 → (dmV k o w t).length = 4 ∧ (dmV k o w t).getD 0 0 = o ∧ (dmV k o w t).getD 2 0 = w ∧ (dmV k o w t).getD 3 0 = w) ∧ (k ≠ 1 → k ≠ 2 → (dmV k o w t).length = 0) := by
  unfold dmV
  refine ⟨fun h => by simp [h], fun h => by simp [h], fun h1 h2 => by simp [h1, h2]⟩
theorem sizes17_ok : CtrOk Try.prog 10 (yes6 [mdlTy, .int .i64] (fun _ => True)) := by
  obtain ⟨G, hG⟩ : ∃ G : List (FuncId × Ctr), G = [(27, rowI0 [mdlTy, .int .i64] 3 pdVF pdNF), (28, boolC [.sl (.int .i64)] shMayF), (22, yes6 [] (fun _ => True))] := ⟨_, rfl⟩
  refine fn_ok (ck := true) Try.func10 rfl tt_ok (G := G) (by rw [hG]; exact ⟨⟨pD_ok, by unfold FnOk; kernel_rfl⟩, ⟨rmay_ok, by unfold FnOk; kernel_rfl⟩, ⟨awake17_ok, by unfold FnOk; kernel_rfl⟩, trivial⟩) mixed (by kernel_rfl) ?_
  intro xa xs h hx hp
  obtain ⟨a0, as0, x0, xs0, rfl, rfl, h0, H1⟩ := svArgs_cons h
  obtain ⟨a1, as1, x1, xs1, rfl, rfl, h1, H2⟩ := svArgs_cons H1
  obtain ⟨rfl, rfl⟩ := svArgs_nil H2
  obtain ⟨mc, mh, mw, mx, rfl, rfl⟩ := argSV_mdl h0
  obtain ⟨y, rfl, rfl⟩ := argSV_int h1
  have sm : (-9223372036854775808 ≤ mc ∧ mc ≤ 9223372036854775807) ∧ (-9223372036854775808 ≤ mh ∧ mh ≤ 9223372036854775807) ∧ (-9223372036854775808 ≤ mw ∧ mw ≤ 9223372036854775807) ∧ ((ci mx.ls.length ≤ 9223372036854775807) ∧ Wt (.sl layTy) mx) := svf_mdl (hx (.agg [.v (.int .i64 mc), .v (.int .i64 mh), .v (.int .i64 mw), .imm layTy mx]) (List.mem_of_getElem? (i := 0) rfl))
  have sy := of_i64 (hx (.v (.int .i64 y)) (by simp))
  have SM := Lib.hid sm
  clear sm
  have SY := Lib.hid sy
  clear sy
  clear hx hp h h0 H1 h1 H2
  generalize hA : std = A
  subst hG
  generalize h_c : ci = c
  generalize h_fV : pdVF = fV
  generalize h_fN : pdNF = fN
  generalize h_fm : shMayF = fm
  cbv
  (repeat' (first | apply And.intro | apply BrB.mk | apply BrP.mk | intro _))
  (all_goals (subst hA; subst h_c; subst h_fV; subst h_fN; subst h_fm); all_goals (have f_sm := SM.out; have f_sy := SY.out); all_goals (try simp only [std, stdBin, stdCmp, stdUna, stdIn, ci, beq_iff_eq, bne_iff_ne, beq_eq_false_iff_ne, bne_eq_false_iff_eq, decide_eq_true_eq, decide_eq_false_iff_not, Bool.not_true, Bool.not_false, Bool.not_eq_true', Bool.not_eq_false', Bool.not_not, tn0, tn1, tn2, tn3, pdVF, pdNF, shMayF, Int.toNat_natCast] at *); all_goals (try omega))
  all_goals (cases hp : pdOk mc mh mw mx y with
    | false =>
      have e1 : pdV mc mh mw mx y = [] := if_neg (by rw [hp]; simp)
      have e2 : pdN mc mh mw mx y = 0 := if_neg (by rw [hp]; simp)
      simp only [e1, e2, List.length_nil] at *
      first | exact True.intro | rfl | omega | contradiction | (exfalso; simp at *; done) | trace_state
    | true =>
      have e1 : pdV mc mh mw mx y = dmI mx mc mh mw (y - 1).toNat := if_pos hp
      have e2 : pdN mc mh mw mx y = layI mx (y - 1).toNat 1 := if_pos hp
      unfold pdOk at hp
      simp only [Bool.and_eq_true, decide_eq_true_eq] at hp
      obtain ⟨⟨hz, hy⟩, hmd⟩ := hp
      have hdm : dmI mx mc mh mw (y - 1).toNat = dmV (layI mx (y - 1).toNat 0) (layI mx (y - 1).toNat 1) (layI mx (y - 1).toNat 2) ((shT mc mh mw mx (y - 1).toNat).getD 0 0) := rfl
      have ml := mayD_len hmd
      simp only [e1, e2] at *
      first
        | exact True.intro
        | omega
        | (exfalso; have hf : mayD (dmI mx mc mh mw (y - 1).toNat) = false := (by assumption); rw [hmd] at hf; cases hf)
        | (obtain ⟨f1, f2, f3⟩ := dm_facts (k := layI mx (y - 1).toNat 0) (o := layI mx (y - 1).toNat 1) (w := layI mx (y - 1).toNat 2) (t := (shT mc mh mw mx (y - 1).toNat).getD 0 0)
           rw [← hdm] at f1 f2 f3
           unfold layI at *
           first | omega | (exfalso; omega) | (refine congrArg _ ?_; omega))
        | trace_state)
end Go.Proofs.Ytnjipnklbdlgaaa
/- Layer 17: weights that are the same, that may be; what can be gone through. -/
namespace Go.Proofs.Ytnjipnklbdlgaaa
open Go.RowKit
set_option maxRecDepth 1000000
set_option linter.unusedSimpArgs false
set_option linter.unusedVariables false
set_option maxHeartbeats 16000000
set_option cbv.maxSteps 10000000
theorem getD_ext {a b : List Int} (hl : a.length = b.length) (h : ∀ j, j < a.length → a.getD j 0 = b.getD j 0) : a = b := by
  apply List.ext_getElem hl
  intro i h1 h2
  have := h i h1
  rwa [List.getD_eq_getElem?_getD, List.getD_eq_getElem?_getD, List.getElem?_eq_getElem h1, List.getElem?_eq_getElem h2] at this
theorem ne_at {a b : List Int} {j : Nat} (h : a.getD j 0 ≠ b.getD j 0) : (a == b) = false := by
  rw [beq_eq_false_iff_ne]
  rintro rfl
  exact h rfl
theorem ne_len {a b : List Int} (h : ¬ a.length = b.length) : (a == b) = false := by
  rw [beq_eq_false_iff_ne]
  rintro rfl
  exact h rfl
theorem eq32_ok : CtrOk Try.prog 71 (boolC [.sl (.int .i32), .sl (.int .i32)] eqF) := by
  obtain ⟨G, hG⟩ : ∃ G : List (FuncId × Ctr), G = [] := ⟨_, rfl⟩
  refine fn_ok (ck := true) Try.func71 rfl tt_ok (G := G) (by rw [hG]; exact trivial) mixed (by kernel_rfl) ?_
  intro xa xs h hx hp
  obtain ⟨a0, as0, x0, xs0, rfl, rfl, h0, H1⟩ := svArgs_cons h
  obtain ⟨a1, as1, x1, xs1, rfl, rfl, h1, H2⟩ := svArgs_cons H1
  obtain ⟨rfl, rfl⟩ := svArgs_nil H2
  obtain ⟨a, rfl, rfl⟩ := argSV_ints h0
  obtain ⟨b, rfl, rfl⟩ := argSV_ints h1
  have sa : Fits .i32 a ∧ ci a.length ≤ 9223372036854775807 := svf_ints (hx (.iimm .i32 a) (by simp))
  have sb : Fits .i32 b ∧ ci b.length ≤ 9223372036854775807 := svf_ints (hx (.iimm .i32 b) (by simp))
  have SA := Lib.hid sa
  clear sa
  have SB := Lib.hid sb
  clear sb
  clear hx hp h h0 H1 h1 H2
  generalize hA : std = A
  subst hG
  generalize h_c : ci = c
  generalize h_fR : eqF = fR
  cbv
  (repeat' (first | apply And.intro | apply BrB.mk | apply BrP.mk | intro _))
  all_goals try ((refine loop_at Nat 13 (fun x => [(4, .any), (5, .any), (13, .v (.int .i64 (c x)))]) (fun _ o => o) (fun x => x ≤ a.length ∧ ∀ j, j < x → a.getD j 0 = b.getD j 0) (fun x => a.length - x) 0 ⟨Nat.zero_le _, fun j hj => absurd hj (Nat.not_lt_zero _)⟩ ?_ ?_)
                 focus
                   show AS.le _ _
                   (cbv; (repeat' (first | apply And.intro | apply BrB.mk | apply BrP.mk | intro _)); all_goals (subst hA; subst h_c; subst h_fR); all_goals (have f_sa := SA.out; have f_sb := SB.out); all_goals (try simp only [std, stdBin, stdCmp, stdUna, stdIn, ci, beq_iff_eq, bne_iff_ne, beq_eq_false_iff_ne, bne_eq_false_iff_eq, decide_eq_true_eq, decide_eq_false_iff_not, Bool.not_true, Bool.not_false, Bool.not_eq_true', Bool.not_eq_false', Bool.not_not, tn0, tn1, tn2, tn3] at *); (all_goals first | exact True.intro | rfl | exact congrArg (Value.int .i64) (by omega)))
                   done)
  all_goals try (intro x hx; cbv; (repeat' (first | apply And.intro | apply BrB.mk | apply BrP.mk | intro _)))
  all_goals try (refine ⟨x + 1, ?_, ?_, ?_⟩)
  all_goals try (show AS.le _ _; cbv; (repeat' (first | apply And.intro | apply BrB.mk | apply BrP.mk | intro _)))
  (all_goals (subst hA; subst h_c; subst h_fR); all_goals (have f_sa := SA.out; have f_sb := SB.out); all_goals (try simp only [std, stdBin, stdCmp, stdUna, stdIn, ci, beq_iff_eq, bne_iff_ne, beq_eq_false_iff_ne, bne_eq_false_iff_eq, decide_eq_true_eq, decide_eq_false_iff_not, Bool.not_true, Bool.not_false, Bool.not_eq_true', Bool.not_eq_false', Bool.not_not, tn0, tn1, tn2, tn3, eqF, Int.toNat_natCast] at *); all_goals (try omega))
  all_goals first | exact True.intro | omega | exact congrArg (Value.int .i64) (Int.natCast_succ _).symm | (refine ⟨by omega, fun j hj => ?_⟩; by_cases e : j = x; (subst e; assumption); exact hx.2 j (by omega)) | (refine vb ?_; show (a == b) = false; exact ne_at (by assumption)) | (refine vb ?_; show (a == b) = false; exact ne_len (by omega)) | (refine vb ?_; show (a == b) = true; rw [beq_iff_eq]; exact getD_ext (by omega) (fun j hj => hx.2 j (by omega))) | trace_state
theorem eq8_ok : CtrOk Try.prog 79 (boolC [.sl (.int .i8), .sl (.int .i8)] eqF) := by
  obtain ⟨G, hG⟩ : ∃ G : List (FuncId × Ctr), G = [] := ⟨_, rfl⟩
  refine fn_ok (ck := true) Try.func79 rfl tt_ok (G := G) (by rw [hG]; exact trivial) mixed (by kernel_rfl) ?_
  intro xa xs h hx hp
  obtain ⟨a0, as0, x0, xs0, rfl, rfl, h0, H1⟩ := svArgs_cons h
  obtain ⟨a1, as1, x1, xs1, rfl, rfl, h1, H2⟩ := svArgs_cons H1
  obtain ⟨rfl, rfl⟩ := svArgs_nil H2
  obtain ⟨a, rfl, rfl⟩ := argSV_ints h0
  obtain ⟨b, rfl, rfl⟩ := argSV_ints h1
  have sa : Fits .i8 a ∧ ci a.length ≤ 9223372036854775807 := svf_ints (hx (.iimm .i8 a) (by simp))
  have sb : Fits .i8 b ∧ ci b.length ≤ 9223372036854775807 := svf_ints (hx (.iimm .i8 b) (by simp))
  have SA := Lib.hid sa
  clear sa
  have SB := Lib.hid sb
  clear sb
  clear hx hp h h0 H1 h1 H2
  generalize hA : std = A
  subst hG
  generalize h_c : ci = c
  generalize h_fR : eqF = fR
  cbv
  (repeat' (first | apply And.intro | apply BrB.mk | apply BrP.mk | intro _))
  all_goals try ((refine loop_at Nat 13 (fun x => [(4, .any), (5, .any), (13, .v (.int .i64 (c x)))]) (fun _ o => o) (fun x => x ≤ a.length ∧ ∀ j, j < x → a.getD j 0 = b.getD j 0) (fun x => a.length - x) 0 ⟨Nat.zero_le _, fun j hj => absurd hj (Nat.not_lt_zero _)⟩ ?_ ?_)
                 focus
                   show AS.le _ _
                   (cbv; (repeat' (first | apply And.intro | apply BrB.mk | apply BrP.mk | intro _)); all_goals (subst hA; subst h_c; subst h_fR); all_goals (have f_sa := SA.out; have f_sb := SB.out); all_goals (try simp only [std, stdBin, stdCmp, stdUna, stdIn, ci, beq_iff_eq, bne_iff_ne, beq_eq_false_iff_ne, bne_eq_false_iff_eq, decide_eq_true_eq, decide_eq_false_iff_not, Bool.not_true, Bool.not_false, Bool.not_eq_true', Bool.not_eq_false', Bool.not_not, tn0, tn1, tn2, tn3] at *); (all_goals first | exact True.intro | rfl | exact congrArg (Value.int .i64) (by omega)))
                   done)
  all_goals try (intro x hx; cbv; (repeat' (first | apply And.intro | apply BrB.mk | apply BrP.mk | intro _)))
  all_goals try (refine ⟨x + 1, ?_, ?_, ?_⟩)
  all_goals try (show AS.le _ _; cbv; (repeat' (first | apply And.intro | apply BrB.mk | apply BrP.mk | intro _)))
  (all_goals (subst hA; subst h_c; subst h_fR); all_goals (have f_sa := SA.out; have f_sb := SB.out); all_goals (try simp only [std, stdBin, stdCmp, stdUna, stdIn, ci, beq_iff_eq, bne_iff_ne, beq_eq_false_iff_ne, bne_eq_false_iff_eq, decide_eq_true_eq, decide_eq_false_iff_not, Bool.not_true, Bool.not_false, Bool.not_eq_true', Bool.not_eq_false', Bool.not_not, tn0, tn1, tn2, tn3, eqF, Int.toNat_natCast] at *); all_goals (try omega))
  all_goals first | exact True.intro | omega | exact congrArg (Value.int .i64) (Int.natCast_succ _).symm | (refine ⟨by omega, fun j hj => ?_⟩; by_cases e : j = x; (subst e; assumption); exact hx.2 j (by omega)) | (refine vb ?_; show (a == b) = false; exact ne_at (by assumption)) | (refine vb ?_; show (a == b) = false; exact ne_len (by omega)) | (refine vb ?_; show (a == b) = true; rw [beq_iff_eq]; exact getD_ext (by omega) (fun j hj => hx.2 j (by omega))) | trace_state
theorem tsame_ok : CtrOk Try.prog 70 (boolC [tnTy .i8, tnTy .i8] sameTnF) := by
  obtain ⟨G, hG⟩ : ∃ G : List (FuncId × Ctr), G = [(62, boolC [.sl (.int .i64), .sl (.int .i64)] eqF), (79, boolC [.sl (.int .i8), .sl (.int .i8)] eqF)] := ⟨_, rfl⟩
  refine fn_ok (ck := true) Try.func70 rfl tt_ok (G := G) (by rw [hG]; exact ⟨⟨same_ok, by unfold FnOk; kernel_rfl⟩, ⟨eq8_ok, by unfold FnOk; kernel_rfl⟩, trivial⟩) mixed (by kernel_rfl) ?_
  intro xa xs h hx hp
  obtain ⟨a0, as0, x0, xs0, rfl, rfl, h0, H1⟩ := svArgs_cons h
  obtain ⟨a1, as1, x1, xs1, rfl, rfl, h1, H2⟩ := svArgs_cons H1
  obtain ⟨rfl, rfl⟩ := svArgs_nil H2
  obtain ⟨⟨aD, aE, aL⟩, rfl, rfl⟩ := argSV_tn h0
  obtain ⟨⟨bD, bE, bL⟩, rfl, rfl⟩ := argSV_tn h1
  have sa : (Fits .i64 aD ∧ ci aD.length ≤ 9223372036854775807) ∧ (-9223372036854775808 ≤ aE ∧ aE ≤ 9223372036854775807) ∧ Fits .i8 aL ∧ ci aL.length ≤ 9223372036854775807 := svf_tn (hx (Tn.sv .i8 ⟨aD, aE, aL⟩) (by simp))
  have sb : (Fits .i64 bD ∧ ci bD.length ≤ 9223372036854775807) ∧ (-9223372036854775808 ≤ bE ∧ bE ≤ 9223372036854775807) ∧ Fits .i8 bL ∧ ci bL.length ≤ 9223372036854775807 := svf_tn (hx (Tn.sv .i8 ⟨bD, bE, bL⟩) (by simp))
  have SA := Lib.hid sa
  clear sa
  have SB := Lib.hid sb
  clear sb
  clear hx hp h h0 H1 h1 H2
  generalize hA : std = A
  subst hG
  generalize h_c : ci = c
  generalize h_fe : eqF = fe
  generalize h_fR : sameTnF = fR
  cbv
  (repeat' (first | apply And.intro | apply BrB.mk | apply BrP.mk | intro _))
  (all_goals (subst hA; subst h_c; subst h_fe; subst h_fR); all_goals (have f_sa := SA.out; have f_sb := SB.out); all_goals (try simp only [std, stdBin, stdCmp, stdUna, stdIn, ci, beq_iff_eq, bne_iff_ne, beq_eq_false_iff_ne, bne_eq_false_iff_eq, decide_eq_true_eq, decide_eq_false_iff_not, Bool.not_true, Bool.not_false, Bool.not_eq_true', Bool.not_eq_false', Bool.not_not, tn0, tn1, tn2, tn3, eqF, sameTnF, sameTn] at *); all_goals (try omega))
  all_goals (refine vb ?_)
  all_goals first | (simp_all; done) | trace_state
def sameW (D : List Int) (E : Int) (L M F : List Int) (G : Int) (H D' : List Int) (E' : Int) (L' M' F' : List Int) (G' : Int) (H' : List Int) : Bool := sameTn ⟨D, E, L⟩ ⟨D', E', L'⟩ && (M == M') && sameTn ⟨F, G, H⟩ ⟨F', G', H'⟩
def swF (xa : List AV) : Bool := match xa with
  | [.st [.st [.l D, .z E, .l L], .l M, .st [.l F, .z G, .l H]], .st [.st [.l D', .z E', .l L'], .l M', .st [.l F', .z G', .l H']]] => sameW D E L M F G H D' E' L' M' F' G' H'
  | _ => false
theorem psame_ok : CtrOk Try.prog 54 (boolC [prmTy, prmTy] swF) := by
  obtain ⟨G, hG⟩ : ∃ G : List (FuncId × Ctr), G = [(70, boolC [tnTy .i8, tnTy .i8] sameTnF), (71, boolC [.sl (.int .i32), .sl (.int .i32)] eqF)] := ⟨_, rfl⟩
  refine fn_ok (ck := true) Try.func54 rfl tt_ok (G := G) (by rw [hG]; exact ⟨⟨tsame_ok, by unfold FnOk; kernel_rfl⟩, ⟨eq32_ok, by unfold FnOk; kernel_rfl⟩, trivial⟩) mixed (by kernel_rfl) ?_
  intro xa xs h hx hp
  obtain ⟨a0, as0, x0, xs0, rfl, rfl, h0, H1⟩ := svArgs_cons h
  obtain ⟨a1, as1, x1, xs1, rfl, rfl, h1, H2⟩ := svArgs_cons H1
  obtain ⟨rfl, rfl⟩ := svArgs_nil H2
  obtain ⟨aD, aE, aL, aM, aF, aG, aH, rfl, rfl⟩ := argSV_prm h0
  obtain ⟨bD, bE, bL, bM, bF, bG, bH, rfl, rfl⟩ := argSV_prm h1
  have sa : (Fits .i64 aD ∧ ci aD.length ≤ 9223372036854775807) ∧ (-9223372036854775808 ≤ aE ∧ aE ≤ 9223372036854775807) ∧ (Fits .i8 aL ∧ ci aL.length ≤ 9223372036854775807) ∧ (Fits .i32 aM ∧ ci aM.length ≤ 9223372036854775807) ∧ (Fits .i64 aF ∧ ci aF.length ≤ 9223372036854775807) ∧ (-9223372036854775808 ≤ aG ∧ aG ≤ 9223372036854775807) ∧ (Fits .i8 aH ∧ ci aH.length ≤ 9223372036854775807) := svf_prm (hx (.agg [.iimm .i64 aD, .v (.int .i64 aE), .iimm .i8 aL, .iimm .i32 aM, .iimm .i64 aF, .v (.int .i64 aG), .iimm .i8 aH]) (List.mem_of_getElem? (i := 0) rfl))
  have sb : (Fits .i64 bD ∧ ci bD.length ≤ 9223372036854775807) ∧ (-9223372036854775808 ≤ bE ∧ bE ≤ 9223372036854775807) ∧ (Fits .i8 bL ∧ ci bL.length ≤ 9223372036854775807) ∧ (Fits .i32 bM ∧ ci bM.length ≤ 9223372036854775807) ∧ (Fits .i64 bF ∧ ci bF.length ≤ 9223372036854775807) ∧ (-9223372036854775808 ≤ bG ∧ bG ≤ 9223372036854775807) ∧ (Fits .i8 bH ∧ ci bH.length ≤ 9223372036854775807) := svf_prm (hx (.agg [.iimm .i64 bD, .v (.int .i64 bE), .iimm .i8 bL, .iimm .i32 bM, .iimm .i64 bF, .v (.int .i64 bG), .iimm .i8 bH]) (List.mem_of_getElem? (i := 1) rfl))
  have SA := Lib.hid sa
  clear sa
  have SB := Lib.hid sb
  clear sb
  clear hx hp h h0 H1 h1 H2
  generalize hA : std = A
  subst hG
  generalize h_c : ci = c
  generalize h_fe : eqF = fe
  generalize h_fs : sameTnF = fs
  generalize h_fR : swF = fR
  cbv
  (repeat' (first | apply And.intro | apply BrB.mk | apply BrP.mk | intro _))
  (all_goals (subst hA; subst h_c; subst h_fe; subst h_fs; subst h_fR); all_goals (have f_sa := SA.out; have f_sb := SB.out); all_goals (try simp only [std, stdBin, stdCmp, stdUna, stdIn, ci, beq_iff_eq, bne_iff_ne, beq_eq_false_iff_ne, bne_eq_false_iff_eq, decide_eq_true_eq, decide_eq_false_iff_not, Bool.not_true, Bool.not_false, Bool.not_eq_true', Bool.not_eq_false', Bool.not_not, tn0, tn1, tn2, tn3, eqF, sameTnF, swF] at *); all_goals (try omega))
  all_goals (refine vb ?_; unfold sameW)
  all_goals first | (simp_all; done) | trace_state
def sameWD (x y : Dat) : Bool := sameW (((x.fld 0).fld 0).ints) (((x.fld 0).fld 1).z) (((x.fld 0).fld 2).ints) ((x.fld 1).ints) (((x.fld 2).fld 0).ints) (((x.fld 2).fld 1).z) (((x.fld 2).fld 2).ints) (((y.fld 0).fld 0).ints) (((y.fld 0).fld 1).z) (((y.fld 0).fld 2).ints) ((y.fld 1).ints) (((y.fld 2).fld 0).ints) (((y.fld 2).fld 1).z) (((y.fld 2).fld 2).ints)
def swsF (xa : List AV) : Bool := match xa with
  | [.d a, .d b] => decide (a.ls.length = b.ls.length) && allTo (fun i => sameWD (a.at i) (b.at i)) a.ls.length
  | _ => false
theorem pSame_ok : CtrOk Try.prog 25 (boolC [.sl prmTy, .sl prmTy] swsF) := by
  obtain ⟨G, hG⟩ : ∃ G : List (FuncId × Ctr), G = [(54, boolC [prmTy, prmTy] swF)] := ⟨_, rfl⟩
  refine fn_inl (ck := true) [(53, Try.f53)] ⟨⟨Try.func53, by unfold FnOk; kernel_rfl, by kernel_rfl⟩, trivial⟩ Try.func25 rfl tt_ok (G := G) (by rw [hG]; exact ⟨⟨psame_ok, by unfold FnOk; kernel_rfl⟩, trivial⟩) mixed (by kernel_rfl) ?_
  intro xa xs h hx hp
  obtain ⟨a0, as0, x0, xs0, rfl, rfl, h0, H1⟩ := svArgs_cons h
  obtain ⟨a1, as1, x1, xs1, rfl, rfl, h1, H2⟩ := svArgs_cons H1
  obtain ⟨rfl, rfl⟩ := svArgs_nil H2
  obtain ⟨a, rfl, rfl⟩ := argSV_rows h0
  obtain ⟨b, rfl, rfl⟩ := argSV_rows h1
  have sa : ci a.ls.length ≤ 9223372036854775807 ∧ Wt (.sl prmTy) a := ⟨wtl_len (hx (.imm prmTy a) (List.mem_of_getElem? (i := 0) rfl)), hx (.imm prmTy a) (List.mem_of_getElem? (i := 0) rfl)⟩
  have sb : ci b.ls.length ≤ 9223372036854775807 ∧ Wt (.sl prmTy) b := ⟨wtl_len (hx (.imm prmTy b) (List.mem_of_getElem? (i := 1) rfl)), hx (.imm prmTy b) (List.mem_of_getElem? (i := 1) rfl)⟩
  have SA := Lib.hid sa
  clear sa
  have SB := Lib.hid sb
  clear sb
  clear hx hp h h0 H1 h1 H2
  generalize hA : std = A
  subst hG
  generalize h_c : ci = c
  generalize h_fs : swF = fs
  generalize h_fR : swsF = fR
  cbv
  (repeat' (first | apply And.intro | apply BrB.mk | apply BrP.mk | intro _))
  all_goals try (refine loop_at Nat 17 (fun x => [(6, .any), (7, .any), (8, .any), (9, .any), (17, .v (.int .i64 (c x)))]) (fun _ o => o) (fun x => x ≤ a.ls.length ∧ allTo (fun i => sameWD (a.at i) (b.at i)) x = true) (fun x => a.ls.length - x) 0 ⟨Nat.zero_le _, rfl⟩ ?_ ?_
                 focus
                   show AS.le _ _
                   (cbv; (repeat' (first | apply And.intro | apply BrB.mk | apply BrP.mk | intro _)); all_goals (subst hA; subst h_c; subst h_fs; subst h_fR); all_goals (have f_sa := SA.out; have f_sb := SB.out); all_goals (try simp only [std, stdBin, stdCmp, stdUna, stdIn, ci, beq_iff_eq, bne_iff_ne, beq_eq_false_iff_ne, bne_eq_false_iff_eq, decide_eq_true_eq, decide_eq_false_iff_not, Bool.not_true, Bool.not_false, Bool.not_eq_true', Bool.not_eq_false', Bool.not_not, tn0, tn1, tn2, tn3] at *); (all_goals first | exact True.intro | rfl | exact congrArg (Value.int .i64) (by omega)))
                   done)
  all_goals try (intro x hx; cbv; refine BrB.mk (fun gx => ?_) (fun gx => ?_))
  all_goals (repeat' (first | apply And.intro | apply BrB.mk | apply BrP.mk | intro _))
  all_goals try (refine ⟨x + 1, ?_, ?_, ?_⟩)
  all_goals try (show AS.le _ _; cbv; (repeat' (first | apply And.intro | apply BrB.mk | apply BrP.mk | intro _)))
  (all_goals (subst hA; subst h_c; subst h_fs; subst h_fR); all_goals (have f_sa := SA.out; have f_sb := SB.out); all_goals (try simp only [std, stdBin, stdCmp, stdUna, stdIn, ci, beq_iff_eq, bne_iff_ne, beq_eq_false_iff_ne, bne_eq_false_iff_eq, decide_eq_true_eq, decide_eq_false_iff_not, Bool.not_true, Bool.not_false, Bool.not_eq_true', Bool.not_eq_false', Bool.not_not, tn0, tn1, tn2, tn3, swF, swsF, Int.toNat_natCast] at *); all_goals (try omega))
  all_goals first
    | exact True.intro
    | exact congrArg (Value.int .i64) (Int.natCast_succ _).symm
    | omega
    | (have hs : sameWD (a.at x) (b.at x) = false := (by assumption)
       refine vb ?_
       rw [allTo_false (x := x) (by omega) hs, Bool.and_false]
       done)
    | (refine ⟨by omega, ?_⟩
       have hs : sameWD (a.at x) (b.at x) = true := (by assumption)
       simp only [allTo, hx.2, hs, Bool.and_self])
    | (refine vb ?_
       have e : x = a.ls.length := (by omega)
       rw [← e, hx.2, decide_eq_true (show x = b.ls.length by omega)]; rfl)
    | (refine vb ?_; rw [decide_eq_false (show ¬ a.ls.length = b.ls.length by omega)]; rfl)
    | trace_state
theorem rpD_ok : CtrOk Try.prog 47 (rowI0 [mdlTy, .int .i64] 3 pdVF pdNF) := by
  obtain ⟨G, hG⟩ : ∃ G : List (FuncId × Ctr), G = [(41, rowIC [layTy, .sl (.int .i64)] 3 dmP dmVF dmNF), (28, boolC [.sl (.int .i64)] shMayF)] := ⟨_, rfl⟩
  refine fn_inl2 (ck := true) rfl [(13, shpC shpE shpN shpD)] ⟨⟨by unfold FnOk; kernel_rfl, rshapes_ok⟩, trivial⟩ [] trivial Try.func47 rfl tt_ok (G := G) (by rw [hG]; exact ⟨⟨rdims_ok, by unfold FnOk; kernel_rfl⟩, ⟨rmay_ok, by unfold FnOk; kernel_rfl⟩, trivial⟩) mixed (by kernel_rfl) ?_
  intro xa xs h hx hp
  obtain ⟨a0, as0, x0, xs0, rfl, rfl, h0, H1⟩ := svArgs_cons h
  obtain ⟨a1, as1, x1, xs1, rfl, rfl, h1, H2⟩ := svArgs_cons H1
  obtain ⟨rfl, rfl⟩ := svArgs_nil H2
  obtain ⟨mc, mh, mw, mx, rfl, rfl⟩ := argSV_mdl h0
  obtain ⟨y, rfl, rfl⟩ := argSV_int h1
  have sm : (-9223372036854775808 ≤ mc ∧ mc ≤ 9223372036854775807) ∧ (-9223372036854775808 ≤ mh ∧ mh ≤ 9223372036854775807) ∧ (-9223372036854775808 ≤ mw ∧ mw ≤ 9223372036854775807) ∧ ((ci mx.ls.length ≤ 9223372036854775807) ∧ Wt (.sl layTy) mx) := svf_mdl (hx (.agg [.v (.int .i64 mc), .v (.int .i64 mh), .v (.int .i64 mw), .imm layTy mx]) (List.mem_of_getElem? (i := 0) rfl))
  have sy := of_i64 (hx (.v (.int .i64 y)) (by simp))
  have SM := Lib.hid sm
  clear sm
  have SY := Lib.hid sy
  clear sy
  clear hx hp h h0 H1 h1 H2
  generalize hA : std = A
  subst hG
  generalize h_c : ci = c
  generalize h_fe : shpE = fe
  generalize h_fN : shpN = fN
  generalize h_fD : shpD = fD
  generalize h_fp : dmP = fp
  generalize h_fv : dmVF = fv
  generalize h_fn : dmNF = fn
  generalize h_fm : shMayF = fm
  generalize h_fV : pdVF = fV
  generalize h_fW : pdNF = fW
  cbv
  (repeat' (first | apply And.intro | apply BrB.mk | apply BrP.mk | intro _))
  (all_goals (subst hA; subst h_c; subst h_fe; subst h_fN; subst h_fD; subst h_fp; subst h_fv; subst h_fn; subst h_fm; subst h_fV; subst h_fW); all_goals (have f_sm := SM.out; have f_sy := SY.out); all_goals (try simp only [std, stdBin, stdCmp, stdUna, stdIn, ci, beq_iff_eq, bne_iff_ne, beq_eq_false_iff_ne, bne_eq_false_iff_eq, decide_eq_true_eq, decide_eq_false_iff_not, Bool.not_true, Bool.not_false, Bool.not_eq_true', Bool.not_eq_false', Bool.not_not, tn0, tn1, tn2, tn3, shpE, shpN, shpD, rowsD_at', rowsD_len, shp_len, dmP, dmVF, dmNF, shMayF, pdVF, pdNF, Int.toNat_natCast] at *); all_goals (try omega))
  all_goals first
    | exact True.intro
    | (have hz : ¬ (shpR mc mh mw mx).2 = 0 := (by assumption)
       have hp : pdOk mc mh mw mx y = false := (by unfold pdOk; rw [decide_eq_false (fun q => hz q.1)]; rfl)
       simp [pdV, pdN, hp]; done)
    | (have hz : (shpR mc mh mw mx).2 = 0 := (by assumption)
       obtain ⟨hm, hS⟩ := shpR_ok hz
       obtain ⟨m1, m2, m3, m4, m5⟩ := mdl_of hm
       first
         | omega
         | (have hp : pdOk mc mh mw mx y = false := (by unfold pdOk; rw [decide_eq_false (fun q => by omega)]; rfl)
            simp [pdV, pdN, hp]; done)
         | (have hy : 1 ≤ y ∧ y ≤ mx.ls.length := ⟨by omega, by omega⟩
            have e3 : (shp mc mh mw mx mx.ls.length).getD (y - 1).toNat [] = shT mc mh mw mx (y - 1).toNat := shp_at (by omega)
            simp only [e3] at *
            have y1 := mayD_len (shT_may hm hS (y - 1).toNat (by omega))
            have hdm : dmI mx mc mh mw (y - 1).toNat = dmV (layI mx (y - 1).toNat 0) (layI mx (y - 1).toNat 1) (layI mx (y - 1).toNat 2) ((shT mc mh mw mx (y - 1).toNat).getD 0 0) := rfl
            unfold layI at hdm
            simp only [← hdm] at *
            first
              | omega
              | exact y1.1
              | (have hp : pdOk mc mh mw mx y = true := (by unfold pdOk; rw [Bool.and_eq_true, decide_eq_true_eq]; exact ⟨⟨hz, hy⟩, by assumption⟩)
                 have e1 : pdV mc mh mw mx y = dmI mx mc mh mw (y - 1).toNat := if_pos hp
                 have e2 : pdN mc mh mw mx y = ((mx.at (y - 1).toNat).fld 1).z := if_pos hp
                 first
                   | (rw [e1]; done)
                   | (rw [e2]
                      have hp2 := hp
                      unfold pdOk at hp2
                      rw [Bool.and_eq_true] at hp2
                      have ml := mayD_len hp2.2
                      obtain ⟨f1, f2, f3⟩ := dm_facts (k := ((mx.at (y - 1).toNat).fld 0).z) (o := ((mx.at (y - 1).toNat).fld 1).z) (w := ((mx.at (y - 1).toNat).fld 2).z) (t := (shT mc mh mw mx (y - 1).toNat).getD 0 0)
                      have hdm2 : dmI mx mc mh mw (y - 1).toNat = dmV ((mx.at (y - 1).toNat).fld 0).z ((mx.at (y - 1).toNat).fld 1).z ((mx.at (y - 1).toNat).fld 2).z ((shT mc mh mw mx (y - 1).toNat).getD 0 0) := rfl
                      rw [← hdm2] at f1 f2 f3
                      unfold dmN
                      rw [if_pos (by omega)]))
              | (have hp : pdOk mc mh mw mx y = false := (by unfold pdOk; rw [Bool.and_eq_false_iff]; exact .inr (by first | assumption | exact Bool.eq_false_iff.2 (by assumption)))
                 simp [pdV, pdN, hp]; done)
              | trace_state)
         | trace_state)
    | trace_state
/-- How much there is, up to a layer. -/
def fwN (c h w : Int) (x : Dat) : Nat → Int
  | 0 => 0
  | k + 1 => fwN c h w x k + szD (shT c h w x k) + (if 0 < k then szD (pdV c h w x k) else 0)
theorem fwN_in (c h w : Int) (x : Dat) : ∀ k, 0 ≤ fwN c h w x k ∧ fwN c h w x k ≤ 16384 * (k : Int)
  | 0 => by simp [fwN]
  | k + 1 => by
    have h1 := fwN_in c h w x k
    have h2 := szD_in (shT c h w x k)
    have h3 := szD_in (pdV c h w x k)
    unfold fwN
    split <;> omega
def fwF (xa : List AV) : Bool := match xa with
  | [.st [.st [.z c, .z h, .z w], .d x]] => if (shpR c h w x).2 = 0 then decide (fwN c h w x (x.ls.length + 1) ≤ 6000) else decide ((x.ls.length : Int) ≤ 40)
  | _ => false
theorem few17_ok : CtrOk Try.prog 21 (boolC [mdlTy] fwF) := by
  obtain ⟨G, hG⟩ : ∃ G : List (FuncId × Ctr), G = [(47, rowI0 [mdlTy, .int .i64] 3 pdVF pdNF), (42, intC [.sl (.int .i64)] .i64 szF)] := ⟨_, rfl⟩
  refine fn_inl2 (ck := true) rfl [(13, shpC shpE shpN shpD)] ⟨⟨by unfold FnOk; kernel_rfl, rshapes_ok⟩, trivial⟩ [] trivial Try.func21 rfl tt_ok (G := G) (by rw [hG]; exact ⟨⟨rpD_ok, by unfold FnOk; kernel_rfl⟩, ⟨rsize_ok, by unfold FnOk; kernel_rfl⟩, trivial⟩) mixed (by kernel_rfl) ?_
  intro xa xs h hx hp
  obtain ⟨a0, as0, x0, xs0, rfl, rfl, h0, H1⟩ := svArgs_cons h
  obtain ⟨rfl, rfl⟩ := svArgs_nil H1
  obtain ⟨mc, mh, mw, mx, rfl, rfl⟩ := argSV_mdl h0
  have sm : (-9223372036854775808 ≤ mc ∧ mc ≤ 9223372036854775807) ∧ (-9223372036854775808 ≤ mh ∧ mh ≤ 9223372036854775807) ∧ (-9223372036854775808 ≤ mw ∧ mw ≤ 9223372036854775807) ∧ ((ci mx.ls.length ≤ 9223372036854775807) ∧ Wt (.sl layTy) mx) := svf_mdl (hx (.agg [.v (.int .i64 mc), .v (.int .i64 mh), .v (.int .i64 mw), .imm layTy mx]) (List.mem_of_getElem? (i := 0) rfl))
  have SM := Lib.hid sm
  clear sm
  clear hx hp h h0 H1
  generalize hA : std = A
  subst hG
  generalize h_c : ci = c
  generalize h_fe : shpE = fe
  generalize h_fN : shpN = fN
  generalize h_fD : shpD = fD
  generalize h_fV : pdVF = fV
  generalize h_fW : pdNF = fW
  generalize h_fz : szF = fz
  generalize h_fR : fwF = fR
  obtain ⟨N, hN⟩ : ∃ N : Nat → Int, ∀ k, N k = fwN mc mh mw mx k := ⟨_, fun _ => rfl⟩
  have HN := Lib.hid hN
  clear hN
  cbv
  (repeat' (first | apply And.intro | apply BrB.mk | apply BrP.mk | intro _))
  (all_goals try (exfalso; (subst hA; subst h_c; subst h_fe; subst h_fN; subst h_fD; subst h_fV; subst h_fW; subst h_fz; subst h_fR); (try simp only [std, stdBin, stdCmp, stdUna, stdIn, ci, beq_iff_eq, bne_iff_ne, beq_eq_false_iff_ne, bne_eq_false_iff_eq, decide_eq_true_eq, decide_eq_false_iff_not, Bool.not_true, Bool.not_false, Bool.not_eq_true', Bool.not_eq_false', Bool.not_not, tn0, tn1, tn2, tn3] at *); first | omega | contradiction))
  all_goals try (refine loop_at Nat 25 (fun k => [(6, .v (.int .i64 (N k))), (7, .any), (8, .any), (9, .any), (10, .any), (25, .v (.int .i64 (c k)))]) (fun k o => o) (fun k => k ≤ mx.ls.length + 1) (fun k => mx.ls.length + 1 - k) 0 (Nat.zero_le _) ?_ ?_
                 focus
                   show AS.le _ _
                   cbv
                   (repeat' (first | apply And.intro | apply BrB.mk | apply BrP.mk | intro _))
                   (all_goals (subst hA; subst h_c; subst h_fe; subst h_fN; subst h_fD; subst h_fV; subst h_fW; subst h_fz; subst h_fR); all_goals (have f_sm := SM.out); all_goals (try simp only [std, stdBin, stdCmp, stdUna, stdIn, ci, beq_iff_eq, bne_iff_ne, beq_eq_false_iff_ne, bne_eq_false_iff_eq, decide_eq_true_eq, decide_eq_false_iff_not, Bool.not_true, Bool.not_false, Bool.not_eq_true', Bool.not_eq_false', Bool.not_not, tn0, tn1, tn2, tn3] at *); all_goals (try omega))
                   all_goals first | exact True.intro | rfl | (rw [HN.out]; rfl)
                   done)
  all_goals try (intro k hk; cbv; refine BrB.mk (fun gx => ?_) (fun gx => ?_))
  all_goals (repeat' (first | apply And.intro | apply BrB.mk | apply BrP.mk | intro _))
  all_goals try (refine ⟨k + 1, ?_, ?_, ?_⟩)
  all_goals try (show AS.le _ _; cbv; (repeat' (first | apply And.intro | apply BrB.mk | apply BrP.mk | intro _)))
  (all_goals (subst hA; subst h_c; subst h_fe; subst h_fN; subst h_fD; subst h_fV; subst h_fW; subst h_fz; subst h_fR); all_goals (have f_sm := SM.out); all_goals (try simp only [std, stdBin, stdCmp, stdUna, stdIn, ci, beq_iff_eq, bne_iff_ne, beq_eq_false_iff_ne, bne_eq_false_iff_eq, decide_eq_true_eq, decide_eq_false_iff_not, Bool.not_true, Bool.not_false, Bool.not_eq_true', Bool.not_eq_false', Bool.not_not, tn0, tn1, tn2, tn3, shpE, shpN, shpD, rowsD_at', rowsD_len, shp_len, pdVF, pdNF, szF, fwF, Int.toNat_natCast] at *); all_goals (try omega))
  all_goals (try first | exact True.intro | exact congrArg (Value.int .i64) (Int.natCast_succ _).symm | omega)
  all_goals first
    | (have hz : (shpR mc mh mw mx).2 = 0 := (by assumption)
       obtain ⟨hm, hS⟩ := shpR_ok hz
       obtain ⟨m1, m2, m3, m4, m5⟩ := mdl_of hm
       have b1 := HN.out k
       have b2 := fwN_in mc mh mw mx k
       have b3 := szD_in (shT mc mh mw mx k)
       have b4 := szD_in (pdV mc mh mw mx k)
       first
         | omega
         | (have e3 : (shp mc mh mw mx mx.ls.length).getD k [] = shT mc mh mw mx k := shp_at (by omega)
            simp only [e3] at *
            first
              | omega
              | (have b5 : fwN mc mh mw mx (k + 1) = fwN mc mh mw mx k + szD (shT mc mh mw mx k) + (if 0 < k then szD (pdV mc mh mw mx k) else 0) := rfl
                 have b6 := HN.out (k + 1)
                 show _ = Value.int .i64 (N (k + 1))
                 refine congrArg _ ?_
                 by_cases hk0 : 0 < k
                 · rw [if_pos hk0] at b5; omega
                 · rw [if_neg hk0] at b5; omega)
              | trace "V")
         | (have e : k = mx.ls.length + 1 := (by omega)
            rw [if_pos hz, ← e, ← b1]
            first | rfl | trace "W")
         | trace "W2")
    | (rw [if_neg (by assumption)]; first | done | rfl | (refine vb ?_; rw [decide_eq_decide]; omega))
    | trace_state
end Go.Proofs.Ytnjipnklbdlgaaa
/- Layer 17: weights that may be a net's. -/
namespace Go.Proofs.Ytnjipnklbdlgaaa
open Go.RowKit
set_option maxRecDepth 1000000
set_option linter.unusedSimpArgs false
set_option linter.unusedVariables false
set_option maxHeartbeats 16000000
set_option cbv.maxSteps 10000000
def mostW (M : List Int) : Nat → Bool
  | 0 => true
  | n + 1 => mostW M n && decide (-1048576 ≤ M.getD n 0 ∧ M.getD n 0 ≤ 1048576)
theorem mostW_at {M : List Int} : ∀ {n : Nat}, mostW M n = true → ∀ i, i < n → -1048576 ≤ M.getD i 0 ∧ M.getD i 0 ≤ 1048576
  | 0, _, i, hi => absurd hi (Nat.not_lt_zero _)
  | n + 1, h, i, hi => by
    simp only [mostW, Bool.and_eq_true, decide_eq_true_eq] at h
    by_cases e : i = n
    · subst e; exact h.2
    · exact mostW_at h.1 i (by omega)
theorem mostW_of {M : List Int} : ∀ {n : Nat}, (∀ i, i < n → -1048576 ≤ M.getD i 0 ∧ M.getD i 0 ≤ 1048576) → mostW M n = true
  | 0, _ => rfl
  | n + 1, h => by
    simp only [mostW, Bool.and_eq_true, decide_eq_true_eq]
    exact ⟨mostW_of fun i hi => h i (by omega), h n (by omega)⟩
theorem mostW_no {M : List Int} {n i : Nat} (hi : i < n) (h : ¬ (-1048576 ≤ M.getD i 0 ∧ M.getD i 0 ≤ 1048576)) : mostW M n = false := by
  cases hh : mostW M n with
  | false => rfl
  | true => exact absurd (mostW_at hh i hi) h
def mpB (D : List Int) (E : Int) (L M F : List Int) (G : Int) (H : List Int) (k o w t : Int) : Bool :=
  if k = 1 ∨ k = 2 then mayB ⟨D, E, L⟩ && mayB ⟨F, G, H⟩ && decide (M.length = L.length) && (D == dmV k o w t) && (F == [o]) && mostW M M.length else sameW D E L M F G H [] 0 [] [] [] 0 []
def mpF (xa : List AV) : Bool := match xa with
  | [.st [.st [.l D, .z E, .l L], .l M, .st [.l F, .z G, .l H]], .st [.z k, .z o, .z w, .z s, .z p, .z f, .b z], .l t] => mpB D E L M F G H k o w (t.getD 0 0)
  | _ => false
def mpP (xa : List AV) : Prop := match xa with
  | [.st [.st [.l D, .z E, .l L], .l M, .st [.l F, .z G, .l H]], .st [.z k, .z o, .z w, .z s, .z p, .z f, .b z], .l t] => 1 ≤ t.length
  | _ => False
theorem pmay1_ok : CtrOk Try.prog 52 (boolP [prmTy, layTy, .sl (.int .i64)] mpP mpF) := by
  obtain ⟨G, hG⟩ : ∃ G : List (FuncId × Ctr), G = [(54, boolC [prmTy, prmTy] swF), (67, boolC [tnTy .i8] tnMayF), (51, rowP [layTy, .sl (.int .i64)] 3 .i64 dmP dmVF), (62, boolC [.sl (.int .i64), .sl (.int .i64)] eqF)] := ⟨_, rfl⟩
  refine fn_inl (ck := true) [(49, Try.f49), (68, Try.f68), (78, Try.f78), (69, Try.f69)] ⟨⟨Try.func49, by unfold FnOk; kernel_rfl, by kernel_rfl⟩, ⟨Try.func68, by unfold FnOk; kernel_rfl, by kernel_rfl⟩, ⟨Try.func78, by unfold FnOk; kernel_rfl, by kernel_rfl⟩, ⟨Try.func69, by unfold FnOk; kernel_rfl, by kernel_rfl⟩, trivial⟩ Try.func52 rfl tt_ok (G := G) (by rw [hG]; exact ⟨⟨psame_ok, by unfold FnOk; kernel_rfl⟩, ⟨tnMay_ok, by unfold FnOk; kernel_rfl⟩, ⟨pdims_ok, by unfold FnOk; kernel_rfl⟩, ⟨same_ok, by unfold FnOk; kernel_rfl⟩, trivial⟩) mixed (by kernel_rfl) ?_
  intro xa xs h hx hp
  obtain ⟨a0, as0, x0, xs0, rfl, rfl, h0, H1⟩ := svArgs_cons h
  obtain ⟨a1, as1, x1, xs1, rfl, rfl, h1, H2⟩ := svArgs_cons H1
  obtain ⟨a2, as2, x2, xs2, rfl, rfl, h2, H3⟩ := svArgs_cons H2
  obtain ⟨rfl, rfl⟩ := svArgs_nil H3
  obtain ⟨pD, pE, pL, pM, pF, pG, pH, rfl, rfl⟩ := argSV_prm h0
  obtain ⟨lk, lo, lw, ls, lp, lf, lz, rfl, rfl⟩ := argSV_lay h1
  obtain ⟨t, rfl, rfl⟩ := argSV_ints h2
  have sp : (Fits .i64 pD ∧ ci pD.length ≤ 9223372036854775807) ∧ (-9223372036854775808 ≤ pE ∧ pE ≤ 9223372036854775807) ∧ (Fits .i8 pL ∧ ci pL.length ≤ 9223372036854775807) ∧ (Fits .i32 pM ∧ ci pM.length ≤ 9223372036854775807) ∧ (Fits .i64 pF ∧ ci pF.length ≤ 9223372036854775807) ∧ (-9223372036854775808 ≤ pG ∧ pG ≤ 9223372036854775807) ∧ (Fits .i8 pH ∧ ci pH.length ≤ 9223372036854775807) := svf_prm (hx (.agg [.iimm .i64 pD, .v (.int .i64 pE), .iimm .i8 pL, .iimm .i32 pM, .iimm .i64 pF, .v (.int .i64 pG), .iimm .i8 pH]) (List.mem_of_getElem? (i := 0) rfl))
  have sl : (-9223372036854775808 ≤ lk ∧ lk ≤ 9223372036854775807) ∧ (-9223372036854775808 ≤ lo ∧ lo ≤ 9223372036854775807) ∧ (-9223372036854775808 ≤ lw ∧ lw ≤ 9223372036854775807) ∧ (-9223372036854775808 ≤ ls ∧ ls ≤ 9223372036854775807) ∧ (-9223372036854775808 ≤ lp ∧ lp ≤ 9223372036854775807) ∧ (-9223372036854775808 ≤ lf ∧ lf ≤ 9223372036854775807) := svf_lay (hx (.agg [.v (.int .i64 lk), .v (.int .i64 lo), .v (.int .i64 lw), .v (.int .i64 ls), .v (.int .i64 lp), .v (.int .i64 lf), .v (.bool lz)]) (List.mem_of_getElem? (i := 1) rfl))
  have st : Fits .i64 t ∧ ci t.length ≤ 9223372036854775807 := svf_ints (hx (.iimm .i64 t) (by simp))
  have SP := Lib.hid sp
  clear sp
  have SL := Lib.hid sl
  clear sl
  have ST := Lib.hid st
  clear st
  have HP := Lib.hid (hp _ rfl)
  clear hx hp h h0 H1 h1 H2 h2 H3
  generalize hA : std = A
  subst hG
  generalize h_c : ci = c
  generalize h_fm : tnMayF = fm
  generalize h_fs : swF = fs
  generalize h_fp : dmP = fp
  generalize h_fv : dmVF = fv
  generalize h_fe : eqF = fe
  generalize h_fR : mpF = fR
  generalize h_pP : mpP = pP
  cbv
  (repeat' (first | apply And.intro | apply BrB.mk | apply BrP.mk | intro _))
  all_goals try (refine loop_at Nat 8 (fun x => [(4, .any), (5, .any), (8, .v (.int .i64 (c x)))]) (fun _ o => o) (fun x => x ≤ pM.length ∧ ∀ j, j < x → -1048576 ≤ pM.getD j 0 ∧ pM.getD j 0 ≤ 1048576) (fun x => pM.length - x) 0 ⟨Nat.zero_le _, fun j hj => absurd hj (Nat.not_lt_zero _)⟩ ?_ ?_
                 focus
                   show AS.le _ _
                   cbv
                   (repeat' (first | apply And.intro | apply BrB.mk | apply BrP.mk | intro _))
                   (all_goals (subst hA; subst h_c; subst h_fm; subst h_fs; subst h_fp; subst h_fv; subst h_fe; subst h_fR; subst h_pP); all_goals (have f_sp := SP.out; have f_sl := SL.out; have f_st := ST.out; have f_hp := HP.out); all_goals (try simp only [std, stdBin, stdCmp, stdUna, stdIn, ci, beq_iff_eq, bne_iff_ne, beq_eq_false_iff_ne, bne_eq_false_iff_eq, decide_eq_true_eq, decide_eq_false_iff_not, Bool.not_true, Bool.not_false, Bool.not_eq_true', Bool.not_eq_false', Bool.not_not, tn0, tn1, tn2, tn3] at *); all_goals (try omega))
                   all_goals first | exact True.intro | rfl
                   done)
  all_goals try (intro x hx; cbv; (repeat' (first | apply And.intro | apply BrB.mk | apply BrP.mk | intro _)))
  all_goals try (refine ⟨x + 1, ?_, ?_, ?_⟩)
  all_goals try (show AS.le _ _; cbv; (repeat' (first | apply And.intro | apply BrB.mk | apply BrP.mk | intro _)))
  (all_goals (subst hA; subst h_c; subst h_fm; subst h_fs; subst h_fp; subst h_fv; subst h_fe; subst h_fR; subst h_pP); all_goals (have f_sp := SP.out; have f_sl := SL.out; have f_st := ST.out; have f_hp := HP.out); all_goals (try simp only [std, stdBin, stdCmp, stdUna, stdIn, ci, beq_iff_eq, bne_iff_ne, beq_eq_false_iff_ne, bne_eq_false_iff_eq, decide_eq_true_eq, decide_eq_false_iff_not, Bool.not_true, Bool.not_false, Bool.not_eq_true', Bool.not_eq_false', Bool.not_not, tn0, tn1, tn2, tn3, tnMayF, swF, dmP, dmVF, eqF, mpF, mpP, Int.toNat_natCast] at *); all_goals (try omega))
  all_goals first
    | exact True.intro
    | exact congrArg (Value.int .i64) (Int.natCast_succ _).symm
    | omega
    | exact f_hp
    | (refine ⟨by omega, fun j hj => ?_⟩
       by_cases e : j = x
       · subst e; omega
       · exact hx.2 j (by omega))
    | (have hno : mostW pM pM.length = false := mostW_no (i := x) (by omega) (by omega)
       refine vb ?_
       unfold mpB
       simp_all; done)
    | (have hyes : mostW pM pM.length = true := mostW_of (fun j hj => hx.2 j (by omega))
       refine vb ?_
       unfold mpB
       first | (simp_all; done) | (simp_all; omega))
    | (refine vb ?_; unfold mpB; first | (simp_all; done) | (simp_all; omega))
    | trace_state
def mpD (c h w : Int) (x p : Dat) (i : Nat) : Bool := mpB ((((p.at i).fld 0).fld 0).ints) ((((p.at i).fld 0).fld 1).z) ((((p.at i).fld 0).fld 2).ints) (((p.at i).fld 1).ints) ((((p.at i).fld 2).fld 0).ints) ((((p.at i).fld 2).fld 1).z) ((((p.at i).fld 2).fld 2).ints) (layI x i 0) (layI x i 1) (layI x i 2) ((shT c h w x i).getD 0 0)
def pmR (c h w : Int) (x p : Dat) : Bool := decide ((shpR c h w x).2 = 0 ∧ p.ls.length = x.ls.length) && allTo (mpD c h w x p) x.ls.length
def pmF (xa : List AV) : Bool := match xa with
  | [.st [.st [.z c, .z h, .z w], .d x], .d p] => pmR c h w x p
  | _ => false
theorem pMay_ok : CtrOk Try.prog 24 (boolC [mdlTy, .sl prmTy] pmF) := by
  obtain ⟨G, hG⟩ : ∃ G : List (FuncId × Ctr), G = [(52, boolP [prmTy, layTy, .sl (.int .i64)] mpP mpF)] := ⟨_, rfl⟩
  refine fn_inl2 (ck := true) rfl [(12, shpC shpE shpN shpD)] ⟨⟨by unfold FnOk; kernel_rfl, shapes_ok⟩, trivial⟩ [] trivial Try.func24 rfl tt_ok (G := G) (by rw [hG]; exact ⟨⟨pmay1_ok, by unfold FnOk; kernel_rfl⟩, trivial⟩) mixed (by kernel_rfl) ?_
  intro xa xs h hx hp
  obtain ⟨a0, as0, x0, xs0, rfl, rfl, h0, H1⟩ := svArgs_cons h
  obtain ⟨a1, as1, x1, xs1, rfl, rfl, h1, H2⟩ := svArgs_cons H1
  obtain ⟨rfl, rfl⟩ := svArgs_nil H2
  obtain ⟨mc, mh, mw, mx, rfl, rfl⟩ := argSV_mdl h0
  obtain ⟨p, rfl, rfl⟩ := argSV_rows h1
  have sm : (-9223372036854775808 ≤ mc ∧ mc ≤ 9223372036854775807) ∧ (-9223372036854775808 ≤ mh ∧ mh ≤ 9223372036854775807) ∧ (-9223372036854775808 ≤ mw ∧ mw ≤ 9223372036854775807) ∧ ((ci mx.ls.length ≤ 9223372036854775807) ∧ Wt (.sl layTy) mx) := svf_mdl (hx (.agg [.v (.int .i64 mc), .v (.int .i64 mh), .v (.int .i64 mw), .imm layTy mx]) (List.mem_of_getElem? (i := 0) rfl))
  have sp : ci p.ls.length ≤ 9223372036854775807 ∧ Wt (.sl prmTy) p := ⟨wtl_len (hx (.imm prmTy p) (List.mem_of_getElem? (i := 1) rfl)), hx (.imm prmTy p) (List.mem_of_getElem? (i := 1) rfl)⟩
  have SM := Lib.hid sm
  clear sm
  have SP := Lib.hid sp
  clear sp
  clear hx hp h h0 H1 h1 H2
  generalize hA : std = A
  subst hG
  generalize h_c : ci = c
  generalize h_fe : shpE = fe
  generalize h_fN : shpN = fN
  generalize h_fD : shpD = fD
  generalize h_fp : mpP = fp
  generalize h_fm : mpF = fm
  generalize h_fR : pmF = fR
  cbv
  (repeat' (first | apply And.intro | apply BrB.mk | apply BrP.mk | intro _))
  (all_goals try (exfalso; (subst hA; subst h_c; subst h_fe; subst h_fN; subst h_fD; subst h_fp; subst h_fm; subst h_fR); (try simp only [std, stdBin, stdCmp, stdUna, stdIn, ci, beq_iff_eq, bne_iff_ne, beq_eq_false_iff_ne, bne_eq_false_iff_eq, decide_eq_true_eq, decide_eq_false_iff_not, Bool.not_true, Bool.not_false, Bool.not_eq_true', Bool.not_eq_false', Bool.not_not, tn0, tn1, tn2, tn3] at *); first | omega | contradiction))
  all_goals try (refine loop_at Nat 29 (fun k => [(4, .any), (8, .any), (9, .any), (29, .v (.int .i64 (c k)))]) (fun k o => o) (fun k => k ≤ mx.ls.length ∧ allTo (mpD mc mh mw mx p) k = true) (fun k => mx.ls.length - k) 0 ⟨Nat.zero_le _, rfl⟩ ?_ ?_
                 focus
                   show AS.le _ _
                   cbv
                   (repeat' (first | apply And.intro | apply BrB.mk | apply BrP.mk | intro _))
                   (all_goals (subst hA; subst h_c; subst h_fe; subst h_fN; subst h_fD; subst h_fp; subst h_fm; subst h_fR); all_goals (have f_sm := SM.out; have f_sp := SP.out); all_goals (try simp only [std, stdBin, stdCmp, stdUna, stdIn, ci, beq_iff_eq, bne_iff_ne, beq_eq_false_iff_ne, bne_eq_false_iff_eq, decide_eq_true_eq, decide_eq_false_iff_not, Bool.not_true, Bool.not_false, Bool.not_eq_true', Bool.not_eq_false', Bool.not_not, tn0, tn1, tn2, tn3] at *); all_goals (try omega))
                   all_goals first | exact True.intro | rfl
                   done)
  all_goals try (rintro k ⟨hk, hE⟩; cbv; refine BrB.mk (fun gx => ?_) (fun gx => ?_))
  all_goals (repeat' (first | apply And.intro | apply BrB.mk | apply BrP.mk | intro _))
  all_goals try (refine ⟨k + 1, ?_, ?_, ?_⟩)
  all_goals try (show AS.le _ _; cbv; (repeat' (first | apply And.intro | apply BrB.mk | apply BrP.mk | intro _)))
  (all_goals (subst hA; subst h_c; subst h_fe; subst h_fN; subst h_fD; subst h_fp; subst h_fm; subst h_fR); all_goals (have f_sm := SM.out; have f_sp := SP.out); all_goals (try simp only [std, stdBin, stdCmp, stdUna, stdIn, ci, beq_iff_eq, bne_iff_ne, beq_eq_false_iff_ne, bne_eq_false_iff_eq, decide_eq_true_eq, decide_eq_false_iff_not, Bool.not_true, Bool.not_false, Bool.not_eq_true', Bool.not_eq_false', Bool.not_not, tn0, tn1, tn2, tn3, shpE, shpN, shpD, rowsD_at', rowsD_len, shp_len, mpP, mpF, pmF, Int.toNat_natCast] at *); all_goals (try omega))
  all_goals (try first | exact True.intro | exact congrArg (Value.int .i64) (Int.natCast_succ _).symm | omega)
  all_goals first
    | (have hz : (shpR mc mh mw mx).2 = 0 := (by assumption)
       obtain ⟨hm, hS⟩ := shpR_ok hz
       first
         | omega
         | (refine vb ?_; show pmR mc mh mw mx p = false; unfold pmR; rw [decide_eq_false (fun q => by omega)]; rfl)
         | (have hkn : k < mx.ls.length := (by omega)
            have e3 : (shp mc mh mw mx mx.ls.length).getD k [] = shT mc mh mw mx k := shp_at (by omega)
            simp only [e3] at *
            first
              | omega
              | exact (mayD_len (shT_may hm hS k (by omega))).1
              | (have hf : mpD mc mh mw mx p k = false := (by assumption)
                 refine vb ?_; show pmR mc mh mw mx p = false; unfold pmR; rw [allTo_false hkn hf, Bool.and_false]; done)
              | (have hf : mpD mc mh mw mx p k = true := (by assumption)
                 refine ⟨by omega, ?_⟩; simp only [allTo, hE, hf, Bool.and_self])
              | trace "A")
         | (have e : k = mx.ls.length := (by omega)
            subst e
            refine vb ?_; show pmR mc mh mw mx p = true; unfold pmR; rw [hE, decide_eq_true ⟨hz, by omega⟩]; rfl)
         | trace "B")
    | (refine vb ?_; show pmR mc mh mw mx p = false; unfold pmR; rw [decide_eq_false (fun q => by omega)]; rfl)
    | trace_state
end Go.Proofs.Ytnjipnklbdlgaaa
/- Layer 17: what is at first may be, and hangs on the seed alone. -/
namespace Go.Proofs.Ytnjipnklbdlgaaa
open Go.RowKit
set_option maxRecDepth 1000000
set_option linter.unusedSimpArgs false
set_option linter.unusedVariables false
set_option maxHeartbeats 16000000
set_option cbv.maxSteps 10000000
theorem wAt {c h w : Int} {x : Dat} {s : Int} {i : Nat} (hi : i < x.ls.length) : (wMix c h w x s x.ls.length).at i = wDat c h w x s i := by
  show ((List.range x.ls.length).map fun i => if i < x.ls.length then wDat c h w x s i else zeroD prmTy).getD i _ = _
  rw [List.getD_eq_getElem?_getD, List.getElem?_map, List.getElem?_range hi]
  simp [hi]
theorem prm_ints (l : List Int) : (std.ofInts l).ints = l := ints_of l
theorem prm_flds (p : Wp) : (((prmD p).fld 0).fld 0).ints = p.d ∧ (((prmD p).fld 0).fld 1).z = p.e ∧ (((prmD p).fld 0).fld 2).ints = p.l ∧ ((prmD p).fld 1).ints = p.m ∧ (((prmD p).fld 2).fld 0).ints = p.f ∧ (((prmD p).fld 2).fld 1).z = p.g ∧ (((prmD p).fld 2).fld 2).ints = p.h :=
  ⟨ints_of _, rfl, ints_of _, ints_of _, ints_of _, rfl, ints_of _⟩
theorem sameW_self (D : List Int) (E : Int) (L M F : List Int) (G : Int) (H : List Int) : sameW D E L M F G H D E L M F G H = true := by
  simp [sameW, sameTn]
theorem sameWD_self (x : Dat) : sameWD x x = true := sameW_self _ _ _ _ _ _ _
theorem allTo_of {g : Nat → Bool} : ∀ {n : Nat}, (∀ i, i < n → g i = true) → allTo g n = true
  | 0, _ => rfl
  | n + 1, h => by
    simp only [allTo, Bool.and_eq_true]
    exact ⟨allTo_of fun i hi => h i (by omega), h n (by omega)⟩
theorem sws_self (d : Dat) : swsF [.d d, .d d] = true := by
  show (decide (d.ls.length = d.ls.length) && allTo (fun i => sameWD (d.at i) (d.at i)) d.ls.length) = true
  rw [decide_eq_true rfl, allTo_of (fun i _ => sameWD_self _)]
  rfl
theorem getD_rep (n j : Nat) : (List.replicate n (0 : Int)).getD j 0 = 0 := by
  rw [List.getD_eq_getElem?_getD, List.getElem?_replicate]
  split <;> rfl
theorem getD_mapR {f : Nat → Int} {n j : Nat} (h : j < n) : ((List.range n).map f).getD j 0 = f j := by
  rw [List.getD_eq_getElem?_getD, List.getElem?_map, List.getElem?_range h]; rfl
theorem ini_of {c h w : Int} {x : Dat} (hr : iniR c h w x = 0) : (shpR c h w x).2 = 0 ∧ allTo (okW c h w x) x.ls.length = true := by
  unfold iniR at hr
  split at hr
  · rename_i hz
    split at hr
    · rename_i ho; exact ⟨hz, ho⟩
    · omega
  · rename_i hz; exact absurd hr hz
/-- What a layer has at first. -/
theorem w_facts {c h w : Int} {x : Dat} (s : Int) (hr : iniR c h w x = 0) {i : Nat} (hi : i < x.ls.length) :
    ((wDat c h w x s i).fld 1).ints.length = (((wDat c h w x s i).fld 0).fld 2).ints.length ∧ (((wDat c h w x s i).fld 0).fld 2).ints.length ≤ 8192 ∧ (((wDat c h w x s i).fld 2).fld 2).ints.length ≤ 8192 ∧
    (∀ j, j < (((wDat c h w x s i).fld 0).fld 2).ints.length → (((wDat c h w x s i).fld 0).fld 2).ints.getD j 0 = w0I s (IntKind.u64.wrap ((i : Int) + 1)) j) ∧
    (∀ j, ((wDat c h w x s i).fld 1).ints.getD j 0 = 0) ∧ (∀ j, (((wDat c h w x s i).fld 2).fld 2).ints.getD j 0 = 0) ∧ mpD c h w x (wMix c h w x s x.ls.length) i = true := by
  obtain ⟨hz, ho⟩ := ini_of hr
  have hoi := allTo_at ho i hi
  have hdm : dmI x c h w i = dmV (layI x i 0) (layI x i 1) (layI x i 2) ((shT c h w x i).getD 0 0) := rfl
  unfold mpD
  rw [wAt hi]
  unfold wDat
  by_cases hw : wgB x i = true
  · rw [if_pos hw]
    have hmd : mayD (dmI x c h w i) = true := by
      unfold okW at hoi
      rw [hw] at hoi
      simpa using hoi
    have hk := of_decide_eq_true hw
    obtain ⟨f1, f2, f3⟩ := dm_facts (k := layI x i 0) (o := layI x i 1) (w := layI x i 2) (t := (shT c h w x i).getD 0 0)
    rw [← hdm] at f1 f2 f3
    have hD0 : (dmI x c h w i).getD 0 0 = layI x i 1 := by
      rcases hk with hk | hk
      · exact (f1 hk).2
      · exact (f2 hk).2.1
    obtain ⟨g1, g2, g3, g4, g5, g6, g7⟩ := prm_flds (ipV (dmI x c h w i) s (IntKind.u64.wrap ((i : Int) + 1)))
    rw [g1, g2, g3, g4, g5, g6, g7]
    have z := szD_in (dmI x c h w i)
    obtain ⟨hm1, hm2⟩ := head_may hmd
    have ml := mayD_len hmd
    have q := mayD_at hmd (i := 0) (by omega)
    refine ⟨by simp [ipV], by simp [ipV]; omega, by simp only [ipV, List.length_replicate]; omega, ?_, fun j => getD_rep _ _, fun j => getD_rep _ _, ?_⟩
    · intro j hj
      simp only [ipV, List.length_map, List.length_range] at hj ⊢
      exact getD_mapR hj
    · unfold mpB
      rw [if_pos hk]
      have a1 : mayB ⟨dmI x c h w i, -7, (List.range (szD (dmI x c h w i)).toNat).map (w0I s (IntKind.u64.wrap ((i : Int) + 1)))⟩ = true := by
        refine (mayB_eq _ _ _).2 ⟨hmd, by simp; omega, by omega, ?_⟩
        rw [List.contains_eq_mem, decide_eq_false_iff_not]
        intro hm
        obtain ⟨j, _, he⟩ := List.mem_map.1 hm
        have h9 := (w0_in s (IntKind.u64.wrap ((i : Int) + 1)) j).1
        rw [he] at h9
        exact absurd h9 (by decide)
      have a2 : mayB ⟨[(dmI x c h w i).getD 0 0], -7, List.replicate ((dmI x c h w i).getD 0 0).toNat 0⟩ = true := by
        refine (mayB_eq _ _ _).2 ⟨hm1, by rw [hm2, List.length_replicate]; omega, by omega, ?_⟩
        rw [List.contains_eq_mem, decide_eq_false_iff_not]
        intro hm
        have := List.eq_of_mem_replicate hm
        omega
      have a3 : mostW (List.replicate (szD (dmI x c h w i)).toNat 0) (List.replicate (szD (dmI x c h w i)).toNat (0 : Int)).length = true := mostW_of fun j _ => by rw [getD_rep]; omega
      simp only [ipV]
      rw [a1, a2, a3, ← hdm, hD0]
      simp
  · rw [if_neg hw]
    have hw2 : wgB x i = false := Bool.eq_false_iff.2 hw
    have hk := of_decide_eq_false hw2
    refine ⟨rfl, Nat.zero_le _, Nat.zero_le _, ?_, fun j => rfl, fun j => rfl, ?_⟩
    · intro j hj
      exact absurd hj (Nat.not_lt_zero _)
    · unfold mpB
      rw [if_neg hk]
      exact sameW_self _ _ _ _ _ _ _
theorem pm_ini {c h w : Int} {x : Dat} (s : Int) (hr : iniR c h w x = 0) : pmR c h w x (wMix c h w x s x.ls.length) = true := by
  unfold pmR
  rw [decide_eq_true ⟨(ini_of hr).1, wMix_len _ _ _ _ _ _⟩, allTo_of (fun i hi => (w_facts s hr hi).2.2.2.2.2.2)]
  rfl
theorem init17_ok : CtrOk Try.prog 8 (yes6 [mdlTy, .int .u64] (fun _ => True)) := by
  obtain ⟨G, hG⟩ : ∃ G : List (FuncId × Ctr), G = [(21, boolC [mdlTy] fwF), (24, boolC [mdlTy, .sl prmTy] pmF), (25, boolC [.sl prmTy, .sl prmTy] swsF), (26, intC [.int .u64, .int .u64, .int .u64, .int .i64] .i64 blwF), (22, yes6 [] (fun _ => True))] := ⟨_, rfl⟩
  refine fn_inl2 (ck := true) rfl [(23, iniC iniE iniD)] ⟨⟨by unfold FnOk; kernel_rfl, pInit_ok⟩, trivial⟩ [] trivial Try.func8 rfl tt_ok (G := G) (by rw [hG]; exact ⟨⟨few17_ok, by unfold FnOk; kernel_rfl⟩, ⟨pMay_ok, by unfold FnOk; kernel_rfl⟩, ⟨pSame_ok, by unfold FnOk; kernel_rfl⟩, ⟨blw_ok, by unfold FnOk; kernel_rfl⟩, ⟨awake17_ok, by unfold FnOk; kernel_rfl⟩, trivial⟩) mixed (by kernel_rfl) ?_
  intro xa xs h hx hp
  obtain ⟨a0, as0, x0, xs0, rfl, rfl, h0, H1⟩ := svArgs_cons h
  obtain ⟨a1, as1, x1, xs1, rfl, rfl, h1, H2⟩ := svArgs_cons H1
  obtain ⟨rfl, rfl⟩ := svArgs_nil H2
  obtain ⟨mc, mh, mw, mx, rfl, rfl⟩ := argSV_mdl h0
  obtain ⟨s, rfl, rfl⟩ := argSV_int h1
  have sm : (-9223372036854775808 ≤ mc ∧ mc ≤ 9223372036854775807) ∧ (-9223372036854775808 ≤ mh ∧ mh ≤ 9223372036854775807) ∧ (-9223372036854775808 ≤ mw ∧ mw ≤ 9223372036854775807) ∧ ((ci mx.ls.length ≤ 9223372036854775807) ∧ Wt (.sl layTy) mx) := svf_mdl (hx (.agg [.v (.int .i64 mc), .v (.int .i64 mh), .v (.int .i64 mw), .imm layTy mx]) (List.mem_of_getElem? (i := 0) rfl))
  have ss : (Lit.int .u64 s).wf = true := (hx (.v (.int .u64 s)) (by simp))
  have SM := Lib.hid sm
  clear sm
  have SS := Lib.hid ss
  clear ss
  clear hx hp h h0 H1 h1 H2
  generalize hA : std = A
  subst hG
  generalize h_c : ci = c
  generalize h_fw : fwF = fw
  generalize h_fE : iniE = fE
  generalize h_fW : iniD = fW
  generalize h_fM : pmF = fM
  generalize h_fS : swsF = fS
  generalize h_fb : blwF = fb
  cbv
  (repeat' (first | apply And.intro | apply BrB.mk | apply BrP.mk | intro _))
  (all_goals try (exfalso; (subst hA; subst h_c; subst h_fw; subst h_fE; subst h_fW; subst h_fM; subst h_fS; subst h_fb); (try simp only [std, stdBin, stdCmp, stdUna, stdIn, ci, beq_iff_eq, bne_iff_ne, beq_eq_false_iff_ne, bne_eq_false_iff_eq, decide_eq_true_eq, decide_eq_false_iff_not, Bool.not_true, Bool.not_false, Bool.not_eq_true', Bool.not_eq_false', Bool.not_not, tn0, tn1, tn2, tn3] at *); first | omega | contradiction))
  all_goals try (refine loop_at Nat 69 (fun k => [(4, .any), (9, .any), (10, .any), (11, .any), (12, .any), (14, .any), (69, .v (.int .i64 (c k)))]) (fun k o => o) (fun k => k ≤ mx.ls.length) (fun k => mx.ls.length - k) 0 (Nat.zero_le _) ?_ ?_
                 focus
                   show AS.le _ _
                   cbv
                   (repeat' (first | apply And.intro | apply BrB.mk | apply BrP.mk | intro _))
                   (all_goals (subst hA; subst h_c; subst h_fw; subst h_fE; subst h_fW; subst h_fM; subst h_fS; subst h_fb); all_goals (have f_sm := SM.out; have f_ss := SS.out); all_goals (try simp only [std, stdBin, stdCmp, stdUna, stdIn, ci, beq_iff_eq, bne_iff_ne, beq_eq_false_iff_ne, bne_eq_false_iff_eq, decide_eq_true_eq, decide_eq_false_iff_not, Bool.not_true, Bool.not_false, Bool.not_eq_true', Bool.not_eq_false', Bool.not_not, tn0, tn1, tn2, tn3] at *); all_goals (try omega))
                   all_goals first | exact True.intro | rfl
                   done)
  all_goals try (intro k hk; cbv; refine BrB.mk (fun gx => ?_) (fun gx => ?_))
  all_goals (repeat' (first | apply And.intro | apply BrB.mk | apply BrP.mk | intro _))
  all_goals try (refine loop_at Nat 86 (fun j => [(4, .any), (11, .any), (12, .any), (86, .v (.int .i64 (c j)))]) (fun k o => o) (fun j => j ≤ (((wDat mc mh mw mx s k).fld 0).fld 2).ints.length) (fun j => (((wDat mc mh mw mx s k).fld 0).fld 2).ints.length - j) 0 (Nat.zero_le _) ?_ ?_
                 focus
                   show AS.le _ _
                   cbv
                   (repeat' (first | apply And.intro | apply BrB.mk | apply BrP.mk | intro _))
                   (all_goals (subst hA; subst h_c; subst h_fw; subst h_fE; subst h_fW; subst h_fM; subst h_fS; subst h_fb); all_goals (have f_sm := SM.out; have f_ss := SS.out); all_goals (try simp only [std, stdBin, stdCmp, stdUna, stdIn, ci, beq_iff_eq, bne_iff_ne, beq_eq_false_iff_ne, bne_eq_false_iff_eq, decide_eq_true_eq, decide_eq_false_iff_not, Bool.not_true, Bool.not_false, Bool.not_eq_true', Bool.not_eq_false', Bool.not_not, tn0, tn1, tn2, tn3] at *); all_goals (try omega))
                   all_goals first | exact True.intro | rfl
                   done)
  all_goals try (intro j hj; cbv; refine BrB.mk (fun gj => ?_) (fun gj => ?_))
  all_goals (repeat' (first | apply And.intro | apply BrB.mk | apply BrP.mk | intro _))
  all_goals try (refine loop_at Nat 123 (fun q => [(4, .any), (14, .any), (123, .v (.int .i64 (c q)))]) (fun k o => o) (fun q => q ≤ (((wDat mc mh mw mx s k).fld 2).fld 2).ints.length) (fun q => (((wDat mc mh mw mx s k).fld 2).fld 2).ints.length - q) 0 (Nat.zero_le _) ?_ ?_
                 focus
                   show AS.le _ _
                   cbv
                   (repeat' (first | apply And.intro | apply BrB.mk | apply BrP.mk | intro _))
                   (all_goals (subst hA; subst h_c; subst h_fw; subst h_fE; subst h_fW; subst h_fM; subst h_fS; subst h_fb); all_goals (have f_sm := SM.out; have f_ss := SS.out); all_goals (try simp only [std, stdBin, stdCmp, stdUna, stdIn, ci, beq_iff_eq, bne_iff_ne, beq_eq_false_iff_ne, bne_eq_false_iff_eq, decide_eq_true_eq, decide_eq_false_iff_not, Bool.not_true, Bool.not_false, Bool.not_eq_true', Bool.not_eq_false', Bool.not_not, tn0, tn1, tn2, tn3] at *); all_goals (try omega))
                   all_goals first | exact True.intro | rfl
                   done)
  all_goals try (intro q hq; cbv; refine BrB.mk (fun gq => ?_) (fun gq => ?_))
  all_goals (repeat' (first | apply And.intro | apply BrB.mk | apply BrP.mk | intro _))
  all_goals try first
    | (have _ : _ = true := gq; refine ⟨q + 1, ?_, ?_, ?_⟩)
    | (have _ : _ = true := gj; refine ⟨j + 1, ?_, ?_, ?_⟩)
    | (have _ : _ = true := gx; refine ⟨k + 1, ?_, ?_, ?_⟩)
  all_goals try (show AS.le _ _; cbv; (repeat' (first | apply And.intro | apply BrB.mk | apply BrP.mk | intro _)))
  all_goals (subst hA; subst h_c; subst h_fw; subst h_fE; subst h_fW; subst h_fM; subst h_fS; subst h_fb)
  all_goals (have f_sm := SM.out; have f_ss := SS.out)
  all_goals (try simp only [std, stdBin, stdCmp, stdUna, stdIn, ci, beq_iff_eq, bne_iff_ne, beq_eq_false_iff_ne, bne_eq_false_iff_eq, decide_eq_true_eq, decide_eq_false_iff_not, Bool.not_true, Bool.not_false, Bool.not_eq_true', Bool.not_eq_false', Bool.not_not, tn0, tn1, tn2, tn3, iniE, iniD, pmF, wMix_len, sws_self, Int.toNat_natCast] at *)
  all_goals (try first | exact True.intro | exact congrArg (Value.int .i64) (Int.natCast_succ _).symm | contradiction)
  all_goals first
    | (have hr : iniR mc mh mw mx = 0 := (by assumption)
       have hp := pm_ini s hr
       first
         | (exfalso; have hf : pmR mc mh mw mx (wMix mc mh mw mx s mx.ls.length) = false := (by assumption); rw [hp] at hf; cases hf)
         | (have hkn : k < mx.ls.length := (by clear hp; omega)
            obtain ⟨w1, w2, w3, w4, w5, w6, w7⟩ := w_facts s hr hkn
            have wa := wAt (c := mc) (h := mh) (w := mw) (s := s) hkn
            clear w7 hp
            simp only [wa, w5, w6] at *
            clear wa
            have hb : ∀ j : Nat, blwF [.z s, .z (IntKind.u64.wrap ((k : Int) + 1)), .z (IntKind.u64.wrap (j : Int)), .z 63] = w0I s (IntKind.u64.wrap ((k : Int) + 1)) j + 31 := fun j => by show _ = belowB _ _ _ _ - 31 + 31; rw [Int.sub_add_cancel]; rfl
            have w8 := w0_in s (IntKind.u64.wrap ((k : Int) + 1))
            simp only [hb] at *
            generalize w0I s (IntKind.u64.wrap ((k : Int) + 1)) = z at *
            generalize wDat mc mh mw mx s k = d at *
            first
              | omega
              | contradiction
              | (have b1 := w4 j (by omega)
                 have b2 := w8 j
                 first | omega | contradiction | (rw [b1] at *; first | omega | contradiction | (exfalso; omega)) | trace "P")
              | trace "Q")
         | omega
         | trace "R")
    | omega
    | trace_state
end Go.Proofs.Ytnjipnklbdlgaaa
