/- Layer 21: weights that are the same. -/
import Derived.Test.YtekokhlldcmjfaaOptE
namespace Go.Proofs.Ytekokhlldcmjfaa
open Go.RowKit
set_option maxRecDepth 1000000
set_option linter.unusedSimpArgs false
set_option linter.unusedVariables false
set_option maxHeartbeats 16000000
set_option cbv.maxSteps 10000000
def samePD (x y : Dat) : Bool := sameTn (tnOf (x.fld 0)) (tnOf (y.fld 0)) && sameTn (tnOf (x.fld 2)) (tnOf (y.fld 2)) && decide ((x.fld 1).ints = (y.fld 1).ints)
def sprF (xa : List AV) : Bool := match xa with
  | [.d a, .d b] => decide (a.ls.length = b.ls.length) && allTo (fun i => samePD (a.at i) (b.at i)) a.ls.length
  | _ => false
theorem wt_at {T : Ty} {x : Dat} (h : Wt (.sl T) x) {i : Nat} (hi : i < x.ls.length) : Wt T (x.at i) := by
  simp only [Wt] at h
  obtain ⟨ds, rfl, h2, h3⟩ := h
  simp only [Dat.ls] at hi
  unfold Dat.at
  simp only [Dat.ls, List.getD_eq_getElem?_getD, List.getElem?_eq_getElem hi]
  exact h3 _ (List.getElem_mem _)
theorem prm_m {x : Dat} (h : Wt (.sl prmTy) x) {i : Nat} (hi : i < x.ls.length) : (((x.at i).fld 1).ints.length : Int) ≤ 9223372036854775807 := by
  have h1 := wt_at h hi
  generalize x.at i = y at h1
  simp only [prmTy, Wt, WtL] at h1
  obtain ⟨ds, rfl, u, us, rfl, h2, u2, us2, rfl, h3, _⟩ := h1
  obtain ⟨ms, rfl, h4, _⟩ := h3
  unfold maxLen at h4
  show (((Dat.list ms).ls.map Dat.z).length : Int) ≤ _
  rw [List.length_map]
  simp only [Dat.ls]
  omega
theorem ints_eq {a b : List Int} (hl : a.length = b.length) (h : ∀ j, j < a.length → a.getD j 0 = b.getD j 0) : a = b := by
  apply List.ext_getElem hl
  intro i h1 h2
  have := h i h1
  rwa [List.getD_eq_getElem?_getD, List.getD_eq_getElem?_getD, List.getElem?_eq_getElem h1, List.getElem?_eq_getElem h2] at this
theorem allTo_one {g : Nat → Bool} {x : Nat} (h : allTo g x = true) (h2 : g x = true) : allTo g (x + 1) = true := by
  show (allTo g x && g x) = true
  rw [h, h2]; rfl
theorem rspr_ok : CtrOk Try.prog 18 (boolC [.sl prmTy, .sl prmTy] sprF) := by
  obtain ⟨G, hG⟩ : ∃ G : List (FuncId × Ctr), G = [(63, boolC [tnTy .i8, tnTy .i8] sameTnF)] := ⟨_, rfl⟩
  refine fn_ok (ck := true) Try.func18 rfl tt_ok (G := G) (by rw [hG]; exact ⟨⟨rsameT_ok, by unfold FnOk; kernel_rfl⟩, trivial⟩) mixed (by kernel_rfl) ?_
  intro xa xs h hx hp
  obtain ⟨a0, as0, x0, xs0, rfl, rfl, h0, H1⟩ := svArgs_cons h
  obtain ⟨a1, as1, x1, xs1, rfl, rfl, h1, H2⟩ := svArgs_cons H1
  obtain ⟨rfl, rfl⟩ := svArgs_nil H2
  obtain ⟨a, rfl, rfl⟩ := argSV_rows h0
  obtain ⟨b, rfl, rfl⟩ := argSV_rows h1
  have sa : ci a.ls.length ≤ 9223372036854775807 ∧ Wt (.sl prmTy) a := ⟨wtl_len (hx (.imm prmTy a) (List.mem_of_getElem? (i := 0) rfl)), hx (.imm prmTy a) (List.mem_of_getElem? (i := 0) rfl)⟩
  have sb : ci b.ls.length ≤ 9223372036854775807 ∧ Wt (.sl prmTy) b := ⟨wtl_len (hx (.imm prmTy b) (List.mem_of_getElem? (i := 1) rfl)), hx (.imm prmTy b) (List.mem_of_getElem? (i := 1) rfl)⟩
  have SA := Lib.hid sa
  clear sa
  have SB := Lib.hid sb
  clear sb
  clear hx hp h h0 H1 h1 H2
  generalize hA : std = A
  subst hG
  generalize h_c : ci = c
  generalize h_fs : sameTnF = fs
  generalize h_fR : sprF = fR
  cbv
  (repeat' (first | apply And.intro | apply BrB.mk | apply BrP.mk | intro _))
  all_goals try (refine loop_at Nat 14 (fun x => [(5, .any), (6, .any), (14, .v (.int .i64 (c x)))]) (fun _ o => o) (fun x => x ≤ a.ls.length ∧ allTo (fun i => samePD (a.at i) (b.at i)) x = true) (fun x => a.ls.length - x) 0 ?h0 ?hle ?round)
  case h0 => exact ⟨Nat.zero_le _, rfl⟩
  case hle => (cbv; (repeat' (first | apply And.intro | apply BrB.mk | apply BrP.mk | intro _)); all_goals (subst hA; subst h_c; subst h_fs; subst h_fR); all_goals (have f_sa := SA.out; have f_sb := SB.out); all_goals (try simp only [std, stdBin, stdCmp, stdUna, stdIn, ci, beq_iff_eq, bne_iff_ne, beq_eq_false_iff_ne, bne_eq_false_iff_eq, decide_eq_true_eq, decide_eq_false_iff_not, Bool.not_true, Bool.not_false, Bool.not_eq_true', Bool.not_eq_false', Bool.not_not, tn0, tn1, tn2, tn3] at *); (all_goals first | exact True.intro | rfl | exact congrArg (Value.int .i64) (by omega)))
  case round =>
    intro x hx
    cbv
    refine BrB.mk (fun gx => ?yx) (fun gx => ?nx)
    case yx =>
      (repeat' (first | apply And.intro | apply BrB.mk | apply BrP.mk | intro _))
      all_goals try (refine loop_at Nat 64 (fun y => [(6, .any), (64, .v (.int .i64 (c y)))]) (fun _ o => o) (fun y => y ≤ ((a.at x).fld 1).ints.length ∧ ∀ j, j < y → ((a.at x).fld 1).ints.getD j 0 = ((b.at x).fld 1).ints.getD j 0) (fun y => ((a.at x).fld 1).ints.length - y) 0 ⟨Nat.zero_le _, fun j hj => absurd hj (Nat.not_lt_zero _)⟩ ?_ ?_
                     focus
                       show AS.le _ _
                       (cbv; (repeat' (first | apply And.intro | apply BrB.mk | apply BrP.mk | intro _)); all_goals (subst hA; subst h_c; subst h_fs; subst h_fR); all_goals (have f_sa := SA.out; have f_sb := SB.out); all_goals (try simp only [std, stdBin, stdCmp, stdUna, stdIn, ci, beq_iff_eq, bne_iff_ne, beq_eq_false_iff_ne, bne_eq_false_iff_eq, decide_eq_true_eq, decide_eq_false_iff_not, Bool.not_true, Bool.not_false, Bool.not_eq_true', Bool.not_eq_false', Bool.not_not, tn0, tn1, tn2, tn3] at *); (all_goals first | exact True.intro | rfl | exact congrArg (Value.int .i64) (by omega)))
                       done)
      all_goals try (intro q hq; cbv; refine BrB.mk (fun gq => ?_) (fun gq => ?_))
      all_goals (repeat' (first | apply And.intro | apply BrB.mk | apply BrP.mk | intro _))
      all_goals try first | (have _ : _ = true := gq; refine ⟨q + 1, ?_, ?_, ?_⟩) | (refine ⟨x + 1, ?_, ?_, ?_⟩)
      all_goals try (show AS.le _ _; (cbv; (repeat' (first | apply And.intro | apply BrB.mk | apply BrP.mk | intro _)); all_goals (subst hA; subst h_c; subst h_fs; subst h_fR); all_goals (have f_sa := SA.out; have f_sb := SB.out); all_goals (try simp only [std, stdBin, stdCmp, stdUna, stdIn, ci, beq_iff_eq, bne_iff_ne, beq_eq_false_iff_ne, bne_eq_false_iff_eq, decide_eq_true_eq, decide_eq_false_iff_not, Bool.not_true, Bool.not_false, Bool.not_eq_true', Bool.not_eq_false', Bool.not_not, tn0, tn1, tn2, tn3] at *); (all_goals first | exact True.intro | rfl | exact congrArg (Value.int .i64) (by omega))))
      (all_goals (subst hA; subst h_c; subst h_fs; subst h_fR); all_goals (have f_sa := SA.out; have f_sb := SB.out); all_goals (try simp only [std, stdBin, stdCmp, stdUna, stdIn, ci, beq_iff_eq, bne_iff_ne, beq_eq_false_iff_ne, bne_eq_false_iff_eq, decide_eq_true_eq, decide_eq_false_iff_not, Bool.not_true, Bool.not_false, Bool.not_eq_true', Bool.not_eq_false', Bool.not_not, tn0, tn1, tn2, tn3, sprF, sameTnF, Int.toNat_natCast] at *); all_goals (try omega))
      all_goals (have la := prm_m f_sa.2 (i := x) (by omega); have lb := prm_m f_sb.2 (i := x) (by omega))
      all_goals first
        | exact True.intro
        | omega
        | (refine ⟨by omega, fun j hj => ?_⟩
           by_cases e : j = q
           · subst e; first | assumption | omega
           · exact hq.2 j (by omega))
        | (refine vb ?_
           have hs : samePD (a.at x) (b.at x) = false := (by
             cases hh : samePD (a.at x) (b.at x) with
             | false => rfl
             | true =>
               exfalso
               unfold samePD tnOf at hh
               simp only [Bool.and_eq_true, decide_eq_true_eq] at hh
               obtain ⟨⟨k1, k2⟩, k3⟩ := hh
               first
                 | exact absurd (congrArg (fun l : List Int => (l.length : Int)) k3) (by assumption)
                 | exact absurd (congrArg (fun l : List Int => l.getD q 0) k3) (by assumption)
                 | (simp_all; done))
           rw [allTo_false (x := x) (by omega) hs, Bool.and_false]
           done)
        | (refine ⟨by omega, allTo_one hx.2 ?_⟩
           unfold samePD tnOf
           simp only [Bool.and_eq_true, decide_eq_true_eq]
           exact ⟨⟨by assumption, by assumption⟩, ints_eq (by omega) (fun j hj => hq.2 j (by omega))⟩)
        | trace_state
    case nx =>
      (repeat' (first | apply And.intro | apply BrB.mk | apply BrP.mk | intro _))
      (all_goals (subst hA; subst h_c; subst h_fs; subst h_fR); all_goals (have f_sa := SA.out; have f_sb := SB.out); all_goals (try simp only [std, stdBin, stdCmp, stdUna, stdIn, ci, beq_iff_eq, bne_iff_ne, beq_eq_false_iff_ne, bne_eq_false_iff_eq, decide_eq_true_eq, decide_eq_false_iff_not, Bool.not_true, Bool.not_false, Bool.not_eq_true', Bool.not_eq_false', Bool.not_not, tn0, tn1, tn2, tn3, sprF, sameTnF, Int.toNat_natCast] at *); all_goals (try omega))
      all_goals (refine vb ?_; have e : x = a.ls.length := (by omega); rw [← e, hx.2, decide_eq_true (show x = b.ls.length by omega)]; rfl)
  (all_goals (subst hA; subst h_c; subst h_fs; subst h_fR); all_goals (have f_sa := SA.out; have f_sb := SB.out); all_goals (try simp only [std, stdBin, stdCmp, stdUna, stdIn, ci, beq_iff_eq, bne_iff_ne, beq_eq_false_iff_ne, bne_eq_false_iff_eq, decide_eq_true_eq, decide_eq_false_iff_not, Bool.not_true, Bool.not_false, Bool.not_eq_true', Bool.not_eq_false', Bool.not_not, tn0, tn1, tn2, tn3, sprF, sameTnF] at *); all_goals (try omega))
  all_goals (refine vb ?_; rw [decide_eq_false (show ¬ a.ls.length = b.ls.length by omega)]; rfl)
end Go.Proofs.Ytekokhlldcmjfaa
