/- Layer 24: may a state be; two states, alike. -/
import Derived.Test.YtekokhlldcmjfaaOctZ
import Derived.Test.YtekokhlldcmjfaaMayAll
namespace Go.Proofs.Ytekokhlldcmjfaa
open Go.RowKit
set_option maxRecDepth 1000000
set_option linter.unusedSimpArgs false
set_option linter.unusedVariables false
set_option maxHeartbeats 16000000
set_option cbv.maxSteps 10000000
abbrev prmTy : Ty := .st [.st [.sl (.int .i64), .int .i64, .sl (.int .i8)], .sl (.int .i32), .st [.sl (.int .i64), .int .i64, .sl (.int .i8)]]
theorem argSV_prm {a : AV} {x : SV} (h : argSV prmTy a = some x) : ∃ (v_D : List Int) (v_E : Int) (v_L : List Int) (v_M : List Int) (v_F : List Int) (v_G : Int) (v_H : List Int), a = .st [.st [.l v_D, .z v_E, .l v_L], .l v_M, .st [.l v_F, .z v_G, .l v_H]] ∧ x = .agg [.iimm .i64 v_D, .v (.int .i64 v_E), .iimm .i8 v_L, .iimm .i32 v_M, .iimm .i64 v_F, .v (.int .i64 v_G), .iimm .i8 v_H] := by
  obtain ⟨as0, l0, rfl, rfl, h0⟩ := argSV_st h
  obtain ⟨a1, as1, x1, m1, rfl, rfl, p1, h1⟩ := svAVs_cons h0
  obtain ⟨bs1, rfl, q1⟩ := svAV_st p1
  obtain ⟨a2, as2, x2, m2, rfl, rfl, p2, h2⟩ := svAVs_cons q1
  obtain ⟨v_D, rfl, rfl⟩ := svAV_ints p2
  obtain ⟨a3, as3, x3, m3, rfl, rfl, p3, h3⟩ := svAVs_cons h2
  obtain ⟨v_E, rfl, rfl⟩ := svAV_int p3
  obtain ⟨a4, as4, x4, m4, rfl, rfl, p4, h4⟩ := svAVs_cons h3
  obtain ⟨v_L, rfl, rfl⟩ := svAV_ints p4
  obtain ⟨rfl, rfl⟩ := svAVs_nil h4
  obtain ⟨a5, as5, x5, m5, rfl, rfl, p5, h5⟩ := svAVs_cons h1
  obtain ⟨v_M, rfl, rfl⟩ := svAV_ints p5
  obtain ⟨a6, as6, x6, m6, rfl, rfl, p6, h6⟩ := svAVs_cons h5
  obtain ⟨bs6, rfl, q6⟩ := svAV_st p6
  obtain ⟨a7, as7, x7, m7, rfl, rfl, p7, h7⟩ := svAVs_cons q6
  obtain ⟨v_F, rfl, rfl⟩ := svAV_ints p7
  obtain ⟨a8, as8, x8, m8, rfl, rfl, p8, h8⟩ := svAVs_cons h7
  obtain ⟨v_G, rfl, rfl⟩ := svAV_int p8
  obtain ⟨a9, as9, x9, m9, rfl, rfl, p9, h9⟩ := svAVs_cons h8
  obtain ⟨v_H, rfl, rfl⟩ := svAV_ints p9
  obtain ⟨rfl, rfl⟩ := svAVs_nil h9
  obtain ⟨rfl, rfl⟩ := svAVs_nil h6
  exact ⟨v_D, v_E, v_L, v_M, v_F, v_G, v_H, rfl, rfl⟩
theorem svf_prm {v_D : List Int} {v_E : Int} {v_L : List Int} {v_M : List Int} {v_F : List Int} {v_G : Int} {v_H : List Int} (h : SVf (.agg [.iimm .i64 v_D, .v (.int .i64 v_E), .iimm .i8 v_L, .iimm .i32 v_M, .iimm .i64 v_F, .v (.int .i64 v_G), .iimm .i8 v_H])) : (Fits .i64 v_D ∧ ci v_D.length ≤ 9223372036854775807) ∧ (-9223372036854775808 ≤ v_E ∧ v_E ≤ 9223372036854775807) ∧ (Fits .i8 v_L ∧ ci v_L.length ≤ 9223372036854775807) ∧ (Fits .i32 v_M ∧ ci v_M.length ≤ 9223372036854775807) ∧ (Fits .i64 v_F ∧ ci v_F.length ≤ 9223372036854775807) ∧ (-9223372036854775808 ≤ v_G ∧ v_G ≤ 9223372036854775807) ∧ (Fits .i8 v_H ∧ ci v_H.length ≤ 9223372036854775807) := by
  exact ⟨svf_ints (h (.iimm .i64 v_D) (by simp)), of_i64 (h (.v (.int .i64 v_E)) (by simp)), svf_ints (h (.iimm .i8 v_L) (by simp)), svf_ints (h (.iimm .i32 v_M) (by simp)), svf_ints (h (.iimm .i64 v_F) (by simp)), of_i64 (h (.v (.int .i64 v_G)) (by simp)), svf_ints (h (.iimm .i8 v_H) (by simp))⟩
abbrev sttTy : Ty := .st [.int .u64, .int .i64, .sl prmTy]
theorem argSV_stt {a : AV} {x : SV} (h : argSV sttTy a = some x) : ∃ (v_s : Int) (v_k : Int) (v_x : Dat), a = .st [.z v_s, .z v_k, .d v_x] ∧ x = .agg [.v (.int .u64 v_s), .v (.int .i64 v_k), .imm prmTy v_x] := by
  obtain ⟨as0, l0, rfl, rfl, h0⟩ := argSV_st h
  obtain ⟨a1, as1, x1, m1, rfl, rfl, p1, h1⟩ := svAVs_cons h0
  obtain ⟨v_s, rfl, rfl⟩ := svAV_int p1
  obtain ⟨a2, as2, x2, m2, rfl, rfl, p2, h2⟩ := svAVs_cons h1
  obtain ⟨v_k, rfl, rfl⟩ := svAV_int p2
  obtain ⟨a3, as3, x3, m3, rfl, rfl, p3, h3⟩ := svAVs_cons h2
  obtain ⟨v_x, rfl, rfl⟩ := svAV_rows p3
  obtain ⟨rfl, rfl⟩ := svAVs_nil h3
  exact ⟨v_s, v_k, v_x, rfl, rfl⟩
theorem svf_stt {v_s : Int} {v_k : Int} {v_x : Dat} (h : SVf (.agg [.v (.int .u64 v_s), .v (.int .i64 v_k), .imm prmTy v_x])) : ((Lit.int .u64 v_s).wf = true) ∧ (-9223372036854775808 ≤ v_k ∧ v_k ≤ 9223372036854775807) ∧ ((ci v_x.ls.length ≤ 9223372036854775807) ∧ Wt (.sl prmTy) v_x) := by
  exact ⟨h (.v (.int .u64 v_s)) (by simp), of_i64 (h (.v (.int .i64 v_k)) (by simp)), ⟨wtl_len (h (.imm prmTy v_x) (by simp)), h (.imm prmTy v_x) (by simp)⟩⟩
theorem getD_ext {a b : List Int} (hl : a.length = b.length) (h : ∀ j, j < a.length → a.getD j 0 = b.getD j 0) : a = b := by
  apply List.ext_getElem hl
  intro i h1 h2
  have := h i h1
  rwa [List.getD_eq_getElem?_getD, List.getD_eq_getElem?_getD, List.getElem?_eq_getElem h1, List.getElem?_eq_getElem h2] at this
theorem ne_at {a b : List Int} {j : Nat} (h : a.getD j 0 ≠ b.getD j 0) : (a == b) = false := by
  rw [beq_eq_false_iff_ne]
  rintro rfl
  exact h rfl
theorem ne_len {a b : List Int} (h : ¬ a.length = b.length) : (a == b) = false := by
  rw [beq_eq_false_iff_ne]
  rintro rfl
  exact h rfl
theorem eq32_ok : CtrOk Try.prog 138 (boolC [.sl (.int .i32), .sl (.int .i32)] eqF) := by
  obtain ⟨G, hG⟩ : ∃ G : List (FuncId × Ctr), G = [] := ⟨_, rfl⟩
  refine fn_ok (ck := true) Try.func138 rfl tt_ok (G := G) (by rw [hG]; exact trivial) mixed (by kernel_rfl) ?_
  intro xa xs h hx hp
  obtain ⟨a0, as0, x0, xs0, rfl, rfl, h0, H1⟩ := svArgs_cons h
  obtain ⟨a1, as1, x1, xs1, rfl, rfl, h1, H2⟩ := svArgs_cons H1
  obtain ⟨rfl, rfl⟩ := svArgs_nil H2
  obtain ⟨a, rfl, rfl⟩ := argSV_ints h0
  obtain ⟨b, rfl, rfl⟩ := argSV_ints h1
  have sa : Fits .i32 a ∧ ci a.length ≤ 9223372036854775807 := svf_ints (hx (.iimm .i32 a) (by simp))
  have sb : Fits .i32 b ∧ ci b.length ≤ 9223372036854775807 := svf_ints (hx (.iimm .i32 b) (by simp))
  have SA := Lib.hid sa
  clear sa
  have SB := Lib.hid sb
  clear sb
  clear hx hp h h0 H1 h1 H2
  generalize hA : std = A
  subst hG
  generalize h_c : ci = c
  generalize h_fR : eqF = fR
  cbv
  (repeat' (first | apply And.intro | apply BrB.mk | apply BrP.mk | intro _))
  all_goals try ((refine loop_at Nat 13 (fun x => [(4, .any), (5, .any), (13, .v (.int .i64 (c x)))]) (fun _ o => o) (fun x => x ≤ a.length ∧ ∀ j, j < x → a.getD j 0 = b.getD j 0) (fun x => a.length - x) 0 ⟨Nat.zero_le _, fun j hj => absurd hj (Nat.not_lt_zero _)⟩ ?_ ?_)
                 focus
                   show AS.le _ _
                   (cbv; (repeat' (first | apply And.intro | apply BrB.mk | apply BrP.mk | intro _)); all_goals (subst hA; subst h_c; subst h_fR); all_goals (have f_sa := SA.out; have f_sb := SB.out); all_goals (try simp only [std, stdBin, stdCmp, stdUna, stdIn, ci, beq_iff_eq, bne_iff_ne, beq_eq_false_iff_ne, bne_eq_false_iff_eq, decide_eq_true_eq, decide_eq_false_iff_not, Bool.not_true, Bool.not_false, Bool.not_eq_true', Bool.not_eq_false', Bool.not_not, tn0, tn1, tn2, tn3] at *); (all_goals first | exact True.intro | rfl | exact congrArg (Value.int .i64) (by omega)))
                   done)
  all_goals try (intro x hx; cbv; (repeat' (first | apply And.intro | apply BrB.mk | apply BrP.mk | intro _)))
  all_goals try (refine ⟨x + 1, ?_, ?_, ?_⟩)
  all_goals try (show AS.le _ _; cbv; (repeat' (first | apply And.intro | apply BrB.mk | apply BrP.mk | intro _)))
  (all_goals (subst hA; subst h_c; subst h_fR); all_goals (have f_sa := SA.out; have f_sb := SB.out); all_goals (try simp only [std, stdBin, stdCmp, stdUna, stdIn, ci, beq_iff_eq, bne_iff_ne, beq_eq_false_iff_ne, bne_eq_false_iff_eq, decide_eq_true_eq, decide_eq_false_iff_not, Bool.not_true, Bool.not_false, Bool.not_eq_true', Bool.not_eq_false', Bool.not_not, tn0, tn1, tn2, tn3, eqF, Int.toNat_natCast] at *); all_goals (try omega))
  all_goals first | exact True.intro | omega | exact congrArg (Value.int .i64) (Int.natCast_succ _).symm | (refine ⟨by omega, fun j hj => ?_⟩; by_cases e : j = x; (subst e; assumption); exact hx.2 j (by omega)) | (refine vb ?_; show (a == b) = false; exact ne_at (by assumption)) | (refine vb ?_; show (a == b) = false; exact ne_len (by omega)) | (refine vb ?_; show (a == b) = true; rw [beq_iff_eq]; exact getD_ext (by omega) (fun j hj => hx.2 j (by omega))) | trace_state
theorem eq8_ok : CtrOk Try.prog 142 (boolC [.sl (.int .i8), .sl (.int .i8)] eqF) := by
  obtain ⟨G, hG⟩ : ∃ G : List (FuncId × Ctr), G = [] := ⟨_, rfl⟩
  refine fn_ok (ck := true) Try.func142 rfl tt_ok (G := G) (by rw [hG]; exact trivial) mixed (by kernel_rfl) ?_
  intro xa xs h hx hp
  obtain ⟨a0, as0, x0, xs0, rfl, rfl, h0, H1⟩ := svArgs_cons h
  obtain ⟨a1, as1, x1, xs1, rfl, rfl, h1, H2⟩ := svArgs_cons H1
  obtain ⟨rfl, rfl⟩ := svArgs_nil H2
  obtain ⟨a, rfl, rfl⟩ := argSV_ints h0
  obtain ⟨b, rfl, rfl⟩ := argSV_ints h1
  have sa : Fits .i8 a ∧ ci a.length ≤ 9223372036854775807 := svf_ints (hx (.iimm .i8 a) (by simp))
  have sb : Fits .i8 b ∧ ci b.length ≤ 9223372036854775807 := svf_ints (hx (.iimm .i8 b) (by simp))
  have SA := Lib.hid sa
  clear sa
  have SB := Lib.hid sb
  clear sb
  clear hx hp h h0 H1 h1 H2
  generalize hA : std = A
  subst hG
  generalize h_c : ci = c
  generalize h_fR : eqF = fR
  cbv
  (repeat' (first | apply And.intro | apply BrB.mk | apply BrP.mk | intro _))
  all_goals try ((refine loop_at Nat 13 (fun x => [(4, .any), (5, .any), (13, .v (.int .i64 (c x)))]) (fun _ o => o) (fun x => x ≤ a.length ∧ ∀ j, j < x → a.getD j 0 = b.getD j 0) (fun x => a.length - x) 0 ⟨Nat.zero_le _, fun j hj => absurd hj (Nat.not_lt_zero _)⟩ ?_ ?_)
                 focus
                   show AS.le _ _
                   (cbv; (repeat' (first | apply And.intro | apply BrB.mk | apply BrP.mk | intro _)); all_goals (subst hA; subst h_c; subst h_fR); all_goals (have f_sa := SA.out; have f_sb := SB.out); all_goals (try simp only [std, stdBin, stdCmp, stdUna, stdIn, ci, beq_iff_eq, bne_iff_ne, beq_eq_false_iff_ne, bne_eq_false_iff_eq, decide_eq_true_eq, decide_eq_false_iff_not, Bool.not_true, Bool.not_false, Bool.not_eq_true', Bool.not_eq_false', Bool.not_not, tn0, tn1, tn2, tn3] at *); (all_goals first | exact True.intro | rfl | exact congrArg (Value.int .i64) (by omega)))
                   done)
  all_goals try (intro x hx; cbv; (repeat' (first | apply And.intro | apply BrB.mk | apply BrP.mk | intro _)))
  all_goals try (refine ⟨x + 1, ?_, ?_, ?_⟩)
  all_goals try (show AS.le _ _; cbv; (repeat' (first | apply And.intro | apply BrB.mk | apply BrP.mk | intro _)))
  (all_goals (subst hA; subst h_c; subst h_fR); all_goals (have f_sa := SA.out; have f_sb := SB.out); all_goals (try simp only [std, stdBin, stdCmp, stdUna, stdIn, ci, beq_iff_eq, bne_iff_ne, beq_eq_false_iff_ne, bne_eq_false_iff_eq, decide_eq_true_eq, decide_eq_false_iff_not, Bool.not_true, Bool.not_false, Bool.not_eq_true', Bool.not_eq_false', Bool.not_not, tn0, tn1, tn2, tn3, eqF, Int.toNat_natCast] at *); all_goals (try omega))
  all_goals first | exact True.intro | omega | exact congrArg (Value.int .i64) (Int.natCast_succ _).symm | (refine ⟨by omega, fun j hj => ?_⟩; by_cases e : j = x; (subst e; assumption); exact hx.2 j (by omega)) | (refine vb ?_; show (a == b) = false; exact ne_at (by assumption)) | (refine vb ?_; show (a == b) = false; exact ne_len (by omega)) | (refine vb ?_; show (a == b) = true; rw [beq_iff_eq]; exact getD_ext (by omega) (fun j hj => hx.2 j (by omega))) | trace_state
theorem tsame_ok : CtrOk Try.prog 137 (boolC [tnTy .i8, tnTy .i8] sameTnF) := by
  obtain ⟨G, hG⟩ : ∃ G : List (FuncId × Ctr), G = [(45, boolC [.sl (.int .i64), .sl (.int .i64)] eqF), (142, boolC [.sl (.int .i8), .sl (.int .i8)] eqF)] := ⟨_, rfl⟩
  refine fn_ok (ck := true) Try.func137 rfl tt_ok (G := G) (by rw [hG]; exact ⟨⟨same_ok, by unfold FnOk; kernel_rfl⟩, ⟨eq8_ok, by unfold FnOk; kernel_rfl⟩, trivial⟩) mixed (by kernel_rfl) ?_
  intro xa xs h hx hp
  obtain ⟨a0, as0, x0, xs0, rfl, rfl, h0, H1⟩ := svArgs_cons h
  obtain ⟨a1, as1, x1, xs1, rfl, rfl, h1, H2⟩ := svArgs_cons H1
  obtain ⟨rfl, rfl⟩ := svArgs_nil H2
  obtain ⟨⟨aD, aE, aL⟩, rfl, rfl⟩ := argSV_tn h0
  obtain ⟨⟨bD, bE, bL⟩, rfl, rfl⟩ := argSV_tn h1
  have sa : (Fits .i64 aD ∧ ci aD.length ≤ 9223372036854775807) ∧ (-9223372036854775808 ≤ aE ∧ aE ≤ 9223372036854775807) ∧ Fits .i8 aL ∧ ci aL.length ≤ 9223372036854775807 := svf_tn (hx (Tn.sv .i8 ⟨aD, aE, aL⟩) (by simp))
  have sb : (Fits .i64 bD ∧ ci bD.length ≤ 9223372036854775807) ∧ (-9223372036854775808 ≤ bE ∧ bE ≤ 9223372036854775807) ∧ Fits .i8 bL ∧ ci bL.length ≤ 9223372036854775807 := svf_tn (hx (Tn.sv .i8 ⟨bD, bE, bL⟩) (by simp))
  have SA := Lib.hid sa
  clear sa
  have SB := Lib.hid sb
  clear sb
  clear hx hp h h0 H1 h1 H2
  generalize hA : std = A
  subst hG
  generalize h_c : ci = c
  generalize h_fe : eqF = fe
  generalize h_fR : sameTnF = fR
  cbv
  (repeat' (first | apply And.intro | apply BrB.mk | apply BrP.mk | intro _))
  (all_goals (subst hA; subst h_c; subst h_fe; subst h_fR); all_goals (have f_sa := SA.out; have f_sb := SB.out); all_goals (try simp only [std, stdBin, stdCmp, stdUna, stdIn, ci, beq_iff_eq, bne_iff_ne, beq_eq_false_iff_ne, bne_eq_false_iff_eq, decide_eq_true_eq, decide_eq_false_iff_not, Bool.not_true, Bool.not_false, Bool.not_eq_true', Bool.not_eq_false', Bool.not_not, tn0, tn1, tn2, tn3, eqF, sameTnF, sameTn] at *); all_goals (try omega))
  all_goals (refine vb ?_)
  all_goals first | (simp_all; done) | trace_state
def sameW (D : List Int) (E : Int) (L M F : List Int) (G : Int) (H D' : List Int) (E' : Int) (L' M' F' : List Int) (G' : Int) (H' : List Int) : Bool := sameTn ⟨D, E, L⟩ ⟨D', E', L'⟩ && (M == M') && sameTn ⟨F, G, H⟩ ⟨F', G', H'⟩
def swF (xa : List AV) : Bool := match xa with
  | [.st [.st [.l D, .z E, .l L], .l M, .st [.l F, .z G, .l H]], .st [.st [.l D', .z E', .l L'], .l M', .st [.l F', .z G', .l H']]] => sameW D E L M F G H D' E' L' M' F' G' H'
  | _ => false
theorem psame_ok : CtrOk Try.prog 122 (boolC [prmTy, prmTy] swF) := by
  obtain ⟨G, hG⟩ : ∃ G : List (FuncId × Ctr), G = [(137, boolC [tnTy .i8, tnTy .i8] sameTnF), (138, boolC [.sl (.int .i32), .sl (.int .i32)] eqF)] := ⟨_, rfl⟩
  refine fn_ok (ck := true) Try.func122 rfl tt_ok (G := G) (by rw [hG]; exact ⟨⟨tsame_ok, by unfold FnOk; kernel_rfl⟩, ⟨eq32_ok, by unfold FnOk; kernel_rfl⟩, trivial⟩) mixed (by kernel_rfl) ?_
  intro xa xs h hx hp
  obtain ⟨a0, as0, x0, xs0, rfl, rfl, h0, H1⟩ := svArgs_cons h
  obtain ⟨a1, as1, x1, xs1, rfl, rfl, h1, H2⟩ := svArgs_cons H1
  obtain ⟨rfl, rfl⟩ := svArgs_nil H2
  obtain ⟨aD, aE, aL, aM, aF, aG, aH, rfl, rfl⟩ := argSV_prm h0
  obtain ⟨bD, bE, bL, bM, bF, bG, bH, rfl, rfl⟩ := argSV_prm h1
  have sa : (Fits .i64 aD ∧ ci aD.length ≤ 9223372036854775807) ∧ (-9223372036854775808 ≤ aE ∧ aE ≤ 9223372036854775807) ∧ (Fits .i8 aL ∧ ci aL.length ≤ 9223372036854775807) ∧ (Fits .i32 aM ∧ ci aM.length ≤ 9223372036854775807) ∧ (Fits .i64 aF ∧ ci aF.length ≤ 9223372036854775807) ∧ (-9223372036854775808 ≤ aG ∧ aG ≤ 9223372036854775807) ∧ (Fits .i8 aH ∧ ci aH.length ≤ 9223372036854775807) := svf_prm (hx (.agg [.iimm .i64 aD, .v (.int .i64 aE), .iimm .i8 aL, .iimm .i32 aM, .iimm .i64 aF, .v (.int .i64 aG), .iimm .i8 aH]) (List.mem_of_getElem? (i := 0) rfl))
  have sb : (Fits .i64 bD ∧ ci bD.length ≤ 9223372036854775807) ∧ (-9223372036854775808 ≤ bE ∧ bE ≤ 9223372036854775807) ∧ (Fits .i8 bL ∧ ci bL.length ≤ 9223372036854775807) ∧ (Fits .i32 bM ∧ ci bM.length ≤ 9223372036854775807) ∧ (Fits .i64 bF ∧ ci bF.length ≤ 9223372036854775807) ∧ (-9223372036854775808 ≤ bG ∧ bG ≤ 9223372036854775807) ∧ (Fits .i8 bH ∧ ci bH.length ≤ 9223372036854775807) := svf_prm (hx (.agg [.iimm .i64 bD, .v (.int .i64 bE), .iimm .i8 bL, .iimm .i32 bM, .iimm .i64 bF, .v (.int .i64 bG), .iimm .i8 bH]) (List.mem_of_getElem? (i := 1) rfl))
  have SA := Lib.hid sa
  clear sa
  have SB := Lib.hid sb
  clear sb
  clear hx hp h h0 H1 h1 H2
  generalize hA : std = A
  subst hG
  generalize h_c : ci = c
  generalize h_fe : eqF = fe
  generalize h_fs : sameTnF = fs
  generalize h_fR : swF = fR
  cbv
  (repeat' (first | apply And.intro | apply BrB.mk | apply BrP.mk | intro _))
  (all_goals (subst hA; subst h_c; subst h_fe; subst h_fs; subst h_fR); all_goals (have f_sa := SA.out; have f_sb := SB.out); all_goals (try simp only [std, stdBin, stdCmp, stdUna, stdIn, ci, beq_iff_eq, bne_iff_ne, beq_eq_false_iff_ne, bne_eq_false_iff_eq, decide_eq_true_eq, decide_eq_false_iff_not, Bool.not_true, Bool.not_false, Bool.not_eq_true', Bool.not_eq_false', Bool.not_not, tn0, tn1, tn2, tn3, eqF, sameTnF, swF] at *); all_goals (try omega))
  all_goals (refine vb ?_; unfold sameW)
  all_goals first | (simp_all; done) | trace_state
def sameWD (x y : Dat) : Bool := sameW (((x.fld 0).fld 0).ints) (((x.fld 0).fld 1).z) (((x.fld 0).fld 2).ints) ((x.fld 1).ints) (((x.fld 2).fld 0).ints) (((x.fld 2).fld 1).z) (((x.fld 2).fld 2).ints) (((y.fld 0).fld 0).ints) (((y.fld 0).fld 1).z) (((y.fld 0).fld 2).ints) ((y.fld 1).ints) (((y.fld 2).fld 0).ints) (((y.fld 2).fld 1).z) (((y.fld 2).fld 2).ints)
def swsF (xa : List AV) : Bool := match xa with
  | [.d a, .d b] => decide (a.ls.length = b.ls.length) && allTo (fun i => sameWD (a.at i) (b.at i)) a.ls.length
  | _ => false
theorem pSame_ok : CtrOk Try.prog 85 (boolC [.sl prmTy, .sl prmTy] swsF) := by
  obtain ⟨G, hG⟩ : ∃ G : List (FuncId × Ctr), G = [(122, boolC [prmTy, prmTy] swF)] := ⟨_, rfl⟩
  refine fn_inl (ck := true) [(121, Try.f121)] ⟨⟨Try.func121, by unfold FnOk; kernel_rfl, by kernel_rfl⟩, trivial⟩ Try.func85 rfl tt_ok (G := G) (by rw [hG]; exact ⟨⟨psame_ok, by unfold FnOk; kernel_rfl⟩, trivial⟩) mixed (by kernel_rfl) ?_
  intro xa xs h hx hp
  obtain ⟨a0, as0, x0, xs0, rfl, rfl, h0, H1⟩ := svArgs_cons h
  obtain ⟨a1, as1, x1, xs1, rfl, rfl, h1, H2⟩ := svArgs_cons H1
  obtain ⟨rfl, rfl⟩ := svArgs_nil H2
  obtain ⟨a, rfl, rfl⟩ := argSV_rows h0
  obtain ⟨b, rfl, rfl⟩ := argSV_rows h1
  have sa : ci a.ls.length ≤ 9223372036854775807 ∧ Wt (.sl prmTy) a := ⟨wtl_len (hx (.imm prmTy a) (List.mem_of_getElem? (i := 0) rfl)), hx (.imm prmTy a) (List.mem_of_getElem? (i := 0) rfl)⟩
  have sb : ci b.ls.length ≤ 9223372036854775807 ∧ Wt (.sl prmTy) b := ⟨wtl_len (hx (.imm prmTy b) (List.mem_of_getElem? (i := 1) rfl)), hx (.imm prmTy b) (List.mem_of_getElem? (i := 1) rfl)⟩
  have SA := Lib.hid sa
  clear sa
  have SB := Lib.hid sb
  clear sb
  clear hx hp h h0 H1 h1 H2
  generalize hA : std = A
  subst hG
  generalize h_c : ci = c
  generalize h_fs : swF = fs
  generalize h_fR : swsF = fR
  cbv
  (repeat' (first | apply And.intro | apply BrB.mk | apply BrP.mk | intro _))
  all_goals try (refine loop_at Nat 17 (fun x => [(6, .any), (7, .any), (8, .any), (9, .any), (17, .v (.int .i64 (c x)))]) (fun _ o => o) (fun x => x ≤ a.ls.length ∧ allTo (fun i => sameWD (a.at i) (b.at i)) x = true) (fun x => a.ls.length - x) 0 ⟨Nat.zero_le _, rfl⟩ ?_ ?_
                 focus
                   show AS.le _ _
                   (cbv; (repeat' (first | apply And.intro | apply BrB.mk | apply BrP.mk | intro _)); all_goals (subst hA; subst h_c; subst h_fs; subst h_fR); all_goals (have f_sa := SA.out; have f_sb := SB.out); all_goals (try simp only [std, stdBin, stdCmp, stdUna, stdIn, ci, beq_iff_eq, bne_iff_ne, beq_eq_false_iff_ne, bne_eq_false_iff_eq, decide_eq_true_eq, decide_eq_false_iff_not, Bool.not_true, Bool.not_false, Bool.not_eq_true', Bool.not_eq_false', Bool.not_not, tn0, tn1, tn2, tn3] at *); (all_goals first | exact True.intro | rfl | exact congrArg (Value.int .i64) (by omega)))
                   done)
  all_goals try (intro x hx; cbv; refine BrB.mk (fun gx => ?_) (fun gx => ?_))
  all_goals (repeat' (first | apply And.intro | apply BrB.mk | apply BrP.mk | intro _))
  all_goals try (refine ⟨x + 1, ?_, ?_, ?_⟩)
  all_goals try (show AS.le _ _; cbv; (repeat' (first | apply And.intro | apply BrB.mk | apply BrP.mk | intro _)))
  (all_goals (subst hA; subst h_c; subst h_fs; subst h_fR); all_goals (have f_sa := SA.out; have f_sb := SB.out); all_goals (try simp only [std, stdBin, stdCmp, stdUna, stdIn, ci, beq_iff_eq, bne_iff_ne, beq_eq_false_iff_ne, bne_eq_false_iff_eq, decide_eq_true_eq, decide_eq_false_iff_not, Bool.not_true, Bool.not_false, Bool.not_eq_true', Bool.not_eq_false', Bool.not_not, tn0, tn1, tn2, tn3, swF, swsF, Int.toNat_natCast] at *); all_goals (try omega))
  all_goals first
    | exact True.intro
    | exact congrArg (Value.int .i64) (Int.natCast_succ _).symm
    | omega
    | (have hs : sameWD (a.at x) (b.at x) = false := (by assumption)
       refine vb ?_
       rw [allTo_false (x := x) (by omega) hs, Bool.and_false]
       done)
    | (refine ⟨by omega, ?_⟩
       have hs : sameWD (a.at x) (b.at x) = true := (by assumption)
       simp only [allTo, hx.2, hs, Bool.and_self])
    | (refine vb ?_
       have e : x = a.ls.length := (by omega)
       rw [← e, hx.2, decide_eq_true (show x = b.ls.length by omega)]; rfl)
    | (refine vb ?_; rw [decide_eq_false (show ¬ a.ls.length = b.ls.length by omega)]; rfl)
    | trace_state
/-! ### May it be -/
def noneB (D : List Int) (E : Int) (L M F : List Int) (G : Int) (H : List Int) : Bool := decide (D = [] ∧ E = 0 ∧ L = [] ∧ M = [] ∧ F = [] ∧ G = 0 ∧ H = [])
def noneF (xa : List AV) : Bool := match xa with
  | [.st [.st [.l D, .z E, .l L], .l M, .st [.l F, .z G, .l H]]] => noneB D E L M F G H
  | _ => false
theorem none_eq (D : List Int) (E : Int) (L M F : List Int) (G : Int) (H : List Int) : sameW D E L M F G H [] 0 [] [] [] 0 [] = noneB D E L M F G H := by
  unfold sameW sameTn noneB
  rw [Bool.eq_iff_iff]
  simp only [Bool.and_eq_true, beq_iff_eq, decide_eq_true_eq]
  constructor
  · rintro ⟨⟨⟨h1, h2, h3⟩, h4⟩, h5, h6, h7⟩
    exact ⟨h1, h2, h3, h4, h5, h6, h7⟩
  · rintro ⟨h1, h2, h3, h4, h5, h6, h7⟩
    exact ⟨⟨⟨h1, h2, h3⟩, h4⟩, h5, h6, h7⟩
theorem none24_ok : CtrOk Try.prog 116 (boolC [prmTy] noneF) := by
  obtain ⟨G, hG⟩ : ∃ G : List (FuncId × Ctr), G = [(85, boolC [.sl prmTy, .sl prmTy] swsF)] := ⟨_, rfl⟩
  refine fn_ok (ck := true) Try.func116 rfl tt_ok (G := G) (by rw [hG]; exact ⟨⟨pSame_ok, by unfold FnOk; kernel_rfl⟩, trivial⟩) mixed (by kernel_rfl) ?_
  intro xa xs h hx hp
  obtain ⟨a0, as0, x0, xs0, rfl, rfl, h0, H1⟩ := svArgs_cons h
  obtain ⟨rfl, rfl⟩ := svArgs_nil H1
  obtain ⟨pD, pE, pL, pM, pF, pG, pH, rfl, rfl⟩ := argSV_prm h0
  have sp : (Fits .i64 pD ∧ ci pD.length ≤ 9223372036854775807) ∧ (-9223372036854775808 ≤ pE ∧ pE ≤ 9223372036854775807) ∧ (Fits .i8 pL ∧ ci pL.length ≤ 9223372036854775807) ∧ (Fits .i32 pM ∧ ci pM.length ≤ 9223372036854775807) ∧ (Fits .i64 pF ∧ ci pF.length ≤ 9223372036854775807) ∧ (-9223372036854775808 ≤ pG ∧ pG ≤ 9223372036854775807) ∧ (Fits .i8 pH ∧ ci pH.length ≤ 9223372036854775807) := svf_prm (hx (.agg [.iimm .i64 pD, .v (.int .i64 pE), .iimm .i8 pL, .iimm .i32 pM, .iimm .i64 pF, .v (.int .i64 pG), .iimm .i8 pH]) (List.mem_of_getElem? (i := 0) rfl))
  have SP := Lib.hid sp
  clear sp
  clear hx hp h h0 H1
  generalize hA : std = A
  subst hG
  generalize h_c : ci = c
  generalize h_fs : swsF = fs
  generalize h_fR : noneF = fR
  cbv
  (repeat' (first | apply And.intro | apply BrB.mk | apply BrP.mk | intro _))
  (all_goals (subst hA; subst h_c; subst h_fs; subst h_fR); all_goals (have f_sp := SP.out); all_goals (try simp only [std, stdBin, stdCmp, stdUna, stdIn, ci, beq_iff_eq, bne_iff_ne, beq_eq_false_iff_ne, bne_eq_false_iff_eq, decide_eq_true_eq, decide_eq_false_iff_not, Bool.not_true, Bool.not_false, Bool.not_eq_true', Bool.not_eq_false', Bool.not_not, tn0, tn1, tn2, tn3, noneF] at *); all_goals (try omega))
  all_goals (refine vb ?_; rw [← none_eq])
  all_goals (show _ = (decide (1 = 1) && (true && sameWD _ _)))
  all_goals (have e : ∀ l : List Int, (Dat.list (List.map Dat.int l)).ints = l := fun l => (by simp only [Dat.ints, Dat.ls, List.map_map]; show List.map (fun z => z) l = l; simp))
  all_goals (have e0 : (Dat.list []).ints = [] := rfl)
  all_goals (unfold sameWD; simp [Dat.at, Dat.ls, Dat.fld, Dat.fs, Dat.z, e, e0])
def mvB (l : List Int) : Bool := allTo (fun i => decide (-1048576 ≤ l.getD i 0 ∧ l.getD i 0 ≤ 1048576)) l.length
def mvF (xa : List AV) : Bool := match xa with
  | [.l l] => mvB l
  | _ => false
theorem mv24_ok : CtrOk Try.prog 119 (boolC [.sl (.int .i32)] mvF) := by
  obtain ⟨G, hG⟩ : ∃ G : List (FuncId × Ctr), G = [] := ⟨_, rfl⟩
  refine fn_inl (ck := true) [(104, Try.f104), (132, Try.f132), (136, Try.f136)] ⟨⟨Try.func104, by unfold FnOk; kernel_rfl, by kernel_rfl⟩, ⟨Try.func132, by unfold FnOk; kernel_rfl, by kernel_rfl⟩, ⟨Try.func136, by unfold FnOk; kernel_rfl, by kernel_rfl⟩, trivial⟩ Try.func119 rfl tt_ok (G := G) (by rw [hG]; exact trivial) mixed (by kernel_rfl) ?_
  intro xa xs h hx hp
  obtain ⟨a0, as0, x0, xs0, rfl, rfl, h0, H1⟩ := svArgs_cons h
  obtain ⟨rfl, rfl⟩ := svArgs_nil H1
  obtain ⟨a, rfl, rfl⟩ := argSV_ints h0
  have sa : Fits .i32 a ∧ ci a.length ≤ 9223372036854775807 := svf_ints (hx (.iimm .i32 a) (by simp))
  have SA := Lib.hid sa
  clear sa
  clear hx hp h h0 H1
  generalize hA : std = A
  subst hG
  generalize h_c : ci = c
  generalize h_fR : mvF = fR
  cbv
  (repeat' (first | apply And.intro | apply BrB.mk | apply BrP.mk | intro _))
  all_goals try (refine loop_at Nat 8 (fun x => [(4, .any), (5, .any), (8, .v (.int .i64 (c x)))]) (fun _ o => o) (fun x => x ≤ a.length ∧ allTo (fun i => decide (-1048576 ≤ a.getD i 0 ∧ a.getD i 0 ≤ 1048576)) x = true) (fun x => a.length - x) 0 ⟨Nat.zero_le _, rfl⟩ ?hle ?round)
  case hle => (cbv; (repeat' (first | apply And.intro | apply BrB.mk | apply BrP.mk | intro _)); all_goals (subst hA; subst h_c; subst h_fR); all_goals (have f_sa := SA.out); all_goals (try simp only [std, stdBin, stdCmp, stdUna, stdIn, ci, beq_iff_eq, bne_iff_ne, beq_eq_false_iff_ne, bne_eq_false_iff_eq, decide_eq_true_eq, decide_eq_false_iff_not, Bool.not_true, Bool.not_false, Bool.not_eq_true', Bool.not_eq_false', Bool.not_not, tn0, tn1, tn2, tn3] at *); (all_goals first | exact True.intro | rfl | exact congrArg (Value.int .i64) (by omega)))
  case round =>
    intro x hx
    cbv
    (repeat' (first | apply And.intro | apply BrB.mk | apply BrP.mk | intro _))
    all_goals try (refine ⟨x + 1, ?_, ?_, ?_⟩)
    all_goals try (show AS.le _ _; (cbv; (repeat' (first | apply And.intro | apply BrB.mk | apply BrP.mk | intro _)); all_goals (subst hA; subst h_c; subst h_fR); all_goals (have f_sa := SA.out); all_goals (try simp only [std, stdBin, stdCmp, stdUna, stdIn, ci, beq_iff_eq, bne_iff_ne, beq_eq_false_iff_ne, bne_eq_false_iff_eq, decide_eq_true_eq, decide_eq_false_iff_not, Bool.not_true, Bool.not_false, Bool.not_eq_true', Bool.not_eq_false', Bool.not_not, tn0, tn1, tn2, tn3] at *); (all_goals first | exact True.intro | rfl | exact congrArg (Value.int .i64) (by omega))))
    (all_goals (subst hA; subst h_c; subst h_fR); all_goals (have f_sa := SA.out); all_goals (try simp only [std, stdBin, stdCmp, stdUna, stdIn, ci, beq_iff_eq, bne_iff_ne, beq_eq_false_iff_ne, bne_eq_false_iff_eq, decide_eq_true_eq, decide_eq_false_iff_not, Bool.not_true, Bool.not_false, Bool.not_eq_true', Bool.not_eq_false', Bool.not_not, tn0, tn1, tn2, tn3, mvF, Int.toNat_natCast] at *); all_goals (try omega))
    all_goals (have h2 : ((x : Int) ≥ 0) = True := (by simp))
    all_goals first
      | exact True.intro
      | omega
      | (refine ⟨by omega, ?_⟩
         have hs : decide (-1048576 ≤ a.getD x 0 ∧ a.getD x 0 ≤ 1048576) = true := decide_eq_true ⟨by omega, by omega⟩
         simp only [allTo, hx.2, hs, Bool.and_self])
      | (have hlt : (x : Int) < (a.length : Int) := (by assumption)
         have hs : mvB a = false := allTo_false (x := x) (by omega) (decide_eq_false (by rintro ⟨q1, q2⟩; omega))
         refine congrArg Value.bool ?_; rw [hs]; simp)
      | (have e : x = a.length := (by omega)
         have hs : mvB a = true := (by unfold mvB; rw [← e]; exact hx.2)
         refine congrArg Value.bool ?_; rw [hs]; simp)
      | trace_state
def mpB (D : List Int) (E : Int) (L M F : List Int) (G : Int) (H : List Int) : Bool := noneB D E L M F G H || (mayB ⟨D, E, L⟩ && mayB ⟨F, G, H⟩ && decide (F.length = 1) && decide (M.length = L.length) && mvB M)
def mpF (xa : List AV) : Bool := match xa with
  | [.st [.st [.l D, .z E, .l L], .l M, .st [.l F, .z G, .l H]]] => mpB D E L M F G H
  | _ => false
theorem mp24_ok : CtrOk Try.prog 83 (boolC [prmTy] mpF) := by
  obtain ⟨G, hG⟩ : ∃ G : List (FuncId × Ctr), G = [(116, boolC [prmTy] noneF), (102, boolC [tnTy .i8] tnMayF), (119, boolC [.sl (.int .i32)] mvF)] := ⟨_, rfl⟩
  refine fn_ok (ck := true) Try.func83 rfl tt_ok (G := G) (by rw [hG]; exact ⟨⟨none24_ok, by unfold FnOk; kernel_rfl⟩, ⟨tnMay_ok, by unfold FnOk; kernel_rfl⟩, ⟨mv24_ok, by unfold FnOk; kernel_rfl⟩, trivial⟩) mixed (by kernel_rfl) ?_
  intro xa xs h hx hp
  obtain ⟨a0, as0, x0, xs0, rfl, rfl, h0, H1⟩ := svArgs_cons h
  obtain ⟨rfl, rfl⟩ := svArgs_nil H1
  obtain ⟨pD, pE, pL, pM, pF, pG, pH, rfl, rfl⟩ := argSV_prm h0
  have sp : (Fits .i64 pD ∧ ci pD.length ≤ 9223372036854775807) ∧ (-9223372036854775808 ≤ pE ∧ pE ≤ 9223372036854775807) ∧ (Fits .i8 pL ∧ ci pL.length ≤ 9223372036854775807) ∧ (Fits .i32 pM ∧ ci pM.length ≤ 9223372036854775807) ∧ (Fits .i64 pF ∧ ci pF.length ≤ 9223372036854775807) ∧ (-9223372036854775808 ≤ pG ∧ pG ≤ 9223372036854775807) ∧ (Fits .i8 pH ∧ ci pH.length ≤ 9223372036854775807) := svf_prm (hx (.agg [.iimm .i64 pD, .v (.int .i64 pE), .iimm .i8 pL, .iimm .i32 pM, .iimm .i64 pF, .v (.int .i64 pG), .iimm .i8 pH]) (List.mem_of_getElem? (i := 0) rfl))
  have SP := Lib.hid sp
  clear sp
  clear hx hp h h0 H1
  generalize hA : std = A
  subst hG
  generalize h_c : ci = c
  generalize h_fn : noneF = fn
  generalize h_ft : tnMayF = ft
  generalize h_fm : mvF = fm
  generalize h_fR : mpF = fR
  cbv
  (repeat' (first | apply And.intro | apply BrB.mk | apply BrP.mk | intro _))
  (all_goals (subst hA; subst h_c; subst h_fn; subst h_ft; subst h_fm; subst h_fR); all_goals (have f_sp := SP.out); all_goals (try simp only [std, stdBin, stdCmp, stdUna, stdIn, ci, beq_iff_eq, bne_iff_ne, beq_eq_false_iff_ne, bne_eq_false_iff_eq, decide_eq_true_eq, decide_eq_false_iff_not, Bool.not_true, Bool.not_false, Bool.not_eq_true', Bool.not_eq_false', Bool.not_not, tn0, tn1, tn2, tn3, noneF, tnMayF, mvF, mpF] at *); all_goals (try omega))
  all_goals (refine vb ?_; unfold mpB)
  all_goals first
    | (simp_all; done)
    | (have hn : noneB pD pE pL pM pF pG pH = false := (by assumption)
       have h1 : mayB ⟨pD, pE, pL⟩ = true := (by assumption)
       have h2 : mayB ⟨pF, pG, pH⟩ = true := (by assumption)
       rw [hn, h1, h2]
       first
         | (rw [decide_eq_true (show pF.length = 1 by omega), decide_eq_true (show pM.length = pL.length by omega)]; simp; done)
         | (rw [decide_eq_false (show ¬ pF.length = 1 by omega)]; simp; done)
         | (rw [decide_eq_false (show ¬ pM.length = pL.length by omega)]; simp; done))
    | trace_state
def mpD (x : Dat) : Bool := mpB (((x.fld 0).fld 0).ints) (((x.fld 0).fld 1).z) (((x.fld 0).fld 2).ints) ((x.fld 1).ints) (((x.fld 2).fld 0).ints) (((x.fld 2).fld 1).z) (((x.fld 2).fld 2).ints)
def mayStB (k : Int) (x : Dat) : Bool := decide (0 ≤ k ∧ k ≤ 1000000 ∧ x.ls.length ≤ 12) && allTo (fun i => mpD (x.at i)) x.ls.length
def mayStF (xa : List AV) : Bool := match xa with
  | [.st [.z s, .z k, .d x]] => mayStB k x
  | _ => false
theorem may24_ok : CtrOk Try.prog 35 (boolC [sttTy] mayStF) := by
  obtain ⟨G, hG⟩ : ∃ G : List (FuncId × Ctr), G = [(83, boolC [prmTy] mpF)] := ⟨_, rfl⟩
  refine fn_ok (ck := true) Try.func35 rfl tt_ok (G := G) (by rw [hG]; exact ⟨⟨mp24_ok, by unfold FnOk; kernel_rfl⟩, trivial⟩) mixed (by kernel_rfl) ?_
  intro xa xs h hx hp
  obtain ⟨a0, as0, x0, xs0, rfl, rfl, h0, H1⟩ := svArgs_cons h
  obtain ⟨rfl, rfl⟩ := svArgs_nil H1
  obtain ⟨ds, dk, dx, rfl, rfl⟩ := argSV_stt h0
  have sd : ((Lit.int .u64 ds).wf = true) ∧ (-9223372036854775808 ≤ dk ∧ dk ≤ 9223372036854775807) ∧ ((ci dx.ls.length ≤ 9223372036854775807) ∧ Wt (.sl prmTy) dx) := svf_stt (hx (.agg [.v (.int .u64 ds), .v (.int .i64 dk), .imm prmTy dx]) (List.mem_of_getElem? (i := 0) rfl))
  have SD := Lib.hid sd
  clear sd
  clear hx hp h h0 H1
  generalize hA : std = A
  subst hG
  generalize h_c : ci = c
  generalize h_fp : mpF = fp
  generalize h_fR : mayStF = fR
  cbv
  (repeat' (first | apply And.intro | apply BrB.mk | apply BrP.mk | intro _))
  (all_goals try (exfalso; (subst hA; subst h_c; subst h_fp; subst h_fR); (try simp only [std, stdBin, stdCmp, stdUna, stdIn, ci, beq_iff_eq, bne_iff_ne, beq_eq_false_iff_ne, bne_eq_false_iff_eq, decide_eq_true_eq, decide_eq_false_iff_not, Bool.not_true, Bool.not_false, Bool.not_eq_true', Bool.not_eq_false', Bool.not_not, tn0, tn1, tn2, tn3] at *); first | omega | contradiction))
  all_goals try (refine loop_at Nat 22 (fun x => [(2, .any), (4, .any), (22, .v (.int .i64 (c x)))]) (fun _ o => o) (fun x => x ≤ dx.ls.length ∧ allTo (fun i => mpD (dx.at i)) x = true) (fun x => dx.ls.length - x) 0 ⟨Nat.zero_le _, rfl⟩ ?_ ?_
                 focus
                   show AS.le _ _
                   (cbv; (repeat' (first | apply And.intro | apply BrB.mk | apply BrP.mk | intro _)); all_goals (subst hA; subst h_c; subst h_fp; subst h_fR); all_goals (have f_sd := SD.out); all_goals (try simp only [std, stdBin, stdCmp, stdUna, stdIn, ci, beq_iff_eq, bne_iff_ne, beq_eq_false_iff_ne, bne_eq_false_iff_eq, decide_eq_true_eq, decide_eq_false_iff_not, Bool.not_true, Bool.not_false, Bool.not_eq_true', Bool.not_eq_false', Bool.not_not, tn0, tn1, tn2, tn3] at *); (all_goals first | exact True.intro | rfl | exact congrArg (Value.int .i64) (by omega)))
                   done)
  all_goals try (intro x hx; cbv; refine BrB.mk (fun gx => ?_) (fun gx => ?_))
  all_goals (repeat' (first | apply And.intro | apply BrB.mk | apply BrP.mk | intro _))
  all_goals try (refine ⟨x + 1, ?_, ?_, ?_⟩)
  all_goals try (show AS.le _ _; cbv; (repeat' (first | apply And.intro | apply BrB.mk | apply BrP.mk | intro _)))
  (all_goals (subst hA; subst h_c; subst h_fp; subst h_fR); all_goals (have f_sd := SD.out); all_goals (try simp only [std, stdBin, stdCmp, stdUna, stdIn, ci, beq_iff_eq, bne_iff_ne, beq_eq_false_iff_ne, bne_eq_false_iff_eq, decide_eq_true_eq, decide_eq_false_iff_not, Bool.not_true, Bool.not_false, Bool.not_eq_true', Bool.not_eq_false', Bool.not_not, tn0, tn1, tn2, tn3, mpF, mayStF, Int.toNat_natCast] at *); all_goals (try omega))
  all_goals first
    | exact True.intro
    | exact congrArg (Value.int .i64) (Int.natCast_succ _).symm
    | omega
    | (have hs : mpD (dx.at x) = false := (by assumption)
       refine vb ?_
       unfold mayStB
       rw [allTo_false (x := x) (by omega) hs, Bool.and_false]
       done)
    | (refine ⟨by omega, ?_⟩
       have hs : mpD (dx.at x) = true := (by assumption)
       simp only [allTo, hx.2, hs, Bool.and_self])
    | (refine vb ?_
       have e : x = dx.ls.length := (by omega)
       unfold mayStB
       rw [← e, hx.2, decide_eq_true (by omega)]; rfl)
    | (refine vb ?_; unfold mayStB; rw [decide_eq_false (by omega), Bool.false_and])
    | trace_state
/-! ### Alike -/
def sameStB (s k : Int) (x : Dat) (s' k' : Int) (y : Dat) : Bool := decide (s = s' ∧ k = k') && swsF [.d x, .d y]
def sameStF (xa : List AV) : Bool := match xa with
  | [.st [.z s, .z k, .d x], .st [.z s', .z k', .d y]] => sameStB s k x s' k' y
  | _ => false
theorem same24_ok : CtrOk Try.prog 37 (boolC [sttTy, sttTy] sameStF) := by
  obtain ⟨G, hG⟩ : ∃ G : List (FuncId × Ctr), G = [(85, boolC [.sl prmTy, .sl prmTy] swsF)] := ⟨_, rfl⟩
  refine fn_ok (ck := true) Try.func37 rfl tt_ok (G := G) (by rw [hG]; exact ⟨⟨pSame_ok, by unfold FnOk; kernel_rfl⟩, trivial⟩) mixed (by kernel_rfl) ?_
  intro xa xs h hx hp
  obtain ⟨a0, as0, x0, xs0, rfl, rfl, h0, H1⟩ := svArgs_cons h
  obtain ⟨a1, as1, x1, xs1, rfl, rfl, h1, H2⟩ := svArgs_cons H1
  obtain ⟨rfl, rfl⟩ := svArgs_nil H2
  obtain ⟨ps, pk, px, rfl, rfl⟩ := argSV_stt h0
  obtain ⟨qs, qk, qx, rfl, rfl⟩ := argSV_stt h1
  have sp : ((Lit.int .u64 ps).wf = true) ∧ (-9223372036854775808 ≤ pk ∧ pk ≤ 9223372036854775807) ∧ ((ci px.ls.length ≤ 9223372036854775807) ∧ Wt (.sl prmTy) px) := svf_stt (hx (.agg [.v (.int .u64 ps), .v (.int .i64 pk), .imm prmTy px]) (List.mem_of_getElem? (i := 0) rfl))
  have sq : ((Lit.int .u64 qs).wf = true) ∧ (-9223372036854775808 ≤ qk ∧ qk ≤ 9223372036854775807) ∧ ((ci qx.ls.length ≤ 9223372036854775807) ∧ Wt (.sl prmTy) qx) := svf_stt (hx (.agg [.v (.int .u64 qs), .v (.int .i64 qk), .imm prmTy qx]) (List.mem_of_getElem? (i := 1) rfl))
  have SP := Lib.hid sp
  clear sp
  have SQ := Lib.hid sq
  clear sq
  clear hx hp h h0 H1 h1 H2
  generalize hA : std = A
  subst hG
  generalize h_c : ci = c
  generalize h_fs : swsF = fs
  generalize h_fR : sameStF = fR
  cbv
  (repeat' (first | apply And.intro | apply BrB.mk | apply BrP.mk | intro _))
  (all_goals (subst hA; subst h_c; subst h_fs; subst h_fR); all_goals (have f_sp := SP.out; have f_sq := SQ.out); all_goals (try simp only [std, stdBin, stdCmp, stdUna, stdIn, ci, beq_iff_eq, bne_iff_ne, beq_eq_false_iff_ne, bne_eq_false_iff_eq, decide_eq_true_eq, decide_eq_false_iff_not, Bool.not_true, Bool.not_false, Bool.not_eq_true', Bool.not_eq_false', Bool.not_not, tn0, tn1, tn2, tn3, sameStF] at *); all_goals (try omega))
  all_goals (refine vb ?_; unfold sameStB)
  all_goals first
    | (simp_all; done)
    | trace_state
end Go.Proofs.Ytekokhlldcmjfaa
