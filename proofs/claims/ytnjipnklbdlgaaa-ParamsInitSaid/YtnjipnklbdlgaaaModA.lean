/- Layer 15: may a model be. -/
import Derived.Test.YtnjipnklbdlgaaaMayAll
namespace Go.Proofs.Ytnjipnklbdlgaaa
open Go.RowKit
set_option maxRecDepth 100000
set_option linter.unusedSimpArgs false
set_option linter.unusedVariables false
set_option maxHeartbeats 8000000
set_option cbv.maxSteps 10000000
abbrev layTy : Ty := .st [.int .i64, .int .i64, .int .i64, .int .i64, .int .i64, .int .i64, .bool]
theorem argSV_lay {a : AV} {x : SV} (h : argSV layTy a = some x) : ∃ (v_k : Int) (v_o : Int) (v_w : Int) (v_s : Int) (v_p : Int) (v_f : Int) (v_z : Bool), a = .st [.z v_k, .z v_o, .z v_w, .z v_s, .z v_p, .z v_f, .b v_z] ∧ x = .agg [.v (.int .i64 v_k), .v (.int .i64 v_o), .v (.int .i64 v_w), .v (.int .i64 v_s), .v (.int .i64 v_p), .v (.int .i64 v_f), .v (.bool v_z)] := by
  obtain ⟨as0, l0, rfl, rfl, h0⟩ := argSV_st h
  obtain ⟨a1, as1, x1, m1, rfl, rfl, p1, h1⟩ := svAVs_cons h0
  obtain ⟨v_k, rfl, rfl⟩ := svAV_int p1
  obtain ⟨a2, as2, x2, m2, rfl, rfl, p2, h2⟩ := svAVs_cons h1
  obtain ⟨v_o, rfl, rfl⟩ := svAV_int p2
  obtain ⟨a3, as3, x3, m3, rfl, rfl, p3, h3⟩ := svAVs_cons h2
  obtain ⟨v_w, rfl, rfl⟩ := svAV_int p3
  obtain ⟨a4, as4, x4, m4, rfl, rfl, p4, h4⟩ := svAVs_cons h3
  obtain ⟨v_s, rfl, rfl⟩ := svAV_int p4
  obtain ⟨a5, as5, x5, m5, rfl, rfl, p5, h5⟩ := svAVs_cons h4
  obtain ⟨v_p, rfl, rfl⟩ := svAV_int p5
  obtain ⟨a6, as6, x6, m6, rfl, rfl, p6, h6⟩ := svAVs_cons h5
  obtain ⟨v_f, rfl, rfl⟩ := svAV_int p6
  obtain ⟨a7, as7, x7, m7, rfl, rfl, p7, h7⟩ := svAVs_cons h6
  obtain ⟨v_z, rfl, rfl⟩ := svAV_bool p7
  obtain ⟨rfl, rfl⟩ := svAVs_nil h7
  exact ⟨v_k, v_o, v_w, v_s, v_p, v_f, v_z, rfl, rfl⟩
theorem svf_lay {v_k : Int} {v_o : Int} {v_w : Int} {v_s : Int} {v_p : Int} {v_f : Int} {v_z : Bool} (h : SVf (.agg [.v (.int .i64 v_k), .v (.int .i64 v_o), .v (.int .i64 v_w), .v (.int .i64 v_s), .v (.int .i64 v_p), .v (.int .i64 v_f), .v (.bool v_z)])) : (-9223372036854775808 ≤ v_k ∧ v_k ≤ 9223372036854775807) ∧ (-9223372036854775808 ≤ v_o ∧ v_o ≤ 9223372036854775807) ∧ (-9223372036854775808 ≤ v_w ∧ v_w ≤ 9223372036854775807) ∧ (-9223372036854775808 ≤ v_s ∧ v_s ≤ 9223372036854775807) ∧ (-9223372036854775808 ≤ v_p ∧ v_p ≤ 9223372036854775807) ∧ (-9223372036854775808 ≤ v_f ∧ v_f ≤ 9223372036854775807) := by
  exact ⟨of_i64 (h (.v (.int .i64 v_k)) (by simp)), of_i64 (h (.v (.int .i64 v_o)) (by simp)), of_i64 (h (.v (.int .i64 v_w)) (by simp)), of_i64 (h (.v (.int .i64 v_s)) (by simp)), of_i64 (h (.v (.int .i64 v_p)) (by simp)), of_i64 (h (.v (.int .i64 v_f)) (by simp))⟩
abbrev mdlTy : Ty := .st [.st [.int .i64, .int .i64, .int .i64], .sl layTy]
theorem argSV_mdl {a : AV} {x : SV} (h : argSV mdlTy a = some x) : ∃ (v_c : Int) (v_h : Int) (v_w : Int) (v_x : Dat), a = .st [.st [.z v_c, .z v_h, .z v_w], .d v_x] ∧ x = .agg [.v (.int .i64 v_c), .v (.int .i64 v_h), .v (.int .i64 v_w), .imm layTy v_x] := by
  obtain ⟨as0, l0, rfl, rfl, h0⟩ := argSV_st h
  obtain ⟨a1, as1, x1, m1, rfl, rfl, p1, h1⟩ := svAVs_cons h0
  obtain ⟨bs1, rfl, q1⟩ := svAV_st p1
  obtain ⟨a2, as2, x2, m2, rfl, rfl, p2, h2⟩ := svAVs_cons q1
  obtain ⟨v_c, rfl, rfl⟩ := svAV_int p2
  obtain ⟨a3, as3, x3, m3, rfl, rfl, p3, h3⟩ := svAVs_cons h2
  obtain ⟨v_h, rfl, rfl⟩ := svAV_int p3
  obtain ⟨a4, as4, x4, m4, rfl, rfl, p4, h4⟩ := svAVs_cons h3
  obtain ⟨v_w, rfl, rfl⟩ := svAV_int p4
  obtain ⟨rfl, rfl⟩ := svAVs_nil h4
  obtain ⟨a5, as5, x5, m5, rfl, rfl, p5, h5⟩ := svAVs_cons h1
  obtain ⟨v_x, rfl, rfl⟩ := svAV_rows p5
  obtain ⟨rfl, rfl⟩ := svAVs_nil h5
  exact ⟨v_c, v_h, v_w, v_x, rfl, rfl⟩
theorem svf_mdl {v_c : Int} {v_h : Int} {v_w : Int} {v_x : Dat} (h : SVf (.agg [.v (.int .i64 v_c), .v (.int .i64 v_h), .v (.int .i64 v_w), .imm layTy v_x])) : (-9223372036854775808 ≤ v_c ∧ v_c ≤ 9223372036854775807) ∧ (-9223372036854775808 ≤ v_h ∧ v_h ≤ 9223372036854775807) ∧ (-9223372036854775808 ≤ v_w ∧ v_w ≤ 9223372036854775807) ∧ ((ci v_x.ls.length ≤ 9223372036854775807) ∧ Wt (.sl layTy) v_x) := by
  exact ⟨of_i64 (h (.v (.int .i64 v_c)) (by simp)), of_i64 (h (.v (.int .i64 v_h)) (by simp)), of_i64 (h (.v (.int .i64 v_w)) (by simp)), ⟨wtl_len (h (.imm layTy v_x) (by simp)), h (.imm layTy v_x) (by simp)⟩⟩
def boolP (ts : List Ty) (p : List AV → Prop) (f : List AV → Bool) : Ctr := ⟨ts, fun xa => some (p xa), fun xa => .ret (.v (.bool (f xa))) [], false⟩
def inB (n lo hi : Int) : Bool := decide (lo ≤ n ∧ n ≤ hi)
def inF (xa : List AV) : Bool := match xa with
  | [.z n, .z lo, .z hi] => inB n lo hi
  | _ => false
def winB (w s : Int) : Bool := decide ((1 ≤ w ∧ w ≤ 5) ∧ 1 ≤ s ∧ s ≤ 4)
def winF (xa : List AV) : Bool := match xa with
  | [.st [.z k, .z o, .z w, .z s, .z p, .z f, .b z]] => winB w s
  | _ => false
/-- A layer, with so many ahead of it. -/
def layB (k o w s p f : Int) (z : Bool) (ahead : Int) : Bool :=
  if k = 1 then decide (w = 0 ∧ s = 0 ∧ p = 0 ∧ f = 0 ∧ 1 ≤ o ∧ o ≤ 4096)
  else if k = 2 then decide (f = 0 ∧ (1 ≤ o ∧ o ≤ 8) ∧ (1 ≤ w ∧ w ≤ 5) ∧ (1 ≤ s ∧ s ≤ 4) ∧ 0 ≤ p ∧ p ≤ w - 1)
  else if k = 3 ∨ k = 4 then decide (o = 0 ∧ p = 0 ∧ f = 0 ∧ z = false ∧ (1 ≤ w ∧ w ≤ 5) ∧ 1 ≤ s ∧ s ≤ 4)
  else if k = 5 ∨ k = 6 then decide (o = 0 ∧ w = 0 ∧ s = 0 ∧ p = 0 ∧ f = 0 ∧ z = false)
  else if k = 7 then decide (o = 0 ∧ w = 0 ∧ s = 0 ∧ p = 0 ∧ z = false ∧ 0 ≤ f ∧ f ≤ ahead - 1)
  else false
def layF (xa : List AV) : Bool := match xa with
  | [.st [.z k, .z o, .z w, .z s, .z p, .z f, .b z], .z a] => layB k o w s p f z a
  | _ => false
def layP (xa : List AV) : Prop := match xa with
  | [.st [.z k, .z o, .z w, .z s, .z p, .z f, .b z], .z a] => 0 ≤ a ∧ a ≤ 12
  | _ => False
theorem mwithin_ok : CtrOk Try.prog 58 (boolC [.int .i64, .int .i64, .int .i64] inF) := by
  obtain ⟨G, hG⟩ : ∃ G : List (FuncId × Ctr), G = [] := ⟨_, rfl⟩
  refine fn_ok (ck := true) Try.func58 rfl tt_ok (G := G) (by rw [hG]; exact trivial) mixed (by kernel_rfl) ?_
  intro xa xs h hx hp
  obtain ⟨a0, as0, x0, xs0, rfl, rfl, h0, H1⟩ := svArgs_cons h
  obtain ⟨a1, as1, x1, xs1, rfl, rfl, h1, H2⟩ := svArgs_cons H1
  obtain ⟨a2, as2, x2, xs2, rfl, rfl, h2, H3⟩ := svArgs_cons H2
  obtain ⟨rfl, rfl⟩ := svArgs_nil H3
  obtain ⟨n, rfl, rfl⟩ := argSV_int h0
  obtain ⟨a, rfl, rfl⟩ := argSV_int h1
  obtain ⟨b, rfl, rfl⟩ := argSV_int h2
  have sn := of_i64 (hx (.v (.int .i64 n)) (by simp))
  have sa := of_i64 (hx (.v (.int .i64 a)) (by simp))
  have sb := of_i64 (hx (.v (.int .i64 b)) (by simp))
  have SN := Lib.hid sn
  clear sn
  have SA := Lib.hid sa
  clear sa
  have SB := Lib.hid sb
  clear sb
  clear hx hp h h0 H1 h1 H2 h2 H3
  generalize hA : std = A
  subst hG
  generalize h_c : ci = c
  generalize h_fR : inF = fR
  cbv
  (repeat' (first | apply And.intro | apply BrB.mk | apply BrP.mk | intro _))
  (all_goals (subst hA; subst h_c; subst h_fR); all_goals (have f_sn := SN.out; have f_sa := SA.out; have f_sb := SB.out); all_goals (try simp only [std, stdBin, stdCmp, stdUna, stdIn, ci, beq_iff_eq, bne_iff_ne, beq_eq_false_iff_ne, bne_eq_false_iff_eq, decide_eq_true_eq, decide_eq_false_iff_not, Bool.not_true, Bool.not_false, Bool.not_eq_true', Bool.not_eq_false', Bool.not_not, tn0, tn1, tn2, tn3, inF] at *); all_goals (try omega))
  all_goals (refine vb ?_; simp only [inF, inB])
  all_goals first | (rw [decide_eq_decide]; omega) | (rw [decide_eq_false_iff_not]; omega) | (rw [decide_eq_true_eq]; omega) | trace_state
theorem mwin_ok : CtrOk Try.prog 72 (boolC [layTy] winF) := by
  obtain ⟨G, hG⟩ : ∃ G : List (FuncId × Ctr), G = [(58, boolC [.int .i64, .int .i64, .int .i64] inF)] := ⟨_, rfl⟩
  refine fn_ok (ck := true) Try.func72 rfl tt_ok (G := G) (by rw [hG]; exact ⟨⟨mwithin_ok, by unfold FnOk; kernel_rfl⟩, trivial⟩) mixed (by kernel_rfl) ?_
  intro xa xs h hx hp
  obtain ⟨a0, as0, x0, xs0, rfl, rfl, h0, H1⟩ := svArgs_cons h
  obtain ⟨rfl, rfl⟩ := svArgs_nil H1
  obtain ⟨lk, lo, lw, ls, lp, lf, lz, rfl, rfl⟩ := argSV_lay h0
  have sl : (-9223372036854775808 ≤ lk ∧ lk ≤ 9223372036854775807) ∧ (-9223372036854775808 ≤ lo ∧ lo ≤ 9223372036854775807) ∧ (-9223372036854775808 ≤ lw ∧ lw ≤ 9223372036854775807) ∧ (-9223372036854775808 ≤ ls ∧ ls ≤ 9223372036854775807) ∧ (-9223372036854775808 ≤ lp ∧ lp ≤ 9223372036854775807) ∧ (-9223372036854775808 ≤ lf ∧ lf ≤ 9223372036854775807) := svf_lay (hx (.agg [.v (.int .i64 lk), .v (.int .i64 lo), .v (.int .i64 lw), .v (.int .i64 ls), .v (.int .i64 lp), .v (.int .i64 lf), .v (.bool lz)]) (List.mem_of_getElem? (i := 0) rfl))
  have SL := Lib.hid sl
  clear sl
  clear hx hp h h0 H1
  generalize hA : std = A
  subst hG
  generalize h_c : ci = c
  generalize h_fi : inF = fi
  generalize h_fR : winF = fR
  cbv
  (repeat' (first | apply And.intro | apply BrB.mk | apply BrP.mk | intro _))
  (all_goals (subst hA; subst h_c; subst h_fi; subst h_fR); all_goals (have f_sl := SL.out); all_goals (try simp only [std, stdBin, stdCmp, stdUna, stdIn, ci, beq_iff_eq, bne_iff_ne, beq_eq_false_iff_ne, bne_eq_false_iff_eq, decide_eq_true_eq, decide_eq_false_iff_not, Bool.not_true, Bool.not_false, Bool.not_eq_true', Bool.not_eq_false', Bool.not_not, tn0, tn1, tn2, tn3, inF, inB, winF] at *); all_goals (try omega))
  all_goals (refine vb ?_; simp only [winF, winB, inB] at *)
  all_goals first | (rw [decide_eq_decide]; omega) | (rw [decide_eq_false_iff_not]; omega) | (rw [decide_eq_true_eq]; omega) | trace_state
theorem mlay_ok : CtrOk Try.prog 59 (boolP [layTy, .int .i64] layP layF) := by
  obtain ⟨G, hG⟩ : ∃ G : List (FuncId × Ctr), G = [(58, boolC [.int .i64, .int .i64, .int .i64] inF), (72, boolC [layTy] winF)] := ⟨_, rfl⟩
  refine fn_ok (ck := true) Try.func59 rfl tt_ok (G := G) (by rw [hG]; exact ⟨⟨mwithin_ok, by unfold FnOk; kernel_rfl⟩, ⟨mwin_ok, by unfold FnOk; kernel_rfl⟩, trivial⟩) mixed (by kernel_rfl) ?_
  intro xa xs h hx hp
  obtain ⟨a0, as0, x0, xs0, rfl, rfl, h0, H1⟩ := svArgs_cons h
  obtain ⟨a1, as1, x1, xs1, rfl, rfl, h1, H2⟩ := svArgs_cons H1
  obtain ⟨rfl, rfl⟩ := svArgs_nil H2
  obtain ⟨lk, lo, lw, ls, lp, lf, lz, rfl, rfl⟩ := argSV_lay h0
  obtain ⟨a, rfl, rfl⟩ := argSV_int h1
  have sl : (-9223372036854775808 ≤ lk ∧ lk ≤ 9223372036854775807) ∧ (-9223372036854775808 ≤ lo ∧ lo ≤ 9223372036854775807) ∧ (-9223372036854775808 ≤ lw ∧ lw ≤ 9223372036854775807) ∧ (-9223372036854775808 ≤ ls ∧ ls ≤ 9223372036854775807) ∧ (-9223372036854775808 ≤ lp ∧ lp ≤ 9223372036854775807) ∧ (-9223372036854775808 ≤ lf ∧ lf ≤ 9223372036854775807) := svf_lay (hx (.agg [.v (.int .i64 lk), .v (.int .i64 lo), .v (.int .i64 lw), .v (.int .i64 ls), .v (.int .i64 lp), .v (.int .i64 lf), .v (.bool lz)]) (List.mem_of_getElem? (i := 0) rfl))
  have sa := of_i64 (hx (.v (.int .i64 a)) (by simp))
  have SL := Lib.hid sl
  clear sl
  have SA := Lib.hid sa
  clear sa
  have HP := Lib.hid (hp _ rfl)
  clear hx hp h h0 H1 h1 H2
  generalize hA : std = A
  subst hG
  generalize h_c : ci = c
  generalize h_fi : inF = fi
  generalize h_fw : winF = fw
  generalize h_fR : layF = fR
  cbv
  (repeat' (first | apply And.intro | apply BrB.mk | apply BrP.mk | intro _))
  (all_goals (subst hA; subst h_c; subst h_fi; subst h_fw; subst h_fR); all_goals (have f_sl := SL.out; have f_sa := SA.out; have f_hp := HP.out); all_goals (try simp only [std, stdBin, stdCmp, stdUna, stdIn, ci, beq_iff_eq, bne_iff_ne, beq_eq_false_iff_ne, bne_eq_false_iff_eq, decide_eq_true_eq, decide_eq_false_iff_not, Bool.not_true, Bool.not_false, Bool.not_eq_true', Bool.not_eq_false', Bool.not_not, tn0, tn1, tn2, tn3, inF, inB, winF, winB, layP, layF] at *); all_goals (try omega))
  all_goals (refine vb ?_; rw [Bool.eq_iff_iff]; unfold layB)
  all_goals (cases lz <;> (repeat' split) <;> try first | omega | (simp_all; done) | (simp_all; omega))
  · constructor
    · intro hh
      have h1 := of_decide_eq_true hh
      exact decide_eq_true ⟨h1.2.2.2.2.1, h1.2.2.2.2.2⟩
    · intro hh
      have h1 := of_decide_eq_true hh
      exact decide_eq_true (by omega)
  · constructor
    · intro hh
      have h1 := of_decide_eq_true hh
      exact decide_eq_true ⟨h1.2.2.2.2.1, h1.2.2.2.2.2⟩
    · intro hh
      have h1 := of_decide_eq_true hh
      exact decide_eq_true (by omega)
  · constructor
    · intro hh
      have h1 := of_decide_eq_true hh
      exact decide_eq_true ⟨h1.2.2.2.2.2.1, h1.2.2.2.2.2.2⟩
    · intro hh
      have h1 := of_decide_eq_true hh
      simp only [Bool.and_eq_true, beq_iff_eq] at *
      exact decide_eq_true ⟨by omega, by omega, by omega, by omega, by trivial, h1.1, h1.2⟩
abbrev in3Ty : Ty := .st [.int .i64, .int .i64, .int .i64]
theorem argSV_in3 {a : AV} {x : SV} (h : argSV in3Ty a = some x) : ∃ (v_a : Int) (v_b : Int) (v_c : Int), a = .st [.z v_a, .z v_b, .z v_c] ∧ x = .agg [.v (.int .i64 v_a), .v (.int .i64 v_b), .v (.int .i64 v_c)] := by
  obtain ⟨as0, l0, rfl, rfl, h0⟩ := argSV_st h
  obtain ⟨a1, as1, x1, m1, rfl, rfl, p1, h1⟩ := svAVs_cons h0
  obtain ⟨v_a, rfl, rfl⟩ := svAV_int p1
  obtain ⟨a2, as2, x2, m2, rfl, rfl, p2, h2⟩ := svAVs_cons h1
  obtain ⟨v_b, rfl, rfl⟩ := svAV_int p2
  obtain ⟨a3, as3, x3, m3, rfl, rfl, p3, h3⟩ := svAVs_cons h2
  obtain ⟨v_c, rfl, rfl⟩ := svAV_int p3
  obtain ⟨rfl, rfl⟩ := svAVs_nil h3
  exact ⟨v_a, v_b, v_c, rfl, rfl⟩
theorem svf_in3 {v_a : Int} {v_b : Int} {v_c : Int} (h : SVf (.agg [.v (.int .i64 v_a), .v (.int .i64 v_b), .v (.int .i64 v_c)])) : (-9223372036854775808 ≤ v_a ∧ v_a ≤ 9223372036854775807) ∧ (-9223372036854775808 ≤ v_b ∧ v_b ≤ 9223372036854775807) ∧ (-9223372036854775808 ≤ v_c ∧ v_c ≤ 9223372036854775807) := by
  exact ⟨of_i64 (h (.v (.int .i64 v_a)) (by simp)), of_i64 (h (.v (.int .i64 v_b)) (by simp)), of_i64 (h (.v (.int .i64 v_c)) (by simp))⟩
def in3B (a b c : Int) : Bool := inB a 1 8 && (inB b 1 16 && inB c 1 16)
def in3F (xa : List AV) : Bool := match xa with
  | [.st [.z a, .z b, .z c]] => in3B a b c
  | _ => false
theorem min_ok : CtrOk Try.prog 57 (boolC [in3Ty] in3F) := by
  obtain ⟨G, hG⟩ : ∃ G : List (FuncId × Ctr), G = [(58, boolC [.int .i64, .int .i64, .int .i64] inF)] := ⟨_, rfl⟩
  refine fn_ok (ck := true) Try.func57 rfl tt_ok (G := G) (by rw [hG]; exact ⟨⟨mwithin_ok, by unfold FnOk; kernel_rfl⟩, trivial⟩) mixed (by kernel_rfl) ?_
  intro xa xs h hx hp
  obtain ⟨a0, as0, x0, xs0, rfl, rfl, h0, H1⟩ := svArgs_cons h
  obtain ⟨rfl, rfl⟩ := svArgs_nil H1
  obtain ⟨ta, tb, tc, rfl, rfl⟩ := argSV_in3 h0
  have st : (-9223372036854775808 ≤ ta ∧ ta ≤ 9223372036854775807) ∧ (-9223372036854775808 ≤ tb ∧ tb ≤ 9223372036854775807) ∧ (-9223372036854775808 ≤ tc ∧ tc ≤ 9223372036854775807) := svf_in3 (hx (.agg [.v (.int .i64 ta), .v (.int .i64 tb), .v (.int .i64 tc)]) (List.mem_of_getElem? (i := 0) rfl))
  have ST := Lib.hid st
  clear st
  clear hx hp h h0 H1
  generalize hA : std = A
  subst hG
  generalize h_c : ci = c
  generalize h_fi : inF = fi
  generalize h_fR : in3F = fR
  cbv
  (repeat' (first | apply And.intro | apply BrB.mk | apply BrP.mk | intro _))
  (all_goals (subst hA; subst h_c; subst h_fi; subst h_fR); all_goals (have f_st := ST.out); all_goals (try simp only [std, stdBin, stdCmp, stdUna, stdIn, ci, beq_iff_eq, bne_iff_ne, beq_eq_false_iff_ne, bne_eq_false_iff_eq, decide_eq_true_eq, decide_eq_false_iff_not, Bool.not_true, Bool.not_false, Bool.not_eq_true', Bool.not_eq_false', Bool.not_not, tn0, tn1, tn2, tn3, inF, in3F, in3B] at *); all_goals (try omega))
  all_goals (refine vb ?_; simp_all [in3F, in3B])
def layAt (x : Dat) (i : Nat) : Bool := layB ((x.at i).fld 0).z ((x.at i).fld 1).z ((x.at i).fld 2).z ((x.at i).fld 3).z ((x.at i).fld 4).z ((x.at i).fld 5).z ((x.at i).fld 6).bo i
/-- It may be a model. -/
def mdlB (c h w : Int) (x : Dat) : Bool := in3B c h w && (inB x.ls.length 1 12 && allTo (layAt x) x.ls.length)
def mdlF (xa : List AV) : Bool := match xa with
  | [.st [.st [.z c, .z h, .z w], .d x]] => mdlB c h w x
  | _ => false
theorem mmay_ok : CtrOk Try.prog 30 (boolC [mdlTy] mdlF) := by
  obtain ⟨G, hG⟩ : ∃ G : List (FuncId × Ctr), G = [(58, boolC [.int .i64, .int .i64, .int .i64] inF), (57, boolC [in3Ty] in3F), (59, boolP [layTy, .int .i64] layP layF)] := ⟨_, rfl⟩
  refine fn_ok (ck := true) Try.func30 rfl tt_ok (G := G) (by rw [hG]; exact ⟨⟨mwithin_ok, by unfold FnOk; kernel_rfl⟩, ⟨min_ok, by unfold FnOk; kernel_rfl⟩, ⟨mlay_ok, by unfold FnOk; kernel_rfl⟩, trivial⟩) mixed (by kernel_rfl) ?_
  intro xa xs h hx hp
  obtain ⟨a0, as0, x0, xs0, rfl, rfl, h0, H1⟩ := svArgs_cons h
  obtain ⟨rfl, rfl⟩ := svArgs_nil H1
  obtain ⟨mc, mh, mw, mx, rfl, rfl⟩ := argSV_mdl h0
  have sm : (-9223372036854775808 ≤ mc ∧ mc ≤ 9223372036854775807) ∧ (-9223372036854775808 ≤ mh ∧ mh ≤ 9223372036854775807) ∧ (-9223372036854775808 ≤ mw ∧ mw ≤ 9223372036854775807) ∧ ((ci mx.ls.length ≤ 9223372036854775807) ∧ Wt (.sl layTy) mx) := svf_mdl (hx (.agg [.v (.int .i64 mc), .v (.int .i64 mh), .v (.int .i64 mw), .imm layTy mx]) (List.mem_of_getElem? (i := 0) rfl))
  have SM := Lib.hid sm
  clear sm
  clear hx hp h h0 H1
  generalize hA : std = A
  subst hG
  generalize h_c : ci = c
  generalize h_fi : inF = fi
  generalize h_fn : in3F = fn
  generalize h_fl : layF = fl
  generalize h_pl : layP = pl
  generalize h_fR : mdlF = fR
  cbv
  (repeat' (first | apply And.intro | apply BrB.mk | apply BrP.mk | intro _))
  all_goals try (refine loop_at Nat 19 (fun x => [(2, .any), (3, .any), (4, .any), (19, .v (.int .i64 (c x)))]) (fun _ o => o) (fun x => x ≤ mx.ls.length ∧ allTo (layAt mx) x = true) (fun x => mx.ls.length - x) 0 ?h0 ?hle ?round)
  case h0 => exact ⟨Nat.zero_le _, rfl⟩
  case hle => (cbv; (repeat' (first | apply And.intro | apply BrB.mk | apply BrP.mk | intro _)); all_goals (subst hA; subst h_c; subst h_fi; subst h_fn; subst h_fl; subst h_pl; subst h_fR); all_goals (have f_sm := SM.out); all_goals (try simp only [std, stdBin, stdCmp, stdUna, stdIn, ci, beq_iff_eq, bne_iff_ne, beq_eq_false_iff_ne, bne_eq_false_iff_eq, decide_eq_true_eq, decide_eq_false_iff_not, Bool.not_true, Bool.not_false, Bool.not_eq_true', Bool.not_eq_false', Bool.not_not, tn0, tn1, tn2, tn3] at *); (all_goals first | exact True.intro | rfl | exact congrArg (Value.int .i64) (by omega)))
  case round =>
    intro x hx
    cbv
    (repeat' (first | apply And.intro | apply BrB.mk | apply BrP.mk | intro _))
    all_goals try (refine ⟨x + 1, ?_, ?_, ?_⟩)
    all_goals try (show AS.le _ _; (cbv; (repeat' (first | apply And.intro | apply BrB.mk | apply BrP.mk | intro _)); all_goals (subst hA; subst h_c; subst h_fi; subst h_fn; subst h_fl; subst h_pl; subst h_fR); all_goals (have f_sm := SM.out); all_goals (try simp only [std, stdBin, stdCmp, stdUna, stdIn, ci, beq_iff_eq, bne_iff_ne, beq_eq_false_iff_ne, bne_eq_false_iff_eq, decide_eq_true_eq, decide_eq_false_iff_not, Bool.not_true, Bool.not_false, Bool.not_eq_true', Bool.not_eq_false', Bool.not_not, tn0, tn1, tn2, tn3] at *); (all_goals first | exact True.intro | rfl | exact congrArg (Value.int .i64) (by omega))))
    (all_goals (subst hA; subst h_c; subst h_fi; subst h_fn; subst h_fl; subst h_pl; subst h_fR); all_goals (have f_sm := SM.out); all_goals (try simp only [std, stdBin, stdCmp, stdUna, stdIn, ci, beq_iff_eq, bne_iff_ne, beq_eq_false_iff_ne, bne_eq_false_iff_eq, decide_eq_true_eq, decide_eq_false_iff_not, Bool.not_true, Bool.not_false, Bool.not_eq_true', Bool.not_eq_false', Bool.not_not, tn0, tn1, tn2, tn3, inF, in3F, layF, layP, Int.toNat_natCast] at *); all_goals (try omega))
    all_goals (have hn : 1 ≤ (mx.ls.length : Int) ∧ (mx.ls.length : Int) ≤ 12 := of_decide_eq_true (show inB mx.ls.length 1 12 = true by assumption))
    all_goals first
      | exact True.intro
      | omega
      | (refine vb ?_
         show mdlB mc mh mw mx = false
         have hg : layAt mx x = false := by assumption
         unfold mdlB
         rw [allTo_false (x := x) (by omega) hg, Bool.and_false, Bool.and_false])
      | (refine ⟨by omega, ?_⟩
         have hg : layAt mx x = true := by assumption
         simp only [allTo, hx.2, hg, Bool.true_and])
      | (refine vb ?_
         have hl : mx.ls.length = x := by omega
         have h1 : in3B mc mh mw = true := by assumption
         have h2 : inB mx.ls.length 1 12 = true := by assumption
         show mdlB mc mh mw mx = true
         unfold mdlB
         rw [h1, h2, hl, hx.2]; rfl)
      | trace_state
  (all_goals (subst hA; subst h_c; subst h_fi; subst h_fn; subst h_fl; subst h_pl; subst h_fR); all_goals (have f_sm := SM.out); all_goals (try simp only [std, stdBin, stdCmp, stdUna, stdIn, ci, beq_iff_eq, bne_iff_ne, beq_eq_false_iff_ne, bne_eq_false_iff_eq, decide_eq_true_eq, decide_eq_false_iff_not, Bool.not_true, Bool.not_false, Bool.not_eq_true', Bool.not_eq_false', Bool.not_not, tn0, tn1, tn2, tn3, inF, in3F, mdlF, mdlB] at *); all_goals (try omega))
  all_goals (refine vb ?_; simp_all)
end Go.Proofs.Ytnjipnklbdlgaaa
