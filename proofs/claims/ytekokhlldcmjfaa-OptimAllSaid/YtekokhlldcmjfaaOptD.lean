/- Layer 21: a step down. -/
import Derived.Test.YtekokhlldcmjfaaOptC
namespace Go.Proofs.Ytekokhlldcmjfaa
open Go.RowKit
set_option maxRecDepth 1000000
set_option linter.unusedSimpArgs false
set_option linter.unusedVariables false
set_option maxHeartbeats 16000000
set_option cbv.maxSteps 10000000
abbrev prmTy : Ty := .st [.st [.sl (.int .i64), .int .i64, .sl (.int .i8)], .sl (.int .i32), .st [.sl (.int .i64), .int .i64, .sl (.int .i8)]]
theorem argSV_prm {a : AV} {x : SV} (h : argSV prmTy a = some x) : ∃ (v_D : List Int) (v_E : Int) (v_L : List Int) (v_M : List Int) (v_F : List Int) (v_G : Int) (v_H : List Int), a = .st [.st [.l v_D, .z v_E, .l v_L], .l v_M, .st [.l v_F, .z v_G, .l v_H]] ∧ x = .agg [.iimm .i64 v_D, .v (.int .i64 v_E), .iimm .i8 v_L, .iimm .i32 v_M, .iimm .i64 v_F, .v (.int .i64 v_G), .iimm .i8 v_H] := by
  obtain ⟨as0, l0, rfl, rfl, h0⟩ := argSV_st h
  obtain ⟨a1, as1, x1, m1, rfl, rfl, p1, h1⟩ := svAVs_cons h0
  obtain ⟨bs1, rfl, q1⟩ := svAV_st p1
  obtain ⟨a2, as2, x2, m2, rfl, rfl, p2, h2⟩ := svAVs_cons q1
  obtain ⟨v_D, rfl, rfl⟩ := svAV_ints p2
  obtain ⟨a3, as3, x3, m3, rfl, rfl, p3, h3⟩ := svAVs_cons h2
  obtain ⟨v_E, rfl, rfl⟩ := svAV_int p3
  obtain ⟨a4, as4, x4, m4, rfl, rfl, p4, h4⟩ := svAVs_cons h3
  obtain ⟨v_L, rfl, rfl⟩ := svAV_ints p4
  obtain ⟨rfl, rfl⟩ := svAVs_nil h4
  obtain ⟨a5, as5, x5, m5, rfl, rfl, p5, h5⟩ := svAVs_cons h1
  obtain ⟨v_M, rfl, rfl⟩ := svAV_ints p5
  obtain ⟨a6, as6, x6, m6, rfl, rfl, p6, h6⟩ := svAVs_cons h5
  obtain ⟨bs6, rfl, q6⟩ := svAV_st p6
  obtain ⟨a7, as7, x7, m7, rfl, rfl, p7, h7⟩ := svAVs_cons q6
  obtain ⟨v_F, rfl, rfl⟩ := svAV_ints p7
  obtain ⟨a8, as8, x8, m8, rfl, rfl, p8, h8⟩ := svAVs_cons h7
  obtain ⟨v_G, rfl, rfl⟩ := svAV_int p8
  obtain ⟨a9, as9, x9, m9, rfl, rfl, p9, h9⟩ := svAVs_cons h8
  obtain ⟨v_H, rfl, rfl⟩ := svAV_ints p9
  obtain ⟨rfl, rfl⟩ := svAVs_nil h9
  obtain ⟨rfl, rfl⟩ := svAVs_nil h6
  exact ⟨v_D, v_E, v_L, v_M, v_F, v_G, v_H, rfl, rfl⟩
theorem svf_prm {v_D : List Int} {v_E : Int} {v_L : List Int} {v_M : List Int} {v_F : List Int} {v_G : Int} {v_H : List Int} (h : SVf (.agg [.iimm .i64 v_D, .v (.int .i64 v_E), .iimm .i8 v_L, .iimm .i32 v_M, .iimm .i64 v_F, .v (.int .i64 v_G), .iimm .i8 v_H])) : (Fits .i64 v_D ∧ ci v_D.length ≤ 9223372036854775807) ∧ (-9223372036854775808 ≤ v_E ∧ v_E ≤ 9223372036854775807) ∧ (Fits .i8 v_L ∧ ci v_L.length ≤ 9223372036854775807) ∧ (Fits .i32 v_M ∧ ci v_M.length ≤ 9223372036854775807) ∧ (Fits .i64 v_F ∧ ci v_F.length ≤ 9223372036854775807) ∧ (-9223372036854775808 ≤ v_G ∧ v_G ≤ 9223372036854775807) ∧ (Fits .i8 v_H ∧ ci v_H.length ≤ 9223372036854775807) := by
  exact ⟨svf_ints (h (.iimm .i64 v_D) (by simp)), of_i64 (h (.v (.int .i64 v_E)) (by simp)), svf_ints (h (.iimm .i8 v_L) (by simp)), svf_ints (h (.iimm .i32 v_M) (by simp)), svf_ints (h (.iimm .i64 v_F) (by simp)), of_i64 (h (.v (.int .i64 v_G)) (by simp)), svf_ints (h (.iimm .i8 v_H) (by simp))⟩
abbrev grdTy : Ty := .st [.bool, .st [.sl (.int .i64), .int .i64, .sl (.int .i32)], .st [.sl (.int .i64), .int .i64, .sl (.int .i32)]]
theorem argSV_grd {a : AV} {x : SV} (h : argSV grdTy a = some x) : ∃ (v_h : Bool) (v_D : List Int) (v_E : Int) (v_L : List Int) (v_F : List Int) (v_G : Int) (v_H : List Int), a = .st [.b v_h, .st [.l v_D, .z v_E, .l v_L], .st [.l v_F, .z v_G, .l v_H]] ∧ x = .agg [.v (.bool v_h), .iimm .i64 v_D, .v (.int .i64 v_E), .iimm .i32 v_L, .iimm .i64 v_F, .v (.int .i64 v_G), .iimm .i32 v_H] := by
  obtain ⟨as0, l0, rfl, rfl, h0⟩ := argSV_st h
  obtain ⟨a1, as1, x1, m1, rfl, rfl, p1, h1⟩ := svAVs_cons h0
  obtain ⟨v_h, rfl, rfl⟩ := svAV_bool p1
  obtain ⟨a2, as2, x2, m2, rfl, rfl, p2, h2⟩ := svAVs_cons h1
  obtain ⟨bs2, rfl, q2⟩ := svAV_st p2
  obtain ⟨a3, as3, x3, m3, rfl, rfl, p3, h3⟩ := svAVs_cons q2
  obtain ⟨v_D, rfl, rfl⟩ := svAV_ints p3
  obtain ⟨a4, as4, x4, m4, rfl, rfl, p4, h4⟩ := svAVs_cons h3
  obtain ⟨v_E, rfl, rfl⟩ := svAV_int p4
  obtain ⟨a5, as5, x5, m5, rfl, rfl, p5, h5⟩ := svAVs_cons h4
  obtain ⟨v_L, rfl, rfl⟩ := svAV_ints p5
  obtain ⟨rfl, rfl⟩ := svAVs_nil h5
  obtain ⟨a6, as6, x6, m6, rfl, rfl, p6, h6⟩ := svAVs_cons h2
  obtain ⟨bs6, rfl, q6⟩ := svAV_st p6
  obtain ⟨a7, as7, x7, m7, rfl, rfl, p7, h7⟩ := svAVs_cons q6
  obtain ⟨v_F, rfl, rfl⟩ := svAV_ints p7
  obtain ⟨a8, as8, x8, m8, rfl, rfl, p8, h8⟩ := svAVs_cons h7
  obtain ⟨v_G, rfl, rfl⟩ := svAV_int p8
  obtain ⟨a9, as9, x9, m9, rfl, rfl, p9, h9⟩ := svAVs_cons h8
  obtain ⟨v_H, rfl, rfl⟩ := svAV_ints p9
  obtain ⟨rfl, rfl⟩ := svAVs_nil h9
  obtain ⟨rfl, rfl⟩ := svAVs_nil h6
  exact ⟨v_h, v_D, v_E, v_L, v_F, v_G, v_H, rfl, rfl⟩
theorem svf_grd {v_h : Bool} {v_D : List Int} {v_E : Int} {v_L : List Int} {v_F : List Int} {v_G : Int} {v_H : List Int} (h : SVf (.agg [.v (.bool v_h), .iimm .i64 v_D, .v (.int .i64 v_E), .iimm .i32 v_L, .iimm .i64 v_F, .v (.int .i64 v_G), .iimm .i32 v_H])) : (Fits .i64 v_D ∧ ci v_D.length ≤ 9223372036854775807) ∧ (-9223372036854775808 ≤ v_E ∧ v_E ≤ 9223372036854775807) ∧ (Fits .i32 v_L ∧ ci v_L.length ≤ 9223372036854775807) ∧ (Fits .i64 v_F ∧ ci v_F.length ≤ 9223372036854775807) ∧ (-9223372036854775808 ≤ v_G ∧ v_G ≤ 9223372036854775807) ∧ (Fits .i32 v_H ∧ ci v_H.length ≤ 9223372036854775807) := by
  exact ⟨svf_ints (h (.iimm .i64 v_D) (by simp)), of_i64 (h (.v (.int .i64 v_E)) (by simp)), svf_ints (h (.iimm .i32 v_L) (by simp)), svf_ints (h (.iimm .i64 v_F) (by simp)), of_i64 (h (.v (.int .i64 v_G)) (by simp)), svf_ints (h (.iimm .i32 v_H) (by simp))⟩
def hyB (a b c d e f : Int) : Bool := decide ((1 ≤ a ∧ a ≤ 8) ∧ (2 ≤ b ∧ b ≤ 8) ∧ (0 ≤ c ∧ c ≤ 20) ∧ (0 ≤ d ∧ d ≤ 20) ∧ (0 ≤ e ∧ e ≤ 20) ∧ 0 ≤ f ∧ f ≤ 1000000)
def hyF (xa : List AV) : Bool := match xa with
  | [.st [.z a, .z b, .z c, .z d, .z e, .z f]] => hyB a b c d e f
  | _ => false
theorem omay_ok : CtrOk Try.prog 20 (boolC [hyTy] hyF) := by
  obtain ⟨G, hG⟩ : ∃ G : List (FuncId × Ctr), G = [] := ⟨_, rfl⟩
  refine fn_inl (ck := true) [(41, Try.f41)] ⟨⟨Try.func41, by unfold FnOk; kernel_rfl, by kernel_rfl⟩, trivial⟩ Try.func20 rfl tt_ok (G := G) (by rw [hG]; exact trivial) mixed (by kernel_rfl) ?_
  intro xa xs h hx hp
  obtain ⟨a0, as0, x0, xs0, rfl, rfl, h0, H1⟩ := svArgs_cons h
  obtain ⟨rfl, rfl⟩ := svArgs_nil H1
  obtain ⟨hBa, hWi, hRa, hMo, hDe, hEv, rfl, rfl⟩ := argSV_hy h0
  have sh : (-9223372036854775808 ≤ hBa ∧ hBa ≤ 9223372036854775807) ∧ (-9223372036854775808 ≤ hWi ∧ hWi ≤ 9223372036854775807) ∧ (-9223372036854775808 ≤ hRa ∧ hRa ≤ 9223372036854775807) ∧ (-9223372036854775808 ≤ hMo ∧ hMo ≤ 9223372036854775807) ∧ (-9223372036854775808 ≤ hDe ∧ hDe ≤ 9223372036854775807) ∧ (-9223372036854775808 ≤ hEv ∧ hEv ≤ 9223372036854775807) := svf_hy (hx (.agg [.v (.int .i64 hBa), .v (.int .i64 hWi), .v (.int .i64 hRa), .v (.int .i64 hMo), .v (.int .i64 hDe), .v (.int .i64 hEv)]) (List.mem_of_getElem? (i := 0) rfl))
  have SH := Lib.hid sh
  clear sh
  clear hx hp h h0 H1
  generalize hA : std = A
  subst hG
  generalize h_c : ci = c
  generalize h_fR : hyF = fR
  cbv
  (repeat' (first | apply And.intro | apply BrB.mk | apply BrP.mk | intro _))
  (all_goals (subst hA; subst h_c; subst h_fR); all_goals (have f_sh := SH.out); all_goals (try simp only [std, stdBin, stdCmp, stdUna, stdIn, ci, beq_iff_eq, bne_iff_ne, beq_eq_false_iff_ne, bne_eq_false_iff_eq, decide_eq_true_eq, decide_eq_false_iff_not, Bool.not_true, Bool.not_false, Bool.not_eq_true', Bool.not_eq_false', Bool.not_not, tn0, tn1, tn2, tn3, hyF] at *); all_goals (try omega))
  all_goals (refine vb ?_; rw [Bool.eq_iff_iff])
  all_goals (simp only [hyB, decide_eq_true_eq, Bool.false_eq_true, iff_false, false_iff] at *)
  all_goals (try omega)
  all_goals trace_state
def mayAF (xa : List AV) : Bool := match xa with
  | [.st [.l D, .z e, .l L]] => mayAccB ⟨D, e, L⟩
  | _ => false
theorem mayA_ok : CtrOk Try.prog 103 (boolC [tnTy .i32] mayAF) := by
  intro xa w g vs ha _ hp
  obtain ⟨a, as', v, vs', rfl, rfl, h1, h⟩ := args_cons ha
  obtain ⟨rfl, rfl⟩ := args_nil h
  obtain ⟨t, rfl, h2⟩ := of_arg_tn h1
  refine (mayAcc_any v t w h2).mono fun e w' ⟨he, hw⟩ => ⟨_, he, gv_val trivial hw⟩
theorem clone32_ok : CtrOk Try.prog 43 (rowP [.sl (.int .i32)] 21 .i32 (lenP 4) sameL) := by
  intro xa w g vs ha _ hp
  obtain ⟨l, v, rfl, rfl, h1⟩ := of_ints1 ha
  have hq : (l.length : Int) * 4 ≤ 140737488355328 := hp _ rfl
  refine (clone32_any v l w h1.1 (by omega)).mono fun e w' ⟨u, he, ho, hb⟩ => ⟨_, he, ?_⟩
  rw [kv_len] at ho
  exact fresh_gv ho h1.2.1 hb
def mostB (M : List Int) : Nat → Bool
  | 0 => true
  | n + 1 => mostB M n && decide (-1048576 ≤ M.getD n 0 ∧ M.getD n 0 ≤ 1048576)
theorem mostB_at {M : List Int} : ∀ {n : Nat}, mostB M n = true → ∀ i, i < n → -1048576 ≤ M.getD i 0 ∧ M.getD i 0 ≤ 1048576
  | 0, _, i, hi => absurd hi (Nat.not_lt_zero _)
  | n + 1, h, i, hi => by
    simp only [mostB, Bool.and_eq_true, decide_eq_true_eq] at h
    by_cases e : i = n
    · subst e; exact h.2
    · exact mostB_at h.1 i (by omega)
theorem mostB_of {M : List Int} : ∀ {n : Nat}, (∀ i, i < n → -1048576 ≤ M.getD i 0 ∧ M.getD i 0 ≤ 1048576) → mostB M n = true
  | 0, _ => rfl
  | n + 1, h => by
    simp only [mostB, Bool.and_eq_true, decide_eq_true_eq]
    exact ⟨mostB_of fun i hi => h i (by omega), h n (by omega)⟩
theorem mostB_no {M : List Int} {n i : Nat} (hi : i < n) (h : ¬ (-1048576 ≤ M.getD i 0 ∧ M.getD i 0 ≤ 1048576)) : mostB M n = false := by
  cases hh : mostB M n with
  | false => rfl
  | true => exact absurd (mostB_at hh i hi) h
def moveB (D : List Int) (E : Int) (L M F : List Int) (G : Int) (H gD : List Int) (gE : Int) (gL gF : List Int) (gG : Int) (gH : List Int) : Bool :=
  mayB ⟨D, E, L⟩ && mayB ⟨F, G, H⟩ && mayAccB ⟨gD, gE, gL⟩ && mayAccB ⟨gF, gG, gH⟩ && decide (M.length = L.length) && mostB M M.length
def moveF (xa : List AV) : Bool := match xa with
  | [.st [.st [.l D, .z E, .l L], .l M, .st [.l F, .z G, .l H]], .st [.b _, .st [.l gD, .z gE, .l gL], .st [.l gF, .z gG, .l gH]]] => moveB D E L M F G H gD gE gL gF gG gH
  | _ => false
theorem move_ok : CtrOk Try.prog 44 (boolC [prmTy, grdTy] moveF) := by
  obtain ⟨G, hG⟩ : ∃ G : List (FuncId × Ctr), G = [(102, boolC [tnTy .i8] tnMayF), (103, boolC [tnTy .i32] mayAF)] := ⟨_, rfl⟩
  refine fn_inl (ck := true) [(104, Try.f104), (132, Try.f132), (105, Try.f105)] ⟨⟨Try.func104, by unfold FnOk; kernel_rfl, by kernel_rfl⟩, ⟨Try.func132, by unfold FnOk; kernel_rfl, by kernel_rfl⟩, ⟨Try.func105, by unfold FnOk; kernel_rfl, by kernel_rfl⟩, trivial⟩ Try.func44 rfl tt_ok (G := G) (by rw [hG]; exact ⟨⟨tnMay_ok, by unfold FnOk; kernel_rfl⟩, ⟨mayA_ok, by unfold FnOk; kernel_rfl⟩, trivial⟩) mixed (by kernel_rfl) ?_
  intro xa xs h hx hp
  obtain ⟨a0, as0, x0, xs0, rfl, rfl, h0, H1⟩ := svArgs_cons h
  obtain ⟨a1, as1, x1, xs1, rfl, rfl, h1, H2⟩ := svArgs_cons H1
  obtain ⟨rfl, rfl⟩ := svArgs_nil H2
  obtain ⟨pD, pE, pL, pM, pF, pG, pH, rfl, rfl⟩ := argSV_prm h0
  obtain ⟨gh, gD, gE, gL, gF, gG, gH, rfl, rfl⟩ := argSV_grd h1
  have sp : (Fits .i64 pD ∧ ci pD.length ≤ 9223372036854775807) ∧ (-9223372036854775808 ≤ pE ∧ pE ≤ 9223372036854775807) ∧ (Fits .i8 pL ∧ ci pL.length ≤ 9223372036854775807) ∧ (Fits .i32 pM ∧ ci pM.length ≤ 9223372036854775807) ∧ (Fits .i64 pF ∧ ci pF.length ≤ 9223372036854775807) ∧ (-9223372036854775808 ≤ pG ∧ pG ≤ 9223372036854775807) ∧ (Fits .i8 pH ∧ ci pH.length ≤ 9223372036854775807) := svf_prm (hx (.agg [.iimm .i64 pD, .v (.int .i64 pE), .iimm .i8 pL, .iimm .i32 pM, .iimm .i64 pF, .v (.int .i64 pG), .iimm .i8 pH]) (List.mem_of_getElem? (i := 0) rfl))
  have sg : (Fits .i64 gD ∧ ci gD.length ≤ 9223372036854775807) ∧ (-9223372036854775808 ≤ gE ∧ gE ≤ 9223372036854775807) ∧ (Fits .i32 gL ∧ ci gL.length ≤ 9223372036854775807) ∧ (Fits .i64 gF ∧ ci gF.length ≤ 9223372036854775807) ∧ (-9223372036854775808 ≤ gG ∧ gG ≤ 9223372036854775807) ∧ (Fits .i32 gH ∧ ci gH.length ≤ 9223372036854775807) := svf_grd (hx (.agg [.v (.bool gh), .iimm .i64 gD, .v (.int .i64 gE), .iimm .i32 gL, .iimm .i64 gF, .v (.int .i64 gG), .iimm .i32 gH]) (List.mem_of_getElem? (i := 1) rfl))
  have SP := Lib.hid sp
  clear sp
  have SG := Lib.hid sg
  clear sg
  clear hx hp h h0 H1 h1 H2
  generalize hA : std = A
  subst hG
  generalize h_c : ci = c
  generalize h_fm : tnMayF = fm
  generalize h_fa : mayAF = fa
  generalize h_fR : moveF = fR
  cbv
  (repeat' (first | apply And.intro | apply BrB.mk | apply BrP.mk | intro _))
  all_goals try (refine loop_at Nat 8 (fun x => [(4, .any), (5, .any), (8, .v (.int .i64 (c x)))]) (fun _ o => o) (fun x => x ≤ pM.length ∧ ∀ j, j < x → -1048576 ≤ pM.getD j 0 ∧ pM.getD j 0 ≤ 1048576) (fun x => pM.length - x) 0 ?h0 ?hle ?round)
  case h0 => exact ⟨Nat.zero_le _, fun j hj => absurd hj (Nat.not_lt_zero _)⟩
  case hle => (cbv; (repeat' (first | apply And.intro | apply BrB.mk | apply BrP.mk | intro _)); all_goals (subst hA; subst h_c; subst h_fm; subst h_fa; subst h_fR); all_goals (have f_sp := SP.out; have f_sg := SG.out); all_goals (try simp only [std, stdBin, stdCmp, stdUna, stdIn, ci, beq_iff_eq, bne_iff_ne, beq_eq_false_iff_ne, bne_eq_false_iff_eq, decide_eq_true_eq, decide_eq_false_iff_not, Bool.not_true, Bool.not_false, Bool.not_eq_true', Bool.not_eq_false', Bool.not_not, tn0, tn1, tn2, tn3] at *); (all_goals first | exact True.intro | rfl | exact congrArg (Value.int .i64) (by omega)))
  case round =>
    intro x hx
    cbv
    (repeat' (first | apply And.intro | apply BrB.mk | apply BrP.mk | intro _))
    all_goals try (refine ⟨x + 1, ?_, ?_, ?_⟩)
    all_goals try (show AS.le _ _; (cbv; (repeat' (first | apply And.intro | apply BrB.mk | apply BrP.mk | intro _)); all_goals (subst hA; subst h_c; subst h_fm; subst h_fa; subst h_fR); all_goals (have f_sp := SP.out; have f_sg := SG.out); all_goals (try simp only [std, stdBin, stdCmp, stdUna, stdIn, ci, beq_iff_eq, bne_iff_ne, beq_eq_false_iff_ne, bne_eq_false_iff_eq, decide_eq_true_eq, decide_eq_false_iff_not, Bool.not_true, Bool.not_false, Bool.not_eq_true', Bool.not_eq_false', Bool.not_not, tn0, tn1, tn2, tn3] at *); (all_goals first | exact True.intro | rfl | exact congrArg (Value.int .i64) (by omega))))
    (all_goals (subst hA; subst h_c; subst h_fm; subst h_fa; subst h_fR); all_goals (have f_sp := SP.out; have f_sg := SG.out); all_goals (try simp only [std, stdBin, stdCmp, stdUna, stdIn, ci, beq_iff_eq, bne_iff_ne, beq_eq_false_iff_ne, bne_eq_false_iff_eq, decide_eq_true_eq, decide_eq_false_iff_not, Bool.not_true, Bool.not_false, Bool.not_eq_true', Bool.not_eq_false', Bool.not_not, tn0, tn1, tn2, tn3, tnMayF, mayAF, moveF, Int.toNat_natCast] at *); all_goals (try omega))
    all_goals first
      | exact True.intro
      | omega
      | (refine ⟨by omega, fun j hj => ?_⟩
         by_cases e : j = x
         · subst e; omega
         · exact hx.2 j (by omega))
      | (refine vb ?_
         have hno : mostB pM pM.length = false := mostB_no (i := x) (by omega) (by omega)
         unfold moveB
         rw [hno, Bool.and_false]
         first | rfl | (simp; omega))
      | (refine vb ?_
         have hyes : mostB pM pM.length = true := mostB_of (fun j hj => hx.2 j (by omega))
         unfold moveB
         simp only [hyes, *, Bool.and_true, Bool.true_and]
         first | rfl | (simp; omega) | (simp_all; omega) | (simp_all; done))
      | trace_state
  (all_goals (subst hA; subst h_c; subst h_fm; subst h_fa; subst h_fR); all_goals (have f_sp := SP.out; have f_sg := SG.out); all_goals (try simp only [std, stdBin, stdCmp, stdUna, stdIn, ci, beq_iff_eq, bne_iff_ne, beq_eq_false_iff_ne, bne_eq_false_iff_eq, decide_eq_true_eq, decide_eq_false_iff_not, Bool.not_true, Bool.not_false, Bool.not_eq_true', Bool.not_eq_false', Bool.not_not, tn0, tn1, tn2, tn3, tnMayF, mayAF, moveF] at *); all_goals (try omega))
  all_goals (refine vb ?_; unfold moveB; (first | (simp_all; done) | (simp_all; omega)))
/-- What a layer's step down leaves. -/
structure Pm where
  d : List Int
  e : Int
  l : List Int
  m : List Int
  f : List Int
  g : Int
  h : List Int
def stErr (D : List Int) (E : Int) (L M F : List Int) (G : Int) (H : List Int) (gb : Bool) (gD : List Int) (gE : Int) (gL gF : List Int) (gG : Int) (gH : List Int) (a b c d e f seed step layer : Int) : Int :=
  if hyB a b c d e f = true ∧ (0 ≤ step ∧ step ≤ 1000000) ∧ (1 ≤ layer ∧ layer ≤ 12) then
    if gb = true then
      if moveB D E L M F G H gD gE gL gF gG gH = true then
        if gD = D ∧ gF = F then
          if (smallE ⟨gD, gE, gL⟩ b (bv seed) (bv (strmI step layer 3))).2 = 0 then (smallE ⟨gF, gG, gH⟩ b (bv seed) (bv (strmI step layer 5))).2
          else (smallE ⟨gD, gE, gL⟩ b (bv seed) (bv (strmI step layer 3))).2
        else 2
      else 1
    else 0
  else 1
def moved (M gD : List Int) (gE : Int) (gL : List Int) (b d seed step layer : Int) : List Int := (List.range M.length).map (momA M (smallE ⟨gD, gE, gL⟩ b (bv seed) (bv (strmI step layer 3))).1.data d)
def stRes (D : List Int) (E : Int) (L M F : List Int) (G : Int) (H : List Int) (gb : Bool) (gD : List Int) (gE : Int) (gL gF : List Int) (gG : Int) (gH : List Int) (a b c d e f seed step layer : Int) : Pm :=
  if gb = true then
    ⟨D, (wtT D E (numA L (moved M gD gE gL b d seed step layer) c e seed step layer) L.length).exp, (wtT D E (numA L (moved M gD gE gL b d seed step layer) c e seed step layer) L.length).data, moved M gD gE gL b d seed step layer,
      F, G, (List.range H.length).map (biA H (smallE ⟨gF, gG, gH⟩ b (bv seed) (bv (strmI step layer 5))).1.data c seed step layer)⟩
  else ⟨D, E, L, M, F, G, H⟩
def stE (xa : List AV) : Int := match xa with
  | [.st [.st [.l D, .z E, .l L], .l M, .st [.l F, .z G, .l H]], .st [.b gb, .st [.l gD, .z gE, .l gL], .st [.l gF, .z gG, .l gH]], .st [.z a, .z b, .z c, .z d, .z e, .z f], .z seed, .z step, .z layer] => stErr D E L M F G H gb gD gE gL gF gG gH a b c d e f seed step layer
  | _ => 0
def stR (xa : List AV) : Pm := match xa with
  | [.st [.st [.l D, .z E, .l L], .l M, .st [.l F, .z G, .l H]], .st [.b gb, .st [.l gD, .z gE, .l gL], .st [.l gF, .z gG, .l gH]], .st [.z a, .z b, .z c, .z d, .z e, .z f], .z seed, .z step, .z layer] => stRes D E L M F G H gb gD gE gL gF gG gH a b c d e f seed step layer
  | _ => ⟨[], 0, [], [], [], 0, []⟩
def stP (xa : List AV) : Prop := match xa with
  | [.st [.st [.l D, .z E, .l L], .l M, .st [.l F, .z G, .l H]], _, _, _, _, _] => ((D.length : Int) * 8 ≤ 140737488355328 ∧ (L.length : Int) * 1 ≤ 140737488355328) ∧ (M.length : Int) * 4 ≤ 140737488355328 ∧ (F.length : Int) * 8 ≤ 140737488355328 ∧ (H.length : Int) * 1 ≤ 140737488355328
  | _ => False
def prmC (ts : List Ty) (tI t8 t32 : TypeId) (p : List AV → Prop) (err : List AV → Int) (r : List AV → Pm) : Ctr :=
  ⟨ts, fun xa => some (p xa), fun xa => .ite (err xa = 0)
    (.ret (.tup [.agg [.hdl 0, .v (.int .i64 (r xa).e), .hdl 1, .hdl 2, .hdl 3, .v (.int .i64 (r xa).g), .hdl 4], .v (.int .i64 0)]) [(0, .irow tI .i64 (r xa).d), (2, .irow t8 .i8 (r xa).l), (3, .irow t32 .i32 (r xa).m), (4, .irow tI .i64 (r xa).f), (6, .irow t8 .i8 (r xa).h)])
    (.ret (.tup [.agg [.v (.slice none 0 0), .v (.int .i64 0), .v (.slice none 0 0), .v (.slice none 0 0), .v (.slice none 0 0), .v (.int .i64 0), .v (.slice none 0 0)], .v (.int .i64 (err xa))]) []), false⟩
theorem small_len {t : Tn} {x : Int} {s r : BitVec 64} (h : (smallE t x s r).2 = 0) : (smallE t x s r).1.data.length = t.data.length := by
  unfold smallE at h ⊢
  split at h
  · cases h
  · rename_i hn
    rw [if_neg hn]
    simp only at h ⊢
    split at h
    · rename_i he
      rw [if_pos he]
      exact smallFrom_len _ _ _ _ _ _
    · cases h
theorem move_of {D : List Int} {E : Int} {L M F : List Int} {G : Int} {H gD : List Int} {gE : Int} {gL gF : List Int} {gG : Int} {gH : List Int} (h : moveB D E L M F G H gD gE gL gF gG gH = true) :
    mayB ⟨D, E, L⟩ = true ∧ mayB ⟨F, G, H⟩ = true ∧ M.length = L.length ∧ (gL.length : Int) = szD gD ∧ (gH.length : Int) = szD gF ∧ (L.length : Int) = szD D ∧ (H.length : Int) = szD F ∧ mostB M M.length = true ∧ mayAccB ⟨gD, gE, gL⟩ = true ∧ mayAccB ⟨gF, gG, gH⟩ = true := by
  unfold moveB at h
  simp only [Bool.and_eq_true, decide_eq_true_eq] at h
  obtain ⟨⟨⟨⟨⟨h1, h2⟩, h3⟩, h4⟩, h5⟩, h6⟩ := h
  have q3 := h3
  have q4 := h4
  unfold mayAccB at q3 q4
  simp only [Bool.and_eq_true, decide_eq_true_eq] at q3 q4
  exact ⟨h1, h2, h5, q3.1.2, q4.1.2, ((mayB_eq _ _ _).1 h1).2.1, ((mayB_eq _ _ _).1 h2).2.1, h6, h3, h4⟩
def psF (xa : List AV) : Int := match xa with
  | [.st [.z se, .z st, .z la], .z k] => strmI st la k
  | _ => 0
theorem pst_ok : CtrOk Try.prog 47 (intC [plTy, .int .i64] .u64 psF) := by
  obtain ⟨G, hG⟩ : ∃ G : List (FuncId × Ctr), G = [(27, intC [.int .i64, .int .i64, .int .i64] .u64 strmF)] := ⟨_, rfl⟩
  refine fn_ok (ck := true) Try.func47 rfl tt_ok (G := G) (by rw [hG]; exact ⟨⟨strm_ok, by unfold FnOk; kernel_rfl⟩, trivial⟩) mixed (by kernel_rfl) ?_
  intro xa xs h hx hp
  obtain ⟨a0, as0, x0, xs0, rfl, rfl, h0, H1⟩ := svArgs_cons h
  obtain ⟨a1, as1, x1, xs1, rfl, rfl, h1, H2⟩ := svArgs_cons H1
  obtain ⟨rfl, rfl⟩ := svArgs_nil H2
  obtain ⟨pse, pst, pla, rfl, rfl⟩ := argSV_pl h0
  obtain ⟨k, rfl, rfl⟩ := argSV_int h1
  have sp : ((Lit.int .u64 pse).wf = true) ∧ (-9223372036854775808 ≤ pst ∧ pst ≤ 9223372036854775807) ∧ (-9223372036854775808 ≤ pla ∧ pla ≤ 9223372036854775807) := svf_pl (hx (.agg [.v (.int .u64 pse), .v (.int .i64 pst), .v (.int .i64 pla)]) (List.mem_of_getElem? (i := 0) rfl))
  have sk := of_i64 (hx (.v (.int .i64 k)) (by simp))
  have SP := Lib.hid sp
  clear sp
  have SK := Lib.hid sk
  clear sk
  clear hx hp h h0 H1 h1 H2
  generalize hA : std = A
  subst hG
  generalize h_c : ci = c
  generalize h_fs : strmF = fs
  generalize h_fR : psF = fR
  cbv
  (repeat' (first | apply And.intro | apply BrB.mk | apply BrP.mk | intro _))
  (all_goals (subst hA; subst h_c; subst h_fs; subst h_fR); all_goals (have f_sp := SP.out; have f_sk := SK.out); all_goals (try simp only [std, stdBin, stdCmp, stdUna, stdIn, ci, beq_iff_eq, bne_iff_ne, beq_eq_false_iff_ne, bne_eq_false_iff_eq, decide_eq_true_eq, decide_eq_false_iff_not, Bool.not_true, Bool.not_false, Bool.not_eq_true', Bool.not_eq_false', Bool.not_not, tn0, tn1, tn2, tn3, strmF, psF] at *); all_goals (try omega))
  all_goals first | rfl | trace_state
theorem step_ok : CtrOk Try.prog 16 (prmC [prmTy, grdTy, hyTy, .int .u64, .int .i64, .int .i64] 3 52 21 stP stE stR) := by
  obtain ⟨G, hG⟩ : ∃ G : List (FuncId × Ctr), G = [(20, boolC [hyTy] hyF), (44, boolC [prmTy, grdTy] moveF), (45, boolC [.sl (.int .i64), .sl (.int .i64)] eqF), (42, tnPO [tnTy .i8] .i8 3 52 clP clR), (43, rowP [.sl (.int .i32)] 21 .i32 (lenP 4) sameL), (46, resU [tnTy .i32, .int .i64, .int .u64, .int .u64] .i8 3 52 smE smR), (47, intC [plTy, .int .i64] .u64 psF), (48, rowP [.sl (.int .i32), .sl (.int .i8), hyTy] 21 .i32 momP momF), (49, tnPO [tnTy .i8, .sl (.int .i32), hyTy, plTy] .i8 3 52 wtP wtR), (50, tnPO [tnTy .i8, .sl (.int .i8), hyTy, plTy] .i8 3 52 biP biR)] := ⟨_, rfl⟩
  refine fn_inl (ck := true) [(41, Try.f41)] ⟨⟨Try.func41, by unfold FnOk; kernel_rfl, by kernel_rfl⟩, trivial⟩ Try.func16 rfl tt_ok (G := G) (by rw [hG]; exact ⟨⟨omay_ok, by unfold FnOk; kernel_rfl⟩, ⟨move_ok, by unfold FnOk; kernel_rfl⟩, ⟨same_ok, by unfold FnOk; kernel_rfl⟩, ⟨tclone_ok, by unfold FnOk; kernel_rfl⟩, ⟨clone32_ok, by unfold FnOk; kernel_rfl⟩, ⟨small_ok, by unfold FnOk; kernel_rfl⟩, ⟨pst_ok, by unfold FnOk; kernel_rfl⟩, ⟨mom_ok, by unfold FnOk; kernel_rfl⟩, ⟨wts_ok, by unfold FnOk; kernel_rfl⟩, ⟨bia_ok, by unfold FnOk; kernel_rfl⟩, trivial⟩) mixed (by kernel_rfl) ?_
  intro xa xs h hx hp
  obtain ⟨a0, as0, x0, xs0, rfl, rfl, h0, H1⟩ := svArgs_cons h
  obtain ⟨a1, as1, x1, xs1, rfl, rfl, h1, H2⟩ := svArgs_cons H1
  obtain ⟨a2, as2, x2, xs2, rfl, rfl, h2, H3⟩ := svArgs_cons H2
  obtain ⟨a3, as3, x3, xs3, rfl, rfl, h3, H4⟩ := svArgs_cons H3
  obtain ⟨a4, as4, x4, xs4, rfl, rfl, h4, H5⟩ := svArgs_cons H4
  obtain ⟨a5, as5, x5, xs5, rfl, rfl, h5, H6⟩ := svArgs_cons H5
  obtain ⟨rfl, rfl⟩ := svArgs_nil H6
  obtain ⟨pD, pE, pL, pM, pF, pG, pH, rfl, rfl⟩ := argSV_prm h0
  obtain ⟨gh, gD, gE, gL, gF, gG, gH, rfl, rfl⟩ := argSV_grd h1
  obtain ⟨hBa, hWi, hRa, hMo, hDe, hEv, rfl, rfl⟩ := argSV_hy h2
  obtain ⟨s, rfl, rfl⟩ := argSV_int h3
  obtain ⟨t, rfl, rfl⟩ := argSV_int h4
  obtain ⟨y, rfl, rfl⟩ := argSV_int h5
  have sp : (Fits .i64 pD ∧ ci pD.length ≤ 9223372036854775807) ∧ (-9223372036854775808 ≤ pE ∧ pE ≤ 9223372036854775807) ∧ (Fits .i8 pL ∧ ci pL.length ≤ 9223372036854775807) ∧ (Fits .i32 pM ∧ ci pM.length ≤ 9223372036854775807) ∧ (Fits .i64 pF ∧ ci pF.length ≤ 9223372036854775807) ∧ (-9223372036854775808 ≤ pG ∧ pG ≤ 9223372036854775807) ∧ (Fits .i8 pH ∧ ci pH.length ≤ 9223372036854775807) := svf_prm (hx (.agg [.iimm .i64 pD, .v (.int .i64 pE), .iimm .i8 pL, .iimm .i32 pM, .iimm .i64 pF, .v (.int .i64 pG), .iimm .i8 pH]) (List.mem_of_getElem? (i := 0) rfl))
  have sg : (Fits .i64 gD ∧ ci gD.length ≤ 9223372036854775807) ∧ (-9223372036854775808 ≤ gE ∧ gE ≤ 9223372036854775807) ∧ (Fits .i32 gL ∧ ci gL.length ≤ 9223372036854775807) ∧ (Fits .i64 gF ∧ ci gF.length ≤ 9223372036854775807) ∧ (-9223372036854775808 ≤ gG ∧ gG ≤ 9223372036854775807) ∧ (Fits .i32 gH ∧ ci gH.length ≤ 9223372036854775807) := svf_grd (hx (.agg [.v (.bool gh), .iimm .i64 gD, .v (.int .i64 gE), .iimm .i32 gL, .iimm .i64 gF, .v (.int .i64 gG), .iimm .i32 gH]) (List.mem_of_getElem? (i := 1) rfl))
  have sh : (-9223372036854775808 ≤ hBa ∧ hBa ≤ 9223372036854775807) ∧ (-9223372036854775808 ≤ hWi ∧ hWi ≤ 9223372036854775807) ∧ (-9223372036854775808 ≤ hRa ∧ hRa ≤ 9223372036854775807) ∧ (-9223372036854775808 ≤ hMo ∧ hMo ≤ 9223372036854775807) ∧ (-9223372036854775808 ≤ hDe ∧ hDe ≤ 9223372036854775807) ∧ (-9223372036854775808 ≤ hEv ∧ hEv ≤ 9223372036854775807) := svf_hy (hx (.agg [.v (.int .i64 hBa), .v (.int .i64 hWi), .v (.int .i64 hRa), .v (.int .i64 hMo), .v (.int .i64 hDe), .v (.int .i64 hEv)]) (List.mem_of_getElem? (i := 2) rfl))
  have ss : (Lit.int .u64 s).wf = true := (hx (.v (.int .u64 s)) (by simp))
  have st := of_i64 (hx (.v (.int .i64 t)) (by simp))
  have sy := of_i64 (hx (.v (.int .i64 y)) (by simp))
  have SP := Lib.hid sp
  clear sp
  have SG := Lib.hid sg
  clear sg
  have SH := Lib.hid sh
  clear sh
  have SS := Lib.hid ss
  clear ss
  have ST := Lib.hid st
  clear st
  have SY := Lib.hid sy
  clear sy
  have HP := Lib.hid (hp _ rfl)
  clear hx hp h h0 H1 h1 H2 h2 H3 h3 H4 h4 H5 h5 H6
  generalize hA : std = A
  subst hG
  generalize h_c : ci = c
  generalize h_fh : hyF = fh
  generalize h_fm : moveF = fm
  generalize h_fq : eqF = fq
  generalize h_fk : clR = fk
  generalize h_pc : clP = pc
  generalize h_fl : lenP 4 = fl
  generalize h_fc : sameL = fc
  generalize h_fe : smE = fe
  generalize h_fr : smR = fr
  generalize h_fs : psF = fs
  generalize h_fo : momF = fo
  generalize h_po : momP = po
  generalize h_fw : wtR = fw
  generalize h_pw : wtP = pw
  generalize h_fb : biR = fb
  generalize h_pb : biP = pb
  generalize h_fE : stE = fE
  generalize h_fR : stR = fR
  generalize h_fP : stP = fP
  cbv
  (repeat' (first | apply And.intro | apply BrB.mk | apply BrP.mk | intro _))
  (all_goals (subst hA; subst h_c; subst h_fh; subst h_fm; subst h_fq; subst h_fk; subst h_pc; subst h_fl; subst h_fc; subst h_fe; subst h_fr; subst h_fs; subst h_fo; subst h_po; subst h_fw; subst h_pw; subst h_fb; subst h_pb; subst h_fE; subst h_fR; subst h_fP); all_goals (have f_sp := SP.out; have f_sg := SG.out; have f_sh := SH.out; have f_ss := SS.out; have f_st := ST.out; have f_sy := SY.out; have f_hp := HP.out); all_goals (try simp only [std, stdBin, stdCmp, stdUna, stdIn, ci, beq_iff_eq, bne_iff_ne, beq_eq_false_iff_ne, bne_eq_false_iff_eq, decide_eq_true_eq, decide_eq_false_iff_not, Bool.not_true, Bool.not_false, Bool.not_eq_true', Bool.not_eq_false', Bool.not_not, tn0, tn1, tn2, tn3, hyF, moveF, eqF, clR, clP, lenP, sameL, smE, smR, psF, momF, momP, wtR, wtP, biR, biP, stE, stR] at *); all_goals (try omega))
  all_goals (have HS := (show ((pD.length : Int) * 8 ≤ 140737488355328 ∧ (pL.length : Int) * 1 ≤ 140737488355328) ∧ (pM.length : Int) * 4 ≤ 140737488355328 ∧ (pF.length : Int) * 8 ≤ 140737488355328 ∧ (pH.length : Int) * 1 ≤ 140737488355328 from f_hp); clear f_hp)
  all_goals first
    | exact HS.1
    | exact HS.2.1
    | exact HS.2.2
    | exact HS.2.2.1
    | omega
    | (show Value.int .i64 _ = Value.int .i64 (stErr _ _ _ _ _ _ _ _ _ _ _ _ _ _ _ _ _ _ _ _ _ _ _); refine congrArg _ ?_; unfold stErr; simp_all; done)
    | (exfalso; have h0 : stErr pD pE pL pM pF pG pH gh gD gE gL gF gG gH hBa hWi hRa hMo hDe hEv s t y = 0 := (by assumption); unfold stErr at h0; simp_all; done)
    | (exfalso; have h0 : ¬ stErr pD pE pL pM pF pG pH gh gD gE gL gF gG gH hBa hWi hRa hMo hDe hEv s t y = 0 := (by assumption); unfold stErr at h0; simp_all; done)
    | (have hgh : gh = false := (by assumption); unfold stRes; rw [hgh]; rfl)
    | (have hgh : gh = true := (by first | assumption | (cases gh <;> simp_all)); unfold stRes; rw [hgh]; rfl)
    | (exfalso; have h0 : stErr pD pE pL pM pF pG pH gh gD gE gL gF gG gH hBa hWi hRa hMo hDe hEv s t y = 0 := (by assumption); have e1 : stErr pD pE pL pM pF pG pH gh gD gE gL gF gG gH hBa hWi hRa hMo hDe hEv s t y = 1 := (by unfold stErr; rw [if_neg (fun q => by obtain ⟨_, q1, q2⟩ := q; omega)]); omega)
    | (refine congrArg _ ?_; unfold stErr; rw [if_neg (fun q => by obtain ⟨_, q1, q2⟩ := q; omega)]; done)
    | (obtain ⟨v1, v2, v3, v4, v5, v6, v7, v8, v9, v10⟩ := move_of (by assumption : moveB pD pE pL pM pF pG pH gD gE gL gF gG gH = true)
       have eD : gD = pD := (by assumption)
       have eF : gF = pF := (by assumption)
       have u1 : (smallE ⟨gD, gE, gL⟩ hWi (bv s) (bv (strmI t y 3))).1.data.length = gL.length := small_len (by assumption)
       have u2 : (smallE ⟨gF, gG, gH⟩ hWi (bv s) (bv (strmI t y 5))).1.data.length = gH.length := small_len (by assumption)
       have ml := may_len v1
       rw [eD] at v4
       rw [eF] at v5
       first
         | exact ⟨v1, by rw [List.length_map, List.length_range]; omega⟩
         | exact ⟨v2, by rw [u2]; omega⟩
         | exact ⟨by rw [u1]; omega, by omega⟩)
    | trace_state
end Go.Proofs.Ytekokhlldcmjfaa
