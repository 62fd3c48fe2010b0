/- Layer 21: weights that may be, a step that every program must know. -/
import Derived.Test.YtekokhlldcmjfaaOptD
namespace Go.Proofs.Ytekokhlldcmjfaa
open Go.RowKit
set_option maxRecDepth 1000000
set_option linter.unusedSimpArgs false
set_option linter.unusedVariables false
set_option maxHeartbeats 16000000
set_option cbv.maxSteps 10000000
def yes21 (xa : List AV) : Bool := true
def rmpB (D : List Int) (E : Int) (L M F : List Int) (G : Int) (H : List Int) : Bool := mayB ⟨D, E, L⟩ && mayB ⟨F, G, H⟩ && decide (F.length = 1) && decide (M.length = L.length) && mostB M M.length
def rmpF (xa : List AV) : Bool := match xa with
  | [.st [.st [.l D, .z E, .l L], .l M, .st [.l F, .z G, .l H]]] => rmpB D E L M F G H
  | _ => false
theorem rmp_of {D : List Int} {E : Int} {L M F : List Int} {G : Int} {H : List Int} (h : rmpB D E L M F G H = true) : mayB ⟨D, E, L⟩ = true ∧ mayB ⟨F, G, H⟩ = true ∧ F.length = 1 ∧ M.length = L.length ∧ mostB M M.length = true := by
  unfold rmpB at h
  simp only [Bool.and_eq_true, decide_eq_true_eq] at h
  obtain ⟨⟨⟨⟨h1, h2⟩, h3⟩, h4⟩, h5⟩ := h
  exact ⟨h1, h2, h3, h4, h5⟩
theorem rmp_mk {D : List Int} {E : Int} {L M F : List Int} {G : Int} {H : List Int} (h1 : mayB ⟨D, E, L⟩ = true) (h2 : mayB ⟨F, G, H⟩ = true) (h3 : F.length = 1) (h4 : M.length = L.length) (h5 : mostB M M.length = true) : rmpB D E L M F G H = true := by
  unfold rmpB
  simp only [Bool.and_eq_true, decide_eq_true_eq]
  exact ⟨⟨⟨⟨h1, h2⟩, h3⟩, h4⟩, h5⟩
theorem rmp_ok : CtrOk Try.prog 24 (boolC [prmTy] rmpF) := by
  obtain ⟨G, hG⟩ : ∃ G : List (FuncId × Ctr), G = [(64, boolC [.sl (tnTy .i8)] mayAllF)] := ⟨_, rfl⟩
  refine fn_ok (ck := true) Try.func24 rfl tt_ok (G := G) (by rw [hG]; exact ⟨⟨rtmay_ok, by unfold FnOk; kernel_rfl⟩, trivial⟩) mixed (by kernel_rfl) ?_
  intro xa xs h hx hp
  obtain ⟨a0, as0, x0, xs0, rfl, rfl, h0, H1⟩ := svArgs_cons h
  obtain ⟨rfl, rfl⟩ := svArgs_nil H1
  obtain ⟨pD, pE, pL, pM, pF, pG, pH, rfl, rfl⟩ := argSV_prm h0
  have sp : (Fits .i64 pD ∧ ci pD.length ≤ 9223372036854775807) ∧ (-9223372036854775808 ≤ pE ∧ pE ≤ 9223372036854775807) ∧ (Fits .i8 pL ∧ ci pL.length ≤ 9223372036854775807) ∧ (Fits .i32 pM ∧ ci pM.length ≤ 9223372036854775807) ∧ (Fits .i64 pF ∧ ci pF.length ≤ 9223372036854775807) ∧ (-9223372036854775808 ≤ pG ∧ pG ≤ 9223372036854775807) ∧ (Fits .i8 pH ∧ ci pH.length ≤ 9223372036854775807) := svf_prm (hx (.agg [.iimm .i64 pD, .v (.int .i64 pE), .iimm .i8 pL, .iimm .i32 pM, .iimm .i64 pF, .v (.int .i64 pG), .iimm .i8 pH]) (List.mem_of_getElem? (i := 0) rfl))
  have SP := Lib.hid sp
  clear sp
  clear hx hp h h0 H1
  generalize hA : std = A
  subst hG
  generalize h_c : ci = c
  generalize h_fm : mayAllF = fm
  generalize h_fR : rmpF = fR
  cbv
  (repeat' (first | apply And.intro | apply BrB.mk | apply BrP.mk | intro _))
  all_goals try (refine loop_at Nat 32 (fun x => [(4, .any), (32, .v (.int .i64 (c x)))]) (fun _ o => o) (fun x => x ≤ pM.length ∧ ∀ j, j < x → -1048576 ≤ pM.getD j 0 ∧ pM.getD j 0 ≤ 1048576) (fun x => pM.length - x) 0 ?h0 ?hle ?round)
  case h0 => exact ⟨Nat.zero_le _, fun j hj => absurd hj (Nat.not_lt_zero _)⟩
  case hle => (cbv; (repeat' (first | apply And.intro | apply BrB.mk | apply BrP.mk | intro _)); all_goals (subst hA; subst h_c; subst h_fm; subst h_fR); all_goals (have f_sp := SP.out); all_goals (try simp only [std, stdBin, stdCmp, stdUna, stdIn, ci, beq_iff_eq, bne_iff_ne, beq_eq_false_iff_ne, bne_eq_false_iff_eq, decide_eq_true_eq, decide_eq_false_iff_not, Bool.not_true, Bool.not_false, Bool.not_eq_true', Bool.not_eq_false', Bool.not_not, tn0, tn1, tn2, tn3] at *); (all_goals first | exact True.intro | rfl | exact congrArg (Value.int .i64) (by omega)))
  case round =>
    intro x hx
    cbv
    (repeat' (first | apply And.intro | apply BrB.mk | apply BrP.mk | intro _))
    all_goals try (refine ⟨x + 1, ?_, ?_, ?_⟩)
    all_goals try (show AS.le _ _; (cbv; (repeat' (first | apply And.intro | apply BrB.mk | apply BrP.mk | intro _)); all_goals (subst hA; subst h_c; subst h_fm; subst h_fR); all_goals (have f_sp := SP.out); all_goals (try simp only [std, stdBin, stdCmp, stdUna, stdIn, ci, beq_iff_eq, bne_iff_ne, beq_eq_false_iff_ne, bne_eq_false_iff_eq, decide_eq_true_eq, decide_eq_false_iff_not, Bool.not_true, Bool.not_false, Bool.not_eq_true', Bool.not_eq_false', Bool.not_not, tn0, tn1, tn2, tn3] at *); (all_goals first | exact True.intro | rfl | exact congrArg (Value.int .i64) (by omega))))
    (all_goals (subst hA; subst h_c; subst h_fm; subst h_fR); all_goals (have f_sp := SP.out); all_goals (try simp only [std, stdBin, stdCmp, stdUna, stdIn, ci, beq_iff_eq, bne_iff_ne, beq_eq_false_iff_ne, bne_eq_false_iff_eq, decide_eq_true_eq, decide_eq_false_iff_not, Bool.not_true, Bool.not_false, Bool.not_eq_true', Bool.not_eq_false', Bool.not_not, tn0, tn1, tn2, tn3, rmpF, mayD2, Int.toNat_natCast] at *); all_goals (try omega))
    all_goals first
      | exact True.intro
      | omega
      | (refine ⟨by omega, fun j hj => ?_⟩
         by_cases e : j = x
         · subst e; omega
         · exact hx.2 j (by omega))
      | (refine vb ?_
         have hno : mostB pM pM.length = false := mostB_no (i := x) (by omega) (by omega)
         unfold rmpB
         rw [hno, Bool.and_false]
         done)
      | (refine vb ?_
         have hyes : mostB pM pM.length = true := mostB_of (fun j hj => hx.2 j (by omega))
         have hm : (mayB ⟨pD, pE, pL⟩ && mayB ⟨pF, pG, pH⟩) = true := (by assumption)
         rw [Bool.and_eq_true] at hm
         exact rmp_mk hm.1 hm.2 (by omega) (by omega) hyes)
      | trace_state
  (all_goals (subst hA; subst h_c; subst h_fm; subst h_fR); all_goals (have f_sp := SP.out); all_goals (try simp only [std, stdBin, stdCmp, stdUna, stdIn, ci, beq_iff_eq, bne_iff_ne, beq_eq_false_iff_ne, bne_eq_false_iff_eq, decide_eq_true_eq, decide_eq_false_iff_not, Bool.not_true, Bool.not_false, Bool.not_eq_true', Bool.not_eq_false', Bool.not_not, tn0, tn1, tn2, tn3, rmpF, mayD2] at *); all_goals (try omega))
  all_goals (refine vb ?_)
  all_goals (cases hh : rmpB pD pE pL pM pF pG pH with
    | false => rfl
    | true => (exfalso; obtain ⟨q1, q2, q3, q4, q5⟩ := rmp_of hh; first | omega | (have hm : (mayB ⟨pD, pE, pL⟩ && mayB ⟨pF, pG, pH⟩) = false := (by assumption); rw [q1, q2] at hm; cases hm)))
theorem rmh_ok : CtrOk Try.prog 21 (boolC [hyTy] hyF) := by
  obtain ⟨G, hG⟩ : ∃ G : List (FuncId × Ctr), G = [] := ⟨_, rfl⟩
  refine fn_inl (ck := true) [(52, Try.f52)] ⟨⟨Try.func52, by unfold FnOk; kernel_rfl, by kernel_rfl⟩, trivial⟩ Try.func21 rfl tt_ok (G := G) (by rw [hG]; exact trivial) mixed (by kernel_rfl) ?_
  intro xa xs h hx hp
  obtain ⟨a0, as0, x0, xs0, rfl, rfl, h0, H1⟩ := svArgs_cons h
  obtain ⟨rfl, rfl⟩ := svArgs_nil H1
  obtain ⟨hBa, hWi, hRa, hMo, hDe, hEv, rfl, rfl⟩ := argSV_hy h0
  have sh : (-9223372036854775808 ≤ hBa ∧ hBa ≤ 9223372036854775807) ∧ (-9223372036854775808 ≤ hWi ∧ hWi ≤ 9223372036854775807) ∧ (-9223372036854775808 ≤ hRa ∧ hRa ≤ 9223372036854775807) ∧ (-9223372036854775808 ≤ hMo ∧ hMo ≤ 9223372036854775807) ∧ (-9223372036854775808 ≤ hDe ∧ hDe ≤ 9223372036854775807) ∧ (-9223372036854775808 ≤ hEv ∧ hEv ≤ 9223372036854775807) := svf_hy (hx (.agg [.v (.int .i64 hBa), .v (.int .i64 hWi), .v (.int .i64 hRa), .v (.int .i64 hMo), .v (.int .i64 hDe), .v (.int .i64 hEv)]) (List.mem_of_getElem? (i := 0) rfl))
  have SH := Lib.hid sh
  clear sh
  clear hx hp h h0 H1
  generalize hA : std = A
  subst hG
  generalize h_c : ci = c
  generalize h_fR : hyF = fR
  cbv
  (repeat' (first | apply And.intro | apply BrB.mk | apply BrP.mk | intro _))
  (all_goals (subst hA; subst h_c; subst h_fR); all_goals (have f_sh := SH.out); all_goals (try simp only [std, stdBin, stdCmp, stdUna, stdIn, ci, beq_iff_eq, bne_iff_ne, beq_eq_false_iff_ne, bne_eq_false_iff_eq, decide_eq_true_eq, decide_eq_false_iff_not, Bool.not_true, Bool.not_false, Bool.not_eq_true', Bool.not_eq_false', Bool.not_not, tn0, tn1, tn2, tn3, hyF] at *); all_goals (try omega))
  all_goals (refine vb ?_; rw [Bool.eq_iff_iff])
  all_goals (simp only [hyB, decide_eq_true_eq, Bool.false_eq_true, iff_false, false_iff] at *)
  all_goals (try omega)
  all_goals trace_state
def lg21 (a b c d e : Int) : Int := IntKind.i64.wrap (IntKind.i64.wrap (IntKind.i64.wrap (IntKind.i64.wrap (a + b) + c) + d) + e)
def lg21F (xa : List AV) : Bool := match xa with
  | [.st [.st [.l _, .z _, .l L], .l M, .st [.l _, .z _, .l H]], .st [.b _, .st [.l _, .z _, .l gL], .st [.l _, .z _, .l gH]]] => decide (lg21 L.length M.length H.length gL.length gH.length ≤ 600)
  | _ => false
theorem light21_ok : CtrOk Try.prog 14 (boolC [prmTy, grdTy] lg21F) := by
  obtain ⟨G, hG⟩ : ∃ G : List (FuncId × Ctr), G = [] := ⟨_, rfl⟩
  refine fn_ok (ck := false) Try.func14 rfl tt_ok (G := G) (by rw [hG]; exact trivial) mixed (by kernel_rfl) ?_
  intro xa xs h hx hp
  obtain ⟨a0, as0, x0, xs0, rfl, rfl, h0, H1⟩ := svArgs_cons h
  obtain ⟨a1, as1, x1, xs1, rfl, rfl, h1, H2⟩ := svArgs_cons H1
  obtain ⟨rfl, rfl⟩ := svArgs_nil H2
  obtain ⟨pD, pE, pL, pM, pF, pG, pH, rfl, rfl⟩ := argSV_prm h0
  obtain ⟨gh, gD, gE, gL, gF, gG, gH, rfl, rfl⟩ := argSV_grd h1
  have sp : (Fits .i64 pD ∧ ci pD.length ≤ 9223372036854775807) ∧ (-9223372036854775808 ≤ pE ∧ pE ≤ 9223372036854775807) ∧ (Fits .i8 pL ∧ ci pL.length ≤ 9223372036854775807) ∧ (Fits .i32 pM ∧ ci pM.length ≤ 9223372036854775807) ∧ (Fits .i64 pF ∧ ci pF.length ≤ 9223372036854775807) ∧ (-9223372036854775808 ≤ pG ∧ pG ≤ 9223372036854775807) ∧ (Fits .i8 pH ∧ ci pH.length ≤ 9223372036854775807) := svf_prm (hx (.agg [.iimm .i64 pD, .v (.int .i64 pE), .iimm .i8 pL, .iimm .i32 pM, .iimm .i64 pF, .v (.int .i64 pG), .iimm .i8 pH]) (List.mem_of_getElem? (i := 0) rfl))
  have sg : (Fits .i64 gD ∧ ci gD.length ≤ 9223372036854775807) ∧ (-9223372036854775808 ≤ gE ∧ gE ≤ 9223372036854775807) ∧ (Fits .i32 gL ∧ ci gL.length ≤ 9223372036854775807) ∧ (Fits .i64 gF ∧ ci gF.length ≤ 9223372036854775807) ∧ (-9223372036854775808 ≤ gG ∧ gG ≤ 9223372036854775807) ∧ (Fits .i32 gH ∧ ci gH.length ≤ 9223372036854775807) := svf_grd (hx (.agg [.v (.bool gh), .iimm .i64 gD, .v (.int .i64 gE), .iimm .i32 gL, .iimm .i64 gF, .v (.int .i64 gG), .iimm .i32 gH]) (List.mem_of_getElem? (i := 1) rfl))
  have SP := Lib.hid sp
  clear sp
  have SG := Lib.hid sg
  clear sg
  clear hx hp h h0 H1 h1 H2
  generalize hA : std = A
  subst hG
  generalize h_c : ci = c
  generalize h_fR : lg21F = fR
  cbv
  (repeat' (first | apply And.intro | apply BrB.mk | apply BrP.mk | intro _))
  (all_goals (subst hA; subst h_c; subst h_fR); all_goals (have f_sp := SP.out; have f_sg := SG.out); all_goals (try simp only [std, stdBin, stdCmp, stdUna, stdIn, ci, beq_iff_eq, bne_iff_ne, beq_eq_false_iff_ne, bne_eq_false_iff_eq, decide_eq_true_eq, decide_eq_false_iff_not, Bool.not_true, Bool.not_false, Bool.not_eq_true', Bool.not_eq_false', Bool.not_not, tn0, tn1, tn2, tn3, lg21F] at *); all_goals (try omega))
  all_goals first | rfl | trace_state
theorem awk21 : stE [.st [.st [.l [1, 1], .z 0, .l [5]], .l [9], .st [.l [1], .z 0, .l [0]]], .st [.b true, .st [.l [1, 1], .z 0, .l [2]], .st [.l [1], .z 0, .l [0]]], .st [.z 1, .z 8, .z 0, .z 0, .z 0, .z 0], .z 1, .z 0, .z 1] = 0 := by kernel_rfl
theorem awk21' : stR [.st [.st [.l [1, 1], .z 0, .l [5]], .l [9], .st [.l [1], .z 0, .l [0]]], .st [.b true, .st [.l [1, 1], .z 0, .l [2]], .st [.l [1], .z 0, .l [0]]], .st [.z 1, .z 8, .z 0, .z 0, .z 0, .z 0], .z 1, .z 0, .z 1] = ⟨[1, 1], 0, [3], [2], [1], 0, [0]⟩ := by kernel_rfl
theorem awake21_ok : CtrOk Try.prog 15 (boolC [] yes21) := by
  obtain ⟨G, hG⟩ : ∃ G : List (FuncId × Ctr), G = [(16, prmC [prmTy, grdTy, hyTy, .int .u64, .int .i64, .int .i64] 3 52 21 stP stE stR)] := ⟨_, rfl⟩
  refine fn_ok (ck := true) Try.func15 rfl tt_ok (G := G) (by rw [hG]; exact ⟨⟨step_ok, by unfold FnOk; kernel_rfl⟩, trivial⟩) mixed (by kernel_rfl) ?_
  intro xa xs h hx hp
  obtain ⟨rfl, rfl⟩ := svArgs_nil h
  clear hx hp h 
  generalize hA : std = A
  subst hG
  generalize h_c : ci = c
  generalize h_fE : stE = fE
  generalize h_fR : stR = fR
  generalize h_fP : stP = fP
  generalize h_fY : yes21 = fY
  cbv
  (repeat' (first | apply And.intro | apply BrB.mk | apply BrP.mk | intro _))
  (all_goals (subst hA; subst h_c; subst h_fE; subst h_fR; subst h_fP; subst h_fY); all_goals (skip); all_goals (try simp only [std, stdBin, stdCmp, stdUna, stdIn, ci, beq_iff_eq, bne_iff_ne, beq_eq_false_iff_ne, bne_eq_false_iff_eq, decide_eq_true_eq, decide_eq_false_iff_not, Bool.not_true, Bool.not_false, Bool.not_eq_true', Bool.not_eq_false', Bool.not_not, tn0, tn1, tn2, tn3, awk21, awk21'] at *); all_goals (try omega))
  all_goals first
    | rfl
    | contradiction
    | (simp_all; done)
    | (show (((2 : Int) * 8 ≤ 140737488355328 ∧ (1 : Int) * 1 ≤ 140737488355328) ∧ (1 : Int) * 4 ≤ 140737488355328 ∧ (1 : Int) * 8 ≤ 140737488355328 ∧ (1 : Int) * 1 ≤ 140737488355328); omega)
    | trace_state
end Go.Proofs.Ytekokhlldcmjfaa
