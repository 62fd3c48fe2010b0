/- Layer 21: where there is no gradient nothing is pushed. -/
import Derived.Test.YtekokhlldcmjfaaOptH
namespace Go.Proofs.Ytekokhlldcmjfaa
open Go.RowKit
set_option maxRecDepth 1000000
set_option linter.unusedSimpArgs false
set_option linter.unusedVariables false
set_option maxHeartbeats 16000000
set_option cbv.maxSteps 10000000
/-- A step that goes well. -/
def prmP (ts : List Ty) (tI t8 t32 : TypeId) (p : List AV → Prop) (r : List AV → Pm) : Ctr :=
  ⟨ts, fun xa => some (p xa), fun xa => .ret (.tup [.agg [.hdl 0, .v (.int .i64 (r xa).e), .hdl 1, .hdl 2, .hdl 3, .v (.int .i64 (r xa).g), .hdl 4], .v (.int .i64 0)]) [(0, .irow tI .i64 (r xa).d), (2, .irow t8 .i8 (r xa).l), (3, .irow t32 .i32 (r xa).m), (4, .irow tI .i64 (r xa).f), (6, .irow t8 .i8 (r xa).h)], false⟩
def stQ (xa : List AV) : Prop := stP xa ∧ stE xa = 0
theorem stepP_ok : CtrOk Try.prog 16 (prmP [prmTy, grdTy, hyTy, .int .u64, .int .i64, .int .i64] 3 52 21 stQ stR) := by
  refine step_ok.weaken rfl rfl fun xa hq => ?_
  have h : stQ xa := hq _ rfl
  refine ⟨fun p hp => by cases hp; exact h.1, ?_⟩
  have e : stE xa = 0 := h.2
  simp only [prmC, prmP, Out.pick, e, if_true]
theorem still21_ok : CtrOk Try.prog 5 (boolC [prmTy, hyTy, .int .u64, .int .i64] yes21) := by
  obtain ⟨G, hG⟩ : ∃ G : List (FuncId × Ctr), G = [(24, boolC [prmTy] rmpF), (21, boolC [hyTy] hyF), (16, prmP [prmTy, grdTy, hyTy, .int .u64, .int .i64, .int .i64] 3 52 21 stQ stR), (18, boolC [.sl prmTy, .sl prmTy] sprF), (15, boolC [] yes21)] := ⟨_, rfl⟩
  refine fn_inl (ck := true) [(19, Try.f19)] ⟨⟨Try.func19, by unfold FnOk; kernel_rfl, by kernel_rfl⟩, trivial⟩ Try.func5 rfl tt_ok (G := G) (by rw [hG]; exact ⟨⟨rmp_ok, by unfold FnOk; kernel_rfl⟩, ⟨rmh_ok, by unfold FnOk; kernel_rfl⟩, ⟨stepP_ok, by unfold FnOk; kernel_rfl⟩, ⟨rspr_ok, by unfold FnOk; kernel_rfl⟩, ⟨awake21_ok, by unfold FnOk; kernel_rfl⟩, trivial⟩) mixed (by kernel_rfl) ?_
  intro xa xs h hx hp
  obtain ⟨a0, as0, x0, xs0, rfl, rfl, h0, H1⟩ := svArgs_cons h
  obtain ⟨a1, as1, x1, xs1, rfl, rfl, h1, H2⟩ := svArgs_cons H1
  obtain ⟨a2, as2, x2, xs2, rfl, rfl, h2, H3⟩ := svArgs_cons H2
  obtain ⟨a3, as3, x3, xs3, rfl, rfl, h3, H4⟩ := svArgs_cons H3
  obtain ⟨rfl, rfl⟩ := svArgs_nil H4
  obtain ⟨pD, pE, pL, pM, pF, pG, pH, rfl, rfl⟩ := argSV_prm h0
  obtain ⟨hBa, hWi, hRa, hMo, hDe, hEv, rfl, rfl⟩ := argSV_hy h1
  obtain ⟨s, rfl, rfl⟩ := argSV_int h2
  obtain ⟨t, rfl, rfl⟩ := argSV_int h3
  have sp : (Fits .i64 pD ∧ ci pD.length ≤ 9223372036854775807) ∧ (-9223372036854775808 ≤ pE ∧ pE ≤ 9223372036854775807) ∧ (Fits .i8 pL ∧ ci pL.length ≤ 9223372036854775807) ∧ (Fits .i32 pM ∧ ci pM.length ≤ 9223372036854775807) ∧ (Fits .i64 pF ∧ ci pF.length ≤ 9223372036854775807) ∧ (-9223372036854775808 ≤ pG ∧ pG ≤ 9223372036854775807) ∧ (Fits .i8 pH ∧ ci pH.length ≤ 9223372036854775807) := svf_prm (hx (.agg [.iimm .i64 pD, .v (.int .i64 pE), .iimm .i8 pL, .iimm .i32 pM, .iimm .i64 pF, .v (.int .i64 pG), .iimm .i8 pH]) (List.mem_of_getElem? (i := 0) rfl))
  have sh : (-9223372036854775808 ≤ hBa ∧ hBa ≤ 9223372036854775807) ∧ (-9223372036854775808 ≤ hWi ∧ hWi ≤ 9223372036854775807) ∧ (-9223372036854775808 ≤ hRa ∧ hRa ≤ 9223372036854775807) ∧ (-9223372036854775808 ≤ hMo ∧ hMo ≤ 9223372036854775807) ∧ (-9223372036854775808 ≤ hDe ∧ hDe ≤ 9223372036854775807) ∧ (-9223372036854775808 ≤ hEv ∧ hEv ≤ 9223372036854775807) := svf_hy (hx (.agg [.v (.int .i64 hBa), .v (.int .i64 hWi), .v (.int .i64 hRa), .v (.int .i64 hMo), .v (.int .i64 hDe), .v (.int .i64 hEv)]) (List.mem_of_getElem? (i := 1) rfl))
  have ss : (Lit.int .u64 s).wf = true := (hx (.v (.int .u64 s)) (by simp))
  have st := of_i64 (hx (.v (.int .i64 t)) (by simp))
  have SP := Lib.hid sp
  clear sp
  have SH := Lib.hid sh
  clear sh
  have SS := Lib.hid ss
  clear ss
  have ST := Lib.hid st
  clear st
  clear hx hp h h0 H1 h1 H2 h2 H3 h3 H4
  generalize hA : std = A
  subst hG
  generalize h_c : ci = c
  generalize h_fm : rmpF = fm
  generalize h_fh : hyF = fh
  generalize h_fQ : stQ = fQ
  generalize h_fR : stR = fR
  generalize h_fs : sprF = fs
  generalize h_fY : yes21 = fY
  cbv
  (repeat' (first | apply And.intro | apply BrB.mk | apply BrP.mk | intro _))
  all_goals try (refine loop_at Nat 128 (fun x => [(17, .any), (18, .any), (128, .v (.int .i64 (c x)))]) (fun _ o => o) (fun x => x ≤ pM.length) (fun x => pM.length - x) 0 (Nat.zero_le _) ?_ ?_
                 focus
                   show AS.le _ _
                   (cbv; (repeat' (first | apply And.intro | apply BrB.mk | apply BrP.mk | intro _)); all_goals (subst hA; subst h_c; subst h_fm; subst h_fh; subst h_fQ; subst h_fR; subst h_fs; subst h_fY); all_goals (have f_sp := SP.out; have f_sh := SH.out; have f_ss := SS.out; have f_st := ST.out); all_goals (try simp only [std, stdBin, stdCmp, stdUna, stdIn, ci, beq_iff_eq, bne_iff_ne, beq_eq_false_iff_ne, bne_eq_false_iff_eq, decide_eq_true_eq, decide_eq_false_iff_not, Bool.not_true, Bool.not_false, Bool.not_eq_true', Bool.not_eq_false', Bool.not_not, tn0, tn1, tn2, tn3] at *); (all_goals first | exact True.intro | rfl | exact congrArg (Value.int .i64) (by omega)))
                   done)
  all_goals try (intro x hx; cbv; (repeat' (first | apply And.intro | apply BrB.mk | apply BrP.mk | intro _)))
  all_goals try (refine ⟨x + 1, ?_, ?_, ?_⟩)
  all_goals try (show AS.le _ _; (cbv; (repeat' (first | apply And.intro | apply BrB.mk | apply BrP.mk | intro _)); all_goals (subst hA; subst h_c; subst h_fm; subst h_fh; subst h_fQ; subst h_fR; subst h_fs; subst h_fY); all_goals (have f_sp := SP.out; have f_sh := SH.out; have f_ss := SS.out; have f_st := ST.out); all_goals (try simp only [std, stdBin, stdCmp, stdUna, stdIn, ci, beq_iff_eq, bne_iff_ne, beq_eq_false_iff_ne, bne_eq_false_iff_eq, decide_eq_true_eq, decide_eq_false_iff_not, Bool.not_true, Bool.not_false, Bool.not_eq_true', Bool.not_eq_false', Bool.not_not, tn0, tn1, tn2, tn3] at *); (all_goals first | exact True.intro | rfl | exact congrArg (Value.int .i64) (by omega))))
  (all_goals (subst hA; subst h_c; subst h_fm; subst h_fh; subst h_fQ; subst h_fR; subst h_fs; subst h_fY); all_goals (have f_sp := SP.out; have f_sh := SH.out; have f_ss := SS.out; have f_st := ST.out); all_goals (try simp only [std, stdBin, stdCmp, stdUna, stdIn, ci, beq_iff_eq, bne_iff_ne, beq_eq_false_iff_ne, bne_eq_false_iff_eq, decide_eq_true_eq, decide_eq_false_iff_not, Bool.not_true, Bool.not_false, Bool.not_eq_true', Bool.not_eq_false', Bool.not_not, tn0, tn1, tn2, tn3, rmpF, hyF, stR, spr_one, Int.toNat_natCast] at *); all_goals (try omega))
  all_goals (try first | rfl | contradiction)
  all_goals (have hp : rmpB pD pE pL pM pF pG pH = true := (by assumption); have hh : hyB hBa hWi hRa hMo hDe hEv = true := (by assumption); obtain ⟨h1, h2, h3, h4, h5⟩ := rmp_of hp; have rm := rmp_room hp; have ht0 := modU t 1000 (by decide) (by decide); have ht : 0 ≤ IntKind.i64.wrap ((IntKind.u64.wrap t).tmod 1000) ∧ IntKind.i64.wrap ((IntKind.u64.wrap t).tmod 1000) ≤ 1000000 := (by omega); obtain ⟨A1, A2⟩ := still_none (D := pD) (E := pE) (L := pL) (M := pM) (F := pF) (G := pG) (H := pH) (s := s) hh ht; obtain ⟨B1, B2⟩ := still_err (s := s) hp hh ht (M' := List.replicate pM.length 0) (by rw [List.length_replicate]; exact h4) (by rw [List.length_replicate]; exact mostB_z _); have B3 := still_all (s := s) f_sp.2.2.1.1 f_sp.2.2.2.2.2.2.1 hp hh ht; obtain ⟨C1, C2⟩ := still_err (s := s) hp hh ht (M' := pM) h4 h5)
  all_goals (try simp only [A2, B3, C2, sameTn_self, List.length_map, List.length_range, List.length_replicate, decide_true, Bool.and_true, Bool.true_and, Bool.and_self] at *)
  all_goals (try first | rfl | contradiction | omega)
  all_goals first
    | exact ⟨rm, A1⟩
    | exact ⟨rm, C1⟩
    | (refine ⟨?_, B1⟩; show ((pD.length : Int) * 8 ≤ 140737488355328 ∧ (pL.length : Int) * 1 ≤ 140737488355328) ∧ ((List.replicate pM.length (0 : Int)).length : Int) * 4 ≤ 140737488355328 ∧ (pF.length : Int) * 8 ≤ 140737488355328 ∧ (pH.length : Int) * 1 ≤ 140737488355328; rw [List.length_replicate]; exact rm)
    | (have ml := may_len h2; omega)
    | (exfalso
       have hx2 : x < pM.length := (by omega)
       have hb := mostB_at h5 x hx2
       have hf := fade hMo hb
       simp only [getD_mapF hx2] at *
       first
         | omega
         | (by_cases q : 0 < pM.getD x 0 <;> by_cases q2 : 0 > pM.getD x 0 <;> simp only [q, q2, if_true, if_false] at * <;> omega))
    | trace_state
end Go.Proofs.Ytekokhlldcmjfaa
