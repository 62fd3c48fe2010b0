/- Layer 21: whatever comes, what a step leaves may be. -/
import Derived.Test.YtekokhlldcmjfaaOptE
namespace Go.Proofs.Ytekokhlldcmjfaa
open Go.RowKit
set_option maxRecDepth 1000000
set_option linter.unusedSimpArgs false
set_option linter.unusedVariables false
set_option maxHeartbeats 16000000
set_option cbv.maxSteps 10000000
theorem map_no {f : Nat → Int} {n : Nat} (h : ∀ i, i < n → -127 ≤ f i) : ((List.range n).map f).contains (-128) = false := by
  rw [List.contains_eq_mem, decide_eq_false_iff_not]
  intro hm
  obtain ⟨i, hi, he⟩ := List.mem_map.1 hm
  have := h i (List.mem_range.1 hi)
  omega
/-- What a step leaves may be, if what it took may be. -/
theorem st_may {D : List Int} {E : Int} {L M F : List Int} {G : Int} {H : List Int} {gb : Bool} {gD : List Int} {gE : Int} {gL gF : List Int} {gG : Int} {gH : List Int} {a b c d e f seed step layer : Int} (hp : rmpB D E L M F G H = true) :
    rmpB (stRes D E L M F G H gb gD gE gL gF gG gH a b c d e f seed step layer).d (stRes D E L M F G H gb gD gE gL gF gG gH a b c d e f seed step layer).e (stRes D E L M F G H gb gD gE gL gF gG gH a b c d e f seed step layer).l (stRes D E L M F G H gb gD gE gL gF gG gH a b c d e f seed step layer).m
      (stRes D E L M F G H gb gD gE gL gF gG gH a b c d e f seed step layer).f (stRes D E L M F G H gb gD gE gL gF gG gH a b c d e f seed step layer).g (stRes D E L M F G H gb gD gE gL gF gG gH a b c d e f seed step layer).h = true ∧
    (stRes D E L M F G H gb gD gE gL gF gG gH a b c d e f seed step layer).m.length = M.length ∧ (stRes D E L M F G H gb gD gE gL gF gG gH a b c d e f seed step layer).h.length = H.length ∧
    E ≤ (stRes D E L M F G H gb gD gE gL gF gG gH a b c d e f seed step layer).e ∧ (stRes D E L M F G H gb gD gE gL gF gG gH a b c d e f seed step layer).e ≤ E + 1 := by
  obtain ⟨h1, h2, h3, h4, h5⟩ := rmp_of hp
  unfold stRes
  cases gb with
  | false => exact ⟨hp, rfl, rfl, by show E ≤ E; omega, by show E ≤ E + 1; omega⟩
  | true =>
    simp only [if_true]
    obtain ⟨m1, m2, m3, m4⟩ := (mayB_eq D L E).1 h1
    obtain ⟨n1, n2, n3, n4⟩ := (mayB_eq F H G).1 h2
    have hml : (moved M gD gE gL b d seed step layer).length = M.length := by simp [moved]
    generalize hm : moved M gD gE gL b d seed step layer = mv at hml ⊢
    refine ⟨rmp_mk ?_ ?_ h3 ?_ ?_, hml, by simp, ?_, ?_⟩
    · refine (mayB_eq _ _ _).2 ⟨m1, ?_, ?_, ?_⟩
      · unfold wtT
        simp only [List.length_map, List.length_range]
        exact m2
      · unfold wtT
        simp only
        split
        · rename_i hw
          unfold wtO at hw
          simp only [Bool.and_eq_true, decide_eq_true_eq] at hw
          omega
        · exact m3
      · unfold wtT
        exact map_no fun i hi => by
          have := clamp8_in (if wtO (numA L mv c e seed step layer) L.length E = true then nearI (numA L mv c e seed step layer i) 1 else numA L mv c e seed step layer i)
          exact this.1
    · refine (mayB_eq _ _ _).2 ⟨n1, ?_, n3, ?_⟩
      · simp only [List.length_map, List.length_range]
        exact n2
      · exact map_no fun i hi => (clamp8_in _).1
    · rw [hml, h4]
      unfold wtT
      simp
    · rw [hml]
      refine mostB_of fun i hi => ?_
      rw [← hm]
      unfold moved
      rw [getD_mapF hi]
      unfold momA
      have := cl_in (M.getD i 0 - downI (M.getD i 0) d + (smallE ⟨gD, gE, gL⟩ b (bv seed) (bv (strmI step layer 3))).1.data.getD i 0) (-1048576) 1048576 (by decide)
      omega
    · unfold wtT
      simp only
      split <;> omega
    · unfold wtT
      simp only
      split <;> omega
theorem rmp_room {D : List Int} {E : Int} {L M F : List Int} {G : Int} {H : List Int} (h : rmpB D E L M F G H = true) : ((D.length : Int) * 8 ≤ 140737488355328 ∧ (L.length : Int) * 1 ≤ 140737488355328) ∧ (M.length : Int) * 4 ≤ 140737488355328 ∧ (F.length : Int) * 8 ≤ 140737488355328 ∧ (H.length : Int) * 1 ≤ 140737488355328 := by
  obtain ⟨h1, h2, h3, h4, h5⟩ := rmp_of h
  have := may_len h1
  have := may_len h2
  omega
theorem within21_ok : CtrOk Try.prog 7 (boolC [prmTy, grdTy, hyTy, .int .u64, .int .i64, .int .i64] yes21) := by
  obtain ⟨G, hG⟩ : ∃ G : List (FuncId × Ctr), G = [(14, boolC [prmTy, grdTy] lg21F), (24, boolC [prmTy] rmpF), (16, prmC [prmTy, grdTy, hyTy, .int .u64, .int .i64, .int .i64] 3 52 21 stP stE stR), (15, boolC [] yes21)] := ⟨_, rfl⟩
  refine fn_ok (ck := true) Try.func7 rfl tt_ok (G := G) (by rw [hG]; exact ⟨⟨light21_ok, by unfold FnOk; kernel_rfl⟩, ⟨rmp_ok, by unfold FnOk; kernel_rfl⟩, ⟨step_ok, by unfold FnOk; kernel_rfl⟩, ⟨awake21_ok, by unfold FnOk; kernel_rfl⟩, trivial⟩) mixed (by kernel_rfl) ?_
  intro xa xs h hx hp
  obtain ⟨a0, as0, x0, xs0, rfl, rfl, h0, H1⟩ := svArgs_cons h
  obtain ⟨a1, as1, x1, xs1, rfl, rfl, h1, H2⟩ := svArgs_cons H1
  obtain ⟨a2, as2, x2, xs2, rfl, rfl, h2, H3⟩ := svArgs_cons H2
  obtain ⟨a3, as3, x3, xs3, rfl, rfl, h3, H4⟩ := svArgs_cons H3
  obtain ⟨a4, as4, x4, xs4, rfl, rfl, h4, H5⟩ := svArgs_cons H4
  obtain ⟨a5, as5, x5, xs5, rfl, rfl, h5, H6⟩ := svArgs_cons H5
  obtain ⟨rfl, rfl⟩ := svArgs_nil H6
  obtain ⟨pD, pE, pL, pM, pF, pG, pH, rfl, rfl⟩ := argSV_prm h0
  obtain ⟨gh, gD, gE, gL, gF, gG, gH, rfl, rfl⟩ := argSV_grd h1
  obtain ⟨hBa, hWi, hRa, hMo, hDe, hEv, rfl, rfl⟩ := argSV_hy h2
  obtain ⟨s, rfl, rfl⟩ := argSV_int h3
  obtain ⟨t, rfl, rfl⟩ := argSV_int h4
  obtain ⟨y, rfl, rfl⟩ := argSV_int h5
  have sp : (Fits .i64 pD ∧ ci pD.length ≤ 9223372036854775807) ∧ (-9223372036854775808 ≤ pE ∧ pE ≤ 9223372036854775807) ∧ (Fits .i8 pL ∧ ci pL.length ≤ 9223372036854775807) ∧ (Fits .i32 pM ∧ ci pM.length ≤ 9223372036854775807) ∧ (Fits .i64 pF ∧ ci pF.length ≤ 9223372036854775807) ∧ (-9223372036854775808 ≤ pG ∧ pG ≤ 9223372036854775807) ∧ (Fits .i8 pH ∧ ci pH.length ≤ 9223372036854775807) := svf_prm (hx (.agg [.iimm .i64 pD, .v (.int .i64 pE), .iimm .i8 pL, .iimm .i32 pM, .iimm .i64 pF, .v (.int .i64 pG), .iimm .i8 pH]) (List.mem_of_getElem? (i := 0) rfl))
  have sg : (Fits .i64 gD ∧ ci gD.length ≤ 9223372036854775807) ∧ (-9223372036854775808 ≤ gE ∧ gE ≤ 9223372036854775807) ∧ (Fits .i32 gL ∧ ci gL.length ≤ 9223372036854775807) ∧ (Fits .i64 gF ∧ ci gF.length ≤ 9223372036854775807) ∧ (-9223372036854775808 ≤ gG ∧ gG ≤ 9223372036854775807) ∧ (Fits .i32 gH ∧ ci gH.length ≤ 9223372036854775807) := svf_grd (hx (.agg [.v (.bool gh), .iimm .i64 gD, .v (.int .i64 gE), .iimm .i32 gL, .iimm .i64 gF, .v (.int .i64 gG), .iimm .i32 gH]) (List.mem_of_getElem? (i := 1) rfl))
  have sh : (-9223372036854775808 ≤ hBa ∧ hBa ≤ 9223372036854775807) ∧ (-9223372036854775808 ≤ hWi ∧ hWi ≤ 9223372036854775807) ∧ (-9223372036854775808 ≤ hRa ∧ hRa ≤ 9223372036854775807) ∧ (-9223372036854775808 ≤ hMo ∧ hMo ≤ 9223372036854775807) ∧ (-9223372036854775808 ≤ hDe ∧ hDe ≤ 9223372036854775807) ∧ (-9223372036854775808 ≤ hEv ∧ hEv ≤ 9223372036854775807) := svf_hy (hx (.agg [.v (.int .i64 hBa), .v (.int .i64 hWi), .v (.int .i64 hRa), .v (.int .i64 hMo), .v (.int .i64 hDe), .v (.int .i64 hEv)]) (List.mem_of_getElem? (i := 2) rfl))
  have ss : (Lit.int .u64 s).wf = true := (hx (.v (.int .u64 s)) (by simp))
  have st := of_i64 (hx (.v (.int .i64 t)) (by simp))
  have sy := of_i64 (hx (.v (.int .i64 y)) (by simp))
  have SP := Lib.hid sp
  clear sp
  have SG := Lib.hid sg
  clear sg
  have SH := Lib.hid sh
  clear sh
  have SS := Lib.hid ss
  clear ss
  have ST := Lib.hid st
  clear st
  have SY := Lib.hid sy
  clear sy
  clear hx hp h h0 H1 h1 H2 h2 H3 h3 H4 h4 H5 h5 H6
  generalize hA : std = A
  subst hG
  generalize h_c : ci = c
  generalize h_fl : lg21F = fl
  generalize h_fm : rmpF = fm
  generalize h_fE : stE = fE
  generalize h_fR : stR = fR
  generalize h_fP : stP = fP
  generalize h_fY : yes21 = fY
  cbv
  (repeat' (first | apply And.intro | apply BrB.mk | apply BrP.mk | intro _))
  (all_goals (subst hA; subst h_c; subst h_fl; subst h_fm; subst h_fE; subst h_fR; subst h_fP; subst h_fY); all_goals (have f_sp := SP.out; have f_sg := SG.out; have f_sh := SH.out; have f_ss := SS.out; have f_st := ST.out; have f_sy := SY.out); all_goals (try simp only [std, stdBin, stdCmp, stdUna, stdIn, ci, beq_iff_eq, bne_iff_ne, beq_eq_false_iff_ne, bne_eq_false_iff_eq, decide_eq_true_eq, decide_eq_false_iff_not, Bool.not_true, Bool.not_false, Bool.not_eq_true', Bool.not_eq_false', Bool.not_not, tn0, tn1, tn2, tn3, lg21F, rmpF, stE, stR] at *); all_goals (try omega))
  all_goals (try first | rfl | contradiction)
  all_goals first
    | (exact rmp_room (by assumption))
    | (have hp : rmpB pD pE pL pM pF pG pH = true := (by assumption)
       obtain ⟨k1, k2, k3, k4, k5⟩ := st_may (gb := gh) (gD := gD) (gE := gE) (gL := gL) (gF := gF) (gG := gG) (gH := gH) (a := hBa) (b := hWi) (c := hRa) (d := hMo) (e := hDe) (f := hEv) (seed := s) (step := t) (layer := y) hp
       obtain ⟨h1, h2, h3, h4, h5⟩ := rmp_of hp
       have q1 := may_len h1
       first
         | omega
         | (exfalso; have k6 : rmpB _ _ _ _ _ _ _ = false := (by assumption); rw [k1] at k6; cases k6)
         | (exfalso; simp only [k2, k3] at *; contradiction)
         | (refine vb ?_; simp only [decide_eq_true_eq]; omega)
         | (simp_all; done)
         | (simp_all; omega))
    | trace_state
end Go.Proofs.Ytekokhlldcmjfaa
