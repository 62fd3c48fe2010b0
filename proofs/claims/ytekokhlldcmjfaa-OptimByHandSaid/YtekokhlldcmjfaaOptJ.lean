/- Layer 21: the same step is the same. -/
import Derived.Test.YtekokhlldcmjfaaOptI
namespace Go.Proofs.Ytekokhlldcmjfaa
open Go.RowKit
set_option maxRecDepth 1000000
set_option linter.unusedSimpArgs false
set_option linter.unusedVariables false
set_option maxHeartbeats 16000000
set_option cbv.maxSteps 10000000
theorem acc_u {D U : List Int} (hm : mayD D = true) (hn : (U.length : Int) = szD D) : mayAccB ⟨D, 0, U⟩ = true := by
  unfold mayAccB expB
  simp [hm, hn]
/-- Small sums are made small without a change. -/
theorem small_id {D U : List Int} (s r : BitVec 64) (hm : mayD D = true) (hn : (U.length : Int) = szD D) (hu : ∀ y ∈ U, -127 ≤ y ∧ y ≤ 127) : smallE ⟨D, 0, U⟩ 8 s r = (⟨D, 0, U⟩, 0) := by
  have ha := acc_u hm hn
  have hw : widthB ⟨D, 0, U⟩ ≤ 7 := by unfold widthB; rw [if_pos ha]; exact width7 hu 0 (by omega)
  have hw0 := widthB_in ⟨D, 0, U⟩
  have hz : max 0 (widthB ⟨D, 0, U⟩ - (8 - 1)) = (0 : Int) := by omega
  unfold smallE
  rw [if_neg (by rw [ha]; simp)]
  simp only [hz]
  rw [if_pos (by decide)]
  simp only [smallFrom_id s r U 0 hu, Int.add_zero]
def sameN (L mv : List Int) (de : Int) (i : Nat) : Int := L.getD i 0 - mv.getD i 0 - (if de = 0 then 0 else nearI (L.getD i 0) de)
def sameR (D : List Int) (E : Int) (L M F : List Int) (G : Int) (H U : List Int) (d e : Int) : Pm :=
  ⟨D, (wtT D E (sameN L ((List.range M.length).map (momA M U d)) e) L.length).exp, (wtT D E (sameN L ((List.range M.length).map (momA M U d)) e) L.length).data, (List.range M.length).map (momA M U d), F, G, (List.range H.length).map fun i => clampI (H.getD i 0) 8⟩
theorem same_facts {D : List Int} {E : Int} {L M F : List Int} {G : Int} {H : List Int} {a b c d e f : Int} (s t y : Int) (hp : rmpB D E L M F G H = true) (hh : hyB a b c d e f = true) (ht : 0 ≤ t ∧ t ≤ 1000000) (hy : 1 ≤ y ∧ y ≤ 12) {U : List Int} (hU : U.length = L.length) (hu : ∀ z ∈ U, -127 ≤ z ∧ z ≤ 127) :
    stErr D E L M F G H true D 0 U F 0 (List.replicate H.length 0) a 8 0 d e f s t y = 0 ∧ stRes D E L M F G H true D 0 U F 0 (List.replicate H.length 0) a 8 0 d e f s t y = sameR D E L M F G H U d e := by
  obtain ⟨h1, h2, h3, h4, h5⟩ := rmp_of hp
  obtain ⟨m1, m2, m3, m4⟩ := (mayB_eq D L E).1 h1
  obtain ⟨n1, n2, n3, n4⟩ := (mayB_eq F H G).1 h2
  have hy' := hy_of hh
  have hh0 : hyB a 8 0 d e f = true := by
    unfold hyB
    simp only [decide_eq_true_eq]
    omega
  have hUs : (U.length : Int) = szD D := by rw [hU]; exact m2
  have s1 := small_id (bv s) (bv (strmI t y 3)) m1 hUs hu
  have s2 := small_z (x := 8) (bv s) (bv (strmI t y 5)) n1 n2 (by decide)
  have hmv : moveB D E L M F G H D 0 U F 0 (List.replicate H.length 0) = true := by
    unfold moveB
    rw [h1, h2, acc_u m1 hUs, acc_z n1 n2, h5, decide_eq_true h4]
    rfl
  constructor
  · unfold stErr
    rw [if_pos ⟨hh0, ht, hy⟩, if_pos rfl, if_pos hmv, if_pos ⟨rfl, rfl⟩, s1, s2]
    rfl
  · unfold stRes
    have em : moved M D 0 U 8 d s t y = (List.range M.length).map (momA M U d) := by
      unfold moved
      rw [s1]
    rw [if_pos rfl, em, s2]
    have en : numA L ((List.range M.length).map (momA M U d)) 0 e s t y = sameN L ((List.range M.length).map (momA M U d)) e := by
      funext i
      unfold numA sameN pchI
      have hb : -4611686018427387904 ≤ ((List.range M.length).map (momA M U d)).getD i 0 ∧ ((List.range M.length).map (momA M U d)).getD i 0 ≤ 4611686018427387904 := by
        by_cases hi : i < M.length
        · rw [getD_mapF hi]
          have := cl_in (M.getD i 0 - downI (M.getD i 0) d + U.getD i 0) (-1048576) 1048576 (by decide)
          unfold momA
          omega
        · rw [List.getD_eq_getElem?_getD, List.getElem?_eq_none (by simp; omega)]; decide
      rw [chance_0 _ rfl hb]
    rw [en]
    have eb : (List.range H.length).map (biA H (List.replicate H.length 0) 0 s t y) = (List.range H.length).map fun i => clampI (H.getD i 0) 8 := by
      refine List.map_congr_left fun i hi => ?_
      unfold biA pchI
      rw [rep_getD, chance_z, Int.sub_zero]
    rw [eb]
    rfl
def gA (u : List Int) (i : Nat) : Int := if i < u.length then (if -127 > u.getD i 0 then -127 else u.getD i 0) else 0
theorem gA_pos {u : List Int} {i : Nat} (h : i < u.length) : gA u i = if -127 > u.getD i 0 then -127 else u.getD i 0 := if_pos h
theorem gA_in {u : List Int} (h : Fits .i8 u) (n : Nat) : ∀ z ∈ (List.range n).map (gA u), -127 ≤ z ∧ z ≤ 127 := by
  intro z hz
  obtain ⟨i, hi, rfl⟩ := List.mem_map.1 hz
  have := fits8 h i
  unfold gA
  split
  · split <;> omega
  · omega
theorem same21_ok : CtrOk Try.prog 8 (boolC [prmTy, .sl (.int .i8), hyTy, .int .u64, .int .u64, .int .i64, .int .i64] yes21) := by
  obtain ⟨G, hG⟩ : ∃ G : List (FuncId × Ctr), G = [(24, boolC [prmTy] rmpF), (21, boolC [hyTy] hyF), (16, prmP [prmTy, grdTy, hyTy, .int .u64, .int .i64, .int .i64] 3 52 21 stQ stR), (18, boolC [.sl prmTy, .sl prmTy] sprF), (15, boolC [] yes21)] := ⟨_, rfl⟩
  refine fn_inl (ck := true) [(19, Try.f19)] ⟨⟨Try.func19, by unfold FnOk; kernel_rfl, by kernel_rfl⟩, trivial⟩ Try.func8 rfl tt_ok (G := G) (by rw [hG]; exact ⟨⟨rmp_ok, by unfold FnOk; kernel_rfl⟩, ⟨rmh_ok, by unfold FnOk; kernel_rfl⟩, ⟨stepP_ok, by unfold FnOk; kernel_rfl⟩, ⟨rspr_ok, by unfold FnOk; kernel_rfl⟩, ⟨awake21_ok, by unfold FnOk; kernel_rfl⟩, trivial⟩) mixed (by kernel_rfl) ?_
  intro xa xs h hx hp
  obtain ⟨a0, as0, x0, xs0, rfl, rfl, h0, H1⟩ := svArgs_cons h
  obtain ⟨a1, as1, x1, xs1, rfl, rfl, h1, H2⟩ := svArgs_cons H1
  obtain ⟨a2, as2, x2, xs2, rfl, rfl, h2, H3⟩ := svArgs_cons H2
  obtain ⟨a3, as3, x3, xs3, rfl, rfl, h3, H4⟩ := svArgs_cons H3
  obtain ⟨a4, as4, x4, xs4, rfl, rfl, h4, H5⟩ := svArgs_cons H4
  obtain ⟨a5, as5, x5, xs5, rfl, rfl, h5, H6⟩ := svArgs_cons H5
  obtain ⟨a6, as6, x6, xs6, rfl, rfl, h6, H7⟩ := svArgs_cons H6
  obtain ⟨rfl, rfl⟩ := svArgs_nil H7
  obtain ⟨pD, pE, pL, pM, pF, pG, pH, rfl, rfl⟩ := argSV_prm h0
  obtain ⟨u, rfl, rfl⟩ := argSV_ints h1
  obtain ⟨hBa, hWi, hRa, hMo, hDe, hEv, rfl, rfl⟩ := argSV_hy h2
  obtain ⟨a, rfl, rfl⟩ := argSV_int h3
  obtain ⟨b, rfl, rfl⟩ := argSV_int h4
  obtain ⟨s, rfl, rfl⟩ := argSV_int h5
  obtain ⟨t, rfl, rfl⟩ := argSV_int h6
  have sp : (Fits .i64 pD ∧ ci pD.length ≤ 9223372036854775807) ∧ (-9223372036854775808 ≤ pE ∧ pE ≤ 9223372036854775807) ∧ (Fits .i8 pL ∧ ci pL.length ≤ 9223372036854775807) ∧ (Fits .i32 pM ∧ ci pM.length ≤ 9223372036854775807) ∧ (Fits .i64 pF ∧ ci pF.length ≤ 9223372036854775807) ∧ (-9223372036854775808 ≤ pG ∧ pG ≤ 9223372036854775807) ∧ (Fits .i8 pH ∧ ci pH.length ≤ 9223372036854775807) := svf_prm (hx (.agg [.iimm .i64 pD, .v (.int .i64 pE), .iimm .i8 pL, .iimm .i32 pM, .iimm .i64 pF, .v (.int .i64 pG), .iimm .i8 pH]) (List.mem_of_getElem? (i := 0) rfl))
  have su : Fits .i8 u ∧ ci u.length ≤ 9223372036854775807 := svf_ints (hx (.iimm .i8 u) (by simp))
  have sh : (-9223372036854775808 ≤ hBa ∧ hBa ≤ 9223372036854775807) ∧ (-9223372036854775808 ≤ hWi ∧ hWi ≤ 9223372036854775807) ∧ (-9223372036854775808 ≤ hRa ∧ hRa ≤ 9223372036854775807) ∧ (-9223372036854775808 ≤ hMo ∧ hMo ≤ 9223372036854775807) ∧ (-9223372036854775808 ≤ hDe ∧ hDe ≤ 9223372036854775807) ∧ (-9223372036854775808 ≤ hEv ∧ hEv ≤ 9223372036854775807) := svf_hy (hx (.agg [.v (.int .i64 hBa), .v (.int .i64 hWi), .v (.int .i64 hRa), .v (.int .i64 hMo), .v (.int .i64 hDe), .v (.int .i64 hEv)]) (List.mem_of_getElem? (i := 2) rfl))
  have sa : (Lit.int .u64 a).wf = true := (hx (.v (.int .u64 a)) (by simp))
  have sb : (Lit.int .u64 b).wf = true := (hx (.v (.int .u64 b)) (by simp))
  have ss := of_i64 (hx (.v (.int .i64 s)) (by simp))
  have st := of_i64 (hx (.v (.int .i64 t)) (by simp))
  have SP := Lib.hid sp
  clear sp
  have SU := Lib.hid su
  clear su
  have SH := Lib.hid sh
  clear sh
  have SA := Lib.hid sa
  clear sa
  have SB := Lib.hid sb
  clear sb
  have SS := Lib.hid ss
  clear ss
  have ST := Lib.hid st
  clear st
  clear hx hp h h0 H1 h1 H2 h2 H3 h3 H4 h4 H5 h5 H6 h6 H7
  generalize hA : std = A
  subst hG
  generalize h_c : ci = c
  generalize h_fm : rmpF = fm
  generalize h_fh : hyF = fh
  generalize h_fQ : stQ = fQ
  generalize h_fR : stR = fR
  generalize h_fs : sprF = fs
  generalize h_fY : yes21 = fY
  obtain ⟨S, hS⟩ : ∃ S : Nat → List Int, ∀ x, S x = mixL (fun _ => 0) (gA u) pL.length x := ⟨_, fun _ => rfl⟩
  have HSS := Lib.hid hS
  clear hS
  cbv
  (repeat' (first | apply And.intro | apply BrB.mk | apply BrP.mk | intro _))
  all_goals try first
    | (refine loop_at Nat 62 (fun x => [(16, .any), (62, .v (.int .i64 (c x)))]) (fun x o => o.set 2 (.irow 21 .i32 (S x))) (fun x => x ≤ pL.length) (fun x => pL.length - x) 0 (Nat.zero_le _) ?_ ?_
       focus
         (show AS.le _ _; cbv; (repeat' (first | apply And.intro | apply BrB.mk | apply BrP.mk | intro _)); (all_goals (subst hA; subst h_c; subst h_fm; subst h_fh; subst h_fQ; subst h_fR; subst h_fs; subst h_fY); all_goals (have f_sp := SP.out; have f_su := SU.out; have f_sh := SH.out; have f_sa := SA.out; have f_sb := SB.out; have f_ss := SS.out; have f_st := ST.out); all_goals (try simp only [std, stdBin, stdCmp, stdUna, stdIn, ci, beq_iff_eq, bne_iff_ne, beq_eq_false_iff_ne, bne_eq_false_iff_eq, decide_eq_true_eq, decide_eq_false_iff_not, Bool.not_true, Bool.not_false, Bool.not_eq_true', Bool.not_eq_false', Bool.not_not, tn0, tn1, tn2, tn3, Int.toNat_natCast] at *); all_goals (try omega)); all_goals first | exact True.intro | rfl | (rw [HSS.out, mixL_nil]; done))
         done)
    | (refine loop_at Nat 62 (fun x => [(16, .any), (62, .v (.int .i64 (c x)))]) (fun x o => o.set 3 (.irow 21 .i32 (S x))) (fun x => x ≤ pL.length) (fun x => pL.length - x) 0 (Nat.zero_le _) ?_ ?_
       focus
         (show AS.le _ _; cbv; (repeat' (first | apply And.intro | apply BrB.mk | apply BrP.mk | intro _)); (all_goals (subst hA; subst h_c; subst h_fm; subst h_fh; subst h_fQ; subst h_fR; subst h_fs; subst h_fY); all_goals (have f_sp := SP.out; have f_su := SU.out; have f_sh := SH.out; have f_sa := SA.out; have f_sb := SB.out; have f_ss := SS.out; have f_st := ST.out); all_goals (try simp only [std, stdBin, stdCmp, stdUna, stdIn, ci, beq_iff_eq, bne_iff_ne, beq_eq_false_iff_ne, bne_eq_false_iff_eq, decide_eq_true_eq, decide_eq_false_iff_not, Bool.not_true, Bool.not_false, Bool.not_eq_true', Bool.not_eq_false', Bool.not_not, tn0, tn1, tn2, tn3, Int.toNat_natCast] at *); all_goals (try omega)); all_goals first | exact True.intro | rfl | (rw [HSS.out, mixL_nil]; done))
         done)
    | (refine loop_at Nat 62 (fun x => [(16, .any), (62, .v (.int .i64 (c x)))]) (fun x o => o.set 4 (.irow 21 .i32 (S x))) (fun x => x ≤ pL.length) (fun x => pL.length - x) 0 (Nat.zero_le _) ?_ ?_
       focus
         (show AS.le _ _; cbv; (repeat' (first | apply And.intro | apply BrB.mk | apply BrP.mk | intro _)); (all_goals (subst hA; subst h_c; subst h_fm; subst h_fh; subst h_fQ; subst h_fR; subst h_fs; subst h_fY); all_goals (have f_sp := SP.out; have f_su := SU.out; have f_sh := SH.out; have f_sa := SA.out; have f_sb := SB.out; have f_ss := SS.out; have f_st := ST.out); all_goals (try simp only [std, stdBin, stdCmp, stdUna, stdIn, ci, beq_iff_eq, bne_iff_ne, beq_eq_false_iff_ne, bne_eq_false_iff_eq, decide_eq_true_eq, decide_eq_false_iff_not, Bool.not_true, Bool.not_false, Bool.not_eq_true', Bool.not_eq_false', Bool.not_not, tn0, tn1, tn2, tn3, Int.toNat_natCast] at *); all_goals (try omega)); all_goals first | exact True.intro | rfl | (rw [HSS.out, mixL_nil]; done))
         done)
  all_goals try (intro x hx; cbv; (repeat' (first | apply And.intro | apply BrB.mk | apply BrP.mk | intro _)))
  all_goals try (refine ⟨x + 1, ?_, ?_, ?_⟩)
  all_goals try (show AS.le _ _; cbv; (repeat' (first | apply And.intro | apply BrB.mk | apply BrP.mk | intro _)))
  (all_goals (subst hA; subst h_c; subst h_fm; subst h_fh; subst h_fQ; subst h_fR; subst h_fs; subst h_fY); all_goals (have f_sp := SP.out; have f_su := SU.out; have f_sh := SH.out; have f_sa := SA.out; have f_sb := SB.out; have f_ss := SS.out; have f_st := ST.out); all_goals (try simp only [std, stdBin, stdCmp, stdUna, stdIn, ci, beq_iff_eq, bne_iff_ne, beq_eq_false_iff_ne, bne_eq_false_iff_eq, decide_eq_true_eq, decide_eq_false_iff_not, Bool.not_true, Bool.not_false, Bool.not_eq_true', Bool.not_eq_false', Bool.not_not, tn0, tn1, tn2, tn3, rmpF, hyF, stR, spr_one, Int.toNat_natCast] at *); all_goals (try omega))
  all_goals (try first | rfl | contradiction)
  all_goals (try simp only [List.length_replicate] at *)
  all_goals first
    | (have hp : rmpB pD pE pL pM pF pG pH = true := (by assumption)
       obtain ⟨h1, h2, h3, h4, h5⟩ := rmp_of hp
       have ml := may_len h1
       have ml2 := may_len h2
       have sl : ∀ i, (S i).length = pL.length := (fun i => by rw [HSS.out, mixL_len])
       simp only [sl, List.length_replicate] at *
       first
         | omega
         | (rw [HSS.out, HSS.out]; exact mixL_store (by omega) (gA_pos (by omega)).symm)
         | (have b1 := fits8 f_su.1 x; rw [HSS.out, HSS.out]; refine mixL_store (by omega) ?_; unfold gA; rw [if_pos (by omega), w32 (by split <;> omega) (by split <;> omega)]; done)
         | (rw [HSS.out, HSS.out]; refine mixL_skip ?_; unfold gA; rw [if_neg (by omega)]; done)
         | (split <;> omega))
    | ((have hp : rmpB pD pE pL pM pF pG pH = true := (by assumption); have hh : hyB hBa hWi hRa hMo hDe hEv = true := (by assumption); obtain ⟨h1, h2, h3, h4, h5⟩ := rmp_of hp; have ml := may_len h1; have ml2 := may_len h2; have rm := rmp_room hp; have hx1 : x = pL.length := (by omega); have sx : S x = (List.range pL.length).map (gA u) := (by rw [HSS.out, hx1, mixL_all]); have ht0 := modU s 1000 (by decide) (by decide); have ht1 := modU t 1000 (by decide) (by decide); obtain ⟨A1, A2⟩ := same_facts (U := (List.range pL.length).map (gA u)) a (IntKind.i64.wrap ((IntKind.u64.wrap s).tmod 1000)) 1 hp hh (by omega) (by decide) (by simp) (gA_in f_su.1 _); obtain ⟨B1, B2⟩ := same_facts (U := (List.range pL.length).map (gA u)) b (IntKind.i64.wrap ((IntKind.u64.wrap t).tmod 1000)) 5 hp hh (by omega) (by decide) (by simp) (gA_in f_su.1 _))
       first
         | (rw [sx]; exact ⟨rm, A1⟩)
         | (rw [sx]; exact ⟨rm, B1⟩)
         | (simp only [sx, A2, B2, sameTn_self, decide_true, Bool.and_true, Bool.true_and, Bool.and_self] at *; first | rfl | contradiction | omega))
    | trace_state
end Go.Proofs.Ytekokhlldcmjfaa
