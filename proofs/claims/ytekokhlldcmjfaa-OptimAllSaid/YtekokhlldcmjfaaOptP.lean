/- Layer 21: the counterpart of a layer's step down. -/
import Derived.Test.YtekokhlldcmjfaaOptO
import Derived.Test.YtekokhlldcmjfaaOptH
namespace Go.Proofs.Ytekokhlldcmjfaa
open Go.RowKit
set_option maxRecDepth 1000000
set_option linter.unusedSimpArgs false
set_option linter.unusedVariables false
set_option maxHeartbeats 16000000
set_option cbv.maxSteps 10000000
def noP : Pm := ⟨[], 0, [], [], [], 0, []⟩
def stV (xa : List AV) : Pm := if stE xa = 0 then stR xa else noP
/-- A layer's weights and an error: nothing, where there is one. -/
def prmV (ts : List Ty) (tI t8 t32 : TypeId) (p : List AV → Prop) (err : List AV → Int) (r : List AV → Pm) : Ctr :=
  ⟨ts, fun xa => some (p xa), fun xa => .ret (.tup [.agg [.hdl 0, .v (.int .i64 (r xa).e), .hdl 1, .hdl 2, .hdl 3, .v (.int .i64 (r xa).g), .hdl 4], .v (.int .i64 (err xa))]) [(0, .irow tI .i64 (r xa).d), (2, .irow t8 .i8 (r xa).l), (3, .irow t32 .i32 (r xa).m), (4, .irow tI .i64 (r xa).f), (6, .irow t8 .i8 (r xa).h)], false⟩
section
variable {D : List Int} {E : Int} {L M F : List Int} {G : Int} {H : List Int} {gb : Bool} {gD : List Int} {gE : Int} {gL gF : List Int} {gG : Int} {gH : List Int} {a b c d e f seed step layer : Int}
theorem ste_a (h : hyB a b c d e f = false ∨ ¬ (0 ≤ step ∧ step ≤ 1000000) ∨ ¬ (1 ≤ layer ∧ layer ≤ 12)) : stErr D E L M F G H gb gD gE gL gF gG gH a b c d e f seed step layer = 1 := by
  unfold stErr
  rw [if_neg (by rintro ⟨h1, h2, h3⟩; rcases h with h | h | h; (rw [h1] at h; cases h); exact h h2; exact h h3)]
theorem ste_b (h0 : hyB a b c d e f = true) (h1 : 0 ≤ step ∧ step ≤ 1000000) (h2 : 1 ≤ layer ∧ layer ≤ 12) (hg : gb = false) : stErr D E L M F G H gb gD gE gL gF gG gH a b c d e f seed step layer = 0 := by
  unfold stErr
  rw [if_pos ⟨h0, h1, h2⟩, if_neg (by rw [hg]; simp)]
theorem ste_c (h0 : hyB a b c d e f = true) (h1 : 0 ≤ step ∧ step ≤ 1000000) (h2 : 1 ≤ layer ∧ layer ≤ 12) (hg : gb = true) (hm : moveB D E L M F G H gD gE gL gF gG gH = false) : stErr D E L M F G H gb gD gE gL gF gG gH a b c d e f seed step layer = 1 := by
  unfold stErr
  rw [if_pos ⟨h0, h1, h2⟩, if_pos hg, if_neg (by rw [hm]; simp)]
theorem ste_d (h0 : hyB a b c d e f = true) (h1 : 0 ≤ step ∧ step ≤ 1000000) (h2 : 1 ≤ layer ∧ layer ≤ 12) (hg : gb = true) (hm : moveB D E L M F G H gD gE gL gF gG gH = true) (hd : ¬ (gD = D ∧ gF = F)) : stErr D E L M F G H gb gD gE gL gF gG gH a b c d e f seed step layer = 2 := by
  unfold stErr
  rw [if_pos ⟨h0, h1, h2⟩, if_pos hg, if_pos hm, if_neg hd]
theorem ste_e (h0 : hyB a b c d e f = true) (h1 : 0 ≤ step ∧ step ≤ 1000000) (h2 : 1 ≤ layer ∧ layer ≤ 12) (hg : gb = true) (hm : moveB D E L M F G H gD gE gL gF gG gH = true) (hd : gD = D ∧ gF = F) (hs : ¬ (smallE ⟨gD, gE, gL⟩ b (bv seed) (bv (strmI step layer 3))).2 = 0) : stErr D E L M F G H gb gD gE gL gF gG gH a b c d e f seed step layer = (smallE ⟨gD, gE, gL⟩ b (bv seed) (bv (strmI step layer 3))).2 := by
  unfold stErr
  rw [if_pos ⟨h0, h1, h2⟩, if_pos hg, if_pos hm, if_pos hd, if_neg hs]
theorem ste_f (h0 : hyB a b c d e f = true) (h1 : 0 ≤ step ∧ step ≤ 1000000) (h2 : 1 ≤ layer ∧ layer ≤ 12) (hg : gb = true) (hm : moveB D E L M F G H gD gE gL gF gG gH = true) (hd : gD = D ∧ gF = F) (hs : (smallE ⟨gD, gE, gL⟩ b (bv seed) (bv (strmI step layer 3))).2 = 0) : stErr D E L M F G H gb gD gE gL gF gG gH a b c d e f seed step layer = (smallE ⟨gF, gG, gH⟩ b (bv seed) (bv (strmI step layer 5))).2 := by
  unfold stErr
  rw [if_pos ⟨h0, h1, h2⟩, if_pos hg, if_pos hm, if_pos hd, if_pos hs]
theorem move_no (h : mayB ⟨D, E, L⟩ = false ∨ mayB ⟨F, G, H⟩ = false ∨ mayAccB ⟨gD, gE, gL⟩ = false ∨ mayAccB ⟨gF, gG, gH⟩ = false ∨ ¬ M.length = L.length ∨ mostB M M.length = false) : moveB D E L M F G H gD gE gL gF gG gH = false := by
  unfold moveB
  rcases h with h | h | h | h | h | h <;> simp [h]
theorem move_mk (h1 : mayB ⟨D, E, L⟩ = true) (h2 : mayB ⟨F, G, H⟩ = true) (h3 : mayAccB ⟨gD, gE, gL⟩ = true) (h4 : mayAccB ⟨gF, gG, gH⟩ = true) (h5 : M.length = L.length) (h6 : mostB M M.length = true) : moveB D E L M F G H gD gE gL gF gG gH = true := by
  unfold moveB
  simp [h1, h2, h3, h4, h5]
  rw [← h5]; exact h6
theorem down_z {v s : Int} (h : s ≤ 0) (hv : -4611686018427387904 ≤ v ∧ v ≤ 4611686018427387904) : downI v s = v := by
  have e : shN s = 0 := by unfold shN cl; omega
  unfold downI
  rw [e]
  unfold numb cl
  rw [Int.pow_zero, Int.ediv_one]
  omega
end
theorem s3_t {F : Nat → Int} {L : List Int} {E : Int} {S3 : Nat → List Int} {q : Nat} (hS : ∀ x, S3 x = mixL (fun i => L.getD i 0) (wtA F (wtO F L.length E)) L.length x) (hq : q < L.length) (hwo : wtO F L.length E = true) :
    (S3 q).set q (IntKind.i8.wrap (clampI (nearI (((List.range L.length).map F).getD q 0) 1) 8)) = S3 (q + 1) := by
  rw [hS, hS]
  refine mixL_store hq ?_
  have cb := clamp8_in (nearI (((List.range L.length).map F).getD q 0) 1)
  rw [w8 (by omega) (by omega)]
  unfold wtA
  rw [if_pos hwo, getD_mapF hq]
theorem s3_f {F : Nat → Int} {L : List Int} {E : Int} {S3 : Nat → List Int} {q : Nat} (hS : ∀ x, S3 x = mixL (fun i => L.getD i 0) (wtA F (wtO F L.length E)) L.length x) (hq : q < L.length) (hwo : wtO F L.length E = false) :
    (S3 q).set q (IntKind.i8.wrap (clampI (((List.range L.length).map F).getD q 0) 8)) = S3 (q + 1) := by
  rw [hS, hS]
  refine mixL_store hq ?_
  have cb := clamp8_in (((List.range L.length).map F).getD q 0)
  rw [w8 (by omega) (by omega)]
  unfold wtA
  rw [if_neg (by rw [hwo]; decide), getD_mapF hq]
theorem small_bd {t : Tn} {x : Int} {s r : BitVec 64} (h : (smallE t x s r).2 = 0) (i : Nat) : -127 ≤ (smallE t x s r).1.data.getD i 0 ∧ (smallE t x s r).1.data.getD i 0 ≤ 127 := by
  unfold smallE at h ⊢
  split at h
  · cases h
  · rename_i hn
    rw [if_neg hn]
    simp only at h ⊢
    split at h
    · rename_i he
      rw [if_pos he]
      simp only
      have hx : 2 ≤ x ∧ x ≤ 8 := by
        by_cases h1 : x < 2
        · exact absurd (Or.inr (Or.inl h1)) hn
        · by_cases h2 : 8 < x
          · exact absurd (Or.inr (Or.inr h2)) hn
          · omega
      have hh := smallFrom_in x (max 0 (widthB t - (x - 1))) s r hx t.data 0
      generalize smallFrom x (max 0 (widthB t - (x - 1))) s r 0 t.data = l at hh ⊢
      rw [List.getD_eq_getElem?_getD]
      by_cases hi : i < l.length
      · rw [List.getElem?_eq_getElem hi]; exact hh _ (List.getElem_mem hi)
      · rw [List.getElem?_eq_none (by omega)]; exact ⟨by decide, by decide⟩
    · cases h
theorem rstep21_ok : CtrOk Try.prog 17 (prmV [prmTy, grdTy, hyTy, .int .u64, .int .i64, .int .i64] 3 52 21 stP stE stV) := by
  obtain ⟨G, hG⟩ : ∃ G : List (FuncId × Ctr), G = [(21, boolC [hyTy] hyF), (53, prmU [prmTy] 3 52 21 cpP cpR), (30, boolC [tnTy .i8] tnMayF), (54, boolC [tnTy .i32] mayAF), (55, boolC [.sl (.int .i64), .sl (.int .i64)] eqF), (56, resU [tnTy .i32, .int .i64, .int .u64, .int .u64] .i8 3 52 smE (rU smE smR)), (57, intC [.int .i64, .int .i64, .int .i64] .u64 strmF), (60, intC [.int .u64, .int .u64, .int .u64] .u64 atF), (58, intC [.int .i64, .int .i64] .i64 downF), (59, intC [.int .i64, .int .i64, .int .u64] .i64 chF), (61, intC [.int .i64, .int .i64] .i64 nearF), (62, intC [.int .i64, .int .i64] .i64 clampF)] := ⟨_, rfl⟩
  refine fn_inl (ck := true) [(51, Try.f51), (52, Try.f52)] ⟨⟨Try.func51, by unfold FnOk; kernel_rfl, by kernel_rfl⟩, ⟨Try.func52, by unfold FnOk; kernel_rfl, by kernel_rfl⟩, trivial⟩ Try.func17 rfl tt_ok (G := G) (by rw [hG]; exact ⟨⟨rmh_ok, by unfold FnOk; kernel_rfl⟩, ⟨rcopied21_ok, by unfold FnOk; kernel_rfl⟩, ⟨rmayT_ok, by unfold FnOk; kernel_rfl⟩, ⟨rmacc21_ok, by unfold FnOk; kernel_rfl⟩, ⟨rsame_ok, by unfold FnOk; kernel_rfl⟩, ⟨rsmall21U_ok, by unfold FnOk; kernel_rfl⟩, ⟨rstrm21_ok, by unfold FnOk; kernel_rfl⟩, ⟨rat21_ok, by unfold FnOk; kernel_rfl⟩, ⟨rdown21_ok, by unfold FnOk; kernel_rfl⟩, ⟨rchance21_ok, by unfold FnOk; kernel_rfl⟩, ⟨rnear21_ok, by unfold FnOk; kernel_rfl⟩, ⟨rclamp21_ok, by unfold FnOk; kernel_rfl⟩, trivial⟩) mixed (by kernel_rfl) ?_
  intro xa xs h hx hp
  obtain ⟨a0, as0, x0, xs0, rfl, rfl, h0, H1⟩ := svArgs_cons h
  obtain ⟨a1, as1, x1, xs1, rfl, rfl, h1, H2⟩ := svArgs_cons H1
  obtain ⟨a2, as2, x2, xs2, rfl, rfl, h2, H3⟩ := svArgs_cons H2
  obtain ⟨a3, as3, x3, xs3, rfl, rfl, h3, H4⟩ := svArgs_cons H3
  obtain ⟨a4, as4, x4, xs4, rfl, rfl, h4, H5⟩ := svArgs_cons H4
  obtain ⟨a5, as5, x5, xs5, rfl, rfl, h5, H6⟩ := svArgs_cons H5
  obtain ⟨rfl, rfl⟩ := svArgs_nil H6
  obtain ⟨pD, pE, pL, pM, pF, pG, pH, rfl, rfl⟩ := argSV_prm h0
  obtain ⟨gh, gD, gE, gL, gF, gG, gH, rfl, rfl⟩ := argSV_grd h1
  obtain ⟨hBa, hWi, hRa, hMo, hDe, hEv, rfl, rfl⟩ := argSV_hy h2
  obtain ⟨s, rfl, rfl⟩ := argSV_int h3
  obtain ⟨t, rfl, rfl⟩ := argSV_int h4
  obtain ⟨y, rfl, rfl⟩ := argSV_int h5
  have sp : (Fits .i64 pD ∧ ci pD.length ≤ 9223372036854775807) ∧ (-9223372036854775808 ≤ pE ∧ pE ≤ 9223372036854775807) ∧ (Fits .i8 pL ∧ ci pL.length ≤ 9223372036854775807) ∧ (Fits .i32 pM ∧ ci pM.length ≤ 9223372036854775807) ∧ (Fits .i64 pF ∧ ci pF.length ≤ 9223372036854775807) ∧ (-9223372036854775808 ≤ pG ∧ pG ≤ 9223372036854775807) ∧ (Fits .i8 pH ∧ ci pH.length ≤ 9223372036854775807) := svf_prm (hx (.agg [.iimm .i64 pD, .v (.int .i64 pE), .iimm .i8 pL, .iimm .i32 pM, .iimm .i64 pF, .v (.int .i64 pG), .iimm .i8 pH]) (List.mem_of_getElem? (i := 0) rfl))
  have sg : (Fits .i64 gD ∧ ci gD.length ≤ 9223372036854775807) ∧ (-9223372036854775808 ≤ gE ∧ gE ≤ 9223372036854775807) ∧ (Fits .i32 gL ∧ ci gL.length ≤ 9223372036854775807) ∧ (Fits .i64 gF ∧ ci gF.length ≤ 9223372036854775807) ∧ (-9223372036854775808 ≤ gG ∧ gG ≤ 9223372036854775807) ∧ (Fits .i32 gH ∧ ci gH.length ≤ 9223372036854775807) := svf_grd (hx (.agg [.v (.bool gh), .iimm .i64 gD, .v (.int .i64 gE), .iimm .i32 gL, .iimm .i64 gF, .v (.int .i64 gG), .iimm .i32 gH]) (List.mem_of_getElem? (i := 1) rfl))
  have sh : (-9223372036854775808 ≤ hBa ∧ hBa ≤ 9223372036854775807) ∧ (-9223372036854775808 ≤ hWi ∧ hWi ≤ 9223372036854775807) ∧ (-9223372036854775808 ≤ hRa ∧ hRa ≤ 9223372036854775807) ∧ (-9223372036854775808 ≤ hMo ∧ hMo ≤ 9223372036854775807) ∧ (-9223372036854775808 ≤ hDe ∧ hDe ≤ 9223372036854775807) ∧ (-9223372036854775808 ≤ hEv ∧ hEv ≤ 9223372036854775807) := svf_hy (hx (.agg [.v (.int .i64 hBa), .v (.int .i64 hWi), .v (.int .i64 hRa), .v (.int .i64 hMo), .v (.int .i64 hDe), .v (.int .i64 hEv)]) (List.mem_of_getElem? (i := 2) rfl))
  have ss : (Lit.int .u64 s).wf = true := (hx (.v (.int .u64 s)) (by simp))
  have st := of_i64 (hx (.v (.int .i64 t)) (by simp))
  have sy := of_i64 (hx (.v (.int .i64 y)) (by simp))
  have SP := Lib.hid sp
  clear sp
  have SG := Lib.hid sg
  clear sg
  have SH := Lib.hid sh
  clear sh
  have SS := Lib.hid ss
  clear ss
  have ST := Lib.hid st
  clear st
  have SY := Lib.hid sy
  clear sy
  have HP := Lib.hid (hp _ rfl)
  clear hx hp h h0 H1 h1 H2 h2 H3 h3 H4 h4 H5 h5 H6
  generalize hA : std = A
  subst hG
  generalize h_c : ci = c
  generalize h_fh : hyF = fh
  generalize h_fm : tnMayF = fm
  generalize h_fa : mayAF = fa
  generalize h_fq : eqF = fq
  generalize h_fr : rU smE smR = fr
  generalize h_fe : smE = fe
  generalize h_fs : strmF = fs
  generalize h_fk : cpR = fk
  generalize h_pk : cpP = pk
  generalize h_ft : atF = ft
  generalize h_fd : downF = fd
  generalize h_fc : chF = fc
  generalize h_fn : nearF = fn
  generalize h_fl : clampF = fl
  generalize h_fE : stE = fE
  generalize h_fR : stV = fR
  generalize h_fP : stP = fP
  obtain ⟨⟨d1, e1, U⟩, hU⟩ : ∃ z : Tn, z = smR [.st [.l gD, .z gE, .l gL], .z hWi, .z s, .z (strmI t y 3)] := ⟨_, rfl⟩
  obtain ⟨⟨d2, e2, V⟩, hV⟩ : ∃ z : Tn, z = smR [.st [.l gF, .z gG, .l gH], .z hWi, .z s, .z (strmI t y 5)] := ⟨_, rfl⟩
  obtain ⟨F, hF⟩ : ∃ F : Nat → Int, ∀ x, F x = numA pL (moved pM gD gE gL hWi hMo s t y) hRa hDe s t y x := ⟨_, fun _ => rfl⟩
  obtain ⟨Q, hQ⟩ : ∃ Q : Nat → List Int, ∀ x, Q x = mixL (fun i => pM.getD i 0) (momA pM U hMo) pM.length x := ⟨_, fun _ => rfl⟩
  obtain ⟨O, hO⟩ : ∃ O : Nat → Bool, ∀ x, O x = ovB F x := ⟨_, fun _ => rfl⟩
  obtain ⟨W, hW⟩ : ∃ W : Nat → List Int, ∀ x, W x = (List.range x).map F := ⟨_, fun _ => rfl⟩
  obtain ⟨S3, hS3⟩ : ∃ S3 : Nat → List Int, ∀ x, S3 x = mixL (fun i => pL.getD i 0) (wtA F (wtO F pL.length pE)) pL.length x := ⟨_, fun _ => rfl⟩
  obtain ⟨S4, hS4⟩ : ∃ S4 : Nat → List Int, ∀ x, S4 x = mixL (fun i => pH.getD i 0) (biA pH V hRa s t y) pH.length x := ⟨_, fun _ => rfl⟩
  have HU := Lib.hid hU
  have HV := Lib.hid hV
  have HF := Lib.hid hF
  have HQ := Lib.hid hQ
  have HO := Lib.hid hO
  have HW := Lib.hid hW
  have HS3 := Lib.hid hS3
  have HS4 := Lib.hid hS4
  clear hU hV hF hQ hO hW hS3 hS4
  cbv
  (repeat' (first | apply And.intro | apply BrB.mk | apply BrP.mk | intro _))
  all_goals try (refine loop_at Nat 85 (fun x => [(13, .any), (15, .any), (85, .v (.int .i64 (c x)))]) (fun _ o => o) (fun x => x ≤ pM.length ∧ mostB pM x = true) (fun x => pM.length - x) 0 ⟨Nat.zero_le _, rfl⟩ ?_ ?_
                 focus
                   show AS.le _ _
                   cbv
                   (repeat' (first | apply And.intro | apply BrB.mk | apply BrP.mk | intro _))
                   (all_goals (subst hA; subst h_c; subst h_fh; subst h_fm; subst h_fa; subst h_fq; subst h_fr; subst h_fe; subst h_fs; subst h_fk; subst h_pk; subst h_ft; subst h_fd; subst h_fc; subst h_fn; subst h_fl; subst h_fE; subst h_fR; subst h_fP); all_goals (have f_sp := SP.out; have f_sg := SG.out; have f_sh := SH.out; have f_ss := SS.out; have f_st := ST.out; have f_sy := SY.out; have f_hp := HP.out); all_goals (try simp only [std, stdBin, stdCmp, stdUna, stdIn, ci, beq_iff_eq, bne_iff_ne, beq_eq_false_iff_ne, bne_eq_false_iff_eq, decide_eq_true_eq, decide_eq_false_iff_not, Bool.not_true, Bool.not_false, Bool.not_eq_true', Bool.not_eq_false', Bool.not_not, tn0, tn1, tn2, tn3, hyF] at *); all_goals (try omega))
                   all_goals first | exact True.intro | rfl
                   done)
  all_goals try (intro x hx; cbv; refine BrB.mk (fun gx => ?_) (fun gx => ?_))
  all_goals (repeat' (first | apply And.intro | apply BrB.mk | apply BrP.mk | intro _))
  all_goals try (refine loop_nil [.slot 20 2 .i64] Nat 153 (fun j => [(21, .v (.bool (O j))), (22, .any), (23, .any), (24, .any), (25, .any), (153, .v (.int .i64 (c j)))]) (fun j o => (o.set 12 (.irow 21 .i32 (Q j))).set 16 (.irow 2 .i64 (W j))) (fun j => j ≤ pM.length) (fun j => pM.length - j) 0 (Nat.zero_le _) ?_ ?_
                 focus
                   show AS.le _ _
                   cbv
                   (repeat' (first | apply And.intro | apply BrB.mk | apply BrP.mk | intro _))
                   (all_goals (subst hA; subst h_c; subst h_fh; subst h_fm; subst h_fa; subst h_fq; subst h_fr; subst h_fe; subst h_fs; subst h_fk; subst h_pk; subst h_ft; subst h_fd; subst h_fc; subst h_fn; subst h_fl; subst h_fE; subst h_fR; subst h_fP); all_goals (have f_sp := SP.out; have f_sg := SG.out; have f_sh := SH.out; have f_ss := SS.out; have f_st := ST.out; have f_sy := SY.out; have f_hp := HP.out); all_goals (try simp only [std, stdBin, stdCmp, stdUna, stdIn, ci, beq_iff_eq, bne_iff_ne, beq_eq_false_iff_ne, bne_eq_false_iff_eq, decide_eq_true_eq, decide_eq_false_iff_not, Bool.not_true, Bool.not_false, Bool.not_eq_true', Bool.not_eq_false', Bool.not_not, tn0, tn1, tn2, tn3, rmpF, hyF, smE, stV, tnMayF, mayAF, eqF, strmF, cpP, cpR, atF, downF, chF, nearF, clampF, stE, stR, stP, rU_sm, Int.toNat_natCast] at *); all_goals (try omega))
                   all_goals first | exact True.intro | rfl | (rw [HQ.out, mixL_none, range_getD]; done) | (rw [HW.out]; rfl) | (rw [HO.out]; rfl)
                   done)
  all_goals try (intro j hj; cbv; refine BrB.mk (fun gj => ?_) (fun gj => ?_))
  all_goals (repeat' (first | apply And.intro | apply BrB.mk | apply BrP.mk | intro _))
  all_goals try (refine loop_at Nat 249 (fun q => [(26, .any), (27, .any), (249, .v (.int .i64 (c q)))]) (fun q o => o.set 11 (.irow 52 .i8 (S3 q))) (fun q => q ≤ pL.length) (fun q => pL.length - q) 0 (Nat.zero_le _) ?_ ?_
                 focus
                   show AS.le _ _
                   cbv
                   (repeat' (first | apply And.intro | apply BrB.mk | apply BrP.mk | intro _))
                   (all_goals (subst hA; subst h_c; subst h_fh; subst h_fm; subst h_fa; subst h_fq; subst h_fr; subst h_fe; subst h_fs; subst h_fk; subst h_pk; subst h_ft; subst h_fd; subst h_fc; subst h_fn; subst h_fl; subst h_fE; subst h_fR; subst h_fP); all_goals (have f_sp := SP.out; have f_sg := SG.out; have f_sh := SH.out; have f_ss := SS.out; have f_st := ST.out; have f_sy := SY.out; have f_hp := HP.out); all_goals (try simp only [std, stdBin, stdCmp, stdUna, stdIn, ci, beq_iff_eq, bne_iff_ne, beq_eq_false_iff_ne, bne_eq_false_iff_eq, decide_eq_true_eq, decide_eq_false_iff_not, Bool.not_true, Bool.not_false, Bool.not_eq_true', Bool.not_eq_false', Bool.not_not, tn0, tn1, tn2, tn3, rmpF, hyF, smE, stV, tnMayF, mayAF, eqF, strmF, cpP, cpR, atF, downF, chF, nearF, clampF, stE, stR, stP, rU_sm, Int.toNat_natCast] at *); all_goals (try omega))
                   all_goals first | exact True.intro | rfl | (rw [HS3.out, mixL_none, range_getD]; done)
                   done)
  all_goals try (intro q hq; cbv; refine BrB.mk (fun gq => ?_) (fun gq => ?_))
  all_goals (repeat' (first | apply And.intro | apply BrB.mk | apply BrP.mk | intro _))
  all_goals try (refine loop_at Nat 270 (fun r => [(28, .any), (29, .any), (270, .v (.int .i64 (c r)))]) (fun r o => o.set 14 (.irow 52 .i8 (S4 r))) (fun r => r ≤ pH.length) (fun r => pH.length - r) 0 (Nat.zero_le _) ?_ ?_
                 focus
                   show AS.le _ _
                   cbv
                   (repeat' (first | apply And.intro | apply BrB.mk | apply BrP.mk | intro _))
                   (all_goals (subst hA; subst h_c; subst h_fh; subst h_fm; subst h_fa; subst h_fq; subst h_fr; subst h_fe; subst h_fs; subst h_fk; subst h_pk; subst h_ft; subst h_fd; subst h_fc; subst h_fn; subst h_fl; subst h_fE; subst h_fR; subst h_fP); all_goals (have f_sp := SP.out; have f_sg := SG.out; have f_sh := SH.out; have f_ss := SS.out; have f_st := ST.out; have f_sy := SY.out; have f_hp := HP.out); all_goals (try simp only [std, stdBin, stdCmp, stdUna, stdIn, ci, beq_iff_eq, bne_iff_ne, beq_eq_false_iff_ne, bne_eq_false_iff_eq, decide_eq_true_eq, decide_eq_false_iff_not, Bool.not_true, Bool.not_false, Bool.not_eq_true', Bool.not_eq_false', Bool.not_not, tn0, tn1, tn2, tn3, rmpF, hyF, smE, stV, tnMayF, mayAF, eqF, strmF, cpP, cpR, atF, downF, chF, nearF, clampF, stE, stR, stP, rU_sm, Int.toNat_natCast] at *); all_goals (try omega))
                   all_goals first | exact True.intro | rfl | (rw [HS4.out, mixL_none, range_getD]; done)
                   done)
  all_goals try (intro r hr; cbv; refine BrB.mk (fun gr => ?_) (fun gr => ?_))
  all_goals (repeat' (first | apply And.intro | apply BrB.mk | apply BrP.mk | intro _))
  all_goals try first
    | (have _ : _ = true := gx; refine ⟨x + 1, ?_, ?_, ?_⟩)
    | (have _ : _ = true := gj; refine ⟨j + 1, ?_, ?_, ?_⟩)
    | (have _ : _ = true := gq; refine ⟨q + 1, ?_, ?_, ?_⟩)
    | (have _ : _ = true := gr; refine ⟨r + 1, ?_, ?_, ?_⟩)
  all_goals try (show AS.le _ _; cbv; (repeat' (first | apply And.intro | apply BrB.mk | apply BrP.mk | intro _)))
  (all_goals (subst hA; subst h_c; subst h_fh; subst h_fm; subst h_fa; subst h_fq; subst h_fr; subst h_fe; subst h_fs; subst h_fk; subst h_pk; subst h_ft; subst h_fd; subst h_fc; subst h_fn; subst h_fl; subst h_fE; subst h_fR; subst h_fP); all_goals (have f_sp := SP.out; have f_sg := SG.out; have f_sh := SH.out; have f_ss := SS.out; have f_st := ST.out; have f_sy := SY.out; have f_hp := HP.out); all_goals (try simp only [std, stdBin, stdCmp, stdUna, stdIn, ci, beq_iff_eq, bne_iff_ne, beq_eq_false_iff_ne, bne_eq_false_iff_eq, decide_eq_true_eq, decide_eq_false_iff_not, Bool.not_true, Bool.not_false, Bool.not_eq_true', Bool.not_eq_false', Bool.not_not, tn0, tn1, tn2, tn3, rmpF, hyF, smE, stV, tnMayF, mayAF, eqF, strmF, cpP, cpR, atF, downF, chF, nearF, clampF, stE, stR, stP, rU_sm, Int.toNat_natCast] at *); all_goals (try omega))
  all_goals (have HS := (show ((pD.length : Int) * 8 ≤ 140737488355328 ∧ (pL.length : Int) * 1 ≤ 140737488355328) ∧ (pM.length : Int) * 4 ≤ 140737488355328 ∧ (pF.length : Int) * 8 ≤ 140737488355328 ∧ (pH.length : Int) * 1 ≤ 140737488355328 from f_hp); clear f_hp)
  all_goals (try first | exact True.intro | exact HS | exact congrArg (Value.int .i64) (Int.natCast_succ _).symm)
  all_goals first
    | (have hr0 := hr
       have kM : mostB pM pM.length = true := (by have h0 := hx.2; rw [show x = pM.length by omega] at h0; exact h0)
       have hmv : moveB pD pE pL pM pF pG pH gD gE gL gF gG gH = true := move_mk (by assumption) (by assumption) (by assumption) (by assumption) (by omega) kM
       have kh : hyB hBa hWi hRa hMo hDe hEv = true := (by assumption)
       have kt : 0 ≤ t ∧ t ≤ 1000000 := ⟨by omega, by omega⟩
       have ky : 1 ≤ y ∧ y ≤ 12 := ⟨by omega, by omega⟩
       have kg : gh = true := (by assumption)
       have eD : gD = pD := (by assumption)
       have eF : gF = pF := (by assumption)
       have ks : (smallE ⟨gD, gE, gL⟩ hWi (bv s) (bv (strmI t y 3))).2 = 0 := (by assumption)
       have ks2 : (smallE ⟨gF, gG, gH⟩ hWi (bv s) (bv (strmI t y 5))).2 = 0 := (by assumption)
       have hu := HU.out
       have hv := HV.out
       have gs1 : (smallE ⟨gD, gE, gL⟩ hWi (bv s) (bv (strmI t y 3))).1 = ⟨d1, e1, U⟩ := hu.symm
       have gs2 : (smallE ⟨gF, gG, gH⟩ hWi (bv s) (bv (strmI t y 5))).1 = ⟨d2, e2, V⟩ := hv.symm
       obtain ⟨v1, v2, v3, v4, v5, v6, v7, v8, v9, v10⟩ := move_of hmv
       have u1 : U.length = gL.length := (by have := small_len ks; rw [gs1] at this; exact this)
       have u2 : V.length = gH.length := (by have := small_len ks2; rw [gs2] at this; exact this)
       rw [eD] at v4
       rw [eF] at v5
       have ml := may_len v1
       have ml2 := may_len v2
       have hjn : j = pL.length := (by omega)
       have b6 := pch_bd (v := V.getD r 0) (B := 128) s t y hRa 6 (r : Int) (by decide) (by have q := small_bd ks2 r; rw [gs2] at q; have q2 : -127 ≤ V.getD r 0 ∧ V.getD r 0 ≤ 127 := q; omega)
       have b7 := fits8 f_sp.2.2.2.2.2.2.1 r
       have b8 := clamp8_in (pH.getD r 0 - pchI s t y (V.getD r 0) hRa 6 (r : Int))
       have l4 : ∀ i, (S4 i).length = pH.length := (fun i => by rw [HS4.out, mixL_len])
       unfold pchI at b6 b8
       try simp only [← hu, ← hv, l4]
       first
         | omega
         | (show _ = S4 (r + 1); rw [HS4.out, HS4.out]; refine mixL_store (by omega) ?_; rw [w8 (by omega) (by omega)]; rfl)
         | (have hr1 : r = pH.length := (by omega)
            have hE := ste_f (gE := gE) (gL := gL) (gG := gG) (gH := gH) kh kt ky kg hmv ⟨eD, eF⟩ ks
            rw [ks2] at hE
            have hmd : moved pM gD gE gL hWi hMo s t y = (List.range pM.length).map (momA pM U hMo) := (by unfold moved; rw [gs1])
            have hF1 : F = numA pL ((List.range pM.length).map (momA pM U hMo)) hRa hDe s t y := funext (fun i => by rw [HF.out, hmd])
            have hst : stRes pD pE pL pM pF pG pH gh gD gE gL gF gG gH hBa hWi hRa hMo hDe hEv s t y = ⟨pD, (wtT pD pE F pL.length).exp, (wtT pD pE F pL.length).data, (List.range pM.length).map (momA pM U hMo), pF, pG, (List.range pH.length).map (biA pH V hRa s t y)⟩ := (by unfold stRes; rw [if_pos kg, hmd, ← hF1, gs2])
            have lw : (W j).length = j := (by rw [HW.out]; simp)
            rw [lw] at gq
            have hq1 : q = pL.length := (by omega)
            have oj : O j = ovB F pL.length := (by rw [HO.out, hjn])
            first
              | (rw [hE]; done)
              | (simp only [hE, hst, if_true]; done)
              | (simp only [hE, hst, if_true]; rw [HS4.out, hr1, mixL_all]; done)
              | (simp only [hE, hst, if_true]; rw [HQ.out, show j = pM.length by omega, mixL_all]; done)
              | (simp only [hE, hst, if_true, wtT]; rw [HS3.out, hq1, mixL_all]; done)
              | (have ho : ovB F pL.length = true := oj.symm.trans (by assumption)
                 have hwo : wtO F pL.length pE = true := wtO_t ho (by assumption)
                 simp only [hE, hst, if_true, wtT, hwo]; done)
              | (have ho : ovB F pL.length = false := oj.symm.trans (by assumption)
                 have hwo : wtO F pL.length pE = false := wtO_f (.inl ho)
                 simp only [hE, hst, if_true, wtT, hwo, Bool.false_eq_true, if_false]; done)
              | (have hwo : wtO F pL.length pE = false := wtO_f (.inr (by assumption))
                 simp only [hE, hst, if_true, wtT, hwo, Bool.false_eq_true, if_false]; done)
              | trace "R"))
    | (have hq0 := hq
       have kM : mostB pM pM.length = true := (by have h0 := hx.2; rw [show x = pM.length by omega] at h0; exact h0)
       have hmv : moveB pD pE pL pM pF pG pH gD gE gL gF gG gH = true := move_mk (by assumption) (by assumption) (by assumption) (by assumption) (by omega) kM
       have kh : hyB hBa hWi hRa hMo hDe hEv = true := (by assumption)
       have kt : 0 ≤ t ∧ t ≤ 1000000 := ⟨by omega, by omega⟩
       have ky : 1 ≤ y ∧ y ≤ 12 := ⟨by omega, by omega⟩
       have kg : gh = true := (by assumption)
       have ml := may_len (move_of hmv).1
       have hjn : j = pL.length := (by omega)
       have oo : O j = ovB F pL.length := (by rw [HO.out, hjn])
       have ww : W j = (List.range pL.length).map F := (by rw [HW.out, hjn])
       have lw : (W j).length = pL.length := (by rw [ww]; simp)
       have l3 : ∀ i, (S3 i).length = pL.length := (fun i => by rw [HS3.out, mixL_len])
       try rw [lw] at gq
       try rw [lw]
       try rw [l3]
       first
         | omega
         | (have hq2 : q < pL.length := (by omega)
            rw [ww]
            first
              | (have ho : ovB F pL.length = true := oo.symm.trans (by assumption)
                 have hwo : wtO F pL.length pE = true := wtO_t ho (by assumption)
                 rw [s3_t HS3.out hq2 hwo]; done)
              | (have ho : ovB F pL.length = false := oo.symm.trans (by assumption)
                 have hwo : wtO F pL.length pE = false := wtO_f (.inl ho)
                 rw [s3_f HS3.out hq2 hwo]; done)
              | (have hwo : wtO F pL.length pE = false := wtO_f (.inr (by assumption))
                 rw [s3_f HS3.out hq2 hwo]; done)
              | trace "Q")
         | trace "Q2")
    | (have hj0 := hj
       have kM : mostB pM pM.length = true := (by have h0 := hx.2; rw [show x = pM.length by omega] at h0; exact h0)
       have hmv : moveB pD pE pL pM pF pG pH gD gE gL gF gG gH = true := move_mk (by assumption) (by assumption) (by assumption) (by assumption) (by omega) kM
       have kh : hyB hBa hWi hRa hMo hDe hEv = true := (by assumption)
       have kt : 0 ≤ t ∧ t ≤ 1000000 := ⟨by omega, by omega⟩
       have ky : 1 ≤ y ∧ y ≤ 12 := ⟨by omega, by omega⟩
       have kg : gh = true := (by assumption)
       have eD : gD = pD := (by assumption)
       have eF : gF = pF := (by assumption)
       have ks : (smallE ⟨gD, gE, gL⟩ hWi (bv s) (bv (strmI t y 3))).2 = 0 := (by assumption)
       have ks2 : (smallE ⟨gF, gG, gH⟩ hWi (bv s) (bv (strmI t y 5))).2 = 0 := (by assumption)
       have hu := HU.out
       have hv := HV.out
       have gs1 : (smallE ⟨gD, gE, gL⟩ hWi (bv s) (bv (strmI t y 3))).1 = ⟨d1, e1, U⟩ := hu.symm
       have gs2 : (smallE ⟨gF, gG, gH⟩ hWi (bv s) (bv (strmI t y 5))).1 = ⟨d2, e2, V⟩ := hv.symm
       obtain ⟨v1, v2, v3, v4, v5, v6, v7, v8, v9, v10⟩ := move_of hmv
       have u1 : U.length = gL.length := (by have := small_len ks; rw [gs1] at this; exact this)
       have u2 : V.length = gH.length := (by have := small_len ks2; rw [gs2] at this; exact this)
       rw [eD] at v4
       rw [eF] at v5
       have ml := may_len v1
       have ml2 := may_len v2
       have lq : ∀ i, (Q i).length = pM.length := (fun i => by rw [HQ.out, mixL_len])
       have lw : ∀ i, (W i).length = i := (fun i => by rw [HW.out]; simp)
       have hjM : j < pM.length := (by omega)
       have hy' := hy_of kh
       have bM := mostB_at kM j hjM
       have b1 := down_bd (v := pM.getD j 0) (s := hMo) (B := 1048576) (by decide) (by omega)
       have b2 : -127 ≤ U.getD j 0 ∧ U.getD j 0 ≤ 127 := (by have q := small_bd ks j; rw [gs1] at q; exact q)
       have b3 := fits8 f_sp.2.2.1.1 j
       have em2 : cl (pM.getD j 0 - downI (pM.getD j 0) hMo + U.getD j 0) (-1048576) 1048576 = momA pM U hMo j := rfl
       have emb := cl_in (pM.getD j 0 - downI (pM.getD j 0) hMo + U.getD j 0) (-1048576) 1048576 (by decide)
       rw [em2] at emb
       have b4 := pch_bd (v := momA pM U hMo j) (B := 1048576) s t y hRa 4 (j : Int) (by decide) emb
       have b5 := near_bd (v := pL.getD j 0) (s := hDe) (B := 128) (by decide) (by omega)
       have cm : ∀ Y : Int, (if (if 1048576 < Y then 1048576 else Y) > -1048576 then (if 1048576 < Y then 1048576 else Y) else -1048576) = cl Y (-1048576) 1048576 := (fun Y => by unfold cl; split <;> split <;> omega)
       have cz : ¬ 0 < hMo → cl (0 + U.getD j 0) (-1048576) 1048576 = momA pM U hMo j := (fun h => by rw [← em2, down_z (by omega) (by omega), show pM.getD j 0 - pM.getD j 0 = 0 by omega])
       unfold pchI at b4
       first
         | (have hmo : 0 < hMo := (by omega)
            have cz2 : cl (0 + U.getD j 0) (-1048576) 1048576 = cl (0 + U.getD j 0) (-1048576) 1048576 := rfl
            simp only [← hu, lq, lw, cm, em2, List.length_cons, List.length_nil] at *)
         | (have cz2 := cz (by omega)
            simp only [← hu, lq, lw, cm, cz2, List.length_cons, List.length_nil] at *)
       first
         | omega
         | (show _ = Q (j + 1); rw [HQ.out, HQ.out]; refine mixL_store (by omega) ?_; rw [w32 (by omega) (by omega)]; done)
         | (have hmd : moved pM gD gE gL hWi hMo s t y = (List.range pM.length).map (momA pM U hMo) := (by unfold moved; rw [gs1])
            have eF1 : F j = pL.getD j 0 - pchI s t y (momA pM U hMo j) hRa 4 (j : Int) - (if hDe = 0 then 0 else nearI (pL.getD j 0) hDe) := (by rw [HF.out, hmd]; unfold numA; rw [getD_mapF hjM])
            unfold pchI at eF1
            first
              | (show _ = W (j + 1); rw [HW.out, HW.out, range_snoc21]; refine congrArg _ (congrArg (fun z => [z]) ?_); rw [eF1]; first | (rw [if_pos (by omega)]; omega) | (rw [if_neg (by omega)]; done))
              | (show _ = Value.bool (O (j + 1))
                 have ox : O (j + 1) = (O j || (decide (127 < F j) || decide (F j < -127))) := (by rw [HO.out, HO.out]; rfl)
                 first
                   | rw [if_pos (by omega)] at eF1
                   | rw [if_neg (by omega)] at eF1
                 try simp only [Int.sub_zero] at eF1
                 have eF2 := eF1.symm
                 clear eF1
                 simp only [eF2] at *
                 refine vb ?_
                 rw [ox]
                 first
                   | (rw [show O j = true from (by assumption), Bool.true_or]; done)
                   | (rw [show O j = false from (by assumption), decide_eq_true (show 127 < F j by assumption)]; rfl)
                   | (rw [show O j = false from (by assumption), decide_eq_false (show ¬ 127 < F j by assumption), Bool.false_or, Bool.false_or]; done))
              | trace "J")
         | trace "J2")
    | (have hx0 := hx
       first
         | (refine ⟨by omega, ?_⟩
            have h0 := hx.2
            simp only [mostB, h0, Bool.true_and, decide_eq_true_eq]
            omega)
         | omega
         | (have hm : moveB pD pE pL pM pF pG pH gD gE gL gF gG gH = false := move_no (.inr (.inr (.inr (.inr (.inr (mostB_no (i := x) (by omega) (by omega)))))))
            have hE : stErr pD pE pL pM pF pG pH gh gD gE gL gF gG gH hBa hWi hRa hMo hDe hEv s t y = 1 := ste_c (by assumption) ⟨by omega, by omega⟩ ⟨by omega, by omega⟩ (by assumption) hm
            first | (rw [hE]; done) | (simp only [hE]; done) | (simp [hE, noP]; done))
         | (have kM : mostB pM pM.length = true := (by have h0 := hx.2; rw [show x = pM.length by omega] at h0; exact h0)
            have hmv : moveB pD pE pL pM pF pG pH gD gE gL gF gG gH = true := move_mk (by assumption) (by assumption) (by assumption) (by assumption) (by omega) kM
            have kh : hyB hBa hWi hRa hMo hDe hEv = true := (by assumption)
            have kt : 0 ≤ t ∧ t ≤ 1000000 := ⟨by omega, by omega⟩
            have ky : 1 ≤ y ∧ y ≤ 12 := ⟨by omega, by omega⟩
            have kg : gh = true := (by assumption)
            first
              | (have hE : stErr pD pE pL pM pF pG pH gh gD gE gL gF gG gH hBa hWi hRa hMo hDe hEv s t y = 2 := ste_d kh kt ky kg hmv (by rintro ⟨e1, e2⟩; contradiction)
                 first | (rw [hE]; done) | (simp only [hE]; done) | (simp [hE, noP]; done))
              | (have eD : gD = pD := (by assumption)
                 have eF : gF = pF := (by assumption)
                 first
                   | (have ks : ¬ (smallE ⟨gD, gE, gL⟩ hWi (bv s) (bv (strmI t y 3))).2 = 0 := (by assumption)
                      have hE := ste_e (gE := gE) (gL := gL) (gG := gG) (gH := gH) kh kt ky kg hmv ⟨eD, eF⟩ ks
                      first | (rw [hE]; done) | (simp only [hE]; done) | (simp [hE, ks, noP]; done))
                   | (have ks : (smallE ⟨gD, gE, gL⟩ hWi (bv s) (bv (strmI t y 3))).2 = 0 := (by assumption)
                      have ks2 : ¬ (smallE ⟨gF, gG, gH⟩ hWi (bv s) (bv (strmI t y 5))).2 = 0 := (by assumption)
                      have hE := ste_f (gE := gE) (gL := gL) (gG := gG) (gH := gH) kh kt ky kg hmv ⟨eD, eF⟩ ks
                      first | (rw [hE]; done) | (simp only [hE]; done) | (simp [hE, ks2, noP]; done)))
              | trace "X")
         | trace "X2")
    | (have kg : gh = false := (by assumption)
       have hE : stErr pD pE pL pM pF pG pH gh gD gE gL gF gG gH hBa hWi hRa hMo hDe hEv s t y = 0 := ste_b (by assumption) ⟨by omega, by omega⟩ ⟨by omega, by omega⟩ kg
       have hr2 : stRes pD pE pL pM pF pG pH gh gD gE gL gF gG gH hBa hWi hRa hMo hDe hEv s t y = ⟨pD, pE, pL, pM, pF, pG, pH⟩ := (by unfold stRes; rw [if_neg (by rw [kg]; simp)])
       first | (rw [hE]; done) | (simp only [hE, hr2, if_true]; done) | (simp [hE, hr2]; done) | trace "B")
    | (have hE : stErr pD pE pL pM pF pG pH gh gD gE gL gF gG gH hBa hWi hRa hMo hDe hEv s t y = 1 := ste_a (by first | exact .inl (by assumption) | exact .inr (.inl (by omega)) | exact .inr (.inr (by omega)))
       first | (rw [hE]; done) | (simp only [hE]; done) | (simp [hE, noP]; done))
    | (have hm : moveB pD pE pL pM pF pG pH gD gE gL gF gG gH = false := move_no (by first | exact .inl (by assumption) | exact .inr (.inl (by assumption)) | exact .inr (.inr (.inl (by assumption))) | exact .inr (.inr (.inr (.inl (by assumption)))) | exact .inr (.inr (.inr (.inr (.inl (by omega))))))
       have hE : stErr pD pE pL pM pF pG pH gh gD gE gL gF gG gH hBa hWi hRa hMo hDe hEv s t y = 1 := ste_c (by assumption) ⟨by omega, by omega⟩ ⟨by omega, by omega⟩ (by assumption) hm
       first | (rw [hE]; done) | (simp only [hE]; done) | (simp [hE, noP]; done))
    | trace "Z"
end Go.Proofs.Ytekokhlldcmjfaa
