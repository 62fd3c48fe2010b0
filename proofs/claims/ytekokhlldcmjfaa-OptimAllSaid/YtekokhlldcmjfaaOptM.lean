/- Layer 21: the counterparts: chance, rounding as contracts. -/
import Derived.Test.YtekokhlldcmjfaaOptD
namespace Go.Proofs.Ytekokhlldcmjfaa
open Go.RowKit
set_option maxRecDepth 1000000
set_option linter.unusedSimpArgs false
set_option linter.unusedVariables false
set_option maxHeartbeats 16000000
set_option cbv.maxSteps 10000000
theorem rat21_ok : CtrOk Try.prog 60 (intC [.int .u64, .int .u64, .int .u64] .u64 atF) := by
  intro xa w g vs ha _ hp
  obtain ⟨a1, as1, v1, vs1, rfl, rfl, h1, h⟩ := args_cons ha
  obtain ⟨a2, as2, v2, vs2, rfl, rfl, h2, h⟩ := args_cons h
  obtain ⟨a3, as3, v3, vs3, rfl, rfl, h3, h⟩ := args_cons h
  obtain ⟨rfl, rfl⟩ := args_nil h
  obtain ⟨x, rfl, rfl, q1⟩ := of_arg_int h1
  obtain ⟨y, rfl, rfl, q2⟩ := of_arg_int h2
  obtain ⟨z, rfl, rfl, q3⟩ := of_arg_int h3
  have hb := rat_any (bv x) (bv y) (bv z) w
  rw [u64_bv q1, u64_bv q2, u64_bv q3] at hb
  refine hb.mono fun e w' ⟨he, hw⟩ => ⟨_, he, ?_⟩
  subst hw
  have := N_nn (atB (bv x) (bv y) (bv z))
  exact gv_val (v := .int .u64 (atI x y z)) ((stdIn_iff .u64 _).1 this) (Below.refl _ _)
theorem rchance21_ok : CtrOk Try.prog 59 (intC [.int .i64, .int .i64, .int .u64] .i64 chF) := by
  intro xa w g vs ha _ hp
  obtain ⟨a1, as1, v1, vs1, rfl, rfl, h1, h⟩ := args_cons ha
  obtain ⟨a2, as2, v2, vs2, rfl, rfl, h2, h⟩ := args_cons h
  obtain ⟨a3, as3, v3, vs3, rfl, rfl, h3, h⟩ := args_cons h
  obtain ⟨rfl, rfl⟩ := args_nil h
  obtain ⟨x, rfl, rfl, q1⟩ := of_arg_int h1
  obtain ⟨y, rfl, rfl, q2⟩ := of_arg_int h2
  obtain ⟨z, rfl, rfl, q3⟩ := of_arg_int h3
  have hb := rchance_any x y (bv z) w
  rw [u64_bv q3] at hb
  refine hb.mono fun e w' ⟨he, hw⟩ => ⟨_, he, ?_⟩
  subst hw
  have := chance_all x y (bv z)
  exact gv_val (v := .int .i64 (chanceI x y (bv z))) (WalkArith.wf_i64 (by omega)) (Below.refl _ _)
theorem rnear21_ok : CtrOk Try.prog 61 (intC [.int .i64, .int .i64] .i64 nearF) := by
  intro xa w g vs ha _ hp
  obtain ⟨a1, as1, v1, vs1, rfl, rfl, h1, h⟩ := args_cons ha
  obtain ⟨a2, as2, v2, vs2, rfl, rfl, h2, h⟩ := args_cons h
  obtain ⟨rfl, rfl⟩ := args_nil h
  obtain ⟨x, rfl, rfl, q1⟩ := of_arg_int h1
  obtain ⟨y, rfl, rfl, q2⟩ := of_arg_int h2
  refine (rnear_any x y w).mono fun e w' ⟨he, hw⟩ => ⟨_, he, ?_⟩
  subst hw
  have := near_all x y
  exact gv_val (v := .int .i64 (nearI x y)) (WalkArith.wf_i64 (by omega)) (Below.refl _ _)
theorem rdown21_ok : CtrOk Try.prog 58 (intC [.int .i64, .int .i64] .i64 downF) := by
  intro xa w g vs ha _ hp
  obtain ⟨a1, as1, v1, vs1, rfl, rfl, h1, h⟩ := args_cons ha
  obtain ⟨a2, as2, v2, vs2, rfl, rfl, h2, h⟩ := args_cons h
  obtain ⟨rfl, rfl⟩ := args_nil h
  obtain ⟨x, rfl, rfl, q1⟩ := of_arg_int h1
  obtain ⟨y, rfl, rfl, q2⟩ := of_arg_int h2
  refine (rdown_any x y w).mono fun e w' ⟨he, hw⟩ => ⟨_, he, ?_⟩
  subst hw
  have := downI_in x y
  exact gv_val (v := .int .i64 (downI x y)) (WalkArith.wf_i64 (by omega)) (Below.refl _ _)
theorem rclamp21_ok : CtrOk Try.prog 62 (intC [.int .i64, .int .i64] .i64 clampF) := by
  intro xa w g vs ha _ hp
  obtain ⟨a1, as1, v1, vs1, rfl, rfl, h1, h⟩ := args_cons ha
  obtain ⟨a2, as2, v2, vs2, rfl, rfl, h2, h⟩ := args_cons h
  obtain ⟨rfl, rfl⟩ := args_nil h
  obtain ⟨x, rfl, rfl, q1⟩ := of_arg_int h1
  obtain ⟨y, rfl, rfl, q2⟩ := of_arg_int h2
  refine (rclamp_any x y w).mono fun e w' ⟨he, hw⟩ => ⟨_, he, ?_⟩
  subst hw
  have := clamp_all x y
  exact gv_val (v := .int .i64 (clampI x y)) (WalkArith.wf_i64 (by omega)) (Below.refl _ _)
theorem rstrm21_ok : CtrOk Try.prog 57 (intC [.int .i64, .int .i64, .int .i64] .u64 strmF) := by
  obtain ⟨G, hG⟩ : ∃ G : List (FuncId × Ctr), G = [] := ⟨_, rfl⟩
  refine fn_inl (ck := true) [(51, Try.f51), (52, Try.f52)] ⟨⟨Try.func51, by unfold FnOk; kernel_rfl, by kernel_rfl⟩, ⟨Try.func52, by unfold FnOk; kernel_rfl, by kernel_rfl⟩, trivial⟩ Try.func57 rfl tt_ok (G := G) (by rw [hG]; exact trivial) mixed (by kernel_rfl) ?_
  intro xa xs h hx hp
  obtain ⟨a0, as0, x0, xs0, rfl, rfl, h0, H1⟩ := svArgs_cons h
  obtain ⟨a1, as1, x1, xs1, rfl, rfl, h1, H2⟩ := svArgs_cons H1
  obtain ⟨a2, as2, x2, xs2, rfl, rfl, h2, H3⟩ := svArgs_cons H2
  obtain ⟨rfl, rfl⟩ := svArgs_nil H3
  obtain ⟨s, rfl, rfl⟩ := argSV_int h0
  obtain ⟨l, rfl, rfl⟩ := argSV_int h1
  obtain ⟨k, rfl, rfl⟩ := argSV_int h2
  have ss := of_i64 (hx (.v (.int .i64 s)) (by simp))
  have sl := of_i64 (hx (.v (.int .i64 l)) (by simp))
  have sk := of_i64 (hx (.v (.int .i64 k)) (by simp))
  have SS := Lib.hid ss
  clear ss
  have SL := Lib.hid sl
  clear sl
  have SK := Lib.hid sk
  clear sk
  clear hx hp h h0 H1 h1 H2 h2 H3
  generalize hA : std = A
  subst hG
  generalize h_c : ci = c
  generalize h_fR : strmF = fR
  cbv
  (repeat' (first | apply And.intro | apply BrB.mk | apply BrP.mk | intro _))
  (all_goals (subst hA; subst h_c; subst h_fR); all_goals (have f_ss := SS.out; have f_sl := SL.out; have f_sk := SK.out); all_goals (try simp only [std, stdBin, stdCmp, stdUna, stdIn, ci, beq_iff_eq, bne_iff_ne, beq_eq_false_iff_ne, bne_eq_false_iff_eq, decide_eq_true_eq, decide_eq_false_iff_not, Bool.not_true, Bool.not_false, Bool.not_eq_true', Bool.not_eq_false', Bool.not_not, tn0, tn1, tn2, tn3, strmF, strmI] at *); all_goals (try omega))
  all_goals (try (rw [if_neg (by omega)]; done))
  all_goals (try simp only [IntKind.wrap_u64])
  all_goals first | omega | (rw [if_pos (by omega)]; exact congrArg _ (by omega)) | trace_state
def bitsF (xa : List AV) : Int := match xa with
  | [.z v] => bitsI v
  | _ => 0
theorem rbits21_ok : CtrOk Try.prog 134 (intC [.int .i64] .i64 bitsF) := by
  intro xa w g vs ha _ hp
  obtain ⟨a1, as1, v1, vs1, rfl, rfl, h1, h⟩ := args_cons ha
  obtain ⟨rfl, rfl⟩ := args_nil h
  obtain ⟨x, rfl, rfl, q1⟩ := of_arg_int h1
  refine (rbits_any x w).mono fun e w' ⟨he, hw⟩ => ⟨_, he, ?_⟩
  subst hw
  have := bitsI_in x
  exact gv_val (v := .int .i64 (bitsI x)) (WalkArith.wf_i64 (by omega)) (Below.refl _ _)
theorem rmacc21_ok : CtrOk Try.prog 54 (boolC [tnTy .i32] mayAF) := by
  obtain ⟨G, hG⟩ : ∃ G : List (FuncId × Ctr), G = [(71, boolC [.sl (.int .i64)] shMayF), (72, intC [.sl (.int .i64)] .i64 szF)] := ⟨_, rfl⟩
  refine fn_ok (ck := true) Try.func54 rfl tt_ok (G := G) (by rw [hG]; exact ⟨⟨rmay_ok, by unfold FnOk; kernel_rfl⟩, ⟨rsize_ok, by unfold FnOk; kernel_rfl⟩, trivial⟩) mixed (by kernel_rfl) ?_
  intro xa xs h hx hp
  obtain ⟨a0, as0, x0, xs0, rfl, rfl, h0, H1⟩ := svArgs_cons h
  obtain ⟨rfl, rfl⟩ := svArgs_nil H1
  obtain ⟨⟨aD, aE, aL⟩, rfl, rfl⟩ := argSV_tn h0
  have sa : (Fits .i64 aD ∧ ci aD.length ≤ 9223372036854775807) ∧ (-9223372036854775808 ≤ aE ∧ aE ≤ 9223372036854775807) ∧ Fits .i32 aL ∧ ci aL.length ≤ 9223372036854775807 := svf_tn (hx (Tn.sv .i32 ⟨aD, aE, aL⟩) (by simp))
  have SA := Lib.hid sa
  clear sa
  clear hx hp h h0 H1
  generalize hA : std = A
  subst hG
  generalize h_c : ci = c
  generalize h_fd : shMayF = fd
  generalize h_fz : szF = fz
  generalize h_fR : mayAF = fR
  cbv
  (repeat' (first | apply And.intro | apply BrB.mk | apply BrP.mk | intro _))
  (all_goals (subst hA; subst h_c; subst h_fd; subst h_fz; subst h_fR); all_goals (have f_sa := SA.out); all_goals (try simp only [std, stdBin, stdCmp, stdUna, stdIn, ci, beq_iff_eq, bne_iff_ne, beq_eq_false_iff_ne, bne_eq_false_iff_eq, decide_eq_true_eq, decide_eq_false_iff_not, Bool.not_true, Bool.not_false, Bool.not_eq_true', Bool.not_eq_false', Bool.not_not, tn0, tn1, tn2, tn3, shMayF, szF, mayAF, mayAccB, expB] at *); all_goals (try omega))
  all_goals (refine vb ?_; show mayAccB ⟨aD, aE, aL⟩ = _; simp only [mayAccB, expB])
  all_goals first | omega | (simp_all; done) | (simp_all; omega) | trace_state
def wdN (L : List Int) : Nat → Int
  | 0 => 0
  | n + 1 => max (wdN L n) (bitsI (L.getD n 0))
theorem wdN_in (L : List Int) : ∀ n, 0 ≤ wdN L n ∧ wdN L n ≤ 63
  | 0 => by simp [wdN]
  | n + 1 => by
    have h := wdN_in L n
    have h2 := bitsI_in (L.getD n 0)
    unfold wdN
    omega
theorem wdN_take (L : List Int) : ∀ n, n ≤ L.length → wdN L n = (L.take n).foldl (fun a x => max a (bitsI x)) 0
  | 0, _ => by simp [wdN]
  | n + 1, h => by
    have hn : n < L.length := h
    rw [← List.take_append_getElem hn, List.foldl_append, ← wdN_take L n (by omega)]
    simp only [List.foldl_cons, List.foldl_nil, wdN]
    rw [List.getD_eq_getElem?_getD, List.getElem?_eq_getElem hn]
    rfl
theorem wdN_all (L : List Int) : wdN L L.length = widthL L := by
  rw [wdN_take L _ (Nat.le_refl _), List.take_length]
  rfl
def widF (xa : List AV) : Int := match xa with
  | [.st [.l D, .z e, .l L]] => widthB ⟨D, e, L⟩
  | _ => 0
theorem rwidth21_ok : CtrOk Try.prog 111 (intC [tnTy .i32] .i64 widF) := by
  obtain ⟨G, hG⟩ : ∃ G : List (FuncId × Ctr), G = [(54, boolC [tnTy .i32] mayAF), (134, intC [.int .i64] .i64 bitsF)] := ⟨_, rfl⟩
  refine fn_ok (ck := true) Try.func111 rfl tt_ok (G := G) (by rw [hG]; exact ⟨⟨rmacc21_ok, by unfold FnOk; kernel_rfl⟩, ⟨rbits21_ok, by unfold FnOk; kernel_rfl⟩, trivial⟩) mixed (by kernel_rfl) ?_
  intro xa xs h hx hp
  obtain ⟨a0, as0, x0, xs0, rfl, rfl, h0, H1⟩ := svArgs_cons h
  obtain ⟨rfl, rfl⟩ := svArgs_nil H1
  obtain ⟨⟨aD, aE, aL⟩, rfl, rfl⟩ := argSV_tn h0
  have sa : (Fits .i64 aD ∧ ci aD.length ≤ 9223372036854775807) ∧ (-9223372036854775808 ≤ aE ∧ aE ≤ 9223372036854775807) ∧ Fits .i32 aL ∧ ci aL.length ≤ 9223372036854775807 := svf_tn (hx (Tn.sv .i32 ⟨aD, aE, aL⟩) (by simp))
  have SA := Lib.hid sa
  clear sa
  clear hx hp h h0 H1
  generalize hA : std = A
  subst hG
  generalize h_c : ci = c
  generalize h_fm : mayAF = fm
  generalize h_fb : bitsF = fb
  generalize h_fR : widF = fR
  obtain ⟨W, hW⟩ : ∃ W : Nat → Int, ∀ x, W x = wdN aL x := ⟨_, fun _ => rfl⟩
  have HW := Lib.hid hW
  clear hW
  cbv
  (repeat' (first | apply And.intro | apply BrB.mk | apply BrP.mk | intro _))
  all_goals try (refine loop_at Nat 12 (fun x => [(3, .v (.int .i64 (W x))), (5, .any), (12, .v (.int .i64 (c x)))]) (fun _ o => o) (fun x => x ≤ aL.length) (fun x => aL.length - x) 0 (Nat.zero_le _) ?_ ?_
                 focus
                   show AS.le _ _
                   cbv
                   (repeat' (first | apply And.intro | apply BrB.mk | apply BrP.mk | intro _))
                   (all_goals (subst hA; subst h_c; subst h_fm; subst h_fb; subst h_fR); all_goals (have f_sa := SA.out); all_goals (try simp only [std, stdBin, stdCmp, stdUna, stdIn, ci, beq_iff_eq, bne_iff_ne, beq_eq_false_iff_ne, bne_eq_false_iff_eq, decide_eq_true_eq, decide_eq_false_iff_not, Bool.not_true, Bool.not_false, Bool.not_eq_true', Bool.not_eq_false', Bool.not_not, tn0, tn1, tn2, tn3, mayAF] at *); all_goals (try omega))
                   all_goals first | exact True.intro | rfl | (rw [HW.out]; rfl)
                   done)
  all_goals try (intro x hx; cbv; (repeat' (first | apply And.intro | apply BrB.mk | apply BrP.mk | intro _)))
  all_goals try (refine ⟨x + 1, ?_, ?_, ?_⟩)
  all_goals try (show AS.le _ _; cbv; (repeat' (first | apply And.intro | apply BrB.mk | apply BrP.mk | intro _)))
  (all_goals (subst hA; subst h_c; subst h_fm; subst h_fb; subst h_fR); all_goals (have f_sa := SA.out); all_goals (try simp only [std, stdBin, stdCmp, stdUna, stdIn, ci, beq_iff_eq, bne_iff_ne, beq_eq_false_iff_ne, bne_eq_false_iff_eq, decide_eq_true_eq, decide_eq_false_iff_not, Bool.not_true, Bool.not_false, Bool.not_eq_true', Bool.not_eq_false', Bool.not_not, tn0, tn1, tn2, tn3, mayAF, bitsF, widF, widthB] at *); all_goals (try omega))
  all_goals first
    | omega
    | (have b := bitsI_in (aL.getD x 0); have d := wdN_in aL x; have d1 : W (x + 1) = max (W x) (bitsI (aL.getD x 0)) := (by rw [HW.out, HW.out]; rfl); have d0 := HW.out x; first | omega | (exact congrArg _ (Int.natCast_succ _).symm) | (show _ = Value.int .i64 (W (x + 1)); rw [d1, Int.toNat_natCast]; refine congrArg _ ?_; split <;> omega) | (rw [show x = aL.length by omega, HW.out, wdN_all, if_pos (by assumption)]; done) | trace_state)
    | (rw [if_neg (by simp_all)]; done)
    | trace_state
end Go.Proofs.Ytekokhlldcmjfaa
