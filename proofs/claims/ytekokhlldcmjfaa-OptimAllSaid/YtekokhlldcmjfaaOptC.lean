/- Layer 21: weights, moved and decayed. -/
import Derived.Test.YtekokhlldcmjfaaOptB
namespace Go.Proofs.Ytekokhlldcmjfaa
open Go.RowKit
set_option maxRecDepth 1000000
set_option linter.unusedSimpArgs false
set_option linter.unusedVariables false
set_option maxHeartbeats 16000000
set_option cbv.maxSteps 10000000
/-- A weight, moved and decayed. -/
def numA (L m : List Int) (ra de se st la : Int) (i : Nat) : Int := L.getD i 0 - pchI se st la (m.getD i 0) ra 4 (i : Int) - (if de = 0 then 0 else nearI (L.getD i 0) de)
/-- One of the first so many has outgrown its bits. -/
def ovB (f : Nat → Int) : Nat → Bool
  | 0 => false
  | n + 1 => ovB f n || (decide (127 < f n) || decide (f n < -127))
def wtO (f : Nat → Int) (n : Nat) (e : Int) : Bool := ovB f n && decide (e < 64)
def wtA (f : Nat → Int) (o : Bool) (i : Nat) : Int := clampI (if o = true then nearI (f i) 1 else f i) 8
def wtT (D : List Int) (e : Int) (f : Nat → Int) (n : Nat) : Tn := ⟨D, if wtO f n e = true then e + 1 else e, (List.range n).map (wtA f (wtO f n e))⟩
def wtP (xa : List AV) : Prop := match xa with
  | [.st [.l D, .z e, .l L], .l m, _, _] => mayB ⟨D, e, L⟩ = true ∧ L.length ≤ m.length
  | _ => False
def wtR (xa : List AV) : Tn := match xa with
  | [.st [.l D, .z e, .l L], .l m, .st [.z _, .z _, .z ra, .z _, .z de, .z _], .st [.z se, .z st, .z la]] => wtT D e (numA L m ra de se st la) L.length
  | _ => ⟨[], 0, []⟩
theorem numA_bd {L m : List Int} (hL : Fits .i8 L) (hm : Fits .i32 m) (ra de se st la : Int) (i : Nat) : -2147483904 ≤ numA L m ra de se st la i ∧ numA L m ra de se st la i ≤ 2147483904 := by
  have b1 := fits8 hL i
  have b2 := fits32 hm i
  have b3 := pch_bd (v := m.getD i 0) (B := 2147483648) se st la ra 4 (i : Int) (by decide) (by omega)
  have b4 := near_bd (v := L.getD i 0) (s := de) (B := 128) (by decide) (by omega)
  unfold numA
  split <;> omega
theorem getD_self {l : List Int} {x : Nat} {a : Int} (h : x < l.length) : (l.set x a).getD x 0 = a := by
  rw [List.getD_eq_getElem?_getD, List.getElem?_set_self h]; rfl
theorem mixL_store2 {lo hi : Nat → Int} {N c : Nat} {v a : Int} (h : c < N) (hv : v = hi c) : ((mixL lo hi N c).set c a).set c v = mixL lo hi N (c + 1) := by
  rw [List.set_set]; exact mixL_store h hv
theorem getD_mapF {f : Nat → Int} {n j : Nat} (h : j < n) : ((List.range n).map f).getD j 0 = f j := by
  rw [List.getD_eq_getElem?_getD, List.getElem?_map, List.getElem?_range h]; rfl
theorem wtO_t {f : Nat → Int} {n : Nat} {e : Int} (h : ovB f n = true) (he : e < 64) : wtO f n e = true := by
  unfold wtO; rw [h, decide_eq_true he]; rfl
theorem wtO_f {f : Nat → Int} {n : Nat} {e : Int} (h : ovB f n = false ∨ ¬ e < 64) : wtO f n e = false := by
  unfold wtO
  rcases h with h | h
  · rw [h]; rfl
  · rw [decide_eq_false h, Bool.and_false]
theorem wts_ok : CtrOk Try.prog 49 (tnPO [tnTy .i8, .sl (.int .i32), hyTy, plTy] .i8 3 52 wtP wtR) := by
  obtain ⟨G, hG⟩ : ∃ G : List (FuncId × Ctr), G = [(110, intC [plTy, .int .i64, .int .i64, .int .i64, .int .i64] .i64 pchF), (28, intC [.int .i64, .int .i64] .i64 nearF), (29, intC [.int .i64, .int .i64] .i64 clampF), (42, tnPO [tnTy .i8] .i8 3 52 clP clR)] := ⟨_, rfl⟩
  refine fn_ok (ck := true) Try.func49 rfl tt_ok (G := G) (by rw [hG]; exact ⟨⟨pch_ok, by unfold FnOk; kernel_rfl⟩, ⟨near_ok, by unfold FnOk; kernel_rfl⟩, ⟨clamp_ok, by unfold FnOk; kernel_rfl⟩, ⟨tclone_ok, by unfold FnOk; kernel_rfl⟩, trivial⟩) mixed (by kernel_rfl) ?_
  intro xa xs h hx hp
  obtain ⟨a0, as0, x0, xs0, rfl, rfl, h0, H1⟩ := svArgs_cons h
  obtain ⟨a1, as1, x1, xs1, rfl, rfl, h1, H2⟩ := svArgs_cons H1
  obtain ⟨a2, as2, x2, xs2, rfl, rfl, h2, H3⟩ := svArgs_cons H2
  obtain ⟨a3, as3, x3, xs3, rfl, rfl, h3, H4⟩ := svArgs_cons H3
  obtain ⟨rfl, rfl⟩ := svArgs_nil H4
  obtain ⟨⟨wD, wE, wL⟩, rfl, rfl⟩ := argSV_tn h0
  obtain ⟨m, rfl, rfl⟩ := argSV_ints h1
  obtain ⟨hBa, hWi, hRa, hMo, hDe, hEv, rfl, rfl⟩ := argSV_hy h2
  obtain ⟨pse, pst, pla, rfl, rfl⟩ := argSV_pl h3
  have sw : (Fits .i64 wD ∧ ci wD.length ≤ 9223372036854775807) ∧ (-9223372036854775808 ≤ wE ∧ wE ≤ 9223372036854775807) ∧ Fits .i8 wL ∧ ci wL.length ≤ 9223372036854775807 := svf_tn (hx (Tn.sv .i8 ⟨wD, wE, wL⟩) (by simp))
  have sm : Fits .i32 m ∧ ci m.length ≤ 9223372036854775807 := svf_ints (hx (.iimm .i32 m) (by simp))
  have sh : (-9223372036854775808 ≤ hBa ∧ hBa ≤ 9223372036854775807) ∧ (-9223372036854775808 ≤ hWi ∧ hWi ≤ 9223372036854775807) ∧ (-9223372036854775808 ≤ hRa ∧ hRa ≤ 9223372036854775807) ∧ (-9223372036854775808 ≤ hMo ∧ hMo ≤ 9223372036854775807) ∧ (-9223372036854775808 ≤ hDe ∧ hDe ≤ 9223372036854775807) ∧ (-9223372036854775808 ≤ hEv ∧ hEv ≤ 9223372036854775807) := svf_hy (hx (.agg [.v (.int .i64 hBa), .v (.int .i64 hWi), .v (.int .i64 hRa), .v (.int .i64 hMo), .v (.int .i64 hDe), .v (.int .i64 hEv)]) (List.mem_of_getElem? (i := 2) rfl))
  have sp : ((Lit.int .u64 pse).wf = true) ∧ (-9223372036854775808 ≤ pst ∧ pst ≤ 9223372036854775807) ∧ (-9223372036854775808 ≤ pla ∧ pla ≤ 9223372036854775807) := svf_pl (hx (.agg [.v (.int .u64 pse), .v (.int .i64 pst), .v (.int .i64 pla)]) (List.mem_of_getElem? (i := 3) rfl))
  have SW := Lib.hid sw
  clear sw
  have SM := Lib.hid sm
  clear sm
  have SH := Lib.hid sh
  clear sh
  have SP := Lib.hid sp
  clear sp
  have HP := Lib.hid (hp _ rfl)
  clear hx hp h h0 H1 h1 H2 h2 H3 h3 H4
  generalize hA : std = A
  subst hG
  generalize h_c : ci = c
  generalize h_fp : pchF = fp
  generalize h_fn : nearF = fn
  generalize h_fc : clampF = fc
  generalize h_pc : clP = pc
  generalize h_fk : clR = fk
  generalize h_fR : wtR = fR
  generalize h_pm : wtP = pm
  obtain ⟨F, hF⟩ : ∃ F : Nat → Int, ∀ x, F x = numA wL m hRa hDe pse pst pla x := ⟨_, fun _ => rfl⟩
  obtain ⟨S, hS⟩ : ∃ S : Nat → List Int, ∀ x, S x = mixL (fun _ => 0) F wL.length x := ⟨_, fun _ => rfl⟩
  obtain ⟨O, hO⟩ : ∃ O : Nat → Bool, ∀ x, O x = ovB F x := ⟨_, fun _ => rfl⟩
  obtain ⟨S2, hS2⟩ : ∃ S2 : Nat → List Int, ∀ x, S2 x = mixL F (fun i => nearI (F i) 1) wL.length x := ⟨_, fun _ => rfl⟩
  obtain ⟨S3, hS3⟩ : ∃ S3 : Nat → List Int, ∀ x, S3 x = mixL (fun i => wL.getD i 0) (wtA F (wtO F wL.length wE)) wL.length x := ⟨_, fun _ => rfl⟩
  have HF := Lib.hid hF
  have HSS := Lib.hid hS
  have HO := Lib.hid hO
  have HS2 := Lib.hid hS2
  have HS3 := Lib.hid hS3
  clear hF hS hO hS2 hS3
  cbv
  (repeat' (first | apply And.intro | apply BrB.mk | apply BrP.mk | intro _))
  all_goals try (refine loop_at Nat 26 (fun x => [(10, .v (.bool (O x))), (11, .any), (12, .any), (13, .any), (26, .v (.int .i64 (c x)))]) (fun x o => o.set 4 (.irow 2 .i64 (S x))) (fun x => x ≤ wL.length) (fun x => wL.length - x) 0 ?h0 ?hle ?round)
  case h0 => exact Nat.zero_le _
  case hle =>
    cbv
    (repeat' (first | apply And.intro | apply BrB.mk | apply BrP.mk | intro _))
    (all_goals (subst hA; subst h_c; subst h_fp; subst h_fn; subst h_fc; subst h_pc; subst h_fk; subst h_fR; subst h_pm); all_goals (have f_sw := SW.out; have f_sm := SM.out; have f_sh := SH.out; have f_sp := SP.out; have f_hp := HP.out); all_goals (try simp only [std, stdBin, stdCmp, stdUna, stdIn, ci, beq_iff_eq, bne_iff_ne, beq_eq_false_iff_ne, bne_eq_false_iff_eq, decide_eq_true_eq, decide_eq_false_iff_not, Bool.not_true, Bool.not_false, Bool.not_eq_true', Bool.not_eq_false', Bool.not_not, tn0, tn1, tn2, tn3, wtP] at *); all_goals (try omega))
    all_goals first | exact True.intro | rfl | (rw [HSS.out, mixL_nil, Int.toNat_natCast]; done) | (rw [HO.out]; rfl) | trace_state
  case round =>
    intro x hx
    cbv
    refine BrB.mk (fun gx => ?yx) (fun gx => ?nx)
    case yx =>
      (repeat' (first | apply And.intro | apply BrB.mk | apply BrP.mk | intro _))
      all_goals try (refine ⟨x + 1, ?_, ?_, ?_⟩)
      all_goals try (show AS.le _ _; cbv; (repeat' (first | apply And.intro | apply BrB.mk | apply BrP.mk | intro _)))
      (all_goals (subst hA; subst h_c; subst h_fp; subst h_fn; subst h_fc; subst h_pc; subst h_fk; subst h_fR; subst h_pm); all_goals (have f_sw := SW.out; have f_sm := SM.out; have f_sh := SH.out; have f_sp := SP.out; have f_hp := HP.out); all_goals (try simp only [std, stdBin, stdCmp, stdUna, stdIn, ci, beq_iff_eq, bne_iff_ne, beq_eq_false_iff_ne, bne_eq_false_iff_eq, decide_eq_true_eq, decide_eq_false_iff_not, Bool.not_true, Bool.not_false, Bool.not_eq_true', Bool.not_eq_false', Bool.not_not, tn0, tn1, tn2, tn3, wtP, pchF, nearF, Int.toNat_natCast] at *); all_goals (try omega))
      all_goals (obtain ⟨hm, hl⟩ := (show mayB ⟨wD, wE, wL⟩ = true ∧ wL.length ≤ m.length from f_hp); have ml := may_len hm)
      all_goals (have b1 := fits8 f_sw.2.2.1 x; have b2 := fits32 f_sm.1 x; have b3 := pch_bd (v := m.getD x 0) (B := 2147483648) pse pst pla hRa 4 (x : Int) (by decide) (by omega); have b4 := near_bd (v := wL.getD x 0) (s := hDe) (B := 128) (by decide) (by omega); have sl : (S x).length = wL.length := (by rw [HSS.out, mixL_len]); have fx : F x = wL.getD x 0 - pchI pse pst pla (m.getD x 0) hRa 4 (x : Int) - (if hDe = 0 then 0 else nearI (wL.getD x 0) hDe) := HF.out x; have ox : O (x + 1) = (O x || (decide (127 < F x) || decide (F x < -127))) := (by rw [HO.out, HO.out]; rfl))
      all_goals (try omega)
      all_goals (have hxl : x < (S x).length := (by omega))
      all_goals (try simp only [getD_self hxl, List.length_set] at *)
      all_goals first
        | exact True.intro
        | rfl
        | omega
        | (rw [HSS.out, HSS.out]; refine mixL_store (by omega) ?_; rw [fx, if_pos (by assumption)]; omega)
        | (rw [HSS.out, HSS.out]; refine mixL_store2 (by omega) ?_; rw [fx, if_neg (by assumption)]; done)
        | (refine vb ?_; rw [ox, fx]; simp_all; done)
        | (refine vb ?_; rw [ox, fx]; simp_all; omega)
        | trace_state
    case nx =>
      (repeat' (first | apply And.intro | apply BrB.mk | apply BrP.mk | intro _))
      all_goals try first
        | (refine loop_at Nat 91 (fun x => [(15, .any), (16, .any), (91, .v (.int .i64 (c x)))]) (fun x o => o.set 4 (.irow 2 .i64 (S2 x))) (fun x => x ≤ wL.length) (fun x => wL.length - x) 0 (Nat.zero_le _) ?_ ?_
           focus
             show AS.le _ _
             cbv
             (repeat' (first | apply And.intro | apply BrB.mk | apply BrP.mk | intro _))
             (all_goals (subst hA; subst h_c; subst h_fp; subst h_fn; subst h_fc; subst h_pc; subst h_fk; subst h_fR; subst h_pm); all_goals (have f_sw := SW.out; have f_sm := SM.out; have f_sh := SH.out; have f_sp := SP.out; have f_hp := HP.out); all_goals (try simp only [std, stdBin, stdCmp, stdUna, stdIn, ci, beq_iff_eq, bne_iff_ne, beq_eq_false_iff_ne, bne_eq_false_iff_eq, decide_eq_true_eq, decide_eq_false_iff_not, Bool.not_true, Bool.not_false, Bool.not_eq_true', Bool.not_eq_false', Bool.not_not, tn0, tn1, tn2, tn3, wtP, clP, clR] at *); all_goals (try omega))
             all_goals (obtain ⟨hm, hl⟩ := (show mayB ⟨wD, wE, wL⟩ = true ∧ wL.length ≤ m.length from f_hp); have ml := may_len hm)
             all_goals first | exact True.intro | rfl | omega | (rw [HSS.out, HS2.out, mixL_none, show x = wL.length by omega, mixL_all]; done) | (rw [HS3.out, mixL_none, range_getD]; done)
             done)
        | (refine loop_at Nat 104 (fun x => [(17, .any), (18, .any), (104, .v (.int .i64 (c x)))]) (fun x o => o.set 6 (.irow 52 .i8 (S3 x))) (fun x => x ≤ wL.length) (fun x => wL.length - x) 0 (Nat.zero_le _) ?_ ?_
           focus
             show AS.le _ _
             cbv
             (repeat' (first | apply And.intro | apply BrB.mk | apply BrP.mk | intro _))
             (all_goals (subst hA; subst h_c; subst h_fp; subst h_fn; subst h_fc; subst h_pc; subst h_fk; subst h_fR; subst h_pm); all_goals (have f_sw := SW.out; have f_sm := SM.out; have f_sh := SH.out; have f_sp := SP.out; have f_hp := HP.out); all_goals (try simp only [std, stdBin, stdCmp, stdUna, stdIn, ci, beq_iff_eq, bne_iff_ne, beq_eq_false_iff_ne, bne_eq_false_iff_eq, decide_eq_true_eq, decide_eq_false_iff_not, Bool.not_true, Bool.not_false, Bool.not_eq_true', Bool.not_eq_false', Bool.not_not, tn0, tn1, tn2, tn3, wtP, clP, clR] at *); all_goals (try omega))
             all_goals (obtain ⟨hm, hl⟩ := (show mayB ⟨wD, wE, wL⟩ = true ∧ wL.length ≤ m.length from f_hp); have ml := may_len hm)
             all_goals first | exact True.intro | rfl | omega | (rw [HSS.out, HS2.out, mixL_none, show x = wL.length by omega, mixL_all]; done) | (rw [HS3.out, mixL_none, range_getD]; done)
             done)
      all_goals try (intro j hj; cbv; (repeat' (first | apply And.intro | apply BrB.mk | apply BrP.mk | intro _)))
      all_goals try (refine loop_at Nat 104 (fun x => [(17, .any), (18, .any), (104, .v (.int .i64 (c x)))]) (fun x o => o.set 6 (.irow 52 .i8 (S3 x))) (fun x => x ≤ wL.length) (fun x => wL.length - x) 0 (Nat.zero_le _) ?_ ?_
                     focus
                       show AS.le _ _
                       cbv
                       (repeat' (first | apply And.intro | apply BrB.mk | apply BrP.mk | intro _))
                       (all_goals (subst hA; subst h_c; subst h_fp; subst h_fn; subst h_fc; subst h_pc; subst h_fk; subst h_fR; subst h_pm); all_goals (have f_sw := SW.out; have f_sm := SM.out; have f_sh := SH.out; have f_sp := SP.out; have f_hp := HP.out); all_goals (try simp only [std, stdBin, stdCmp, stdUna, stdIn, ci, beq_iff_eq, bne_iff_ne, beq_eq_false_iff_ne, bne_eq_false_iff_eq, decide_eq_true_eq, decide_eq_false_iff_not, Bool.not_true, Bool.not_false, Bool.not_eq_true', Bool.not_eq_false', Bool.not_not, tn0, tn1, tn2, tn3, wtP, clP, clR] at *); all_goals (try omega))
                       all_goals (obtain ⟨hm, hl⟩ := (show mayB ⟨wD, wE, wL⟩ = true ∧ wL.length ≤ m.length from f_hp); have ml := may_len hm)
                       all_goals first | exact True.intro | rfl | omega | (rw [HSS.out, HS2.out, mixL_none, show x = wL.length by omega, mixL_all]; done) | (rw [HS3.out, mixL_none, range_getD]; done)
                       done)
      all_goals try (intro q hq; cbv; (repeat' (first | apply And.intro | apply BrB.mk | apply BrP.mk | intro _)))
      all_goals try first | (refine ⟨q + 1, ?_, ?_, ?_⟩) | (refine ⟨j + 1, ?_, ?_, ?_⟩)
      all_goals try (show AS.le _ _; cbv; (repeat' (first | apply And.intro | apply BrB.mk | apply BrP.mk | intro _)))
      (all_goals (subst hA; subst h_c; subst h_fp; subst h_fn; subst h_fc; subst h_pc; subst h_fk; subst h_fR; subst h_pm); all_goals (have f_sw := SW.out; have f_sm := SM.out; have f_sh := SH.out; have f_sp := SP.out; have f_hp := HP.out); all_goals (try simp only [std, stdBin, stdCmp, stdUna, stdIn, ci, beq_iff_eq, bne_iff_ne, beq_eq_false_iff_ne, bne_eq_false_iff_eq, decide_eq_true_eq, decide_eq_false_iff_not, Bool.not_true, Bool.not_false, Bool.not_eq_true', Bool.not_eq_false', Bool.not_not, tn0, tn1, tn2, tn3, wtP, clP, clR, nearF, clampF, wtR, wtT, Int.toNat_natCast] at *); all_goals (try omega))
      all_goals (obtain ⟨hm, hl⟩ := (show mayB ⟨wD, wE, wL⟩ = true ∧ wL.length ≤ m.length from f_hp); have ml := may_len hm)
      all_goals (try omega)
      all_goals (have hFe : F = numA wL m hRa hDe pse pst pla := funext (fun i => HF.out i); have hxn : x = wL.length := (by omega); have oo : O x = ovB F x := HO.out x; have sx : S x = (List.range wL.length).map F := (by rw [HSS.out, hxn, mixL_all]))
      all_goals (rw [← hFe] at *)
      all_goals (try first | exact True.intro | rfl)
      all_goals first
        | (have hwo : wtO F wL.length wE = true := wtO_t (n := wL.length) (hxn ▸ oo ▸ (by assumption : O x = true)) (by assumption))
        | (have hwo : wtO F wL.length wE = false := wtO_f (n := wL.length) (.inl (hxn ▸ oo ▸ (by assumption : O x = false))))
        | (have hwo : wtO F wL.length wE = false := wtO_f (n := wL.length) (.inr (by assumption)))
      all_goals (have l2 : ∀ i, (S2 i).length = wL.length := (fun i => by rw [HS2.out, mixL_len]); have l3 : ∀ i, (S3 i).length = wL.length := (fun i => by rw [HS3.out, mixL_len]); have lx : (S x).length = wL.length := (by rw [HSS.out, mixL_len]))
      all_goals (try simp only [l2, l3, lx] at *)
      all_goals (try omega)
      all_goals first
        | (rw [HS2.out, HS2.out]; refine mixL_store (by omega) ?_; rw [mixL_get _ _ (by omega), if_neg (Nat.lt_irrefl _)]; done)
        | (rw [HS3.out, HS3.out]; refine mixL_store (by omega) ?_; have cb := clamp8_in ((S2 j).getD q 0); rw [w8 (by omega) (by omega)]; unfold wtA; rw [if_pos hwo, HS2.out, mixL_get _ _ (by omega), if_pos (by omega)]; done)
        | (rw [HS3.out, HS3.out]; refine mixL_store (by omega) ?_; have cb := clamp8_in ((S x).getD j 0); rw [w8 (by omega) (by omega)]; unfold wtA; rw [if_neg (by rw [hwo]; decide), sx, getD_mapF (by omega)]; done)
        | (rw [if_pos hwo]; done)
        | (rw [if_neg (by rw [hwo]; decide)]; done)
        | (rw [HS3.out, show q = wL.length by omega, mixL_all]; done)
        | (rw [HS3.out, show j = wL.length by omega, mixL_all]; done)
        | trace_state
  (all_goals (subst hA; subst h_c; subst h_fp; subst h_fn; subst h_fc; subst h_pc; subst h_fk; subst h_fR; subst h_pm); all_goals (have f_sw := SW.out; have f_sm := SM.out; have f_sh := SH.out; have f_sp := SP.out; have f_hp := HP.out); all_goals (try simp only [std, stdBin, stdCmp, stdUna, stdIn, ci, beq_iff_eq, bne_iff_ne, beq_eq_false_iff_ne, bne_eq_false_iff_eq, decide_eq_true_eq, decide_eq_false_iff_not, Bool.not_true, Bool.not_false, Bool.not_eq_true', Bool.not_eq_false', Bool.not_not, tn0, tn1, tn2, tn3, wtP] at *); all_goals (try omega))
  all_goals (obtain ⟨hm, hl⟩ := (show mayB ⟨wD, wE, wL⟩ = true ∧ wL.length ≤ m.length from f_hp); have ml := may_len hm)
  all_goals (try omega)
  all_goals trace_state
end Go.Proofs.Ytekokhlldcmjfaa
