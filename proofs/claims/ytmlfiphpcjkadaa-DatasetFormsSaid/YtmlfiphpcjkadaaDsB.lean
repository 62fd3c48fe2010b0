/- Layer 22: a dataset as bytes. -/
import Derived.Test.YtmlfiphpcjkadaaDsA
import Derived.Test.YtmlfiphpcjkadaaOctZ
namespace Go.Proofs.Ytmlfiphpcjkadaa
open Go.RowKit
set_option maxRecDepth 1000000
set_option linter.unusedSimpArgs false
set_option linter.unusedVariables false
set_option maxHeartbeats 16000000
set_option cbv.maxSteps 10000000
/-- What is handed over is given up first. -/
def mfrz (A : Sy) (run : List SV → AS → (SV → AS → Prop) → Prop) (args : List SV) (s : AS) (K : SV → AS → Prop) : Prop := match frz2 A (argIds args) (s, args) with
  | (s1, xs) => run xs s1 K
theorem mfrz_ok {P : Program} {f : FuncId} {run : List SV → AS → (SV → AS → Prop) → Prop} (h : RunOk P false f run) : RunOk P true f (mfrz std run) := by
  refine ⟨h.fn, fun w0 r s a w args us K Q hs hargs hv hQ => ?_⟩
  unfold mfrz at hv
  obtain ⟨w1, hle, h1, h2⟩ := Sat.frz2 (argIds args) hs hargs
  split at hv
  rename_i s1 xs he
  rw [he] at h1 h2
  exact (RunOk.up h).ok w1 r s1 a w xs us K Q h1 h2 hv fun w2 r' s' x v w' l2 => hQ w2 r' s' x v w' (hle.trans l2)
theorem wrawF_ok : RunOk Try.prog true 31 (mfrz std (mor wbMt (mrun (wbMt) (fun p => wbPre p.l p.b) (wbX) (wbOs) (fun _ => [1])) (mrun (wbMtN) (fun p => wbPre [] p.b) (wbX) (wbOsE) (fun _ => [])))) := mfrz_ok wraw_ok
/-! ### The bytes -/
def bU8 (v : Int) : List Int := putK (IntKind.u64.wrap v) 1 1
def bU16 (v : Int) : List Int := putK (IntKind.u64.wrap v) 2 2
def bDat (D : List Int) : Nat → List Int
  | 0 => []
  | j + 1 => bDat D j ++ bU8 (D.getD j 0)
def exDat (x : Dat) (i : Nat) : List Int := ((x.at i).fld 0).ints
def exLab (x : Dat) (i : Nat) : Int := ((x.at i).fld 1).z
def bExs (x : Dat) : Nat → List Int
  | 0 => []
  | i + 1 => bExs x i ++ bU8 (exLab x i) ++ bDat (exDat x i) (exDat x i).length
def bMark : List Int := [112, 100, 100, 115]
def b3 (c h w : Int) : Nat → List Int
  | 0 => []
  | 1 => bU8 c
  | 2 => bU8 c ++ bU8 h
  | _ => bU8 c ++ bU8 h ++ bU8 w
def bHead (c h w e k n : Int) : List Int := bMark ++ b3 c h w 3 ++ bU8 e ++ bU8 k ++ bU16 n
theorem allTo_at {g : Nat → Bool} : ∀ {n : Nat}, allTo g n = true → ∀ i, i < n → g i = true
  | 0, _, i, hi => absurd hi (Nat.not_lt_zero _)
  | n + 1, h, i, hi => by
    simp only [allTo, Bool.and_eq_true] at h
    by_cases e : i = n
    · subst e; exact h.2
    · exact allTo_at h.1 i (by omega)
def bDs (c h w e k : Int) (x : Dat) : List Int := bHead c h w e k x.ls.length ++ bExs x x.ls.length
theorem bU8_len (v : Int) : (bU8 v).length = 1 := putK_len _ _ _
theorem bU16_len (v : Int) : (bU16 v).length = 2 := putK_len _ _ _
theorem wpL_len (l : List Int) (n wd : Int) : (wpL l n wd).length = l.length + wd.toNat := by simp [wpL, putK_len]
theorem bDat_len (D : List Int) : ∀ j, (bDat D j).length = j
  | 0 => rfl
  | j + 1 => by rw [bDat, List.length_append, bDat_len D j, bU8_len]
def encE (c h w e k : Int) (x : Dat) : Int := if mayDs c h w e k x = true then 0 else 1
def encEF (xa : List AV) : Int := match xa with
  | [.st [.st [.z c, .z h, .z w], .z e, .z k, .d x]] => encE c h w e k x
  | _ => 1
def encBF (xa : List AV) : List Int := match xa with
  | [.st [.st [.z c, .z h, .z w], .z e, .z k, .d x]] => bDs c h w e k x
  | _ => []
def encC (e : List AV → Int) (b : List AV → List Int) : FCtr := ⟨[dsTy], fun _ => none, fun xa => .ite (e xa = 0) (.ret (.tup [.iimm .u8 (b xa), .v (.int .i64 0)]) []) (.ret (.tup [.v (.slice none 0 0), .v (.int .i64 1)]) []), true⟩
theorem bExs_len {c h w e k : Int} {x : Dat} (hm : mayDs c h w e k x = true) : ∀ i : Nat, i ≤ x.ls.length → ((bExs x i).length : Int) = (i : Int) * (1 + c * h * w) ∧ (∀ q, q < i → ((exDat x q).length : Int) = c * h * w) := by
  unfold mayDs at hm
  rw [Bool.and_eq_true] at hm
  intro i
  induction i with
  | zero => intro _; exact ⟨by simp [bExs], fun q hq => absurd hq (Nat.not_lt_zero _)⟩
  | succ i ih =>
    intro hi
    obtain ⟨h1, h2⟩ := ih (by omega)
    have h3 := allTo_at hm.2 i (by omega)
    simp only [exB, decide_eq_true_eq] at h3
    have h4 : ((exDat x i).length : Int) = c * h * w := h3.1
    refine ⟨?_, fun q hq => ?_⟩
    · rw [bExs, List.length_append, List.length_append, bU8_len, bDat_len]
      push_cast
      rw [h1, h4, Int.add_mul, Int.one_mul]
      omega
    · by_cases e : q = i
      · subst e; exact h4
      · exact h2 q (by omega)
theorem bDs_small {c h w e k : Int} {x : Dat} (hm : mayDs c h w e k x = true) : x.ls.length ≤ 64 ∧ ∀ i : Nat, i ≤ x.ls.length → (bExs x i).length ≤ 131136 ∧ (i < x.ls.length → (exDat x i).length ≤ 2048) := by
  have hh := hm
  unfold mayDs at hh
  rw [Bool.and_eq_true] at hh
  obtain ⟨h1, h2, h3, _, _, h6⟩ := ex_hd hh.1
  have hc := chw_in h1 h2 h3
  generalize hs : c * h * w = s at hc
  refine ⟨by omega, fun i hi => ?_⟩
  obtain ⟨e1, e2⟩ := bExs_len hm i hi
  rw [hs] at e1
  have e3 : (i : Int) * (1 + s) ≤ 64 * (1 + 2048) := Int.mul_le_mul (by omega) (by omega) (by omega) (by omega)
  refine ⟨by omega, fun hlt => ?_⟩
  obtain ⟨_, e5⟩ := bExs_len hm (i + 1) (by omega)
  have e6 := e5 i (by omega)
  rw [hs] at e6
  omega
theorem enc22_ok : FOk Try.prog 14 (encC encEF encBF) := by
  obtain ⟨G, hG⟩ : ∃ G : List (FuncId × Ctr), G = [(16, boolC [dsTy] mayDsF)] := ⟨_, rfl⟩
  refine fn_inlFB (ck := true) [(66, mor wpMt (mrun (wpMt) (fun p => wpPre p.l p.wd) (wpX) (wpOs) (fun _ => [1])) (mrun (wpMtN) (fun p => wpPre [] p.wd) (wpX) (wpOsN) (fun _ => []))), (31, mfrz std (mor wbMt (mrun (wbMt) (fun p => wbPre p.l p.b) (wbX) (wbOs) (fun _ => [1])) (mrun (wbMtN) (fun p => wbPre [] p.b) (wbX) (wbOsE) (fun _ => [])))), (34, mor wyMt (mrun (wyMt) (fun p => wbPre p.l []) (wyX) (wyOs) (fun _ => [])) (mrun (wyMtN) (fun p => True) (wyXN) (wyOsN) (fun _ => [])))] (iok_cons (RunOk.up wput_ok) (iok_cons wrawF_ok (iok_cons (RunOk.up wbytes_ok) iok_nil))) [(32, Try.f32), (33, Try.f33)] ⟨⟨Try.func32, by unfold FnOk; kernel_rfl, by kernel_rfl⟩, ⟨Try.func33, by unfold FnOk; kernel_rfl, by kernel_rfl⟩, trivial⟩ Try.func14 rfl tt_ok (G := G) (by rw [hG]; exact ⟨⟨mayDs_ok, by unfold FnOk; kernel_rfl⟩, trivial⟩) mixed (by kernel_rfl) ?_
  intro xa xs h hx hp
  obtain ⟨a0, as0, x0, xs0, rfl, rfl, h0, H1⟩ := svArgs_cons h
  obtain ⟨rfl, rfl⟩ := svArgs_nil H1
  obtain ⟨dc, dh, dw, de, dk, dx, rfl, rfl⟩ := argSV_ds h0
  delta wbOs wbOsE wbX wpOs wpOsN wpX wyOs wyOsN wyX wyXN
  have sd : (-9223372036854775808 ≤ dc ∧ dc ≤ 9223372036854775807) ∧ (-9223372036854775808 ≤ dh ∧ dh ≤ 9223372036854775807) ∧ (-9223372036854775808 ≤ dw ∧ dw ≤ 9223372036854775807) ∧ (-9223372036854775808 ≤ de ∧ de ≤ 9223372036854775807) ∧ (-9223372036854775808 ≤ dk ∧ dk ≤ 9223372036854775807) ∧ ((ci dx.ls.length ≤ 9223372036854775807) ∧ Wt (.sl exTy) dx) := svf_ds (hx (.agg [.v (.int .i64 dc), .v (.int .i64 dh), .v (.int .i64 dw), .v (.int .i64 de), .v (.int .i64 dk), .imm exTy dx]) (List.mem_of_getElem? (i := 0) rfl))
  have SD := Lib.hid sd
  clear sd
  clear hx hp h h0 H1
  generalize hA : std = A
  subst hG
  generalize h_c : ci = c
  generalize h_fM : mayDsF = fM
  generalize h_fE : encEF = fE
  generalize h_fB : encBF = fB
  generalize h_fL : wpL = fL
  generalize h_fp : wpPre = fp
  generalize h_fb : wbPre = fb
  generalize h_fW : wbL = fW
  obtain ⟨S, hS⟩ : ∃ S : Nat → List Int, ∀ j, S j = bMark ++ b3 dc dh dw j := ⟨_, fun _ => rfl⟩
  obtain ⟨T, hT⟩ : ∃ T : Nat → List Int, ∀ i, T i = bHead dc dh dw de dk dx.ls.length ++ bExs dx i := ⟨_, fun _ => rfl⟩
  obtain ⟨U, hU⟩ : ∃ U : Nat → Nat → List Int, ∀ i j, U i j = T i ++ bU8 (exLab dx i) ++ bDat (exDat dx i) j := ⟨_, fun _ _ => rfl⟩
  have HS := Lib.hid hS
  have HT := Lib.hid hT
  have HU := Lib.hid hU
  clear hS hT hU
  cbv
  (repeat' (first | apply And.intro | apply BrB.mk | apply BrP.mk | intro _))
  (all_goals try (exfalso; (subst hA; subst h_c; subst h_fM; subst h_fE; subst h_fB; subst h_fL; subst h_fp; subst h_fb; subst h_fW); (try simp only [std, stdBin, stdCmp, stdUna, stdIn, ci, beq_iff_eq, bne_iff_ne, beq_eq_false_iff_ne, bne_eq_false_iff_eq, decide_eq_true_eq, decide_eq_false_iff_not, Bool.not_true, Bool.not_false, Bool.not_eq_true', Bool.not_eq_false', Bool.not_not, tn0, tn1, tn2, tn3] at *); first | omega | contradiction))
  all_goals try (refine loop_at Nat 19 (fun j => [(6, .any), (19, match j with | 0 => .v (.int .i64 0) | 1 => .v (.int .i64 1) | 2 => .v (.int .i64 2) | _ => .v (.int .i64 3))]) (fun j o => o.set 3 (.irow 5 .u8 (S j))) (fun j => j ≤ 3) (fun j => 3 - j) 0 (by decide) ?hle ?round)
  case hle =>
    cbv
    (repeat' (first | apply And.intro | apply BrB.mk | apply BrP.mk | intro _))
    (all_goals (subst hA; subst h_c; subst h_fM; subst h_fE; subst h_fB; subst h_fL; subst h_fp; subst h_fb; subst h_fW); all_goals (have f_sd := SD.out); all_goals (try simp only [std, stdBin, stdCmp, stdUna, stdIn, ci, beq_iff_eq, bne_iff_ne, beq_eq_false_iff_ne, bne_eq_false_iff_eq, decide_eq_true_eq, decide_eq_false_iff_not, Bool.not_true, Bool.not_false, Bool.not_eq_true', Bool.not_eq_false', Bool.not_not, tn0, tn1, tn2, tn3] at *); all_goals (try omega))
    all_goals (have s1 := HS.out 0)
    all_goals first
      | exact True.intro
      | rfl
      | (rw [s1]; rfl)
      | trace_state
  case round =>
    rintro (_ | _ | _ | _ | j) hj
    · cbv
      (repeat' (first | apply And.intro | apply BrB.mk | apply BrP.mk | intro _))
      (all_goals try (exfalso; (subst hA; subst h_c; subst h_fM; subst h_fE; subst h_fB; subst h_fL; subst h_fp; subst h_fb; subst h_fW); (try simp only [std, stdBin, stdCmp, stdUna, stdIn, ci, beq_iff_eq, bne_iff_ne, beq_eq_false_iff_ne, bne_eq_false_iff_eq, decide_eq_true_eq, decide_eq_false_iff_not, Bool.not_true, Bool.not_false, Bool.not_eq_true', Bool.not_eq_false', Bool.not_not, tn0, tn1, tn2, tn3] at *); first | omega | contradiction))
      all_goals try (refine ⟨1, ?_, ?_, ?_⟩)
      all_goals try (show AS.le _ _; cbv; (repeat' (first | apply And.intro | apply BrB.mk | apply BrP.mk | intro _)))
      (all_goals (subst hA; subst h_c; subst h_fM; subst h_fE; subst h_fB; subst h_fL; subst h_fp; subst h_fb; subst h_fW); all_goals (have f_sd := SD.out); all_goals (try simp only [std, stdBin, stdCmp, stdUna, stdIn, ci, beq_iff_eq, bne_iff_ne, beq_eq_false_iff_ne, bne_eq_false_iff_eq, decide_eq_true_eq, decide_eq_false_iff_not, Bool.not_true, Bool.not_false, Bool.not_eq_true', Bool.not_eq_false', Bool.not_not, tn0, tn1, tn2, tn3] at *); all_goals (try omega))
      all_goals (have s1 := HS.out 0; have s2 := HS.out 1)
      all_goals first
        | exact True.intro
        | rfl
        | exact ⟨⟨by decide, by decide⟩, by show ((S 0).length : Int) ≤ 140737488355300; rw [s1]; simp [bMark, b3, bU8_len]⟩
        | (show _ ++ putK _ 1 1 = S 1; rw [s2]; (try rw [s1]); simp [b3, bU8])
        | trace_state
    · cbv
      (repeat' (first | apply And.intro | apply BrB.mk | apply BrP.mk | intro _))
      (all_goals try (exfalso; (subst hA; subst h_c; subst h_fM; subst h_fE; subst h_fB; subst h_fL; subst h_fp; subst h_fb; subst h_fW); (try simp only [std, stdBin, stdCmp, stdUna, stdIn, ci, beq_iff_eq, bne_iff_ne, beq_eq_false_iff_ne, bne_eq_false_iff_eq, decide_eq_true_eq, decide_eq_false_iff_not, Bool.not_true, Bool.not_false, Bool.not_eq_true', Bool.not_eq_false', Bool.not_not, tn0, tn1, tn2, tn3] at *); first | omega | contradiction))
      all_goals try (refine ⟨2, ?_, ?_, ?_⟩)
      all_goals try (show AS.le _ _; cbv; (repeat' (first | apply And.intro | apply BrB.mk | apply BrP.mk | intro _)))
      (all_goals (subst hA; subst h_c; subst h_fM; subst h_fE; subst h_fB; subst h_fL; subst h_fp; subst h_fb; subst h_fW); all_goals (have f_sd := SD.out); all_goals (try simp only [std, stdBin, stdCmp, stdUna, stdIn, ci, beq_iff_eq, bne_iff_ne, beq_eq_false_iff_ne, bne_eq_false_iff_eq, decide_eq_true_eq, decide_eq_false_iff_not, Bool.not_true, Bool.not_false, Bool.not_eq_true', Bool.not_eq_false', Bool.not_not, tn0, tn1, tn2, tn3] at *); all_goals (try omega))
      all_goals (have s1 := HS.out 1; have s2 := HS.out 2)
      all_goals first
        | exact True.intro
        | rfl
        | exact ⟨⟨by decide, by decide⟩, by show ((S 1).length : Int) ≤ 140737488355300; rw [s1]; simp [bMark, b3, bU8_len]⟩
        | (show _ ++ putK _ 1 1 = S 2; rw [s2]; (try rw [s1]); simp [b3, bU8])
        | trace_state
    · cbv
      (repeat' (first | apply And.intro | apply BrB.mk | apply BrP.mk | intro _))
      (all_goals try (exfalso; (subst hA; subst h_c; subst h_fM; subst h_fE; subst h_fB; subst h_fL; subst h_fp; subst h_fb; subst h_fW); (try simp only [std, stdBin, stdCmp, stdUna, stdIn, ci, beq_iff_eq, bne_iff_ne, beq_eq_false_iff_ne, bne_eq_false_iff_eq, decide_eq_true_eq, decide_eq_false_iff_not, Bool.not_true, Bool.not_false, Bool.not_eq_true', Bool.not_eq_false', Bool.not_not, tn0, tn1, tn2, tn3] at *); first | omega | contradiction))
      all_goals try (refine ⟨3, ?_, ?_, ?_⟩)
      all_goals try (show AS.le _ _; cbv; (repeat' (first | apply And.intro | apply BrB.mk | apply BrP.mk | intro _)))
      (all_goals (subst hA; subst h_c; subst h_fM; subst h_fE; subst h_fB; subst h_fL; subst h_fp; subst h_fb; subst h_fW); all_goals (have f_sd := SD.out); all_goals (try simp only [std, stdBin, stdCmp, stdUna, stdIn, ci, beq_iff_eq, bne_iff_ne, beq_eq_false_iff_ne, bne_eq_false_iff_eq, decide_eq_true_eq, decide_eq_false_iff_not, Bool.not_true, Bool.not_false, Bool.not_eq_true', Bool.not_eq_false', Bool.not_not, tn0, tn1, tn2, tn3] at *); all_goals (try omega))
      all_goals (have s1 := HS.out 2; have s2 := HS.out 3)
      all_goals first
        | exact True.intro
        | rfl
        | exact ⟨⟨by decide, by decide⟩, by show ((S 2).length : Int) ≤ 140737488355300; rw [s1]; simp [bMark, b3, bU8_len]⟩
        | (show _ ++ putK _ 1 1 = S 3; rw [s2]; (try rw [s1]); simp [b3, bU8])
        | trace_state
    · cbv
      (repeat' (first | apply And.intro | apply BrB.mk | apply BrP.mk | intro _))
      (all_goals try (exfalso; (subst hA; subst h_c; subst h_fM; subst h_fE; subst h_fB; subst h_fL; subst h_fp; subst h_fb; subst h_fW); (try simp only [std, stdBin, stdCmp, stdUna, stdIn, ci, beq_iff_eq, bne_iff_ne, beq_eq_false_iff_ne, bne_eq_false_iff_eq, decide_eq_true_eq, decide_eq_false_iff_not, Bool.not_true, Bool.not_false, Bool.not_eq_true', Bool.not_eq_false', Bool.not_not, tn0, tn1, tn2, tn3] at *); first | omega | contradiction))
      all_goals try (refine loop_at Nat 38 (fun x => [(8, .any), (10, .any), (38, .v (.int .i64 (c x)))]) (fun x o => o.set 3 (.irow 5 .u8 (T x))) (fun x => x ≤ dx.ls.length) (fun x => dx.ls.length - x) 0 (Nat.zero_le _) ?_ ?_
                     focus
                       show AS.le _ _
                       cbv
                       (repeat' (first | apply And.intro | apply BrB.mk | apply BrP.mk | intro _))
                       (all_goals (subst hA; subst h_c; subst h_fM; subst h_fE; subst h_fB; subst h_fL; subst h_fp; subst h_fb; subst h_fW); all_goals (have f_sd := SD.out); all_goals (try simp only [std, stdBin, stdCmp, stdUna, stdIn, ci, beq_iff_eq, bne_iff_ne, beq_eq_false_iff_ne, bne_eq_false_iff_eq, decide_eq_true_eq, decide_eq_false_iff_not, Bool.not_true, Bool.not_false, Bool.not_eq_true', Bool.not_eq_false', Bool.not_not, tn0, tn1, tn2, tn3] at *); all_goals (try omega))
                       all_goals (have s1 := HS.out 3; have t1 := HT.out 0)
                       all_goals first
                         | exact True.intro
                         | (show S 3 ++ putK _ 1 1 ++ putK _ 1 1 ++ putK _ 2 2 = T 0; rw [t1, s1]; simp [bHead, bExs, bU8, bU16]; done)
                         | rfl
                         | trace_state
                       done)
      all_goals try (intro x hx; cbv; (repeat' (first | apply And.intro | apply BrB.mk | apply BrP.mk | intro _)))
      (all_goals try (exfalso; (subst hA; subst h_c; subst h_fM; subst h_fE; subst h_fB; subst h_fL; subst h_fp; subst h_fb; subst h_fW); (try simp only [std, stdBin, stdCmp, stdUna, stdIn, ci, beq_iff_eq, bne_iff_ne, beq_eq_false_iff_ne, bne_eq_false_iff_eq, decide_eq_true_eq, decide_eq_false_iff_not, Bool.not_true, Bool.not_false, Bool.not_eq_true', Bool.not_eq_false', Bool.not_not, tn0, tn1, tn2, tn3] at *); first | omega | contradiction))
      all_goals try (refine loop_at Nat 48 (fun y => [(10, .any), (48, .v (.int .i64 (c y)))]) (fun y o => o.set 3 (.irow 5 .u8 (U x y))) (fun y => y ≤ (exDat dx x).length) (fun y => (exDat dx x).length - y) 0 (Nat.zero_le _) ?_ ?_
                     focus
                       show AS.le _ _
                       cbv
                       (repeat' (first | apply And.intro | apply BrB.mk | apply BrP.mk | intro _))
                       (all_goals (subst hA; subst h_c; subst h_fM; subst h_fE; subst h_fB; subst h_fL; subst h_fp; subst h_fb; subst h_fW); all_goals (have f_sd := SD.out); all_goals (try simp only [std, stdBin, stdCmp, stdUna, stdIn, ci, beq_iff_eq, bne_iff_ne, beq_eq_false_iff_ne, bne_eq_false_iff_eq, decide_eq_true_eq, decide_eq_false_iff_not, Bool.not_true, Bool.not_false, Bool.not_eq_true', Bool.not_eq_false', Bool.not_not, tn0, tn1, tn2, tn3] at *); all_goals (try omega))
                       all_goals (have t1 := HU.out x 0)
                       all_goals first
                         | exact True.intro
                         | rfl
                         | (rw [t1]; simp only [bDat, List.append_nil]; rfl)
                         | trace_state
                       done)
      all_goals try (intro y hy; cbv; refine BrB.mk (fun gq => ?_) (fun gq => ?_))
      all_goals (repeat' (first | apply And.intro | apply BrB.mk | apply BrP.mk | intro _))
      (all_goals try (exfalso; (subst hA; subst h_c; subst h_fM; subst h_fE; subst h_fB; subst h_fL; subst h_fp; subst h_fb; subst h_fW); (try simp only [std, stdBin, stdCmp, stdUna, stdIn, ci, beq_iff_eq, bne_iff_ne, beq_eq_false_iff_ne, bne_eq_false_iff_eq, decide_eq_true_eq, decide_eq_false_iff_not, Bool.not_true, Bool.not_false, Bool.not_eq_true', Bool.not_eq_false', Bool.not_not, tn0, tn1, tn2, tn3] at *); first | omega | contradiction))
      all_goals try (have _ : _ = true := gq; refine ⟨y + 1, ?_, ?_, ?_⟩)
      all_goals try (have _ : _ = false := gq; refine ⟨x + 1, ?_, ?_, ?_⟩)
      all_goals try (show AS.le _ _; cbv; (repeat' (first | apply And.intro | apply BrB.mk | apply BrP.mk | intro _)))
      (all_goals (subst hA; subst h_c; subst h_fM; subst h_fE; subst h_fB; subst h_fL; subst h_fp; subst h_fb; subst h_fW); all_goals (have f_sd := SD.out); all_goals (try simp only [std, stdBin, stdCmp, stdUna, stdIn, ci, beq_iff_eq, bne_iff_ne, beq_eq_false_iff_ne, bne_eq_false_iff_eq, decide_eq_true_eq, decide_eq_false_iff_not, Bool.not_true, Bool.not_false, Bool.not_eq_true', Bool.not_eq_false', Bool.not_not, tn0, tn1, tn2, tn3, encE, encEF, encBF, mayDsF, Int.toNat_natCast] at *); all_goals (try omega))
      all_goals (have t1 := HT.out; have u1 := HU.out; have s1 := HS.out)
      all_goals (have hm : mayDs dc dh dw de dk dx = true := (by assumption))
      all_goals (have hs3 : (S 3).length = 7 := (by rw [s1]; simp [bMark, b3, bU8_len]))
      all_goals (have hsm := bDs_small hm)
      all_goals (have hTl : ∀ i : Nat, i ≤ dx.ls.length → (T i).length ≤ 131200 := fun i hi => (by rw [t1]; have := (hsm.2 i hi).1; simp only [bHead, List.length_append, bU8_len, bU16_len, b3]; simp [bMark]; omega))
      all_goals first
        | exact True.intro
        | exact ⟨⟨by decide, by decide⟩, by simp only [wpL_len, hs3]; decide⟩
        | (have hT1 := hTl x hx; refine ⟨⟨by decide, by decide⟩, ?_⟩; show ((T x).length : Int) ≤ 140737488355300; omega)
        | (have hT1 := hTl x hx; show ((T x).length : Int) + (([] : List Int).length : Int) ≤ 140737488355328; simp only [List.length_nil]; omega)
        | (exfalso; simp_all; done)
        | (have e : x = dx.ls.length := (by omega); subst e; rw [t1]; rfl)
        | (have hx1 : x < dx.ls.length := (by omega)
           have hT1 := hTl x hx
           have hD := (hsm.2 x hx).2 hx1
           have hdl : ((exDat dx x).length : Int) = ((((dx.at x).fld 0).ints.length : Nat) : Int) := rfl
           have hUl : (U x y).length ≤ 140000 := (by rw [u1]; simp only [List.length_append, bU8_len, bDat_len]; omega)
           first
             | exact True.intro
             | omega
             | (refine ⟨⟨by decide, by decide⟩, ?_⟩; show ((U x y).length : Int) ≤ 140737488355300; omega)
             | (show U x y ++ putK _ 1 1 = U x (y + 1); rw [u1 x (y + 1), u1 x y]; simp only [bDat, bU8, List.append_assoc]; rfl)
             | exact congrArg (Value.int .i64) (by omega)
             | (show U x y = T (x + 1); have e : y = (exDat dx x).length := (by omega); rw [u1, t1, t1, e]; simp only [bExs, List.append_assoc]; done)
             | trace_state)
        | trace_state
    · omega
  (all_goals (subst hA; subst h_c; subst h_fM; subst h_fE; subst h_fB; subst h_fL; subst h_fp; subst h_fb; subst h_fW); all_goals (have f_sd := SD.out); all_goals (try simp only [std, stdBin, stdCmp, stdUna, stdIn, ci, beq_iff_eq, bne_iff_ne, beq_eq_false_iff_ne, bne_eq_false_iff_eq, decide_eq_true_eq, decide_eq_false_iff_not, Bool.not_true, Bool.not_false, Bool.not_eq_true', Bool.not_eq_false', Bool.not_not, tn0, tn1, tn2, tn3, encE, encEF, encBF, mayDsF] at *); all_goals (try omega))
  all_goals first
    | exact True.intro
    | (show ((([] : List Int).length : Int) + (([112, 100, 100, 115] : List Int).length : Int)) ≤ 140737488355328; decide)
    | (exfalso; simp_all; done)
    | trace_state
end Go.Proofs.Ytmlfiphpcjkadaa
/- Layer 22: an example, read. -/
namespace Go.Proofs.Ytmlfiphpcjkadaa
open Go.RowKit
set_option maxRecDepth 1000000
set_option linter.unusedSimpArgs false
set_option linter.unusedVariables false
set_option maxHeartbeats 16000000
set_option cbv.maxSteps 10000000
def xaA (a n e wd : Int) : Int := rwA (rdA a n e 1) (rdN n e 1) (rdE n e 1) wd
def xaN (n e wd : Int) : Int := rwN (rdN n e 1) (rdE n e 1) wd
def xaE (n e wd : Int) : Int := rwE (rdN n e 1) (rdE n e 1) wd
def xaR (l : List Int) (a n e wd : Int) : List Int := rwL l (rdA a n e 1) (rdN n e 1) (rdE n e 1) wd
def i8L (l : List Int) : List Int := l.map fun v => IntKind.i8.wrap v
def xaL (l : List Int) (a n e wd : Int) : List Int := i8L (xaR l a n e wd)
def xaV (l : List Int) (a n e : Int) : Int := IntKind.i64.wrap (rdV l a n e 1)
def xaOs (p : RdP) : List SO := [.cells 93 [.sub 1 (xaA p.a p.n p.e p.wd) (xaN p.n p.e p.wd), .v (.int .i64 (xaE p.n p.e p.wd))], .irow 5 .u8 p.l, .gone, .gone, .gone, .irow 42 .i8 (xaL p.l p.a p.n p.e p.wd)]
def xaX (p : RdP) : SV := .agg [.hdl 5, .v (.int .i64 (xaV p.l p.a p.n p.e))]
theorem rwL_len {l : List Int} {a n e wd M : Int} (h : n ≤ M) (h0 : 0 ≤ M) : ((rwL l a n e wd).length : Int) ≤ M := by
  unfold rwL
  split
  · rename_i hc
    show ((List.take wd.toNat (List.drop a.toNat l)).length : Int) ≤ M
    have := List.length_take_le wd.toNat (List.drop a.toNat l)
    omega
  · exact h0
theorem rdN_le {n e wd : Int} (h0 : 0 ≤ n) (h : 0 ≤ wd) : rdN n e wd ≤ n := by unfold rdN; repeat' split <;> omega
def nnI (n : Int) : Prop := 0 ≤ n
theorem example_mth : RunOk Try.prog false 49 (mrun (rdMt) (fun p => smI p.n ∧ nnI p.n) (xaX) (xaOs) (fun _ => [])) := by
  obtain ⟨G, hG⟩ : ∃ G : List (FuncId × Ctr), G = [] := ⟨_, rfl⟩
  refine mth_ok (ck := false) [(71, mrun (rdMt) (fun p => pw8 p.wd) (rdX) (rdOs) (fun _ => [])), (45, mrun (rdMt) (fun p => smI p.n) (rwX) (rwOs) (fun _ => []))] (iok_cons (RunOk.up get_mth) (iok_cons (RunOk.up raw_mth) iok_nil)) [(47, Try.f47)] ⟨⟨Try.func47, by unfold FnOk; kernel_rfl, by kernel_rfl⟩, trivial⟩ (by unfold FnOk; kernel_rfl) Try.func49 rfl tt_ok (G := G) (by rw [hG]; exact trivial) mixed (by kernel_rfl) (rdArgs) (rdOs0) [] [] rfl (fun _ => by simp [rdOs0]) rdMt_ok ?_
  intro p hp hs
  obtain ⟨l, a, n, e, wd⟩ := p
  obtain ⟨g, r, w, us, h1, h2⟩ := hs
  have HS := Lib.hid (rd_facts h2)
  have hp : n ≤ 140737488355328 ∧ 0 ≤ n := hp
  have HP := Lib.hid hp
  clear hp h1 h2
  dsimp only [rdArgs, rdOs0, xaOs, xaX] at *
  delta rdOs rdX rwOs rwX
  generalize hA : std = A
  subst hG
  generalize h_c : ci = c
  generalize h_fV : rdV = fV
  generalize h_fA : rdA = fA
  generalize h_fN : rdN = fN
  generalize h_fE : rdE = fE
  generalize h_gA : rwA = gA
  generalize h_gN : rwN = gN
  generalize h_gE : rwE = gE
  generalize h_gL : rwL = gL
  generalize h_xA : xaA = xA
  generalize h_xN : xaN = xN
  generalize h_xE : xaE = xE
  generalize h_xL : xaL = xL
  generalize h_xV : xaV = xV
  generalize h_fp : pw8 = fp
  generalize h_fs : smI = fs
  obtain ⟨S, hS⟩ : ∃ S : Nat → List Int, ∀ j, S j = i8L ((xaR l a n e wd).take j) := ⟨_, fun _ => rfl⟩
  have HSS := Lib.hid hS
  clear hS
  cbv
  (repeat' (first | apply And.intro | apply BrB.mk | apply BrP.mk | intro _))
  all_goals try (refine loop_nil [.cell 3 0 42 .i8] Nat 15 (fun j => [(7, .any), (15, .v (.int .i64 (c j)))]) (fun j o => o.set 5 (.irow 42 .i8 (S j))) (fun j => j ≤ (xaR l a n e wd).length) (fun j => (xaR l a n e wd).length - j) 0 ?h0 ?hle ?round)
  case h0 => exact Nat.zero_le _
  case hle =>
    cbv
    (repeat' (first | apply And.intro | apply BrB.mk | apply BrP.mk | intro _))
    (all_goals (subst hA; subst h_c; subst h_fV; subst h_fA; subst h_fN; subst h_fE; subst h_gA; subst h_gN; subst h_gE; subst h_gL; subst h_xA; subst h_xN; subst h_xE; subst h_xL; subst h_xV; subst h_fp; subst h_fs); all_goals (have f_hs := HS.out; have f_hp := HP.out); all_goals (try simp only [std, stdBin, stdCmp, stdUna, stdIn, ci, beq_iff_eq, bne_iff_ne, beq_eq_false_iff_ne, bne_eq_false_iff_eq, decide_eq_true_eq, decide_eq_false_iff_not, Bool.not_true, Bool.not_false, Bool.not_eq_true', Bool.not_eq_false', Bool.not_not, tn0, tn1, tn2, tn3] at *); all_goals (try omega))
    all_goals (have s0 := HSS.out 0)
    all_goals first
      | exact True.intro
      | rfl
      | (rw [s0]; rfl)
      | trace_state
  case round =>
    intro j hj
    cbv
    (repeat' (first | apply And.intro | apply BrB.mk | apply BrP.mk | intro _))
    all_goals try (refine ⟨j + 1, ?_, ?_, ?_⟩)
    all_goals try (show AS.le _ _; cbv; (repeat' (first | apply And.intro | apply BrB.mk | apply BrP.mk | intro _)))
    (all_goals (subst hA; subst h_c; subst h_fV; subst h_fA; subst h_fN; subst h_fE; subst h_gA; subst h_gN; subst h_gE; subst h_gL; subst h_xA; subst h_xN; subst h_xE; subst h_xL; subst h_xV; subst h_fp; subst h_fs); all_goals (have f_hs := HS.out; have f_hp := HP.out); all_goals (try simp only [std, stdBin, stdCmp, stdUna, stdIn, ci, beq_iff_eq, bne_iff_ne, beq_eq_false_iff_ne, bne_eq_false_iff_eq, decide_eq_true_eq, decide_eq_false_iff_not, Bool.not_true, Bool.not_false, Bool.not_eq_true', Bool.not_eq_false', Bool.not_not, tn0, tn1, tn2, tn3, Int.toNat_natCast] at *); all_goals (try omega))
    all_goals (have s1 := HSS.out; have hj' : j ≤ (xaR l a n e wd).length := hj; have hR : xaR l a n e wd = rwL l (rdA a n e 1) (rdN n e 1) (rdE n e 1) wd := rfl; have hl0 : ((xaR l a n e wd).length : Int) ≤ n := (by rw [hR]; exact rwL_len (rdN_le f_hp.2 (by decide)) f_hp.2); have hl1 : (S j).length = j := (by rw [s1]; simp only [i8L, List.length_map, List.length_take]; omega); have hR3 : (rwL l (rdA a n e 1) (rdN n e 1) (rdE n e 1) wd).length = (xaR l a n e wd).length := rfl)
    all_goals first
      | exact True.intro
      | omega
      | (have hlt : j < (xaR l a n e wd).length := (by omega)
         first
           | omega
           | (rw [w64 (by omega) (by omega)]; exact congrArg (Value.int .i64) (by omega))
           | (simp only [List.length_singleton, hl1]; omega)
           | (show _ = S (j + 1); rw [s1, s1, take_getD _ _ hlt, i8L, i8L, List.map_append]; rfl))
      | (show S j = i8L (xaR l a n e wd); have e1 : j = (xaR l a n e wd).length := (by omega); rw [s1, e1, List.take_length])
      | (show Value.int .i64 _ = Value.int .i64 _; exact congrArg (Value.int .i64) rfl)
      | (show _ = xaA a n e wd; rfl)
      | (show _ = xaN n e wd; rfl)
      | trace_state
  (all_goals (subst hA; subst h_c; subst h_fV; subst h_fA; subst h_fN; subst h_fE; subst h_gA; subst h_gN; subst h_gE; subst h_gL; subst h_xA; subst h_xN; subst h_xE; subst h_xL; subst h_xV; subst h_fp; subst h_fs); all_goals (have f_hs := HS.out; have f_hp := HP.out); all_goals (try simp only [std, stdBin, stdCmp, stdUna, stdIn, ci, beq_iff_eq, bne_iff_ne, beq_eq_false_iff_ne, bne_eq_false_iff_eq, decide_eq_true_eq, decide_eq_false_iff_not, Bool.not_true, Bool.not_false, Bool.not_eq_true', Bool.not_eq_false', Bool.not_not, tn0, tn1, tn2, tn3] at *); all_goals (try omega))
  all_goals first
    | exact True.intro
    | exact ⟨by decide, by decide⟩
    | (show rdN n e 1 ≤ 140737488355328; have := rdN_le (n := n) (e := e) (wd := 1) f_hp.2 (by decide); omega)
    | trace_state
def reMt (args : List SV) (ob : Nat → SO) : Option (RdP × List Nat) := match args with
  | [.ptr i o] => match o with
    | 0 => match ob i with
      | .cells t [.sub j a n, .v (.int .i64 e)] => match Nat.beq t 93 with
        | true => match ob j with
          | .irow E .u8 l => match Nat.beq E 5 with
            | true => some (⟨l, a, n, e, 0⟩, [i, j])
            | false => none
          | _ => none
        | false => none
      | _ => none
    | _ + 1 => none
  | _ => none
def reArgs (p : RdP) : List SV := [.ptr 0 0]
def shB (e : Int) : Bool := decide (e = 4)
def shX (p : RdP) : SV := .v (.bool (shB p.e))
def endI (n e : Int) : Int := if e = 0 ∧ n > 0 then 5 else e
def endX (p : RdP) : SV := .v (.int .i64 (endI p.n p.e))
theorem reMt_ok (args : List SV) (ob : Nat → SO) (p : RdP) (ms : List Nat) (h : reMt args ob = some (p, ms)) : MtOk reMt reArgs rdOs0 args ob p ms := by
  unfold reMt at h
  split at h
  · rename_i i o
    cases o with
    | succ o => simp only at h; cases h
    | zero =>
    simp only at h
    split at h
    · rename_i t j a n e hi
      cases ht : Nat.beq t 93 with
      | false => rw [ht] at h; cases h
      | true =>
        rw [ht] at h
        have ht := Nat.eq_of_beq_eq_true ht
        subst ht
        simp only at h
        split at h
        · rename_i E l hj
          cases hE : Nat.beq E 5 with
          | false => rw [hE] at h; cases h
          | true =>
            rw [hE] at h
            have hE := Nat.eq_of_beq_eq_true hE
            subst hE
            cases h
            have hij : i ≠ j := by
              intro e
              subst e
              rw [hi] at hj
              cases hj
            refine ⟨fun n => rfl, rfl, fun n k hk => ?_, fun k hk => ?_, fun k hk => ?_⟩
            · match k, hk with
              | 0, _ => exact hi
              | 1, _ => exact hj
            · match k, hk with
              | 0, _ => simp [rdOs0]
              | 1, _ => simp [rdOs0]
            · match k, hk with
              | 0, _ => simp [lookI]
              | 1, _ =>
                have : Nat.beq i j = false := by
                  cases hb : Nat.beq i j with
                  | false => rfl
                  | true => exact absurd (Nat.eq_of_beq_eq_true hb) hij
                simp [lookI, this]
        · cases h
    · cases h
  · cases h
theorem short_mth : RunOk Try.prog false 46 (mrun (reMt) (fun _ => True) (shX) (rdOs0) (fun _ => [])) := by
  obtain ⟨G, hG⟩ : ∃ G : List (FuncId × Ctr), G = [] := ⟨_, rfl⟩
  refine mth_ok (ck := false) [] iok_nil [(51, Try.f51)] ⟨⟨Try.func51, by unfold FnOk; kernel_rfl, by kernel_rfl⟩, trivial⟩ (by unfold FnOk; kernel_rfl) Try.func46 rfl tt_ok (G := G) (by rw [hG]; exact trivial) mixed (by kernel_rfl) (reArgs) (rdOs0) [] [] rfl (fun _ => by simp [rdOs0]) reMt_ok ?_
  intro p hp hs
  obtain ⟨l, a, n, e, wd⟩ := p
  obtain ⟨g, r, w, us, h1, h2⟩ := hs
  have HS := Lib.hid True.intro
  have HP := Lib.hid True.intro
  clear hp h1 h2
  dsimp only [reArgs, rdOs0, shX] at *
  generalize hA : std = A
  subst hG
  generalize h_c : ci = c
  generalize h_fS : shB = fS
  cbv
  (repeat' (first | apply And.intro | apply BrB.mk | apply BrP.mk | intro _))
  (all_goals (subst hA; subst h_c; subst h_fS); all_goals (have f_hs := HS.out; have f_hp := HP.out); all_goals (try simp only [std, stdBin, stdCmp, stdUna, stdIn, ci, beq_iff_eq, bne_iff_ne, beq_eq_false_iff_ne, bne_eq_false_iff_eq, decide_eq_true_eq, decide_eq_false_iff_not, Bool.not_true, Bool.not_false, Bool.not_eq_true', Bool.not_eq_false', Bool.not_not, tn0, tn1, tn2, tn3, shB] at *); all_goals (try omega))
  all_goals first
    | exact True.intro
    | rfl
    | (refine vb ?_; simp_all; done)
    | (refine vb ?_; rw [decide_eq_decide]; omega)
    | trace_state
theorem end_mth : RunOk Try.prog false 51 (mrun (reMt) (fun _ => True) (endX) (rdOs0) (fun _ => [])) := by
  obtain ⟨G, hG⟩ : ∃ G : List (FuncId × Ctr), G = [] := ⟨_, rfl⟩
  refine mth_ok (ck := false) [] iok_nil [] trivial (by unfold FnOk; kernel_rfl) Try.func51 rfl tt_ok (G := G) (by rw [hG]; exact trivial) mixed (by kernel_rfl) (reArgs) (rdOs0) [] [] rfl (fun _ => by simp [rdOs0]) reMt_ok ?_
  intro p hp hs
  obtain ⟨l, a, n, e, wd⟩ := p
  obtain ⟨g, r, w, us, h1, h2⟩ := hs
  have HS := Lib.hid True.intro
  have HP := Lib.hid True.intro
  clear hp h1 h2
  dsimp only [reArgs, rdOs0, endX] at *
  generalize hA : std = A
  subst hG
  generalize h_c : ci = c
  generalize h_fS : endI = fS
  cbv
  (repeat' (first | apply And.intro | apply BrB.mk | apply BrP.mk | intro _))
  (all_goals (subst hA; subst h_c; subst h_fS); all_goals (have f_hs := HS.out; have f_hp := HP.out); all_goals (try simp only [std, stdBin, stdCmp, stdUna, stdIn, ci, beq_iff_eq, bne_iff_ne, beq_eq_false_iff_ne, bne_eq_false_iff_eq, decide_eq_true_eq, decide_eq_false_iff_not, Bool.not_true, Bool.not_false, Bool.not_eq_true', Bool.not_eq_false', Bool.not_not, tn0, tn1, tn2, tn3, endI] at *); all_goals (try omega))
  all_goals first
    | exact True.intro
    | (refine congrArg (Value.int .i64) ?_; split <;> omega)
    | trace_state
end Go.Proofs.Ytmlfiphpcjkadaa
