/- Layer 24: bytes, part by part. -/
import Derived.Test.YtekokhlldcmjfaaCdD
namespace Go.Proofs.Ytekokhlldcmjfaa
open Go.RowKit
set_option maxRecDepth 1000000
set_option linter.unusedSimpArgs false
set_option linter.unusedVariables false
set_option maxHeartbeats 16000000
set_option cbv.maxSteps 10000000
structure Bx (p : Prop) : Prop where
  out : p
structure FmP where
  l : List Int
  a : Int
  n : Int
  e : Int
  m : Bool
def fmMt (args : List SV) (ob : Nat → SO) : Option (FmP × List Nat) := match args with
  | [.ptr i o, .v (.bool m)] => match o with
    | 0 => match ob i with
      | .cells t [.sub j a n, .v (.int .i64 e)] => match Nat.beq t 141 with
        | true => match ob j with
          | .irow E .u8 l => match Nat.beq E 5 with
            | true => some (⟨l, a, n, e, m⟩, [i, j])
            | false => none
          | _ => none
        | false => none
      | _ => none
    | _ + 1 => none
  | _ => none
def fmArgs (p : FmP) : List SV := [.ptr 0 0, .v (.bool p.m)]
def fmOs0 (p : FmP) : List SO := [.cells 141 [.sub 1 p.a p.n, .v (.int .i64 p.e)], .irow 5 .u8 p.l]
def formI (e : Int) (m : Bool) : Int := if e = 4 then 4 else if m = true then 0 else 5
def fmX (p : FmP) : SV := .v (.int .i64 (formI p.e p.m))
theorem fmMt_ok (args : List SV) (ob : Nat → SO) (p : FmP) (ms : List Nat) (h : fmMt args ob = some (p, ms)) : MtOk fmMt fmArgs fmOs0 args ob p ms := by
  unfold fmMt at h
  split at h
  · rename_i i o m
    cases o with
    | succ o => simp only at h; cases h
    | zero =>
    simp only at h
    split at h
    · rename_i t j a n e hi
      cases ht : Nat.beq t 141 with
      | false => rw [ht] at h; cases h
      | true =>
        rw [ht] at h
        have ht := Nat.eq_of_beq_eq_true ht
        subst ht
        simp only at h
        split at h
        · rename_i E l hj
          cases hE : Nat.beq E 5 with
          | false => rw [hE] at h; cases h
          | true =>
            rw [hE] at h
            have hE := Nat.eq_of_beq_eq_true hE
            subst hE
            cases h
            have hij : i ≠ j := by
              intro e
              subst e
              rw [hi] at hj
              cases hj
            refine ⟨fun n => rfl, rfl, fun n k hk => ?_, fun k hk => ?_, fun k hk => ?_⟩
            · match k, hk with
              | 0, _ => exact hi
              | 1, _ => exact hj
            · match k, hk with
              | 0, _ => simp [fmOs0]
              | 1, _ => simp [fmOs0]
            · match k, hk with
              | 0, _ => simp [lookI]
              | 1, _ =>
                have : Nat.beq i j = false := by
                  cases hb : Nat.beq i j with
                  | false => rfl
                  | true => exact absurd (Nat.eq_of_beq_eq_true hb) hij
                simp [lookI, this]
        · cases h
    · cases h
  · cases h
theorem form_mth : RunOk Try.prog false 88 (mrun (fmMt) (fun _ => True) (fmX) (fmOs0) (fun _ => [])) := by
  obtain ⟨G, hG⟩ : ∃ G : List (FuncId × Ctr), G = [] := ⟨_, rfl⟩
  refine mth_ok (ck := false) [] iok_nil [(93, Try.f93)] ⟨⟨Try.func93, by unfold FnOk; kernel_rfl, by kernel_rfl⟩, trivial⟩ (by unfold FnOk; kernel_rfl) Try.func88 rfl tt_ok (G := G) (by rw [hG]; exact trivial) mixed (by kernel_rfl) (fmArgs) (fmOs0) [] [] rfl (fun _ => by simp [fmOs0]) fmMt_ok ?_
  intro p hp hs
  obtain ⟨l, a, n, e, m⟩ := p
  obtain ⟨g, r, w, us, h1, h2⟩ := hs
  have HS := Lib.hid True.intro
  have HP := Lib.hid True.intro
  clear hp h1 h2
  dsimp only [fmArgs, fmOs0, fmX] at *
  generalize hA : std = A
  subst hG
  generalize h_c : ci = c
  generalize h_fS : formI = fS
  cbv
  (repeat' (first | apply And.intro | apply BrB.mk | apply BrP.mk | intro _))
  (all_goals (subst hA; subst h_c; subst h_fS); all_goals (have f_hs := HS.out; have f_hp := HP.out); all_goals (try simp only [std, stdBin, stdCmp, stdUna, stdIn, ci, beq_iff_eq, bne_iff_ne, beq_eq_false_iff_ne, bne_eq_false_iff_eq, decide_eq_true_eq, decide_eq_false_iff_not, Bool.not_true, Bool.not_false, Bool.not_eq_true', Bool.not_eq_false', Bool.not_not, tn0, tn1, tn2, tn3, formI] at *); all_goals (try omega))
  all_goals first
    | exact True.intro
    | (refine congrArg (Value.int .i64) ?_; first | (rw [if_pos (by omega)]; done) | (rw [if_neg (by omega), if_pos (by assumption)]; done) | (rw [if_neg (by omega), if_neg (by simp_all)]; done))
    | (refine congrArg (Value.int .i64) ?_; simp_all; done)
    | trace_state
def reMt (args : List SV) (ob : Nat → SO) : Option (RdP × List Nat) := match args with
  | [.ptr i o] => match o with
    | 0 => match ob i with
      | .cells t [.sub j a n, .v (.int .i64 e)] => match Nat.beq t 141 with
        | true => match ob j with
          | .irow E .u8 l => match Nat.beq E 5 with
            | true => some (⟨l, a, n, e, 0⟩, [i, j])
            | false => none
          | _ => none
        | false => none
      | _ => none
    | _ + 1 => none
  | _ => none
def reArgs (p : RdP) : List SV := [.ptr 0 0]
def endI (n e : Int) : Int := if e = 0 ∧ n > 0 then 5 else e
def endX (p : RdP) : SV := .v (.int .i64 (endI p.n p.e))
theorem reMt_ok (args : List SV) (ob : Nat → SO) (p : RdP) (ms : List Nat) (h : reMt args ob = some (p, ms)) : MtOk reMt reArgs rdOs0 args ob p ms := by
  unfold reMt at h
  split at h
  · rename_i i o
    cases o with
    | succ o => simp only at h; cases h
    | zero =>
    simp only at h
    split at h
    · rename_i t j a n e hi
      cases ht : Nat.beq t 141 with
      | false => rw [ht] at h; cases h
      | true =>
        rw [ht] at h
        have ht := Nat.eq_of_beq_eq_true ht
        subst ht
        simp only at h
        split at h
        · rename_i E l hj
          cases hE : Nat.beq E 5 with
          | false => rw [hE] at h; cases h
          | true =>
            rw [hE] at h
            have hE := Nat.eq_of_beq_eq_true hE
            subst hE
            cases h
            have hij : i ≠ j := by
              intro e
              subst e
              rw [hi] at hj
              cases hj
            refine ⟨fun n => rfl, rfl, fun n k hk => ?_, fun k hk => ?_, fun k hk => ?_⟩
            · match k, hk with
              | 0, _ => exact hi
              | 1, _ => exact hj
            · match k, hk with
              | 0, _ => simp [rdOs0]
              | 1, _ => simp [rdOs0]
            · match k, hk with
              | 0, _ => simp [lookI]
              | 1, _ =>
                have : Nat.beq i j = false := by
                  cases hb : Nat.beq i j with
                  | false => rfl
                  | true => exact absurd (Nat.eq_of_beq_eq_true hb) hij
                simp [lookI, this]
        · cases h
    · cases h
  · cases h
theorem end_mth : RunOk Try.prog false 93 (mrun (reMt) (fun _ => True) (endX) (rdOs0) (fun _ => [])) := by
  obtain ⟨G, hG⟩ : ∃ G : List (FuncId × Ctr), G = [] := ⟨_, rfl⟩
  refine mth_ok (ck := false) [] iok_nil [] trivial (by unfold FnOk; kernel_rfl) Try.func93 rfl tt_ok (G := G) (by rw [hG]; exact trivial) mixed (by kernel_rfl) (reArgs) (rdOs0) [] [] rfl (fun _ => by simp [rdOs0]) reMt_ok ?_
  intro p hp hs
  obtain ⟨l, a, n, e, wd⟩ := p
  obtain ⟨g, r, w, us, h1, h2⟩ := hs
  have HS := Lib.hid True.intro
  have HP := Lib.hid True.intro
  clear hp h1 h2
  dsimp only [reArgs, rdOs0, endX] at *
  generalize hA : std = A
  subst hG
  generalize h_c : ci = c
  generalize h_fS : endI = fS
  cbv
  (repeat' (first | apply And.intro | apply BrB.mk | apply BrP.mk | intro _))
  (all_goals (subst hA; subst h_c; subst h_fS); all_goals (have f_hs := HS.out; have f_hp := HP.out); all_goals (try simp only [std, stdBin, stdCmp, stdUna, stdIn, ci, beq_iff_eq, bne_iff_ne, beq_eq_false_iff_ne, bne_eq_false_iff_eq, decide_eq_true_eq, decide_eq_false_iff_not, Bool.not_true, Bool.not_false, Bool.not_eq_true', Bool.not_eq_false', Bool.not_not, tn0, tn1, tn2, tn3, endI] at *); all_goals (try omega))
  all_goals first
    | exact True.intro
    | (refine congrArg (Value.int .i64) ?_; split <;> omega)
    | trace_state
/-! ### A state that every program must know -/
abbrev b24 : List Int := stB 5 7 (.list [])
theorem g24_l : llenI (stB 5 7 (.list [])) = 17 := by kernel_rfl
theorem g24_a : rwA 0 17 0 4 = 4 := by kernel_rfl
theorem g24_b : rwN 17 0 4 = 13 := by kernel_rfl
theorem g24_c : rwE 17 0 4 = 0 := by kernel_rfl
theorem g24_d : rdA 4 13 0 8 = 12 := by kernel_rfl
theorem g24_e : rdN 13 0 8 = 5 := by kernel_rfl
theorem g24_f : rdE 13 0 8 = 0 := by kernel_rfl
theorem g24_g : rdV (stB 5 7 (.list [])) 4 13 0 8 = 5 := by kernel_rfl
theorem g24_h : rdA 12 5 0 4 = 16 := by kernel_rfl
theorem g24_i : rdN 5 0 4 = 1 := by kernel_rfl
theorem g24_j : rdE 5 0 4 = 0 := by kernel_rfl
theorem g24_k : IntKind.u32.wrap (rdV (stB 5 7 (.list [])) 12 5 0 4) = 7 := by kernel_rfl
theorem g24_m : rdN 1 0 1 = 0 := by kernel_rfl
theorem g24_n : rdE 1 0 1 = 0 := by kernel_rfl
theorem g24_o : IntKind.i64.wrap (rdV (stB 5 7 (.list [])) 16 1 0 1) = 0 := by kernel_rfl
theorem g24_p : (strOfNums (rwL (stB 5 7 (.list [])) 0 17 0 4)).toList = (ByteArray.mk #[112, 100, 115, 116]).toList := by kernel_rfl
theorem g24_q : (stB 5 7 (.list [])).length = 17 := by kernel_rfl
theorem g24_r : senE 7 (.list []) = 0 := by kernel_rfl
theorem g24_all {b : List Int} (hb : b = stB 5 7 (.list [])) : llenI b = 17 ∧ rdV b 4 13 0 8 = 5 ∧ IntKind.u32.wrap (rdV b 12 5 0 4) = 7 ∧ IntKind.i64.wrap (rdV b 16 1 0 1) = 0 ∧ (strOfNums (rwL b 0 17 0 4)).toList = (ByteArray.mk #[112, 100, 115, 116]).toList ∧ b.length = 17 := by
  subst hb
  exact ⟨g24_l, g24_g, g24_k, g24_o, g24_p, g24_q⟩
def sdP (xa : List AV) : Prop := match xa with
  | [.l b] => b = stB 5 7 (.list [])
  | _ => False
def sdC (p : List AV → Prop) : FCtr := ⟨[.sl (.int .u8)], fun xa => some (p xa), fun _ => .ret (.tup [.agg [.v (.int .u64 5), .v (.int .i64 7), .v (.slice none 0 0)], .v (.int .i64 0)]) [], true⟩
theorem sd24_ok : FOk Try.prog 39 (sdC sdP) := by
  obtain ⟨G, hG⟩ : ∃ G : List (FuncId × Ctr), G = [] := ⟨_, rfl⟩
  refine fn_inlFB (ck := false) [(124, mrun (rdMt) (fun p => pw8 p.wd) (rdX) (rdOs) (fun _ => [])), (87, mrun (rdMt) (fun p => smI p.n) (rwX) (rwOs) (fun _ => [])), (86, mrun (nrMt) (fun p => smL p.l) (nrX) (nrOs) (fun _ => [])), (88, mrun (fmMt) (fun _ => True) (fmX) (fmOs0) (fun _ => [])), (93, mrun (reMt) (fun _ => True) (endX) (rdOs0) (fun _ => []))] (iok_cons (RunOk.up get_mth) (iok_cons (RunOk.up raw_mth) (iok_cons (RunOk.up new_mth) (iok_cons (RunOk.up form_mth) (iok_cons (RunOk.up end_mth) iok_nil))))) [(89, Try.f89), (90, Try.f90), (91, Try.f91)] ⟨⟨Try.func89, by unfold FnOk; kernel_rfl, by kernel_rfl⟩, ⟨Try.func90, by unfold FnOk; kernel_rfl, by kernel_rfl⟩, ⟨Try.func91, by unfold FnOk; kernel_rfl, by kernel_rfl⟩, trivial⟩ Try.func39 rfl tt_ok (G := G) (by rw [hG]; exact trivial) mixed (by kernel_rfl) ?_
  intro xa xs h hx hp
  obtain ⟨a0, as0, x0, xs0, rfl, rfl, h0, H1⟩ := svArgs_cons h
  obtain ⟨rfl, rfl⟩ := svArgs_nil H1
  obtain ⟨b, rfl, rfl⟩ := argSV_ints h0
  delta endX fmOs0 fmX nrOs nrX rdOs rdOs0 rdX rwOs rwX
  have sb : Fits .u8 b ∧ ci b.length ≤ 9223372036854775807 := svf_ints (hx (.iimm .u8 b) (by simp))
  have SB := Lib.hid sb
  clear sb
  have HP := Lib.hid (hp _ rfl)
  clear hx hp h h0 H1
  generalize hA : std = A
  subst hG
  generalize h_c : ci = c
  generalize h_fV : rdV = fV
  generalize h_fA : rdA = fA
  generalize h_fN : rdN = fN
  generalize h_fE : rdE = fE
  generalize h_gA : rwA = gA
  generalize h_gN : rwN = gN
  generalize h_gE : rwE = gE
  generalize h_gL : rwL = gL
  generalize h_ff : formI = ff
  generalize h_fe : endI = fe
  generalize h_fp : pw8 = fp
  generalize h_fs : smI = fs
  generalize h_fq : smL = fq
  generalize h_fn : llenI = fn
  generalize h_uP : sdP = uP
  cbv
  (repeat' (first | apply And.intro | apply BrB.mk | apply BrP.mk | intro _))
  all_goals try (refine loop_at Nat 54 (fun x => [(3, .any), (11, .any), (12, .any), (54, .v (.int .i64 0))]) (fun x o => o) (fun _ => True) (fun x => 0) 0 True.intro ?hle ?round)
  case hle => (cbv; (repeat' (first | apply And.intro | apply BrB.mk | apply BrP.mk | intro _)); all_goals (subst hA; subst h_c; subst h_fV; subst h_fA; subst h_fN; subst h_fE; subst h_gA; subst h_gN; subst h_gE; subst h_gL; subst h_ff; subst h_fe; subst h_fp; subst h_fs; subst h_fq; subst h_fn; subst h_uP); all_goals (have f_sb := SB.out; have f_hp := HP.out); all_goals (try simp only [std, stdBin, stdCmp, stdUna, stdIn, ci, beq_iff_eq, bne_iff_ne, beq_eq_false_iff_ne, bne_eq_false_iff_eq, decide_eq_true_eq, decide_eq_false_iff_not, Bool.not_true, Bool.not_false, Bool.not_eq_true', Bool.not_eq_false', Bool.not_not, tn0, tn1, tn2, tn3] at *); (all_goals first | exact True.intro | rfl | exact congrArg (Value.int .i64) (by omega)))
  case round =>
    intro x hx
    cbv
    refine BrB.mk (fun gq => ?_) (fun gq => ?_)
    all_goals (repeat' (first | apply And.intro | apply BrB.mk | apply BrP.mk | intro _))
    all_goals (subst hA; subst h_c; subst h_fV; subst h_fA; subst h_fN; subst h_fE; subst h_gA; subst h_gN; subst h_gE; subst h_gL; subst h_ff; subst h_fe; subst h_fp; subst h_fs; subst h_fq; subst h_fn; subst h_uP)
    all_goals (have f_sb := SB.out; have f_hp := HP.out)
    all_goals (obtain ⟨k1, k2, k3, k4, k5, k6⟩ := g24_all (show b = stB 5 7 (.list []) from f_hp); clear f_hp HP)
    all_goals (try simp only [k1, k2, k3, k4, k5, k6, g24_a, g24_b, g24_c, g24_d, g24_e, g24_f, g24_h, g24_i, g24_j, g24_m, g24_n, std, stdBin, stdCmp, stdUna, stdIn, ci, beq_iff_eq, bne_iff_ne, beq_eq_false_iff_ne, bne_eq_false_iff_eq, decide_eq_true_eq, decide_eq_false_iff_not, Bool.not_true, Bool.not_false, Bool.not_eq_true', Bool.not_eq_false', Bool.not_not, tn0, tn1, tn2, tn3, smI, smL, pw8, formI, endI] at *)
    all_goals first
      | exact True.intro
      | with_reducible rfl
      | omega
      | (exfalso; simp_all; done)
      | trace_state
  all_goals (subst hA; subst h_c; subst h_fV; subst h_fA; subst h_fN; subst h_fE; subst h_gA; subst h_gN; subst h_gE; subst h_gL; subst h_ff; subst h_fe; subst h_fp; subst h_fs; subst h_fq; subst h_fn; subst h_uP)
  all_goals (have f_sb := SB.out; have f_hp := HP.out)
  all_goals (obtain ⟨k1, k2, k3, k4, k5, k6⟩ := g24_all (show b = stB 5 7 (.list []) from f_hp); clear f_hp HP)
  all_goals (try simp only [k1, k2, k3, k4, k5, k6, g24_a, g24_b, g24_c, g24_d, g24_e, g24_f, g24_h, g24_i, g24_j, g24_m, g24_n, std, stdBin, stdCmp, stdUna, stdIn, ci, beq_iff_eq, bne_iff_ne, beq_eq_false_iff_ne, bne_eq_false_iff_eq, decide_eq_true_eq, decide_eq_false_iff_not, Bool.not_true, Bool.not_false, Bool.not_eq_true', Bool.not_eq_false', Bool.not_not, tn0, tn1, tn2, tn3, smI, smL, pw8, formI, endI] at *)
  all_goals first
    | exact True.intro
    | with_reducible rfl
    | omega
    | (exfalso; simp_all; done)
    | trace_state
end Go.Proofs.Ytekokhlldcmjfaa
