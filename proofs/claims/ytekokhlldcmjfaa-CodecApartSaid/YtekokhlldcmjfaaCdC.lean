/- Layer 24: a state as bytes, wholly. -/
import Derived.Test.YtekokhlldcmjfaaCdB
namespace Go.Proofs.Ytekokhlldcmjfaa
open Go.RowKit
set_option maxRecDepth 1000000
set_option linter.unusedSimpArgs false
set_option linter.unusedVariables false
set_option maxHeartbeats 16000000
set_option cbv.maxSteps 10000000
/-- Weights, laid behind bytes. -/
structure LyP where
  l : List Int
  D : List Int
  E : Int
  L : List Int
  M : List Int
  F : List Int
  G : Int
  H : List Int
def layP (D : List Int) (E : Int) (L M F : List Int) (G : Int) (H : List Int) : List Int := bU8 D.length ++ (if noneB D E L M F G H = true then [] else tnB D E L ++ bMov M M.length ++ tnB F G H)
def lyL (l D : List Int) (E : Int) (L M F : List Int) (G : Int) (H : List Int) : List Int := l ++ layP D E L M F G H
def lyPre (l D L M F H : List Int) : Prop := (l.length : Int) ≤ 100000000 ∧ (D.length : Int) ≤ 1000000 ∧ (L.length : Int) ≤ 1000000 ∧ (M.length : Int) ≤ 1000000 ∧ (F.length : Int) ≤ 1000000 ∧ (H.length : Int) ≤ 1000000
def lyMt (args : List SV) (ob : Nat → SO) : Option (LyP × List Nat) := match args with
  | [.ptr i o, .agg [.iimm .i64 D, .v (.int .i64 E), .iimm .i8 L, .iimm .i32 M, .iimm .i64 F, .v (.int .i64 G), .iimm .i8 H]] => match o with
    | 0 => match ob i with
      | .cells t [.hdl j] => match Nat.beq t 99 with
        | true => match ob j with
          | .irow E' .u8 l => match Nat.beq E' 5 with
            | true => some (⟨l, D, E, L, M, F, G, H⟩, [i, j])
            | false => none
          | _ => none
        | false => none
      | _ => none
    | _ + 1 => none
  | _ => none
def lyArgs (p : LyP) : List SV := [.ptr 0 0, .agg [.iimm .i64 p.D, .v (.int .i64 p.E), .iimm .i8 p.L, .iimm .i32 p.M, .iimm .i64 p.F, .v (.int .i64 p.G), .iimm .i8 p.H]]
def lyOs0 (p : LyP) : List SO := [.cells 99 [.hdl 1], .irow 5 .u8 p.l]
def lyOs (p : LyP) : List SO := [.cells 99 [.hdl 1], .irow 5 .u8 (lyL p.l p.D p.E p.L p.M p.F p.G p.H)]
def lyX (p : LyP) : SV := .tup []
theorem tnB_len (D : List Int) (E : Int) (L : List Int) : (tnB D E L).length = 2 * D.length + 1 + L.length := by
  unfold tnB
  rw [List.length_append, List.length_append, bDim_len, bU8_len, bDat_len]
theorem ltL_len (l D : List Int) (E : Int) (L : List Int) : (ltL l D E L).length = l.length + (2 * D.length + 1 + L.length) := by
  unfold ltL
  rw [List.length_append, tnB_len]
theorem lyMt_ok (args : List SV) (ob : Nat → SO) (p : LyP) (ms : List Nat) (h : lyMt args ob = some (p, ms)) : MtOk lyMt lyArgs lyOs0 args ob p ms := by
  unfold lyMt at h
  split at h
  · rename_i i o D E L M F G H
    cases o with
    | succ o => simp only at h; cases h
    | zero =>
    simp only at h
    split at h
    · rename_i t j hi
      cases ht : Nat.beq t 99 with
      | false => rw [ht] at h; cases h
      | true =>
        rw [ht] at h
        have ht := Nat.eq_of_beq_eq_true ht
        subst ht
        simp only at h
        split at h
        · rename_i E' l hj
          cases hE : Nat.beq E' 5 with
          | false => rw [hE] at h; cases h
          | true =>
            rw [hE] at h
            have hE := Nat.eq_of_beq_eq_true hE
            subst hE
            cases h
            have hij : i ≠ j := by
              intro e
              subst e
              rw [hi] at hj
              cases hj
            refine ⟨fun n => rfl, rfl, fun n k hk => ?_, fun k hk => ?_, fun k hk => ?_⟩
            · match k, hk with
              | 0, _ => exact hi
              | 1, _ => exact hj
            · match k, hk with
              | 0, _ => simp [lyOs0]
              | 1, _ => simp [lyOs0]
            · match k, hk with
              | 0, _ => simp [lookI]
              | 1, _ =>
                have : Nat.beq i j = false := by
                  cases hb : Nat.beq i j with
                  | false => rfl
                  | true => exact absurd (Nat.eq_of_beq_eq_true hb) hij
                simp [lookI, this]
        · cases h
    · cases h
  · cases h
theorem ly_mth : RunOk Try.prog false 77 (mrun (lyMt) (fun p => lyPre p.l p.D p.L p.M p.F p.H) (lyX) (lyOs) (fun _ => [1])) := by
  obtain ⟨G, hG⟩ : ∃ G : List (FuncId × Ctr), G = [(116, boolC [prmTy] noneF)] := ⟨_, rfl⟩
  refine mth_ok (ck := false) [(115, mor wpMt (mrun (wpMt) (fun p => wpPre p.l p.wd) (wpX) (wpOs) (fun _ => [1])) (mrun (wpMtN) (fun p => wpPre [] p.wd) (wpX) (wpOsN) (fun _ => []))), (117, mrun (ltMt) (fun p => ltPre p.l p.D p.L) (ltX) (ltOs) (fun _ => [1]))] (iok_cons (RunOk.up wput_ok) (iok_cons (RunOk.up lt_mth) iok_nil)) [(76, Try.f76), (75, Try.f75)] ⟨⟨Try.func76, by unfold FnOk; kernel_rfl, by kernel_rfl⟩, ⟨Try.func75, by unfold FnOk; kernel_rfl, by kernel_rfl⟩, trivial⟩ (by unfold FnOk; kernel_rfl) Try.func77 rfl tt_ok (G := G) (by rw [hG]; exact ⟨⟨none24_ok, by unfold FnOk; kernel_rfl⟩, trivial⟩) mixed (by kernel_rfl) (lyArgs) (lyOs0) [] [] rfl (fun _ => by simp [lyOs0]) lyMt_ok ?_
  intro p hp hs
  obtain ⟨l, D, E, L, M, F, G, H⟩ := p
  obtain ⟨g, r, w, us, h1, h2⟩ := hs
  have HS := Lib.hid True.intro
  have HP := Lib.hid hp
  clear h1 h2
  dsimp only [lyArgs, lyOs0, lyOs, lyX] at *
  delta ltOs ltX wpOs wpOsN wpX
  generalize hA : std = A
  subst hG
  generalize h_c : ci = c
  generalize h_fL : wpL = fL
  generalize h_fp : wpPre = fp
  generalize h_fT : ltL = fT
  generalize h_fq : ltPre = fq
  generalize h_fn : noneF = fn
  generalize h_fR : lyL = fR
  obtain ⟨Q, hQ⟩ : ∃ Q : Nat → List Int, ∀ j, Q j = l ++ (bU8 D.length ++ tnB D E L ++ bMov M j) := ⟨_, fun _ => rfl⟩
  have HQ := Lib.hid hQ
  clear hQ
  cbv
  (repeat' (first | apply And.intro | apply BrB.mk | apply BrP.mk | intro _))
  all_goals try (refine loop_at Nat 21 (fun j => [(5, .any), (21, .v (.int .i64 (c j)))]) (fun j o => o.set 1 (.irow 5 .u8 (Q j))) (fun j => j ≤ M.length) (fun j => M.length - j) 0 (Nat.zero_le _) ?hle ?round)
  case hle =>
    cbv
    (repeat' (first | apply And.intro | apply BrB.mk | apply BrP.mk | intro _))
    (all_goals (subst hA; subst h_c; subst h_fL; subst h_fp; subst h_fT; subst h_fq; subst h_fn; subst h_fR); all_goals (have f_hs := HS.out; have f_hp := HP.out); all_goals (try simp only [std, stdBin, stdCmp, stdUna, stdIn, ci, beq_iff_eq, bne_iff_ne, beq_eq_false_iff_ne, bne_eq_false_iff_eq, decide_eq_true_eq, decide_eq_false_iff_not, Bool.not_true, Bool.not_false, Bool.not_eq_true', Bool.not_eq_false', Bool.not_not, tn0, tn1, tn2, tn3] at *); all_goals (try omega))
    all_goals (have q0 := HQ.out 0)
    all_goals first
      | exact True.intro
      | with_reducible rfl
      | (show l ++ putK _ 1 1 ++ tnB D E L = Q 0; rw [q0]; simp only [bMov, bU8, List.append_nil, List.append_assoc] <;> rfl)
      | rfl
      | trace_state
  case round =>
    intro j hj
    cbv
    (repeat' (first | apply And.intro | apply BrB.mk | apply BrP.mk | intro _))
    all_goals try (refine ⟨j + 1, ?_, ?_, ?_⟩)
    all_goals try (show AS.le _ _; cbv; (repeat' (first | apply And.intro | apply BrB.mk | apply BrP.mk | intro _)))
    (all_goals (subst hA; subst h_c; subst h_fL; subst h_fp; subst h_fT; subst h_fq; subst h_fn; subst h_fR); all_goals (have f_hs := HS.out; have f_hp := HP.out); all_goals (try simp only [std, stdBin, stdCmp, stdUna, stdIn, ci, beq_iff_eq, bne_iff_ne, beq_eq_false_iff_ne, bne_eq_false_iff_eq, decide_eq_true_eq, decide_eq_false_iff_not, Bool.not_true, Bool.not_false, Bool.not_eq_true', Bool.not_eq_false', Bool.not_not, tn0, tn1, tn2, tn3, noneF, Int.toNat_natCast] at *); all_goals (try omega))
    all_goals (have q1 := HQ.out; have hlq : (Q j).length = l.length + (1 + (2 * D.length + 1 + L.length) + 4 * j) := (by rw [q1]; simp only [List.length_append, bU8_len, tnB_len, bMov_len]); obtain ⟨p1, p2, p3, p4, p5, p6⟩ : ((l.length : Nat) : Int) ≤ 100000000 ∧ ((D.length : Nat) : Int) ≤ 1000000 ∧ ((L.length : Nat) : Int) ≤ 1000000 ∧ ((M.length : Nat) : Int) ≤ 1000000 ∧ ((F.length : Nat) : Int) ≤ 1000000 ∧ ((H.length : Nat) : Int) ≤ 1000000 := f_hp)
    all_goals first
      | exact True.intro
      | omega
      | (refine ⟨⟨by decide, by decide⟩, ?_⟩; show ((Q j).length : Int) ≤ 140737488355300; omega)
      | (refine ⟨?_, ?_, ?_⟩; (show ((Q j).length : Int) ≤ 1000000000; omega); exact p5; exact p6)
      | (show Q j ++ putK _ 4 4 = Q (j + 1); rw [q1, q1, bMov]; simp only [bU32, List.append_assoc] <;> rfl)
      | (show Value.int .i64 (IntKind.i64.wrap ((j : Int) + 1)) = _; rw [w64 (by omega) (by omega)]; exact congrArg (Value.int .i64) (by omega))
      | (have hn : noneB D E L M F G H = false := (by assumption)
         have e : j = M.length := (by omega)
         show Q j ++ tnB F G H = lyL l D E L M F G H
         unfold lyL layP
         rw [q1, e, if_neg (by rw [hn]; simp)]
         simp only [List.append_assoc] <;> rfl)
      | trace_state
  (all_goals (subst hA; subst h_c; subst h_fL; subst h_fp; subst h_fT; subst h_fq; subst h_fn; subst h_fR); all_goals (have f_hs := HS.out; have f_hp := HP.out); all_goals (try simp only [std, stdBin, stdCmp, stdUna, stdIn, ci, beq_iff_eq, bne_iff_ne, beq_eq_false_iff_ne, bne_eq_false_iff_eq, decide_eq_true_eq, decide_eq_false_iff_not, Bool.not_true, Bool.not_false, Bool.not_eq_true', Bool.not_eq_false', Bool.not_not, tn0, tn1, tn2, tn3, noneF] at *); all_goals (try omega))
  all_goals (obtain ⟨p1, p2, p3, p4, p5, p6⟩ : ((l.length : Nat) : Int) ≤ 100000000 ∧ ((D.length : Nat) : Int) ≤ 1000000 ∧ ((L.length : Nat) : Int) ≤ 1000000 ∧ ((M.length : Nat) : Int) ≤ 1000000 ∧ ((F.length : Nat) : Int) ≤ 1000000 ∧ ((H.length : Nat) : Int) ≤ 1000000 := f_hp)
  all_goals first
    | exact True.intro
    | (refine ⟨⟨by decide, by decide⟩, ?_⟩; show ((l.length : Nat) : Int) ≤ 140737488355300; omega)
    | (refine ⟨?_, p2, p3⟩; show (((wpL l _ 1).length : Nat) : Int) ≤ 1000000000; rw [wpL_len]; omega)
    | (have hn : noneB D E L M F G H = true := (by assumption)
       show l ++ putK _ 1 1 = lyL l D E L M F G H
       unfold lyL layP
       rw [if_pos hn, List.append_nil]; rfl)
    | trace_state
end Go.Proofs.Ytekokhlldcmjfaa
