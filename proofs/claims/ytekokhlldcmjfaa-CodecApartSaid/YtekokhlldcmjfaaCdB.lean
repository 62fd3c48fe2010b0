/- Layer 24: a state as bytes. -/
import Derived.Test.YtekokhlldcmjfaaCdA
namespace Go.Proofs.Ytekokhlldcmjfaa
open Go.RowKit
set_option maxRecDepth 1000000
set_option linter.unusedSimpArgs false
set_option linter.unusedVariables false
set_option maxHeartbeats 16000000
set_option cbv.maxSteps 10000000
/-- What is handed over is given up first. -/
def mfrz (A : Sy) (run : List SV → AS → (SV → AS → Prop) → Prop) (args : List SV) (s : AS) (K : SV → AS → Prop) : Prop := match frz2 A (argIds args) (s, args) with
  | (s1, xs) => run xs s1 K
theorem mfrz_ok {P : Program} {f : FuncId} {run : List SV → AS → (SV → AS → Prop) → Prop} (h : RunOk P false f run) : RunOk P true f (mfrz std run) := by
  refine ⟨h.fn, fun w0 r s a w args us K Q hs hargs hv hQ => ?_⟩
  unfold mfrz at hv
  obtain ⟨w1, hle, h1, h2⟩ := Sat.frz2 (argIds args) hs hargs
  split at hv
  rename_i s1 xs he
  rw [he] at h1 h2
  exact (RunOk.up h).ok w1 r s1 a w xs us K Q h1 h2 hv fun w2 r' s' x v w' l2 => hQ w2 r' s' x v w' (hle.trans l2)
theorem wrawF_ok : RunOk Try.prog true 73 (mfrz std (mor wbMt (mrun (wbMt) (fun p => wbPre p.l p.b) (wbX) (wbOs) (fun _ => [1])) (mrun (wbMtN) (fun p => wbPre [] p.b) (wbX) (wbOsE) (fun _ => [])))) := mfrz_ok wraw_ok
/-! ### The bytes -/
def bU8 (v : Int) : List Int := putK (IntKind.u64.wrap v) 1 1
def bU16 (v : Int) : List Int := putK (IntKind.u64.wrap v) 2 2
def bU32 (v : Int) : List Int := putK (IntKind.u32.wrap v) 4 4
def bDat (D : List Int) : Nat → List Int
  | 0 => []
  | j + 1 => bDat D j ++ bU8 (D.getD j 0)
def bDim (D : List Int) : Nat → List Int
  | 0 => []
  | j + 1 => bDim D j ++ bU16 (D.getD j 0)
def bMov (M : List Int) : Nat → List Int
  | 0 => []
  | j + 1 => bMov M j ++ bU32 (M.getD j 0)
theorem bU8_len (v : Int) : (bU8 v).length = 1 := putK_len _ _ _
theorem bU16_len (v : Int) : (bU16 v).length = 2 := putK_len _ _ _
theorem bU32_len (v : Int) : (bU32 v).length = 4 := putK_len _ _ _
theorem wpL_len (l : List Int) (n wd : Int) : (wpL l n wd).length = l.length + wd.toNat := by simp [wpL, putK_len]
theorem bDat_len (D : List Int) : ∀ j, (bDat D j).length = j
  | 0 => rfl
  | j + 1 => by rw [bDat, List.length_append, bDat_len D j, bU8_len]
theorem bDim_len (D : List Int) : ∀ j, (bDim D j).length = 2 * j
  | 0 => rfl
  | j + 1 => by rw [bDim, List.length_append, bDim_len D j, bU16_len]; omega
theorem bMov_len (D : List Int) : ∀ j, (bMov D j).length = 4 * j
  | 0 => rfl
  | j + 1 => by rw [bMov, List.length_append, bMov_len D j, bU32_len]; omega
/-- A tensor, laid behind bytes. -/
structure LtP where
  l : List Int
  D : List Int
  E : Int
  L : List Int
def tnB (D : List Int) (E : Int) (L : List Int) : List Int := bDim D D.length ++ bU8 E ++ bDat L L.length
def ltL (l D : List Int) (E : Int) (L : List Int) : List Int := l ++ tnB D E L
def ltPre (l D L : List Int) : Prop := (l.length : Int) ≤ 1000000000 ∧ (D.length : Int) ≤ 1000000 ∧ (L.length : Int) ≤ 1000000
def ltMt (args : List SV) (ob : Nat → SO) : Option (LtP × List Nat) := match args with
  | [.ptr i o, .agg [.iimm .i64 D, .v (.int .i64 E), .iimm .i8 L]] => match o with
    | 0 => match ob i with
      | .cells t [.hdl j] => match Nat.beq t 99 with
        | true => match ob j with
          | .irow E' .u8 l => match Nat.beq E' 5 with
            | true => some (⟨l, D, E, L⟩, [i, j])
            | false => none
          | _ => none
        | false => none
      | _ => none
    | _ + 1 => none
  | _ => none
def ltArgs (p : LtP) : List SV := [.ptr 0 0, .agg [.iimm .i64 p.D, .v (.int .i64 p.E), .iimm .i8 p.L]]
def ltOs0 (p : LtP) : List SO := [.cells 99 [.hdl 1], .irow 5 .u8 p.l]
def ltOs (p : LtP) : List SO := [.cells 99 [.hdl 1], .irow 5 .u8 (ltL p.l p.D p.E p.L)]
def ltX (p : LtP) : SV := .tup []
theorem ltMt_ok (args : List SV) (ob : Nat → SO) (p : LtP) (ms : List Nat) (h : ltMt args ob = some (p, ms)) : MtOk ltMt ltArgs ltOs0 args ob p ms := by
  unfold ltMt at h
  split at h
  · rename_i i o D E L
    cases o with
    | succ o => simp only at h; cases h
    | zero =>
    simp only at h
    split at h
    · rename_i t j hi
      cases ht : Nat.beq t 99 with
      | false => rw [ht] at h; cases h
      | true =>
        rw [ht] at h
        have ht := Nat.eq_of_beq_eq_true ht
        subst ht
        simp only at h
        split at h
        · rename_i E' l hj
          cases hE : Nat.beq E' 5 with
          | false => rw [hE] at h; cases h
          | true =>
            rw [hE] at h
            have hE := Nat.eq_of_beq_eq_true hE
            subst hE
            cases h
            have hij : i ≠ j := by
              intro e
              subst e
              rw [hi] at hj
              cases hj
            refine ⟨fun n => rfl, rfl, fun n k hk => ?_, fun k hk => ?_, fun k hk => ?_⟩
            · match k, hk with
              | 0, _ => exact hi
              | 1, _ => exact hj
            · match k, hk with
              | 0, _ => simp [ltOs0]
              | 1, _ => simp [ltOs0]
            · match k, hk with
              | 0, _ => simp [lookI]
              | 1, _ =>
                have : Nat.beq i j = false := by
                  cases hb : Nat.beq i j with
                  | false => rfl
                  | true => exact absurd (Nat.eq_of_beq_eq_true hb) hij
                simp [lookI, this]
        · cases h
    · cases h
  · cases h
theorem lt_mth : RunOk Try.prog false 117 (mrun (ltMt) (fun p => ltPre p.l p.D p.L) (ltX) (ltOs) (fun _ => [1])) := by
  obtain ⟨G, hG⟩ : ∃ G : List (FuncId × Ctr), G = [] := ⟨_, rfl⟩
  refine mth_ok (ck := false) [(115, mor wpMt (mrun (wpMt) (fun p => wpPre p.l p.wd) (wpX) (wpOs) (fun _ => [1])) (mrun (wpMtN) (fun p => wpPre [] p.wd) (wpX) (wpOsN) (fun _ => [])))] (iok_cons (RunOk.up wput_ok) iok_nil) [(76, Try.f76), (135, Try.f135)] ⟨⟨Try.func76, by unfold FnOk; kernel_rfl, by kernel_rfl⟩, ⟨Try.func135, by unfold FnOk; kernel_rfl, by kernel_rfl⟩, trivial⟩ (by unfold FnOk; kernel_rfl) Try.func117 rfl tt_ok (G := G) (by rw [hG]; exact trivial) mixed (by kernel_rfl) (ltArgs) (ltOs0) [] [] rfl (fun _ => by simp [ltOs0]) ltMt_ok ?_
  intro p hp hs
  obtain ⟨l, D, E, L⟩ := p
  obtain ⟨g, r, w, us, h1, h2⟩ := hs
  have HS := Lib.hid True.intro
  have hp : (l.length : Int) ≤ 1000000000 ∧ (D.length : Int) ≤ 1000000 ∧ (L.length : Int) ≤ 1000000 := hp
  have HP := Lib.hid hp
  clear hp h1 h2
  dsimp only [ltArgs, ltOs0, ltOs, ltX] at *
  delta wpOs wpOsN wpX
  generalize hA : std = A
  subst hG
  generalize h_c : ci = c
  generalize h_fL : wpL = fL
  generalize h_fp : wpPre = fp
  generalize h_fR : ltL = fR
  obtain ⟨S, hS⟩ : ∃ S : Nat → List Int, ∀ j, S j = l ++ bDim D j := ⟨_, fun _ => rfl⟩
  obtain ⟨T, hT⟩ : ∃ T : Nat → List Int, ∀ j, T j = l ++ (bDim D D.length ++ bU8 E ++ bDat L j) := ⟨_, fun _ => rfl⟩
  have HSS := Lib.hid hS
  have HT := Lib.hid hT
  clear hS hT
  cbv
  (repeat' (first | apply And.intro | apply BrB.mk | apply BrP.mk | intro _))
  all_goals try (refine loop_at Nat 11 (fun j => [(5, .any), (11, .v (.int .i64 (c j)))]) (fun j o => o.set 1 (.irow 5 .u8 (S j))) (fun j => j ≤ D.length) (fun j => D.length - j) 0 (Nat.zero_le _) ?hle ?round)
  case hle =>
    cbv
    (repeat' (first | apply And.intro | apply BrB.mk | apply BrP.mk | intro _))
    (all_goals (subst hA; subst h_c; subst h_fL; subst h_fp; subst h_fR); all_goals (have f_hs := HS.out; have f_hp := HP.out); all_goals (try simp only [std, stdBin, stdCmp, stdUna, stdIn, ci, beq_iff_eq, bne_iff_ne, beq_eq_false_iff_ne, bne_eq_false_iff_eq, decide_eq_true_eq, decide_eq_false_iff_not, Bool.not_true, Bool.not_false, Bool.not_eq_true', Bool.not_eq_false', Bool.not_not, tn0, tn1, tn2, tn3] at *); all_goals (try omega))
    all_goals (have s0 := HSS.out 0)
    all_goals first
      | exact True.intro
      | with_reducible rfl
      | (show l = S 0; rw [s0]; simp [bDim]; done)
      | rfl
      | trace_state
  case round =>
    intro j hj
    cbv
    refine BrB.mk (fun gj => ?_) (fun gj => ?_)
    all_goals (repeat' (first | apply And.intro | apply BrB.mk | apply BrP.mk | intro _))
    all_goals try (have _ : _ = true := gj; refine ⟨j + 1, ?_, ?_, ?_⟩)
    all_goals try (show AS.le _ _; cbv; (repeat' (first | apply And.intro | apply BrB.mk | apply BrP.mk | intro _)))
    all_goals try (refine loop_at Nat 26 (fun k => [(7, .any), (26, .v (.int .i64 (c k)))]) (fun k o => o.set 1 (.irow 5 .u8 (T k))) (fun k => k ≤ L.length) (fun k => L.length - k) 0 (Nat.zero_le _) ?_ ?_
                   focus
                     show AS.le _ _
                     cbv
                     (repeat' (first | apply And.intro | apply BrB.mk | apply BrP.mk | intro _))
                     (all_goals (subst hA; subst h_c; subst h_fL; subst h_fp; subst h_fR); all_goals (have f_hs := HS.out; have f_hp := HP.out); all_goals (try simp only [std, stdBin, stdCmp, stdUna, stdIn, ci, beq_iff_eq, bne_iff_ne, beq_eq_false_iff_ne, bne_eq_false_iff_eq, decide_eq_true_eq, decide_eq_false_iff_not, Bool.not_true, Bool.not_false, Bool.not_eq_true', Bool.not_eq_false', Bool.not_not, tn0, tn1, tn2, tn3] at *); all_goals (try omega))
                     all_goals (have s0 := HSS.out j; have t0 := HT.out 0)
                     all_goals first
                       | exact True.intro
                       | with_reducible rfl
                       | (have hg : ¬ (((j : Nat) : Int) < ((D.length : Nat) : Int)) := gj; have hj' : j ≤ D.length := hj; have e : j = D.length := (by omega); show S j ++ putK _ 1 1 = T 0; rw [s0, t0, e]; simp only [bDat, bU8, List.append_nil, List.append_assoc] <;> rfl)
                       | rfl
                       | trace_state
                     done)
    all_goals try (intro k hk; cbv; refine BrB.mk (fun gk => ?_) (fun gk => ?_))
    all_goals try (repeat' (first | apply And.intro | apply BrB.mk | apply BrP.mk | intro _))
    all_goals try (have _ : _ = true := gk; refine ⟨k + 1, ?_, ?_, ?_⟩)
    all_goals try (show AS.le _ _; cbv; (repeat' (first | apply And.intro | apply BrB.mk | apply BrP.mk | intro _)))
    (all_goals (subst hA; subst h_c; subst h_fL; subst h_fp; subst h_fR); all_goals (have f_hs := HS.out; have f_hp := HP.out); all_goals (try simp only [std, stdBin, stdCmp, stdUna, stdIn, ci, beq_iff_eq, bne_iff_ne, beq_eq_false_iff_ne, bne_eq_false_iff_eq, decide_eq_true_eq, decide_eq_false_iff_not, Bool.not_true, Bool.not_false, Bool.not_eq_true', Bool.not_eq_false', Bool.not_not, tn0, tn1, tn2, tn3, Int.toNat_natCast] at *); all_goals (try omega))
    all_goals (have s1 := HSS.out; have t1 := HT.out; have hl1 : (S j).length = l.length + 2 * j := (by rw [s1, List.length_append, bDim_len]); obtain ⟨p1, p2, p3⟩ : ((l.length : Nat) : Int) ≤ 1000000000 ∧ ((D.length : Nat) : Int) ≤ 1000000 ∧ ((L.length : Nat) : Int) ≤ 1000000 := f_hp)
    all_goals first
      | exact True.intro
      | omega
      | (refine ⟨⟨by decide, by decide⟩, ?_⟩; show ((S j).length : Int) ≤ 140737488355300; omega)
      | (show S j ++ putK _ 2 2 = S (j + 1); rw [s1, s1, bDim, ← List.append_assoc]; rfl)
      | (show Value.int .i64 (IntKind.i64.wrap ((j : Int) + 1)) = _; rw [w64 (by omega) (by omega)]; exact congrArg (Value.int .i64) (by omega))
      | (have hl2 : (T k).length = l.length + (2 * D.length + 1 + k) := (by rw [t1]; simp only [List.length_append, bDim_len, bU8_len, bDat_len])
         first
           | (refine ⟨⟨by decide, by decide⟩, ?_⟩; show ((T k).length : Int) ≤ 140737488355300; omega)
           | (show T k ++ putK _ 1 1 = T (k + 1); rw [t1, t1, bDat]; simp only [bU8, List.append_assoc] <;> rfl)
           | (show Value.int .i64 (IntKind.i64.wrap ((k : Int) + 1)) = _; rw [w64 (by omega) (by omega)]; exact congrArg (Value.int .i64) (by omega))
           | (show T k = _; have e : k = L.length := (by omega); rw [t1, e]; rfl))
      | trace_state
  (all_goals (subst hA; subst h_c; subst h_fL; subst h_fp; subst h_fR); all_goals (have f_hs := HS.out; have f_hp := HP.out); all_goals (try simp only [std, stdBin, stdCmp, stdUna, stdIn, ci, beq_iff_eq, bne_iff_ne, beq_eq_false_iff_ne, bne_eq_false_iff_eq, decide_eq_true_eq, decide_eq_false_iff_not, Bool.not_true, Bool.not_false, Bool.not_eq_true', Bool.not_eq_false', Bool.not_not, tn0, tn1, tn2, tn3] at *); all_goals (try omega))
  all_goals trace_state
end Go.Proofs.Ytekokhlldcmjfaa
