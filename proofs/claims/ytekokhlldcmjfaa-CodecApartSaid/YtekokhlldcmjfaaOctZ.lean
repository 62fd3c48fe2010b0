/- Bytes of numbers; bytes cloned. -/
import Derived.Test.YtekokhlldcmjfaaRef
import Derived.Test.YtekokhlldcmjfaaFrzR
namespace Go.Proofs.Ytekokhlldcmjfaa
open Go.RowKit
set_option maxRecDepth 100000
set_option linter.unusedSimpArgs false
set_option linter.unusedVariables false
set_option maxHeartbeats 8000000
def yesP (ts : List Ty) (p : List AV → Prop) : Ctr := ⟨ts, fun xa => some (p xa), fun _ => .ret (.v (.bool true)) [], false⟩
theorem cloneB_ok : CtrOk Try.prog 118 (rowP [.sl (.int .u8)] 5 .u8 (lenP 1) sameL) := by
  intro xa w g vs ha _ hp
  obtain ⟨l, v, rfl, rfl, h1⟩ := of_ints1 ha
  have hq : (l.length : Int) * 1 ≤ 140737488355328 := hp _ rfl
  refine (cloneB_any v l w h1.1 (by omega)).mono fun e w' ⟨u, he, ho, hb⟩ => ⟨_, he, ?_⟩
  rw [kv_len] at ho
  exact fresh_gv ho h1.2.1 hb
/-- A byte of a number. -/
def byteAt (n s : Int) : Int := IntKind.u8.wrap (n.fdiv (2 ^ min s.toNat IntKind.u64.bits))
/-- The bytes of a number behind so many steps, of so many. -/
def putK (n w : Int) : Nat → List Int
  | 0 => []
  | k + 1 => putK n w k ++ [byteAt n (8 * (w - 1 - (k : Int)))]
theorem putK_len (n w : Int) : ∀ k, (putK n w k).length = k
  | 0 => rfl
  | k + 1 => by rw [putK, List.length_append, putK_len n w k]; rfl
end Go.Proofs.Ytekokhlldcmjfaa
/- Layer 3: a writer's methods. -/
namespace Go.Proofs.Ytekokhlldcmjfaa
open Go.RowKit
set_option maxRecDepth 20000
set_option linter.unusedSimpArgs false
set_option linter.unusedVariables false
set_option maxHeartbeats 16000000
set_option cbv.maxSteps 10000000
/-- A writer: its bytes; a number; how many bytes of it. -/
structure WpP where
  l : List Int
  n : Int
  wd : Int
def wpL (l : List Int) (n wd : Int) : List Int := l ++ putK n wd wd.toNat
def wpPre (l : List Int) (wd : Int) : Prop := (1 ≤ wd ∧ wd ≤ 8) ∧ (l.length : Int) ≤ 140737488355300
def wpMt (args : List SV) (ob : Nat → SO) : Option (WpP × List Nat) := match args with
  | [.ptr i o, .v (.int .u64 n), .v (.int .i64 wd)] => match o with
    | 0 => match ob i with
      | .cells t [.hdl j] => match Nat.beq t 99 with
        | true => match ob j with
          | .irow E .u8 l => match Nat.beq E 5 with
            | true => some (⟨l, n, wd⟩, [i, j])
            | false => none
          | _ => none
        | false => none
      | _ => none
    | _ + 1 => none
  | _ => none
def wpMtN (args : List SV) (ob : Nat → SO) : Option (WpP × List Nat) := match args with
  | [.ptr i o, .v (.int .u64 n), .v (.int .i64 wd)] => match o with
    | 0 => match ob i with
      | .cells t [x] => match Nat.beq t 99 with
        | true => match isNilS x with
          | true => some (⟨[], n, wd⟩, [i])
          | false => none
        | false => none
      | _ => none
    | _ + 1 => none
  | _ => none
def wpArgs (p : WpP) : List SV := [.ptr 0 0, .v (.int .u64 p.n), .v (.int .i64 p.wd)]
def wpOs0 (p : WpP) : List SO := [.cells 99 [.hdl 1], .irow 5 .u8 p.l]
def wpOsN0 (p : WpP) : List SO := [.cells 99 [.v (.slice none 0 0)]]
def wpOs (p : WpP) : List SO := [.cells 99 [.hdl 1], .irow 5 .u8 (wpL p.l p.n p.wd)]
def wpOsN (p : WpP) : List SO := [.cells 99 [.hdl 1], .irow 5 .u8 (wpL [] p.n p.wd)]
def wpX (p : WpP) : SV := .tup []
theorem wpMt_ok (args : List SV) (ob : Nat → SO) (p : WpP) (ms : List Nat) (h : wpMt args ob = some (p, ms)) : MtOk wpMt wpArgs wpOs0 args ob p ms := by
  unfold wpMt at h
  split at h
  · rename_i i o n wd
    cases o with
    | succ o => simp only at h; cases h
    | zero =>
    simp only at h
    split at h
    · rename_i t j hi
      cases ht : Nat.beq t 99 with
      | false => rw [ht] at h; cases h
      | true =>
        rw [ht] at h
        have ht := Nat.eq_of_beq_eq_true ht
        subst ht
        simp only at h
        split at h
        · rename_i E l hj
          cases hE : Nat.beq E 5 with
          | false => rw [hE] at h; cases h
          | true =>
            rw [hE] at h
            have hE := Nat.eq_of_beq_eq_true hE
            subst hE
            cases h
            have hij : i ≠ j := by
              intro e
              subst e
              rw [hi] at hj
              cases hj
            refine ⟨fun n => rfl, rfl, fun n k hk => ?_, fun k hk => ?_, fun k hk => ?_⟩
            · match k, hk with
              | 0, _ => exact hi
              | 1, _ => exact hj
            · match k, hk with
              | 0, _ => simp [wpOs0]
              | 1, _ => simp [wpOs0]
            · match k, hk with
              | 0, _ => simp [lookI]
              | 1, _ =>
                have : Nat.beq i j = false := by
                  cases hb : Nat.beq i j with
                  | false => rfl
                  | true => exact absurd (Nat.eq_of_beq_eq_true hb) hij
                simp [lookI, this]
        · cases h
    · cases h
  · cases h
theorem wpMtN_ok (args : List SV) (ob : Nat → SO) (p : WpP) (ms : List Nat) (h : wpMtN args ob = some (p, ms)) : MtOk wpMtN wpArgs wpOsN0 args ob p ms := by
  unfold wpMtN at h
  split at h
  · rename_i i o n wd
    cases o with
    | succ o => simp only at h; cases h
    | zero =>
    simp only at h
    split at h
    · rename_i t x hi
      cases ht : Nat.beq t 99 with
      | false => rw [ht] at h; cases h
      | true =>
        rw [ht] at h
        have ht := Nat.eq_of_beq_eq_true ht
        subst ht
        simp only at h
        cases hx : isNilS x with
        | false => rw [hx] at h; cases h
        | true =>
          rw [hx] at h
          have hx := isNilS_eq hx
          subst hx
          cases h
          refine ⟨fun n => rfl, rfl, fun n k hk => ?_, fun k hk => ?_, fun k hk => ?_⟩
          · match k, hk with
            | 0, _ => exact hi
          · match k, hk with
            | 0, _ => simp [wpOsN0]
          · match k, hk with
            | 0, _ => simp [lookI]
    · cases h
  · cases h
theorem put_mth : RunOk Try.prog false 115 (mrun (wpMt) (fun p => wpPre p.l p.wd) (wpX) (wpOs) (fun _ => [1])) := by
  obtain ⟨G, hG⟩ : ∃ G : List (FuncId × Ctr), G = [] := ⟨_, rfl⟩
  refine mth_ok (ck := true) [] iok_nil [] trivial (by unfold FnOk; kernel_rfl) Try.func115 rfl tt_ok (G := G) (by rw [hG]; exact trivial) mixed (by kernel_rfl) (wpArgs) (wpOs0) [] [] rfl (fun _ => by simp [wpOs0]) wpMt_ok ?_
  intro p hp hs
  obtain ⟨l, n, wd⟩ := p
  obtain ⟨g, r, w, us, h1, h2⟩ := hs
  have HS := Lib.hid True.intro
  have hp : (1 ≤ wd ∧ wd ≤ 8) ∧ (l.length : Int) ≤ 140737488355300 := hp
  have HP := Lib.hid hp
  clear hp h1 h2
  dsimp only [wpArgs, wpOs0, wpOs, wpX] at *
  generalize hA : std = A
  subst hG
  generalize h_c : ci = c
  generalize h_fL : wpL = fL
  obtain ⟨S, hS⟩ : ∃ S : Nat → List Int, ∀ k, S k = l ++ putK n wd k := ⟨_, fun _ => rfl⟩
  obtain ⟨T, hT⟩ : ∃ T : Nat → Int, ∀ k : Nat, T k = wd - 1 - (k : Int) := ⟨_, fun _ => rfl⟩
  have HSS := Lib.hid hS
  have HT := Lib.hid hT
  clear hS hT
  cbv
  (repeat' (first | apply And.intro | apply BrB.mk | apply BrP.mk | intro _))
  all_goals try (refine loop_nil [.cell 0 0 5 .u8] Nat 7 (fun k => [(6, .v (.int .i64 (T k)))]) (fun k o => o.set 1 (.irow 5 .u8 (S k))) (fun k => (k : Int) ≤ wd) (fun k => wd.toNat - k) 0 ?h0 ?hle ?round)
  case h0 => exact (show ((0 : Nat) : Int) ≤ wd from by have := HP.out; omega)
  case hle =>
    cbv
    (repeat' (first | apply And.intro | apply BrB.mk | apply BrP.mk | intro _))
    (all_goals (subst hA; subst h_c; subst h_fL); all_goals (have f_hs := HS.out; have f_hp := HP.out); all_goals (try simp only [std, stdBin, stdCmp, stdUna, stdIn, ci, beq_iff_eq, bne_iff_ne, beq_eq_false_iff_ne, bne_eq_false_iff_eq, decide_eq_true_eq, decide_eq_false_iff_not, Bool.not_true, Bool.not_false, Bool.not_eq_true', Bool.not_eq_false', Bool.not_not, tn0, tn1, tn2, tn3] at *); all_goals (try omega))
    all_goals (have t0 : T 0 = wd - 1 - ((0 : Nat) : Int) := HT.out 0; have s0 := HSS.out 0)
    all_goals first
      | exact True.intro
      | (rw [s0, putK]; simp; done)
      | (rw [s0, putK]; rfl)
      | exact congrArg (Value.int .i64) (by omega)
      | trace_state
  case round =>
    intro k hk
    cbv
    (repeat' (first | apply And.intro | apply BrB.mk | apply BrP.mk | intro _))
    all_goals try (refine ⟨k + 1, ?_, ?_, ?_⟩)
    all_goals try (show AS.le _ _; cbv; (repeat' (first | apply And.intro | apply BrB.mk | apply BrP.mk | intro _)))
    (all_goals (subst hA; subst h_c; subst h_fL); all_goals (have f_hs := HS.out; have f_hp := HP.out); all_goals (try simp only [std, stdBin, stdCmp, stdUna, stdIn, ci, beq_iff_eq, bne_iff_ne, beq_eq_false_iff_ne, bne_eq_false_iff_eq, decide_eq_true_eq, decide_eq_false_iff_not, Bool.not_true, Bool.not_false, Bool.not_eq_true', Bool.not_eq_false', Bool.not_not, tn0, tn1, tn2, tn3] at *); all_goals (try omega))
    all_goals (have hk' : (k : Int) ≤ wd := hk; have t1 : T k = wd - 1 - (k : Int) := HT.out k; have t2 : T (k + 1) = wd - 1 - ((k + 1 : Nat) : Int) := HT.out (k + 1); have s1 := HSS.out k; have s2 := HSS.out (k + 1); have l1 : (S k).length = l.length + k := (by rw [s1]; simp [putK_len]); have h9 : (l.length : Int) ≤ 140737488355300 := f_hp.2)
    all_goals first
      | exact True.intro
      | omega
      | (show ((k + 1 : Nat) : Int) ≤ wd; omega)
      | (simp only [List.length_singleton, l1]; omega)
      | (show Value.int .i64 _ = Value.int .i64 (T (k + 1)); exact congrArg (Value.int .i64) (by omega))
      | (show _ = S (k + 1); rw [s2, putK, ← List.append_assoc, ← s1, t1]; rfl)
      | (show ((S k).length + 1 : Int) * 1 ≤ _ ∧ _; rw [l1]; push_cast; omega)
      | (have e : (k : Int) = wd := (by omega); show S k = _; rw [s1]; unfold wpL; have e2 : wd.toNat = k := (by omega); rw [e2])
      | trace_state
  (all_goals (subst hA; subst h_c; subst h_fL); all_goals (have f_hs := HS.out; have f_hp := HP.out); all_goals (try simp only [std, stdBin, stdCmp, stdUna, stdIn, ci, beq_iff_eq, bne_iff_ne, beq_eq_false_iff_ne, bne_eq_false_iff_eq, decide_eq_true_eq, decide_eq_false_iff_not, Bool.not_true, Bool.not_false, Bool.not_eq_true', Bool.not_eq_false', Bool.not_not, tn0, tn1, tn2, tn3] at *); all_goals (try omega))
  all_goals trace_state
theorem putN_mth : RunOk Try.prog false 115 (mrun (wpMtN) (fun p => wpPre [] p.wd) (wpX) (wpOsN) (fun _ => [])) := by
  obtain ⟨G, hG⟩ : ∃ G : List (FuncId × Ctr), G = [] := ⟨_, rfl⟩
  refine mth_ok (ck := true) [] iok_nil [] trivial (by unfold FnOk; kernel_rfl) Try.func115 rfl tt_ok (G := G) (by rw [hG]; exact trivial) mixed (by kernel_rfl) (wpArgs) (wpOsN0) [] [] rfl (fun _ => by simp [wpOsN0]) wpMtN_ok ?_
  intro p hp hs
  obtain ⟨l, n, wd⟩ := p
  obtain ⟨g, r, w, us, h1, h2⟩ := hs
  have HS := Lib.hid True.intro
  have hp : (1 ≤ wd ∧ wd ≤ 8) ∧ (([] : List Int).length : Int) ≤ 140737488355300 := hp
  have HP := Lib.hid hp
  clear hp h1 h2
  dsimp only [wpArgs, wpOsN0, wpOsN, wpX] at *
  generalize hA : std = A
  subst hG
  generalize h_c : ci = c
  generalize h_fL : wpL = fL
  obtain ⟨S, hS⟩ : ∃ S : Nat → List Int, ∀ k, S k = [] ++ putK n wd k := ⟨_, fun _ => rfl⟩
  obtain ⟨T, hT⟩ : ∃ T : Nat → Int, ∀ k : Nat, T k = wd - 1 - (k : Int) := ⟨_, fun _ => rfl⟩
  have HSS := Lib.hid hS
  have HT := Lib.hid hT
  clear hS hT
  cbv
  (repeat' (first | apply And.intro | apply BrB.mk | apply BrP.mk | intro _))
  all_goals try (refine loop_nil [.cell 0 0 5 .u8] Nat 7 (fun k => [(6, .v (.int .i64 (T k)))]) (fun k o => o.set 1 (.irow 5 .u8 (S k))) (fun k => (k : Int) ≤ wd) (fun k => wd.toNat - k) 0 ?h0 ?hle ?round)
  case h0 => exact (show ((0 : Nat) : Int) ≤ wd from by have := HP.out; omega)
  case hle =>
    cbv
    (repeat' (first | apply And.intro | apply BrB.mk | apply BrP.mk | intro _))
    (all_goals (subst hA; subst h_c; subst h_fL); all_goals (have f_hs := HS.out; have f_hp := HP.out); all_goals (try simp only [std, stdBin, stdCmp, stdUna, stdIn, ci, beq_iff_eq, bne_iff_ne, beq_eq_false_iff_ne, bne_eq_false_iff_eq, decide_eq_true_eq, decide_eq_false_iff_not, Bool.not_true, Bool.not_false, Bool.not_eq_true', Bool.not_eq_false', Bool.not_not, tn0, tn1, tn2, tn3] at *); all_goals (try omega))
    all_goals (have t0 : T 0 = wd - 1 - ((0 : Nat) : Int) := HT.out 0; have s0 := HSS.out 0)
    all_goals first
      | exact True.intro
      | (rw [s0, putK]; simp; done)
      | (rw [s0, putK]; rfl)
      | exact congrArg (Value.int .i64) (by omega)
      | trace_state
  case round =>
    intro k hk
    cbv
    (repeat' (first | apply And.intro | apply BrB.mk | apply BrP.mk | intro _))
    all_goals try (refine ⟨k + 1, ?_, ?_, ?_⟩)
    all_goals try (show AS.le _ _; cbv; (repeat' (first | apply And.intro | apply BrB.mk | apply BrP.mk | intro _)))
    (all_goals (subst hA; subst h_c; subst h_fL); all_goals (have f_hs := HS.out; have f_hp := HP.out); all_goals (try simp only [std, stdBin, stdCmp, stdUna, stdIn, ci, beq_iff_eq, bne_iff_ne, beq_eq_false_iff_ne, bne_eq_false_iff_eq, decide_eq_true_eq, decide_eq_false_iff_not, Bool.not_true, Bool.not_false, Bool.not_eq_true', Bool.not_eq_false', Bool.not_not, tn0, tn1, tn2, tn3] at *); all_goals (try omega))
    all_goals (have hk' : (k : Int) ≤ wd := hk; have t1 : T k = wd - 1 - (k : Int) := HT.out k; have t2 : T (k + 1) = wd - 1 - ((k + 1 : Nat) : Int) := HT.out (k + 1); have s1 := HSS.out k; have s2 := HSS.out (k + 1); have l1 : (S k).length = 0 + k := (by rw [s1]; simp [putK_len]); have h9 : ((0 : Nat) : Int) ≤ 140737488355300 := f_hp.2)
    all_goals first
      | exact True.intro
      | omega
      | (show ((k + 1 : Nat) : Int) ≤ wd; omega)
      | (simp only [List.length_singleton, l1]; omega)
      | (show Value.int .i64 _ = Value.int .i64 (T (k + 1)); exact congrArg (Value.int .i64) (by omega))
      | (show _ = S (k + 1); rw [s2, putK, ← List.append_assoc, ← s1, t1]; rfl)
      | (show ((S k).length + 1 : Int) * 1 ≤ _ ∧ _; rw [l1]; push_cast; omega)
      | (have e : (k : Int) = wd := (by omega); show S k = _; rw [s1]; unfold wpL; have e2 : wd.toNat = k := (by omega); rw [e2])
      | trace_state
  (all_goals (subst hA; subst h_c; subst h_fL); all_goals (have f_hs := HS.out; have f_hp := HP.out); all_goals (try simp only [std, stdBin, stdCmp, stdUna, stdIn, ci, beq_iff_eq, bne_iff_ne, beq_eq_false_iff_ne, bne_eq_false_iff_eq, decide_eq_true_eq, decide_eq_false_iff_not, Bool.not_true, Bool.not_false, Bool.not_eq_true', Bool.not_eq_false', Bool.not_not, tn0, tn1, tn2, tn3] at *); all_goals (try omega))
  all_goals trace_state
end Go.Proofs.Ytekokhlldcmjfaa
/- Layer 3: a writer's methods: bytes as they are; all of them. -/
namespace Go.Proofs.Ytekokhlldcmjfaa
open Go.RowKit
set_option maxRecDepth 20000
set_option linter.unusedSimpArgs false
set_option linter.unusedVariables false
set_option maxHeartbeats 16000000
set_option cbv.maxSteps 10000000
/-- A writer's bytes, and others. -/
structure WbP where
  l : List Int
  b : List Int
def wbL (l b : List Int) : List Int := l ++ b
def wbPre (l b : List Int) : Prop := ((l.length : Int) + (b.length : Int)) ≤ 140737488355328
def wbArgs (p : WbP) : List SV := [.ptr 0 0, .iimm .u8 p.b]
def wyArgs (p : WbP) : List SV := [.ptr 0 0]
def wbOs0 (p : WbP) : List SO := [.cells 99 [.hdl 1], .irow 5 .u8 p.l]
def wbOsN0 (p : WbP) : List SO := [.cells 99 [.v (.slice none 0 0)]]
def wbOs (p : WbP) : List SO := [.cells 99 [.hdl 1], .irow 5 .u8 (wbL p.l p.b)]
def wbOsE (p : WbP) : List SO := [.cells 99 [.hdl 1], .irow 5 .u8 (wbL [] p.b)]
def wyOs (p : WbP) : List SO := [.cells 99 [.hdl 1], .irow 5 .u8 p.l, .irow 5 .u8 p.l]
def wyOsN (p : WbP) : List SO := [.cells 99 [.v (.slice none 0 0)], .irow 5 .u8 []]
def wbX (p : WbP) : SV := .tup []
def wyX (p : WbP) : SV := .hdl 2
def wyXN (p : WbP) : SV := .hdl 1
def wbMt (args : List SV) (ob : Nat → SO) : Option (WbP × List Nat) := match args with
  | [.ptr i o, .iimm .u8 b] => match o with
    | 0 => match ob i with
      | .cells t [.hdl j] => match Nat.beq t 99 with
        | true => match ob j with
          | .irow E .u8 l => match Nat.beq E 5 with
            | true => some (⟨l, b⟩, [i, j])
            | false => none
          | _ => none
        | false => none
      | _ => none
    | _ + 1 => none
  | _ => none
def wbMtN (args : List SV) (ob : Nat → SO) : Option (WbP × List Nat) := match args with
  | [.ptr i o, .iimm .u8 b] => match o with
    | 0 => match ob i with
      | .cells t [x] => match Nat.beq t 99 with
        | true => match isNilS x with
          | true => some (⟨[], b⟩, [i])
          | false => none
        | false => none
      | _ => none
    | _ + 1 => none
  | _ => none
def wyMt (args : List SV) (ob : Nat → SO) : Option (WbP × List Nat) := match args with
  | [.ptr i o] => match o with
    | 0 => match ob i with
      | .cells t [.hdl j] => match Nat.beq t 99 with
        | true => match ob j with
          | .irow E .u8 l => match Nat.beq E 5 with
            | true => some (⟨l, []⟩, [i, j])
            | false => none
          | _ => none
        | false => none
      | _ => none
    | _ + 1 => none
  | _ => none
def wyMtN (args : List SV) (ob : Nat → SO) : Option (WbP × List Nat) := match args with
  | [.ptr i o] => match o with
    | 0 => match ob i with
      | .cells t [x] => match Nat.beq t 99 with
        | true => match isNilS x with
          | true => some (⟨[], []⟩, [i])
          | false => none
        | false => none
      | _ => none
    | _ + 1 => none
  | _ => none
theorem wbMt_ok (args : List SV) (ob : Nat → SO) (p : WbP) (ms : List Nat) (h : wbMt args ob = some (p, ms)) : MtOk wbMt wbArgs wbOs0 args ob p ms := by
  unfold wbMt at h
  split at h
  · rename_i i o b
    cases o with
    | succ o => simp only at h; cases h
    | zero =>
    simp only at h
    split at h
    · rename_i t j hi
      cases ht : Nat.beq t 99 with
      | false => rw [ht] at h; cases h
      | true =>
        rw [ht] at h
        have ht := Nat.eq_of_beq_eq_true ht
        subst ht
        simp only at h
        split at h
        · rename_i E l hj
          cases hE : Nat.beq E 5 with
          | false => rw [hE] at h; cases h
          | true =>
            rw [hE] at h
            have hE := Nat.eq_of_beq_eq_true hE
            subst hE
            cases h
            have hij : i ≠ j := by
              intro e
              subst e
              rw [hi] at hj
              cases hj
            refine ⟨fun n => rfl, rfl, fun n k hk => ?_, fun k hk => ?_, fun k hk => ?_⟩
            · match k, hk with
              | 0, _ => exact hi
              | 1, _ => exact hj
            · match k, hk with
              | 0, _ => simp [wbOs0]
              | 1, _ => simp [wbOs0]
            · match k, hk with
              | 0, _ => simp [lookI]
              | 1, _ =>
                have : Nat.beq i j = false := by
                  cases hb : Nat.beq i j with
                  | false => rfl
                  | true => exact absurd (Nat.eq_of_beq_eq_true hb) hij
                simp [lookI, this]
        · cases h
    · cases h
  · cases h
theorem wbMtN_ok (args : List SV) (ob : Nat → SO) (p : WbP) (ms : List Nat) (h : wbMtN args ob = some (p, ms)) : MtOk wbMtN wbArgs wbOsN0 args ob p ms := by
  unfold wbMtN at h
  split at h
  · rename_i i o b
    cases o with
    | succ o => simp only at h; cases h
    | zero =>
    simp only at h
    split at h
    · rename_i t x hi
      cases ht : Nat.beq t 99 with
      | false => rw [ht] at h; cases h
      | true =>
        rw [ht] at h
        have ht := Nat.eq_of_beq_eq_true ht
        subst ht
        simp only at h
        cases hx : isNilS x with
        | false => rw [hx] at h; cases h
        | true =>
          rw [hx] at h
          have hx := isNilS_eq hx
          subst hx
          cases h
          refine ⟨fun n => rfl, rfl, fun n k hk => ?_, fun k hk => ?_, fun k hk => ?_⟩
          · match k, hk with
            | 0, _ => exact hi
          · match k, hk with
            | 0, _ => simp [wbOsN0]
          · match k, hk with
            | 0, _ => simp [lookI]
    · cases h
  · cases h
theorem wyMt_ok (args : List SV) (ob : Nat → SO) (p : WbP) (ms : List Nat) (h : wyMt args ob = some (p, ms)) : MtOk wyMt wyArgs wbOs0 args ob p ms := by
  unfold wyMt at h
  split at h
  · rename_i i o
    cases o with
    | succ o => simp only at h; cases h
    | zero =>
    simp only at h
    split at h
    · rename_i t j hi
      cases ht : Nat.beq t 99 with
      | false => rw [ht] at h; cases h
      | true =>
        rw [ht] at h
        have ht := Nat.eq_of_beq_eq_true ht
        subst ht
        simp only at h
        split at h
        · rename_i E l hj
          cases hE : Nat.beq E 5 with
          | false => rw [hE] at h; cases h
          | true =>
            rw [hE] at h
            have hE := Nat.eq_of_beq_eq_true hE
            subst hE
            cases h
            have hij : i ≠ j := by
              intro e
              subst e
              rw [hi] at hj
              cases hj
            refine ⟨fun n => rfl, rfl, fun n k hk => ?_, fun k hk => ?_, fun k hk => ?_⟩
            · match k, hk with
              | 0, _ => exact hi
              | 1, _ => exact hj
            · match k, hk with
              | 0, _ => simp [wbOs0]
              | 1, _ => simp [wbOs0]
            · match k, hk with
              | 0, _ => simp [lookI]
              | 1, _ =>
                have : Nat.beq i j = false := by
                  cases hb : Nat.beq i j with
                  | false => rfl
                  | true => exact absurd (Nat.eq_of_beq_eq_true hb) hij
                simp [lookI, this]
        · cases h
    · cases h
  · cases h
theorem wyMtN_ok (args : List SV) (ob : Nat → SO) (p : WbP) (ms : List Nat) (h : wyMtN args ob = some (p, ms)) : MtOk wyMtN wyArgs wbOsN0 args ob p ms := by
  unfold wyMtN at h
  split at h
  · rename_i i o
    cases o with
    | succ o => simp only at h; cases h
    | zero =>
    simp only at h
    split at h
    · rename_i t x hi
      cases ht : Nat.beq t 99 with
      | false => rw [ht] at h; cases h
      | true =>
        rw [ht] at h
        have ht := Nat.eq_of_beq_eq_true ht
        subst ht
        simp only at h
        cases hx : isNilS x with
        | false => rw [hx] at h; cases h
        | true =>
          rw [hx] at h
          have hx := isNilS_eq hx
          subst hx
          cases h
          refine ⟨fun n => rfl, rfl, fun n k hk => ?_, fun k hk => ?_, fun k hk => ?_⟩
          · match k, hk with
            | 0, _ => exact hi
          · match k, hk with
            | 0, _ => simp [wbOsN0]
          · match k, hk with
            | 0, _ => simp [lookI]
    · cases h
  · cases h
theorem wraw_mth : RunOk Try.prog false 73 (mrun (wbMt) (fun p => wbPre p.l p.b) (wbX) (wbOs) (fun _ => [1])) := by
  obtain ⟨G, hG⟩ : ∃ G : List (FuncId × Ctr), G = [] := ⟨_, rfl⟩
  refine mth_ok (ck := true) [] iok_nil [] trivial (by unfold FnOk; kernel_rfl) Try.func73 rfl tt_ok (G := G) (by rw [hG]; exact trivial) mixed (by kernel_rfl) (wbArgs) (wbOs0) [] [] rfl (fun _ => by simp [wbOs0]) wbMt_ok ?_
  intro p hp hs
  obtain ⟨l, b⟩ := p
  obtain ⟨g, r, w, us, h1, h2⟩ := hs
  have HS := Lib.hid True.intro
  have hp : ((l.length : Int) + (b.length : Int)) ≤ 140737488355328 := hp
  have HP := Lib.hid hp
  clear hp h1 h2
  dsimp only [wbArgs, wbOs0, wbOs, wbX] at *
  generalize hA : std = A
  subst hG
  generalize h_c : ci = c
  generalize h_fL : wbL = fL
  cbv
  (repeat' (first | apply And.intro | apply BrB.mk | apply BrP.mk | intro _))
  (all_goals (subst hA; subst h_c; subst h_fL); all_goals (have f_hs := HS.out; have f_hp := HP.out); all_goals (try simp only [std, stdBin, stdCmp, stdUna, stdIn, ci, beq_iff_eq, bne_iff_ne, beq_eq_false_iff_ne, bne_eq_false_iff_eq, decide_eq_true_eq, decide_eq_false_iff_not, Bool.not_true, Bool.not_false, Bool.not_eq_true', Bool.not_eq_false', Bool.not_not, tn0, tn1, tn2, tn3, lenP, sameL] at *); all_goals (try omega))
  · (have h9 : ((l.length : Nat) : Int) + ((b.length : Nat) : Int) ≤ 140737488355328 := f_hp
     show (((l.length : Nat) : Int) + ((b.length : Nat) : Int)) * ((1 : Nat) : Int) ≤ 140737488355328 ∧ ((l.length : Nat) : Int) + ((b.length : Nat) : Int) ≤ 281474976710656
     constructor <;> omega)
  · rfl
theorem wrawN_mth : RunOk Try.prog false 73 (mrun (wbMtN) (fun p => wbPre [] p.b) (wbX) (wbOsE) (fun _ => [])) := by
  obtain ⟨G, hG⟩ : ∃ G : List (FuncId × Ctr), G = [] := ⟨_, rfl⟩
  refine mth_ok (ck := true) [] iok_nil [] trivial (by unfold FnOk; kernel_rfl) Try.func73 rfl tt_ok (G := G) (by rw [hG]; exact trivial) mixed (by kernel_rfl) (wbArgs) (wbOsN0) [.cell 0 0 5 .u8] [] rfl (fun _ => by simp [wbOsN0]) wbMtN_ok ?_
  intro p hp hs
  obtain ⟨l, b⟩ := p
  obtain ⟨g, r, w, us, h1, h2⟩ := hs
  have HS := Lib.hid True.intro
  have hp : ((([] : List Int).length : Int) + (b.length : Int)) ≤ 140737488355328 := hp
  have HP := Lib.hid hp
  clear hp h1 h2
  dsimp only [wbArgs, wbOsN0, wbOsE, wbX] at *
  generalize hA : std = A
  subst hG
  generalize h_c : ci = c
  generalize h_fL : wbL = fL
  cbv
  (repeat' (first | apply And.intro | apply BrB.mk | apply BrP.mk | intro _))
  (all_goals (subst hA; subst h_c; subst h_fL); all_goals (have f_hs := HS.out; have f_hp := HP.out); all_goals (try simp only [std, stdBin, stdCmp, stdUna, stdIn, ci, beq_iff_eq, bne_iff_ne, beq_eq_false_iff_ne, bne_eq_false_iff_eq, decide_eq_true_eq, decide_eq_false_iff_not, Bool.not_true, Bool.not_false, Bool.not_eq_true', Bool.not_eq_false', Bool.not_not, tn0, tn1, tn2, tn3, lenP, sameL] at *); all_goals (try omega))
  · (have h9 : ((0 : Nat) : Int) + ((b.length : Nat) : Int) ≤ 140737488355328 := f_hp
     show ((b.length : Nat) : Int) * ((1 : Nat) : Int) ≤ 140737488355328 ∧ ((b.length : Nat) : Int) ≤ 281474976710656
     constructor <;> omega)
  · rfl
theorem wbytes_mth : RunOk Try.prog false 78 (mrun (wyMt) (fun p => wbPre p.l []) (wyX) (wyOs) (fun _ => [])) := by
  obtain ⟨G, hG⟩ : ∃ G : List (FuncId × Ctr), G = [(118, rowP [.sl (.int .u8)] 5 .u8 (lenP 1) sameL)] := ⟨_, rfl⟩
  refine mth_ok (ck := true) [] iok_nil [] trivial (by unfold FnOk; kernel_rfl) Try.func78 rfl tt_ok (G := G) (by rw [hG]; exact ⟨⟨cloneB_ok, by unfold FnOk; kernel_rfl⟩, trivial⟩) mixed (by kernel_rfl) (wyArgs) (wbOs0) [] [] rfl (fun _ => by simp [wbOs0]) wyMt_ok ?_
  intro p hp hs
  obtain ⟨l, b⟩ := p
  obtain ⟨g, r, w, us, h1, h2⟩ := hs
  have HS := Lib.hid True.intro
  have hp : ((l.length : Int) + (([] : List Int).length : Int)) ≤ 140737488355328 := hp
  have HP := Lib.hid hp
  clear hp h1 h2
  dsimp only [wyArgs, wbOs0, wyOs, wyX] at *
  generalize hA : std = A
  subst hG
  generalize h_c : ci = c
  generalize h_fl : lenP 1 = fl
  generalize h_fc : sameL = fc
  cbv
  (repeat' (first | apply And.intro | apply BrB.mk | apply BrP.mk | intro _))
  (all_goals (subst hA; subst h_c; subst h_fl; subst h_fc); all_goals (have f_hs := HS.out; have f_hp := HP.out); all_goals (try simp only [std, stdBin, stdCmp, stdUna, stdIn, ci, beq_iff_eq, bne_iff_ne, beq_eq_false_iff_ne, bne_eq_false_iff_eq, decide_eq_true_eq, decide_eq_false_iff_not, Bool.not_true, Bool.not_false, Bool.not_eq_true', Bool.not_eq_false', Bool.not_not, tn0, tn1, tn2, tn3, lenP, sameL] at *); all_goals (try omega))
  · (have h9 : ((l.length : Nat) : Int) + ((0 : Nat) : Int) ≤ 140737488355328 := f_hp
     show ((l.length : Nat) : Int) * ((1 : Nat) : Int) ≤ 140737488355328
     omega)
theorem wbytesN_mth : RunOk Try.prog false 78 (mrun (wyMtN) (fun p => True) (wyXN) (wyOsN) (fun _ => [])) := by
  obtain ⟨G, hG⟩ : ∃ G : List (FuncId × Ctr), G = [(118, rowP [.sl (.int .u8)] 5 .u8 (lenP 1) sameL)] := ⟨_, rfl⟩
  refine mth_ok (ck := true) [] iok_nil [] trivial (by unfold FnOk; kernel_rfl) Try.func78 rfl tt_ok (G := G) (by rw [hG]; exact ⟨⟨cloneB_ok, by unfold FnOk; kernel_rfl⟩, trivial⟩) mixed (by kernel_rfl) (wyArgs) (wbOsN0) [.slot 0 5 .u8] [] rfl (fun _ => by simp [wbOsN0]) wyMtN_ok ?_
  intro p hp hs
  obtain ⟨l, b⟩ := p
  obtain ⟨g, r, w, us, h1, h2⟩ := hs
  have HS := Lib.hid True.intro
  have hp : True := hp
  have HP := Lib.hid hp
  clear hp h1 h2
  dsimp only [wyArgs, wbOsN0, wyOsN, wyXN] at *
  generalize hA : std = A
  subst hG
  generalize h_c : ci = c
  generalize h_fl : lenP 1 = fl
  generalize h_fc : sameL = fc
  cbv
  (repeat' (first | apply And.intro | apply BrB.mk | apply BrP.mk | intro _))
  (all_goals (subst hA; subst h_c; subst h_fl; subst h_fc); all_goals (have f_hs := HS.out; have f_hp := HP.out); all_goals (try simp only [std, stdBin, stdCmp, stdUna, stdIn, ci, beq_iff_eq, bne_iff_ne, beq_eq_false_iff_ne, bne_eq_false_iff_eq, decide_eq_true_eq, decide_eq_false_iff_not, Bool.not_true, Bool.not_false, Bool.not_eq_true', Bool.not_eq_false', Bool.not_not, tn0, tn1, tn2, tn3, lenP, sameL] at *); all_goals (try omega))
  · decide
theorem wput_ok : RunOk Try.prog false 115 (mor wpMt (mrun (wpMt) (fun p => wpPre p.l p.wd) (wpX) (wpOs) (fun _ => [1])) (mrun (wpMtN) (fun p => wpPre [] p.wd) (wpX) (wpOsN) (fun _ => []))) := mor_ok put_mth putN_mth
theorem wraw_ok : RunOk Try.prog false 73 (mor wbMt (mrun (wbMt) (fun p => wbPre p.l p.b) (wbX) (wbOs) (fun _ => [1])) (mrun (wbMtN) (fun p => wbPre [] p.b) (wbX) (wbOsE) (fun _ => []))) := mor_ok wraw_mth wrawN_mth
theorem wbytes_ok : RunOk Try.prog false 78 (mor wyMt (mrun (wyMt) (fun p => wbPre p.l []) (wyX) (wyOs) (fun _ => [])) (mrun (wyMtN) (fun p => True) (wyXN) (wyOsN) (fun _ => []))) := mor_ok wbytes_mth wbytesN_mth
end Go.Proofs.Ytekokhlldcmjfaa
/- Layer 3: a reader's and a writer's methods: what they do to what is handed to them. -/
namespace Go.Proofs.Ytekokhlldcmjfaa
open Go.RowKit
set_option maxRecDepth 20000
set_option linter.unusedSimpArgs false
set_option linter.unusedVariables false
set_option maxHeartbeats 16000000
set_option cbv.maxSteps 10000000
/-- A reader: bytes, from where, how many, the error; how many are asked for. -/
structure RdP where
  l : List Int
  a : Int
  n : Int
  e : Int
  wd : Int
def rdA (a n e wd : Int) : Int := if e = 0 then (if wd ≤ n then a + wd else 0) else a
def rdN (n e wd : Int) : Int := if e = 0 then (if wd ≤ n then n - wd else 0) else n
def rdE (n e wd : Int) : Int := if e = 0 then (if wd ≤ n then 0 else 4) else e
/-- So many bytes from a place on, as a number. -/
def gF (l : List Int) (a : Int) : Nat → Int
  | 0 => 0
  | k + 1 => stdBin .or .u64 (stdBin .shl .u64 (gF l a k) 8) (l.getD (a + (k : Int)).toNat 0)
def rdV (l : List Int) (a n e wd : Int) : Int := if e = 0 ∧ wd ≤ n then gF l a wd.toNat else 0
def pw8 (wd : Int) : Prop := 0 ≤ wd ∧ wd ≤ 8
def smI (n : Int) : Prop := n ≤ 140737488355328
def smL (l : List Int) : Prop := (l.length : Int) ≤ 140737488355328
def rdMt (args : List SV) (ob : Nat → SO) : Option (RdP × List Nat) := match args with
  | [.ptr i o, .v (.int .i64 wd)] => match o with
    | 0 => match ob i with
      | .cells t [.sub j a n, .v (.int .i64 e)] => match Nat.beq t 141 with
        | true => match ob j with
          | .irow E .u8 l => match Nat.beq E 5 with
            | true => some (⟨l, a, n, e, wd⟩, [i, j])
            | false => none
          | _ => none
        | false => none
      | _ => none
    | _ + 1 => none
  | _ => none
def rdArgs (p : RdP) : List SV := [.ptr 0 0, .v (.int .i64 p.wd)]
def rdOs0 (p : RdP) : List SO := [.cells 141 [.sub 1 p.a p.n, .v (.int .i64 p.e)], .irow 5 .u8 p.l]
def rdOs (p : RdP) : List SO := [.cells 141 [.sub 1 (rdA p.a p.n p.e p.wd) (rdN p.n p.e p.wd), .v (.int .i64 (rdE p.n p.e p.wd))], .irow 5 .u8 p.l]
def rdX (p : RdP) : SV := .v (.int .u64 (rdV p.l p.a p.n p.e p.wd))
theorem rdMt_ok (args : List SV) (ob : Nat → SO) (p : RdP) (ms : List Nat) (h : rdMt args ob = some (p, ms)) : MtOk rdMt rdArgs rdOs0 args ob p ms := by
  unfold rdMt at h
  split at h
  · rename_i i o wd
    cases o with
    | succ o => simp only at h; cases h
    | zero =>
    simp only at h
    split at h
    · rename_i t j a n e hi
      cases ht : Nat.beq t 141 with
      | false => rw [ht] at h; cases h
      | true =>
        rw [ht] at h
        have ht := Nat.eq_of_beq_eq_true ht
        subst ht
        simp only at h
        split at h
        · rename_i E l hj
          cases hE : Nat.beq E 5 with
          | false => rw [hE] at h; cases h
          | true =>
            rw [hE] at h
            have hE := Nat.eq_of_beq_eq_true hE
            subst hE
            cases h
            have hij : i ≠ j := by
              intro e
              subst e
              rw [hi] at hj
              cases hj
            refine ⟨fun n => rfl, rfl, fun n k hk => ?_, fun k hk => ?_, fun k hk => ?_⟩
            · match k, hk with
              | 0, _ => exact hi
              | 1, _ => exact hj
            · match k, hk with
              | 0, _ => simp [rdOs0]
              | 1, _ => simp [rdOs0]
            · match k, hk with
              | 0, _ => simp [lookI]
              | 1, _ =>
                have : Nat.beq i j = false := by
                  cases hb : Nat.beq i j with
                  | false => rfl
                  | true => exact absurd (Nat.eq_of_beq_eq_true hb) hij
                simp [lookI, this]
        · cases h
    · cases h
  · cases h
theorem rd_facts {g : World} {r : Nat → Option Value} {w : World} {t E : TypeId} {l : List Int} {a n e : Int} (h : ∀ k, k < 2 → ∃ q, r k = some q ∧ (([.cells t [.sub 1 a n, .v (.int .i64 e)], .irow E .u8 l] : List SO).getD k .gone).Is g r w 0 q) : (0 ≤ a ∧ 0 ≤ n ∧ a + n ≤ ci l.length) ∧ (Fits .u8 l ∧ ci l.length ≤ 140737488355328 ∨ True) := by
  obtain ⟨q0, h1, h2⟩ := h 0 (by decide)
  obtain ⟨q1, h3, h4⟩ := h 1 (by decide)
  obtain ⟨b, cs, _, _, _, h5⟩ := h2
  obtain ⟨hown, hf⟩ := h4
  simp only [LsIs] at h5
  obtain ⟨u, us, e1, h6, _⟩ := h5
  simp only [SV.Is] at h6
  obtain ⟨ao, m, c, h7, h8, h9, h10, _⟩ := h6
  rw [h3] at h7
  have hm : (m : Int) = l.length := by
    obtain ⟨_, _, he, _⟩ := holds_ownM hown
    rw [kv_len] at he
    rw [Option.some.inj h7] at he
    injection he with _ e2 _
    exact congrArg (fun x : Nat => (x : Int)) e2
  exact ⟨⟨h8, h9, by rw [hm] at h10; exact h10⟩, .inr trivial⟩
theorem get_mth : RunOk Try.prog false 124 (mrun (rdMt) (fun p => pw8 p.wd) (rdX) (rdOs) (fun _ => [])) := by
  obtain ⟨G, hG⟩ : ∃ G : List (FuncId × Ctr), G = [] := ⟨_, rfl⟩
  refine mth_ok (ck := false) [] iok_nil [(123, Try.f123)] ⟨⟨Try.func123, by unfold FnOk; kernel_rfl, by kernel_rfl⟩, trivial⟩ (by unfold FnOk; kernel_rfl) Try.func124 rfl tt_ok (G := G) (by rw [hG]; exact trivial) mixed (by kernel_rfl) (rdArgs) (rdOs0) [] [.sub 0 0 1] rfl (fun _ => by simp [rdOs0]) rdMt_ok ?_
  intro p hp hs
  obtain ⟨l, a, n, e, wd⟩ := p
  obtain ⟨g, r, w, us, h1, h2⟩ := hs
  have HS := Lib.hid (rd_facts h2)
  have hp : 0 ≤ wd ∧ wd ≤ 8 := hp
  have HP := Lib.hid hp
  clear hp h1 h2
  dsimp only [rdArgs, rdOs0, rdOs, rdX] at *
  generalize hA : std = A
  subst hG
  generalize h_c : ci = c
  generalize h_fV : rdV = fV
  generalize h_fA : rdA = fA
  generalize h_fN : rdN = fN
  generalize h_fE : rdE = fE
  generalize h_fG : gF = fG
  obtain ⟨S, hS⟩ : ∃ S : Nat → Int, ∀ k, S k = gF l a k := ⟨_, fun _ => rfl⟩
  have HSS := Lib.hid hS
  clear hS
  cbv
  (repeat' (first | apply And.intro | apply BrB.mk | apply BrP.mk | intro _))
  all_goals try (refine loop_at Nat 20 (fun j => [(7, .v (.int .u64 (S j))), (9, .any), (20, .v (.int .i64 (c j)))]) (fun j o => o) (fun j => (j : Int) ≤ wd) (fun j => wd.toNat - j) 0 ?h0 ?hle ?round)
  case hle =>
    cbv
    (repeat' (first | apply And.intro | apply BrB.mk | apply BrP.mk | intro _))
    (all_goals (subst hA; subst h_c; subst h_fV; subst h_fA; subst h_fN; subst h_fE; subst h_fG); all_goals (have f_hs := HS.out; have f_hp := HP.out); all_goals (try simp only [std, stdBin, stdCmp, stdUna, stdIn, ci, beq_iff_eq, bne_iff_ne, beq_eq_false_iff_ne, bne_eq_false_iff_eq, decide_eq_true_eq, decide_eq_false_iff_not, Bool.not_true, Bool.not_false, Bool.not_eq_true', Bool.not_eq_false', Bool.not_not, tn0, tn1, tn2, tn3] at *); all_goals (try omega))
    all_goals (have hS := HSS.out)
    all_goals first
      | rfl
      | (rw [hS]; rfl)
  case round =>
    intro j hj
    cbv
    (repeat' (first | apply And.intro | apply BrB.mk | apply BrP.mk | intro _))
    all_goals try (refine ⟨j + 1, ?_, ?_, ?_⟩)
    all_goals try (show AS.le _ _; cbv; (repeat' (first | apply And.intro | apply BrB.mk | apply BrP.mk | intro _)))
    (all_goals (subst hA; subst h_c; subst h_fV; subst h_fA; subst h_fN; subst h_fE; subst h_fG); all_goals (have f_hs := HS.out; have f_hp := HP.out); all_goals (try simp only [std, stdBin, stdCmp, stdUna, stdIn, ci, beq_iff_eq, bne_iff_ne, beq_eq_false_iff_ne, bne_eq_false_iff_eq, decide_eq_true_eq, decide_eq_false_iff_not, Bool.not_true, Bool.not_false, Bool.not_eq_true', Bool.not_eq_false', Bool.not_not, tn0, tn1, tn2, tn3] at *); all_goals (try omega))
    all_goals (have hS := HSS.out)
    all_goals (have hj' : (j : Int) ≤ wd := hj)
    all_goals first
      | omega
      | (show ((j + 1 : Nat) : Int) ≤ wd; have h9 : ((j : Nat) : Int) < wd - 0 := (by assumption); omega)
      | (show Value.int .i64 (IntKind.i64.wrap ((j : Int) + 1)) = Value.int .i64 ((j.succ : Nat) : Int); rw [w64 (by omega) (by omega)]; exact congrArg (Value.int .i64) (by omega))
      | (show Value.int .i64 _ = Value.int .i64 _; refine congrArg (Value.int .i64) ?_; (try simp only [rdE]); repeat' split; all_goals omega)
      | (show _ = rdA a n e wd; simp only [rdA]; repeat' split; all_goals omega)
      | (show _ = rdN n e wd; simp only [rdN]; repeat' split; all_goals omega)
      | (show Value.int .u64 (S j) = Value.int .u64 (rdV l a n e wd); have h9 : ¬ ((j : Nat) : Int) < wd - 0 := (by assumption); have e1 : j = wd.toNat := (by omega); rw [hS, e1]; unfold rdV; rw [if_pos ⟨by omega, by omega⟩])
      | (show Value.int .u64 _ = Value.int .u64 (S j.succ); rw [hS j.succ, hS j]; have e1 : (a + 0 + (j : Int)).toNat = (a + (j : Int)).toNat := (by omega); rw [e1]; rfl)
      | trace_state
  (all_goals (subst hA; subst h_c; subst h_fV; subst h_fA; subst h_fN; subst h_fE; subst h_fG); all_goals (have f_hs := HS.out; have f_hp := HP.out); all_goals (try simp only [std, stdBin, stdCmp, stdUna, stdIn, ci, beq_iff_eq, bne_iff_ne, beq_eq_false_iff_ne, bne_eq_false_iff_eq, decide_eq_true_eq, decide_eq_false_iff_not, Bool.not_true, Bool.not_false, Bool.not_eq_true', Bool.not_eq_false', Bool.not_not, tn0, tn1, tn2, tn3] at *); all_goals (try omega))
  all_goals first
      | omega
      | (show Value.int .i64 _ = Value.int .i64 _; refine congrArg (Value.int .i64) ?_; (try simp only [rdE]); repeat' split; all_goals omega)
      | (show _ = rdA a n e wd; simp only [rdA]; repeat' split; all_goals omega)
      | (show _ = rdN n e wd; simp only [rdN]; repeat' split; all_goals omega)
      | (show Value.int .u64 0 = Value.int .u64 (rdV l a n e wd); unfold rdV; rw [if_neg (by omega)])
      | trace_state
end Go.Proofs.Ytekokhlldcmjfaa
/- Layer 3: a reader's methods that give bytes. -/
namespace Go.Proofs.Ytekokhlldcmjfaa
open Go.RowKit
set_option maxRecDepth 20000
set_option linter.unusedSimpArgs false
set_option linter.unusedVariables false
set_option maxHeartbeats 16000000
set_option cbv.maxSteps 10000000
/-- The bytes that are taken. -/
def rwOk (n e wd : Int) : Bool := decide (0 ≤ wd ∧ e = 0 ∧ wd ≤ n)
def rwL (l : List Int) (a n e wd : Int) : List Int := if 0 ≤ wd ∧ e = 0 ∧ wd ≤ n then std.lsub l a wd else []
def rwA (a n e wd : Int) : Int := if 0 ≤ wd then rdA a n e wd else a
def rwN (n e wd : Int) : Int := if 0 ≤ wd then rdN n e wd else n
def rwE (n e wd : Int) : Int := if 0 ≤ wd then rdE n e wd else e
def rwOs (p : RdP) : List SO := [.cells 141 [.sub 1 (rwA p.a p.n p.e p.wd) (rwN p.n p.e p.wd), .v (.int .i64 (rwE p.n p.e p.wd))], .irow 5 .u8 p.l, .irow 5 .u8 (rwL p.l p.a p.n p.e p.wd)]
def rwX (p : RdP) : SV := .hdl 2
theorem raw_mth : RunOk Try.prog false 87 (mrun (rdMt) (fun p => smI p.n) (rwX) (rwOs) (fun _ => [])) := by
  obtain ⟨G, hG⟩ : ∃ G : List (FuncId × Ctr), G = [(118, rowP [.sl (.int .u8)] 5 .u8 (lenP 1) sameL)] := ⟨_, rfl⟩
  refine mth_ok (ck := false) [] iok_nil [(123, Try.f123)] ⟨⟨Try.func123, by unfold FnOk; kernel_rfl, by kernel_rfl⟩, trivial⟩ (by unfold FnOk; kernel_rfl) Try.func87 rfl tt_ok (G := G) (by rw [hG]; exact ⟨⟨cloneB_ok, by unfold FnOk; kernel_rfl⟩, trivial⟩) mixed (by kernel_rfl) (rdArgs) (rdOs0) [.slot 0 5 .u8] [.sub 0 0 1] rfl (fun _ => by simp [rdOs0]) rdMt_ok ?_
  intro p hp hs
  obtain ⟨l, a, n, e, wd⟩ := p
  obtain ⟨g, r, w, us, h1, h2⟩ := hs
  have HS := Lib.hid (rd_facts h2)
  have hp : n ≤ 140737488355328 := hp
  have HP := Lib.hid hp
  clear hp h1 h2
  dsimp only [rdArgs, rdOs0, rwOs, rwX] at *
  generalize hA : std = A
  subst hG
  generalize h_c : ci = c
  generalize h_fL : rwL = fL
  generalize h_fA : rwA = fA
  generalize h_fN : rwN = fN
  generalize h_fE : rwE = fE
  generalize h_fl : lenP 1 = fl
  generalize h_fc : sameL = fc
  cbv
  (repeat' (first | apply And.intro | apply BrB.mk | apply BrP.mk | intro _))
  (all_goals (subst hA; subst h_c; subst h_fL; subst h_fA; subst h_fN; subst h_fE; subst h_fl; subst h_fc); all_goals (have f_hs := HS.out; have f_hp := HP.out); all_goals (try simp only [std, stdBin, stdCmp, stdUna, stdIn, ci, beq_iff_eq, bne_iff_ne, beq_eq_false_iff_ne, bne_eq_false_iff_eq, decide_eq_true_eq, decide_eq_false_iff_not, Bool.not_true, Bool.not_false, Bool.not_eq_true', Bool.not_eq_false', Bool.not_not, tn0, tn1, tn2, tn3, lenP, sameL] at *); all_goals (try omega))
  all_goals (have z1 : (wd - 0).toNat = wd.toNat := (by omega); have z2 : (a + 0).toNat = a.toNat := (by omega))
  all_goals first
      | omega
      | (show Value.int .i64 _ = Value.int .i64 _; refine congrArg (Value.int .i64) ?_; simp only [rwE, rdE]; repeat' split; all_goals omega)
      | (show _ = rwA a n e wd; simp only [rwA, rdA]; repeat' split; all_goals omega)
      | (show _ = rwN n e wd; simp only [rwN, rdN]; repeat' split; all_goals omega)
      | (show [] = rwL l a n e wd; unfold rwL; rw [if_neg (by omega)])
      | (show _ = rwL l a n e wd; unfold rwL; rw [if_pos ⟨by omega, by omega, by omega⟩, z1, z2]; rfl)
      | (rw [z1, z2]; have z3 := List.length_take_le wd.toNat (List.drop a.toNat l); omega)
      | trace_state
def mx0 (n : Int) : Int := if n > 0 then n else 0
theorem mx0_eq (n : Int) : (if n > 0 then n else 0) = mx0 n := rfl
/-- The reference's reader. -/
structure RmP where
  l : List Int
  e : Int
  wd : Int
def rmMt (args : List SV) (ob : Nat → SO) : Option (RmP × List Nat) := match args with
  | [.ptr i o, .v (.int .i64 wd)] => match o with
    | 0 => match ob i with
      | .cells t [.iimm .u8 l, .v (.int .i64 e)] => match Nat.beq t 122 with
        | true => some (⟨l, e, wd⟩, [i])
        | false => none
      | _ => none
    | _ + 1 => none
  | _ => none
def rmOk (l : List Int) (e wd : Int) : Prop := e = 0 ∧ mx0 wd ≤ l.length
def rmL (l : List Int) (e wd : Int) : List Int := if e = 0 ∧ mx0 wd ≤ l.length then std.lsub l (mx0 wd) (l.length - mx0 wd) else []
def rmE (l : List Int) (e wd : Int) : Int := if e = 0 ∧ mx0 wd ≤ l.length then 0 else 4
def rmR (l : List Int) (e wd : Int) : List Int := if e = 0 ∧ mx0 wd ≤ l.length then std.lsub l 0 (mx0 wd) else []
def rmV (l : List Int) (e wd : Int) : Int := if e = 0 ∧ mx0 wd ≤ l.length then gF l 0 wd.toNat else 0
def rmArgs (p : RmP) : List SV := [.ptr 0 0, .v (.int .i64 p.wd)]
def rmOs0 (p : RmP) : List SO := [.cells 122 [.iimm .u8 p.l, .v (.int .i64 p.e)]]
def rmOs (p : RmP) : List SO := [.cells 122 [.iimm .u8 (rmL p.l p.e p.wd), .v (.int .i64 (rmE p.l p.e p.wd))], .irow 5 .u8 (rmR p.l p.e p.wd)]
def rmX (p : RmP) : SV := .hdl 1
def rmOsN (p : RmP) : List SO := [.cells 122 [.iimm .u8 (rmL p.l p.e p.wd), .v (.int .i64 (rmE p.l p.e p.wd))]]
def rmXN (p : RmP) : SV := .v (.int .u64 (rmV p.l p.e p.wd))
theorem rmMt_ok (args : List SV) (ob : Nat → SO) (p : RmP) (ms : List Nat) (h : rmMt args ob = some (p, ms)) : MtOk rmMt rmArgs rmOs0 args ob p ms := by
  unfold rmMt at h
  split at h
  · rename_i i o wd
    cases o with
    | succ o => simp only at h; cases h
    | zero =>
    simp only at h
    split at h
    · rename_i t l e hi
      cases ht : Nat.beq t 122 with
      | false => rw [ht] at h; cases h
      | true =>
        rw [ht] at h
        have ht := Nat.eq_of_beq_eq_true ht
        subst ht
        cases h
        refine ⟨fun n => rfl, rfl, fun n k hk => ?_, fun k hk => ?_, fun k hk => ?_⟩
        · match k, hk with
          | 0, _ => exact hi
        · match k, hk with
          | 0, _ => simp [rmOs0]
        · match k, hk with
          | 0, _ => simp [lookI]
    · cases h
  · cases h
theorem rm_facts {g : World} {r : Nat → Option Value} {w : World} {t : TypeId} {l : List Int} {e : Int} (h : ∀ k, k < 1 → ∃ q, r k = some q ∧ (([.cells t [.iimm .u8 l, .v (.int .i64 e)]] : List SO).getD k .gone).Is g r w 0 q) : Fits .u8 l ∧ ci l.length ≤ 9223372036854775807 := by
  obtain ⟨q0, h1, h2⟩ := h 0 (by decide)
  obtain ⟨b, cs, _, _, _, h5⟩ := h2
  simp only [LsIs] at h5
  obtain ⟨u, us, e1, h6, _⟩ := h5
  exact svf_ints (svf_is h6)
theorem mx0_nn (n : Int) : 0 ≤ mx0 n := by unfold mx0; split <;> omega
theorem gF_congr {l m : List Int} {a b : Int} : ∀ k : Nat, (∀ i : Nat, i < k → l.getD (a + (i : Int)).toNat 0 = m.getD (b + (i : Int)).toNat 0) → gF l a k = gF m b k
  | 0, _ => rfl
  | k + 1, h => by
    show stdBin .or .u64 (stdBin .shl .u64 (gF l a k) 8) (l.getD (a + (k : Int)).toNat 0) = stdBin .or .u64 (stdBin .shl .u64 (gF m b k) 8) (m.getD (b + (k : Int)).toNat 0)
    rw [gF_congr k (fun i hi => h i (by omega)), h k (by omega)]
theorem rmR_len {l : List Int} {e wd : Int} (h : 0 ≤ wd) : ((rmR l e wd).length : Int) = if e = 0 ∧ mx0 wd ≤ l.length then wd else 0 := by
  have hm : mx0 wd = wd := by unfold mx0; split <;> omega
  unfold rmR
  rw [hm]
  split
  · rename_i hc
    show ((List.take wd.toNat (List.drop 0 l)).length : Int) = wd
    simp only [List.drop_zero, List.length_take]
    omega
  · rfl
theorem rmV_eq {l : List Int} {e wd : Int} (h : 0 ≤ wd) : gF (rmR l e wd) 0 (rmR l e wd).length = rmV l e wd := by
  have hl := rmR_len (l := l) (e := e) h
  have hm : mx0 wd = wd := by unfold mx0; split <;> omega
  unfold rmV
  split
  · rename_i hc
    rw [if_pos hc] at hl
    have e1 : (rmR l e wd).length = wd.toNat := by omega
    rw [e1]
    refine gF_congr _ fun i hi => ?_
    unfold rmR
    rw [if_pos hc, hm]
    show (List.take wd.toNat (List.drop 0 l)).getD _ 0 = _
    simp only [List.drop_zero, List.getD_eq_getElem?_getD]
    rw [List.getElem?_take, if_pos (by omega)]
  · rename_i hc
    rw [if_neg hc] at hl
    have e1 : (rmR l e wd).length = 0 := by omega
    rw [e1]
    rfl
theorem rmraw_mth : RunOk Try.prog false 94 (mrun (rmMt) (fun p => smL p.l) (rmX) (rmOs) (fun _ => [])) := by
  obtain ⟨G, hG⟩ : ∃ G : List (FuncId × Ctr), G = [] := ⟨_, rfl⟩
  refine mth_ok (ck := false) [] iok_nil [] trivial (by unfold FnOk; kernel_rfl) Try.func94 rfl tt_ok (G := G) (by rw [hG]; exact trivial) mixed (by kernel_rfl) (rmArgs) (rmOs0) [.slot 0 5 .u8] [.imm 0 0 .u8] rfl (fun _ => by simp [rmOs0]) rmMt_ok ?_
  intro p hp hs
  obtain ⟨l, e, wd⟩ := p
  obtain ⟨g, r, w, us, h1, h2⟩ := hs
  have HS := Lib.hid (rm_facts h2)
  have hp : (l.length : Int) ≤ 140737488355328 := hp
  have HP := Lib.hid hp
  clear hp h1 h2
  dsimp only [rmArgs, rmOs0, rmOs, rmX] at *
  generalize hA : std = A
  subst hG
  generalize h_c : ci = c
  generalize h_fL : rmL = fL
  generalize h_fE : rmE = fE
  generalize h_fR : rmR = fR
  cbv
  (repeat' (first | apply And.intro | apply BrB.mk | apply BrP.mk | intro _))
  (all_goals (subst hA; subst h_c; subst h_fL; subst h_fE; subst h_fR); all_goals (have f_hs := HS.out; have f_hp := HP.out); all_goals (try simp only [std, stdBin, stdCmp, stdUna, stdIn, ci, beq_iff_eq, bne_iff_ne, beq_eq_false_iff_ne, bne_eq_false_iff_eq, decide_eq_true_eq, decide_eq_false_iff_not, Bool.not_true, Bool.not_false, Bool.not_eq_true', Bool.not_eq_false', Bool.not_not, tn0, tn1, tn2, tn3, mx0_eq] at *); all_goals (try omega))
  all_goals (have z5 := mx0_nn wd)
  all_goals first
      | omega
      | (show [] = rmL l e wd; unfold rmL; rw [if_neg (by omega)])
      | (show [] = rmR l e wd; unfold rmR; rw [if_neg (by omega)])
      | (show Value.int .i64 _ = Value.int .i64 (rmE l e wd); refine congrArg (Value.int .i64) ?_; simp only [rmE]; split <;> omega)
      | (show _ = rmL l e wd; unfold rmL; rw [if_pos ⟨by omega, by omega⟩]; rfl)
      | (show _ = rmR l e wd; unfold rmR; rw [if_pos ⟨by omega, by omega⟩, show mx0 wd - 0 = mx0 wd from by omega]; rfl)
      | (have h9 : ((l.length : Nat) : Int) ≤ 140737488355328 := f_hp
         have z4 : min (mx0 wd - 0).toNat l.length ≤ l.length := Nat.min_le_right _ _
         refine ⟨?_, ?_⟩ <;> (simp only [List.drop_zero, List.length_take]; omega))
      | trace_state
theorem num_mth : RunOk Try.prog false 126 (mrun (rmMt) (fun p => pw8 p.wd ∧ smL p.l) (rmXN) (rmOsN) (fun _ => [])) := by
  obtain ⟨G, hG⟩ : ∃ G : List (FuncId × Ctr), G = [] := ⟨_, rfl⟩
  refine mth_ok (ck := false) [(94, mrun (rmMt) (fun p => smL p.l) (rmX) (rmOs) (fun _ => []))] (iok_cons (RunOk.up rmraw_mth) iok_nil) [] trivial (by unfold FnOk; kernel_rfl) Try.func126 rfl tt_ok (G := G) (by rw [hG]; exact trivial) mixed (by kernel_rfl) (rmArgs) (rmOs0) [] [] rfl (fun _ => by simp [rmOs0]) rmMt_ok ?_
  intro p hp hs
  obtain ⟨l, e, wd⟩ := p
  obtain ⟨g, r, w, us, h1, h2⟩ := hs
  have HS := Lib.hid (rm_facts h2)
  have hp : (0 ≤ wd ∧ wd ≤ 8) ∧ (l.length : Int) ≤ 140737488355328 := hp
  have HP := Lib.hid hp
  clear hp h1 h2
  dsimp only [rmArgs, rmOs0, rmOsN, rmXN] at *
  delta rmOs rmX
  generalize hA : std = A
  subst hG
  generalize h_c : ci = c
  generalize h_fL : rmL = fL
  generalize h_fE : rmE = fE
  generalize h_fR : rmR = fR
  generalize h_fV : rmV = fV
  generalize h_fs : smL = fs
  obtain ⟨S, hS⟩ : ∃ S : Nat → Int, ∀ k, S k = gF (rmR l e wd) 0 k := ⟨_, fun _ => rfl⟩
  have HSS := Lib.hid hS
  clear hS
  cbv
  (repeat' (first | apply And.intro | apply BrB.mk | apply BrP.mk | intro _))
  all_goals try (refine loop_at Nat 12 (fun j => [(5, .v (.int .u64 (S j))), (7, .any), (12, .v (.int .i64 (c j)))]) (fun j o => o) (fun j => (j : Int) ≤ c (rmR l e wd).length) (fun j => (rmR l e wd).length - j) 0 ?h0 ?hle ?round)
  case hle =>
    cbv
    (repeat' (first | apply And.intro | apply BrB.mk | apply BrP.mk | intro _))
    (all_goals (subst hA; subst h_c; subst h_fL; subst h_fE; subst h_fR; subst h_fV; subst h_fs); all_goals (have f_hs := HS.out; have f_hp := HP.out); all_goals (try simp only [std, stdBin, stdCmp, stdUna, stdIn, ci, beq_iff_eq, bne_iff_ne, beq_eq_false_iff_ne, bne_eq_false_iff_eq, decide_eq_true_eq, decide_eq_false_iff_not, Bool.not_true, Bool.not_false, Bool.not_eq_true', Bool.not_eq_false', Bool.not_not, tn0, tn1, tn2, tn3] at *); all_goals (try omega))
    all_goals (have hS := HSS.out)
    all_goals first
      | rfl
      | (rw [hS]; rfl)
      | trace_state
  case round =>
    intro j hj
    cbv
    (repeat' (first | apply And.intro | apply BrB.mk | apply BrP.mk | intro _))
    all_goals try (refine ⟨j + 1, ?_, ?_, ?_⟩)
    all_goals try (show AS.le _ _; cbv; (repeat' (first | apply And.intro | apply BrB.mk | apply BrP.mk | intro _)))
    (all_goals (subst hA; subst h_c; subst h_fL; subst h_fE; subst h_fR; subst h_fV; subst h_fs); all_goals (have f_hs := HS.out; have f_hp := HP.out); all_goals (try simp only [std, stdBin, stdCmp, stdUna, stdIn, ci, beq_iff_eq, bne_iff_ne, beq_eq_false_iff_ne, bne_eq_false_iff_eq, decide_eq_true_eq, decide_eq_false_iff_not, Bool.not_true, Bool.not_false, Bool.not_eq_true', Bool.not_eq_false', Bool.not_not, tn0, tn1, tn2, tn3] at *); all_goals (try omega))
    all_goals (have hS := HSS.out; have hj' : (j : Int) ≤ ((rmR l e wd).length : Int) := hj)
    all_goals first
      | (show ((j + 1 : Nat) : Int) ≤ ((rmR l e wd).length : Int); have h9 : ((j : Nat) : Int) < ((rmR l e wd).length : Int) := (by assumption); omega)
      | (show Value.int .i64 (IntKind.i64.wrap ((j : Int) + 1)) = Value.int .i64 ((j.succ : Nat) : Int); have h9 : ((j : Nat) : Int) < ((rmR l e wd).length : Int) := (by assumption); have h8 := rmR_len (l := l) (e := e) f_hp.1.1; have h7 := f_hp.1.2; rw [w64 (by omega) (by split at h8 <;> omega)]; exact congrArg (Value.int .i64) (by omega))
      | (show Value.int .u64 (S j) = Value.int .u64 (rmV l e wd); have h9 : ¬ ((j : Nat) : Int) < ((rmR l e wd).length : Int) := (by assumption); have e1 : j = (rmR l e wd).length := (by omega); rw [hS, e1, rmV_eq f_hp.1.1])
      | (have e1 : (0 + (j : Int)).toNat = ((j : Nat) : Int).toNat := (by omega)
         rw [hS j.succ]
         show _ = Value.int .u64 (stdBin .or .u64 (stdBin .shl .u64 (gF (rmR l e wd) 0 j) 8) ((rmR l e wd).getD (0 + (j : Int)).toNat 0))
         rw [e1, ← hS j]
         rfl)
      | trace_state
  (all_goals (subst hA; subst h_c; subst h_fL; subst h_fE; subst h_fR; subst h_fV; subst h_fs); all_goals (have f_hs := HS.out; have f_hp := HP.out); all_goals (try simp only [std, stdBin, stdCmp, stdUna, stdIn, ci, beq_iff_eq, bne_iff_ne, beq_eq_false_iff_ne, bne_eq_false_iff_eq, decide_eq_true_eq, decide_eq_false_iff_not, Bool.not_true, Bool.not_false, Bool.not_eq_true', Bool.not_eq_false', Bool.not_not, tn0, tn1, tn2, tn3] at *); all_goals (try omega))
  all_goals (first | exact f_hp.2 | trace_state)
/-! ### A new reader -/
structure NrP where
  l : List Int
def llenI (l : List Int) : Int := l.length
def nrMt (args : List SV) (ob : Nat → SO) : Option (NrP × List Nat) := match args with
  | [.iimm .u8 l] => some (⟨l⟩, [])
  | _ => none
def nrArgs (p : NrP) : List SV := [.iimm .u8 p.l]
def nrOs0 (p : NrP) : List SO := []
def nrOs (p : NrP) : List SO := [.irow 5 .u8 p.l, .cells 141 [.sub 0 0 (llenI p.l), .v (.int .i64 0)]]
def nrX (p : NrP) : SV := .ptr 1 0
theorem nrMt_ok (args : List SV) (ob : Nat → SO) (p : NrP) (ms : List Nat) (h : nrMt args ob = some (p, ms)) : MtOk nrMt nrArgs nrOs0 args ob p ms := by
  unfold nrMt at h
  split at h
  · cases h
    exact ⟨fun n => rfl, rfl, (fun n k hk => by cases hk), (fun k hk => by cases hk), (fun k hk => by cases hk)⟩
  · cases h
theorem new_mth : RunOk Try.prog false 86 (mrun (nrMt) (fun p => smL p.l) (nrX) (nrOs) (fun _ => [])) := by
  obtain ⟨G, hG⟩ : ∃ G : List (FuncId × Ctr), G = [(118, rowP [.sl (.int .u8)] 5 .u8 (lenP 1) sameL)] := ⟨_, rfl⟩
  refine mth_ok (ck := false) [] iok_nil [] trivial (by unfold FnOk; kernel_rfl) Try.func86 rfl tt_ok (G := G) (by rw [hG]; exact ⟨⟨cloneB_ok, by unfold FnOk; kernel_rfl⟩, trivial⟩) mixed (by kernel_rfl) (nrArgs) (nrOs0) [] [.piece 1 0] rfl (fun _ => by simp [nrOs0]) nrMt_ok ?_
  intro p hp hs
  obtain ⟨l⟩ := p
  obtain ⟨g, r, w, us, h1, h2⟩ := hs
  have HS := Lib.hid True.intro
  have hp : (l.length : Int) ≤ 140737488355328 := hp
  have HP := Lib.hid hp
  clear hp h1 h2
  dsimp only [nrArgs, nrOs0, nrOs, nrX] at *
  generalize hA : std = A
  subst hG
  generalize h_c : ci = c
  generalize h_fl : lenP 1 = fl
  generalize h_fc : sameL = fc
  generalize h_fn : llenI = fn
  cbv
  (repeat' (first | apply And.intro | apply BrB.mk | apply BrP.mk | intro _))
  (all_goals (subst hA; subst h_c; subst h_fl; subst h_fc; subst h_fn); all_goals (have f_hs := HS.out; have f_hp := HP.out); all_goals (try simp only [std, stdBin, stdCmp, stdUna, stdIn, ci, beq_iff_eq, bne_iff_ne, beq_eq_false_iff_ne, bne_eq_false_iff_eq, decide_eq_true_eq, decide_eq_false_iff_not, Bool.not_true, Bool.not_false, Bool.not_eq_true', Bool.not_eq_false', Bool.not_not, tn0, tn1, tn2, tn3, lenP, sameL] at *); all_goals (try omega))
  all_goals first
    | rfl
    | (have h9 : ((l.length : Nat) : Int) ≤ 140737488355328 := f_hp; show ((l.length : Nat) : Int) * ((1 : Nat) : Int) ≤ 140737488355328; omega)
    | trace_state
end Go.Proofs.Ytekokhlldcmjfaa
