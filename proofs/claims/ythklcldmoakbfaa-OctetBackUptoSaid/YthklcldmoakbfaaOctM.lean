/- Layer 3: a reader's and a writer's methods: what they do to what is handed to them. -/
import Derived.Test.YthklcldmoakbfaaOctB
import Derived.Test.YthklcldmoakbfaaMth
namespace Go.Proofs.Ythklcldmoakbfaa
open Go.RowKit
set_option maxRecDepth 20000
set_option linter.unusedSimpArgs false
set_option linter.unusedVariables false
set_option maxHeartbeats 16000000
set_option cbv.maxSteps 10000000
/-- A reader: bytes, from where, how many, the error; how many are asked for. -/
structure RdP where
  l : List Int
  a : Int
  n : Int
  e : Int
  wd : Int
def rdA (a n e wd : Int) : Int := if e = 0 then (if wd ≤ n then a + wd else 0) else a
def rdN (n e wd : Int) : Int := if e = 0 then (if wd ≤ n then n - wd else 0) else n
def rdE (n e wd : Int) : Int := if e = 0 then (if wd ≤ n then 0 else 4) else e
/-- So many bytes from a place on, as a number. -/
def gF (l : List Int) (a : Int) : Nat → Int
  | 0 => 0
  | k + 1 => stdBin .or .u64 (stdBin .shl .u64 (gF l a k) 8) (l.getD (a + (k : Int)).toNat 0)
def rdV (l : List Int) (a n e wd : Int) : Int := if e = 0 ∧ wd ≤ n then gF l a wd.toNat else 0
def pw8 (wd : Int) : Prop := 0 ≤ wd ∧ wd ≤ 8
def smI (n : Int) : Prop := n ≤ 140737488355328
def smL (l : List Int) : Prop := (l.length : Int) ≤ 140737488355328
def rdMt (args : List SV) (ob : Nat → SO) : Option (RdP × List Nat) := match args with
  | [.ptr i o, .v (.int .i64 wd)] => match o with
    | 0 => match ob i with
      | .cells t [.sub j a n, .v (.int .i64 e)] => match Nat.beq t 56 with
        | true => match ob j with
          | .irow E .u8 l => match Nat.beq E 5 with
            | true => some (⟨l, a, n, e, wd⟩, [i, j])
            | false => none
          | _ => none
        | false => none
      | _ => none
    | _ + 1 => none
  | _ => none
def rdArgs (p : RdP) : List SV := [.ptr 0 0, .v (.int .i64 p.wd)]
def rdOs0 (p : RdP) : List SO := [.cells 56 [.sub 1 p.a p.n, .v (.int .i64 p.e)], .irow 5 .u8 p.l]
def rdOs (p : RdP) : List SO := [.cells 56 [.sub 1 (rdA p.a p.n p.e p.wd) (rdN p.n p.e p.wd), .v (.int .i64 (rdE p.n p.e p.wd))], .irow 5 .u8 p.l]
def rdX (p : RdP) : SV := .v (.int .u64 (rdV p.l p.a p.n p.e p.wd))
theorem rdMt_ok (args : List SV) (ob : Nat → SO) (p : RdP) (ms : List Nat) (h : rdMt args ob = some (p, ms)) : MtOk rdMt rdArgs rdOs0 args ob p ms := by
  unfold rdMt at h
  split at h
  · rename_i i o wd
    cases o with
    | succ o => simp only at h; cases h
    | zero =>
    simp only at h
    split at h
    · rename_i t j a n e hi
      cases ht : Nat.beq t 56 with
      | false => rw [ht] at h; cases h
      | true =>
        rw [ht] at h
        have ht := Nat.eq_of_beq_eq_true ht
        subst ht
        simp only at h
        split at h
        · rename_i E l hj
          cases hE : Nat.beq E 5 with
          | false => rw [hE] at h; cases h
          | true =>
            rw [hE] at h
            have hE := Nat.eq_of_beq_eq_true hE
            subst hE
            cases h
            have hij : i ≠ j := by
              intro e
              subst e
              rw [hi] at hj
              cases hj
            refine ⟨fun n => rfl, rfl, fun n k hk => ?_, fun k hk => ?_, fun k hk => ?_⟩
            · match k, hk with
              | 0, _ => exact hi
              | 1, _ => exact hj
            · match k, hk with
              | 0, _ => simp [rdOs0]
              | 1, _ => simp [rdOs0]
            · match k, hk with
              | 0, _ => simp [lookI]
              | 1, _ =>
                have : Nat.beq i j = false := by
                  cases hb : Nat.beq i j with
                  | false => rfl
                  | true => exact absurd (Nat.eq_of_beq_eq_true hb) hij
                simp [lookI, this]
        · cases h
    · cases h
  · cases h
theorem rd_facts {g : World} {r : Nat → Option Value} {w : World} {t E : TypeId} {l : List Int} {a n e : Int} (h : ∀ k, k < 2 → ∃ q, r k = some q ∧ (([.cells t [.sub 1 a n, .v (.int .i64 e)], .irow E .u8 l] : List SO).getD k .gone).Is g r w 0 q) : (0 ≤ a ∧ 0 ≤ n ∧ a + n ≤ ci l.length) ∧ (Fits .u8 l ∧ ci l.length ≤ 140737488355328 ∨ True) := by
  obtain ⟨q0, h1, h2⟩ := h 0 (by decide)
  obtain ⟨q1, h3, h4⟩ := h 1 (by decide)
  obtain ⟨b, cs, _, _, _, h5⟩ := h2
  obtain ⟨hown, hf⟩ := h4
  simp only [LsIs] at h5
  obtain ⟨u, us, e1, h6, _⟩ := h5
  simp only [SV.Is] at h6
  obtain ⟨ao, m, c, h7, h8, h9, h10, _⟩ := h6
  rw [h3] at h7
  have hm : (m : Int) = l.length := by
    obtain ⟨_, _, he, _⟩ := holds_own hown
    rw [kv_len] at he
    rw [Option.some.inj h7] at he
    injection he with _ e2 _
    exact congrArg (fun x : Nat => (x : Int)) e2
  exact ⟨⟨h8, h9, by rw [hm] at h10; exact h10⟩, .inr trivial⟩
theorem get_mth : RunOk Try.prog false 33 (mrun (rdMt) (fun p => pw8 p.wd) (rdX) (rdOs) []) := by
  obtain ⟨G, hG⟩ : ∃ G : List (FuncId × Ctr), G = [] := ⟨_, rfl⟩
  refine mth_ok (ck := false) [] iok_nil [(35, Try.f35)] ⟨⟨Try.func35, by unfold FnOk; kernel_rfl, by kernel_rfl⟩, trivial⟩ (by unfold FnOk; kernel_rfl) Try.func33 rfl tt_ok (G := G) (by rw [hG]; exact trivial) mixed (by kernel_rfl) (rdArgs) (rdOs0) [] [.sub 0 0 1] rfl (fun _ => by simp [rdOs0]) rdMt_ok ?_
  intro p hp hs
  obtain ⟨l, a, n, e, wd⟩ := p
  obtain ⟨g, r, w, us, h1, h2⟩ := hs
  have HS := Lib.hid (rd_facts h2)
  have hp : 0 ≤ wd ∧ wd ≤ 8 := hp
  have HP := Lib.hid hp
  clear hp h1 h2
  dsimp only [rdArgs, rdOs0, rdOs, rdX] at *
  generalize hA : std = A
  subst hG
  generalize h_c : ci = c
  generalize h_fV : rdV = fV
  generalize h_fA : rdA = fA
  generalize h_fN : rdN = fN
  generalize h_fE : rdE = fE
  generalize h_fG : gF = fG
  obtain ⟨S, hS⟩ : ∃ S : Nat → Int, ∀ k, S k = gF l a k := ⟨_, fun _ => rfl⟩
  have HSS := Lib.hid hS
  clear hS
  cbv
  (repeat' (first | apply And.intro | apply BrB.mk | apply BrP.mk | intro _))
  all_goals try (refine loop_at Nat 20 (fun j => [(7, .v (.int .u64 (S j))), (9, .any), (20, .v (.int .i64 (c j)))]) (fun j o => o) (fun j => (j : Int) ≤ wd) (fun j => wd.toNat - j) 0 ?h0 ?hle ?round)
  case hle =>
    cbv
    (repeat' (first | apply And.intro | apply BrB.mk | apply BrP.mk | intro _))
    (all_goals (subst hA; subst h_c; subst h_fV; subst h_fA; subst h_fN; subst h_fE; subst h_fG); all_goals (have f_hs := HS.out; have f_hp := HP.out); all_goals (try simp only [std, stdBin, stdCmp, stdUna, stdIn, ci, beq_iff_eq, bne_iff_ne, beq_eq_false_iff_ne, bne_eq_false_iff_eq, decide_eq_true_eq, decide_eq_false_iff_not, Bool.not_true, Bool.not_false, Bool.not_eq_true', Bool.not_eq_false', Bool.not_not, tn0, tn1, tn2, tn3] at *); all_goals (try omega))
    all_goals (have hS := HSS.out)
    all_goals first
      | rfl
      | (rw [hS]; rfl)
  case round =>
    intro j hj
    cbv
    (repeat' (first | apply And.intro | apply BrB.mk | apply BrP.mk | intro _))
    all_goals try (refine ⟨j + 1, ?_, ?_, ?_⟩)
    all_goals try (show AS.le _ _; cbv; (repeat' (first | apply And.intro | apply BrB.mk | apply BrP.mk | intro _)))
    (all_goals (subst hA; subst h_c; subst h_fV; subst h_fA; subst h_fN; subst h_fE; subst h_fG); all_goals (have f_hs := HS.out; have f_hp := HP.out); all_goals (try simp only [std, stdBin, stdCmp, stdUna, stdIn, ci, beq_iff_eq, bne_iff_ne, beq_eq_false_iff_ne, bne_eq_false_iff_eq, decide_eq_true_eq, decide_eq_false_iff_not, Bool.not_true, Bool.not_false, Bool.not_eq_true', Bool.not_eq_false', Bool.not_not, tn0, tn1, tn2, tn3] at *); all_goals (try omega))
    all_goals (have hS := HSS.out)
    all_goals (have hj' : (j : Int) ≤ wd := hj)
    all_goals first
      | omega
      | (show ((j + 1 : Nat) : Int) ≤ wd; have h9 : ((j : Nat) : Int) < wd - 0 := (by assumption); omega)
      | (show Value.int .i64 (IntKind.i64.wrap ((j : Int) + 1)) = Value.int .i64 ((j.succ : Nat) : Int); rw [w64 (by omega) (by omega)]; exact congrArg (Value.int .i64) (by omega))
      | (show Value.int .i64 _ = Value.int .i64 _; refine congrArg (Value.int .i64) ?_; (try simp only [rdE]); repeat' split; all_goals omega)
      | (show _ = rdA a n e wd; simp only [rdA]; repeat' split; all_goals omega)
      | (show _ = rdN n e wd; simp only [rdN]; repeat' split; all_goals omega)
      | (show Value.int .u64 (S j) = Value.int .u64 (rdV l a n e wd); have h9 : ¬ ((j : Nat) : Int) < wd - 0 := (by assumption); have e1 : j = wd.toNat := (by omega); rw [hS, e1]; unfold rdV; rw [if_pos ⟨by omega, by omega⟩])
      | (show Value.int .u64 _ = Value.int .u64 (S j.succ); rw [hS j.succ, hS j]; have e1 : (a + 0 + (j : Int)).toNat = (a + (j : Int)).toNat := (by omega); rw [e1]; rfl)
      | trace_state
  (all_goals (subst hA; subst h_c; subst h_fV; subst h_fA; subst h_fN; subst h_fE; subst h_fG); all_goals (have f_hs := HS.out; have f_hp := HP.out); all_goals (try simp only [std, stdBin, stdCmp, stdUna, stdIn, ci, beq_iff_eq, bne_iff_ne, beq_eq_false_iff_ne, bne_eq_false_iff_eq, decide_eq_true_eq, decide_eq_false_iff_not, Bool.not_true, Bool.not_false, Bool.not_eq_true', Bool.not_eq_false', Bool.not_not, tn0, tn1, tn2, tn3] at *); all_goals (try omega))
  all_goals first
      | omega
      | (show Value.int .i64 _ = Value.int .i64 _; refine congrArg (Value.int .i64) ?_; (try simp only [rdE]); repeat' split; all_goals omega)
      | (show _ = rdA a n e wd; simp only [rdA]; repeat' split; all_goals omega)
      | (show _ = rdN n e wd; simp only [rdN]; repeat' split; all_goals omega)
      | (show Value.int .u64 0 = Value.int .u64 (rdV l a n e wd); unfold rdV; rw [if_neg (by omega)])
      | trace_state
end Go.Proofs.Ythklcldmoakbfaa
