/- Layer 3: the laws' calls, reckoned. -/
import Derived.Test.YthklcldmoakbfaaTt
import Derived.Test.YthklcldmoakbfaaSlices
namespace Go.Proofs.Ythklcldmoakbfaa
open Go.RowKit
set_option maxRecDepth 100000
set_option linter.unusedSimpArgs false
set_option linter.unusedVariables false
set_option maxHeartbeats 8000000
abbrev callTy : Ty := .st [.int .i64, .int .u64, .sl (.int .u8)]
theorem argSV_call {a : AV} {x : SV} (h : argSV callTy a = some x) : ∃ (v_d : Int) (v_n : Int) (v_r : List Int), a = .st [.z v_d, .z v_n, .l v_r] ∧ x = .agg [.v (.int .i64 v_d), .v (.int .u64 v_n), .iimm .u8 v_r] := by
  obtain ⟨as0, l0, rfl, rfl, h0⟩ := argSV_st h
  obtain ⟨a1, as1, x1, m1, rfl, rfl, p1, h1⟩ := svAVs_cons h0
  obtain ⟨v_d, rfl, rfl⟩ := svAV_int p1
  obtain ⟨a2, as2, x2, m2, rfl, rfl, p2, h2⟩ := svAVs_cons h1
  obtain ⟨v_n, rfl, rfl⟩ := svAV_int p2
  obtain ⟨a3, as3, x3, m3, rfl, rfl, p3, h3⟩ := svAVs_cons h2
  obtain ⟨v_r, rfl, rfl⟩ := svAV_ints p3
  obtain ⟨rfl, rfl⟩ := svAVs_nil h3
  exact ⟨v_d, v_n, v_r, rfl, rfl⟩
theorem svf_call {v_d : Int} {v_n : Int} {v_r : List Int} (h : SVf (.agg [.v (.int .i64 v_d), .v (.int .u64 v_n), .iimm .u8 v_r])) : (-9223372036854775808 ≤ v_d ∧ v_d ≤ 9223372036854775807) ∧ ((Lit.int .u64 v_n).wf = true) ∧ (Fits .u8 v_r ∧ ci v_r.length ≤ 9223372036854775807) := by
  exact ⟨of_i64 (h (.v (.int .i64 v_d)) (by simp)), h (.v (.int .u64 v_n)) (by simp), svf_ints (h (.iimm .u8 v_r) (by simp))⟩
theorem fresh_gv {g w w' : World} {E : TypeId} {k : IntKind} {l : List Int} {v : Value} (h : w'.ownsRow w.heap.size E 1 v l.length (kv k l)) (hf : Fits k l) (hb : Below w.heap.size w w') : Gv g noR 0 w (.hdl 0, [(0, .irow E k l)]) v w' := by
  have hd : vdeep v = [v] ∧ one1 v := by
    rcases h.2 with ⟨rfl, _⟩ | ⟨q, c, cur, rfl, _⟩ <;> exact ⟨rfl, rfl, rfl⟩
  refine ⟨hb, ?_, ?_, ?_⟩
  · simp only [SV.Is, ext]
    rw [if_neg (Nat.not_lt_zero _), hd.1]
    rfl
  · intro i o hi
    cases i with
    | succ i => simp at hi
    | zero =>
      simp at hi
      subst hi
      exact ⟨v, by rw [hd.1]; rfl, hd.2, h, hf⟩
  · intro i j o p a b c h1 h2 hne
    cases i with
    | succ i => simp at h1
    | zero => cases j with
      | succ j => simp at h2
      | zero => exact absurd rfl hne
def rowP (ts : List Ty) (E : TypeId) (k : IntKind) (p : List AV → Prop) (f : List AV → List Int) : Ctr := ⟨ts, fun xa => some (p xa), fun xa => .ret (.hdl 0) [(0, .irow E k (f xa))], false⟩
def lenP (n : Int) (xa : List AV) : Prop := match xa with
  | [.l l] => (l.length : Int) * n ≤ 140737488355328
  | _ => False
def sameL (xa : List AV) : List Int := match xa with
  | [.l l] => l
  | _ => []
theorem of_ints1 {w : World} {k : IntKind} {xa : List AV} {vs : List Value} (h : ArgsIs w [.sl (.int k)] xa vs) : ∃ l v, xa = [.l l] ∧ vs = [v] ∧ Reads k w v l := by
  obtain ⟨a, as', v, vs', rfl, rfl, h1, h⟩ := args_cons h
  obtain ⟨rfl, rfl⟩ := args_nil h
  obtain ⟨l, rfl, h3⟩ := of_arg_ints h1
  exact ⟨l, v, rfl, rfl, h3⟩
theorem vb {a b : Bool} (h : b = a) : Value.bool a = Value.bool b := by rw [h]
def yesP (ts : List Ty) (p : List AV → Prop) : Ctr := ⟨ts, fun xa => some (p xa), fun _ => .ret (.v (.bool true)) [], false⟩
theorem cloneB_ok : CtrOk Try.prog 32 (rowP [.sl (.int .u8)] 5 .u8 (lenP 1) sameL) := by
  intro xa w g vs ha _ hp
  obtain ⟨l, v, rfl, rfl, h1⟩ := of_ints1 ha
  have hq : (l.length : Int) * 1 ≤ 140737488355328 := hp _ rfl
  refine (cloneB_any v l w h1.1 (by omega)).mono fun e w' ⟨u, he, ho, hb⟩ => ⟨_, he, ?_⟩
  rw [kv_len] at ho
  exact fresh_gv ho h1.2.1 hb
/-- A byte of a number. -/
def byteAt (n s : Int) : Int := IntKind.u8.wrap (n.fdiv (2 ^ min s.toNat IntKind.u64.bits))
/-- The bytes of a number behind so many steps, of so many. -/
def putK (n w : Int) : Nat → List Int
  | 0 => []
  | k + 1 => putK n w k ++ [byteAt n (8 * (w - 1 - (k : Int)))]
theorem putK_len (n w : Int) : ∀ k, (putK n w k).length = k
  | 0 => rfl
  | k + 1 => by rw [putK, List.length_append, putK_len n w k]; rfl
theorem awake3_ok : CtrOk Try.prog 8 (yesP [] (fun _ => True)) := by
  obtain ⟨G, hG⟩ : ∃ G : List (FuncId × Ctr), G = [(32, rowP [.sl (.int .u8)] 5 .u8 (lenP 1) sameL)] := ⟨_, rfl⟩
  refine fn_inl (ck := true) [(24, Try.f24), (36, Try.f36), (31, Try.f31)] ⟨⟨Try.func24, by unfold FnOk; kernel_rfl, by kernel_rfl⟩, ⟨Try.func36, by unfold FnOk; kernel_rfl, by kernel_rfl⟩, ⟨Try.func31, by unfold FnOk; kernel_rfl, by kernel_rfl⟩, trivial⟩ Try.func8 rfl tt_ok (G := G) (by rw [hG]; exact ⟨⟨cloneB_ok, by unfold FnOk; kernel_rfl⟩, trivial⟩) mixed (by kernel_rfl) ?_
  intro xa xs h hx hp
  obtain ⟨rfl, rfl⟩ := svArgs_nil h
  clear hx hp h 
  generalize hA : std = A
  subst hG
  generalize h_c : ci = c
  generalize h_fl : lenP 1 = fl
  generalize h_fc : sameL = fc
  obtain ⟨S, hS⟩ : ∃ S : Nat → List Int, ∀ k, S k = putK (IntKind.u64.wrap 258) 2 k := ⟨_, fun _ => rfl⟩
  obtain ⟨T, hT⟩ : ∃ T : Nat → Int, ∀ k : Nat, T k = 2 - 1 - (k : Int) := ⟨_, fun _ => rfl⟩
  have HS := Lib.hid hS
  have HT := Lib.hid hT
  clear hS hT
  cbv
  (repeat' (first | apply And.intro | apply BrB.mk | apply BrP.mk | intro _))
  all_goals try (refine loop_nil [.cell 0 0 5 .u8] Nat 7 (fun k => [(6, .v (.int .i64 (T k)))]) (fun k o => o.set 1 (.irow 5 .u8 (S k))) (fun k => k ≤ 2) (fun k => 2 - k) 0 (Nat.zero_le _) ?hle ?round)
  case hle => 
    cbv
    (repeat' (first | apply And.intro | apply BrB.mk | apply BrP.mk | intro _))
    (all_goals (subst hA; subst h_c; subst h_fl; subst h_fc); all_goals (skip); all_goals (try simp only [std, stdBin, stdCmp, stdUna, stdIn, ci, beq_iff_eq, bne_iff_ne, beq_eq_false_iff_ne, bne_eq_false_iff_eq, decide_eq_true_eq, decide_eq_false_iff_not, Bool.not_true, Bool.not_false, Bool.not_eq_true', Bool.not_eq_false', Bool.not_not, tn0, tn1, tn2, tn3] at *); all_goals (try omega))
    · rw [HT.out]; rfl
    · rw [HS.out]; rfl
  case round =>
    intro k hk
    cbv
    (repeat' (first | apply And.intro | apply BrB.mk | apply BrP.mk | intro _))
    all_goals try (refine ⟨k + 1, ?_, ?_, ?_⟩)
    all_goals try (show AS.le _ _; cbv; (repeat' (first | apply And.intro | apply BrB.mk | apply BrP.mk | intro _)))
    (all_goals (subst hA; subst h_c; subst h_fl; subst h_fc); all_goals (skip); all_goals (try simp only [std, stdBin, stdCmp, stdUna, stdIn, ci, beq_iff_eq, bne_iff_ne, beq_eq_false_iff_ne, bne_eq_false_iff_eq, decide_eq_true_eq, decide_eq_false_iff_not, Bool.not_true, Bool.not_false, Bool.not_eq_true', Bool.not_eq_false', Bool.not_not, tn0, tn1, tn2, tn3] at *); all_goals (try omega))
    all_goals (have t1 : T k = 2 - 1 - (k : Int) := HT.out k; have t2 : T (k + 1) = 2 - 1 - ((k + 1 : Nat) : Int) := HT.out (k + 1); have s1 := HS.out k; have s2 := HS.out (k + 1); have l1 := putK_len (IntKind.u64.wrap 258) 2 k; rw [← s1] at l1)
    all_goals first
      | omega
      | (simp only [List.length_singleton, l1]; omega)
      | (show Value.int .i64 (T k - 1) = Value.int .i64 (T (k + 1)); exact congrArg (Value.int .i64) (by omega))
      | (show _ = S (k + 1); rw [s2, putK, ← s1, t1]; rfl)
      | (show _ ≤ _; simp only [l1]; omega)
      | (have e : k = 2 := (by omega); subst e; rw [s1]; exact vb (by kernel_rfl))
  (all_goals (subst hA; subst h_c; subst h_fl; subst h_fc); all_goals (skip); all_goals (try simp only [std, stdBin, stdCmp, stdUna, stdIn, ci, beq_iff_eq, bne_iff_ne, beq_eq_false_iff_ne, bne_eq_false_iff_eq, decide_eq_true_eq, decide_eq_false_iff_not, Bool.not_true, Bool.not_false, Bool.not_eq_true', Bool.not_eq_false', Bool.not_not, tn0, tn1, tn2, tn3] at *); all_goals (try omega))
end Go.Proofs.Ythklcldmoakbfaa
