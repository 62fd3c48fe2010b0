/- Contracts of what most packages, and their counterparts, use. -/
import Derived.Test.YtnjipnklbdlgaaaCtr
import Derived.Test.YtnjipnklbdlgaaaSlices
namespace Go.Proofs.Ytnjipnklbdlgaaa
open Go.RowKit
set_option maxRecDepth 100000
set_option linter.unusedSimpArgs false
set_option linter.unusedVariables false
set_option maxHeartbeats 2000000
theorem below_drewN (w : World) (n : Nat) : Below w.heap.size w (w.drewN n) := ⟨rfl, rfl, rfl, Nat.le_refl _, fun _ _ => rfl⟩
theorem fresh_gv {g w w' : World} {E : TypeId} {k : IntKind} {l : List Int} {v : Value} (h : w'.ownsRow w.heap.size E 1 v l.length (kv k l)) (hf : Fits k l) (hb : Below w.heap.size w w') : Gv g noR 0 w (.hdl 0, [(0, .irow E k l)]) v w' := by
  have hd : vdeep v = [v] ∧ one1 v := by
    rcases h.2 with ⟨rfl, _⟩ | ⟨q, c, cur, rfl, _⟩ <;> exact ⟨rfl, rfl, rfl⟩
  refine ⟨hb, ?_, ?_, ?_⟩
  · simp only [SV.Is, ext]
    rw [if_neg (Nat.not_lt_zero _), hd.1]
    rfl
  · intro i o hi
    cases i with
    | succ i => simp at hi
    | zero =>
      simp at hi
      subst hi
      exact ⟨v, by rw [hd.1]; rfl, hd.2, h, hf⟩
  · intro i j o p a b c h1 h2 hne
    cases i with
    | succ i => simp at h1
    | zero => cases j with
      | succ j => simp at h2
      | zero => exact absurd rfl hne
/-- A row of numbers comes. -/
def rowC (ts : List Ty) (E : TypeId) (k : IntKind) (f : List AV → List Int) : Ctr := ⟨ts, fun _ => none, fun xa => .ret (.hdl 0) [(0, .irow E k (f xa))], false⟩
def rowP (ts : List Ty) (E : TypeId) (k : IntKind) (p : List AV → Prop) (f : List AV → List Int) : Ctr := ⟨ts, fun xa => some (p xa), fun xa => .ret (.hdl 0) [(0, .irow E k (f xa))], false⟩
def lenP (n : Int) (xa : List AV) : Prop := match xa with
  | [.l l] => (l.length : Int) * n ≤ 140737488355328
  | _ => False
def sameL (xa : List AV) : List Int := match xa with
  | [.l l] => l
  | _ => []
def eqF (xa : List AV) : Bool := match xa with
  | [.l a, .l b] => a == b
  | _ => false
def szF (xa : List AV) : Int := match xa with
  | [.l D] => szD D
  | _ => 0
theorem of_ints2 {w : World} {k : IntKind} {xa : List AV} {vs : List Value} (h : ArgsIs w [.sl (.int k), .sl (.int k)] xa vs) : ∃ l m v u, xa = [.l l, .l m] ∧ vs = [v, u] ∧ Reads k w v l ∧ Reads k w u m := by
  obtain ⟨a, as', v, vs', rfl, rfl, h1, h⟩ := args_cons h
  obtain ⟨b, as'', u, vs', rfl, rfl, h2, h⟩ := args_cons h
  obtain ⟨rfl, rfl⟩ := args_nil h
  obtain ⟨l, rfl, h3⟩ := of_arg_ints h1
  obtain ⟨m, rfl, h4⟩ := of_arg_ints h2
  exact ⟨l, m, v, u, rfl, rfl, h3, h4⟩
theorem of_ints1 {w : World} {k : IntKind} {xa : List AV} {vs : List Value} (h : ArgsIs w [.sl (.int k)] xa vs) : ∃ l v, xa = [.l l] ∧ vs = [v] ∧ Reads k w v l := by
  obtain ⟨a, as', v, vs', rfl, rfl, h1, h⟩ := args_cons h
  obtain ⟨rfl, rfl⟩ := args_nil h
  obtain ⟨l, rfl, h3⟩ := of_arg_ints h1
  exact ⟨l, v, rfl, rfl, h3⟩
theorem same_ok : CtrOk Try.prog 62 (boolC [.sl (.int .i64), .sl (.int .i64)] eqF) := by
  intro xa w g vs ha _ hp
  obtain ⟨l, m, v, u, rfl, rfl, h1, h2⟩ := of_ints2 ha
  refine (same_any v u l m w h1 h2).mono fun e w' ⟨he, n, hw⟩ => ⟨_, he, ?_⟩
  subst hw
  exact gv_val trivial (below_drewN w n)
theorem rsame_ok : CtrOk Try.prog 14 (boolC [.sl (.int .i64), .sl (.int .i64)] eqF) := by
  intro xa w g vs ha _ hp
  obtain ⟨l, m, v, u, rfl, rfl, h1, h2⟩ := of_ints2 ha
  refine (sameInts_any v u l m w h1 h2).mono fun e w' ⟨he, n, hw⟩ => ⟨_, he, ?_⟩
  subst hw
  exact gv_val trivial (below_drewN w n)
theorem rmay_ok : CtrOk Try.prog 28 (boolC [.sl (.int .i64)] shMayF) := by
  intro xa w g vs ha _ hp
  obtain ⟨l, v, rfl, rfl, h1⟩ := of_ints1 ha
  refine (rmay_any v l w h1).mono fun e w' ⟨he, hw⟩ => ⟨_, he, ?_⟩
  subst hw
  exact gv_val trivial (Below.refl _ _)
theorem szD_in (D : List Int) : 0 ≤ szD D ∧ szD D ≤ 8192 := by
  by_cases h : mayD D = true
  · have h1 := ((mayD_iff D).1 h).2
    have h2 := prodFrom_pos 1 D (by omega) h1.1
    unfold szD
    rw [if_pos h]
    omega
  · unfold szD
    rw [if_neg h]
    omega
theorem size_ok : CtrOk Try.prog 61 (intC [.sl (.int .i64)] .i64 szF) := by
  intro xa w g vs ha _ hp
  obtain ⟨l, v, rfl, rfl, h1⟩ := of_ints1 ha
  refine (size_any v l w h1).mono fun e w' ⟨he, hw⟩ => ⟨_, he, ?_⟩
  subst hw
  have := szD_in l
  exact gv_val (v := .int .i64 (szD l)) (WalkArith.wf_i64 (by omega)) (Below.refl _ _)
theorem rsize_ok : CtrOk Try.prog 42 (intC [.sl (.int .i64)] .i64 szF) := by
  intro xa w g vs ha _ hp
  obtain ⟨l, v, rfl, rfl, h1⟩ := of_ints1 ha
  refine (rsize_any v l w h1).mono fun e w' ⟨he, hw⟩ => ⟨_, he, ?_⟩
  subst hw
  have := szD_in l
  exact gv_val (v := .int .i64 (szD l)) (WalkArith.wf_i64 (by omega)) (Below.refl _ _)
theorem cloneI_ok : CtrOk Try.prog 31 (rowP [.sl (.int .i64)] 3 .i64 (lenP 8) sameL) := by
  intro xa w g vs ha _ hp
  obtain ⟨l, v, rfl, rfl, h1⟩ := of_ints1 ha
  have hq : (l.length : Int) * 8 ≤ 140737488355328 := hp _ rfl
  refine (cloneI_any v l w h1.1 (by omega)).mono fun e w' ⟨u, he, ho, hb⟩ => ⟨_, he, ?_⟩
  rw [kv_len] at ho
  exact fresh_gv ho h1.2.1 hb
theorem all_ne (L : List Int) (v : Int) : ∀ n, (∀ j, j < n → L.getD j 0 ≠ v) → n = L.length → L.contains v = false := by
  intro n h e
  rw [List.contains_eq_mem, decide_eq_false_iff_not]
  intro hm
  obtain ⟨j, hj, he⟩ := List.mem_iff_getElem.1 hm
  refine h j (by omega) ?_
  rw [List.getD_eq_getElem?_getD, List.getElem?_eq_getElem hj, he]
  rfl
theorem mayB_eq (D L : List Int) (e : Int) : mayB ⟨D, e, L⟩ = true ↔ mayD D = true ∧ (L.length : Int) = szD D ∧ (-64 ≤ e ∧ e ≤ 64) ∧ L.contains (-128) = false := by
  simp only [mayB, expB, Bool.and_eq_true, decide_eq_true_eq, Bool.not_eq_true']
  constructor
  · rintro ⟨⟨⟨h1, h2⟩, h3⟩, h4⟩; exact ⟨h1, h2, h3, h4⟩
  · rintro ⟨h1, h2, h3, h4⟩; exact ⟨⟨⟨h1, h2⟩, h3⟩, h4⟩
theorem vb {a b : Bool} (h : b = a) : Value.bool a = Value.bool b := by rw [h]
theorem eqL {l m : List Int} (h : l.length = m.length) (hg : ∀ j, j < l.length → l.getD j 0 = m.getD j 0) : l = m := by
  apply List.ext_getElem h
  intro j h1 h2
  have := hg j h1
  simpa [List.getD_eq_getElem?_getD, List.getElem?_eq_getElem h1, List.getElem?_eq_getElem h2] using this
def sameTn (a b : Tn) : Bool := a.dims == b.dims && (decide (a.exp = b.exp) && a.data == b.data)
theorem sameTn_iff (D L D' L' : List Int) (e e' : Int) : sameTn ⟨D, e, L⟩ ⟨D', e', L'⟩ = true ↔ D = D' ∧ e = e' ∧ L = L' := by
  simp [sameTn]
def sameTnF (xa : List AV) : Bool := match xa with
  | [.st [.l D, .z e, .l L], .st [.l D', .z e', .l L']] => sameTn ⟨D, e, L⟩ ⟨D', e', L'⟩
  | _ => false
end Go.Proofs.Ytnjipnklbdlgaaa
