/- Contracts, kept and used: arguments of plain types; the walk's contracts as these. No program in sight. -/
import Derived.Test.YtmlfiphpcjkadaaSndD
namespace Go.Proofs.Ytmlfiphpcjkadaa
open Go.RowKit Go.ChangeShapes Go.WideShapes Go.Deep
theorem svArgs_cons {t : Ty} {ts : List Ty} {as : List AV} {xs : List SV} (h : svArgs (t :: ts) as = some xs) : ∃ a as' x xs', as = a :: as' ∧ xs = x :: xs' ∧ argSV t a = some x ∧ svArgs ts as' = some xs' := by
  cases as with
  | nil => simp [svArgs] at h
  | cons a as' =>
    simp only [svArgs] at h
    obtain ⟨x, h1, h2⟩ := Option.bind_eq_some_iff.1 h
    obtain ⟨xs', h3, h4⟩ := Option.bind_eq_some_iff.1 h2
    cases h4
    exact ⟨a, as', x, xs', rfl, rfl, h1, h3⟩
theorem svArgs_nil {as : List AV} {xs : List SV} (h : svArgs [] as = some xs) : as = [] ∧ xs = [] := by
  cases as with
  | nil => simp only [svArgs, Option.some.injEq] at h; exact ⟨rfl, h.symm⟩
  | cons a as' => simp [svArgs] at h
theorem argSV_int {k : IntKind} {a : AV} {x : SV} (h : argSV (.int k) a = some x) : ∃ z, a = .z z ∧ x = .v (.int k z) := by
  cases a <;> simp [argSV, svAV] at h
  exact ⟨_, rfl, h.symm⟩
theorem argSV_bool {a : AV} {x : SV} (h : argSV .bool a = some x) : ∃ z, a = .b z ∧ x = .v (.bool z) := by
  cases a <;> simp [argSV, svAV] at h
  exact ⟨_, rfl, h.symm⟩
theorem argSV_str {a : AV} {x : SV} (h : argSV .str a = some x) : ∃ z, a = .s z ∧ x = .v (.string z) := by
  cases a <;> simp [argSV, svAV] at h
  exact ⟨_, rfl, h.symm⟩
theorem argSV_ints {k : IntKind} {a : AV} {x : SV} (h : argSV (.sl (.int k)) a = some x) : ∃ l, a = .l l ∧ x = .iimm k l := by
  cases a <;> simp [argSV, svAV] at h
  exact ⟨_, rfl, h.symm⟩
theorem argSV_rows {fs : List Ty} {a : AV} {x : SV} (h : argSV (.sl (.st fs)) a = some x) : ∃ d, a = .d d ∧ x = .imm (.st fs) d := by
  cases a <;> simp [argSV, svAV] at h
  exact ⟨_, rfl, h.symm⟩
theorem svAVs_cons {t : Ty} {ts : List Ty} {as : List AV} {l : List SV} (h : svAVs (t :: ts) as = some l) : ∃ a as' x m, as = a :: as' ∧ l = x ++ m ∧ svAV t a = some x ∧ svAVs ts as' = some m := by
  cases as with
  | nil => simp [svAVs] at h
  | cons a as' =>
    simp only [svAVs] at h
    obtain ⟨x, h1, h2⟩ := Option.bind_eq_some_iff.1 h
    obtain ⟨xs', h3, h4⟩ := Option.bind_eq_some_iff.1 h2
    cases h4
    exact ⟨a, as', x, xs', rfl, rfl, h1, h3⟩
theorem svAVs_nil {as : List AV} {xs : List SV} (h : svAVs [] as = some xs) : as = [] ∧ xs = [] := by
  cases as with
  | nil => simp only [svAVs, Option.some.injEq] at h; exact ⟨rfl, h.symm⟩
  | cons a as' => simp [svAVs] at h
theorem argSV_st {fs : List Ty} {a : AV} {x : SV} (h : argSV (.st fs) a = some x) : ∃ as l, a = .st as ∧ x = .agg l ∧ svAVs fs as = some l := by
  simp only [argSV] at h
  obtain ⟨l, h1, h2⟩ := Option.bind_eq_some_iff.1 h
  cases h2
  cases a <;> simp [svAV] at h1
  exact ⟨_, _, rfl, rfl, h1⟩
theorem svAV_int {k : IntKind} {a : AV} {x : List SV} (h : svAV (.int k) a = some x) : ∃ z, a = .z z ∧ x = [.v (.int k z)] := by
  cases a <;> simp [svAV] at h
  exact ⟨_, rfl, h.symm⟩
theorem svAV_bool {a : AV} {x : List SV} (h : svAV .bool a = some x) : ∃ z, a = .b z ∧ x = [.v (.bool z)] := by
  cases a <;> simp [svAV] at h
  exact ⟨_, rfl, h.symm⟩
theorem svAV_ints {k : IntKind} {a : AV} {x : List SV} (h : svAV (.sl (.int k)) a = some x) : ∃ l, a = .l l ∧ x = [.iimm k l] := by
  cases a <;> simp [svAV] at h
  exact ⟨_, rfl, h.symm⟩
/-- A tensor's type. -/
abbrev tnTy (k : IntKind) : Ty := .st [.sl (.int .i64), .int .i64, .sl (.int k)]
def Tn.av (t : Tn) : AV := .st [.l t.dims, .z t.exp, .l t.data]
def Tn.sv (k : IntKind) (t : Tn) : SV := .agg [.iimm .i64 t.dims, .v (.int .i64 t.exp), .iimm k t.data]
theorem argSV_tn {k : IntKind} {a : AV} {x : SV} (h : argSV (tnTy k) a = some x) : ∃ t : Tn, a = t.av ∧ x = t.sv k := by
  obtain ⟨as, l, rfl, rfl, h'⟩ := argSV_st h
  clear h
  have h := h'
  obtain ⟨a1, as1, x1, m1, rfl, rfl, h1, h⟩ := svAVs_cons h
  obtain ⟨a2, as2, x2, m2, rfl, rfl, h2, h⟩ := svAVs_cons h
  obtain ⟨a3, as3, x3, m3, rfl, rfl, h3, h⟩ := svAVs_cons h
  obtain ⟨rfl, rfl⟩ := svAVs_nil h
  obtain ⟨D, rfl, rfl⟩ := svAV_ints h1
  obtain ⟨e, rfl, rfl⟩ := svAV_int h2
  obtain ⟨L, rfl, rfl⟩ := svAV_ints h3
  exact ⟨⟨D, e, L⟩, rfl, rfl⟩
theorem arg_int {w : World} {k : IntKind} {z : Int} (h : (Lit.int k z).wf = true) : ArgIs w (.int k) (.z z) (.int k z) := ⟨_, rfl, by simp only [SV.Is]; exact ⟨trivial, h⟩⟩
theorem arg_bool {w : World} {b : Bool} : ArgIs w .bool (.b b) (.bool b) := ⟨_, rfl, by simp only [SV.Is]; exact ⟨trivial, trivial⟩⟩
theorem arg_str {w : World} {s : ByteArray} (h : s.size ≤ maxLen) : ArgIs w .str (.s s) (.string s) := ⟨_, rfl, by simp only [SV.Is]; exact ⟨trivial, h⟩⟩
theorem arg_ints {w : World} {k : IntKind} {v : Value} {l : List Int} (h : Reads k w v l) : ArgIs w (.sl (.int k)) (.l l) v := ⟨_, rfl, by simp only [SV.Is]; exact h⟩
theorem arg_tn {w : World} {k : IntKind} {v : Value} {t : Tn} (h : RT k w v t) : ArgIs w (tnTy k) t.av v := by
  obtain ⟨d, a, rfl, h1, h2, h3⟩ := h
  refine ⟨t.sv k, rfl, ?_⟩
  unfold Tn.sv
  simp only [SV.Is]
  refine ⟨_, rfl, ?_⟩
  simp only [LsIs, SV.Is]
  exact ⟨_, _, rfl, h1, _, _, rfl, ⟨rfl, h3⟩, _, _, rfl, h2, rfl⟩
theorem args0 {w : World} : ArgsIs w [] [] [] := rfl
theorem args1 {w : World} {t : Ty} {ts : List Ty} {a : AV} {as : List AV} {v : Value} {vs : List Value} (h : ArgIs w t a v) (hs : ArgsIs w ts as vs) : ArgsIs w (t :: ts) (a :: as) (v :: vs) := ⟨v, vs, rfl, h, hs⟩
theorem of_arg_ints {w : World} {k : IntKind} {a : AV} {v : Value} (h : ArgIs w (.sl (.int k)) a v) : ∃ l, a = .l l ∧ Reads k w v l := by
  obtain ⟨x, h1, h2⟩ := h
  obtain ⟨l, rfl, rfl⟩ := argSV_ints h1
  simp only [SV.Is] at h2
  exact ⟨l, rfl, h2⟩
theorem of_arg_int {w : World} {k : IntKind} {a : AV} {v : Value} (h : ArgIs w (.int k) a v) : ∃ z, a = .z z ∧ v = .int k z ∧ (Lit.int k z).wf = true := by
  obtain ⟨x, h1, h2⟩ := h
  obtain ⟨l, rfl, rfl⟩ := argSV_int h1
  simp only [SV.Is] at h2
  exact ⟨l, rfl, h2.1, h2.2⟩
theorem of_arg_tn {w : World} {k : IntKind} {a : AV} {v : Value} (h : ArgIs w (tnTy k) a v) : ∃ t : Tn, a = t.av ∧ RT k w v t := by
  obtain ⟨x, h1, h2⟩ := h
  obtain ⟨t, rfl, rfl⟩ := argSV_tn h1
  refine ⟨t, rfl, ?_⟩
  unfold Tn.sv at h2
  simp only [SV.Is] at h2
  obtain ⟨cs, rfl, h2⟩ := h2
  simp only [LsIs, SV.Is] at h2
  obtain ⟨d, _, e1, h3, e, _, rfl, ⟨rfl, h4⟩, u, _, rfl, h5, rfl⟩ := h2
  refine ⟨d, u, ?_, h3, h5, h4⟩
  congr 1
  exact Array.ext' e1
theorem args_cons {w : World} {t : Ty} {ts : List Ty} {as : List AV} {vs : List Value} (h : ArgsIs w (t :: ts) as vs) : ∃ a as' v vs', as = a :: as' ∧ vs = v :: vs' ∧ ArgIs w t a v ∧ ArgsIs w ts as' vs' := by
  cases as with
  | nil => exact h.elim
  | cons a as => obtain ⟨v, vs', rfl, h1, h2⟩ := h; exact ⟨a, as, v, vs', rfl, rfl, h1, h2⟩
theorem args_nil {w : World} {as : List AV} {vs : List Value} (h : ArgsIs w [] as vs) : as = [] ∧ vs = [] := by
  cases as with
  | nil => exact ⟨rfl, h⟩
  | cons a as => exact h.elim
theorem gv_val {w w' : World} {v : Value} {g : World} (hv : VOk v) (hb : Below w.heap.size w w') : Gv g noR 0 w (.v v, []) v w' where
  below := hb
  sv := by simp only [SV.Is]; exact ⟨trivial, hv⟩
  objs := by intro k o h; simp at h
  apart := by intro j k o p a b c h; simp at h
theorem below_self (w : World) : Below w.heap.size w w := Below.refl _ _
/-- A law's call. -/
theorem law_of {P : Program} {f : FuncId} {c : Ctr} (h : CtrOk P f c) (hal : c.al = false) {as : List AV} {w : World} {vs : List Value} (ha : ArgsIs w c.tys as vs) (hp : ∀ p, c.pre as = some p → p) (hr : c.res as = .ret (.v (.bool true)) []) :
    Calls P f vs.toArray w fun e w' => e = .returned (.bool true) ∧ Below w.heap.size w w' := by
  refine (h as w w vs ha (fun e => by rw [hal] at e; cases e) hp).mono fun e w' ⟨v, he, hg⟩ => ?_
  rw [hr] at hg
  have := hg.sv
  simp only [Out.pick, SV.Is] at this
  rw [he, this.1]
  exact ⟨rfl, hg.below⟩
theorem of_i64 {z : Int} (h : (Lit.int .i64 z).wf = true) : -9223372036854775808 ≤ z ∧ z ≤ 9223372036854775807 := by
  simpa [Lit.wf, IntKind.min, IntKind.max, IntKind.signed, IntKind.bits] using h
theorem of_i8 {z : Int} (h : (Lit.int .i8 z).wf = true) : -128 ≤ z ∧ z ≤ 127 := by
  simpa [Lit.wf, IntKind.min, IntKind.max, IntKind.signed, IntKind.bits] using h
theorem of_i32 {z : Int} (h : (Lit.int .i32 z).wf = true) : -2147483648 ≤ z ∧ z ≤ 2147483647 := by
  simpa [Lit.wf, IntKind.min, IntKind.max, IntKind.signed, IntKind.bits] using h
theorem svf_ints {k : IntKind} {l : List Int} (h : SVf (.iimm k l)) : Fits k l ∧ (l.length : Int) ≤ 9223372036854775807 := ⟨h.1, by have h2 := h.2; unfold maxLen at h2; omega⟩
theorem svf_tn {k : IntKind} {t : Tn} (h : SVf (t.sv k)) : (Fits .i64 t.dims ∧ (t.dims.length : Int) ≤ 9223372036854775807) ∧ (-9223372036854775808 ≤ t.exp ∧ t.exp ≤ 9223372036854775807) ∧ Fits k t.data ∧ (t.data.length : Int) ≤ 9223372036854775807 := by
  have h1 := h (.iimm .i64 t.dims) (by simp)
  have h2 := h (.v (.int .i64 t.exp)) (by simp)
  have h3 := h (.iimm k t.data) (by simp)
  simp only [SVf1, SVfV] at h1 h2 h3
  refine ⟨⟨h1.1, ?_⟩, of_i64 h2, h3.1, ?_⟩
  · have h4 := h1.2; unfold maxLen at h4; omega
  · have h4 := h3.2; unfold maxLen at h4; omega
end Go.Proofs.Ytmlfiphpcjkadaa
