/- Contracts, kept and used: arguments of plain types; the walk's contracts as these. No program in sight. -/
import Derived.Test.YtekokhlldcmjfaaSndD
namespace Go.Proofs.Ytekokhlldcmjfaa
open Go.RowKit Go.ChangeShapes Go.WideShapes Go.Deep
theorem svArgs_cons {t : Ty} {ts : List Ty} {as : List AV} {xs : List SV} (h : svArgs (t :: ts) as = some xs) : ∃ a as' x xs', as = a :: as' ∧ xs = x :: xs' ∧ argSV t a = some x ∧ svArgs ts as' = some xs' := by
  cases as with
  | nil => simp [svArgs] at h
  | cons a as' =>
    simp only [svArgs] at h
    obtain ⟨x, h1, h2⟩ := Option.bind_eq_some_iff.1 h
    obtain ⟨xs', h3, h4⟩ := Option.bind_eq_some_iff.1 h2
    cases h4
    exact ⟨a, as', x, xs', rfl, rfl, h1, h3⟩
theorem svArgs_nil {as : List AV} {xs : List SV} (h : svArgs [] as = some xs) : as = [] ∧ xs = [] := by
  cases as with
  | nil => simp only [svArgs, Option.some.injEq] at h; exact ⟨rfl, h.symm⟩
  | cons a as' => simp [svArgs] at h
theorem argSV_int {k : IntKind} {a : AV} {x : SV} (h : argSV (.int k) a = some x) : ∃ z, a = .z z ∧ x = .v (.int k z) := by
  cases a <;> simp [argSV, svAV] at h
  exact ⟨_, rfl, h.symm⟩
theorem argSV_bool {a : AV} {x : SV} (h : argSV .bool a = some x) : ∃ z, a = .b z ∧ x = .v (.bool z) := by
  cases a <;> simp [argSV, svAV] at h
  exact ⟨_, rfl, h.symm⟩
theorem argSV_str {a : AV} {x : SV} (h : argSV .str a = some x) : ∃ z, a = .s z ∧ x = .v (.string z) := by
  cases a <;> simp [argSV, svAV] at h
  exact ⟨_, rfl, h.symm⟩
theorem argSV_ints {k : IntKind} {a : AV} {x : SV} (h : argSV (.sl (.int k)) a = some x) : ∃ l, a = .l l ∧ x = .iimm k l := by
  cases a <;> simp [argSV, svAV] at h
  exact ⟨_, rfl, h.symm⟩
theorem argSV_rows {fs : List Ty} {a : AV} {x : SV} (h : argSV (.sl (.st fs)) a = some x) : ∃ d, a = .d d ∧ x = .imm (.st fs) d := by
  cases a <;> simp [argSV, svAV] at h
  exact ⟨_, rfl, h.symm⟩
theorem svAVs_cons {t : Ty} {ts : List Ty} {as : List AV} {l : List SV} (h : svAVs (t :: ts) as = some l) : ∃ a as' x m, as = a :: as' ∧ l = x ++ m ∧ svAV t a = some x ∧ svAVs ts as' = some m := by
  cases as with
  | nil => simp [svAVs] at h
  | cons a as' =>
    simp only [svAVs] at h
    obtain ⟨x, h1, h2⟩ := Option.bind_eq_some_iff.1 h
    obtain ⟨xs', h3, h4⟩ := Option.bind_eq_some_iff.1 h2
    cases h4
    exact ⟨a, as', x, xs', rfl, rfl, h1, h3⟩
theorem svAVs_nil {as : List AV} {xs : List SV} (h : svAVs [] as = some xs) : as = [] ∧ xs = [] := by
  cases as with
  | nil => simp only [svAVs, Option.some.injEq] at h; exact ⟨rfl, h.symm⟩
  | cons a as' => simp [svAVs] at h
theorem argSV_st {fs : List Ty} {a : AV} {x : SV} (h : argSV (.st fs) a = some x) : ∃ as l, a = .st as ∧ x = .agg l ∧ svAVs fs as = some l := by
  simp only [argSV] at h
  obtain ⟨l, h1, h2⟩ := Option.bind_eq_some_iff.1 h
  cases h2
  cases a <;> simp [svAV] at h1
  exact ⟨_, _, rfl, rfl, h1⟩
theorem svAV_int {k : IntKind} {a : AV} {x : List SV} (h : svAV (.int k) a = some x) : ∃ z, a = .z z ∧ x = [.v (.int k z)] := by
  cases a <;> simp [svAV] at h
  exact ⟨_, rfl, h.symm⟩
theorem svAV_bool {a : AV} {x : List SV} (h : svAV .bool a = some x) : ∃ z, a = .b z ∧ x = [.v (.bool z)] := by
  cases a <;> simp [svAV] at h
  exact ⟨_, rfl, h.symm⟩
theorem svAV_ints {k : IntKind} {a : AV} {x : List SV} (h : svAV (.sl (.int k)) a = some x) : ∃ l, a = .l l ∧ x = [.iimm k l] := by
  cases a <;> simp [svAV] at h
  exact ⟨_, rfl, h.symm⟩
/-- A tensor's type. -/
abbrev tnTy (k : IntKind) : Ty := .st [.sl (.int .i64), .int .i64, .sl (.int k)]
def Tn.av (t : Tn) : AV := .st [.l t.dims, .z t.exp, .l t.data]
def Tn.sv (k : IntKind) (t : Tn) : SV := .agg [.iimm .i64 t.dims, .v (.int .i64 t.exp), .iimm k t.data]
theorem argSV_tn {k : IntKind} {a : AV} {x : SV} (h : argSV (tnTy k) a = some x) : ∃ t : Tn, a = t.av ∧ x = t.sv k := by
  obtain ⟨as, l, rfl, rfl, h'⟩ := argSV_st h
  clear h
  have h := h'
  obtain ⟨a1, as1, x1, m1, rfl, rfl, h1, h⟩ := svAVs_cons h
  obtain ⟨a2, as2, x2, m2, rfl, rfl, h2, h⟩ := svAVs_cons h
  obtain ⟨a3, as3, x3, m3, rfl, rfl, h3, h⟩ := svAVs_cons h
  obtain ⟨rfl, rfl⟩ := svAVs_nil h
  obtain ⟨D, rfl, rfl⟩ := svAV_ints h1
  obtain ⟨e, rfl, rfl⟩ := svAV_int h2
  obtain ⟨L, rfl, rfl⟩ := svAV_ints h3
  exact ⟨⟨D, e, L⟩, rfl, rfl⟩
theorem arg_int {w : World} {k : IntKind} {z : Int} (h : (Lit.int k z).wf = true) : ArgIs w (.int k) (.z z) (.int k z) := ⟨_, rfl, by simp only [SV.Is]; exact ⟨trivial, h⟩⟩
theorem arg_bool {w : World} {b : Bool} : ArgIs w .bool (.b b) (.bool b) := ⟨_, rfl, by simp only [SV.Is]; exact ⟨trivial, trivial⟩⟩
theorem arg_str {w : World} {s : ByteArray} (h : s.size ≤ maxLen) : ArgIs w .str (.s s) (.string s) := ⟨_, rfl, by simp only [SV.Is]; exact ⟨trivial, h⟩⟩
theorem arg_ints {w : World} {k : IntKind} {v : Value} {l : List Int} (h : Reads k w v l) : ArgIs w (.sl (.int k)) (.l l) v := ⟨_, rfl, by simp only [SV.Is]; exact h⟩
theorem arg_tn {w : World} {k : IntKind} {v : Value} {t : Tn} (h : RT k w v t) : ArgIs w (tnTy k) t.av v := by
  obtain ⟨d, a, rfl, h1, h2, h3⟩ := h
  refine ⟨t.sv k, rfl, ?_⟩
  unfold Tn.sv
  simp only [SV.Is]
  refine ⟨_, rfl, ?_⟩
  simp only [LsIs, SV.Is]
  exact ⟨_, _, rfl, h1, _, _, rfl, ⟨rfl, h3⟩, _, _, rfl, h2, rfl⟩
theorem args0 {w : World} : ArgsIs w [] [] [] := rfl
theorem args1 {w : World} {t : Ty} {ts : List Ty} {a : AV} {as : List AV} {v : Value} {vs : List Value} (h : ArgIs w t a v) (hs : ArgsIs w ts as vs) : ArgsIs w (t :: ts) (a :: as) (v :: vs) := ⟨v, vs, rfl, h, hs⟩
theorem of_arg_ints {w : World} {k : IntKind} {a : AV} {v : Value} (h : ArgIs w (.sl (.int k)) a v) : ∃ l, a = .l l ∧ Reads k w v l := by
  obtain ⟨x, h1, h2⟩ := h
  obtain ⟨l, rfl, rfl⟩ := argSV_ints h1
  simp only [SV.Is] at h2
  exact ⟨l, rfl, h2⟩
theorem of_arg_int {w : World} {k : IntKind} {a : AV} {v : Value} (h : ArgIs w (.int k) a v) : ∃ z, a = .z z ∧ v = .int k z ∧ (Lit.int k z).wf = true := by
  obtain ⟨x, h1, h2⟩ := h
  obtain ⟨l, rfl, rfl⟩ := argSV_int h1
  simp only [SV.Is] at h2
  exact ⟨l, rfl, h2.1, h2.2⟩
theorem of_arg_tn {w : World} {k : IntKind} {a : AV} {v : Value} (h : ArgIs w (tnTy k) a v) : ∃ t : Tn, a = t.av ∧ RT k w v t := by
  obtain ⟨x, h1, h2⟩ := h
  obtain ⟨t, rfl, rfl⟩ := argSV_tn h1
  refine ⟨t, rfl, ?_⟩
  unfold Tn.sv at h2
  simp only [SV.Is] at h2
  obtain ⟨cs, rfl, h2⟩ := h2
  simp only [LsIs, SV.Is] at h2
  obtain ⟨d, _, e1, h3, e, _, rfl, ⟨rfl, h4⟩, u, _, rfl, h5, rfl⟩ := h2
  refine ⟨d, u, ?_, h3, h5, h4⟩
  congr 1
  exact Array.ext' e1
theorem args_cons {w : World} {t : Ty} {ts : List Ty} {as : List AV} {vs : List Value} (h : ArgsIs w (t :: ts) as vs) : ∃ a as' v vs', as = a :: as' ∧ vs = v :: vs' ∧ ArgIs w t a v ∧ ArgsIs w ts as' vs' := by
  cases as with
  | nil => exact h.elim
  | cons a as => obtain ⟨v, vs', rfl, h1, h2⟩ := h; exact ⟨a, as, v, vs', rfl, rfl, h1, h2⟩
theorem args_nil {w : World} {as : List AV} {vs : List Value} (h : ArgsIs w [] as vs) : as = [] ∧ vs = [] := by
  cases as with
  | nil => exact ⟨rfl, h⟩
  | cons a as => exact h.elim
theorem gv_val {w w' : World} {v : Value} {g : World} (hv : VOk v) (hb : Below w.heap.size w w') : Gv g noR 0 w (.v v, []) v w' where
  below := hb
  sv := by simp only [SV.Is]; exact ⟨trivial, hv⟩
  objs := by intro k o h; simp at h
  apart := by intro j k o p a b c h; simp at h
theorem below_self (w : World) : Below w.heap.size w w := Below.refl _ _
/-- A law's call. -/
theorem law_of {P : Program} {f : FuncId} {c : Ctr} (h : CtrOk P f c) (hal : c.al = false) {as : List AV} {w : World} {vs : List Value} (ha : ArgsIs w c.tys as vs) (hp : ∀ p, c.pre as = some p → p) (hr : c.res as = .ret (.v (.bool true)) []) :
    Calls P f vs.toArray w fun e w' => e = .returned (.bool true) ∧ Below w.heap.size w w' := by
  refine (h as w w vs ha (fun e => by rw [hal] at e; cases e) hp).mono fun e w' ⟨v, he, hg⟩ => ?_
  rw [hr] at hg
  have := hg.sv
  simp only [Out.pick, SV.Is] at this
  rw [he, this.1]
  exact ⟨rfl, hg.below⟩
theorem of_i64 {z : Int} (h : (Lit.int .i64 z).wf = true) : -9223372036854775808 ≤ z ∧ z ≤ 9223372036854775807 := by
  simpa [Lit.wf, IntKind.min, IntKind.max, IntKind.signed, IntKind.bits] using h
theorem of_i8 {z : Int} (h : (Lit.int .i8 z).wf = true) : -128 ≤ z ∧ z ≤ 127 := by
  simpa [Lit.wf, IntKind.min, IntKind.max, IntKind.signed, IntKind.bits] using h
theorem of_i32 {z : Int} (h : (Lit.int .i32 z).wf = true) : -2147483648 ≤ z ∧ z ≤ 2147483647 := by
  simpa [Lit.wf, IntKind.min, IntKind.max, IntKind.signed, IntKind.bits] using h
theorem svf_ints {k : IntKind} {l : List Int} (h : SVf (.iimm k l)) : Fits k l ∧ (l.length : Int) ≤ 9223372036854775807 := ⟨h.1, by have h2 := h.2; unfold maxLen at h2; omega⟩
theorem svf_tn {k : IntKind} {t : Tn} (h : SVf (t.sv k)) : (Fits .i64 t.dims ∧ (t.dims.length : Int) ≤ 9223372036854775807) ∧ (-9223372036854775808 ≤ t.exp ∧ t.exp ≤ 9223372036854775807) ∧ Fits k t.data ∧ (t.data.length : Int) ≤ 9223372036854775807 := by
  have h1 := h (.iimm .i64 t.dims) (by simp)
  have h2 := h (.v (.int .i64 t.exp)) (by simp)
  have h3 := h (.iimm k t.data) (by simp)
  simp only [SVf1, SVfV] at h1 h2 h3
  refine ⟨⟨h1.1, ?_⟩, of_i64 h2, h3.1, ?_⟩
  · have h4 := h1.2; unfold maxLen at h4; omega
  · have h4 := h3.2; unfold maxLen at h4; omega
/-! ### An argument of any type -/
mutual
def avD : Ty → Dat → AV
  | .int _, d => .z (std.dint d)
  | .bool, d => .b (std.dbool d)
  | .str, d => .s (std.dstr d)
  | .sl e, d => match e with
    | .int _ => .l (std.dints d)
    | _ => .d d
  | .st fs, d => .st (avDs fs d 0)
def avDs : List Ty → Dat → Nat → List AV
  | [], _, _ => []
  | t :: ts, d, i => avD t (std.dfld d i) :: avDs ts d (i + 1)
end
mutual
theorem svAV_of : ∀ (T : Ty) (d : Dat), svAV T (avD T d) = some (svOf std T d)
  | .int _, d => by simp [avD, svAV, svOf]
  | .bool, d => by simp [avD, svAV, svOf]
  | .str, d => by simp [avD, svAV, svOf]
  | .sl e, d => by
    cases e <;> simp [avD, svAV, svOf]
  | .st fs, d => by
    simp only [avD, svAV, svOf]
    exact svAVs_of fs d 0
theorem svAVs_of : ∀ (Ts : List Ty) (d : Dat) (i : Nat), svAVs Ts (avDs Ts d i) = some (svOfs std Ts d i)
  | [], _, _ => by simp [avDs, svAVs, svOfs]
  | t :: ts, d, i => by
    simp only [avDs, svAVs, svOfs, svAV_of t, svAVs_of ts d (i + 1), Option.bind_some]
end
mutual
theorem rd_up {M M' : Nat} {w : World} (hM : M ≤ M') : ∀ (T : Ty) (cs : List Value) (d : Dat), Rd M w T cs d → Rd M' w T cs d
  | .int _, _, _, h => by simp only [Rd] at h ⊢; exact h
  | .bool, _, _, h => by simp only [Rd] at h ⊢; exact h
  | .str, _, _, h => by
    simp only [Rd] at h ⊢
    obtain ⟨s, h1, h2, h3⟩ := h
    exact ⟨s, h1, h2, Nat.le_trans h3 hM⟩
  | .sl e, cs, d, h => by
    simp only [Rd] at h ⊢
    obtain ⟨ao, cap, ds, h1, h2, h3, h4, h5⟩ := h
    refine ⟨ao, cap, ds, h1, h2, h3, Nat.le_trans h4 hM, ?_⟩
    rcases h5 with h5 | ⟨b, o, h6, h7⟩
    · exact .inl h5
    · refine .inr ⟨b, o, h6, fun i u hu => ?_⟩
      obtain ⟨es, he1, he2, he3⟩ := h7 i u hu
      exact ⟨es, he1, he2, rd_up hM e es u he3⟩
  | .st fs, cs, d, h => by
    simp only [Rd] at h ⊢
    obtain ⟨ds, h1, h2⟩ := h
    exact ⟨ds, h1, rdL_up hM fs cs ds h2⟩
theorem rdL_up {M M' : Nat} {w : World} (hM : M ≤ M') : ∀ (Ts : List Ty) (cs : List Value) (ds : List Dat), RdL M w Ts cs ds → RdL M' w Ts cs ds
  | [], _, _, h => by simp only [RdL] at h ⊢; exact h
  | t :: ts, cs, ds, h => by
    simp only [RdL] at h ⊢
    obtain ⟨c1, c2, u, us, h1, h2, h3, h4, h5⟩ := h
    exact ⟨c1, c2, u, us, h1, h2, h3, rd_up hM t c1 u h4, rdL_up hM ts c2 us h5⟩
end
theorem arg_any {w : World} {M : Nat} {T : Ty} {v : Value} {d : Dat} (h : RdV M w T v d) (hM : M ≤ maxLen) : ArgIs w T (avD T d) v := by
  have one : ∀ {T : Ty}, (∀ fs, T ≠ .st fs) → Rd maxLen w T [v] d → ArgIs w T (avD T d) v := by
    intro T hT h
    have h1 := svOf_is (r := noR) T [v] d h
    have h2 := svAV_of T d
    have h3 : ∃ x, svOf std T d = [x] := by
      cases T with
      | int k => exact ⟨_, rfl⟩
      | bool => exact ⟨_, rfl⟩
      | str => exact ⟨_, rfl⟩
      | sl e => cases e <;> exact ⟨_, rfl⟩
      | st fs => exact absurd rfl (hT fs)
    obtain ⟨x, h3⟩ := h3
    rw [h3] at h1 h2
    obtain ⟨u, hu, hx⟩ := ls1 h1
    cases hu
    refine ⟨x, ?_, hx⟩
    cases T with
    | st fs => exact absurd rfl (hT fs)
    | _ => simp only [argSV, h2]
  unfold RdV at h
  cases T with
  | st fs =>
    simp only at h
    obtain ⟨cs, rfl, h⟩ := h
    have h1 := svOf_is (r := noR) (.st fs) cs.toList d (rd_up hM _ _ _ h)
    refine ⟨.agg (svOf std (.st fs) d), ?_, by simp only [SV.Is]; exact ⟨cs, rfl, h1⟩⟩
    simp only [argSV, svAV_of, Option.bind_some]
  | int k => exact one (by simp) (rd_up hM _ _ _ h)
  | bool => exact one (by simp) (rd_up hM _ _ _ h)
  | str => exact one (by simp) (rd_up hM _ _ _ h)
  | sl e => exact one (by simp) (rd_up hM _ _ _ h)
theorem svAV_str {a : AV} {x : List SV} (h : svAV .str a = some x) : ∃ z, a = .s z ∧ x = [.v (.string z)] := by
  cases a <;> simp [svAV] at h
  exact ⟨_, rfl, h.symm⟩
theorem svAV_rows {fs : List Ty} {a : AV} {x : List SV} (h : svAV (.sl (.st fs)) a = some x) : ∃ d, a = .d d ∧ x = [.imm (.st fs) d] := by
  cases a <;> simp [svAV] at h
  exact ⟨_, rfl, h.symm⟩
theorem svAV_st {fs : List Ty} {a : AV} {l : List SV} (h : svAV (.st fs) a = some l) : ∃ as, a = .st as ∧ svAVs fs as = some l := by
  cases a <;> simp [svAV] at h
  exact ⟨_, rfl, h⟩
theorem wtl_len {e : Ty} {d : Dat} (h : Wt (.sl e) d) : (d.ls.length : Int) ≤ 9223372036854775807 := by
  simp only [Wt] at h
  obtain ⟨ds, rfl, h2, _⟩ := h
  unfold maxLen at h2
  simp only [Dat.ls]
  omega
end Go.Proofs.Ytekokhlldcmjfaa
