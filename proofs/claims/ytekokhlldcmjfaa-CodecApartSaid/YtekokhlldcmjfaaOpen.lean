/- Arguments of any plain type, opened: what they read as. No program in sight. -/
import Derived.Test.YtekokhlldcmjfaaMem
import Derived.WalkKit
import Derived.WalkSpells
import Derived.OpenShut
import Derived.SizedLaws
import Derived.Deep.Slices
import Derived.Deep.Fields
import Derived.ChangeSame
namespace Go.Proofs.Ytekokhlldcmjfaa
open Go.ChangeShapes Go.WideShapes Go.Deep Go.RowKit
/-! ### What an argument reads as, whatever its type -/
/-- Kinds of types whose values are plain data. -/
inductive Ty where
  | int (k : IntKind)
  | bool
  | str
  | sl (e : Ty)
  | st (fs : List Ty)
mutual
def Ty.size : Ty → Nat
  | .st fs => sizes fs
  | _ => 1
def sizes : List Ty → Nat
  | [] => 0
  | t :: ts => t.size + sizes ts
end
/-- Plain data. -/
inductive Dat where
  | int (z : Int)
  | bool (b : Bool)
  | str (s : ByteArray)
  | list (l : List Dat)
  | agg (l : List Dat)
mutual
def Rd (M : Nat) (w : World) : Ty → List Value → Dat → Prop
  | .int k, cs, d => ∃ z, cs = [.int k z] ∧ d = .int z ∧ (Lit.int k z).wf = true
  | .bool, cs, d => ∃ b, cs = [.bool b] ∧ d = .bool b
  | .str, cs, d => ∃ s, cs = [.string s] ∧ d = .str s ∧ s.size ≤ M
  | .sl e, cs, d => ∃ ao cap ds, cs = [.slice ao ds.length cap] ∧ d = .list ds ∧ ds.length ≤ cap ∧ cap ≤ M ∧ (ds = [] ∨ ∃ b o, ao = some ⟨b, o, none⟩ ∧ ∀ i (u : Dat), ds[i]? = some u → ∃ es : List Value, es.length = e.size ∧ (∀ j v, es[j]? = some v → w.cell? ⟨b, o + (i * e.size + j), none⟩ = some v) ∧ Rd M w e es u)
  | .st fs, cs, d => ∃ ds, d = .agg ds ∧ RdL M w fs cs ds
def RdL (M : Nat) (w : World) : List Ty → List Value → List Dat → Prop
  | [], cs, ds => cs = [] ∧ ds = []
  | t :: ts, cs, ds => ∃ c1 c2 u us, cs = c1 ++ c2 ∧ c1.length = t.size ∧ ds = u :: us ∧ Rd M w t c1 u ∧ RdL M w ts c2 us
end
theorem rd_int {M : Nat} {w : World} {k : IntKind} {cs : List Value} {d : Dat} : Rd M w (.int k) cs d = ∃ z, cs = [.int k z] ∧ d = .int z ∧ (Lit.int k z).wf = true := by rw [Rd]
theorem rd_st {M : Nat} {w : World} {fs : List Ty} {cs : List Value} {d : Dat} : Rd M w (.st fs) cs d = ∃ ds, d = .agg ds ∧ RdL M w fs cs ds := by rw [Rd]
def fieldsOf (P : Program) (rec : TypeId → Option Ty) : Nat → List Field → Option (List Ty)
  | _, [] => some []
  | off, f :: fs => (rec f.type).bind fun T => if f.offset = off ∧ P.cellsOf f.type = T.size then (fieldsOf P rec (off + T.size) fs).map (T :: ·) else none
/-- A type's kind, asked of the program. -/
def tyOf (P : Program) : Nat → TypeId → Option Ty
  | 0, _ => none
  | n + 1, t => match P.underlying t with
    | some .bool => some .bool
    | some (.int k) => some (.int k)
    | some .string => some .str
    | some (.slice e) => (tyOf P n e).bind fun T => if P.cellsOf e = T.size ∧ 0 < T.size ∧ 0 < P.bytesOf e then some (.sl T) else none
    | some (.struct fs) => (fieldsOf P (tyOf P n) 0 fs.toList).bind fun Ts => if P.cellsOf t = sizes Ts then some (.st Ts) else none
    | some (.array m e) => (tyOf P n e).bind fun T => if P.cellsOf e = T.size ∧ P.cellsOf t = sizes (List.replicate m T) then some (.st (List.replicate m T)) else none
    | _ => none
section
variable {M : Nat} {H : Type} {enc : TypeId × Value → H} {P : Program} {w : World} {base : Nat} {held : Bool}
theorem mem_weightsAll {e : TypeId} : ∀ {l : List (DataW H)} {d : DataW H}, d ∈ l → ∀ n ∈ d.weights P e, n ∈ DataW.weightsAll P e l
  | [], _, h, _, _ => by simp at h
  | d0 :: l, d, h, n, hn => by
    simp only [DataW.weightsAll, List.mem_append]
    rcases List.mem_cons.1 h with rfl | h
    · exact .inl hn
    · exact .inr (mem_weightsAll h n hn)
def OpenAt (M : Nat) (enc : TypeId × Value → H) (P : Program) (w : World) (base : Nat) (held : Bool) (n : Nat) : Prop :=
  ∀ (t : TypeId) (T : Ty) (fuel : Nat) (cs : List Value) (x : DataW H × List MemPlace), tyOf P n t = some T →
    DataW.trod enc P w base (fun _ => true) held fuel t cs = some x → (∀ m ∈ x.1.weights P t, m ≤ M) → cs.length = T.size ∧ ∃ d, Rd M w T cs d
theorem open_fields {n : Nat} (ih : OpenAt M enc P w base held n) (cs : List Value) (m : Nat) :
    ∀ (fs : List Field) (off : Nat) (Ts : List Ty) (xs : List (DataW H × List MemPlace)), fieldsOf P (tyOf P n) off fs = some Ts → xs.length = fs.length →
      (∀ (i : Nat) (f : Field), fs[i]? = some f → DataW.trod enc P w base (fun _ => true) held m f.type ((cs.drop f.offset).take (P.cellsOf f.type)) = xs[i]?) →
      (∀ k ∈ DataW.weightsEach P (fs.map (·.type)) (xs.map (·.1)), k ≤ M) → (cs.drop off).length = sizes Ts →
      ∃ ds, RdL M w Ts (cs.drop off) ds := by
  intro fs
  induction fs with
  | nil =>
    intro off Ts xs hT hl _ _ hlen
    simp only [fieldsOf, Option.some.injEq] at hT
    subst hT
    refine ⟨[], ?_⟩
    rw [RdL]
    exact ⟨List.eq_nil_of_length_eq_zero hlen, rfl⟩
  | cons f fs ihf =>
    intro off Ts xs hT hl hx hw hlen
    simp only [fieldsOf] at hT
    obtain ⟨T, hT1, hT2⟩ := Option.bind_eq_some_iff.1 hT
    split at hT2
    · rename_i hc
      obtain ⟨Ts', hT3, rfl⟩ := Option.map_eq_some_iff.1 hT2
      cases xs with
      | nil => simp at hl
      | cons x xs =>
        have h0 := hx 0 f rfl
        simp only [List.getElem?_cons_zero] at h0
        simp only [List.map_cons, DataW.weightsEach, List.mem_append] at hw
        obtain ⟨hs, d, hd⟩ := ih f.type T m _ x hT1 h0 (fun k hk => hw k (.inl hk))
        rw [hc.1, hc.2] at hd hs
        have hlen' : (cs.drop (off + T.size)).length = sizes Ts' := by
          rw [List.length_drop] at hlen ⊢
          simp only [sizes] at hlen
          omega
        obtain ⟨ds, hds⟩ := ihf (off + T.size) Ts' xs hT3 (by simpa using hl) (fun i g hg => by have := hx (i + 1) g (by simpa using hg); simpa using this) (fun k hk => hw k (.inr hk)) hlen'
        refine ⟨d :: ds, ?_⟩
        rw [RdL]
        refine ⟨_, cs.drop (off + T.size), d, ds, ?_, hs, rfl, hd, hds⟩
        rw [← List.drop_drop, List.take_append_drop]
    · cases hT2
theorem open_elems {n : Nat} (ih : OpenAt M enc P w base held n) (cs : List Value) (m : Nat) (e : TypeId) (T : Ty) (hT : tyOf P n e = some T) (hc : P.cellsOf e = T.size) :
    ∀ (k off : Nat) (xs : List (DataW H × List MemPlace)), xs.length = k →
      (∀ i, i < k → DataW.trod enc P w base (fun _ => true) held m e ((cs.drop ((off + i) * P.cellsOf e)).take (P.cellsOf e)) = xs[i]?) →
      (∀ q ∈ DataW.weightsAll P e (xs.map (·.1)), q ≤ M) → (cs.drop (off * P.cellsOf e)).length = sizes (List.replicate k T) →
      ∃ ds, RdL M w (List.replicate k T) (cs.drop (off * P.cellsOf e)) ds := by
  intro k
  induction k with
  | zero =>
    intro off xs _ _ _ hlen
    refine ⟨[], ?_⟩
    rw [List.replicate_zero, RdL]
    exact ⟨List.eq_nil_of_length_eq_zero hlen, rfl⟩
  | succ k ihk =>
    intro off xs hl hx hw hlen
    cases xs with
    | nil => simp at hl
    | cons x xs =>
      have h0 := hx 0 (by omega)
      simp only [List.getElem?_cons_zero, Nat.add_zero] at h0
      simp only [List.map_cons, DataW.weightsAll, List.mem_append] at hw
      obtain ⟨hs, d, hd⟩ := ih e T m _ x hT h0 (fun q hq => hw q (.inl hq))
      have hlen' : (cs.drop ((off + 1) * P.cellsOf e)).length = sizes (List.replicate k T) := by
        rw [List.length_drop] at hlen ⊢
        rw [List.replicate_succ] at hlen
        simp only [sizes] at hlen
        rw [Nat.add_mul, Nat.one_mul, hc] at *
        omega
      obtain ⟨ds, hds⟩ := ihk (off + 1) xs (by simpa using hl) (fun i hi => by have := hx (i + 1) (by omega); rw [show off + (i + 1) = off + 1 + i from by omega] at this; simpa using this) (fun q hq => hw q (.inr hq)) hlen'
      refine ⟨d :: ds, ?_⟩
      rw [List.replicate_succ, RdL]
      refine ⟨_, cs.drop ((off + 1) * P.cellsOf e), d, ds, ?_, hs, rfl, hd, hds⟩
      rw [show (off + 1) * P.cellsOf e = off * P.cellsOf e + P.cellsOf e from by rw [Nat.add_mul, Nat.one_mul], ← List.drop_drop, List.take_append_drop]
theorem open_at (n : Nat) : OpenAt M enc P w base held n := by
  induction n with
  | zero => intro t T fuel cs x hT; simp [tyOf] at hT
  | succ n ih =>
    intro t T fuel cs x hT h hw
    unfold tyOf at hT
    split at hT
    · rename_i hu
      obtain ⟨b, rfl, rfl⟩ := DataW.trod_bool hu h
      cases hT
      exact ⟨rfl, .bool b, by rw [Rd]; exact ⟨b, rfl, rfl⟩⟩
    · rename_i k hu
      obtain ⟨z, rfl, rfl, hz⟩ := DataW.trod_int hu h
      cases hT
      exact ⟨rfl, .int z, by rw [Rd]; exact ⟨z, rfl, rfl, hz⟩⟩
    · rename_i hu
      obtain ⟨s, rfl, rfl, hs⟩ := DataW.trod_string hu h
      cases hT
      refine ⟨rfl, .str s, ?_⟩
      rw [Rd]
      refine ⟨s, rfl, rfl, ?_⟩
      have := hw s.size (by simp [DataW.weights])
      exact this
    · rename_i e hu
      obtain ⟨E, hE, hT2⟩ := Option.bind_eq_some_iff.1 hT
      split at hT2
      · rename_i hc
        cases hT2
        rcases open_slice hu h with ⟨rfl, rfl⟩ | ⟨a, len, cap, m, q, D, Pl, rfl, hb, hl, hm, hmm, rfl, hi⟩
        · refine ⟨rfl, .list [], ?_⟩
          rw [Rd]
          exact ⟨none, 0, [], rfl, rfl, Nat.le_refl _, Nat.zero_le _, .inl rfl⟩
        · simp only [if_true] at hmm
          obtain rfl : cap = m := hmm.symm
          simp only [DataW.weights, hu, List.mem_cons, List.mem_append, List.length_map, List.length_range] at hw
          have hcap : cap ≤ M := by
            have h1 := hw _ (.inl rfl)
            have h2 : cap * 1 ≤ (len + (cap - len)) * P.bytesOf e := Nat.mul_le_mul (by omega) hc.2.2
            omega
          have hel : ∀ i, i < len → ∃ d, ∃ es : List Value, es.length = E.size ∧ (∀ j v, es[j]? = some v → w.cell? ((a.add (i * P.cellsOf e)).add j) = some v) ∧ Rd M w E es d := by
            intro i hi'
            obtain ⟨es, he1, he2⟩ := hi i (by omega)
            obtain ⟨_, he3, he4⟩ := World.cells?_some he1
            have hwi : ∀ m ∈ (D i).weights P e, m ≤ M := fun m hm => hw m (.inr (.inl (mem_weightsAll (List.mem_map.2 ⟨i, List.mem_range.2 hi', rfl⟩) m hm)))
            obtain ⟨hs, d, hd⟩ := ih e E q es _ hE he2 hwi
            refine ⟨d, es, hs, ?_, hd⟩
            intro j v hj
            have hjl := (List.getElem?_eq_some_iff.1 hj).1
            rw [he4 j (by omega)]
            exact hj
          let f : Nat → Dat := fun i => if h : i < len then Classical.choose (hel i h) else .int 0
          have hf : ∀ i, i < len → ∃ es : List Value, es.length = E.size ∧ (∀ j v, es[j]? = some v → w.cell? ((a.add (i * P.cellsOf e)).add j) = some v) ∧ Rd M w E es (f i) := by
            intro i hi'
            simp only [f, hi', dif_pos]
            exact Classical.choose_spec (hel i hi')
          clear_value f
          have hfl : ((List.range len).map f).length = len := by simp
          refine ⟨rfl, .list ((List.range len).map f), ?_⟩
          rw [Rd]
          refine ⟨some a, cap, (List.range len).map f, by rw [hfl], rfl, by rw [hfl]; exact hl, hcap, ?_⟩
          by_cases h0 : len = 0
          · left; subst h0; rfl
          · right
            obtain ⟨b, o, spot⟩ := a
            have hspot : spot = none := by
              obtain ⟨es, he1, he2, _⟩ := hf 0 (by omega)
              have hv : es[0]? = some (es[0]'(by omega)) := List.getElem?_eq_getElem (by omega)
              have := World.cell?_spot (he2 0 _ hv)
              simpa [Addr.add] using this
            subst hspot
            refine ⟨b, o, rfl, ?_⟩
            intro i u hu
            rw [List.getElem?_map] at hu
            obtain ⟨i', hi1, rfl⟩ := Option.map_eq_some_iff.1 hu
            have hil : i < len := by have := (List.getElem?_eq_some_iff.1 hi1).1; simpa using this
            rw [List.getElem?_range hil] at hi1
            cases hi1
            obtain ⟨es, he1, he2, he3⟩ := hf i hil
            refine ⟨es, he1, ?_, he3⟩
            intro j v hj
            have := he2 j v hj
            rw [hc.1] at this
            rw [Addr.add_lit, Addr.add_lit] at this
            rw [show o + (i * E.size + j) = o + i * E.size + j from by omega]
            exact this
      · cases hT2
    · rename_i fs hu
      obtain ⟨Ts, hTs, hT2⟩ := Option.bind_eq_some_iff.1 hT
      split at hT2
      · rename_i hc
        cases hT2
        obtain ⟨xs, m, _, rfl, hlen, hxl, hx⟩ := DataW.trod_struct hu h
        simp only [DataW.weights, hu] at hw
        obtain ⟨ds, hds⟩ := open_fields ih cs m fs.toList 0 Ts xs hTs (by simpa using hxl) (fun i f hf => hx i f (by simpa using hf)) hw (by rw [List.drop_zero, hlen, hc])
        rw [List.drop_zero] at hds
        exact ⟨by rw [hlen, hc]; rfl, .agg ds, by rw [Rd]; exact ⟨ds, rfl, hds⟩⟩
      · cases hT2
    · rename_i k e hu
      obtain ⟨E, hE, hT2⟩ := Option.bind_eq_some_iff.1 hT
      split at hT2
      · rename_i hc
        cases hT2
        obtain ⟨xs, m, _, rfl, hlen, hxl, hx⟩ := DataW.trod_array hu h
        simp only [DataW.weights, hu] at hw
        obtain ⟨ds, hds⟩ := open_elems ih cs m e E hE hc.1 k 0 xs hxl (fun i hi => by rw [Nat.zero_add]; exact hx i hi) hw (by rw [Nat.zero_mul, List.drop_zero, hlen, hc.2])
        rw [Nat.zero_mul, List.drop_zero] at hds
        exact ⟨by rw [hlen, hc.2]; rfl, .agg ds, by rw [Rd]; exact ⟨ds, rfl, hds⟩⟩
      · cases hT2
    · cases hT
/-- AN ARGUMENT OF ANY SUCH TYPE, OPENED. -/
theorem open_rd {n : Nat} {t : TypeId} {T : Ty} {v : Value} {d : DataW H} {p : List MemPlace} (hT : tyOf P n t = some T)
    (h : DataW.Trod enc P w base (fun _ => true) held t v d p) (hw : ∀ m ∈ d.weights P t, m ≤ M) : ∃ u, Rd M w T v.cells.toList u := by
  obtain ⟨fuel, hf⟩ := h
  exact (open_at n t T fuel _ _ hT hf hw).2
end
/-- A whole argument. -/
def RdV (M : Nat) (w : World) (T : Ty) (v : Value) (d : Dat) : Prop :=
  match T with
  | .st fs => ∃ cs : Array Value, v = .agg cs ∧ Rd M w (.st fs) cs.toList d
  | T => Rd M w T [v] d
theorem open_rdv {M : Nat} {H : Type} {enc : TypeId × Value → H} {P : Program} {w : World} {base b0 : Nat} {held : Bool} {r : Reach} {n : Nat} {t : TypeId} {T : Ty} {v : Value} {d : DataW H} {p : List MemPlace} (hT : tyOf P (n + 1) t = some T)
    (hval : Value.okWide P w r b0 t v) (h : DataW.Trod enc P w base (fun _ => true) held t v d p) (hw : ∀ m ∈ d.weights P t, m ≤ M) : ∃ u, RdV M w T v u := by
  obtain ⟨u, hu⟩ := open_rd hT h hw
  refine ⟨u, ?_⟩
  unfold tyOf at hT
  unfold RdV
  split at hT
  · rename_i ht; cases hT
    obtain ⟨b, rfl⟩ := okWide_bool ht hval
    exact hu
  · rename_i ht; cases hT
    obtain ⟨b, rfl⟩ := okWide_int ht hval
    exact hu
  · rename_i ht; cases hT
    obtain ⟨b, rfl⟩ := okWide_string ht hval
    exact hu
  · rename_i ht
    obtain ⟨E, hE, hT2⟩ := Option.bind_eq_some_iff.1 hT
    split at hT2
    · cases hT2
      obtain ⟨a, l, c, rfl⟩ := okWide_slice ht hval
      exact hu
    · cases hT2
  · rename_i ht
    obtain ⟨E, hE, hT2⟩ := Option.bind_eq_some_iff.1 hT
    split at hT2
    · cases hT2
      obtain ⟨cs, rfl, _⟩ := okWide_struct ht hval
      exact ⟨cs, rfl, hu⟩
    · cases hT2
  · rename_i ht
    obtain ⟨E, hE, hT2⟩ := Option.bind_eq_some_iff.1 hT
    split at hT2
    · cases hT2
      simp only [Value.okWide, ht] at hval
      obtain ⟨cs, rfl, _⟩ := hval
      exact ⟨cs, rfl, hu⟩
    · cases hT2
  · cases hT
theorem RdV.int {M : Nat} {w : World} {k : IntKind} {v : Value} {d : Dat} (h : RdV M w (.int k) v d) : ∃ z, v = .int k z ∧ (Lit.int k z).wf = true := by
  unfold RdV at h
  simp only [Rd] at h
  obtain ⟨z, h1, _, h2⟩ := h
  cases h1
  exact ⟨z, rfl, h2⟩
theorem RdV.bool {M : Nat} {w : World} {v : Value} {d : Dat} (h : RdV M w .bool v d) : ∃ b, v = .bool b := by
  unfold RdV at h
  simp only [Rd] at h
  obtain ⟨z, h1, _⟩ := h
  cases h1
  exact ⟨z, rfl⟩
theorem RdV.str {M : Nat} {w : World} {v : Value} {d : Dat} (h : RdV M w .str v d) : ∃ s : ByteArray, v = .string s ∧ s.size ≤ M := by
  unfold RdV at h
  simp only [Rd] at h
  obtain ⟨z, h1, _, h2⟩ := h
  cases h1
  exact ⟨z, rfl, h2⟩
theorem Rd.ints {M : Nat} {w : World} {k : IntKind} {cs : List Value} {d : Dat} (h : Rd M w (.sl (.int k)) cs d) (hM : M ≤ maxLen) : ∃ v l, cs = [v] ∧ Reads k w v l ∧ l.length ≤ M := by
  rw [Rd] at h
  obtain ⟨ao, cap, ds, rfl, rfl, hl, hc, hh⟩ := h
  rcases hh with rfl | ⟨b, o, rfl, hh⟩
  · exact ⟨_, [], rfl, ⟨⟨ao, cap, rfl, hl, by omega, .inl rfl⟩, by intro x hx; simp at hx, by simp⟩, by simp⟩
  · have h1 : ∀ i u, ds[i]? = some u → ∃ z, u = .int z ∧ w.cell? ⟨b, o + i, none⟩ = some (.int k z) ∧ (Lit.int k z).wf = true := by
      intro i u hu
      obtain ⟨es, he1, he2, he3⟩ := hh i u hu
      rw [Rd] at he3
      obtain ⟨z, rfl, rfl, hz⟩ := he3
      have := he2 0 _ rfl
      simp only [Ty.size, Nat.mul_one, Nat.add_zero] at this
      exact ⟨z, rfl, this, hz⟩
    let f : Dat → Int := fun u => match u with | .int z => z | _ => 0
    have hk : ∀ i u, (ds.map f)[i]? = some u → w.cell? ⟨b, o + i, none⟩ = some (.int k u) ∧ (Lit.int k u).wf = true := by
      intro i u hu
      rw [List.getElem?_map] at hu
      obtain ⟨u', hu', rfl⟩ := Option.map_eq_some_iff.1 hu
      obtain ⟨z, rfl, h2, h3⟩ := h1 i u' hu'
      exact ⟨h2, h3⟩
    have hlen : (ds.map f).length = ds.length := by simp
    generalize ds.map f = l at hk hlen
    refine ⟨_, l, rfl, ⟨⟨some ⟨b, o, none⟩, cap, by rw [kv_len, hlen], by rw [kv_len, hlen]; exact hl, by omega, .inr ⟨b, o, rfl, ?_⟩⟩, ?_, by omega⟩, by omega⟩
    · intro i u hu
      rw [List.getElem?_map] at hu
      obtain ⟨z, hz, rfl⟩ := Option.map_eq_some_iff.1 hu
      exact (hk i z hz).1
    · intro x hx
      obtain ⟨i, hi, rfl⟩ := List.getElem_of_mem hx
      exact (hk i _ (List.getElem?_eq_getElem hi)).2
theorem RdV.ints {M : Nat} {w : World} {k : IntKind} {v : Value} {d : Dat} (h : RdV M w (.sl (.int k)) v d) (hM : M ≤ maxLen) : ∃ l, Reads k w v l ∧ l.length ≤ M := by
  obtain ⟨v', l, h1, h2, h3⟩ := Rd.ints (cs := [v]) h hM
  cases h1
  exact ⟨l, h2, h3⟩
theorem reach_max : reachBytes ≤ maxLen := by decide
/-- One cell that is an integer. -/
theorem Rd.int1 {M : Nat} {w : World} {k : IntKind} {cs : List Value} {d : Dat} (h : Rd M w (.int k) cs d) : ∃ z, cs = [.int k z] ∧ (Lit.int k z).wf = true := by
  rw [Rd] at h
  obtain ⟨z, rfl, _, h2⟩ := h
  exact ⟨z, rfl, h2⟩
theorem RdL.cons {M : Nat} {w : World} {t : Ty} {ts : List Ty} {cs : List Value} {ds : List Dat} (h : RdL M w (t :: ts) cs ds) : ∃ c1 c2 u us, cs = c1 ++ c2 ∧ c1.length = t.size ∧ ds = u :: us ∧ Rd M w t c1 u ∧ RdL M w ts c2 us := by
  rwa [RdL] at h
theorem RdL.nil {M : Nat} {w : World} {cs : List Value} {ds : List Dat} (h : RdL M w [] cs ds) : cs = [] ∧ ds = [] := by
  rwa [RdL] at h
/-- An array of four small numbers. -/
theorem RdV.arr4 {M : Nat} {w : World} {k : IntKind} {v : Value} {d : Dat} (h : RdV M w (.st [.int k, .int k, .int k, .int k]) v d) : ∃ a b c e, v = .agg #[.int k a, .int k b, .int k c, .int k e] ∧ Fits k [a, b, c, e] := by
  obtain ⟨cs, rfl, h⟩ := h
  rw [Rd] at h
  obtain ⟨ds, rfl, h⟩ := h
  obtain ⟨_, _, _, _, h0, _, rfl, h1, k1⟩ := h.cons
  obtain ⟨a, ea, ha⟩ := h1.int1
  obtain ⟨_, _, _, _, e2, _, rfl, h1, k2⟩ := k1.cons
  obtain ⟨b, eb, hb⟩ := h1.int1
  obtain ⟨_, _, _, _, e3, _, rfl, h1, k3⟩ := k2.cons
  obtain ⟨c, ec, hc⟩ := h1.int1
  obtain ⟨_, _, _, _, e4, _, rfl, h1, k4⟩ := k3.cons
  obtain ⟨e, ee, he⟩ := h1.int1
  obtain ⟨e9, _⟩ := k4.nil
  subst e9
  subst e4
  subst e3
  subst e2
  refine ⟨a, b, c, e, by congr 1; exact Array.toList_inj.1 (by simp [h0, ea, eb, ec, ee]), ?_⟩
  intro x hx
  simp at hx
  rcases hx with rfl | rfl | rfl | rfl <;> assumption
/-- A tensor, sums: lengths, an exponent, numbers. -/
structure Tn where
  dims : List Int
  exp : Int
  data : List Int
/-- A struct of a row, an exponent, a row, as it lies in cells. -/
def RT (k : IntKind) (w : World) (v : Value) (t : Tn) : Prop :=
  ∃ d a, v = .agg #[d, .int .i64 t.exp, a] ∧ Reads .i64 w d t.dims ∧ Reads k w a t.data ∧ (Lit.int .i64 t.exp).wf = true
theorem RdV.tensor {M : Nat} {w : World} {k : IntKind} {v : Value} {d : Dat} (h : RdV M w (.st [.sl (.int .i64), .int .i64, .sl (.int k)]) v d) (hM : M ≤ maxLen) : ∃ t, RT k w v t ∧ t.dims.length ≤ M ∧ t.data.length ≤ M := by
  obtain ⟨cs, rfl, h⟩ := h
  rw [Rd] at h
  obtain ⟨ds, rfl, h⟩ := h
  obtain ⟨_, _, _, _, h0, _, rfl, h1, k1⟩ := h.cons
  obtain ⟨a, l, ea, ha, hal⟩ := h1.ints hM
  obtain ⟨_, _, _, _, e2, _, rfl, h1, k2⟩ := k1.cons
  obtain ⟨b, eb, hb⟩ := h1.int1
  obtain ⟨_, _, _, _, e3, _, rfl, h1, k3⟩ := k2.cons
  obtain ⟨c, m, ec, hc, hcl⟩ := h1.ints hM
  obtain ⟨e9, _⟩ := k3.nil
  subst e9
  subst e3
  subst e2
  exact ⟨⟨l, b, m⟩, ⟨a, c, by congr 1; exact Array.toList_inj.1 (by simp [h0, ea, eb, ec]), ha, hc, hb⟩, hal, hcl⟩
end Go.Proofs.Ytekokhlldcmjfaa
