/- Rows of data: read, grown, written. No program in sight. -/
import Derived.Test.YtekokhlldcmjfaaFrzB
namespace Go.Proofs.Ytekokhlldcmjfaa
open Go.RowKit Go.ChangeShapes Go.WideShapes Go.Deep
set_option linter.unusedVariables false
set_option linter.unusedSimpArgs false
mutual
theorem rd_one {g : World} {M : Nat} : ∀ (T : Ty) (cs : List Value) (d : Dat), Rd M g T cs d → (∀ u ∈ cs, u.oneCell' = true) ∧ cs.length = T.size
  | .int k, cs, d, h => by
    simp only [Rd] at h
    obtain ⟨z, rfl, _, _⟩ := h
    exact ⟨fun u hu => by simp at hu; subst hu; rfl, by simp [Ty.size]⟩
  | .bool, cs, d, h => by
    simp only [Rd] at h
    obtain ⟨z, rfl, _⟩ := h
    exact ⟨fun u hu => by simp at hu; subst hu; rfl, by simp [Ty.size]⟩
  | .str, cs, d, h => by
    simp only [Rd] at h
    obtain ⟨z, rfl, _, _⟩ := h
    exact ⟨fun u hu => by simp at hu; subst hu; rfl, by simp [Ty.size]⟩
  | .sl e, cs, d, h => by
    simp only [Rd] at h
    obtain ⟨ao, cap, ds, rfl, _⟩ := h
    exact ⟨fun u hu => by simp at hu; subst hu; rfl, by simp [Ty.size]⟩
  | .st fs, cs, d, h => by
    simp only [Rd] at h
    obtain ⟨ds, _, h⟩ := h
    have := rdL_one fs cs ds h
    exact ⟨this.1, by simp only [Ty.size]; exact this.2⟩
theorem rdL_one {g : World} {M : Nat} : ∀ (Ts : List Ty) (cs : List Value) (ds : List Dat), RdL M g Ts cs ds → (∀ u ∈ cs, u.oneCell' = true) ∧ cs.length = sizes Ts
  | [], cs, ds, h => by
    simp only [RdL] at h
    obtain ⟨rfl, _⟩ := h
    exact ⟨fun u hu => (by cases hu), by simp [sizes]⟩
  | t :: ts, cs, ds, h => by
    simp only [RdL] at h
    obtain ⟨c1, c2, u, us, rfl, h1, _, h2, h3⟩ := h
    have h4 := rd_one t c1 u h2
    have h5 := rdL_one ts c2 us h3
    refine ⟨fun x hx => ?_, by simp only [sizes, List.length_append, h4.2, h5.2]⟩
    rcases List.mem_append.1 hx with hx | hx
    · exact h4.1 x hx
    · exact h5.1 x hx
end
theorem seg_get {l : List Value} {sz j : Nat} (hs : 1 ≤ sz) : ((l.drop (j / sz * sz)).take sz)[j % sz]? = l[j]? := by
  have := Nat.mod_lt j (show 0 < sz by omega)
  rw [List.getElem?_take, if_pos this, List.getElem?_drop]
  congr 1
  rw [Nat.mul_comm]
  exact Nat.div_add_mod j sz
/-- Cells, piece by piece. -/
theorem pieces {sz : Nat} {p : Nat → List Value → Prop} : ∀ (n : Nat), (∀ i, i < n → ∃ es : List Value, es.length = sz ∧ p i es) → ∃ ys : List Value, ys.length = n * sz ∧ ∀ i, i < n → p i ((ys.drop (i * sz)).take sz)
  | 0, _ => ⟨[], by simp, fun i hi => by omega⟩
  | n + 1, h => by
    obtain ⟨ys, h1, h2⟩ := pieces n fun i hi => h i (by omega)
    obtain ⟨es, h3, h4⟩ := h n (by omega)
    refine ⟨ys ++ es, by rw [List.length_append, h1, h3, Nat.succ_mul], fun i hi => ?_⟩
    by_cases e : i = n
    · subst e
      rw [← h1, List.drop_left, ← h3, List.take_length]
      exact h4
    · have h5 := Nat.mul_le_mul_right sz (show i + 1 ≤ n by omega)
      rw [Nat.succ_mul] at h5
      rw [List.drop_append_of_le_length (by omega), List.take_append_of_le_length (by rw [List.length_drop]; omega)]
      exact h2 i (by omega)
/-- A row that may be appended. -/
structure RowY (g w : World) (T : Ty) (y : Value) (ds : List Dat) : Prop where
  ex : ∃ ao cap ys, y = .slice ao ds.length cap ∧ ys.length = ds.length * T.size ∧ (ds.length = 0 ∨ ∃ b off, ao = some ⟨b, off, none⟩ ∧ ∀ (j : Nat) u, ys[j]? = some u → w.cell? ⟨b, off + j, none⟩ = some u) ∧ RowRd g T ys ds
theorem rowRd_one {g : World} {T : Ty} {ys : List Value} {ds : List Dat} (hT : 1 ≤ T.size) (hl : ys.length = ds.length * T.size) (h : RowRd g T ys ds) : ∀ u ∈ ys, u.oneCell' = true := by
  intro u hu
  obtain ⟨j, hj, he⟩ := List.mem_iff_getElem.1 hu
  have h1 : ys[j]? = some u := by rw [List.getElem?_eq_getElem hj, he]
  have hi : j / T.size < ds.length := Nat.div_lt_of_lt_mul (by rw [Nat.mul_comm, ← hl]; exact hj)
  have h2 := rd_one T _ _ (h _ _ (List.getElem?_eq_getElem hi))
  have h3 := seg_get (l := ys) (j := j) hT
  rw [h1] at h3
  exact h2.1 u (List.mem_of_getElem? h3)
section
variable {P : Program} {C : Cx} {w0 : Fr} {r : Nat → Option Value} {s : AS} {a : Act} {w : World}
theorem rowDat_is (h : Sat w0 r s a w) {T : Ty} {x : SV} {y : Value} {d : Dat} (hd : rowDat s.ob T x = some d) (hx : x.Is w0.g r y) : RowY w0.g w T y d.ls ∧ d = .list d.ls := by
  unfold rowDat at hd
  split at hd
  · rename_i e d'
    cases hk : T.same e with
    | false => rw [hk] at hd; cases hd
    | true =>
      rw [hk] at hd
      cases hd
      obtain rfl := Ty.same_eq _ _ hk
      simp only [SV.Is] at hx
      rw [Rd] at hx
      obtain ⟨ao, cap, ds, he, rfl, h1, h2, hh⟩ := hx
      cases he
      refine ⟨⟨?_⟩, rfl⟩
      show ∃ (ao' : Option Addr) (cap' : Nat) (ys : List Value), Value.slice ao ds.length cap = .slice ao' ds.length cap' ∧ ys.length = ds.length * T.size ∧ _ ∧ _
      rcases hh with rfl | ⟨b, o, rfl, hh⟩
      · exact ⟨ao, cap, [], rfl, (by simp), .inl rfl, fun i u hu => (by cases hu)⟩
      · obtain ⟨ys, h3, h4⟩ := pieces (sz := T.size) (p := fun i es => (∀ j v, es[j]? = some v → w0.g.cell? ⟨b, o + (i * T.size + j), none⟩ = some v) ∧ ∀ u, ds[i]? = some u → Rd maxLen w0.g T es u) ds.length fun i hi => by
          obtain ⟨es, e1, e2, e3⟩ := hh i _ (List.getElem?_eq_getElem hi)
          exact ⟨es, e1, e2, fun u hu => by rw [List.getElem?_eq_getElem hi] at hu; cases hu; exact e3⟩
        refine ⟨_, cap, ys, rfl, h3, ?_, fun i u hu => (h4 i (List.getElem?_eq_some_iff.1 hu).1).2 u hu⟩
        by_cases h0 : T.size = 0
        · refine .inr ⟨b, o, rfl, fun j u hu => ?_⟩
          have : ys = [] := List.eq_nil_of_length_eq_zero (by rw [h3, h0, Nat.mul_zero])
          rw [this] at hu
          simp at hu
        · refine .inr ⟨b, o, rfl, fun j u hu => ?_⟩
          have hj := (List.getElem?_eq_some_iff.1 hu).1
          have hi : j / T.size < ds.length := Nat.div_lt_of_lt_mul (by rw [Nat.mul_comm, ← h3]; exact hj)
          have h5 := (h4 _ hi).1 (j % T.size) u (by rw [seg_get (by omega), hu])
          have e : j / T.size * T.size + j % T.size = j := by rw [Nat.mul_comm]; exact Nat.div_add_mod j T.size
          rw [e] at h5
          exact h.gw _ _ _ h5
  · rename_i id
    split at hd
    · rename_i E e d' hob
      cases hk : T.same e with
      | false => rw [hk] at hd; cases hd
      | true =>
        rw [hk] at hd
        cases hd
        obtain rfl := Ty.same_eq _ _ hk
        simp only [SV.Is] at hx
        obtain ⟨q, hq, hoi⟩ := h.objs id (by rw [hob]; simp)
        rw [hob] at hoi
        rw [hx] at hq
        cases hq
        obtain ⟨hsz, ds, cl, rfl, hown, hrd⟩ := hoi
        refine ⟨⟨?_⟩, rfl⟩
        show ∃ (ao' : Option Addr) (cap' : Nat) (ys : List Value), y = .slice ao' ds.length cap' ∧ ys.length = ds.length * T.size ∧ _ ∧ _
        rcases hown.2 with ⟨rfl, h0⟩ | ⟨b, cap, cur, rfl, _⟩
        · exact ⟨none, 0, cl, by rw [h0], hown.1, .inl h0, hrd⟩
        · refine ⟨_, cap, cl, rfl, hown.1, .inr ⟨b, 0, rfl, fun j u hu => ?_⟩, hrd⟩
          have := hown.cells (g := b) rfl _ _ hu
          rw [Addr.add_lit] at this
          exact this
    · cases hd
  · cases hd
    simp only [SV.Is] at hx
    refine ⟨⟨none, 0, [], hx.1, (by simp [Dat.ls]), .inl rfl, fun i u hu => (by cases hu)⟩, rfl⟩
  · cases hd
theorem rowRd_append {g : World} {T : Ty} {xs ys : List Value} {ds es : List Dat} (hl : xs.length = ds.length * T.size) (h1 : RowRd g T xs ds) (h2 : RowRd g T ys es) : RowRd g T (xs ++ ys) (ds ++ es) := by
  intro i u hu
  by_cases hi : i < ds.length
  · rw [List.getElem?_append_left hi] at hu
    have h5 := Nat.mul_le_mul_right T.size (show i + 1 ≤ ds.length from hi)
    rw [Nat.succ_mul] at h5
    rw [List.drop_append_of_le_length (by omega), List.take_append_of_le_length (by rw [List.length_drop]; omega)]
    exact h1 i u hu
  · rw [List.getElem?_append_right (by omega)] at hu
    have e : i * T.size = xs.length + (i - ds.length) * T.size := by
      rw [hl, ← Nat.add_mul]
      congr 1
      omega
    rw [e, List.drop_append]
    simp only [Nat.add_sub_cancel_left, List.drop_of_length_le (show xs.length ≤ xs.length + (i - ds.length) * T.size by omega), List.nil_append]
    exact h2 _ u hu
/-- A piece of a row is written anew. -/
theorem seg_set {cl xs : List Value} {sz i off : Nat} (hb : i * sz + sz ≤ cl.length) (ho : off + xs.length ≤ sz) : ((cl.take (i * sz + off) ++ xs ++ cl.drop (i * sz + off + xs.length)).drop (i * sz)).take sz = ((cl.drop (i * sz)).take sz).take off ++ xs ++ ((cl.drop (i * sz)).take sz).drop (off + xs.length) := by
  apply List.ext_getElem?
  intro j
  simp only [List.getElem?_take, List.getElem?_drop, List.getElem?_append, List.length_append, List.length_take, List.length_drop]
  by_cases j1 : j < sz
  · rw [if_pos j1]
    by_cases j2 : j < off
    · rw [if_pos (show i * sz + j < min (i * sz + off) cl.length + xs.length by omega), if_pos (show i * sz + j < min (i * sz + off) cl.length by omega), if_pos (show i * sz + j < i * sz + off by omega), if_pos (show j < min off (min sz (cl.length - i * sz)) + xs.length by omega), if_pos (show j < min off (min sz (cl.length - i * sz)) by omega), if_pos j2, if_pos j1]
    · by_cases j3 : j < off + xs.length
      · rw [if_pos (show i * sz + j < min (i * sz + off) cl.length + xs.length by omega), if_neg (show ¬ i * sz + j < min (i * sz + off) cl.length by omega), if_pos (show j < min off (min sz (cl.length - i * sz)) + xs.length by omega), if_neg (show ¬ j < min off (min sz (cl.length - i * sz)) by omega)]
        congr 1; omega
      · rw [if_neg (show ¬ i * sz + j < min (i * sz + off) cl.length + xs.length by omega), if_neg (show ¬ j < min off (min sz (cl.length - i * sz)) + xs.length by omega), if_pos (show off + xs.length + (j - (min off (min sz (cl.length - i * sz)) + xs.length)) < sz by omega)]
        congr 1; omega
  · rw [if_neg j1, if_neg (show ¬ j < min off (min sz (cl.length - i * sz)) + xs.length by omega), if_neg (by omega)]
theorem seg_other {cl xs : List Value} {sz i k off : Nat} (hb : i * sz + sz ≤ cl.length) (ho : off + xs.length ≤ sz) (hk : k ≠ i) : ((cl.take (i * sz + off) ++ xs ++ cl.drop (i * sz + off + xs.length)).drop (k * sz)).take sz = (cl.drop (k * sz)).take sz := by
  apply List.ext_getElem?
  intro j
  simp only [List.getElem?_take, List.getElem?_drop, List.getElem?_append, List.length_append, List.length_take]
  by_cases j1 : j < sz
  · rw [if_pos j1, if_pos j1]
    rcases Nat.lt_or_gt_of_ne hk with h | h
    · have h5 := Nat.mul_le_mul_right sz (show k + 1 ≤ i from h)
      rw [Nat.succ_mul] at h5
      rw [if_pos (show k * sz + j < min (i * sz + off) cl.length + xs.length by omega), if_pos (show k * sz + j < min (i * sz + off) cl.length by omega), if_pos (show k * sz + j < i * sz + off by omega)]
    · have h5 := Nat.mul_le_mul_right sz (show i + 1 ≤ k from h)
      rw [Nat.succ_mul] at h5
      rw [if_neg (show ¬ k * sz + j < min (i * sz + off) cl.length + xs.length by omega)]
      congr 1; omega
  · rw [if_neg j1, if_neg j1]
end
end Go.Proofs.Ytekokhlldcmjfaa
