/- How many bytes a row of sums has, at most. No program in sight. -/
import Derived.Test.YthclcnidbnbkcaaOpen
namespace Go.Proofs.Ythclcnidbnbkcaa
open Go.RowKit Go.ChangeShapes Go.WideShapes Go.Deep
set_option linter.unusedVariables false
theorem weights_at {H : Type} {P : Program} : ∀ (fs : List TypeId) (ds : List (DataW H)) (i : Nat) (t : TypeId) (d : DataW H), fs[i]? = some t → ds[i]? = some d → ∀ m ∈ d.weights P t, m ∈ DataW.weightsEach P fs ds
  | [], _, i, t, d, h, _, m, hm => by simp at h
  | _ :: _, [], i, t, d, _, h, m, hm => by simp at h
  | f :: fs, x :: ds, 0, t, d, h1, h2, m, hm => by
    simp at h1 h2; subst h1; subst h2
    simp only [DataW.weightsEach, List.mem_append]; exact .inl hm
  | f :: fs, x :: ds, i + 1, t, d, h1, h2, m, hm => by
    simp only [DataW.weightsEach, List.mem_append]
    exact .inr (weights_at fs ds i t d (by simpa using h1) (by simpa using h2) m hm)
theorem row_bytes {H : Type} {enc : TypeId × Value → H} {P : Program} {w w' : World} {base : Nat} {held : Bool} {k : IntKind} {t : TypeId} {v : Value} {d : DataW H} {p : List MemPlace} {fs : Array Field} {f : Field} {e : TypeId} {tn : Tn}
    (hu : P.underlying t = some (.struct fs)) (hf : fs[2]? = some f) (ho : f.offset = 2) (hc : P.cellsOf f.type = 1) (he : P.underlying f.type = some (.slice e))
    (h : DataW.Trod enc P w base (fun _ => true) held t v d p) (hw : ∀ m ∈ d.weights P t, m ≤ reachBytes) (hr : RT k w' v tn) : tn.data.length * P.bytesOf e ≤ reachBytes := by
  obtain ⟨fuel, hf0⟩ := h
  obtain ⟨dd, a, rfl, _, hra, _⟩ := hr
  obtain ⟨xs, m, _, hx0, hlen, hxl, hx⟩ := DataW.trod_struct hu hf0
  cases hx0
  have h2 := hx 2 f hf
  rw [ho, hc] at h2
  have hlt : 2 < fs.size := (Array.getElem?_eq_some_iff.1 hf).1
  obtain ⟨x, hxx⟩ : ∃ x, xs[2]? = some x := ⟨_, List.getElem?_eq_getElem (by omega)⟩
  rw [hxx] at h2
  have h3 : DataW.trod enc P w base (fun _ => true) held m f.type [a] = some x := h2
  obtain ⟨ao, cap, ha, hcap, _, _⟩ := hra.1
  have hwx : ∀ q ∈ x.1.weights P f.type, q ≤ reachBytes := by
    intro q hq
    refine hw q ?_
    simp only [DataW.weights, hu]
    refine weights_at _ _ 2 f.type x.1 ?_ ?_ q hq
    · rw [List.getElem?_map, Array.getElem?_toList, hf]; rfl
    · rw [List.getElem?_map, hxx]; rfl
  rcases open_slice he h3 with ⟨e1, e2⟩ | ⟨a', len, cap', m', q, D, Pl, e1, hb, hl, hm, hmm, e2, hi⟩
  · simp only [List.cons.injEq, and_true] at e1
    rw [ha] at e1
    injection e1 with _ e3 _
    rw [kv_len] at e3
    rw [e3]; simp [reachBytes]
  · simp only [List.cons.injEq, and_true] at e1
    rw [ha] at e1
    injection e1 with _ e3 _
    rw [kv_len] at e3
    subst e2
    simp only [DataW.weights, he, List.mem_cons, List.mem_append, List.length_map, List.length_range] at hwx
    have h4 := hwx _ (.inl rfl)
    have h5 : tn.data.length * P.bytesOf e ≤ (len + (m' - len)) * P.bytesOf e := Nat.mul_le_mul_right _ (by omega)
    omega
end Go.Proofs.Ythclcnidbnbkcaa
