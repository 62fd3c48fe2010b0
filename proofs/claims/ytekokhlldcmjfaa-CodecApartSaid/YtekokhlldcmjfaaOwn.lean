/- Rows of the call's own whose block may bear the mark that a conversion leaves. No program in sight. -/
import Derived.Test.YtekokhlldcmjfaaMem
import Derived.Laws.IdiomStrings
namespace Go.Proofs.Ytekokhlldcmjfaa
open Go.RowKit
set_option linter.unusedVariables false
set_option linter.unusedSimpArgs false
/-- Of so many cells none is frozen. -/
def Thawed (fz : Nat × Nat) (n : Nat) : Prop := fz = (0, 0) ∨ n ≤ fz.1
/-- A block holds these cells; each may be written. -/
def RowAt (w : World) (b : Nat) (cur : Array Value) (e : TypeId) : Prop := ∃ fz, w.heap[b]? = some (.cells cur e fz) ∧ Thawed fz cur.size
/-- A slice's row is the call's own, from a block on. -/
def OwnM (w : World) (base : Nat) (e : TypeId) (size : Nat) (v : Value) (n : Nat) (xs : List Value) : Prop :=
  xs.length = n * size ∧ ((v = .slice none 0 0 ∧ n = 0) ∨
    ∃ g cap cur, v = .slice (some ⟨g, 0, none⟩) n cap ∧ base ≤ g ∧ RowAt w g cur e ∧ n ≤ cap ∧ cap ≤ maxLen ∧ cur.size = cap * size ∧ cur.toList.take (n * size) = xs)
theorem RowAt.of {w : World} {b : Nat} {cur : Array Value} {e : TypeId} (h : w.heap[b]? = some (.cells cur e (0, 0))) : RowAt w b cur e := ⟨_, h, .inl rfl⟩
theorem RowAt.lt {w : World} {b : Nat} {cur : Array Value} {e : TypeId} (h : RowAt w b cur e) : b < w.heap.size := by
  obtain ⟨fz, h, _⟩ := h
  exact (Array.getElem?_eq_some_iff.1 h).1
theorem RowAt.same {w w' : World} {b : Nat} {cur : Array Value} {e : TypeId} (h : RowAt w b cur e) (hb : w'.heap[b]? = w.heap[b]?) : RowAt w' b cur e := by
  obtain ⟨fz, h1, h2⟩ := h
  exact ⟨fz, hb.trans h1, h2⟩
theorem RowAt.cell {w : World} {b : Nat} {cur : Array Value} {e : TypeId} (h : RowAt w b cur e) (j : Nat) : w.cell? ⟨b, j, none⟩ = cur[j]? := by
  obtain ⟨fz, h1, _⟩ := h
  exact cell_of_row w b j cur e fz h1
theorem RowAt.thawed {w : World} {b : Nat} {cur : Array Value} {e : TypeId} (h : RowAt w b cur e) {j : Nat} (hj : j < cur.size) : w.frozen? ⟨b, j, none⟩ = false := by
  obtain ⟨⟨lo, hi⟩, h1, h2⟩ := h
  simp only [Thawed, Prod.mk.injEq] at h2
  simp only [World.frozen?, h1, Bool.and_eq_false_iff, decide_eq_false_iff_not]
  omega
theorem RowAt.set {w : World} {b : Nat} {cur cs : Array Value} {e : TypeId} (h : RowAt w b cur e) (hs : cs.size = cur.size) : RowAt (w.setRow b cs) b cs e := by
  obtain ⟨fz, h1, h2⟩ := h
  exact ⟨fz, setRow_heap w b cur cs e fz h1, by rw [hs]; exact h2⟩
theorem RowAt.self {w : World} {b : Nat} {cur : Array Value} {e : TypeId} (h : RowAt w b cur e) : w.setRow b cur = w := by
  obtain ⟨fz, h1, _⟩ := h
  exact setRow_self w b cur e fz h1
theorem RowAt.setCell {w : World} {b : Nat} {cur : Array Value} {e : TypeId} (h : RowAt w b cur e) (j : Nat) (u : Value) : w.setCell ⟨b, j, none⟩ u = w.setRow b (cur.setIfInBounds j u) := by
  obtain ⟨fz, h1, _⟩ := h
  exact setCell_eq_setRow w b j cur e fz u h1
/-- A row of cells, stored into such a block. -/
theorem run_cellsM (P : Program) (g o : Nat) (t : TypeId) : ∀ (vs : List Value) (i : Nat) (cur : Array Value) (w : World), RowAt w g cur t → o + i + vs.length ≤ cur.size → (∀ v ∈ vs, v.oneCell' = true) →
    (storeCells ⟨g, o, none⟩ vs i).run P w = .ok () (w.setRow g (cur.toList.take (o + i) ++ vs ++ cur.toList.drop (o + i + vs.length)).toArray)
  | [], i, cur, w, hg, _, _ => by
    have e1 : (cur.toList.take (o + i) ++ [] ++ cur.toList.drop (o + i + ([] : List Value).length)).toArray = cur := by simp
    rw [e1, hg.self]
    rfl
  | v :: vs, i, cur, w, hg, hl, h1 => by
    rw [List.length_cons] at hl
    have hi : o + i < cur.size := by omega
    have hst : (store ((⟨g, o, none⟩ : Addr).add i) v).run P w = .ok () (w.setRow g (cur.setIfInBounds (o + i) v)) := by
      rw [Addr.add_lit, run_store P w _ v _ (h1 v (by simp)), hg.cell, Array.getElem?_eq_getElem hi]
      simp [hg.thawed hi, hg.setCell]
    have ih := run_cellsM P g o t vs (i + 1) (cur.setIfInBounds (o + i) v) (w.setRow g (cur.setIfInBounds (o + i) v)) (hg.set (by simp)) (by simp; omega) (fun x hx => h1 x (by simp [hx]))
    have e1 : ((cur.setIfInBounds (o + i) v).toList.take (o + (i + 1)) ++ vs ++ (cur.setIfInBounds (o + i) v).toList.drop (o + (i + 1) + vs.length)) = cur.toList.take (o + i) ++ v :: vs ++ cur.toList.drop (o + i + (v :: vs).length) := by
      have := list_seg_step cur.toList (o + i) v vs (by rw [Array.length_toList]; omega)
      simpa [Array.toList_setIfInBounds, Nat.add_assoc] using this
    simp only [storeCells, Sem.run_bind, hst, Result.andThen_ok, ih, setRow_setRow, e1]
section
variable {w : World} {base : Nat} {e : TypeId} {size : Nat} {v : Value} {n : Nat} {xs : List Value}
theorem OwnM.of (h : w.ownsRow base e size v n xs) : OwnM w base e size v n xs := by
  refine ⟨h.1, ?_⟩
  rcases h.2 with h | ⟨g, cap, cur, h1, h2, h3, h4⟩
  · exact .inl h
  · exact .inr ⟨g, cap, cur, h1, h2, .of h3, h4⟩
theorem OwnM.nil (w : World) (base : Nat) (e : TypeId) (size : Nat) : OwnM w base e size (.slice none 0 0) 0 [] := .of (World.ownsRow_nil w base e size)
theorem OwnM.kept {w' : World} {row : Option Nat} (h : OwnM w base e size v n xs) (hg : w.grownBy w' row) (hne : v.ownBlock = none ∨ v.ownBlock ≠ row) : OwnM w' base e size v n xs := by
  refine ⟨h.1, ?_⟩
  rcases h.2 with h | ⟨g, cap, cur, rfl, h2, h3, h4⟩
  · exact .inl h
  · exact .inr ⟨g, cap, cur, rfl, h2, h3.same (hg.block g h3.lt (by simpa [Value.ownBlock] using hne)), h4⟩
theorem OwnM.cellAt {g cap : Nat} (h : OwnM w base e size (.slice (some ⟨g, 0, none⟩) n cap) n xs) (j : Nat) (hj : j < n * size) : w.cell? ⟨g, j, none⟩ = xs[j]? := by
  rcases h.2 with ⟨h, _⟩ | ⟨g', cap', cur, h1, _, h3, _, _, _, h7⟩
  · cases h
  · injection h1 with h1 _ _
    cases h1
    rw [h3.cell, ← h7, List.getElem?_take, if_pos hj, Array.getElem?_toList]
theorem OwnM.thawed {g cap : Nat} (h : OwnM w base e size (.slice (some ⟨g, 0, none⟩) n cap) n xs) {j : Nat} (hj : j < n * size) : w.frozen? ⟨g, j, none⟩ = false := by
  rcases h.2 with ⟨h, _⟩ | ⟨g', cap', cur, h1, _, h3, h4, _, h6, _⟩
  · cases h
  · injection h1 with h1 _ h2
    cases h1
    subst h2
    refine h3.thawed ?_
    rw [h6]
    exact Nat.lt_of_lt_of_le hj (Nat.mul_le_mul_right _ h4)
theorem OwnM.stored {g cap : Nat} (h : OwnM w base e size (.slice (some ⟨g, 0, none⟩) n cap) n xs) (j : Nat) (u : Value) :
    OwnM (w.setCell ⟨g, j, none⟩ u) base e size (.slice (some ⟨g, 0, none⟩) n cap) n (xs.set j u) ∧ w.grownBy (w.setCell ⟨g, j, none⟩ u) (some g) := by
  refine ⟨?_, grown_set w g j u⟩
  refine ⟨by rw [List.length_set]; exact h.1, ?_⟩
  rcases h.2 with ⟨h, _⟩ | ⟨g', cap', cur, h1, h2, h3, h4, h5, h6, h7⟩
  · cases h
  · injection h1 with h1 _ h8
    cases h1
    subst h8
    rw [h3.setCell]
    exact .inr ⟨g, cap, _, rfl, h2, h3.set (by simp), h4, h5, by simpa using h6, by rw [Array.toList_setIfInBounds, List.take_set, h7]⟩
theorem OwnM.cells (h : OwnM w base e size v n xs) {g : Nat} (hg : v.ownBlock = some g) : ∀ j u, xs[j]? = some u → w.cell? ((⟨g, 0, none⟩ : Addr).add j) = some u := by
  intro j u hu
  have hj := (List.getElem?_eq_some_iff.1 hu).1
  rcases h.2 with ⟨rfl, _⟩ | ⟨g', cap, cur, rfl, _⟩
  · cases hg
  · have hg : g' = g := by injection hg
    subst hg
    rw [Addr.add_lit, Nat.zero_add, h.cellAt j (by rw [← h.1]; exact hj)]
    exact hu
theorem ownM_down {base' : Nat} (h : OwnM w base e size v n xs) (hb : base' ≤ base) : OwnM w base' e size v n xs := by
  refine ⟨h.1, ?_⟩
  rcases h.2 with h | ⟨g, cap, cur, rfl, h1, h2⟩
  · exact .inl h
  · exact .inr ⟨g, cap, cur, rfl, Nat.le_trans hb h1, h2⟩
theorem ownM_below {w' : World} (h : OwnM w base e size v n xs) (hb : Below w.heap.size w w') : OwnM w' base e size v n xs :=
  h.kept (row := none) ⟨hb.os, hb.tape, hb.output, hb.size, fun k hk _ => hb.block k hk⟩ (by cases v.ownBlock <;> simp)
theorem holds_ownM (h : OwnM w base e 1 v n xs) : Holds w v xs := by
  have hl : xs.length = n := by have := h.1; omega
  rcases h.2 with ⟨rfl, h0⟩ | ⟨g, cap, cur, rfl, hb, hg, hc, hm, _⟩
  · exact ⟨none, 0, by rw [hl, h0], by omega, by decide, .inl (List.eq_nil_of_length_eq_zero (by omega))⟩
  · refine ⟨_, cap, by rw [hl], by omega, hm, .inr ⟨g, 0, rfl, ?_⟩⟩
    intro i u hu
    have hi : i < xs.length := (List.getElem?_eq_some_iff.1 hu).1
    rw [Nat.zero_add]
    exact (h.cellAt i (by omega)).trans hu
end
section
variable {P : Program} (w : World)
/-- Append where there is room. -/
theorem run_roomM (t ty e : TypeId) (i : TypeInfo) (ht : P.underlying t = some (.slice e)) (hi : P.info? e = some i) (g sLen sCap : Nat) (cur : Array Value) (hg : RowAt w g cur e)
    (a : Addr) (m c : Nat) (news : List Value) (hl : news.length = m * i.size) (hnews : ∀ j u, news[j]? = some u → w.cell? (a.add j) = some u) (h1 : ∀ u ∈ news, u.oneCell' = true) (hroom : sLen + m ≤ sCap) (hfit : sLen * i.size + news.length ≤ cur.size) :
    (Builtin.append_ #[t, t] ty #[.slice (some ⟨g, 0, none⟩) sLen sCap, .slice (some a) m c]).run P w =
      .ok (.slice (some ⟨g, 0, none⟩) (sLen + m) sCap) (w.setRow g (cur.toList.take (sLen * i.size) ++ news ++ cur.toList.drop (sLen * i.size + news.length)).toArray) := by
  have hf := run_firstCells_some (P := P) w i.size m a m c news hl hnews
  have hst := run_cellsM P g (sLen * i.size) e news 0 cur w hg (by omega) h1
  rw [Nat.add_zero] at hst
  simp [Builtin.append_, run_underlying ht, sizeOf, typeInfo, hi, Builtin.lenOf, hroom, hf, Addr.add_lit, hst]
/-- Append to a row of the call's own. -/
theorem run_appendM (base : Nat) (t ty e : TypeId) (i : TypeInfo) (z : Value) (size bytes : Nat) (ht : P.underlying t = some (.slice e)) (hi : P.info? e = some i) (hz : i.zero = some z)
    (hsize : i.size = size) (hby : i.bytes = bytes) (hzs : z.cells.size = size) (hsz : 0 < size) (v : Value) (n : Nat) (xs : List Value) (hown : OwnM w base e size v n xs)
    (a : Addr) (m c : Nat) (news : List Value) (hl : news.length = m * size) (hnews : ∀ j u, news[j]? = some u → w.cell? (a.add j) = some u) (h1 : ∀ u ∈ news, u.oneCell' = true)
    (h63 : n + m ≤ maxLen) (hbytes : (n + m) * bytes ≤ 140737488355328) (hbase : base ≤ w.heap.size) :
    ∃ v' w', (Builtin.append_ #[t, t] ty #[v, .slice (some a) m c]).run P w = .ok v' w' ∧ OwnM w' base e size v' (n + m) (xs ++ news) ∧ w.grownBy w' v.ownBlock ∧ (∀ b, v'.ownBlock = some b → some b = v.ownBlock ∨ w.heap.size ≤ b) := by
  subst hsize
  subst hby
  rcases hown.2 with ⟨rfl, rfl⟩ | ⟨g, cap, cur, rfl, hbg, hg, hnc, hcm, hcs, htake⟩
  · have hx : xs = [] := List.eq_nil_of_length_eq_zero (by simpa using hown.1)
    subst hx
    obtain ⟨v', w', h2, h3, h4, h5⟩ := run_append_own (P := P) w base t ty e i z i.size i.bytes ht hi hz rfl rfl hzs hsz (.slice none 0 0) 0 [] (World.ownsRow_nil w base e i.size) a m c news hl hnews h1 h63 hbytes hbase
    refine ⟨v', w', h2, .of h3, h4, fun b hb => .inr ?_⟩
    by_cases hm : m = 0
    · rw [h5.2 ⟨rfl, hm⟩] at hb
      cases hb
    · have hr2 := run_append_nil (P := P) w t ty e i z ht hi hz a m c news hl hnews (by omega) (by unfold maxLen at h63; omega) (by rw [Nat.zero_add] at hbytes; omega)
      rw [hr2] at h2
      injection h2 with e1 e2
      rw [← e1] at hb
      cases hb
      exact Nat.le_refl _
  · have hlen : (xs ++ news).length = (n + m) * i.size := by rw [List.length_append, hown.1, hl, Nat.add_mul]
    by_cases hroom : n + m ≤ cap
    · have hfit : n * i.size + news.length ≤ cur.size := by rw [hl, hcs, ← Nat.add_mul]; exact Nat.mul_le_mul_right _ hroom
      have hr := run_roomM (P := P) w t ty e i ht hi g n cap cur hg a m c news hl hnews h1 hroom hfit
      have hsz2 : (cur.toList.take (n * i.size) ++ news ++ cur.toList.drop (n * i.size + news.length)).toArray.size = cur.size := by
        simp only [List.size_toArray, List.length_append, List.length_take, List.length_drop, Array.length_toList]
        omega
      refine ⟨_, _, hr, ⟨hlen, .inr ⟨g, cap, _, rfl, hbg, hg.set hsz2, hroom, hcm, hsz2.trans hcs, ?_⟩⟩, ⟨rfl, rfl, rfl, by simp, fun k _ hk => setRow_other w g k _ (fun e => hk (by simp [Value.ownBlock, e]))⟩, fun b hb => .inl hb.symm⟩
      rw [htake, ← hlen]
      exact List.take_left
    · have holds : ∀ j u, xs[j]? = some u → w.cell? ((⟨g, 0, none⟩ : Addr).add j) = some u := hown.cells (g := g) rfl
      have hr := run_append_grow (P := P) w t ty e i z ht hi hz ⟨g, 0, none⟩ n cap xs hown.1 holds a m c news hl hnews (by omega) (by unfold maxLen at h63; omega) (growslice_fits (by omega) hbytes)
      have hge := grownCap_ge w (n + m) cap e
      refine ⟨_, _, hr, ⟨hlen, .inr ⟨w.heap.size, _, _, rfl, hbase, .of (heap_alloc_new w.drew _), hge, grownCap_le_maxLen w (n + m) cap e h63, ?_, ?_⟩⟩, ⟨rfl, rfl, rfl, by simp, fun k hk _ => Below.heap_alloc w.drew _ k hk⟩, fun b hb => .inr ?_⟩
      · simp only [Array.size_append, List.size_toArray, size_zeroCells, hzs, hown.1, hl, ← Nat.add_mul]
        congr 1
        omega
      · simp only [Array.toList_append, List.append_assoc]
        rw [← List.append_assoc, ← hlen]
        exact List.take_left
      · cases hb
        exact Nat.le_refl _
/-- Cells copied into such a row. -/
theorem run_copyM (dT sT ty elem : TypeId) (g o dLen dCap : Nat) (a : Addr) (sLen sCap : Nat) (cur : Array Value) (t : TypeId) (cs : List Value)
    (hu : P.underlying dT = some (.slice elem)) (hs : (P.info? elem).map (·.size) = some 1) (hg : RowAt w g cur t) (hn : cs.length = Nat.min sLen dLen)
    (hsrc : ∀ j v, cs[j]? = some v → w.cell? (a.add j) = some v) (hfit : o + cs.length ≤ cur.size) (h1 : ∀ v ∈ cs, v.oneCell' = true) :
    (Builtin.copy_ #[dT, sT] ty #[.slice (some ⟨g, o, none⟩) dLen dCap, .slice (some a) sLen sCap]).run P w =
      .ok (goInt cs.length) (w.setRow g (cur.toList.take o ++ cs ++ cur.toList.drop (o + cs.length)).toArray) := by
  obtain ⟨i, hq, hi⟩ := Option.map_eq_some_iff.1 hs
  have hl := run_loadCells_list (P := P) w a cs hsrc
  have hst := run_cellsM P g o t cs 0 cur w hg (by omega) h1
  simp only [Nat.add_zero] at hst
  simp [Builtin.copy_, run_underlying hu, Builtin.lenOf, Builtin.firstCells, sizeOf, typeInfo, hq, hi, ← hn, hl, hst]
/-- A text written out as bytes bears the mark. -/
theorem run_markM (src e : TypeId) (hs : P.underlying src = some (.slice e)) (he : P.underlying e = some (.int .u8)) {g n cap : Nat} {cur : Array Value} {t : TypeId} (hg : RowAt w g cur t) :
    (convert src src (.slice (some ⟨g, 0, none⟩) n cap)).run P w = .ok (.slice (some ⟨g, 0, none⟩) n cap) (w.freeze ⟨g, cur.size, none⟩ 1) ∧ RowAt (w.freeze ⟨g, cur.size, none⟩ 1) g cur t ∧ w.grownBy (w.freeze ⟨g, cur.size, none⟩ 1) (some g) := by
  obtain ⟨⟨lo, hi⟩, h1, h2⟩ := hg
  have hsh : w.shape? g = some (t, cur.size) := by
    unfold World.shape?
    rw [h1]
  refine ⟨?_, ?_, ?_⟩
  · simp [convert, run_underlying hs, run_underlying he, markStringish, hsh]
  · unfold World.freeze
    rw [if_neg (by decide)]
    refine ⟨if lo == hi then (cur.size, cur.size + 1) else (min lo cur.size, max hi (cur.size + 1)), ?_, ?_⟩
    · simp only [Array.getElem?_modify, if_true, h1, Option.map_some]
    · right
      split
      · exact Nat.le_refl _
      · rename_i hne
        rcases h2 with h2 | h2
        · cases h2
          exact absurd rfl hne
        · exact Nat.le_min.2 ⟨h2, Nat.le_refl _⟩
  · unfold World.freeze
    rw [if_neg (by decide)]
    refine ⟨rfl, rfl, rfl, by simp, fun k hk hne => ?_⟩
    simp only [Array.getElem?_modify]
    rw [if_neg (fun e => hne (by rw [e]))]
theorem byteL_eq (s : ByteArray) : s.toList = s.data.toList := ByteArray.toList_eq s
theorem byteL_len (s : ByteArray) : s.toList.length = s.size := by rw [byteL_eq]; rfl
/-- A text as bytes: a row of the call's own. -/
theorem run_bytesM (base : Nat) (src dst e : TypeId) (s : ByteArray) (hs : P.underlying src = some .string) (hd : P.underlying dst = some (.slice e)) (he : P.underlying e = some (.int .u8)) (hm : s.size ≤ maxLen) (hbase : base ≤ w.heap.size) :
    ∃ cap w', (convert src dst (.string s)).run P w = .ok (.slice (some ⟨w.heap.size, 0, none⟩) s.size cap) w' ∧
      OwnM w' base e 1 (.slice (some ⟨w.heap.size, 0, none⟩) s.size cap) s.size (kv .u8 (s.toList.map fun b => (b.toNat : Int))) ∧ w.grownBy w' none := by
  refine ⟨_, _, run_bytes_of_string w src dst e s hs hd he, ⟨?_, .inr ⟨w.heap.size, _, _, rfl, hbase, ⟨_, heap_alloc_new w.drew _, .inr (Nat.le_refl _)⟩, grownCap_ge w s.size 0 e, grownCap_le_maxLen w s.size 0 e hm, ?_, ?_⟩⟩, ⟨rfl, rfl, rfl, by simp, fun k hk _ => Below.heap_alloc w.drew _ k hk⟩⟩
  · rw [kv_len, List.length_map, Nat.mul_one]
    exact byteL_len s
  · have := grownCap_ge w s.size 0 e
    simp only [bytesRow, Array.size_append, Array.size_map, Array.size_replicate, Nat.mul_one]
    have e1 : s.data.size = s.size := rfl
    omega
  · simp only [bytesRow, Nat.mul_one, Array.toList_append, Array.toList_map]
    have e1 : (s.data.toList.map fun b => Value.int .u8 (b.toNat : Int)).length = s.size := by rw [List.length_map]; rfl
    rw [← e1, List.take_left, byteL_eq, kv, List.map_map]
    rfl
end
end Go.Proofs.Ytekokhlldcmjfaa
