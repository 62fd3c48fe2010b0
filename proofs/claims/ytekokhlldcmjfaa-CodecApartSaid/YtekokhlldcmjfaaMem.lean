/- Slices as lists: of arguments, and of memory that a call makes. No program in sight. -/
import Derived.WalkKit
import Derived.WalkSpells
import Derived.WalkLawsBesides
import Derived.OpenShut
import Derived.Lib.Hide
import Derived.Lib.MinMax
import Derived.RegionTactic
import Derived.ChangeAlike
import Derived.Deep.QuietTactic
import Derived.BigQuiet
import Derived.Below
namespace Go.Proofs.Ytekokhlldcmjfaa
open Go.RowKit
theorem qleft {P : Program} {f : FuncId} {args : Array Value} {w : World} {n : Nat} {v : Value}
    (h : Calls P f args (w.drewN n) fun e w' => e = .returned v ∧ w.drewN n = w') : Calls P f args (w.drewN n) fun e w'' => e = .returned v ∧ ∃ m, w'' = w.drewN m :=
  h.mono fun _ _ ⟨he, hm⟩ => ⟨he, n, hm.symm⟩
theorem qsome {P : Program} {f : FuncId} {args : Array Value} {w : World} {n : Nat} {v : Value}
    (h : Calls P f args (w.drewN n) fun e w' => e = .returned v ∧ ∃ m, w' = (w.drewN n).drewN m) : Calls P f args (w.drewN n) fun e w'' => e = .returned v ∧ ∃ m, w'' = w.drewN m :=
  h.mono fun _ _ ⟨he, m, hm⟩ => ⟨he, n + m, by rw [hm, World.drewN_drewN]⟩
/-- A slice of one-celled elements reads as a list. -/
def Holds (w : World) (v : Value) (xs : List Value) : Prop :=
  ∃ ao cap, v = .slice ao xs.length cap ∧ xs.length ≤ cap ∧ cap ≤ maxLen ∧ (xs = [] ∨ ∃ b off, ao = some ⟨b, off, none⟩ ∧ ∀ i u, xs[i]? = some u → w.cell? ⟨b, off + i, none⟩ = some u)
theorem Holds.drewN {w : World} {v : Value} {xs : List Value} (h : Holds w v xs) (n : Nat) : Holds (w.drewN n) v xs := h
theorem holds_nil (w : World) : Holds w (.slice none 0 0) [] := ⟨none, 0, rfl, Nat.le_refl _, by decide, .inl rfl⟩
theorem holds_own {w : World} {base : Nat} {e : TypeId} {v : Value} {n : Nat} {xs : List Value} (h : w.ownsRow base e 1 v n xs) : Holds w v xs := by
  have hl : xs.length = n := by have := h.1; omega
  rcases h.2 with ⟨rfl, h0⟩ | ⟨g, cap, cur, rfl, hb, hg, hc, hm, _⟩
  · exact ⟨none, 0, by rw [hl, h0], by omega, by decide, .inl (List.eq_nil_of_length_eq_zero (by omega))⟩
  · refine ⟨_, cap, by rw [hl], by omega, hm, .inr ⟨g, 0, rfl, ?_⟩⟩
    intro i u hu
    have hi : i < xs.length := (List.getElem?_eq_some_iff.1 hu).1
    rw [Nat.zero_add]
    exact (h.cellAt i (by omega)).trans hu
theorem Holds.below {w w' : World} {v : Value} {xs : List Value} (h : Holds w v xs) (hb : Below w.heap.size w w') : Holds w' v xs := by
  obtain ⟨ao, cap, rfl, h1, h2, h⟩ := h
  refine ⟨ao, cap, rfl, h1, h2, ?_⟩
  rcases h with h | ⟨b, off, rfl, h⟩
  · exact .inl h
  · refine .inr ⟨b, off, rfl, fun i u hu => ?_⟩
    have hc := h i u hu
    rw [hb.cell (p := ⟨b, off + i, none⟩) (World.block_lt_of_cell? w _ hc)]
    exact hc
/-- Numbers of one kind as values. -/
abbrev kv (k : IntKind) (l : List Int) : List Value := l.map (Value.int k)
theorem kv_getD (k : IntKind) (l : List Int) (i : Nat) (h : i < l.length) : (kv k l)[i]? = some (.int k (l.getD i 0)) := by
  rw [List.getElem?_map, List.getD_eq_getElem?_getD, List.getElem?_eq_getElem h]; rfl
theorem kv_set (k : IntKind) (l : List Int) (i : Nat) (x : Int) : (kv k l).set i (.int k x) = kv k (l.set i x) := by simp [kv, List.map_set]
theorem kv_zero (k : IntKind) (n : Nat) : (madeCells #[Value.int k 0] n).toList = kv k (List.replicate n 0) := by simp [kv, toList_madeCells_one]
theorem kv_len (k : IntKind) (l : List Int) : (kv k l).length = l.length := List.length_map _
/-- Each fits its kind. -/
def Fits (k : IntKind) (l : List Int) : Prop := ∀ x ∈ l, (Lit.int k x).wf = true
theorem Fits.u8 {l : List Int} (h : Fits .u8 l) (i : Nat) : 0 ≤ l.getD i 0 ∧ l.getD i 0 ≤ 255 := by
  rw [List.getD_eq_getElem?_getD]
  by_cases hi : i < l.length
  · rw [List.getElem?_eq_getElem hi]
    have := h _ (List.getElem_mem hi)
    simpa [Lit.wf, IntKind.min, IntKind.max, IntKind.signed, IntKind.bits] using this
  · rw [List.getElem?_eq_none (by omega)]; exact ⟨by decide, by decide⟩
theorem Fits.i64 {l : List Int} (h : Fits .i64 l) (i : Nat) : -9223372036854775808 ≤ l.getD i 0 ∧ l.getD i 0 ≤ 9223372036854775807 := by
  rw [List.getD_eq_getElem?_getD]
  by_cases hi : i < l.length
  · rw [List.getElem?_eq_getElem hi]
    have := h _ (List.getElem_mem hi)
    simpa [Lit.wf, IntKind.min, IntKind.max, IntKind.signed, IntKind.bits] using this
  · rw [List.getElem?_eq_none (by omega)]; exact ⟨by decide, by decide⟩
theorem Fits.i32 {l : List Int} (h : Fits .i32 l) (i : Nat) : -2147483648 ≤ l.getD i 0 ∧ l.getD i 0 ≤ 2147483647 := by
  rw [List.getD_eq_getElem?_getD]
  by_cases hi : i < l.length
  · rw [List.getElem?_eq_getElem hi]
    have := h _ (List.getElem_mem hi)
    simpa [Lit.wf, IntKind.min, IntKind.max, IntKind.signed, IntKind.bits] using this
  · rw [List.getElem?_eq_none (by omega)]; exact ⟨by decide, by decide⟩
theorem Fits.i8 {l : List Int} (h : Fits .i8 l) (i : Nat) : -128 ≤ l.getD i 0 ∧ l.getD i 0 ≤ 127 := by
  rw [List.getD_eq_getElem?_getD]
  by_cases hi : i < l.length
  · rw [List.getElem?_eq_getElem hi]
    have := h _ (List.getElem_mem hi)
    simpa [Lit.wf, IntKind.min, IntKind.max, IntKind.signed, IntKind.bits] using this
  · rw [List.getElem?_eq_none (by omega)]; exact ⟨by decide, by decide⟩
theorem fits_i8_iff {l : List Int} : Fits .i8 l ↔ ∀ x ∈ l, -128 ≤ x ∧ x ≤ 127 := by
  constructor
  · intro h x hx; have := h x hx; simpa [Lit.wf, IntKind.min, IntKind.max, IntKind.signed, IntKind.bits] using this
  · intro h x hx; have := h x hx; simpa [Lit.wf, IntKind.min, IntKind.max, IntKind.signed, IntKind.bits] using this
theorem fits_i32_iff {l : List Int} : Fits .i32 l ↔ ∀ x ∈ l, -2147483648 ≤ x ∧ x ≤ 2147483647 := by
  constructor
  · intro h x hx; have := h x hx; simpa [Lit.wf, IntKind.min, IntKind.max, IntKind.signed, IntKind.bits] using this
  · intro h x hx; have := h x hx; simpa [Lit.wf, IntKind.min, IntKind.max, IntKind.signed, IntKind.bits] using this
theorem Fits.take {k : IntKind} {l : List Int} (h : Fits k l) (n : Nat) : Fits k (l.take n) := fun x hx => h x (List.mem_of_mem_take hx)
/-- What an argument that is a slice of integers tells: the list, that it fits, that it is not too long. -/
def Reads (k : IntKind) (w : World) (v : Value) (l : List Int) : Prop := Holds w v (kv k l) ∧ Fits k l ∧ l.length ≤ maxLen
theorem reads_row {k : IntKind} {w : World} {a : Option Addr} {len cap : Nat} {zs : List Int}
    (h : (a = none ∧ len = 0 ∧ cap = 0 ∧ zs = []) ∨
      ∃ x, a = some x ∧ len ≤ cap ∧ cap ≤ maxLen ∧ zs.length = cap ∧ (∀ i, i < zs.length → w.cell? (x.add i) = some (.int k (zs.getD i 0))) ∧ ∀ n ∈ zs, (Lit.int k n).wf = true) :
    Reads k w (.slice a len cap) (zs.take len) ∧ (zs.take len).length = len := by
  rcases h with ⟨rfl, rfl, rfl, rfl⟩ | ⟨x, rfl, hl, hm, hz, hc, hw⟩
  · exact ⟨⟨⟨none, 0, rfl, Nat.le_refl _, by decide, .inl rfl⟩, by intro x hx; simp at hx, by simp⟩, rfl⟩
  · have hlen : (zs.take len).length = len := by rw [List.length_take]; omega
    refine ⟨⟨?_, fun n hn => hw n (List.mem_of_mem_take hn), by omega⟩, hlen⟩
    refine ⟨some x, cap, by rw [kv_len, hlen], by rw [kv_len]; omega, hm, ?_⟩
    by_cases h0 : len = 0
    · left; subst h0; rfl
    · right
      obtain ⟨b, off, rfl, hcc⟩ := ints_at hc (by omega)
      refine ⟨b, off, rfl, fun i u hu => ?_⟩
      have hi : i < len := by
        have := (List.getElem?_eq_some_iff.1 hu).1
        rw [kv_len, hlen] at this; exact this
      rw [kv_getD _ _ _ (by omega)] at hu
      rw [← hu, hcc i (by omega), List.getD_eq_getElem?_getD, List.getD_eq_getElem?_getD, List.getElem?_take, if_pos hi]
theorem Reads.below {k : IntKind} {w w' : World} {v : Value} {l : List Int} (h : Reads k w v l) (hb : Below w.heap.size w w') : Reads k w' v l := ⟨h.1.below hb, h.2⟩
theorem getD_setI (l : List Int) (i j : Nat) (x : Int) (h : i < l.length) : (l.set i x).getD j 0 = if i = j then x else l.getD j 0 := by
  rw [List.getD_eq_getElem?_getD, List.getElem?_set, List.getD_eq_getElem?_getD]
  by_cases e : i = j
  · rw [if_pos e, if_pos h, if_pos e]; rfl
  · rw [if_neg e, if_neg e]
theorem drop_getD (l : List Int) (k : Nat) (h : k < l.length) : l.drop k = l.getD k 0 :: l.drop (k + 1) := by
  rw [List.getD_eq_getElem?_getD, List.getElem?_eq_getElem h]; exact List.drop_eq_getElem_cons h
theorem take_getD (l : List Int) (k : Nat) (h : k < l.length) : l.take (k + 1) = l.take k ++ [l.getD k 0] := by
  rw [List.take_add_one, List.getD_eq_getElem?_getD, List.getElem?_eq_getElem h]; rfl
/-- What is owned and not empty lies at the head of a row. -/
theorem owned_shape {w : World} {base : Nat} {e : TypeId} {size : Nat} {v : Value} {n : Nat} {xs : List Value} (h : w.ownsRow base e size v n xs) (hn : 0 < n) :
    ∃ g cap, v = .slice (some ⟨g, 0, none⟩) n cap ∧ base ≤ g ∧ g < w.heap.size ∧ n ≤ cap := by
  rcases h.2 with ⟨_, h0⟩ | ⟨g, cap, cur, rfl, hb, hg, hc, _⟩
  · omega
  · exact ⟨g, cap, rfl, hb, (Array.getElem?_eq_some_iff.1 hg).1, hc⟩
/-- A call hands back a slice in new memory that reads as xs; of what was there nothing turns. -/
def Fresh (w : World) (e : TypeId) (xs : List Value) (r : Ending) (w' : World) : Prop := ∃ v, r = .returned v ∧ w'.ownsRow w.heap.size e 1 v xs.length xs ∧ Below w.heap.size w w'
theorem grown_set (w : World) (b o : Nat) (u : Value) : w.grownBy (w.setCell ⟨b, o, none⟩ u) (some b) :=
  ⟨rfl, rfl, rfl, by simp [World.setCell], fun k hk hn => Below.heap_setCell _ _ _ _ (fun e => hn (by rw [e]))⟩
theorem grown_trans {a b c : World} {row : Option Nat} (h : a.grownBy b row) (k : b.grownBy c row) : a.grownBy c row :=
  ⟨k.os.trans h.os, k.tape.trans h.tape, k.output.trans h.output, Nat.le_trans h.size k.size, fun i hi hn => (k.block i (Nat.lt_of_lt_of_le hi h.size) hn).trans (h.block i hi hn)⟩
/-- Three cells of one block, stored. -/
theorem grown_set3 (w : World) (b : Nat) (x y z : Value) : w.grownBy (((w.setCell ⟨b, 0, none⟩ x).setCell ⟨b, 1, none⟩ y).setCell ⟨b, 2, none⟩ z) (some b) :=
  grown_trans (grown_trans (grown_set _ _ _ _) (grown_set _ _ _ _)) (grown_set _ _ _ _)
theorem owned_down {w : World} {base base' : Nat} {e : TypeId} {size : Nat} {v : Value} {n : Nat} {xs : List Value} (h : w.ownsRow base e size v n xs) (hb : base' ≤ base) : w.ownsRow base' e size v n xs := by
  refine ⟨h.1, ?_⟩
  rcases h.2 with h | ⟨g, cap, cur, rfl, h1, h2⟩
  · exact .inl h
  · exact .inr ⟨g, cap, cur, rfl, Nat.le_trans hb h1, h2⟩
theorem owned_new {w w' : World} {base : Nat} {e : TypeId} {size : Nat} {v : Value} {n : Nat} {xs : List Value} (h : w.ownsRow base e size v n xs) (hg : w.grownBy w' none) : w'.ownsRow base e size v n xs :=
  h.kept hg (by cases v.ownBlock <;> simp)
theorem owned_below {w w' : World} {base : Nat} {e : TypeId} {size : Nat} {v : Value} {n : Nat} {xs : List Value} (h : w.ownsRow base e size v n xs) (hb : Below w.heap.size w w') : w'.ownsRow base e size v n xs :=
  owned_new h ⟨hb.os, hb.tape, hb.output, hb.size, fun k hk _ => hb.block k hk⟩
theorem cell_at {w : World} {b i : Nat} {cs : Array Value} {T : TypeId} {v : Value} (h : w.heap[b]? = some (.cells cs T (0, 0))) (hv : cs[i]? = some v) : w.cell? ⟨b, i, none⟩ = some v := by
  simp only [World.cell?, h]
  exact hv
theorem free_at {w : World} {b : Nat} {cs : Array Value} {T : TypeId} (h : w.heap[b]? = some (.cells cs T (0, 0))) (i : Nat) : w.frozen? ⟨b, i, none⟩ = false := by
  simp [World.frozen?, h]
theorem blk_below {w w' : World} {b : Nat} {o : Obj} (h : w.heap[b]? = some o) (hb : Below w.heap.size w w') : w'.heap[b]? = some o := by
  rw [hb.block _ (Array.getElem?_eq_some_iff.1 h).1]; exact h
theorem owned_drewN {w : World} {base : Nat} {e : TypeId} {size : Nat} {v : Value} {n : Nat} {xs : List Value} (h : w.ownsRow base e size v n xs) (q : Nat) : (w.drewN q).ownsRow base e size v n xs := h
theorem grown_drewN' {a w : World} {row : Option Nat} (h : a.grownBy w row) (q : Nat) : a.grownBy (w.drewN q) row := ⟨h.os, h.tape, h.output, h.size, h.block⟩
/-- A whole block, read as a list. -/
theorem reads_blk {k : IntKind} {w : World} {b n cap : Nat} {cs : Array Value} {T : TypeId} {l : List Int} (h : w.heap[b]? = some (.cells cs T (0, 0))) (hcs : cs.toList = kv k l) (hf : Fits k l) (hn : l.length = n) (hc : n ≤ cap) (hm : cap ≤ maxLen) :
    Reads k w (.slice (some ⟨b, 0, none⟩) n cap) l := by
  refine ⟨⟨some ⟨b, 0, none⟩, cap, by rw [kv_len, hn], by rw [kv_len, hn]; exact hc, hm, .inr ⟨b, 0, rfl, ?_⟩⟩, hf, by omega⟩
  intro i u hu
  rw [Nat.zero_add]
  refine cell_at h ?_
  rw [← hu, ← hcs]
  simp
theorem fits_of {k : IntKind} {l : List Int} (h : l.all (fun x => (Lit.int k x).wf) = true) : Fits k l := fun x hx => List.all_eq_true.1 h x hx
/-- A cell of what reads as a list. -/
theorem reads_cell {k : IntKind} {w : World} {ao : Option Addr} {n cap : Nat} {l : List Int} (h : Reads k w (.slice ao n cap) l) (i : Nat) (hi : i < l.length) :
    ∃ b o, ao = some ⟨b, o, none⟩ ∧ w.cell? ⟨b, o + i, none⟩ = some (.int k (l.getD i 0)) ∧ b < w.heap.size := by
  obtain ⟨a, c, he, _, _, hh⟩ := h.1
  injection he with h1 h2 h3
  subst h1
  have e := kv_getD k l i hi
  rcases hh with hh | ⟨b, o, rfl, hh⟩
  · rw [hh] at e; simp at e
  · exact ⟨b, o, rfl, hh i _ e, World.block_lt_of_cell? w _ (hh i _ e)⟩
theorem reads_len {k : IntKind} {w : World} {ao : Option Addr} {n cap : Nat} {l : List Int} (h : Reads k w (.slice ao n cap) l) : l.length = n ∧ n ≤ cap ∧ cap ≤ maxLen := by
  obtain ⟨a, c, he, h1, h2, _⟩ := h.1
  injection he with e1 e2 e3
  rw [kv_len] at e2 h1
  exact ⟨e2.symm, by omega, by omega⟩
/-- The same of numbers, the slice written out. -/
theorem Fresh.ints {w w' : World} {e : TypeId} {k : IntKind} {l : List Int} {r : Ending} (h : Fresh w e (kv k l) r w') :
    ∃ ao cap, r = .returned (.slice ao l.length cap) ∧ w'.ownsRow w.heap.size e 1 (.slice ao l.length cap) l.length (kv k l) ∧ Below w.heap.size w w' := by
  obtain ⟨v, rfl, ho, hb⟩ := h
  obtain ⟨ao, cap, rfl, _⟩ := holds_own ho
  rw [kv_len] at ho ⊢
  exact ⟨ao, cap, rfl, ho, hb⟩
theorem u64_mod (s : Int) (m : Int) (hm : 0 < m) (hm2 : m ≤ 9223372036854775807) : ∃ S : Nat, (IntKind.u64.wrap s).tmod m = (S:Int) ∧ (S : Int) < m := by
  have h1 : 0 ≤ IntKind.u64.wrap s := by rw [IntKind.wrap_u64]; omega
  rw [Int.tmod_eq_emod_of_nonneg h1]
  have h2 := Int.emod_nonneg (IntKind.u64.wrap s) (show m ≠ 0 by omega)
  have h3 := Int.emod_lt_of_pos (IntKind.u64.wrap s) hm
  exact ⟨(IntKind.u64.wrap s % m).toNat, by omega, by omega⟩
end Go.Proofs.Ytekokhlldcmjfaa
