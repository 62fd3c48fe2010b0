/- One element appended to a row of one's own; a cell of a block stored. No program in sight. -/
import Derived.Test.YtcbcfajihbbdcaaMem
import Derived.Deep.AppendLies
import Derived.Deep.Heap
namespace Go.Proofs.Ytcbcfajihbbdcaa
open Go.RowKit
theorem set_blk {w : World} {b : Nat} {cs : Array Value} {T : TypeId} (h : w.heap[b]? = some (.cells cs T (0, 0))) (i : Nat) (v : Value) :
    (w.setCell ⟨b, i, none⟩ v).heap[b]? = some (.cells (cs.setIfInBounds i v) T (0, 0)) := by
  simp [World.setCell, Array.getElem?_modify, h]
theorem grown_alloc (w : World) (o : Obj) (row : Option Nat) : w.grownBy (w.alloc o) row := ⟨rfl, rfl, rfl, by simp, fun _ hj _ => Deep.blk_alloc_lt _ _ _ hj⟩
theorem kv_push (k : IntKind) (l : List Int) (i : Nat) (x : Int) (h : i < l.length) (hx : l.getD i 0 = x) : kv k (l.take i) ++ [.int k x] = kv k (l.take (i + 1)) := by
  rw [take_getD l i h, hx]; simp [kv]
theorem wpList_push {P : Program} {ops : Array Oper} {rest : List Oper} {o : Oper} {a : Act} {w : World} {Q : Exit → Act → World → Prop} (hgd : o.guard = none) (s x : Operand) (t : TypeId)
    (ho : o.op = .call { callee := .builtin .append, args := #[s, x], argTypes := #[t, t] })
    (base : Nat) (e : TypeId) (i : TypeInfo) (z : Value) (bytes : Nat) (ht : P.underlying t = some (.slice e)) (hi : P.info? e = some i) (hz : i.zero = some z)
    (hsize : i.size = 1) (hby : i.bytes = bytes) (hzs : z.cells.size = 1)
    (v : Value) (n : Nat) (xs : List Value) (hs : a.eval s = v) (hown : w.ownsRow base e 1 v n xs)
    (g0 c : Nat) (T : TypeId) (u : Value) (hx : a.eval x = .slice (some ⟨g0, 0, none⟩) 1 c) (hblk : w.heap[g0]? = some (.cells #[u] T (0, 0))) (h1 : u.oneCell' = true)
    (h63 : n < 9223372036854775807) (hbytes : (n + 1) * bytes ≤ 140737488355328) (hbase : base ≤ w.heap.size)
    (h : ∀ g cap w', w'.ownsRow base e 1 (.slice (some ⟨g, 0, none⟩) (n + 1) cap) (n + 1) (xs ++ [u]) → w.grownBy w' v.ownBlock → base ≤ g → g < w'.heap.size → wpList P ops Q rest (a.put o.dst (.slice (some ⟨g, 0, none⟩) (n + 1) cap)) w') :
    wpList P ops Q (o :: rest) a w := by
  refine wpList_append_own _ hgd s x t ho base e i z 1 bytes ht hi hz hsize hby hzs (by decide) v n xs hs hown ⟨g0, 0, none⟩ 1 c [u] hx rfl (World.news_of_block hblk) (by simpa using h1) (by unfold maxLen; omega) hbytes hbase ?_
  intro v' w' ho' hg' _
  obtain ⟨g, cap, rfl, hb, hg, _⟩ := owned_shape ho' (by omega)
  exact h g cap w' ho' hg' hb hg
end Go.Proofs.Ytcbcfajihbbdcaa
