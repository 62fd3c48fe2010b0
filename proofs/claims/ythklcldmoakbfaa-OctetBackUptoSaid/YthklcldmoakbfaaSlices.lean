/- slices.Equal, slices.Clone, of slices of numbers (written by wip/tools/gen_slices.py). -/
import Derived.Test.YthklcldmoakbfaaProg
import Derived.Test.YthklcldmoakbfaaBv
import Derived.Test.YthklcldmoakbfaaMem
import Derived.Deep.Heap
namespace Go.Proofs.Ythklcldmoakbfaa
open Go.RowKit
set_option maxRecDepth 100000
set_option maxHeartbeats 1000000
theorem take_both {k : Nat} {l1 l2 : List Int} (h1 : k < l1.length) (h2 : k < l2.length) (h : l1.take k = l2.take k) (hx : l1.getD k 0 = l2.getD k 0) : l1.take (k + 1) = l2.take (k + 1) := by
  rw [take_getD _ _ h1, take_getD _ _ h2, h, hx]
theorem infoI : (Try.prog.info? 3).map (fun i => (i.zero, i.size, i.bytes)) = some (some (.int .i64 0), 1, 8) := by kernel_rfl
theorem info32 : (Try.prog.info? 21).map (fun i => (i.zero, i.size, i.bytes)) = some (some (.int .i32 0), 1, 4) := by kernel_rfl
theorem infoB : (Try.prog.info? 5).map (fun i => (i.zero, i.size, i.bytes)) = some (some (.int .u8 0), 1, 1) := by kernel_rfl
theorem cloneB_any (v : Value) (l : List Int) (w : World) (h : Holds w v (kv .u8 l)) (hl : l.length * 1 ≤ 140737488355328) :
    Calls Try.prog 32 #[v] w fun e w' => Fresh w 5 (kv .u8 l) e w' := by
  obtain ⟨i0, hi, hz0, hz1, hz2⟩ := info_parts infoB
  obtain ⟨ao, cap, rfl, hcap, hmx, hh⟩ := h
  have q32 : ∀ (w : World) (a : Option Addr) (n c n' c' : Nat), (binOp .eql 23 (.slice a n c) (.slice none n' c')).run Try.prog w = .ok (.bool a.isNone) w := fun w a n c n' c' => Lib.run_eql_slice_nil w _ _ a n c n' c' Try.underlying23
  have u32 : ∀ w, Sem.run Try.prog (underlying 23) w = .ok (TypeDesc.slice 5) w := run_underlying Try.underlying23
  rw [kv_len] at hcap ⊢
  obtain ⟨n, hn⟩ : ∃ n, n = l.length := ⟨_, rfl⟩
  have HN := Lib.hid hn
  have HH := Lib.hid hh
  rw [← hn] at hl hcap ⊢
  clear hh hn
  cases ao with
  | none =>
    have hl0 : l = [] := by
      rcases HH.out with e | ⟨b, off, e, _⟩
      · simpa [kv] using e
      · simp at e
    have h0 : n = 0 := by rw [HN.out, hl0]; rfl
    subst h0
    go_enter Try.func32, Try.ntmps32
    go_wp2
    go_ret
    refine ⟨_, rfl, ?_, Below.refl _ _⟩
    rw [hl0]
    exact World.ownsRow_nil w _ _ _
  | some ad =>
    obtain ⟨w0, rfl⟩ : ∃ w0 : World, w0 = w := ⟨_, rfl⟩
    go_enter Try.func32, Try.ntmps32
    go_wp2_with (at_builtin; refine wpList_append_own _ rfl _ _ 23 rfl w0.heap.size 5 i0 (.int .u8 0) 1 1 Try.underlying23 hi hz0 hz1 hz2 rfl (by decide) _ _ _ rfl (World.ownsRow_made w0 #[] 0 (Nat.le_refl _) (Nat.zero_le _) rfl) ad n cap (kv .u8 l) rfl ?c1 ?c2 ?c3 ?c4 ?c5 ?c6 ?_)
    case c1 => rw [kv_len, ← HN.out]; omega
    case c2 =>
      intro j u hj
      rcases HH.out with e | ⟨b, off, e, hc⟩
      · rw [e] at hj; simp at hj
      · injection e with e; subst e
        rw [Addr.add_lit]
        exact Lib.cell?_alloc_some _ (hc j u hj)
    case c3 => intro u hu; obtain ⟨x, _, rfl⟩ := List.mem_map.1 hu; rfl
    case c4 => unfold maxLen; omega
    case c5 => omega
    case c6 => simp
    intro v' w1 hown hgrow hnil
    go_wp2
    go_ret
    refine ⟨v', rfl, by rw [kv_len, ← HN.out]; simpa using hown, ?_⟩
    exact ((Below.refl _ w0).alloc (Nat.le_refl _) _).grown hgrow (by simp) (by intro k hk; simp [Value.ownBlock] at hk; omega)
end Go.Proofs.Ythklcldmoakbfaa
