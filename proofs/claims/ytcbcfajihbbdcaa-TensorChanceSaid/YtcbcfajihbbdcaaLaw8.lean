/- The laws of tensor. -/
import Derived.Test.YtcbcfajihbbdcaaSmallB
namespace Go.Proofs.Ytcbcfajihbbdcaa
open Go.RowKit
set_option maxHeartbeats 2000000
theorem RT.below {k : IntKind} {w w' : World} {v : Value} {t : Tn} (h : RT k w v t) (hb : Below w.heap.size w w') : RT k w' v t := by
  obtain ⟨d, a, rfl, h1, h2, h3⟩ := h
  exact ⟨d, a, rfl, h1.below hb, h2.below hb, h3⟩
theorem small_lit (v : Value) (t : Tn) (x s r : Int) (S R : BitVec 64) (hs : s = N S) (hr : r = N R) (p : Tn × Int) (hp : smallE t x S R = p) (w : World) (h : RT .i32 w v t) :
    Calls Try.prog 16 #[v, .int .i64 x, .int .u64 s, .int .u64 r] w (TE .i8 38 w p.1 p.2) := by
  subst hs hr hp
  exact small_any v t x S R w h
theorem awake8_is : smallE ⟨[2], 0, [5, -3]⟩ 8 1#64 1#64 = (⟨[2], 0, [5, -3]⟩, 0) := by kernel_rfl
theorem awake8_any (w : World) : Calls Try.prog 15 #[] w fun e w' => e = .returned (.bool true) ∧ Below w.heap.size w w' := by
  obtain ⟨wb, hwb⟩ : ∃ wb, wb = (w.alloc (.cells #[.int .i64 2] 3)).alloc (.cells #[.int .i32 5, .int .i32 (-3)] 21) := ⟨_, rfl⟩
  have hb : Below w.heap.size w wb := by rw [hwb]; exact below_two _ _ _
  have h1 : Reads .i64 wb (.slice (some ⟨w.heap.size, 0, none⟩) 1 1) [2] := by
    rw [hwb]
    exact reads_blk ((Deep.blk_alloc_lt _ _ _ (by simp)).trans (Deep.blk_alloc_new _ _)) rfl (fits_of (by decide)) rfl (by decide) (by decide)
  have h2 : Reads .i32 wb (.slice (some ⟨w.heap.size + 1, 0, none⟩) 2 2) [5, -3] := by
    rw [hwb]
    refine reads_blk (cs := #[.int .i32 5, .int .i32 (-3)]) (T := 21) ?_ rfl (fits_of (by decide)) rfl (by decide) (by decide)
    rw [show w.heap.size + 1 = (w.alloc (.cells #[.int .i64 2] 3)).heap.size from by simp]
    exact Deep.blk_alloc_new _ _
  have H := Lib.hid (show RT .i32 wb (.agg #[.slice (some ⟨w.heap.size, 0, none⟩) 1 1, .int .i64 0, .slice (some ⟨w.heap.size + 1, 0, none⟩) 2 2]) ⟨[2], 0, [5, -3]⟩ from ⟨_, _, rfl, h1, h2, rfl⟩)
  have HB := Lib.hid hb
  have HWB := Lib.hid hwb
  clear hb h1 h2 hwb
  go_enter Try.func15, Try.ntmps15
  go_wp2_with fail
  rw [← HWB.out]
  refine (small_lit _ _ _ _ _ 1#64 1#64 (by decide) (by decide) _ awake8_is _ H.out).mono ?_
  rintro r1 w1 ⟨v1, rfl, hft, hb1⟩
  obtain ⟨da, dc, aa, ac, rfl, hd, ha, _⟩ := hft.parts
  obtain ⟨b, o, rfl, g0, _⟩ := reads_cell ha 0 (by decide)
  obtain ⟨b', o', he, g1, _⟩ := reads_cell ha 1 (by decide)
  cases he
  have g0 : w1.cell? ⟨b, o, none⟩ = some (.int .i8 5) := g0
  have g1 : w1.cell? ⟨b, o + 1, none⟩ = some (.int .i8 (-3)) := g1
  have HBW := Lib.hid (HB.out.trans (hb1.mono HB.out.size))
  clear hft hd ha hb1
  go_wp2
  go_ret
  exact ⟨rfl, HBW.out.alloc HBW.out.size _⟩
end Go.Proofs.Ytcbcfajihbbdcaa
