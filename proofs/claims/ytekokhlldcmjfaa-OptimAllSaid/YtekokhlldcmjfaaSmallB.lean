/- Sums made small: every way. -/
import Derived.Test.YtekokhlldcmjfaaSmall
namespace Go.Proofs.Ytekokhlldcmjfaa
open Go.RowKit
set_option maxRecDepth 100000
set_option maxHeartbeats 2000000
theorem te_mk {k : IntKind} {E : TypeId} {w w' : World} {er : Int} (hb : Below w.heap.size w w') : TE k E w noT er (.returned (.tuple #[.agg #[.slice none 0 0, .int .i64 0, .slice none 0 0], .int .i64 er])) w' := ⟨_, rfl, ft_none _ _ _ _, hb⟩
theorem small_no (d : Value) (e : Int) (ao : Option Addr) (n cap : Nat) (D A : List Int) (x : Int) (s r : BitVec 64) (w : World) (hd : Reads .i64 w d D) (ha : Reads .i32 w (.slice ao n cap) A) (hw : (Lit.int .i64 e).wf = true)
   (h : mayAccB ⟨D, e, A⟩ = false ∨ x < 2 ∨ 8 < x) :
    Calls Try.prog 46 #[.agg #[d, .int .i64 e, .slice ao n cap], .int .i64 x, u64 s, u64 r] w (TE .i8 52 w noT 1) := by
  obtain ⟨wb, hwb⟩ : ∃ wb, wb = (w.alloc (.cells #[d, .int .i64 e, .slice ao n cap] 30)).alloc (.cells #[.slice none 0 0, .int .i64 0, .slice none 0 0] 25) := ⟨_, rfl⟩
  have hb : Below w.heap.size w wb := by rw [hwb]; exact below_two _ _ _
  have HRB : Hid (RT .i32 wb (.agg #[d, .int .i64 e, .slice ao n cap]) ⟨D, e, A⟩) := Lib.hid ⟨d, _, rfl, hd.below hb, ha.below hb, hw⟩
  have HWB := Lib.hid hwb
  have hb8 : wb.heap[w.heap.size + 1]? = some (.cells #[.slice none 0 0, .int .i64 0, .slice none 0 0] 25 (0, 0)) := by
    rw [hwb, show w.heap.size + 1 = (w.alloc (.cells #[d, .int .i64 e, .slice ao n cap] 30)).heap.size from by simp]
    exact Deep.blk_alloc_new _ _
  have HB8 := Lib.hid hb8
  have HB := Lib.hid hb
  clear hwb hb hd ha hb8
  have three : mayAccB ⟨D, e, A⟩ = false ∨ (mayAccB ⟨D, e, A⟩ = true ∧ x < 2) ∨ (mayAccB ⟨D, e, A⟩ = true ∧ 2 ≤ x ∧ 8 < x) := by
    cases hm : mayAccB ⟨D, e, A⟩ with
    | false => exact .inl rfl
    | true => rw [hm] at h; right; rcases h with h | h | h; cases h; exact .inl ⟨rfl, h⟩; exact .inr ⟨rfl, by omega, h⟩
  clear h
  rcases three with hm | ⟨hm, h1⟩ | ⟨hm, h1, h2⟩
  all_goals
    have HM := Lib.hid hm
    clear hm
    go_enter Try.func46, Try.ntmps46
    go_wp2_with fail
    rw [← HWB.out]
    refine (mayAcc_any _ _ _ HRB.out).mono ?_
    rintro e1 w1 ⟨rfl, hb1⟩
    rw [HM.out]
    have hbl := blk_below HB8.out hb1
    have c0 : w1.cell? ⟨w.heap.size + 1, 0, none⟩ = some (.slice none 0 0) := cell_at hbl rfl
    have c1 : w1.cell? ⟨w.heap.size + 1, 1, none⟩ = some (.int .i64 0) := cell_at hbl rfl
    have c2 : w1.cell? ⟨w.heap.size + 1, 2, none⟩ = some (.slice none 0 0) := cell_at hbl rfl
    have cf := free_at hbl
    have HBW := Lib.hid (HB.out.trans (hb1.mono HB.out.size))
    clear hbl hb1
    go_wp2
    refine bodyPost_ret (v := .tuple #[.agg #[.slice none 0 0, .int .i64 0, .slice none 0 0], .int .i64 1]) (by simp [results, Try.results46, go_sem, c0, c1, c2]) rfl ?_
    exact te_mk (HBW.out.grown (grown_set3 _ _ _ _ _) HBW.out.size (by intro j hj; cases hj; omega))
theorem small_far (d : Value) (e : Int) (ao : Option Addr) (n cap : Nat) (D A : List Int) (x : Int) (s r : BitVec 64) (w : World) (hd : Reads .i64 w d D) (ha : Reads .i32 w (.slice ao n cap) A) (hw : (Lit.int .i64 e).wf = true)
   (z W : Int) (hW : widthB ⟨D, e, A⟩ = W) (hx : 2 ≤ x ∧ x ≤ 8) (hm : mayAccB ⟨D, e, A⟩ = true) (hz : max 0 (W - (x - 1)) = z) (he : expB (e + z) 64 = false) :
    Calls Try.prog 46 #[.agg #[d, .int .i64 e, .slice ao n cap], .int .i64 x, u64 s, u64 r] w (TE .i8 52 w noT 3) := by
  obtain ⟨wb, hwb⟩ : ∃ wb, wb = (w.alloc (.cells #[d, .int .i64 e, .slice ao n cap] 30)).alloc (.cells #[.slice none 0 0, .int .i64 0, .slice none 0 0] 25) := ⟨_, rfl⟩
  have hb : Below w.heap.size w wb := by rw [hwb]; exact below_two _ _ _
  have HRB : Hid (RT .i32 wb (.agg #[d, .int .i64 e, .slice ao n cap]) ⟨D, e, A⟩) := Lib.hid ⟨d, _, rfl, hd.below hb, ha.below hb, hw⟩
  have HWB := Lib.hid hwb
  have hbx : wb.heap[w.heap.size]? = some (.cells #[d, .int .i64 e, .slice ao n cap] 30 (0, 0)) := by
    rw [hwb, Deep.blk_alloc_lt _ _ _ (by simp)]
    exact Deep.blk_alloc_new _ _
  have hb8 : wb.heap[w.heap.size + 1]? = some (.cells #[.slice none 0 0, .int .i64 0, .slice none 0 0] 25 (0, 0)) := by
    rw [hwb, show w.heap.size + 1 = (w.alloc (.cells #[d, .int .i64 e, .slice ao n cap] 30)).heap.size from by simp]
    exact Deep.blk_alloc_new _ _
  have hmm := hm
  unfold mayAccB at hmm
  simp only [Bool.and_eq_true, decide_eq_true_eq] at hmm
  have he0 := expB_in hmm.2
  have hW0 := widthB_in ⟨D, e, A⟩
  rw [hW] at hW0
  have hz1' : 0 ≤ z ∧ z ≤ 62 := by omega
  have HBX := Lib.hid hbx
  have HB8 := Lib.hid hb8
  have HB := Lib.hid hb
  have HM := Lib.hid hm
  have HW := Lib.hid hW
  have HE := Lib.hid he
  clear hwb hb hd ha hW hm he hbx hmm hb8
  go_enter Try.func46, Try.ntmps46
  go_wp2_with fail
  rw [← HWB.out]
  refine (mayAcc_any _ _ _ HRB.out).mono ?_
  rintro e1 w1 ⟨rfl, hb1⟩
  rw [HM.out]
  have HRB1 : Hid (RT .i32 w1 (.agg #[d, .int .i64 e, .slice ao n cap]) ⟨D, e, A⟩) := Lib.hid (by
    obtain ⟨d', a', h1, h2, h3, h4⟩ := HRB.out
    exact ⟨d', a', h1, h2.below hb1, h3.below hb1, h4⟩)
  have hbl1 := blk_below HBX.out hb1
  have c0 : w1.cell? ⟨w.heap.size, 0, none⟩ = some d := cell_at hbl1 rfl
  have c1 : w1.cell? ⟨w.heap.size, 1, none⟩ = some (.int .i64 e) := cell_at hbl1 rfl
  have c2 : w1.cell? ⟨w.heap.size, 2, none⟩ = some (.slice ao n cap) := cell_at hbl1 rfl
  have HBL1 := Lib.hid hbl1
  have HB1 := Lib.hid hb1
  clear hbl1 hb1
  go_wp2_with fail
  refine (width_any _ _ _ HRB1.out).mono ?_
  rintro e2 w2 ⟨rfl, hb2⟩
  rw [HW.out]
  have hbl2 := blk_below HBL1.out hb2
  have hb82 := blk_below (blk_below HB8.out HB1.out) hb2
  have c1 : w2.cell? ⟨w.heap.size, 1, none⟩ = some (.int .i64 e) := cell_at hbl2 rfl
  have s0 : w2.cell? ⟨w.heap.size + 1, 0, none⟩ = some (.slice none 0 0) := cell_at hb82 rfl
  have s1 : w2.cell? ⟨w.heap.size + 1, 1, none⟩ = some (.int .i64 0) := cell_at hb82 rfl
  have s2 : w2.cell? ⟨w.heap.size + 1, 2, none⟩ = some (.slice none 0 0) := cell_at hb82 rfl
  have sf := free_at hb82
  have HBW2 := Lib.hid (HB.out.trans ((HB1.out.trans (hb2.mono HB1.out.size)).mono HB.out.size))
  clear hbl2 hb82 hb2
  go_wp2_with (go_at_call 108; refine (mayExp_is _ _ _ (by decide) (by decide) _ HE.out).mono ?_; rintro r1 w1 ⟨rfl, rfl⟩)
  refine bodyPost_ret (v := .tuple #[.agg #[.slice none 0 0, .int .i64 0, .slice none 0 0], .int .i64 3]) (by simp [results, Try.results46, go_sem, s0, s1, s2]) rfl ?_
  exact te_mk (HBW2.out.grown (grown_set3 _ _ _ _ _) HBW2.out.size (by intro j hj; cases hj; omega))
theorem small_any (v : Value) (t : Tn) (x : Int) (s r : BitVec 64) (w : World) (h : RT .i32 w v t) :
    Calls Try.prog 46 #[v, .int .i64 x, u64 s, u64 r] w (TE .i8 52 w (smallE t x s r).1 (smallE t x s r).2) := by
  obtain ⟨d, a, rfl, hd, ha, hw⟩ := h
  obtain ⟨D, e, A⟩ := t
  simp only at hd ha hw ⊢
  obtain ⟨ao, cap, hav, _⟩ := ha.1
  rw [kv_len] at hav
  subst hav
  unfold smallE
  simp only
  by_cases hn : mayAccB ⟨D, e, A⟩ = false ∨ x < 2 ∨ 8 < x
  · rw [if_pos hn]
    exact small_no d e ao _ cap D A x s r w hd ha hw hn
  · rw [if_neg hn]
    have hm : mayAccB ⟨D, e, A⟩ = true := by
      cases hm : mayAccB ⟨D, e, A⟩ with
      | false => exact absurd (.inl hm) hn
      | true => rfl
    cases he : expB (e + max 0 (widthB ⟨D, e, A⟩ - (x - 1))) 64 with
    | false => exact small_far d e ao _ cap D A x s r w hd ha hw _ _ rfl (by omega) hm rfl he
    | true => exact small_yes d e ao _ cap D A x s r w hd ha rfl hw _ _ rfl (by omega) hm rfl he
end Go.Proofs.Ytekokhlldcmjfaa
