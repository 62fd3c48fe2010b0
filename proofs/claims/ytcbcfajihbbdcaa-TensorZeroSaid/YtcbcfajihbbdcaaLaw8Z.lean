/- TensorZero. -/
import Derived.Test.YtcbcfajihbbdcaaLaw8
namespace Go.Proofs.Ytcbcfajihbbdcaa
open Go.RowKit
set_option maxHeartbeats 2000000
theorem bcell' {W w1 : World} (hb : Below W.heap.size W w1) : (∀ b o, b < W.heap.size → w1.cell? ⟨b, o, none⟩ = W.cell? ⟨b, o, none⟩) ∧ (∀ b o, b < W.heap.size → w1.frozen? ⟨b, o, none⟩ = W.frozen? ⟨b, o, none⟩) :=
  ⟨fun b o h => hb.cell (p := ⟨b, o, none⟩) h, fun b o h => hb.frozen (p := ⟨b, o, none⟩) h⟩
theorem chance_zero (r : BitVec 64) : chanceI 0 0 r = 0 := by
  have : shN 0 = 0 := by decide
  unfold chanceI numb cl
  rw [this]
  simp
  omega
theorem clamp_zero (x : Int) : clampI 0 x = 0 := by
  have h := two_pow_ub (wid x) 31 (wid_in x)
  unfold clampI cl
  omega
theorem smallFrom_zero (x : Int) (s r : BitVec 64) : ∀ n i, smallFrom x 0 s r i (List.replicate n 0) = List.replicate n 0
  | 0, _ => rfl
  | n + 1, i => by
    rw [List.replicate_succ, smallFrom, smallFrom_zero x s r n, smallAt, chance_zero, clamp_zero]
theorem width_zero (n : Nat) : widthL (List.replicate n 0) = 0 := by
  have h0 : bitsI 0 = 0 := by decide
  unfold widthL
  induction n with
  | zero => rfl
  | succ n ih => rw [List.replicate_succ, List.foldl_cons, h0]; exact ih
theorem zero_may {l : List Int} {e : Int} {n : Nat} (h1 : mayD l = true) (h2 : expB e 64 = true) (hn : szD l = n) : mayB ⟨l, e, List.replicate n 0⟩ = true ∧ mayAccB ⟨l, e, List.replicate n 0⟩ = true := by
  unfold mayB mayAccB
  simp only [h1, h2, List.length_replicate, hn, decide_true, Bool.true_and, Bool.and_true]
  constructor
  · simp
  · have := expB_in h2
    unfold expB
    simp
    omega
theorem small_zero {l : List Int} {e x : Int} {n : Nat} (s r : BitVec 64) (h1 : mayD l = true) (h2 : expB e 64 = true) (hn : szD l = n) (hx : 2 ≤ x ∧ x ≤ 8) : smallE ⟨l, e, List.replicate n 0⟩ x s r = (⟨l, e, List.replicate n 0⟩, 0) := by
  have hm := (zero_may h1 h2 hn).2
  unfold smallE
  have hW : widthB ⟨l, e, List.replicate n 0⟩ = 0 := by unfold widthB; rw [if_pos hm]; exact width_zero n
  have hz : max 0 (0 - (x - 1)) = (0 : Int) := by omega
  rw [if_neg (by rw [hm]; simp; omega)]
  simp only [hW, hz, Int.add_zero, h2, if_true, smallFrom_zero]
theorem tensorZero_any (v : Value) (l : List Int) (e x : Int) (w : World) (h : Reads .i64 w v l) (hx : (Lit.int .i64 x).wf = true) :
    Calls Try.prog 6 #[v, .int .i64 e, .int .i64 x] w fun r w' => r = .returned (.bool true) ∧ Below w.heap.size w w' := by
  have HZ := Lib.hid (zero_any v l e w h)
  by_cases hm : (mayD l && expB e 64) = true
  · obtain ⟨i0, hi, hz0, hz1, hz2⟩ := info_parts info32
    simp only [Bool.and_eq_true] at hm
    obtain ⟨n, hn⟩ : ∃ n : Nat, szD l = n := ⟨(szD l).toNat, by have := szD_pos hm.1; omega⟩
    have hn8 : 1 ≤ n ∧ n ≤ 8192 := by have := szD_pos hm.1; omega
    have hze : zeroE l e = (⟨l, e, List.replicate n 0⟩, 0) := by unfold zeroE; rw [hm.1, hm.2, hn]; rfl
    have HZ : Hid (Calls Try.prog 21 #[v, .int .i64 e] w (TE .i8 38 w ⟨l, e, List.replicate n 0⟩ 0)) := Lib.hid (by have := HZ.out; rw [hze] at this; exact this)
    have HMZ := Lib.hid (zero_may hm.1 hm.2 hn)
    obtain ⟨X, hX, hX7⟩ := u64_mod x 7 (by decide) (by decide)
    have HSM := Lib.hid (fun s r => small_zero (x := 2 + (X : Int)) s r hm.1 hm.2 hn (by omega))
    have HRE := Lib.hid h.2
    have HWI := Lib.hid (show widthB ⟨l, e, List.replicate n 0⟩ = 0 from by unfold widthB; rw [if_pos HMZ.out.2]; exact width_zero n)
    have HSA := Lib.hid (show sameB ⟨l, e, List.replicate n 0⟩ ⟨l, e, List.replicate n 0⟩ = true from by simp [sameB])
    clear hze hm hn h
    go_enter Try.func6, Try.ntmps6
    go_wp2_with fail
    refine HZ.out.mono ?_
    rintro r1 w1 ⟨v1, rfl, hft, hb1⟩
    obtain ⟨da, dc, aa, ac, rfl, hrd, hra, hwf, _⟩ := hft.parts
    simp only [List.length_replicate] at hrd hra ⊢
    have hbw := (Below.refl w1.heap.size w1).alloc (Nat.le_refl _) (.cells #[.slice da l.length dc, .int .i64 e, .slice aa n ac] 31)
    obtain ⟨w2, hw2⟩ : ∃ w2, w2 = w1.alloc (.cells #[.slice da l.length dc, .int .i64 e, .slice aa n ac] 31) := ⟨_, rfl⟩
    rw [← hw2] at hbw
    have hbl : w2.heap[w1.heap.size]? = some (.cells #[.slice da l.length dc, .int .i64 e, .slice aa n ac] 31 (0, 0)) := by rw [hw2]; exact Deep.blk_alloc_new _ _
    have hs2 : w1.heap.size < w2.heap.size := by rw [hw2]; simp
    have z0 : w2.cell? ⟨w1.heap.size, 0, none⟩ = some (.slice da l.length dc) := cell_at hbl rfl
    have z1 : w2.cell? ⟨w1.heap.size, 1, none⟩ = some (.int .i64 e) := cell_at hbl rfl
    have z2 : w2.cell? ⟨w1.heap.size, 2, none⟩ = some (.slice aa n ac) := cell_at hbl rfl
    have HW2 := Lib.hid hw2
    have HRT2 := Lib.hid (show RT .i8 w2 (.agg #[.slice da l.length dc, .int .i64 e, .slice aa n ac]) ⟨l, e, List.replicate n 0⟩ from ⟨_, _, rfl, hrd.below hbw, hra.below hbw, hwf⟩)
    have HB2 := Lib.hid (hb1.trans (hbw.mono hb1.size))
    have HRD2 := Lib.hid (hrd.below hbw)
    clear hft hb1 hrd hra hbw hbl hw2
    go_upto_region 5 with (fail)
    rw [← HW2.out]
    refine wp_region_cl 9 [([], Cl.eq (.pointer (some ⟨w1.heap.size, 0, none⟩))), ([0], Cl.eq (.slice da l.length dc)), ([], Cl.eq (.int .i64 e)), ([], Cl.eq (.pointer (some ⟨w1.heap.size, 2, none⟩))), ([3], Cl.eq (.slice aa n ac)), ([4], Cl.eq (.int .i64 n)), ([5], Cl.row 21 n (kv .i32 (List.replicate n 0))), ([1, 2, 6], Cl.out [6] (fun m => .agg #[.slice da l.length dc, .int .i64 e, m.getD 0 undef])), ([], Cl.blk #[.slice none 0 0, .int .i64 0, .slice none 0 0] 25)] (by kernel_rfl) (by kernel_rfl) (by kernel_rfl) (by decide) (by kernel_rfl) (by kernel_rfl) (by kernel_rfl) (by kernel_rfl) rfl ?hop ?htail
    case hop =>
      refine ⟨?_, ?_, ?_, ?_, ?_, ?_, ?_, ?_, ?_, trivial⟩
      · intro V L U wg hb hd
        rw [if_pos (by rfl)]
        simp only [putN]
        go_wp2
        exact ⟨_, rfl, rfl, Below.refl _ _⟩
      · intro V L U wg hb hd
        obtain ⟨e0, _⟩ := hd
        replace e0 : V 0 = .pointer (some ⟨w1.heap.size, 0, none⟩) := e0
        rw [if_pos (by rfl)]
        simp only [putN, dstAt, List.getElem?_toArray, List.getElem?_cons_zero, Option.bind_some, Act.put, List.setIfInBounds_toArray, List.set_cons_zero, List.set_cons_succ, e0]
        have g0 := (hb.cell (p := ⟨w1.heap.size, 0, none⟩) (World.block_lt_of_cell? w2 _ z0)).trans z0
        go_wp2
        exact ⟨_, rfl, rfl, Below.refl _ _⟩
      · intro V L U wg hb hd
        rw [if_pos (by rfl)]
        simp only [putN, dstAt, List.getElem?_toArray, List.getElem?_cons_zero, List.getElem?_cons_succ, Option.bind_some, Act.put, List.setIfInBounds_toArray, List.set_cons_zero, List.set_cons_succ]
        go_wp2
        exact ⟨_, rfl, rfl, Below.refl _ _⟩
      · intro V L U wg hb hd
        rw [if_pos (by rfl)]
        simp only [putN, dstAt, List.getElem?_toArray, List.getElem?_cons_zero, List.getElem?_cons_succ, Option.bind_some, Act.put, List.setIfInBounds_toArray, List.set_cons_zero, List.set_cons_succ]
        go_wp2
        exact ⟨_, rfl, rfl, Below.refl _ _⟩
      · intro V L U wg hb hd
        obtain ⟨e3, _⟩ := hd
        replace e3 : V 3 = .pointer (some ⟨w1.heap.size, 2, none⟩) := e3
        rw [if_pos (by rfl)]
        simp only [putN, dstAt, List.getElem?_toArray, List.getElem?_cons_zero, List.getElem?_cons_succ, Option.bind_some, Act.put, List.setIfInBounds_toArray, List.set_cons_zero, List.set_cons_succ, e3]
        have g0 := (hb.cell (p := ⟨w1.heap.size, 2, none⟩) (World.block_lt_of_cell? w2 _ z2)).trans z2
        go_wp2
        exact ⟨_, rfl, rfl, Below.refl _ _⟩
      · intro V L U wg hb hd
        obtain ⟨e4, _⟩ := hd
        replace e4 : V 4 = .slice aa n ac := e4
        rw [if_pos (by rfl)]
        simp only [putN, dstAt, List.getElem?_toArray, List.getElem?_cons_zero, List.getElem?_cons_succ, Option.bind_some, Act.put, List.setIfInBounds_toArray, List.set_cons_zero, List.set_cons_succ, e4]
        go_wp2
        exact ⟨_, rfl, rfl, Below.refl _ _⟩
      · intro V L U wg hb hd
        obtain ⟨e5, _⟩ := hd
        replace e5 : V 5 = .int .i64 n := e5
        rw [if_pos (by rfl)]
        simp only [putN, dstAt, List.getElem?_toArray, List.getElem?_cons_zero, List.getElem?_cons_succ, Option.bind_some, Act.put, List.setIfInBounds_toArray, List.set_cons_zero, List.set_cons_succ, e5]
        go_wp2_with (at_make; refine wpList_make_full _ rfl _ _ 23 rfl wg.heap.size 21 i0 (.int .i32 0) 1 Try.underlying23 hi hz0 hz1 _ _ _ _ n rfl rfl rfl rfl ?b1 ?b2 (by omega) ?_)
        case b1 => first | omega | (rw [hz2]; omega)
        case b2 => unfold maxLen; omega
        intro w3 hown hgrow
        rw [kv_zero] at hown
        go_wp2
        exact ⟨_, rfl, ⟨_, _, rfl, by simpa using hown, hown.lt⟩, (Below.refl _ _).grown hgrow (Nat.le_refl _) (by simp)⟩
      · intro V L U wg hb hd
        obtain ⟨e1, e2, e6, _⟩ := hd
        replace e1 : V 1 = .slice da l.length dc := e1
        replace e2 : V 2 = .int .i64 e := e2
        replace e6 : (Cl.row 21 n (kv .i32 (List.replicate n 0))).P V (V 6) (L 6) (U 6) wg := e6
        obtain ⟨ma, mc, v6, o6, l6⟩ := e6
        rw [if_pos (by rfl)]
        simp only [putN, dstAt, List.getElem?_toArray, List.getElem?_cons_zero, List.getElem?_cons_succ, Option.bind_some, Act.put, List.setIfInBounds_toArray, List.set_cons_zero, List.set_cons_succ, e1, e2, v6]
        go_wp2
        exact ⟨_, rfl, by simp [Cl.out, v6], Below.refl _ _⟩
      · intro V L U wg hb hd
        rw [if_pos (by rfl)]
        simp only [putN, dstAt, List.getElem?_toArray, List.getElem?_cons_zero, List.getElem?_cons_succ, Option.bind_some, Act.put, List.setIfInBounds_toArray, List.set_cons_zero, List.set_cons_succ]
        go_wp2
        exact ⟨_, rfl, ⟨_, rfl, Nat.le_refl _, by simp, Deep.blk_alloc_new _ _⟩, (Below.refl _ _).alloc (Nat.le_refl _) _⟩
    case htail =>
      intro V L U wg hb hap hlu hV
      obtain ⟨e0, e1, e2, e3, e4, e5, e6, e7, e8, _⟩ := hV
      replace e0 : V 0 = .pointer (some ⟨w1.heap.size, 0, none⟩) := e0
      replace e1 : V 1 = .slice da l.length dc := e1
      replace e2 : V 2 = .int .i64 e := e2
      replace e3 : V 3 = .pointer (some ⟨w1.heap.size, 2, none⟩) := e3
      replace e4 : V 4 = .slice aa n ac := e4
      replace e5 : V 5 = .int .i64 n := e5
      replace e6 : (Cl.row 21 n (kv .i32 (List.replicate n 0))).P V (V 6) (L 6) (U 6) wg := e6
      obtain ⟨ma, mc, v6, o6, l6⟩ := e6
      replace e7 : (Cl.out [6] (fun m => .agg #[.slice da l.length dc, .int .i64 e, m.getD 0 undef])).P V (V 7) (L 7) (U 7) wg := e7
      have v7 : V 7 = .agg #[.slice da l.length dc, .int .i64 e, V 6] := e7
      replace e8 : (Cl.blk #[.slice none 0 0, .int .i64 0, .slice none 0 0] 25).P V (V 8) (L 8) (U 8) wg := e8
      obtain ⟨g, v8, gl, gu, gb⟩ := e8
      simp only [putN, dstAt, List.getElem?_toArray, List.getElem?_cons_zero, List.getElem?_cons_succ, Option.bind_some, Act.put, List.setIfInBounds_toArray, List.set_cons_zero, List.set_cons_succ, e0, e1, e2, e3, e4, e5, v6, v7, v8, List.drop_succ_cons, List.drop_zero]
      clear e0 e1 e2 e3 e4 e5
      rw [v6] at o6 l6
      obtain ⟨mg, mcap, hma, hm1, hm2, hm3⟩ := owned_shape o6 (by omega)
      cases hma
      obtain ⟨lm1, lm2⟩ := l6 mg rfl
      have hgm : g ≠ mg := by have := hap 6 8 (by decide) (by decide) (by decide); omega
      have hl6 := (hlu 6 (by decide)).1
      have hl8 := (hlu 8 (by decide)).1
      have k0 : wg.cell? ⟨g, 0, none⟩ = some (.slice none 0 0) := cell_at gb rfl
      have k1 : wg.cell? ⟨g, 1, none⟩ = some (.int .i64 0) := cell_at gb rfl
      have k2 : wg.cell? ⟨g, 2, none⟩ = some (.slice none 0 0) := cell_at gb rfl
      have kf := free_at gb
      obtain ⟨w4, hw4⟩ : ∃ w4, w4 = ((wg.setCell ⟨g, 0, none⟩ (.slice da l.length dc)).setCell ⟨g, 1, none⟩ (.int .i64 e)).setCell ⟨g, 2, none⟩ (.slice (some ⟨mg, 0, none⟩) n mc) := ⟨_, rfl⟩
      have hg3 : wg.grownBy w4 (some g) := by rw [hw4]; exact grown_set3 _ _ _ _ _
      have hb4 : w4.heap[g]? = some (.cells #[.slice da l.length dc, .int .i64 e, .slice (some ⟨mg, 0, none⟩) n mc] 25 (0, 0)) := by rw [hw4]; exact set3_blk gb _ _ _
      have hb24 : Below w2.heap.size w2 w4 := hb.grown hg3 hb.size (by intro k hk; cases hk; omega)
      have o4 := o6.kept hg3 (.inr (by simp [Value.ownBlock]; omega))
      have HRT4 := Lib.hid (show RT .i32 w4 (.agg #[.slice da l.length dc, .int .i64 e, .slice (some ⟨mg, 0, none⟩) n mc]) ⟨l, e, List.replicate n 0⟩ from
        ⟨_, _, rfl, HRD2.out.below hb24, ⟨holds_own o4, fun y hy => by rw [List.eq_of_mem_replicate hy]; rfl, by unfold maxLen; simp; omega⟩, hwf⟩)
      have HB4 := Lib.hid hb4
      have HW4 := Lib.hid hw4
      have HB24 := Lib.hid hb24
      have c0 := cell_at hb4 (i := 0) rfl
      have c1 := cell_at hb4 (i := 1) rfl
      have c2 := cell_at hb4 (i := 2) rfl
      clear hb4 hw4 hb24 o4 o6 hg3 hb hap hlu gb
      go_upto_region 6 with (fail)
      rw [← HW4.out]
      go_wp2_with fail
      refine (small_lit _ _ _ _ _ 5#64 6#64 (by decide) (by decide) _ (HSM.out _ _) _ HRT4.out).mono ?_
      rintro r5 w5 ⟨v5, rfl, hft, hb5⟩
      have hrt5 := hft.rt
      obtain ⟨ta, tc, xa, xc, rfl, _⟩ := hft.parts
      simp only [List.length_replicate] at hrt5 ⊢
      have HB5 := Lib.hid hb5
      obtain ⟨w6, hw6⟩ : ∃ w6, w6 = w5.alloc (.cells #[.slice ta l.length tc, .int .i64 e, .slice xa n xc] 31) := ⟨_, rfl⟩
      have hb56 : Below w5.heap.size w5 w6 := by rw [hw6]; exact (Below.refl _ _).alloc (Nat.le_refl _) _
      have hb46 : Below w4.heap.size w4 w6 := hb5.trans (hb56.mono hb5.size)
      have hb26 : Below w2.heap.size w2 w6 := HB24.out.trans (hb46.mono HB24.out.size)
      have hbl6 : w6.heap[w5.heap.size]? = some (.cells #[.slice ta l.length tc, .int .i64 e, .slice xa n xc] 31 (0, 0)) := by rw [hw6]; exact Deep.blk_alloc_new _ _
      have u0 : w6.cell? ⟨w5.heap.size, 0, none⟩ = some (.slice ta l.length tc) := cell_at hbl6 rfl
      have u1 : w6.cell? ⟨w5.heap.size, 1, none⟩ = some (.int .i64 e) := cell_at hbl6 rfl
      have u2 : w6.cell? ⟨w5.heap.size, 2, none⟩ = some (.slice xa n xc) := cell_at hbl6 rfl
      have a0 := (hb46.cell (p := ⟨g, 0, none⟩) (World.block_lt_of_cell? w4 _ c0)).trans c0
      have a1 := (hb46.cell (p := ⟨g, 1, none⟩) (World.block_lt_of_cell? w4 _ c1)).trans c1
      have a2 := (hb46.cell (p := ⟨g, 2, none⟩) (World.block_lt_of_cell? w4 _ c2)).trans c2
      have b0 := (hb26.cell (p := ⟨w1.heap.size, 0, none⟩) hs2).trans z0
      have b1 := (hb26.cell (p := ⟨w1.heap.size, 1, none⟩) hs2).trans z1
      have b2 := (hb26.cell (p := ⟨w1.heap.size, 2, none⟩) hs2).trans z2
      have HR6 := Lib.hid (RT.below (t := ⟨l, e, List.replicate n 0⟩) hrt5 hb56)
      have HRA := Lib.hid (HRT4.out.below hb46)
      have HRZ := Lib.hid (HRT2.out.below hb26)
      have HW6 := Lib.hid hw6
      have HB6 := Lib.hid (HB2.out.trans (hb26.mono HB2.out.size))
      clear hb5 hb56 hb46 hb26 hbl6 hw6 hft hrt5 c0 c1 c2 z0 z1 z2
      go_upto_region 7 with (fail)
      rw [← HW6.out]
      go_wp2_with fail
      refine (mayT_any _ _ _ HRZ.out).mono ?_
      rintro r7 w7 ⟨rfl, hb7⟩
      rw [HMZ.out.1]
      replace u0 := (hb7.cell (p := ⟨w5.heap.size, 0, none⟩) (World.block_lt_of_cell? w6 _ u0)).trans u0
      replace u1 := (hb7.cell (p := ⟨w5.heap.size, 1, none⟩) (World.block_lt_of_cell? w6 _ u1)).trans u1
      replace u2 := (hb7.cell (p := ⟨w5.heap.size, 2, none⟩) (World.block_lt_of_cell? w6 _ u2)).trans u2
      replace a0 := (hb7.cell (p := ⟨g, 0, none⟩) (World.block_lt_of_cell? w6 _ a0)).trans a0
      replace a1 := (hb7.cell (p := ⟨g, 1, none⟩) (World.block_lt_of_cell? w6 _ a1)).trans a1
      replace a2 := (hb7.cell (p := ⟨g, 2, none⟩) (World.block_lt_of_cell? w6 _ a2)).trans a2
      replace b0 := (hb7.cell (p := ⟨w1.heap.size, 0, none⟩) (World.block_lt_of_cell? w6 _ b0)).trans b0
      replace b1 := (hb7.cell (p := ⟨w1.heap.size, 1, none⟩) (World.block_lt_of_cell? w6 _ b1)).trans b1
      replace b2 := (hb7.cell (p := ⟨w1.heap.size, 2, none⟩) (World.block_lt_of_cell? w6 _ b2)).trans b2
      have HR7 := Lib.hid (HR6.out.below hb7)
      have HRA7 := Lib.hid (HRA.out.below hb7)
      have HRZ7 := Lib.hid (HRZ.out.below hb7)
      have HB7 := Lib.hid (HB6.out.trans (hb7.mono HB6.out.size))
      clear hb7
      go_wp2_with fail
      refine (width_any _ _ _ HRA7.out).mono ?_
      rintro r8 w8 ⟨rfl, hb8⟩
      rw [HWI.out]
      replace u0 := (hb8.cell (p := ⟨w5.heap.size, 0, none⟩) (World.block_lt_of_cell? w7 _ u0)).trans u0
      replace u1 := (hb8.cell (p := ⟨w5.heap.size, 1, none⟩) (World.block_lt_of_cell? w7 _ u1)).trans u1
      replace u2 := (hb8.cell (p := ⟨w5.heap.size, 2, none⟩) (World.block_lt_of_cell? w7 _ u2)).trans u2
      replace b0 := (hb8.cell (p := ⟨w1.heap.size, 0, none⟩) (World.block_lt_of_cell? w7 _ b0)).trans b0
      replace b1 := (hb8.cell (p := ⟨w1.heap.size, 1, none⟩) (World.block_lt_of_cell? w7 _ b1)).trans b1
      replace b2 := (hb8.cell (p := ⟨w1.heap.size, 2, none⟩) (World.block_lt_of_cell? w7 _ b2)).trans b2
      have HR8 := Lib.hid (HR7.out.below hb8)
      have HRZ8 := Lib.hid (HRZ7.out.below hb8)
      have HB8 := Lib.hid (HB7.out.trans (hb8.mono HB7.out.size))
      clear hb8 a0 a1 a2
      go_wp2_with fail
      refine (sameT_any _ _ _ _ _ HR8.out HRZ8.out).mono ?_
      rintro r9 w9 ⟨rfl, hb9⟩
      rw [HSA.out]
      have HB9 := Lib.hid (HB8.out.trans (hb9.mono HB8.out.size))
      clear hb9
      go_wp2_with fail
      refine (awake8_any _).mono ?_
      rintro r10 w10 ⟨rfl, hb10⟩
      have HB10 := Lib.hid (HB9.out.trans (hb10.mono HB9.out.size))
      clear hb10
      go_wp2
      go_ret
      exact ⟨rfl, HB10.out⟩
  · have hze : zeroE l e = (noT, 1) := by unfold zeroE; rw [if_neg hm]
    have HZ : Hid (Calls Try.prog 21 #[v, .int .i64 e] w (TE .i8 38 w noT 1)) := Lib.hid (by have := HZ.out; rw [hze] at this; exact this)
    clear hze hm h
    go_enter Try.func6, Try.ntmps6
    go_wp2_with fail
    refine HZ.out.mono ?_
    rintro r1 w1 ⟨v1, rfl, hft, hb1⟩
    obtain ⟨da, dc, aa, ac, rfl, _⟩ := hft.parts
    simp only [noT, List.length_nil]
    obtain ⟨w2, hw2⟩ : ∃ w2, w2 = w1.alloc (.cells #[.slice da 0 dc, .int .i64 0, .slice aa 0 ac] 31) := ⟨_, rfl⟩
    have hbl : w2.heap[w1.heap.size]? = some (.cells #[.slice da 0 dc, .int .i64 0, .slice aa 0 ac] 31 (0, 0)) := by rw [hw2]; exact Deep.blk_alloc_new _ _
    have c2 : w2.cell? ⟨w1.heap.size, 2, none⟩ = some (.slice aa 0 ac) := cell_at hbl rfl
    have HB2 : Hid (Below w.heap.size w w2) := Lib.hid (by rw [hw2]; exact hb1.alloc hb1.size _)
    have HW2 := Lib.hid hw2
    clear hw2 hbl hft hb1
    go_upto_region 3 with (fail)
    rw [← HW2.out]
    go_wp2_with fail
    refine (awake8_any _).mono ?_
    rintro r10 w10 ⟨rfl, hb10⟩
    have HB10 := Lib.hid (HB2.out.trans (hb10.mono HB2.out.size))
    clear hb10
    go_wp2
    go_ret
    exact ⟨rfl, HB10.out⟩
end Go.Proofs.Ytcbcfajihbbdcaa
