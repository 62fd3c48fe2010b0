/- Sums made small. -/
import Derived.Test.YtekokhlldcmjfaaTensorC
import Derived.Test.YtekokhlldcmjfaaGrow
import Derived.Test.YtekokhlldcmjfaaPrng
import Derived.StillTailTactics
import Derived.Deep.Cut
namespace Go.Proofs.Ytekokhlldcmjfaa
open OldGrow
open Go.RowKit
set_option maxHeartbeats 2000000
set_option maxRecDepth 100000
def smallAt (x z : Int) (s r : BitVec 64) (i : Nat) (v : Int) : Int := clampI (chanceI v z (atB s r (BitVec.ofNat 64 i))) x
def smallFrom (x z : Int) (s r : BitVec 64) : Nat → List Int → List Int
  | _, [] => []
  | i, v :: l => smallAt x z s r i v :: smallFrom x z s r (i + 1) l
def smallE (t : Tn) (x : Int) (s r : BitVec 64) : Tn × Int :=
  if mayAccB t = false ∨ x < 2 ∨ 8 < x then (noT, 1) else
    let z := max 0 (widthB t - (x - 1))
    if expB (t.exp + z) 64 then (⟨t.dims, t.exp + z, smallFrom x z s r 0 t.data⟩, 0) else (noT, 3)
theorem smallFrom_len (x z : Int) (s r : BitVec 64) : ∀ (l : List Int) (i : Nat), (smallFrom x z s r i l).length = l.length
  | [], _ => rfl
  | v :: l, i => by simp [smallFrom, smallFrom_len x z s r l]
theorem clampI_in (v x : Int) (h : 2 ≤ x ∧ x ≤ 8) : -127 ≤ clampI v x ∧ clampI v x ≤ 127 := by
  have hw : wid x ≤ 7 := by unfold wid cl; omega
  have h2 := two_pow_ub (wid x) 7 hw
  unfold clampI cl
  omega
theorem smallFrom_in (x z : Int) (s r : BitVec 64) (hx : 2 ≤ x ∧ x ≤ 8) : ∀ (l : List Int) (i : Nat), ∀ y ∈ smallFrom x z s r i l, -127 ≤ y ∧ y ≤ 127
  | [], _, y, hy => by simp [smallFrom] at hy
  | v :: l, i, y, hy => by
    rcases List.mem_cons.1 hy with rfl | hy
    · exact clampI_in _ x hx
    · exact smallFrom_in x z s r hx l (i + 1) y hy
theorem widthB_in (t : Tn) : 0 ≤ widthB t ∧ widthB t ≤ 63 := by
  unfold widthB
  split
  · exact widthFrom_in _ 0 (by omega) (by omega)
  · omega
theorem expB_in {e m : Int} (h : expB e m = true) : -m ≤ e ∧ e ≤ m := by
  unfold expB at h
  simpa using h
theorem clamp_q (v x : Int) (w : World) : Calls Try.prog 29 #[.int .i64 v, .int .i64 x] w fun e w'' => e = .returned (.int .i64 (clampI v x)) ∧ w'' = w := (clamp_any v x w).mono fun _ _ ⟨he, hw⟩ => ⟨he, hw.symm⟩
theorem set_app (P S : List Int) (x z : Int) (k : Nat) (hP : P.length = k) : (P ++ x :: S).set k z = (P ++ [z]) ++ S := by
  subst hP; simp
theorem clamp_is (v x y : Int) (w : World) (h : clampI v x = y) : Calls Try.prog 29 #[.int .i64 v, .int .i64 x] w fun e w'' => e = .returned (.int .i64 y) ∧ w'' = w := h ▸ clamp_q v x w
theorem at_nat (s r : BitVec 64) (k : Nat) (w : World) (hk : k < 18446744073709551616) : Calls Try.prog 26 #[u64 s, u64 r, .int .u64 (k : Int)] w fun e w' => e = .returned (u64 (atB s r (BitVec.ofNat 64 k))) ∧ w = w' := by
  have h : (k : Int) = N (BitVec.ofNat 64 k) := by unfold N; rw [BitVec.toNat_ofNat]; omega
  rw [h]
  exact at_any _ _ _ _
theorem set3_blk {w : World} {b : Nat} {a0 b0 c0 : Value} {T : TypeId} (h : w.heap[b]? = some (.cells #[a0, b0, c0] T (0, 0))) (x y z : Value) :
    (((w.setCell ⟨b, 0, none⟩ x).setCell ⟨b, 1, none⟩ y).setCell ⟨b, 2, none⟩ z).heap[b]? = some (.cells #[x, y, z] T (0, 0)) := by
  simp [World.setCell, Array.getElem?_modify, h]
theorem small_yes (d : Value) (e : Int) (ao : Option Addr) (n cap : Nat) (D A : List Int) (x : Int) (s r : BitVec 64) (w : World) (hd : Reads .i64 w d D) (ha : Reads .i32 w (.slice ao n cap) A) (hn : A.length = n) (hw : (Lit.int .i64 e).wf = true)
   (z W : Int) (hW : widthB ⟨D, e, A⟩ = W) (hx : 2 ≤ x ∧ x ≤ 8) (hm : mayAccB ⟨D, e, A⟩ = true) (hz : max 0 (W - (x - 1)) = z) (he : expB (e + z) 64 = true) :
    Calls Try.prog 46 #[.agg #[d, .int .i64 e, .slice ao n cap], .int .i64 x, u64 s, u64 r] w (TE .i8 52 w ⟨D, e + z, smallFrom x z s r 0 A⟩ 0) := by
  obtain ⟨i0, hi, hz0, hz1, hz2⟩ := info_parts info8
  obtain ⟨wb, hwb⟩ : ∃ wb, wb = (w.alloc (.cells #[d, .int .i64 e, .slice ao n cap] 30)).alloc (.cells #[.slice none 0 0, .int .i64 0, .slice none 0 0] 25) := ⟨_, rfl⟩
  have hb : Below w.heap.size w wb := by rw [hwb]; exact below_two _ _ _
  have HRB : Hid (RT .i32 wb (.agg #[d, .int .i64 e, .slice ao n cap]) ⟨D, e, A⟩) := Lib.hid ⟨d, _, rfl, hd.below hb, ha.below hb, hw⟩
  have HWB := Lib.hid hwb
  have hbx : wb.heap[w.heap.size]? = some (.cells #[d, .int .i64 e, .slice ao n cap] 30 (0, 0)) := by
    rw [hwb, Deep.blk_alloc_lt _ _ _ (by simp)]
    exact Deep.blk_alloc_new _ _
  have hb8 : wb.heap[w.heap.size + 1]? = some (.cells #[.slice none 0 0, .int .i64 0, .slice none 0 0] 25 (0, 0)) := by
    rw [hwb, show w.heap.size + 1 = (w.alloc (.cells #[d, .int .i64 e, .slice ao n cap] 30)).heap.size from by simp]
    exact Deep.blk_alloc_new _ _
  have hbs : wb.heap.size = w.heap.size + 2 := by rw [hwb]; simp
  have hmm := hm
  unfold mayAccB at hmm
  simp only [Bool.and_eq_true, decide_eq_true_eq] at hmm
  have hD4 : D.length ≤ 4 := (mayD_short hmm.1.1).2
  have hn8 : 1 ≤ n ∧ n ≤ 8192 := by have := szD_pos hmm.1.1; have := hmm.1.2; omega
  have he0 := expB_in hmm.2
  have hW0 := widthB_in ⟨D, e, A⟩
  rw [hW] at hW0
  have hz1' : 0 ≤ z ∧ z ≤ 62 := by omega
  have HBX := Lib.hid hbx
  have HB8 := Lib.hid hb8
  have HBS := Lib.hid hbs
  have HB := Lib.hid hb
  have HM := Lib.hid hm
  have HW := Lib.hid hW
  have HE := Lib.hid he
  have HN := Lib.hid hn
  have HDF := Lib.hid hd.2
  have HAF := Lib.hid ha.2.1
  clear hwb hb hd ha hW hm he hbx hmm hn hb8 hbs
  go_enter Try.func46, Try.ntmps46
  go_wp2_with fail
  rw [← HWB.out]
  refine (mayAcc_any _ _ _ HRB.out).mono ?_
  rintro e1 w1 ⟨rfl, hb1⟩
  rw [HM.out]
  have HRB1 : Hid (RT .i32 w1 (.agg #[d, .int .i64 e, .slice ao n cap]) ⟨D, e, A⟩) := Lib.hid (by
    obtain ⟨d', a', h1, h2, h3, h4⟩ := HRB.out
    exact ⟨d', a', h1, h2.below hb1, h3.below hb1, h4⟩)
  have hbl1 := blk_below HBX.out hb1
  have c0 : w1.cell? ⟨w.heap.size, 0, none⟩ = some d := cell_at hbl1 rfl
  have c1 : w1.cell? ⟨w.heap.size, 1, none⟩ = some (.int .i64 e) := cell_at hbl1 rfl
  have c2 : w1.cell? ⟨w.heap.size, 2, none⟩ = some (.slice ao n cap) := cell_at hbl1 rfl
  have HBL1 := Lib.hid hbl1
  have HB1 := Lib.hid hb1
  clear hbl1 hb1
  go_wp2_with fail
  refine (width_any _ _ _ HRB1.out).mono ?_
  rintro e2 w2 ⟨rfl, hb2⟩
  rw [HW.out]
  have HRB2 : Hid (RT .i32 w2 (.agg #[d, .int .i64 e, .slice ao n cap]) ⟨D, e, A⟩) := Lib.hid (by
    obtain ⟨d', a', h1, h2, h3, h4⟩ := HRB1.out
    exact ⟨d', a', h1, h2.below hb2, h3.below hb2, h4⟩)
  have hbl2 := blk_below HBL1.out hb2
  have hb82 := blk_below (blk_below HB8.out HB1.out) hb2
  have c0 : w2.cell? ⟨w.heap.size, 0, none⟩ = some d := cell_at hbl2 rfl
  have c1 : w2.cell? ⟨w.heap.size, 1, none⟩ = some (.int .i64 e) := cell_at hbl2 rfl
  have c2 : w2.cell? ⟨w.heap.size, 2, none⟩ = some (.slice ao n cap) := cell_at hbl2 rfl
  have HBL2 := Lib.hid hbl2
  have HB82 := Lib.hid hb82
  have HBW2 := Lib.hid (HB.out.trans ((HB1.out.trans (hb2.mono HB1.out.size)).mono HB.out.size))
  have hs2 : w.heap.size + 2 ≤ w2.heap.size := by have := HB1.out.size; have := hb2.size; have := HBS.out; omega
  have HD2 : Hid (Reads .i64 w2 d D) := Lib.hid (by obtain ⟨d', a', h1, h2, h3, h4⟩ := HRB2.out; cases h1; exact h2)
  have HA2 : Hid (Reads .i32 w2 (.slice ao n cap) A) := Lib.hid (by obtain ⟨d', a', h1, h2, h3, h4⟩ := HRB2.out; cases h1; exact h3)
  clear hbl2 hb82 hb2
  go_wp2_with (go_at_call 108; refine (mayExp_is _ _ _ (by decide) (by decide) _ HE.out).mono ?_; rintro r1 w1 ⟨rfl, rfl⟩)
  refine wp_region_cl 13 [([], Cl.eq (.pointer (some ⟨w.heap.size, 0, none⟩))), ([0], Cl.eq d), ([1], Cl.row 3 D.length (kv .i64 D)), ([], Cl.eq (.pointer (some ⟨w.heap.size, 1, none⟩))), ([3], Cl.eq (.int .i64 e)), ([], Cl.eq (.int .i64 z)), ([4, 5], Cl.eq (.int .i64 (e + z))), ([], Cl.eq (.pointer (some ⟨w.heap.size, 2, none⟩))), ([7], Cl.eq (.slice ao n cap)), ([8], Cl.eq (.int .i64 n)), ([9], Cl.row 52 n (kv .i8 (List.replicate n 0))), ([2, 6, 10], Cl.out [2, 10] (fun l => .agg #[l.getD 0 undef, .int .i64 (e + z), l.getD 1 undef])), ([], Cl.blk #[.slice none 0 0, .int .i64 0, .slice none 0 0] 25)] (by kernel_rfl) (by kernel_rfl) (by kernel_rfl) (by decide) (by kernel_rfl) (by kernel_rfl) (by kernel_rfl) (by kernel_rfl) rfl ?hop ?htail
  case hop =>
    refine ⟨?_, ?_, ?_, ?_, ?_, ?_, ?_, ?_, ?_, ?_, ?_, ?_, ?_, trivial⟩
    · intro V L U wg hb hd
      rw [if_pos (by rfl)]
      simp only [putN]
      go_wp2
      exact ⟨_, rfl, rfl, Below.refl _ _⟩
    · intro V L U wg hb hd
      obtain ⟨e0, _⟩ := hd
      replace e0 : V 0 = .pointer (some ⟨w.heap.size, 0, none⟩) := e0
      rw [if_pos (by rfl)]
      simp only [putN, dstAt, List.getElem?_toArray, List.getElem?_cons_zero, Option.bind_some, Act.put, List.setIfInBounds_toArray, List.set_cons_zero, List.set_cons_succ, e0]
      have g0 := (hb.cell (p := ⟨w.heap.size, 0, none⟩) (World.block_lt_of_cell? w2 _ c0)).trans c0
      go_wp2
      exact ⟨_, rfl, rfl, Below.refl _ _⟩
    · intro V L U wg hb hd
      obtain ⟨e1, _⟩ := hd
      replace e1 : V 1 = d := e1
      rw [if_pos (by rfl)]
      simp only [putN, dstAt, List.getElem?_toArray, List.getElem?_cons_zero, List.getElem?_cons_succ, Option.bind_some, Act.put, List.setIfInBounds_toArray, List.set_cons_zero, List.set_cons_succ, e1]
      go_wp2_with fail
      refine (cloneI_any _ _ _ (HD2.out.1.below hb) (by omega)).mono ?_
      rintro r1 w3 hf1
      obtain ⟨x1, x2, rfl, ho1, hb1⟩ := hf1.ints
      go_wp2
      exact ⟨_, rfl, ⟨x1, x2, rfl, ho1, ho1.lt⟩, hb1⟩
    · intro V L U wg hb hd
      rw [if_pos (by rfl)]
      simp only [putN, dstAt, List.getElem?_toArray, List.getElem?_cons_zero, List.getElem?_cons_succ, Option.bind_some, Act.put, List.setIfInBounds_toArray, List.set_cons_zero, List.set_cons_succ]
      go_wp2
      exact ⟨_, rfl, rfl, Below.refl _ _⟩
    · intro V L U wg hb hd
      obtain ⟨e3, _⟩ := hd
      replace e3 : V 3 = .pointer (some ⟨w.heap.size, 1, none⟩) := e3
      rw [if_pos (by rfl)]
      simp only [putN, dstAt, List.getElem?_toArray, List.getElem?_cons_zero, List.getElem?_cons_succ, Option.bind_some, Act.put, List.setIfInBounds_toArray, List.set_cons_zero, List.set_cons_succ, e3]
      have g0 := (hb.cell (p := ⟨w.heap.size, 1, none⟩) (World.block_lt_of_cell? w2 _ c1)).trans c1
      go_wp2
      exact ⟨_, rfl, rfl, Below.refl _ _⟩
    · intro V L U wg hb hd
      rw [if_pos (by rfl)]
      simp only [putN, dstAt, List.getElem?_toArray, List.getElem?_cons_zero, List.getElem?_cons_succ, Option.bind_some, Act.put, List.setIfInBounds_toArray, List.set_cons_zero, List.set_cons_succ]
      go_wp2
      exact ⟨_, rfl, rfl, Below.refl _ _⟩
    · intro V L U wg hb hd
      obtain ⟨e4, e5, _⟩ := hd
      replace e4 : V 4 = .int .i64 e := e4
      replace e5 : V 5 = .int .i64 z := e5
      rw [if_pos (by rfl)]
      simp only [putN, dstAt, List.getElem?_toArray, List.getElem?_cons_zero, List.getElem?_cons_succ, Option.bind_some, Act.put, List.setIfInBounds_toArray, List.set_cons_zero, List.set_cons_succ, e4, e5]
      go_wp2
      exact ⟨_, rfl, rfl, Below.refl _ _⟩
    · intro V L U wg hb hd
      rw [if_pos (by rfl)]
      simp only [putN, dstAt, List.getElem?_toArray, List.getElem?_cons_zero, List.getElem?_cons_succ, Option.bind_some, Act.put, List.setIfInBounds_toArray, List.set_cons_zero, List.set_cons_succ]
      go_wp2
      exact ⟨_, rfl, rfl, Below.refl _ _⟩
    · intro V L U wg hb hd
      obtain ⟨e7, _⟩ := hd
      replace e7 : V 7 = .pointer (some ⟨w.heap.size, 2, none⟩) := e7
      rw [if_pos (by rfl)]
      simp only [putN, dstAt, List.getElem?_toArray, List.getElem?_cons_zero, List.getElem?_cons_succ, Option.bind_some, Act.put, List.setIfInBounds_toArray, List.set_cons_zero, List.set_cons_succ, e7]
      have g0 := (hb.cell (p := ⟨w.heap.size, 2, none⟩) (World.block_lt_of_cell? w2 _ c2)).trans c2
      go_wp2
      exact ⟨_, rfl, rfl, Below.refl _ _⟩
    · intro V L U wg hb hd
      obtain ⟨e8, _⟩ := hd
      replace e8 : V 8 = .slice ao n cap := e8
      rw [if_pos (by rfl)]
      simp only [putN, dstAt, List.getElem?_toArray, List.getElem?_cons_zero, List.getElem?_cons_succ, Option.bind_some, Act.put, List.setIfInBounds_toArray, List.set_cons_zero, List.set_cons_succ, e8]
      go_wp2
      exact ⟨_, rfl, rfl, Below.refl _ _⟩
    · intro V L U wg hb hd
      obtain ⟨e9, _⟩ := hd
      replace e9 : V 9 = .int .i64 n := e9
      rw [if_pos (by rfl)]
      simp only [putN, dstAt, List.getElem?_toArray, List.getElem?_cons_zero, List.getElem?_cons_succ, Option.bind_some, Act.put, List.setIfInBounds_toArray, List.set_cons_zero, List.set_cons_succ, e9]
      go_wp2_with (at_make; refine wpList_make_full _ rfl _ _ 23 rfl wg.heap.size 52 i0 (.int .i8 0) 1 Try.underlying23 hi hz0 hz1 _ _ _ _ n rfl rfl rfl rfl ?b1 ?b2 ?b3 ?_)
      case b1 => rw [hz2]; omega
      case b2 => unfold maxLen; omega
      case b3 => omega
      intro w3 hown hgrow
      rw [kv_zero] at hown
      go_wp2
      exact ⟨_, rfl, ⟨_, _, rfl, by simpa using hown, hown.lt⟩, (Below.refl _ _).grown hgrow (Nat.le_refl _) (by simp)⟩
    · intro V L U wg hb hd
      obtain ⟨e2, e6, e10, _⟩ := hd
      replace e2 : (Cl.row 3 D.length (kv .i64 D)).P V (V 2) (L 2) (U 2) wg := e2
      obtain ⟨da, dc, v2, o2, l2⟩ := e2
      replace e6 : V 6 = .int .i64 (e + z) := e6
      replace e10 : (Cl.row 52 n (kv .i8 (List.replicate n 0))).P V (V 10) (L 10) (U 10) wg := e10
      obtain ⟨ma, mc, v10, o10, l10⟩ := e10
      rw [if_pos (by rfl)]
      simp only [putN, dstAt, List.getElem?_toArray, List.getElem?_cons_zero, List.getElem?_cons_succ, Option.bind_some, Act.put, List.setIfInBounds_toArray, List.set_cons_zero, List.set_cons_succ, v2, e6, v10]
      go_wp2
      exact ⟨_, rfl, by simp [Cl.out, v2, v10], Below.refl _ _⟩
    · intro V L U wg hb hd
      rw [if_pos (by rfl)]
      simp only [putN, dstAt, List.getElem?_toArray, List.getElem?_cons_zero, List.getElem?_cons_succ, Option.bind_some, Act.put, List.setIfInBounds_toArray, List.set_cons_zero, List.set_cons_succ]
      go_wp2
      exact ⟨_, rfl, ⟨_, rfl, Nat.le_refl _, by simp, Deep.blk_alloc_new _ _⟩, (Below.refl _ _).alloc (Nat.le_refl _) _⟩
  case htail =>
    intro V L U wg hb hap hlu hV
    obtain ⟨e0, e1, e2, e3, e4, e5, e6, e7, e8, e9, e10, e11, e12, _⟩ := hV
    replace e0 : V 0 = .pointer (some ⟨w.heap.size, 0, none⟩) := e0
    replace e1 : V 1 = d := e1
    replace e2 : (Cl.row 3 D.length (kv .i64 D)).P V (V 2) (L 2) (U 2) wg := e2
    obtain ⟨da, dc, v2, o2, l2⟩ := e2
    replace e3 : V 3 = .pointer (some ⟨w.heap.size, 1, none⟩) := e3
    replace e4 : V 4 = .int .i64 e := e4
    replace e5 : V 5 = .int .i64 z := e5
    replace e6 : V 6 = .int .i64 (e + z) := e6
    replace e7 : V 7 = .pointer (some ⟨w.heap.size, 2, none⟩) := e7
    replace e8 : V 8 = .slice ao n cap := e8
    replace e9 : V 9 = .int .i64 n := e9
    replace e10 : (Cl.row 52 n (kv .i8 (List.replicate n 0))).P V (V 10) (L 10) (U 10) wg := e10
    obtain ⟨ma, mc, v10, o10, l10⟩ := e10
    replace e11 : (Cl.out [2, 10] (fun l => .agg #[l.getD 0 undef, .int .i64 (e + z), l.getD 1 undef])).P V (V 11) (L 11) (U 11) wg := e11
    have v11 : V 11 = .agg #[V 2, .int .i64 (e + z), V 10] := e11
    replace e12 : (Cl.blk #[.slice none 0 0, .int .i64 0, .slice none 0 0] 25).P V (V 12) (L 12) (U 12) wg := e12
    obtain ⟨g, v12, gl, gu, gb⟩ := e12
    simp only [putN, dstAt, List.getElem?_toArray, List.getElem?_cons_zero, List.getElem?_cons_succ, Option.bind_some, Act.put, List.setIfInBounds_toArray, List.set_cons_zero, List.set_cons_succ, e0, e1, v2, e3, e4, e5, e6, e7, e8, e9, v10, v11, v12, List.drop_succ_cons, List.drop_zero]
    clear e0 e1 e3 e4 e5 e6 e7 e8 e9
    rw [v2] at o2 l2
    rw [v10] at o10 l10
    obtain ⟨mg, mcap, hma, hm1, hm2, hm3⟩ := owned_shape o10 (by omega)
    cases hma
    obtain ⟨lm1, lm2⟩ := l10 mg rfl
    have hgm : g ≠ mg := by have := hap 10 12 (by decide) (by decide) (by decide); omega
    have hdm : ∀ q, (Value.slice da D.length dc).ownBlock = some q → q ≠ mg ∧ q ≠ g := by
      intro q hq
      have h1 := l2 q hq
      have h2 := hap 2 10 (by decide) (by decide) (by decide)
      have h3 := hap 2 12 (by decide) (by decide) (by decide)
      omega
    have hl2 := (hlu 2 (by decide)).1
    have hl10 := (hlu 10 (by decide)).1
    have hl12 := (hlu 12 (by decide)).1
    have k0 : wg.cell? ⟨g, 0, none⟩ = some (.slice none 0 0) := cell_at gb rfl
    have k1 : wg.cell? ⟨g, 1, none⟩ = some (.int .i64 0) := cell_at gb rfl
    have k2 : wg.cell? ⟨g, 2, none⟩ = some (.slice none 0 0) := cell_at gb rfl
    have kf := free_at gb
    have d2 : wg.cell? ⟨w.heap.size, 2, none⟩ = some (.slice ao n cap) := (hb.cell (p := ⟨w.heap.size, 2, none⟩) (by simp; omega)).trans c2
    obtain ⟨w4, hw4⟩ : ∃ w4, w4 = ((wg.setCell ⟨g, 0, none⟩ (.slice da D.length dc)).setCell ⟨g, 1, none⟩ (.int .i64 (e + z))).setCell ⟨g, 2, none⟩ (.slice (some ⟨mg, 0, none⟩) n mc) := ⟨_, rfl⟩
    have hg3 : wg.grownBy w4 (some g) := by rw [hw4]; exact grown_set3 _ _ _ _ _
    have hb4 : w4.heap[g]? = some (.cells #[.slice da D.length dc, .int .i64 (e + z), .slice (some ⟨mg, 0, none⟩) n mc] 25 (0, 0)) := by rw [hw4]; exact set3_blk gb _ _ _
    have d4 : w4.cell? ⟨w.heap.size, 2, none⟩ = some (.slice ao n cap) := hg3.cell d2 (by simp; omega)
    have o4 := o10.kept hg3 (.inr (by simp [Value.ownBlock]; omega))
    have HO4 := Lib.hid o4
    have HO2 := Lib.hid (o2.kept hg3 (.inr (fun e => (hdm _ e).2 rfl)))
    have HB4 := Lib.hid hb4
    have HW4 := Lib.hid hw4
    have HDM := Lib.hid hdm
    have hb2w : Below w2.heap.size w2 w4 := hb.grown hg3 hb.size (by intro k hk; cases hk; omega)
    have HBW4 := Lib.hid (HBW2.out.trans (hb2w.mono HBW2.out.size))
    have HA4 := Lib.hid (HA2.out.below hb2w)
    have HL2 := Lib.hid (fun q hq => (l2 q hq).1 : ∀ q, (Value.slice da D.length dc).ownBlock = some q → L 2 ≤ q)
    have hs4 : w2.heap.size ≤ w4.heap.size := hb2w.size
    have HB24 := Lib.hid hb2w
    clear hg3 hb4 d2 o4 hdm o2 o10 gb hb2w l2 l10 hap hlu hb hw4
    go_upto_region 7 with (fail)
    rw [← HW4.out]
    go_wp2
    go_loopw [55] (fun c wr => ∃ (k : Nat) (P S : List Int), c = .int .i64 k ∧ k ≤ n ∧ P.length = k ∧ S.length = n - k ∧ P ++ smallFrom x z s r k (A.drop k) = smallFrom x z s r 0 A ∧ wr.ownsRow (L 10) 52 1 (.slice (some ⟨mg, 0, none⟩) n mc) n (kv .i8 (P ++ S)) ∧ ∃ wq q, w4.grownBy wq (some mg) ∧ wr = wq.drewN q) (fun c _ => n - (intOf c).toNat)
    case atStart => exact ⟨0, [], List.replicate n 0, rfl, by omega, rfl, by simp, by simp, HO4.out, w4, 0, World.grownBy.refl _ _, rfl⟩
    case round =>
      obtain ⟨k, P, S, rfl, hk, hP, hS, hPS, howr, wq, q, hgr, rfl⟩ := hrel
      have HP := Lib.hid hP
      have HPS := Lib.hid hPS
      have HGR := Lib.hid hgr
      have HOW : Hid (wq.ownsRow (L 10) 52 1 (.slice (some ⟨mg, 0, none⟩) n mc) n (kv .i8 (P ++ S))) := Lib.hid howr
      clear hP hPS hgr howr
      by_cases hlt : k < n
      · obtain ⟨b1, o1, rfl, ga2, hb1lt⟩ := reads_cell HA2.out k (by rw [HN.out]; exact hlt)
        have ga4 := (HB24.out.cell (p := ⟨b1, o1 + k, none⟩) hb1lt).trans ga2
        have ga : wq.cell? ⟨b1, o1 + k, none⟩ = some (.int .i32 (A.getD k 0)) := HGR.out.cell ga4 (by simp at hb1lt ⊢; omega)
        have hvb := HAF.out.i32 k
        have hdr := drop_getD A k (by rw [HN.out]; exact hlt)
        obtain ⟨v, hv⟩ : ∃ v, A.getD k 0 = v := ⟨_, rfl⟩
        rw [hv] at ga hvb hdr
        obtain ⟨y0, S', hSe⟩ : ∃ y S', S = y :: S' := by
          cases S with
          | nil => simp at hS; omega
          | cons y S' => exact ⟨y, S', rfl⟩
        subst hSe
        obtain ⟨y, hy⟩ : ∃ y, clampI (chanceI v z (atB s r (BitVec.ofNat 64 k))) x = y := ⟨_, rfl⟩
        have hyb : -127 ≤ y ∧ y ≤ 127 := by rw [← hy]; exact clampI_in _ _ hx
        have HNX : Hid ((P ++ [y]) ++ smallFrom x z s r (k + 1) (A.drop (k + 1)) = smallFrom x z s r 0 A) := Lib.hid (by
          have := HPS.out
          rw [hdr, smallFrom, smallAt, hy] at this
          simpa using this)
        have HY := Lib.hid hy
        have hSl : S'.length = n - (k + 1) := by simp at hS; omega
        have gb2 : wq.cell? ⟨g, 2, none⟩ = some (.slice (some ⟨mg, 0, none⟩) n mc) := HGR.out.cell (cell_at HB4.out rfl) (by simp; omega)
        have gk : wq.cell? ⟨mg, k, none⟩ = some (.int .i8 y0) := (HOW.out.cellAt k (by omega)).trans (by rw [kv_getD _ _ _ (by simp [HP.out]), List.getD_eq_getElem?_getD, List.getElem?_append_right (by rw [HP.out]; omega)]; simp [HP.out])
        have gf : wq.frozen? ⟨mg, k, none⟩ = false := HOW.out.frozenAt k
        obtain ⟨hs1, hs2⟩ := HOW.out.stored k (.int .i8 y)
        rw [kv_set, set_app _ _ _ _ _ HP.out] at hs1
        have HS1 := Lib.hid hs1
        have HS2 := Lib.hid hs2
        have i0 : (0 : Int) ≤ (k : Int) := by omega
        have i1 : (k : Int) < (n : Int) := by omega
        have hwi : IntKind.i8.wrap y = y := IntWalk.i8_in _ (by omega)
        clear ga2 ga4 hdr hv hy hs1 hs2 hS
        go_wp2_with (first | (go_at_call 26; refine (at_nat _ _ _ _ (by omega)).mono ?_; rintro r1 w' ⟨rfl, rfl⟩) | (go_at_call 25; refine (chance_any _ _ _ _).mono ?_; rintro r1 w' ⟨rfl, q2, rfl⟩))
        obtain ⟨w9, hw9⟩ : ∃ w9, w9 = wq.drewN (q + q2) := ⟨_, rfl⟩
        have gb9 : w9.cell? ⟨g, 2, none⟩ = some (.slice (some ⟨mg, 0, none⟩) n mc) := by rw [hw9]; exact gb2
        have gk9 : w9.cell? ⟨mg, k, none⟩ = some (.int .i8 y0) := by rw [hw9]; exact gk
        have gf9 : w9.frozen? ⟨mg, k, none⟩ = false := by rw [hw9]; exact gf
        have HS1 : Hid ((w9.setCell ⟨mg, k, none⟩ (.int .i8 y)).ownsRow (L 10) 52 1 (.slice (some ⟨mg, 0, none⟩) n mc) n (kv .i8 (P ++ [y] ++ S'))) := Lib.hid (by rw [hw9]; exact HS1.out)
        have HS2 : Hid (w4.grownBy (w9.setCell ⟨mg, k, none⟩ (.int .i8 y)) (some mg)) := Lib.hid (by rw [hw9]; exact grown_trans (grown_drewN' HGR.out (q + q2)) (grown_set _ _ _ _))
        rw [← hw9]
        clear hw9 ga gb2 gk gf
        refine wp_region_still_tail 8 (by kernel_rfl) (by kernel_rfl) ?_
        simp only [List.take_succ_cons, List.take_zero, List.drop_succ_cons, List.drop_zero]
        still_step
        still_step
        still_step
        still_step
        still_step
        still_call (clamp_is _ _ _ _ HY.out)
        still_step
        still_step
        refine wpStill_nil ?_
        go_wp2
        go_roundw
        case rel => exact ⟨k + 1, P ++ [y], S', by go_num, by omega, by simp [HP.out], hSl, HNX.out, HS1.out, _, 1, HS2.out, rfl⟩
        case measure => simp [intOf]; omega
      · have hkn : k = n := by omega
        subst hkn
        have hPe : P = smallFrom x z s r 0 A := by
          have := HPS.out
          rw [← HN.out, List.drop_length, smallFrom, List.append_nil] at this
          exact this
        have hSe : S = [] := List.eq_nil_of_length_eq_zero (by omega)
        subst hSe
        have hb4 : wq.heap[g]? = some (.cells #[.slice da D.length dc, .int .i64 (e + z), .slice (some ⟨mg, 0, none⟩) k mc] 25 (0, 0)) := by
          rw [HGR.out.block g (Array.getElem?_eq_some_iff.1 HB4.out).1 (by intro e; cases e; omega)]; exact HB4.out
        have hb8 : wq.heap[w.heap.size + 1]? = some (.cells #[.slice none 0 0, .int .i64 0, .slice none 0 0] 25 (0, 0)) := by
          have h1 := (HB24.out.block (w.heap.size + 1) (by omega)).trans HB82.out
          rw [HGR.out.block _ (by omega) (by intro e; cases e; omega)]; exact h1
        have t0 : wq.cell? ⟨g, 0, none⟩ = some (.slice da D.length dc) := cell_at hb4 rfl
        have t1 : wq.cell? ⟨g, 1, none⟩ = some (.int .i64 (e + z)) := cell_at hb4 rfl
        have t2 : wq.cell? ⟨g, 2, none⟩ = some (.slice (some ⟨mg, 0, none⟩) k mc) := cell_at hb4 rfl
        have s0 : wq.cell? ⟨w.heap.size + 1, 0, none⟩ = some (.slice none 0 0) := cell_at hb8 rfl
        have s1 : wq.cell? ⟨w.heap.size + 1, 1, none⟩ = some (.int .i64 0) := cell_at hb8 rfl
        have s2 : wq.cell? ⟨w.heap.size + 1, 2, none⟩ = some (.slice none 0 0) := cell_at hb8 rfl
        have sf := free_at hb8
        have hgs := grown_set3 (wq.drewN q) (w.heap.size + 1) (.slice da D.length dc) (.int .i64 (e + z)) (.slice (some ⟨mg, 0, none⟩) k mc)
        have hbw : Below w.heap.size w wq := HBW4.out.grown HGR.out HBW4.out.size (by intro j hj; cases hj; omega)
        have ho2 := (HO2.out.kept HGR.out (.inr (fun e => (HDM.out _ e).1 rfl)))
        have HGS := Lib.hid hgs
        have HBW := Lib.hid hbw
        have HO2' := Lib.hid ho2
        clear hb4 hb8 hgs hbw ho2
        go_wp2
        refine bodyPost_ret (v := .tuple #[.agg #[.slice da D.length dc, .int .i64 (e + z), .slice (some ⟨mg, 0, none⟩) k mc], .int .i64 0]) (by simp [results, Try.results46, go_sem, s0, s1, s2]) rfl ?_
        refine ⟨_, rfl, ⟨_, _, rfl, ?_, ?_, ?_, ?_, ?_, ?_, ?_, ?_⟩, ?_⟩
        · exact (owned_drewN (owned_down HO2'.out (by omega)) q).kept HGS.out (.inr (fun e => by have := HL2.out _ e; omega))
        · rw [show (Tn.mk D (e + z) (smallFrom x z s r 0 A)).data.length = k from by rw [smallFrom_len]; exact HN.out]
          have := (owned_drewN (owned_down HOW.out (show w.heap.size ≤ L 10 by omega)) q).kept HGS.out (.inr (fun e => by simp [Value.ownBlock] at e; omega))
          rw [hPe, List.append_nil] at this
          exact this
        · intro q hq e
          simp only [Value.ownBlock, Option.some.injEq] at e
          exact (HDM.out q hq).1 e.symm
        · exact HDF.out.1
        · exact fits_i8_iff.2 (fun y hy => by have := smallFrom_in x z s r hx A 0 y hy; omega)
        · have := expB_in HE.out
          simp [Lit.wf, IntKind.min, IntKind.max, IntKind.signed, IntKind.bits]
          omega
        · exact HDF.out.2
        · rw [show (Tn.mk D (e + z) (smallFrom x z s r 0 A)).data.length = k from by rw [smallFrom_len]; exact HN.out]
          unfold maxLen
          omega
        · exact (below_drewN' HBW.out q).grown HGS.out (below_drewN' HBW.out q).size (by intro j hj; cases hj; omega)
end Go.Proofs.Ytekokhlldcmjfaa
