/- What Perm, the document's own Perm, and SameInts answer: slices in new memory. -/
import Derived.Test.YtofoilmepddmaaaPrngLaws
import Derived.RegionTactic
import Derived.ChangeAlike
import Derived.Deep.QuietTactic
import Derived.BigQuiet
namespace Go.Proofs.Ytofoilmepddmaaa
open Go.RowKit
set_option maxHeartbeats 1000000
/-- Numbers as values. -/
abbrev iv (l : List Int) : List Value := l.map (Value.int .i64)
def swapL (l : List Int) (i j : Nat) : List Int := (l.set i (l.getD j 0)).set j (l.getD i 0)
theorem swapL_len (l : List Int) (i j : Nat) : (swapL l i j).length = l.length := by simp [swapL]
/-- The exchanges of the page, from the ith place down to the first. -/
def permDown (a b : BitVec 64) : Nat → List Int → List Int
  | 0, l => l
  | i + 1, l => permDown a b i (swapL l (i + 1) (belowB a b (BitVec.ofInt 64 ((i : Int) + 1)) ((i : Int) + 1 + 1)).toNat)
def iota (n : Nat) : List Int := (List.range n).map (fun (x : Nat) => (x : Int))
def permL (a b : BitVec 64) (n : Nat) : List Int := permDown a b (n - 1) (iota n)
theorem iv_getD (l : List Int) (i : Nat) (h : i < l.length) : (iv l)[i]? = some (.int .i64 (l.getD i 0)) := by
  rw [List.getElem?_map, List.getD_eq_getElem?_getD, List.getElem?_eq_getElem h]; rfl
theorem iv_set (l : List Int) (i : Nat) (x : Int) : (iv l).set i (.int .i64 x) = iv (l.set i x) := by simp [iv, List.map_set]
theorem iota_of (l : List Int) (n : Nat) (h : l.length = n) (hk : ∀ i, i < n → l.getD i 0 = (i : Int)) : l = iota n := by
  apply List.ext_getElem
  · simp [iota, h]
  · intro i h1 h2
    have := hk i (by omega)
    rw [List.getD_eq_getElem?_getD, List.getElem?_eq_getElem h1] at this
    simp [iota]
    exact this
theorem getD_set (l : List Int) (i j : Nat) (x : Int) (h : i < l.length) : (l.set i x).getD j 0 = if i = j then x else l.getD j 0 := by
  rw [List.getD_eq_getElem?_getD, List.getElem?_set, List.getD_eq_getElem?_getD]
  by_cases e : i = j
  · rw [if_pos e, if_pos h, if_pos e]; rfl
  · rw [if_neg e, if_neg e]
theorem below_int (a b : BitVec 64) (i n : Int) (h0 : 0 ≤ i) (h1 : i ≤ 18446744073709551615) (w : World) :
    Calls Try.prog 19 #[u64 a, u64 b, .int .u64 i, .int .i64 n] w fun e w' => e = .returned (.int .i64 (belowB a b (BitVec.ofInt 64 i) n)) ∧ w = w' := by
  have := below_any a b (BitVec.ofInt 64 i) n w
  rwa [show u64 (BitVec.ofInt 64 i) = .int .u64 i from by rw [u64, N_of i h0 h1]] at this
theorem rbelow_int (a b : BitVec 64) (i n : Int) (h0 : 0 ≤ i) (h1 : i ≤ 18446744073709551615) (w : World) :
    Calls Try.prog 20 #[u64 a, u64 b, .int .u64 i, .int .i64 n] w fun e w' => e = .returned (.int .i64 (belowB a b (BitVec.ofInt 64 i) n)) ∧ w = w' := by
  have := rbelow_any a b (BitVec.ofInt 64 i) n w
  rwa [show u64 (BitVec.ofInt 64 i) = .int .u64 i from by rw [u64, N_of i h0 h1]] at this
theorem i29 : (Try.prog.info? 3).map (fun i => (i.zero, i.size, i.bytes)) = some (some (.int .i64 0), 1, 8) := by kernel_rfl
theorem perm_in (a b : BitVec 64) (n : Nat) (h1 : 1 ≤ n) (h2 : n ≤ 65536) (w : World) :
    Calls Try.prog 23 #[u64 a, u64 b, .int .i64 n] w fun e w' => ∃ v, e = .returned v ∧ w'.ownsRow w.heap.size 3 1 v n (iv (permL a b n)) ∧ Below w.heap.size w w' := by
  obtain ⟨i0, hi, hz0, hz1, hz2⟩ := info_parts i29
  obtain ⟨wo, rfl⟩ : ∃ wo : World, wo = w := ⟨_, rfl⟩
  go_enter Try.func23, Try.ntmps23
  go_wp2_with (at_make; refine wpList_make_full _ rfl _ _ 29 rfl wo.heap.size 3 i0 (.int .i64 0) 1 Try.underlying29 hi hz0 hz1 _ _ _ _ n rfl rfl rfl rfl ?b1 ?b2 ?b3 ?_)
  case b1 => rw [hz2]; omega
  case b2 => unfold maxLen; omega
  case b3 => omega
  intro w1 hown hgrow
  have hb1 : Below wo.heap.size wo w1 := (Below.refl _ _).grown hgrow (Nat.le_refl _) (by simp)
  go_wp2
  go_loopw [21] (fun c wr => ∃ (k : Nat) (l : List Int), c = .int .i64 k ∧ k ≤ n ∧ l.length = n ∧ (∀ i, i < k → l.getD i 0 = (i : Int)) ∧ wr.ownsRow wo.heap.size 3 1 (.slice (some ⟨wo.heap.size, 0, none⟩) n n) n (iv l) ∧ Below wo.heap.size wo wr) (fun c _ => n - (intOf c).toNat)
  case atStart =>
    refine ⟨0, List.replicate n 0, rfl, by omega, by simp, by intro i hi; omega, ?_, hb1⟩
    have : (madeCells #[Value.int .i64 0] n).toList = iv (List.replicate n 0) := by simp [iv, toList_madeCells_one]
    rw [this] at hown
    exact hown
  case round =>
    obtain ⟨k, l, rfl, hk, hl, hlk, howr, hbr⟩ := hrel
    have HLK := Lib.hid hlk
    clear hlk hown hgrow hb1
    by_cases hlt : k < n
    · have hc := (howr.cellAt k (by omega)).trans (iv_getD l k (by omega))
      have hf := howr.frozenAt k
      have hst := howr.stored k (.int .i64 (k : Int))
      rw [iv_set] at hst
      obtain ⟨hs1, hs2⟩ := hst
      have hb2 := hbr.grown hs2 (by have := hbr.size; omega) (by simp)
      go_wp2
      go_roundw
      case rel => exact ⟨k + 1, l.set k k, by go_num, by omega, by simp [hl], by
        intro i hi
        rw [getD_set _ _ _ _ (by omega)]
        split
        · subst_vars; rfl
        · exact HLK.out i (by omega), hs1, hb2⟩
      case measure => simp [intOf]; omega
    · have hkn : k = n := by omega
      subst hkn
      have hio := iota_of l k hl HLK.out
      subst hio
      have hP : Hid (permDown a b (k - 1) (iota k) = permL a b k) := Lib.hid rfl
      go_wp2
      go_loopw [9] (fun c wq => ∃ (i : Nat) (l : List Int), c = .int .i64 i ∧ i < k ∧ l.length = k ∧ permDown a b i l = permL a b k ∧ wq.ownsRow wo.heap.size 3 1 (.slice (some ⟨wo.heap.size, 0, none⟩) k k) k (iv l) ∧ Below wo.heap.size wo wq) (fun c _ => (intOf c).toNat)
      case atStart =>
        exact ⟨k - 1, iota k, by first | rfl | (congr 1; omega), by omega, hl, hP.out, howr, hbr⟩
      case round =>
        obtain ⟨i, l, rfl, hik, hll, hpl, how2, hb2⟩ := hrel
        obtain ⟨w2, rfl⟩ : ∃ w2 : World, w2 = wr := ⟨_, rfl⟩
        have HPL := Lib.hid hpl
        clear hpl
        by_cases hi0 : i = 0
        · subst hi0
          go_wp2
          go_ret
          exact ⟨_, rfl, by have := HPL.out; rw [permDown] at this; rw [← this]; exact how2, hb2⟩
        · obtain ⟨t, rfl⟩ : ∃ t, i = t + 1 := ⟨i - 1, by omega⟩
          have hbl := belowB_lo a b (BitVec.ofInt 64 ((t : Int) + 1)) ((t : Int) + 1 + 1) (by omega) (by omega)
          obtain ⟨J, hJ⟩ : ∃ J : Nat, belowB a b (BitVec.ofInt 64 ((t : Int) + 1)) ((t : Int) + 1 + 1) = J := ⟨(belowB a b (BitVec.ofInt 64 ((t : Int) + 1)) ((t : Int) + 1 + 1)).toNat, by omega⟩
          rw [hJ] at hbl
          have HJ := Lib.hid hJ
          clear hJ
          have hJ1 : J < k := by omega
          have HN : Hid (permDown a b t (swapL l (t + 1) J) = permL a b k) := Lib.hid (by
            have := HPL.out; rw [permDown, HJ.out, Int.toNat_natCast] at this; exact this)
          have hc1 := (how2.cellAt (t + 1) (by omega)).trans (iv_getD l (t + 1) (by omega))
          have hc2 := (how2.cellAt J (by omega)).trans (iv_getD l J (by omega))
          obtain ⟨x, hx⟩ : ∃ x, l.getD (t + 1) 0 = x := ⟨_, rfl⟩
          obtain ⟨y, hy⟩ : ∃ y, l.getD J 0 = y := ⟨_, rfl⟩
          rw [hx] at hc1
          rw [hy] at hc2
          obtain ⟨v', hy'⟩ := cell?_setCell_some (w := w2) (p := ⟨wo.heap.size, t + 1, none⟩) (x := .int .i64 y) (q := ⟨wo.heap.size, J, none⟩) (v := .int .i64 y) hc2
          have hs1 := how2.stored (t + 1) (.int .i64 y)
          rw [iv_set] at hs1
          have hs2 := hs1.1.stored J (.int .i64 x)
          rw [iv_set] at hs2
          have hsw : swapL l (t + 1) J = (l.set (t + 1) y).set J x := by unfold swapL; rw [hx, hy]
          rw [hsw] at HN
          have hb3 := (hb2.grown hs1.2 (by have := hb2.size; omega) (by simp)).grown hs2.2 (by have := (hb2.grown hs1.2 (by have := hb2.size; omega) (by simp)).size; omega) (by simp)
          have ho3 := hs2.1
          clear hx hy hs1 hs2 hsw
          have hf1 := how2.frozenAt (t + 1)
          have hf2 := how2.frozenAt J
          go_wp2_with (go_at_call 19; refine (below_int _ _ _ _ (by omega) (by omega) _).mono ?_; rintro e w' ⟨rfl, rfl⟩; rw [HJ.out])
          go_region
          go_wp2
          go_roundw
          case rel => exact ⟨t, _, by go_num, by omega, by simp [hll], HN.out, ho3.drew, hb3.drew⟩
          case measure => simp [intOf]
/-- What is owned and not empty lies at the head of a row. -/
theorem own_shape {w : World} {base : Nat} {e : TypeId} {size : Nat} {v : Value} {n : Nat} {xs : List Value} (h : w.ownsRow base e size v n xs) (hn : 0 < n) :
    ∃ g cap, v = .slice (some ⟨g, 0, none⟩) n cap ∧ base ≤ g ∧ g < w.heap.size ∧ n ≤ cap := by
  rcases h.2 with ⟨_, h0⟩ | ⟨g, cap, cur, rfl, hb, hg, hc, _⟩
  · omega
  · exact ⟨g, cap, rfl, hb, (Array.getElem?_eq_some_iff.1 hg).1, hc⟩
theorem iota_succ (k : Nat) : iv (iota k) ++ [Value.int .i64 (k : Int)] = iv (iota (k + 1)) := by
  simp [iv, iota, List.range_succ]
theorem iota_len (k : Nat) : (iota k).length = k := by simp [iota]
theorem rperm_in (a b : BitVec 64) (n : Nat) (h1 : 1 ≤ n) (h2 : n ≤ 65536) (w : World) :
    Calls Try.prog 24 #[u64 a, u64 b, .int .i64 n] w fun e w' => ∃ v, e = .returned v ∧ w'.ownsRow w.heap.size 3 1 v n (iv (permL a b n)) ∧ Below w.heap.size w w' := by
  obtain ⟨i0, hi, hz0, hz1, hz2⟩ := info_parts i29
  obtain ⟨wo, rfl⟩ : ∃ wo : World, wo = w := ⟨_, rfl⟩
  go_enter Try.func24, Try.ntmps24
  go_wp2
  go_loopw [7, 18] (fun v c wr => ∃ (k : Nat), c = .int .i64 k ∧ k ≤ n ∧ wr.ownsRow wo.heap.size 3 1 v k (iv (iota k)) ∧ Below wo.heap.size wo wr) (fun _ c _ => n - (intOf c).toNat)
  case atStart => exact ⟨0, rfl, by omega, World.ownsRow_nil _ _ _ _, Below.refl _ _⟩
  case round =>
    obtain ⟨k, rfl, hk, howr, hbr⟩ := hrel
    obtain ⟨w1, rfl⟩ : ∃ w1 : World, w1 = wr := ⟨_, rfl⟩
    have hsz := hbr.size
    by_cases hlt : k < n
    · go_wp2_with (at_builtin; refine wpList_append_own _ rfl _ _ 29 rfl wo.heap.size 3 i0 (.int .i64 0) 1 8 Try.underlying29 hi hz0 hz1 hz2 rfl (by decide) _ _ _ rfl (howr.alloc _) ⟨w1.heap.size, 0, none⟩ 1 1 [.int .i64 k] rfl rfl ?c1 ?c2 ?c3 ?c4 ?c5 ?_)
      case c1 => exact cell_one_new _ _ _
      case c2 => intro u hu; simp at hu; subst hu; rfl
      case c3 => unfold maxLen; omega
      case c4 => omega
      case c5 => simp; omega
      intro v' w2 hown2 hgrow2 _
      rw [iota_succ] at hown2
      have hb2 := ((hbr.alloc hsz _).grown hgrow2 (by simp; omega) (fun k hk => (howr.lt k hk).1))
      go_wp2
      go_roundw
      case rel => exact ⟨k + 1, by go_num, by omega, hown2, hb2⟩
      case measure => simp [intOf]; omega
    · have hkn : k = n := by omega
      subst hkn
      obtain ⟨g, cap, rfl, hgb, _, hcap⟩ := own_shape howr (by omega)
      have hP : Hid (permDown a b (k - 1) (iota k) = permL a b k) := Lib.hid rfl
      go_wp2
      go_loopw [9] (fun c wq => ∃ (i : Nat) (l : List Int), c = .int .i64 i ∧ i < k ∧ l.length = k ∧ permDown a b i l = permL a b k ∧ wq.ownsRow wo.heap.size 3 1 (.slice (some ⟨g, 0, none⟩) k cap) k (iv l) ∧ Below wo.heap.size wo wq) (fun c _ => (intOf c).toNat)
      case atStart =>
        exact ⟨k - 1, iota k, by first | rfl | (congr 1; omega), by omega, iota_len k, hP.out, howr, hbr⟩
      case round =>
        obtain ⟨i, l, rfl, hik, hll, hpl, how2, hb2⟩ := hrel
        obtain ⟨w2, rfl⟩ : ∃ w2 : World, w2 = wr := ⟨_, rfl⟩
        have HPL := Lib.hid hpl
        clear hpl
        by_cases hi0 : i = 0
        · subst hi0
          go_wp2
          go_ret
          exact ⟨_, rfl, by have := HPL.out; rw [permDown] at this; rw [← this]; exact how2, hb2⟩
        · obtain ⟨t, rfl⟩ : ∃ t, i = t + 1 := ⟨i - 1, by omega⟩
          have hbl := belowB_lo a b (BitVec.ofInt 64 ((t : Int) + 1)) ((t : Int) + 1 + 1) (by omega) (by omega)
          obtain ⟨J, hJ⟩ : ∃ J : Nat, belowB a b (BitVec.ofInt 64 ((t : Int) + 1)) ((t : Int) + 1 + 1) = J := ⟨(belowB a b (BitVec.ofInt 64 ((t : Int) + 1)) ((t : Int) + 1 + 1)).toNat, by omega⟩
          rw [hJ] at hbl
          have HJ := Lib.hid hJ
          clear hJ
          have hJ1 : J < k := by omega
          have HN : Hid (permDown a b t (swapL l (t + 1) J) = permL a b k) := Lib.hid (by
            have := HPL.out; rw [permDown, HJ.out, Int.toNat_natCast] at this; exact this)
          have hc1 := (how2.cellAt (t + 1) (by omega)).trans (iv_getD l (t + 1) (by omega))
          have hc2 := (how2.cellAt J (by omega)).trans (iv_getD l J (by omega))
          obtain ⟨x, hx⟩ : ∃ x, l.getD (t + 1) 0 = x := ⟨_, rfl⟩
          obtain ⟨y, hy⟩ : ∃ y, l.getD J 0 = y := ⟨_, rfl⟩
          rw [hx] at hc1
          rw [hy] at hc2
          obtain ⟨v', hy'⟩ := cell?_setCell_some (w := w2) (p := ⟨g, t + 1, none⟩) (x := .int .i64 y) (q := ⟨g, J, none⟩) (v := .int .i64 y) hc2
          have hs1 := how2.stored (t + 1) (.int .i64 y)
          rw [iv_set] at hs1
          have hs2 := hs1.1.stored J (.int .i64 x)
          rw [iv_set] at hs2
          have hsw : swapL l (t + 1) J = (l.set (t + 1) y).set J x := by unfold swapL; rw [hx, hy]
          rw [hsw] at HN
          have hb3 := (hb2.grown hs1.2 (by have := hb2.size; omega) (by intro k hk; cases hk; exact hgb)).grown hs2.2 (by have := (hb2.grown hs1.2 (by have := hb2.size; omega) (by intro k hk; cases hk; exact hgb)).size; omega) (by intro k hk; cases hk; exact hgb)
          have ho3 := hs2.1
          clear hx hy hs1 hs2 hsw
          have hf1 := how2.frozenAt (t + 1)
          have hf2 := how2.frozenAt J
          go_wp2_with (go_at_call 20; refine (rbelow_int _ _ _ _ (by omega) (by omega) _).mono ?_; rintro e w' ⟨rfl, rfl⟩; rw [HJ.out])
          go_region
          go_wp2
          go_roundw
          case rel => exact ⟨t, _, by go_num, by omega, by simp [hll], HN.out, ho3.drew, hb3.drew⟩
          case measure => simp [intOf]
/-- A slice of one-celled elements reads as a list. -/
def Holds (w : World) (v : Value) (xs : List Value) : Prop :=
  ∃ ao cap, v = .slice ao xs.length cap ∧ (xs = [] ∨ ∃ b off, ao = some ⟨b, off, none⟩ ∧ ∀ i u, xs[i]? = some u → w.cell? ⟨b, off + i, none⟩ = some u)
theorem Holds.drewN {w : World} {v : Value} {xs : List Value} (h : Holds w v xs) (n : Nat) : Holds (w.drewN n) v xs := h
theorem holds_own {w : World} {base : Nat} {e : TypeId} {v : Value} {n : Nat} {xs : List Value} (h : w.ownsRow base e 1 v n xs) : Holds w v xs := by
  have hl : xs.length = n := by have := h.1; omega
  rcases h.2 with ⟨rfl, h0⟩ | ⟨g, cap, cur, rfl, hb, hg, hc, _⟩
  · exact ⟨none, 0, by rw [hl, h0], .inl (List.eq_nil_of_length_eq_zero (by omega))⟩
  · refine ⟨_, cap, by rw [hl], .inr ⟨g, 0, rfl, ?_⟩⟩
    intro i u hu
    have hi : i < xs.length := (List.getElem?_eq_some_iff.1 hu).1
    rw [Nat.zero_add]
    exact (h.cellAt i (by omega)).trans hu
theorem Holds.below {w w' : World} {v : Value} {xs : List Value} (h : Holds w v xs) (hb : Below w.heap.size w w') : Holds w' v xs := by
  obtain ⟨ao, cap, rfl, h⟩ := h
  refine ⟨ao, cap, rfl, ?_⟩
  rcases h with h | ⟨b, off, rfl, h⟩
  · exact .inl h
  · refine .inr ⟨b, off, rfl, fun i u hu => ?_⟩
    have hc := h i u hu
    rw [hb.cell (p := ⟨b, off + i, none⟩) (World.block_lt_of_cell? w _ hc)]
    exact hc
theorem sameInts_any (v1 v2 : Value) (l1 l2 : List Int) (w : World) (h1 : Holds w v1 (iv l1)) (h2 : Holds w v2 (iv l2)) (hm1 : l1.length ≤ maxLen) (hm2 : l2.length ≤ maxLen) :
    Calls Try.prog 22 #[v1, v2] w fun e w' => e = .returned (.bool (l1 == l2)) ∧ ∃ n, w' = w.drewN n := by
  obtain ⟨a1, c1, rfl, h1⟩ := h1
  obtain ⟨a2, c2, rfl, h2⟩ := h2
  unfold maxLen at hm1 hm2
  simp only [List.length_map] at h1 h2 ⊢
  by_cases hl : l1.length = l2.length
  · obtain ⟨n, hn1, hn2⟩ : ∃ n, l1.length = n ∧ l2.length = n := ⟨_, rfl, hl.symm⟩
    rw [hn1] at hm1 hl ⊢
    rw [hn2] at hm2 ⊢
    clear hl
    obtain ⟨wo, rfl⟩ : ∃ wo : World, wo = w := ⟨_, rfl⟩
    go_enter Try.func22, Try.ntmps22
    go_wp2
    go_loopw [13] (fun c wr => ∃ k : Nat, c = .int .i64 k ∧ k ≤ n ∧ l1.take k = l2.take k ∧ ∃ m, wr = wo.drewN m) (fun c _ => n - (intOf c).toNat)
    case atStart => exact ⟨0, rfl, by omega, by simp, 0, rfl⟩
    case round =>
      obtain ⟨k, rfl, hk, hkk, m, rfl⟩ := hrel
      have HK := Lib.hid hkk
      clear hkk
      by_cases hlt : k < n
      · have e1 : (iv l1)[k]? = some (.int .i64 (l1.getD k 0)) := iv_getD l1 k (by omega)
        have e2 : (iv l2)[k]? = some (.int .i64 (l2.getD k 0)) := iv_getD l2 k (by omega)
        rcases h1 with h1 | ⟨b1, o1, rfl, h1⟩
        · simp [h1] at e1
        rcases h2 with h2 | ⟨b2, o2, rfl, h2⟩
        · simp [h2] at e2
        have g1 := h1 k _ e1
        have g2 := h2 k _ e2
        clear h1 h2 e1 e2
        obtain ⟨x, hx⟩ : ∃ x, l1.getD k 0 = x := ⟨_, rfl⟩
        obtain ⟨y, hy⟩ : ∃ y, l2.getD k 0 = y := ⟨_, rfl⟩
        rw [hx] at g1
        rw [hy] at g2
        have HX := Lib.hid hx
        have HY := Lib.hid hy
        clear hx hy
        by_cases hxy : x = y
        · have HT : Hid (l1.take (k + 1) = l2.take (k + 1)) := Lib.hid (by
            rw [List.take_add_one, List.take_add_one, HK.out]
            have a := HX.out
            have b := HY.out
            rw [List.getD_eq_getElem?_getD, List.getElem?_eq_getElem (by omega)] at a b
            rw [List.getElem?_eq_getElem (by omega), List.getElem?_eq_getElem (by omega)]
            simp only [Option.getD_some] at a b
            rw [a, b, hxy])
          subst hxy
          have hne : (x != x) = false := by simp
          go_wp2
          go_quiet (fail)
          go_wp2
          go_roundw
          case rel => exact ⟨k + 1, by go_num, by omega, HT.out, _, rfl⟩
          case measure => simp [intOf]; omega
        · have HF : Hid ((l1 == l2) = false) := Lib.hid (by
            rw [beq_eq_false_iff_ne]; intro e; apply hxy; rw [← HX.out, ← HY.out, e])
          have hne : (x != y) = true := by rw [bne_iff_ne]; exact hxy
          clear hxy
          go_wp2
          go_quiet (fail)
          go_wp2
          go_ret
          exact ⟨ret_bool HF.out.symm, _, by rw [World.drewN_drewN]⟩
      · have hkn : k = n := by omega
        subst hkn
        go_wp2
        go_ret
        exact ⟨ret_bool (by have := HK.out; rw [← hn1, List.take_length, hn1, ← hn2, List.take_length] at this; rw [this]; simp), _, rfl⟩
  · have hf : (l1 == l2) = false := by rw [beq_eq_false_iff_ne]; intro e; exact hl (by rw [e])
    rw [hf]
    have hne : ((l1.length : Int) != (l2.length : Int)) = true := by rw [bne_iff_ne]; omega
    clear hl
    go_enter Try.func22, Try.ntmps22
    go_wp2
    go_ret
    exact ⟨rfl, 0, rfl⟩
theorem permDown_len (a b : BitVec 64) (i : Nat) (l : List Int) : (permDown a b i l).length = l.length := by
  induction i generalizing l with
  | zero => rfl
  | succ i ih => rw [permDown, ih, swapL_len]
theorem permL_len (a b : BitVec 64) (n : Nat) : (permL a b n).length = n := by unfold permL; rw [permDown_len, iota_len]
def permZ (a b : BitVec 64) (n : Int) : List Int := if n < 1 ∨ 65536 < n then [] else permL a b n.toNat
theorem permZ_len (a b : BitVec 64) (n : Int) : (permZ a b n).length ≤ 65536 := by
  unfold permZ
  split
  · simp
  · rw [permL_len]; omega
theorem permZ_max (a b : BitVec 64) (n : Int) : (permZ a b n).length ≤ maxLen := by have := permZ_len a b n; unfold maxLen; omega
/-- A call hands back a slice in new memory that reads as xs; of what was there nothing turns. -/
def Makes (w : World) (e : TypeId) (xs : List Value) (r : Ending) (w' : World) : Prop := ∃ v, r = .returned v ∧ w'.ownsRow w.heap.size e 1 v xs.length xs ∧ Below w.heap.size w w'
theorem perm_any (a b : BitVec 64) (n : Int) (w : World) : Calls Try.prog 23 #[u64 a, u64 b, .int .i64 n] w (Makes w 3 (iv (permZ a b n))) := by
  unfold permZ
  by_cases h : n < 1 ∨ 65536 < n
  · rw [if_pos h]
    have key : Calls Try.prog 23 #[u64 a, u64 b, .int .i64 n] w fun e w' => e = .returned (.slice none 0 0) ∧ w = w' := by
      rcases h with h | h
      · go_enter Try.func23, Try.ntmps23
        go_wp2
        go_ret
        exact ⟨rfl, rfl⟩
      · have h1 : ¬ n < 1 := by omega
        go_enter Try.func23, Try.ntmps23
        go_wp2
        go_ret
        exact ⟨rfl, rfl⟩
    exact key.mono fun e w' ⟨he, hw⟩ => ⟨_, he, by subst hw; exact World.ownsRow_nil _ _ _ _, by subst hw; exact Below.refl _ _⟩
  · rw [if_neg h]
    have := perm_in a b n.toNat (by omega) (by omega) w
    rw [Int.toNat_of_nonneg (by omega)] at this
    exact this.mono fun e w' ⟨v, he, ho, hb⟩ => ⟨v, he, by rw [List.length_map, permL_len]; exact ho, hb⟩
theorem rperm_any (a b : BitVec 64) (n : Int) (w : World) : Calls Try.prog 24 #[u64 a, u64 b, .int .i64 n] w (Makes w 3 (iv (permZ a b n))) := by
  unfold permZ
  by_cases h : n < 1 ∨ 65536 < n
  · rw [if_pos h]
    have key : Calls Try.prog 24 #[u64 a, u64 b, .int .i64 n] w fun e w' => e = .returned (.slice none 0 0) ∧ w = w' := by
      rcases h with h | h
      · go_enter Try.func24, Try.ntmps24
        go_wp2
        go_ret
        exact ⟨rfl, rfl⟩
      · have h1 : ¬ n < 1 := by omega
        go_enter Try.func24, Try.ntmps24
        go_wp2
        go_ret
        exact ⟨rfl, rfl⟩
    exact key.mono fun e w' ⟨he, hw⟩ => ⟨_, he, by subst hw; exact World.ownsRow_nil _ _ _ _, by subst hw; exact Below.refl _ _⟩
  · rw [if_neg h]
    have := rperm_in a b n.toNat (by omega) (by omega) w
    rw [Int.toNat_of_nonneg (by omega)] at this
    exact this.mono fun e w' ⟨v, he, ho, hb⟩ => ⟨v, he, by rw [List.length_map, permL_len]; exact ho, hb⟩
end Go.Proofs.Ytofoilmepddmaaa
