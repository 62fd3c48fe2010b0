/- The laws of prng over permutations: PrngPerms, PrngEach, PrngSwaps. -/
import Derived.Test.YtofoilmepddmaaaPerm
namespace Go.Proofs.Ytofoilmepddmaaa
open Go.RowKit
set_option maxHeartbeats 1000000
theorem prngPerms_any (a b : BitVec 64) (n : Int) (w : World) :
    Calls Try.prog 4 #[u64 a, u64 b, .int .i64 n] w fun e w' => e = .returned (.bool true) ∧ Below w.heap.size w w' := by
  obtain ⟨wo, rfl⟩ : ∃ wo : World, wo = w := ⟨_, rfl⟩
  go_enter Try.func4, Try.ntmps4
  go_wp2_with fail
  all_goals (
    refine (perm_any _ _ _ _).mono ?_
    rintro e w1 ⟨v1, rfl, ho1, hb1⟩
    go_wp2_with fail
    refine (rperm_any _ _ _ _).mono ?_
    rintro e w2 ⟨v2, rfl, ho2, hb2⟩
    have g1 := (holds_own ho1).below hb2
    have g2 := holds_own ho2
    have hb := hb1.trans (hb2.mono hb1.size)
    clear ho1 ho2
    go_wp2_with fail
    refine (sameInts_any _ _ _ _ _ g1 g2 (permZ_max _ _ _) (permZ_max _ _ _)).mono ?_
    rintro e w' ⟨rfl, m, rfl⟩
    rw [beq_self_eq_true]
    go_wp2_with (go_at_call 21; refine (awake1_any _).mono ?_; rintro e w' ⟨rfl, rfl⟩)
    go_ret
    exact ⟨rfl, below_drewN hb _⟩)
/-! ### each number once -/
theorem swapL_getD (l : List Int) (i j k : Nat) (hi : i < l.length) (hj : j < l.length) :
    (swapL l i j).getD k 0 = l.getD (if k = j then i else if k = i then j else k) 0 := by
  unfold swapL
  by_cases h1 : j = k
  · subst h1
    rw [getD_set _ _ _ _ (by simpa using hj), if_pos rfl, if_pos rfl]
  · rw [getD_set _ _ _ _ (by simpa using hj), if_neg h1, if_neg (fun e => h1 e.symm)]
    by_cases h2 : i = k
    · subst h2; rw [getD_set _ _ _ _ hi, if_pos rfl, if_pos rfl]
    · rw [getD_set _ _ _ _ hi, if_neg h2, if_neg (fun e => h2 e.symm)]
/-- 0 to n - 1, each once. -/
def Each (n : Nat) (l : List Int) : Prop := l.length = n ∧ (∀ i, i < n → 0 ≤ l.getD i 0 ∧ l.getD i 0 < n) ∧ ∀ i j, i < n → j < n → l.getD i 0 = l.getD j 0 → i = j
theorem each_iota (n : Nat) : Each n (iota n) := by
  have h : ∀ i, i < n → (iota n).getD i 0 = (i : Int) := by
    intro i hi
    rw [List.getD_eq_getElem?_getD, List.getElem?_eq_getElem (by rw [iota_len]; exact hi)]
    simp [iota]
  refine ⟨iota_len n, fun i hi => ?_, fun i j hi hj e => ?_⟩
  · rw [h i hi]; omega
  · rw [h i hi, h j hj] at e; omega
theorem each_swap (n : Nat) (l : List Int) (i j : Nat) (hi : i < n) (hj : j < n) (h : Each n l) : Each n (swapL l i j) := by
  obtain ⟨h1, h2, h3⟩ := h
  refine ⟨by rw [swapL_len, h1], fun k hk => ?_, fun k m hk hm e => ?_⟩
  · rw [swapL_getD _ _ _ _ (by omega) (by omega)]
    exact h2 _ (by split <;> (try split) <;> omega)
  · rw [swapL_getD _ _ _ _ (by omega) (by omega), swapL_getD _ _ _ _ (by omega) (by omega)] at e
    have := h3 _ _ (by split <;> (try split) <;> omega) (by split <;> (try split) <;> omega) e
    by_cases a1 : k = j <;> by_cases a2 : m = j <;> by_cases a3 : k = i <;> by_cases a4 : m = i <;> simp_all
theorem belowJ (a b : BitVec 64) (i : Nat) (hi : i < 65536) : (belowB a b (BitVec.ofInt 64 ((i : Int) + 1)) ((i : Int) + 1 + 1)).toNat < i + 2 := by
  have := belowB_lo a b (BitVec.ofInt 64 ((i : Int) + 1)) ((i : Int) + 1 + 1) (by omega) (by omega)
  omega
theorem each_down (a b : BitVec 64) (n i : Nat) (l : List Int) (hi : i < n) (hn : n ≤ 65536) (h : Each n l) : Each n (permDown a b i l) := by
  induction i generalizing l with
  | zero => exact h
  | succ i ih =>
    rw [permDown]
    have := belowJ a b i (by omega)
    exact ih _ (by omega) (each_swap n l _ _ hi (by omega) h)
theorem each_perm (a b : BitVec 64) (n : Nat) (hn : n ≤ 65536) : Each n (permZ a b n) := by
  unfold permZ
  by_cases h : n = 0
  · subst h; exact ⟨rfl, by intro i hi; omega, by intro i j hi; omega⟩
  · rw [if_neg (by omega), Int.toNat_natCast]
    exact each_down a b n (n - 1) _ (by omega) hn (each_iota n)
/-! ### the exchanges undone -/
theorem swap_swap (l : List Int) (i j : Nat) (hi : i < l.length) (hj : j < l.length) : swapL (swapL l i j) i j = l := by
  apply List.ext_getElem
  · rw [swapL_len, swapL_len]
  · intro k h1 h2
    have e : (swapL (swapL l i j) i j).getD k 0 = l.getD k 0 := by
      rw [swapL_getD _ _ _ _ (by rw [swapL_len]; exact hi) (by rw [swapL_len]; exact hj), swapL_getD _ _ _ _ hi hj]
      congr 1
      by_cases a1 : k = j <;> by_cases a2 : k = i <;> simp_all
    rw [List.getD_eq_getElem?_getD, List.getD_eq_getElem?_getD, List.getElem?_eq_getElem h1, List.getElem?_eq_getElem h2] at e
    exact e
def undo (a b : BitVec 64) : Nat → List Int → List Int
  | 0, l => l
  | i + 1, l => swapL (undo a b i l) (i + 1) (belowB a b (BitVec.ofInt 64 ((i : Int) + 1)) ((i : Int) + 1 + 1)).toNat
theorem undo_len (a b : BitVec 64) (i : Nat) (l : List Int) : (undo a b i l).length = l.length := by
  induction i with
  | zero => rfl
  | succ i ih => rw [undo, swapL_len, ih]
theorem undo_down (a b : BitVec 64) (i : Nat) (l : List Int) (hi : i < l.length) (hn : l.length ≤ 65536) : undo a b i (permDown a b i l) = l := by
  induction i generalizing l with
  | zero => rfl
  | succ i ih =>
    have := belowJ a b i (by omega)
    rw [undo, permDown, ih _ (by rw [swapL_len]; omega) (by rw [swapL_len]; exact hn)]
    exact swap_swap l _ _ hi (by omega)
/-! ### PrngSwaps -/
theorem mod_ex (s : Int) (m : Int) (hm : 0 < m) (hm2 : m ≤ 9223372036854775807) : ∃ S : Nat, (IntKind.u64.wrap s).tmod m = (S:Int) ∧ (S : Int) < m := by
  have h1 : 0 ≤ IntKind.u64.wrap s := by rw [IntKind.wrap_u64]; omega
  rw [Int.tmod_eq_emod_of_nonneg h1]
  have h2 := Int.emod_nonneg (IntKind.u64.wrap s) (show m ≠ 0 by omega)
  have h3 := Int.emod_lt_of_pos (IntKind.u64.wrap s) hm
  exact ⟨(IntKind.u64.wrap s % m).toNat, by omega, by omega⟩
theorem iota_getD (n i : Nat) (h : i < n) : (iota n).getD i 0 = (i : Int) := by
  rw [List.getD_eq_getElem?_getD, List.getElem?_eq_getElem (by rw [iota_len]; exact h)]
  simp [iota]
theorem prngSwaps_any (a b : BitVec 64) (n : Int) (w : World) :
    Calls Try.prog 10 #[u64 a, u64 b, .int .i64 n] w fun e w' => e = .returned (.bool true) ∧ Below w.heap.size w w' := by
  obtain ⟨K, hK, hK1⟩ := mod_ex n 100 (by omega) (by omega)
  obtain ⟨wo, rfl⟩ : ∃ wo : World, wo = w := ⟨_, rfl⟩
  have hpz : permZ a b (1 + (K : Int)) = permL a b (K + 1) := by unfold permZ; rw [if_neg (by omega), show (1 + (K : Int)).toNat = K + 1 from by omega]
  have HPZ := Lib.hid hpz
  clear hpz
  go_enter Try.func10, Try.ntmps10
  go_wp2_with fail
  refine (perm_any _ _ _ _).mono ?_
  rintro e w1 ⟨v1, rfl, ho1, hb1⟩
  rw [HPZ.out, List.length_map, permL_len] at ho1
  obtain ⟨g, cap, rfl, hg1, hg2, hcap⟩ := own_shape ho1 (by omega)
  have hundo : Hid (undo a b K (permL a b (K + 1)) = iota (K + 1)) := Lib.hid (by
    unfold permL; rw [show K + 1 - 1 = K from by omega]; exact undo_down a b K _ (by rw [iota_len]; omega) (by rw [iota_len]; omega))
  have hne : (((K : Int) + 1) != 1 + (K : Int)) = false := by simp; omega
  obtain ⟨w3, rfl⟩ : ∃ w3 : World, w3 = w1 := ⟨_, rfl⟩
  go_wp2_with fail
  go_loopw [8] (fun c wr => ∃ (k : Nat), c = .int .i64 ((k : Int) + 1) ∧ k ≤ K ∧ wr.ownsRow wo.heap.size 3 1 (.slice (some ⟨g, 0, none⟩) (K + 1) cap) (K + 1) (iv (undo a b k (permL a b (K + 1)))) ∧ Below wo.heap.size wo wr) (fun c _ => K + 1 - (intOf c).toNat)
  case atStart => exact ⟨0, rfl, by omega, ho1, hb1⟩
  case round =>
    obtain ⟨k, rfl, hk, howr, hbr⟩ := hrel
    obtain ⟨w2, rfl⟩ : ∃ w2 : World, w2 = wr := ⟨_, rfl⟩
    have hun : undo a b (k + 1) (permL a b (K + 1)) = swapL (undo a b k (permL a b (K + 1))) (k + 1) (belowB a b (BitVec.ofInt 64 ((k : Int) + 1)) ((k : Int) + 1 + 1)).toNat := rfl
    have hlen : (undo a b k (permL a b (K + 1))).length = K + 1 := by rw [undo_len, permL_len]
    obtain ⟨l, hl⟩ : ∃ l, undo a b k (permL a b (K + 1)) = l := ⟨_, rfl⟩
    by_cases hlt : k < K
    · rw [hl] at howr hun hlen
      clear hl ho1
      have hbl := belowB_lo a b (BitVec.ofInt 64 ((k : Int) + 1)) ((k : Int) + 1 + 1) (by omega) (by omega)
      obtain ⟨J, hJ⟩ : ∃ J : Nat, belowB a b (BitVec.ofInt 64 ((k : Int) + 1)) ((k : Int) + 1 + 1) = J := ⟨(belowB a b (BitVec.ofInt 64 ((k : Int) + 1)) ((k : Int) + 1 + 1)).toNat, by omega⟩
      rw [hJ] at hbl hun
      rw [Int.toNat_natCast] at hun
      have HJ := Lib.hid hJ
      have HU := Lib.hid hun
      clear hJ hun
      have hJ1 : J < K + 1 := by omega
      have hc1 := (howr.cellAt (k + 1) (by omega)).trans (iv_getD l (k + 1) (by omega))
      have hc2 := (howr.cellAt J (by omega)).trans (iv_getD l J (by omega))
      obtain ⟨x, hx⟩ : ∃ x, l.getD (k + 1) 0 = x := ⟨_, rfl⟩
      obtain ⟨y, hy⟩ : ∃ y, l.getD J 0 = y := ⟨_, rfl⟩
      rw [hx] at hc1
      rw [hy] at hc2
      obtain ⟨v', hy'⟩ := cell?_setCell_some (w := w2) (p := ⟨g, k + 1, none⟩) (x := .int .i64 y) (q := ⟨g, J, none⟩) (v := .int .i64 y) hc2
      have hs1 := howr.stored (k + 1) (.int .i64 y)
      rw [iv_set] at hs1
      have hs2 := hs1.1.stored J (.int .i64 x)
      rw [iv_set] at hs2
      have hsw : swapL l (k + 1) J = (l.set (k + 1) y).set J x := by unfold swapL; rw [hx, hy]
      have hb3 := (hbr.grown hs1.2 (by have := hbr.size; omega) (by intro k hk; cases hk; exact hg1)).grown hs2.2 (by have := (hbr.grown hs1.2 (by have := hbr.size; omega) (by intro k hk; cases hk; exact hg1)).size; omega) (by intro k hk; cases hk; exact hg1)
      have ho3 := hs2.1
      rw [← hsw, ← HU.out] at ho3
      clear hx hy hs1 hs2 hsw
      have hf1 := howr.frozenAt (k + 1)
      have hf2 := howr.frozenAt J
      go_wp2_with (go_at_call 19; refine (below_int _ _ _ _ (by omega) (by omega) _).mono ?_; rintro e w' ⟨rfl, rfl⟩; rw [HJ.out])
      go_region
      go_wp2
      go_roundw
      case rel => exact ⟨k + 1, by go_num, by omega, ho3.drew, hb3.drew⟩
      case measure => simp [intOf]; omega
    · have hkK : k = K := by omega
      subst hkK
      rw [hundo.out] at howr
      clear hun hlen hl ho1
      have hbb := hbr
      go_wp2_with fail
      go_loopw [60] (fun c wr => ∃ (i : Nat), c = .int .i64 i ∧ i ≤ k + 1 ∧ wr = w2) (fun c _ => k + 1 - (intOf c).toNat)
      case atStart => exact ⟨0, rfl, by omega, rfl⟩
      case round =>
        obtain ⟨i, rfl, hi, rfl⟩ := hrel
        by_cases hlt2 : i < k + 1
        · have hc := (howr.cellAt i (by omega)).trans (iv_getD _ i (by rw [iota_len]; omega))
          rw [iota_getD _ _ hlt2] at hc
          go_wp2
          go_roundw
          case rel => exact ⟨i + 1, by go_num, by omega, trivial⟩
          case measure => simp [intOf]; omega
        · go_wp2_with (go_at_call 21; refine (awake1_any _).mono ?_; rintro e w' ⟨rfl, rfl⟩)
          go_ret
          exact ⟨rfl, hbb⟩
/-! ### PrngEach -/
abbrev bvs (l : List Bool) : List Value := l.map Value.bool
theorem bvs_getD (l : List Bool) (i : Nat) (h : i < l.length) : (bvs l)[i]? = some (.bool (l.getD i false)) := by
  rw [List.getElem?_map, List.getD_eq_getElem?_getD, List.getElem?_eq_getElem h]; rfl
theorem bvs_set (l : List Bool) (i : Nat) (x : Bool) : (bvs l).set i (.bool x) = bvs (l.set i x) := by simp [List.map_set]
theorem getD_setB (l : List Bool) (i j : Nat) (x : Bool) (h : i < l.length) : (l.set i x).getD j false = if i = j then x else l.getD j false := by
  rw [List.getD_eq_getElem?_getD, List.getElem?_set, List.getD_eq_getElem?_getD]
  by_cases e : i = j
  · rw [if_pos e, if_pos h, if_pos e]; rfl
  · rw [if_neg e, if_neg e]
theorem i4 : (Try.prog.info? 4).map (fun i => (i.zero, i.size, i.bytes)) = some (some (.bool false), 1, 1) := by kernel_rfl
set_option maxRecDepth 100000 in
theorem prngEach_any (a b : BitVec 64) (n : Int) (w : World) :
    Calls Try.prog 5 #[u64 a, u64 b, .int .i64 n] w fun e w' => e = .returned (.bool true) ∧ Below w.heap.size w w' := by
  obtain ⟨K, hK, hK1⟩ := mod_ex n 300 (by omega) (by omega)
  obtain ⟨wo, rfl⟩ : ∃ wo : World, wo = w := ⟨_, rfl⟩
  have hE := each_perm a b K (by omega)
  obtain ⟨l, hl⟩ : ∃ l, permZ a b (K : Int) = l := ⟨_, rfl⟩
  rw [hl] at hE
  have HL := Lib.hid hl
  have HE := Lib.hid hE
  have hlen : l.length = K := hE.1
  clear hl hE
  obtain ⟨i0, hi, hz0, hz1, hz2⟩ := info_parts i4
  go_enter Try.func5, Try.ntmps5
  go_wp2_with fail
  refine (perm_any _ _ _ _).mono ?_
  rintro e w1 ⟨v1, rfl, ho1, hb1⟩
  rw [HL.out] at ho1
  have hh1 := holds_own ho1
  obtain ⟨ao, cap, rfl, hh1⟩ := hh1
  have hll : (iv l).length = K := by rw [List.length_map]; exact hlen
  rw [hll]
  clear ho1
  obtain ⟨w2, rfl⟩ : ∃ w2 : World, w2 = w1 := ⟨_, rfl⟩
  go_wp2_with (at_make; refine wpList_make_full _ rfl _ _ 32 rfl w2.heap.size 4 i0 (.bool false) 1 Try.underlying32 hi hz0 hz1 _ _ _ _ K rfl rfl rfl rfl ?b1 ?b2 ?b3 ?_)
  case b1 => rw [hz2]; omega
  case b2 => unfold maxLen; omega
  case b3 => omega
  intro w3 hown hgrow
  have hb3 : Below w2.heap.size w2 w3 := (Below.refl _ _).grown hgrow (Nat.le_refl _) (by simp)
  have hm : (madeCells #[Value.bool false] K).toList = bvs (List.replicate K false) := by simp [toList_madeCells_one]
  rw [hm] at hown
  clear hm
  obtain ⟨w4, rfl⟩ : ∃ w4 : World, w4 = w3 := ⟨_, rfl⟩
  go_wp2
  go_loopw [27] (fun c wr => ∃ (k : Nat) (s : List Bool), c = .int .i64 k ∧ k ≤ K ∧ s.length = K ∧ (∀ x, x < K → (s.getD x false = true ↔ ∃ i, i < k ∧ l.getD i 0 = (x : Int))) ∧ wr.ownsRow w2.heap.size 4 1 (.slice (some ⟨w2.heap.size, 0, none⟩) K K) K (bvs s) ∧ Below w2.heap.size w2 wr) (fun c _ => K - (intOf c).toNat)
  case atStart => exact ⟨0, List.replicate K false, rfl, by omega, by simp, by intro x hx; simp [hx], hown, hb3⟩
  case round =>
    obtain ⟨k, s, rfl, hk, hsl, hs, howr, hbr⟩ := hrel
    have HS := Lib.hid hs
    clear hs
    obtain ⟨w5, rfl⟩ : ∃ w5 : World, w5 = wr := ⟨_, rfl⟩
    by_cases hlt : k < K
    · have e1 := iv_getD l k (by omega)
      rcases hh1 with hh1 | ⟨b1, o1, rfl, hh1⟩
      · simp [hh1] at e1
      have g0 := hh1 k _ e1
      have g1 := (hbr.cell (p := ⟨b1, o1 + k, none⟩) (World.block_lt_of_cell? w2 _ g0)).trans g0
      clear g0 e1 hh1
      have hrg := HE.out.2.1 k hlt
      obtain ⟨x, hx⟩ : ∃ x : Nat, l.getD k 0 = x := ⟨(l.getD k 0).toNat, by omega⟩
      rw [hx] at g1 hrg
      have hxK : x < K := by omega
      have HX := Lib.hid hx
      have hsx : s.getD x false = false := by
        rw [← Bool.not_eq_true, HS.out x hxK]
        rintro ⟨i, hik, hi2⟩
        have := HE.out.2.2 i k (by omega) hlt (by rw [hi2, HX.out])
        omega
      have hc := (howr.cellAt x (by omega)).trans (bvs_getD s x (by omega))
      rw [hsx] at hc
      have hf := howr.frozenAt x
      have hst := howr.stored x (.bool true)
      rw [bvs_set] at hst
      obtain ⟨hs1, hs2⟩ := hst
      have hb2 := hbr.grown hs2 (by have := hbr.size; omega) (by simp)
      clear hx hsx
      go_wp2
      go_roundw
      case rel =>
        refine ⟨k + 1, s.set x true, by go_num, by omega, by simp [hsl], ?_, hs1, hb2⟩
        intro y hy
        rw [getD_setB _ _ _ _ (by omega)]
        by_cases hxy : x = y
        · rw [if_pos hxy]
          exact ⟨fun _ => ⟨k, by omega, by rw [HX.out, hxy]⟩, fun _ => rfl⟩
        · rw [if_neg hxy, HS.out y hy]
          constructor
          · rintro ⟨i, h1, h2⟩; exact ⟨i, by omega, h2⟩
          · rintro ⟨i, h1, h2⟩
            refine ⟨i, ?_, h2⟩
            by_cases hik : i = k
            · subst hik; rw [HX.out] at h2; omega
            · omega
      case measure => simp [intOf]; omega
    · go_wp2_with (go_at_call 21; refine (awake1_any _).mono ?_; rintro e w' ⟨rfl, rfl⟩)
      go_ret
      exact ⟨rfl, hb1.trans (hbr.mono hb1.size)⟩
end Go.Proofs.Ytofoilmepddmaaa
