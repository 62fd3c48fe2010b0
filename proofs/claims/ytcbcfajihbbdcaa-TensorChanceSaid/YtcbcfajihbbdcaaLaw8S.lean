/- TensorSmall. -/
import Derived.Test.YtcbcfajihbbdcaaLaw8T
import Derived.Test.YtcbcfajihbbdcaaRoundBase
namespace Go.Proofs.Ytcbcfajihbbdcaa
open Go.RowKit
set_option maxHeartbeats 2000000
theorem light8_any (d a : Value) (e : Int) (ao : Option Addr) (n cap : Nat) (ha : a = .slice ao n cap) (dao : Option Addr) (dn dc : Nat) (hd : d = .slice dao dn dc) (w : World) :
    Calls Try.prog 14 #[.agg #[d, .int .i64 e, a]] w fun r w' => r = .returned (.bool (decide ((n : Int) ≤ 600))) ∧ Below w.heap.size w w' := by
  subst ha hd
  go_enter Try.func14, Try.ntmps14
  go_wp2
  go_ret
  exact ⟨ret_bool (by simp), (Below.refl _ _).alloc (Nat.le_refl _) _⟩
theorem smallE_cases (t : Tn) (x : Int) (S R : BitVec 64) (hx : 2 ≤ x ∧ x ≤ 8) : (mayAccB t = false ∧ smallE t x S R = (noT, 1)) ∨ (mayAccB t = true ∧ smallE t x S R = (noT, 3)) ∨
    (mayAccB t = true ∧ expB (t.exp + max 0 (widthB t - (x - 1))) 64 = true ∧ smallE t x S R = (⟨t.dims, t.exp + max 0 (widthB t - (x - 1)), smallFrom x (max 0 (widthB t - (x - 1))) S R 0 t.data⟩, 0)) := by
  unfold smallE
  cases h : mayAccB t
  · left; simp
  · right
    rw [if_neg (by simp; omega)]
    by_cases h2 : expB (t.exp + max 0 (widthB t - (x - 1))) 64 = true
    · right; simp [h2]
    · left; simp [h2]
theorem bits_lt {v W : Int} (hv : -2147483648 ≤ v ∧ v ≤ 2147483647) (h : bitsI v ≤ W) : -(2 ^ W.toNat) < v ∧ v < 2 ^ W.toNat := by
  have hn : numb v = v := by unfold numb cl; omega
  unfold bitsI at h
  rw [hn] at h
  have h1 := (bitLen_lt v.natAbs (by omega)).1
  have h2 : (2 : Nat) ^ Lib.bitLen v.natAbs ≤ 2 ^ W.toNat := Nat.pow_le_pow_right (by omega) (by omega)
  have h3 : ((2 ^ W.toNat : Nat) : Int) = 2 ^ W.toNat := by rw [Int.natCast_pow]; rfl
  omega
theorem near_by {v z x W : Int} (r : BitVec 64) (hx : 2 ≤ x ∧ x ≤ 8) (hW : bitsI v ≤ W) (hv : -2147483648 ≤ v ∧ v ≤ 2147483647) (hz : z = max 0 (W - (x - 1))) (hz2 : z ≤ 31) :
    ∀ y, y = clampI (chanceI v z r) x → -(2 ^ (x - 1).toNat - 1) ≤ y ∧ y ≤ 2 ^ (x - 1).toNat - 1 ∧ -(2 ^ z.toNat) < y * 2 ^ z.toNat - v ∧ y * 2 ^ z.toNat - v < 2 ^ z.toNat ∧ (z = 0 → y = v) := by
  intro y hyd
  obtain ⟨hv1, hv2⟩ := bits_lt hv hW
  have hn : numb v = v := by unfold numb cl; omega
  have hs : shN z = z.toNat := by unfold shN cl; omega
  have hw : wid x = (x - 1).toNat := by unfold wid cl; omega
  obtain ⟨P, hP⟩ : ∃ P : Int, P = 2 ^ z.toNat := ⟨_, rfl⟩
  obtain ⟨M, hM⟩ : ∃ M : Int, M = 2 ^ (x - 1).toNat := ⟨_, rfl⟩
  have hP1 := two_pow_ub z.toNat 31 (by omega)
  have hM1 := two_pow_ub (x - 1).toNat 7 (by omega)
  have hρ := Int.emod_nonneg (N r) (show P ≠ 0 by omega)
  have hρ2 := Int.emod_lt_of_pos (N r) (show 0 < P by omega)
  obtain ⟨ρ, hρe⟩ : ∃ ρ, N r % P = ρ := ⟨_, rfl⟩
  have hy : y = cl ((v + ρ) / P) (-(M - 1)) (M - 1) := by
    rw [hyd]
    unfold clampI chanceI
    rw [hn, hs, hw, ← hP, ← hM, hρe]
  have hq1 := Int.mul_ediv_add_emod (v + ρ) P
  have hq2 := Int.emod_nonneg (v + ρ) (show P ≠ 0 by omega)
  have hq3 := Int.emod_lt_of_pos (v + ρ) (show 0 < P by omega)
  obtain ⟨q, hq⟩ : ∃ q, (v + ρ) / P = q := ⟨_, rfl⟩
  obtain ⟨τ, hτ⟩ : ∃ τ, (v + ρ) % P = τ := ⟨_, rfl⟩
  rw [hq] at hy hq1
  rw [hτ] at hq1 hq2 hq3
  rw [hρe] at hρ hρ2
  rw [← hP] at hP1 ⊢
  rw [← hM] at hM1 ⊢
  have hWM : 2 ^ W.toNat ≤ P * M := by
    rw [hP, hM, ← Int.pow_add]
    have h2 : (2 : Nat) ^ W.toNat ≤ 2 ^ (z.toNat + (x - 1).toNat) := Nat.pow_le_pow_right (by omega) (by omega)
    have h3 : ((2 ^ W.toNat : Nat) : Int) = 2 ^ W.toNat := by rw [Int.natCast_pow]; rfl
    have h4 : ((2 ^ (z.toNat + (x - 1).toNat) : Nat) : Int) = 2 ^ (z.toNat + (x - 1).toNat) := by rw [Int.natCast_pow]; rfl
    omega
  have hmm : P * (M - 1) = P * M - P := by rw [Int.mul_sub, Int.mul_one]
  have hmn : P * (-(M - 1)) = P - P * M := by rw [Int.mul_neg, hmm]; omega
  rw [Int.mul_comm y P]
  have hyin : -(M - 1) ≤ y ∧ y ≤ M - 1 := by rw [hy]; exact cl_in _ _ _ (by omega)
  refine ⟨hyin.1, hyin.2, ?_⟩
  have hz0 : z = 0 → y = v := by
    intro h0
    have hP0 : P = 1 := by rw [hP, h0]; rfl
    subst hP0
    have : ρ = 0 := by omega
    rw [hy]
    unfold cl
    omega
  by_cases h1 : M ≤ q
  · have h2 := Int.mul_le_mul_of_nonneg_left h1 (show 0 ≤ P by omega)
    have hye : y = M - 1 := by rw [hy]; unfold cl; omega
    rw [hye, hmm]
    refine ⟨by omega, by omega, fun h0 => ?_⟩
    rw [← hye]; exact hz0 h0
  · by_cases h3 : q ≤ -M
    · have h2 := Int.mul_le_mul_of_nonneg_left h3 (show 0 ≤ P by omega)
      rw [Int.mul_neg] at h2
      have hye : y = -(M - 1) := by rw [hy]; unfold cl; omega
      rw [hye, hmn]
      refine ⟨by omega, by omega, fun h0 => ?_⟩
      rw [← hye]; exact hz0 h0
    · have hye : y = q := by rw [hy]; unfold cl; omega
      rw [hye]
      refine ⟨by omega, by omega, fun h0 => ?_⟩
      rw [← hye]; exact hz0 h0
theorem smallFrom_getD (x z : Int) (s r : BitVec 64) : ∀ (l : List Int) (i k : Nat), k < l.length → (smallFrom x z s r i l).getD k 0 = smallAt x z s r (i + k) (l.getD k 0)
  | [], _, _, h => by simp at h
  | v :: l, i, 0, _ => rfl
  | v :: l, i, k + 1, h => by
    have := smallFrom_getD x z s r l (i + 1) k (by simpa using h)
    rw [smallFrom, List.getD_cons_succ, List.getD_cons_succ, this, show i + 1 + k = i + (k + 1) by omega]
theorem width_ge (l : List Int) : ∀ a, a ≤ l.foldl (fun a x => max a (bitsI x)) a ∧ ∀ x ∈ l, bitsI x ≤ l.foldl (fun a x => max a (bitsI x)) a := by
  induction l with
  | nil => intro a; exact ⟨Int.le_refl _, fun x hx => by simp at hx⟩
  | cons y l ih =>
    intro a
    have h := ih (max a (bitsI y))
    refine ⟨by rw [List.foldl_cons]; omega, fun x hx => ?_⟩
    rw [List.foldl_cons]
    rcases List.mem_cons.1 hx with rfl | hx
    · omega
    · exact h.2 x hx
theorem bits32 {x : Int} (h : -2147483648 ≤ x ∧ x ≤ 2147483647) : bitsI x ≤ 32 := by
  unfold bitsI
  have hn : numb x = x := by unfold numb cl; omega
  have := Lib.bitLen_le x.natAbs 32 (by omega) (by omega)
  rw [hn]
  omega
theorem width_le32 {l : List Int} (h : Fits .i32 l) : ∀ a, a ≤ 32 → l.foldl (fun a x => max a (bitsI x)) a ≤ 32 := by
  induction l with
  | nil => intro a ha; exact ha
  | cons x l ih =>
    intro a ha
    rw [List.foldl_cons]
    have := bits32 (fits_i32_iff.1 h x (by simp))
    exact ih (fun y hy => h y (List.mem_cons_of_mem _ hy)) _ (by omega)
theorem smallRes_may {t : Tn} {x z : Int} (S R : BitVec 64) (hx : 2 ≤ x ∧ x ≤ 8) (h : mayAccB t = true) (he : expB (t.exp + z) 64 = true) : mayB ⟨t.dims, t.exp + z, smallFrom x z S R 0 t.data⟩ = true := by
  unfold mayAccB at h
  simp only [Bool.and_eq_true, decide_eq_true_eq] at h
  unfold mayB
  simp only [h.1.1, he, smallFrom_len, h.1.2, decide_true, Bool.true_and, Bool.not_eq_true']
  cases hc : (smallFrom x z S R 0 t.data).contains (-128)
  · rfl
  · have := List.contains_iff_mem.1 hc
    have := smallFrom_in x z S R hx _ _ _ this
    omega
set_option maxRecDepth 8000 in
theorem tensorSmall_any (v : Value) (t : Tn) (x s r : Int) (S R : BitVec 64) (hs : s = N S) (hr : r = N R) (w : World) (h : RT .i32 w v t) :
    Calls Try.prog 3 #[v, .int .i64 x, .int .u64 s, .int .u64 r] w fun e w' => e = .returned (.bool true) ∧ Below w.heap.size w w' := by
  have HR := Lib.hid h
  have HS := Lib.hid hs
  have HRR := Lib.hid hr
  obtain ⟨d, a, rfl, hd, ha, hw⟩ := h
  obtain ⟨D, e, A⟩ := t
  simp only at hd ha hw HR ⊢
  obtain ⟨ao, cap, hav, _⟩ := ha.1
  rw [kv_len] at hav
  subst hav
  obtain ⟨dao, dcap, hdv, _⟩ := hd.1
  rw [kv_len] at hdv
  subst hdv
  have hlm := ha.2.2
  unfold maxLen at hlm
  obtain ⟨n, hn⟩ : ∃ n, A.length = n := ⟨_, rfl⟩
  rw [hn] at ha hlm HR ⊢
  obtain ⟨X, hX, hX7⟩ := u64_mod x 7 (by decide) (by decide)
  have hew := hw
  obtain ⟨wb, hwwb⟩ : ∃ wb, wb = w.alloc (.cells #[.slice dao D.length dcap, .int .i64 e, .slice ao n cap] 25) := ⟨_, rfl⟩
  have hbwb : Below w.heap.size w wb := by rw [hwwb]; exact (Below.refl _ _).alloc (Nat.le_refl _) _
  have hblwb : wb.heap[w.heap.size]? = some (.cells #[.slice dao D.length dcap, .int .i64 e, .slice ao n cap] 25 (0, 0)) := by rw [hwwb]; exact Deep.blk_alloc_new _ _
  have hswb : w.heap.size < wb.heap.size := by rw [hwwb]; simp
  have c0 : wb.cell? ⟨w.heap.size, 0, none⟩ = some (.slice dao D.length dcap) := cell_at hblwb rfl
  have c1 : wb.cell? ⟨w.heap.size, 1, none⟩ = some (.int .i64 e) := cell_at hblwb rfl
  have c2 : wb.cell? ⟨w.heap.size, 2, none⟩ = some (.slice ao n cap) := cell_at hblwb rfl
  have HWwb := Lib.hid hwwb
  have HBLwb := Lib.hid hblwb
  clear hwwb hblwb
  have HRB : Hid (RT .i32 wb (.agg #[.slice dao D.length dcap, .int .i64 e, .slice ao n cap]) ⟨D, e, A⟩) := Lib.hid (HR.out.below hbwb)
  have HBB := Lib.hid hbwb
  have HN := Lib.hid hn
  have HA := Lib.hid (ha.below hbwb)
  clear hbwb hd ha hn hs hr
  by_cases h6 : n ≤ 600
  · rcases smallE_cases ⟨D, e, A⟩ (2 + (X : Int)) S R (by omega) with ⟨hm, hp⟩ | ⟨hm, hp⟩ | ⟨hm, hE, hp⟩
    · have h6' : (n : Int) ≤ 600 := by omega
      have HM := Lib.hid hm
      have HP := Lib.hid hp
      have HWW := Lib.hid hw
      clear hm hp hw
      go_enter Try.func3, Try.ntmps3
      go_wp2_with fail
      rw [← HWwb.out]
      refine (light8_any _ _ _ _ _ _ rfl _ _ _ rfl _).mono ?_
      rintro r1 w1 ⟨rfl, hb1⟩
      rw [decide_eq_true h6']
      replace c0 := (Below.cell hb1 (World.block_lt_of_cell? _ _ c0)).trans c0
      replace c1 := (Below.cell hb1 (World.block_lt_of_cell? _ _ c1)).trans c1
      replace c2 := (Below.cell hb1 (World.block_lt_of_cell? _ _ c2)).trans c2
      have HR1 := Lib.hid (HRB.out.below hb1)
      have HA1 := Lib.hid (HA.out.below hb1)
      have HB1 := Lib.hid (HBB.out.trans (hb1.mono HBB.out.size))
      clear hb1
      go_wp2_with fail
      refine (small_lit _ _ _ _ _ S R HS.out HRR.out _ HP.out _ HR1.out).mono ?_
      rintro r5 w5 ⟨v5, rfl, hft, hb5⟩
      replace c0 := (Below.cell hb5 (World.block_lt_of_cell? _ _ c0)).trans c0
      replace c1 := (Below.cell hb5 (World.block_lt_of_cell? _ _ c1)).trans c1
      replace c2 := (Below.cell hb5 (World.block_lt_of_cell? _ _ c2)).trans c2
      have HR5 := Lib.hid (HR1.out.below hb5)
      have HA5 := Lib.hid (HA1.out.below hb5)
      have HB5 := Lib.hid (HB1.out.trans (hb5.mono HB1.out.size))
      clear hb5

      obtain ⟨ta, tc, xa, xc, rfl, _⟩ := hft.parts
      simp only [noT, List.length_nil]
      obtain ⟨w6, hww6⟩ : ∃ w6, w6 = w5.alloc (.cells #[.slice ta 0 tc, .int .i64 0, .slice xa 0 xc] 31) := ⟨_, rfl⟩
      have hbw6 : Below w5.heap.size w5 w6 := by rw [hww6]; exact (Below.refl _ _).alloc (Nat.le_refl _) _
      have hblw6 : w6.heap[w5.heap.size]? = some (.cells #[.slice ta 0 tc, .int .i64 0, .slice xa 0 xc] 31 (0, 0)) := by rw [hww6]; exact Deep.blk_alloc_new _ _
      have hsw6 : w5.heap.size < w6.heap.size := by rw [hww6]; simp
      have HWw6 := Lib.hid hww6
      have HBLw6 := Lib.hid hblw6
      clear hww6 hblw6
      have HR6 := Lib.hid (HR5.out.below hbw6)
      have HB6 := Lib.hid (HB5.out.trans (hbw6.mono HB5.out.size))
      go_upto_region 5 with (fail)
      rw [← HWw6.out]
      replace c0 := (Below.cell hbw6 (World.block_lt_of_cell? _ _ c0)).trans c0
      replace c1 := (Below.cell hbw6 (World.block_lt_of_cell? _ _ c1)).trans c1
      replace c2 := (Below.cell hbw6 (World.block_lt_of_cell? _ _ c2)).trans c2
      clear hbw6 hft
      go_wp2_with fail
      refine (mayAcc_any _ _ _ HR6.out).mono ?_
      rintro r7 w7 ⟨rfl, hb7⟩
      rw [HM.out]
      have HB7 := Lib.hid (HB6.out.trans (hb7.mono HB6.out.size))
      clear hb7 c0 c1 c2
      go_wp2_with fail
      refine (awake8_any _).mono ?_
      rintro r8 w8 ⟨rfl, hb8⟩
      have HB8 := Lib.hid (HB7.out.trans (hb8.mono HB7.out.size))
      clear hb8
      go_wp2
      go_ret
      exact ⟨rfl, HB8.out⟩
    · have h6' : (n : Int) ≤ 600 := by omega
      have HM := Lib.hid hm
      have HP := Lib.hid hp
      have HWW := Lib.hid hw
      clear hm hp hw
      go_enter Try.func3, Try.ntmps3
      go_wp2_with fail
      rw [← HWwb.out]
      refine (light8_any _ _ _ _ _ _ rfl _ _ _ rfl _).mono ?_
      rintro r1 w1 ⟨rfl, hb1⟩
      rw [decide_eq_true h6']
      replace c0 := (Below.cell hb1 (World.block_lt_of_cell? _ _ c0)).trans c0
      replace c1 := (Below.cell hb1 (World.block_lt_of_cell? _ _ c1)).trans c1
      replace c2 := (Below.cell hb1 (World.block_lt_of_cell? _ _ c2)).trans c2
      have HR1 := Lib.hid (HRB.out.below hb1)
      have HA1 := Lib.hid (HA.out.below hb1)
      have HB1 := Lib.hid (HBB.out.trans (hb1.mono HBB.out.size))
      clear hb1
      go_wp2_with fail
      refine (small_lit _ _ _ _ _ S R HS.out HRR.out _ HP.out _ HR1.out).mono ?_
      rintro r5 w5 ⟨v5, rfl, hft, hb5⟩
      replace c0 := (Below.cell hb5 (World.block_lt_of_cell? _ _ c0)).trans c0
      replace c1 := (Below.cell hb5 (World.block_lt_of_cell? _ _ c1)).trans c1
      replace c2 := (Below.cell hb5 (World.block_lt_of_cell? _ _ c2)).trans c2
      have HR5 := Lib.hid (HR1.out.below hb5)
      have HA5 := Lib.hid (HA1.out.below hb5)
      have HB5 := Lib.hid (HB1.out.trans (hb5.mono HB1.out.size))
      clear hb5

      obtain ⟨ta, tc, xa, xc, rfl, _⟩ := hft.parts
      simp only [noT, List.length_nil]
      obtain ⟨w6, hww6⟩ : ∃ w6, w6 = w5.alloc (.cells #[.slice ta 0 tc, .int .i64 0, .slice xa 0 xc] 31) := ⟨_, rfl⟩
      have hbw6 : Below w5.heap.size w5 w6 := by rw [hww6]; exact (Below.refl _ _).alloc (Nat.le_refl _) _
      have hblw6 : w6.heap[w5.heap.size]? = some (.cells #[.slice ta 0 tc, .int .i64 0, .slice xa 0 xc] 31 (0, 0)) := by rw [hww6]; exact Deep.blk_alloc_new _ _
      have hsw6 : w5.heap.size < w6.heap.size := by rw [hww6]; simp
      have HWw6 := Lib.hid hww6
      have HBLw6 := Lib.hid hblw6
      clear hww6 hblw6
      have HR6 := Lib.hid (HR5.out.below hbw6)
      have HB6 := Lib.hid (HB5.out.trans (hbw6.mono HB5.out.size))
      go_upto_region 5 with (fail)
      rw [← HWw6.out]
      replace c0 := (Below.cell hbw6 (World.block_lt_of_cell? _ _ c0)).trans c0
      replace c1 := (Below.cell hbw6 (World.block_lt_of_cell? _ _ c1)).trans c1
      replace c2 := (Below.cell hbw6 (World.block_lt_of_cell? _ _ c2)).trans c2
      clear hbw6 hft
      go_wp2_with fail
      refine (mayAcc_any _ _ _ HR6.out).mono ?_
      rintro r7 w7 ⟨rfl, hb7⟩
      rw [HM.out]
      have HB7 := Lib.hid (HB6.out.trans (hb7.mono HB6.out.size))
      clear hb7 c0 c1 c2
      go_wp2_with fail
      refine (awake8_any _).mono ?_
      rintro r8 w8 ⟨rfl, hb8⟩
      have HB8 := Lib.hid (HB7.out.trans (hb8.mono HB7.out.size))
      clear hb8
      go_wp2
      go_ret
      exact ⟨rfl, HB8.out⟩
    · obtain ⟨Z, hz⟩ : ∃ Z : Nat, max 0 (widthB ⟨D, e, A⟩ - (2 + (X : Int) - 1)) = (Z : Int) := ⟨(max 0 (widthB ⟨D, e, A⟩ - (2 + (X : Int) - 1))).toNat, by omega⟩
      simp only [hz] at hE hp
      obtain ⟨W, hW⟩ : ∃ W, widthB ⟨D, e, A⟩ = W := ⟨_, rfl⟩
      have hWl : W = widthL A := by rw [← hW]; unfold widthB; rw [if_pos hm]
      have hW32 : W ≤ 32 := by rw [hWl]; exact width_le32 HA.out.2.1 0 (by omega)
      rw [hW] at hz
      have hW0 : 0 ≤ W := by rw [← hW]; exact (widthB_in _).1
      have hz1 : Z ≤ 31 := by omega
      obtain ⟨M, hM⟩ : ∃ M : Int, (2 : Int) ^ (1 + X) = M := ⟨_, rfl⟩
      obtain ⟨P, hP⟩ : ∃ P : Int, (2 : Int) ^ Z = P := ⟨_, rfl⟩
      have hM2 : 2 ≤ M ∧ M ≤ 128 := by
        have h1 := two_pow_ub X 6 (by omega)
        have h2 : (2 : Int) ^ (1 + X) = 2 * 2 ^ X := by rw [Nat.add_comm, Int.pow_succ]; omega
        omega
      have hP2 : 1 ≤ P ∧ P ≤ 2147483648 := by have h1 := two_pow_ub Z 31 hz1; omega
      obtain ⟨hM3, hM4⟩ := hM2
      obtain ⟨hP3, hP4⟩ := hP2
      have HZ := Lib.hid hz
      have HPE := Lib.hid hP
      have hNear : ∀ k, k < n → bitsI (A.getD k 0) ≤ W := by
        intro k hk
        rw [hWl, List.getD_eq_getElem?_getD, List.getElem?_eq_getElem (by rw [HN.out]; exact hk)]
        exact (width_ge A 0).2 _ (List.getElem_mem _)
      have HMT := Lib.hid (smallRes_may (t := ⟨D, e, A⟩) S R (show 2 ≤ 2 + (X : Int) ∧ 2 + (X : Int) ≤ 8 by omega) hm hE)
      have HNE := Lib.hid hNear
      have HE := Lib.hid hE
      have HWI := Lib.hid hW
      obtain ⟨T, hT⟩ : ∃ T, smallFrom (2 + (X : Int)) (Z : Int) S R 0 A = T := ⟨_, rfl⟩
      have hTn : T.length = n := by rw [← hT, smallFrom_len]; exact HN.out
      have HT := Lib.hid hT
      have HTN := Lib.hid hTn
      simp only at HMT hp
      rw [hT] at HMT hp
      clear hP hE hW hWl hNear hT hTn
      have h6' : (n : Int) ≤ 600 := by omega
      have HM := Lib.hid hm
      have HP := Lib.hid hp
      have HWW := Lib.hid hw
      clear hm hp hw
      go_enter Try.func3, Try.ntmps3
      go_wp2_with fail
      rw [← HWwb.out]
      refine (light8_any _ _ _ _ _ _ rfl _ _ _ rfl _).mono ?_
      rintro r1 w1 ⟨rfl, hb1⟩
      rw [decide_eq_true h6']
      replace c0 := (Below.cell hb1 (World.block_lt_of_cell? _ _ c0)).trans c0
      replace c1 := (Below.cell hb1 (World.block_lt_of_cell? _ _ c1)).trans c1
      replace c2 := (Below.cell hb1 (World.block_lt_of_cell? _ _ c2)).trans c2
      have HR1 := Lib.hid (HRB.out.below hb1)
      have HA1 := Lib.hid (HA.out.below hb1)
      have HB1 := Lib.hid (HBB.out.trans (hb1.mono HBB.out.size))
      clear hb1
      go_wp2_with fail
      refine (small_lit _ _ _ _ _ S R HS.out HRR.out _ HP.out _ HR1.out).mono ?_
      rintro r5 w5 ⟨v5, rfl, hft, hb5⟩
      replace c0 := (Below.cell hb5 (World.block_lt_of_cell? _ _ c0)).trans c0
      replace c1 := (Below.cell hb5 (World.block_lt_of_cell? _ _ c1)).trans c1
      replace c2 := (Below.cell hb5 (World.block_lt_of_cell? _ _ c2)).trans c2
      have HR5 := Lib.hid (HR1.out.below hb5)
      have HA5 := Lib.hid (HA1.out.below hb5)
      have HB5 := Lib.hid (HB1.out.trans (hb5.mono HB1.out.size))
      clear hb5
      have HFT := Lib.hid hft.rt
      obtain ⟨ta, tc, xa, xc, rfl, _⟩ := hft.parts
      simp only [HTN.out] at HFT ⊢
      obtain ⟨w6, hww6⟩ : ∃ w6, w6 = w5.alloc (.cells #[.slice ta D.length tc, .int .i64 (e + (Z : Int)), .slice xa n xc] 31) := ⟨_, rfl⟩
      have hbw6 : Below w5.heap.size w5 w6 := by rw [hww6]; exact (Below.refl _ _).alloc (Nat.le_refl _) _
      have hblw6 : w6.heap[w5.heap.size]? = some (.cells #[.slice ta D.length tc, .int .i64 (e + (Z : Int)), .slice xa n xc] 31 (0, 0)) := by rw [hww6]; exact Deep.blk_alloc_new _ _
      have hsw6 : w5.heap.size < w6.heap.size := by rw [hww6]; simp
      have u0 : w6.cell? ⟨w5.heap.size, 0, none⟩ = some (.slice ta D.length tc) := cell_at hblw6 rfl
      have u1 : w6.cell? ⟨w5.heap.size, 1, none⟩ = some (.int .i64 (e + (Z : Int))) := cell_at hblw6 rfl
      have u2 : w6.cell? ⟨w5.heap.size, 2, none⟩ = some (.slice xa n xc) := cell_at hblw6 rfl
      have HWw6 := Lib.hid hww6
      have HBLw6 := Lib.hid hblw6
      clear hww6 hblw6
      have HR6 := Lib.hid (HR5.out.below hbw6)
      have HA6 := Lib.hid (HA5.out.below hbw6)
      have HT6 := Lib.hid (RT.below (t := ⟨D, e + (Z : Int), T⟩) HFT.out hbw6)
      have HB6 := Lib.hid (HB5.out.trans (hbw6.mono HB5.out.size))
      have hez := expB_in HE.out
      have heb := i64_wf hew
      have hwz : IntKind.i64.wrap (Z : Int) = Z := IntWalk.i64_in _ (by omega)
      clear hez heb
      go_upto_region 5 with (fail)
      rw [← HWw6.out]
      replace c0 := (Below.cell hbw6 (World.block_lt_of_cell? _ _ c0)).trans c0
      replace c1 := (Below.cell hbw6 (World.block_lt_of_cell? _ _ c1)).trans c1
      replace c2 := (Below.cell hbw6 (World.block_lt_of_cell? _ _ c2)).trans c2
      clear hbw6 hft
      go_wp2_with fail
      refine (mayT_any _ _ _ HT6.out).mono ?_
      rintro r7 w7 ⟨rfl, hb7⟩
      rw [HMT.out]
      replace c0 := (Below.cell hb7 (World.block_lt_of_cell? _ _ c0)).trans c0
      replace c1 := (Below.cell hb7 (World.block_lt_of_cell? _ _ c1)).trans c1
      replace c2 := (Below.cell hb7 (World.block_lt_of_cell? _ _ c2)).trans c2
      replace u0 := (Below.cell hb7 (World.block_lt_of_cell? _ _ u0)).trans u0
      replace u1 := (Below.cell hb7 (World.block_lt_of_cell? _ _ u1)).trans u1
      replace u2 := (Below.cell hb7 (World.block_lt_of_cell? _ _ u2)).trans u2
      have HR7 := Lib.hid (HR6.out.below hb7)
      have HA7 := Lib.hid (HA6.out.below hb7)
      have HT7 := Lib.hid (HT6.out.below hb7)
      have HB7 := Lib.hid (HB6.out.trans (hb7.mono HB6.out.size))
      clear hb7
      go_wp2_with fail
      refine (width_any _ _ _ HR7.out).mono ?_
      rintro r8 w8 ⟨rfl, hb8⟩
      rw [HWI.out]
      replace c0 := (Below.cell hb8 (World.block_lt_of_cell? _ _ c0)).trans c0
      replace c1 := (Below.cell hb8 (World.block_lt_of_cell? _ _ c1)).trans c1
      replace c2 := (Below.cell hb8 (World.block_lt_of_cell? _ _ c2)).trans c2
      replace u0 := (Below.cell hb8 (World.block_lt_of_cell? _ _ u0)).trans u0
      replace u1 := (Below.cell hb8 (World.block_lt_of_cell? _ _ u1)).trans u1
      replace u2 := (Below.cell hb8 (World.block_lt_of_cell? _ _ u2)).trans u2
      have HA8 := Lib.hid (HA7.out.below hb8)
      have HT8 := Lib.hid (HT7.out.below hb8)
      have HB8 := Lib.hid (HB7.out.trans (hb8.mono HB7.out.size))
      clear hb8
      go_wp2_with fail
      have e12 : RowKit.wrap64 (RowKit.wrap64 M - 1) = M - 1 := by rw [IntWalk.wrap64_in M (by omega), IntWalk.wrap64_in _ (by omega)]
      simp only [e12]
      clear e12 u0 u1 c0 c1
      go_loopw [92] (fun c wr => ∃ (k : Nat), c = .int .i64 k ∧ k ≤ n ∧ wr = w8) (fun c _ => n - (intOf c).toNat)
      case atStart => exact ⟨0, rfl, by omega, rfl⟩
      case round =>
        obtain ⟨k, rfl, hk, rfl⟩ := hrel
        by_cases hlt : k < n
        · obtain ⟨b1, o1, rfl, ga, _⟩ := reads_cell HA8.out k (by rw [HN.out]; exact hlt)
          obtain ⟨dt, at1, he1, _, hT9, _⟩ := HT8.out
          cases he1
          obtain ⟨b2, o2, rfl, gy, _⟩ := reads_cell hT9 k (by rw [HTN.out]; exact hlt)
          obtain ⟨a, hA⟩ : ∃ a, A.getD k 0 = a := ⟨_, rfl⟩
          obtain ⟨y, hY⟩ : ∃ y, T.getD k 0 = y := ⟨_, rfl⟩
          have hab := HA.out.2.1.i32 k
          have hyd : y = clampI (chanceI a (Z : Int) (atB S R (BitVec.ofNat 64 k))) (2 + (X : Int)) := by
            rw [← hY, ← HT.out, smallFrom_getD _ _ _ _ _ _ _ (by rw [HN.out]; exact hlt), smallAt, hA, Nat.zero_add]
          rw [hA] at ga hab
          simp only at gy
          rw [hY] at gy
          obtain ⟨m1, m2, m3, m4, m5⟩ := near_by (atB S R (BitVec.ofNat 64 k)) (show 2 ≤ 2 + (X : Int) ∧ 2 + (X : Int) ≤ 8 by omega) (by rw [← hA]; exact HNE.out k hlt) hab HZ.out.symm (by omega) y hyd
          rw [show (2 + (X : Int) - 1).toNat = 1 + X by omega, hM] at m1 m2
          rw [show ((Z : Int)).toNat = Z by omega, HPE.out] at m3 m4
          obtain ⟨q, hq⟩ : ∃ q, y * P = q := ⟨_, rfl⟩
          rw [hq] at m3 m4
          have i0k : (0 : Int) ≤ (k : Int) := by omega
          have i1k : (k : Int) < (n : Int) := by omega
          have hZ1 : IntKind.u64.wrap (Z : Int) = Z := IntWalk.u64_in _ (by omega)
          have hZ2 : min Z 64 = Z := by omega
          have hPP := HPE.out
          obtain ⟨hab1, hab2⟩ := hab
          have HQ0 : Hid (Z ≠ 0 ∨ q = a) := Lib.hid (by
            by_cases h0 : Z = 0
            · right
              have hP0 : P = 1 := by rw [← hPP, h0]; rfl
              rw [← hq, hP0, m5 (by omega)]; omega
            · exact .inl h0)
          clear hA hY hyd hT9 m5
          go_wp2
          all_goals first
            | (exfalso
               have h1 := HQ0.out
               rename_i q3 q4
               have q5 := bne_iff_ne.1 q3
               omega)
            | (refine ⟨?_, ?measure⟩
               (repeat apply Exists.intro)
               refine ⟨?rel, ?eqs⟩
               case eqs => exact ⟨rfl, rfl, rfl, rfl, rfl⟩
               case rel => exact ⟨k + 1, by go_num, by omega⟩
               case measure => simp [intOf]; omega)
        · have hkn : k = n := by omega
          subst hkn
          go_wp2_with fail
          refine (awake8_any _).mono ?_
          rintro r9 w9 ⟨rfl, hb9⟩
          have HB9 := Lib.hid (HB8.out.trans (hb9.mono HB8.out.size))
          clear hb9
          go_wp2
          go_ret
          exact ⟨rfl, HB9.out⟩
  · have h6' : ¬ (n : Int) ≤ 600 := by omega
    go_enter Try.func3, Try.ntmps3
    go_wp2_with fail
    rw [← HWwb.out]
    refine (light8_any _ _ _ _ _ _ rfl _ _ _ rfl _).mono ?_
    rintro r1 w1 ⟨rfl, hb1⟩
    rw [decide_eq_false (show ¬ (n : Int) ≤ 600 by omega)]
    have HB1 := Lib.hid (HBB.out.trans (hb1.mono HBB.out.size))
    clear hb1
    go_wp2_with fail
    refine (awake8_any _).mono ?_
    rintro r8 w8 ⟨rfl, hb8⟩
    have HB8 := Lib.hid (HB1.out.trans (hb8.mono HB1.out.size))
    clear hb8
    go_wp2
    go_ret
    exact ⟨rfl, HB8.out⟩
theorem tensorSmall_ints (v : Value) (t : Tn) (x s r : Int) (w : World) (h : RT .i32 w v t) (hs : (Lit.int .u64 s).wf = true) (hr : (Lit.int .u64 r).wf = true) :
    Calls Try.prog 3 #[v, .int .i64 x, .int .u64 s, .int .u64 r] w fun e w' => e = .returned (.bool true) ∧ Below w.heap.size w w' := by
  obtain ⟨S, hS⟩ := N_wf hs
  obtain ⟨R, hR⟩ := N_wf hr
  exact tensorSmall_any v t x s r S R hS hR w h
end Go.Proofs.Ytcbcfajihbbdcaa
