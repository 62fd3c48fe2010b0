/- TensorTwice. -/
import Derived.Test.YtcbcfajihbbdcaaLaw8
import Derived.Test.YtcbcfajihbbdcaaPush
namespace Go.Proofs.Ytcbcfajihbbdcaa
open Go.RowKit
set_option maxHeartbeats 2000000
/-- All within d. -/
def InD (d : Int) (l : List Int) : Prop := ∀ x ∈ l, -d ≤ x ∧ x ≤ d
theorem mayB_parts {t : Tn} (h : mayB t = true) : mayD t.dims = true ∧ (t.data.length : Int) = szD t.dims ∧ expB t.exp 64 = true ∧ t.data.contains (-128) = false := by
  unfold mayB at h
  simp only [Bool.and_eq_true, decide_eq_true_eq, Bool.not_eq_true'] at h
  exact ⟨h.1.1.1, h.1.1.2, h.1.2, h.2⟩
theorem mayB_in {t : Tn} (h : mayB t = true) (hf : Fits .i8 t.data) : InD 127 t.data := by
  intro x hx
  have h1 := fits_i8_iff.1 hf x hx
  have h2 := (mayB_parts h).2.2.2
  have : x ≠ -128 := by
    rintro rfl
    have := List.contains_iff_mem.2 hx
    rw [h2] at this
    exact absurd this (by decide)
  omega
theorem bits7 {x : Int} (h : -127 ≤ x ∧ x ≤ 127) : bitsI x ≤ 7 := by
  unfold bitsI
  have hn : numb x = x := by unfold numb cl; omega
  have := Lib.bitLen_le x.natAbs 7 (by omega) (by omega)
  rw [hn]
  omega
theorem width7 {l : List Int} (h : InD 127 l) : ∀ a, a ≤ 7 → l.foldl (fun a x => max a (bitsI x)) a ≤ 7 := by
  induction l with
  | nil => intro a ha; exact ha
  | cons x l ih =>
    intro a ha
    rw [List.foldl_cons]
    have := bits7 (h x (by simp))
    exact ih (fun y hy => h y (List.mem_cons_of_mem _ hy)) _ (by omega)
theorem chance_stay {v : Int} (r : BitVec 64) (h : -127 ≤ v ∧ v ≤ 127) : chanceI v 0 r = v := by
  have hs : shN 0 = 0 := by decide
  unfold chanceI
  rw [hs]
  have hn : numb v = v := by unfold numb cl; omega
  rw [hn]
  simp
theorem clamp8_stay {v : Int} (h : -127 ≤ v ∧ v ≤ 127) : clampI v 8 = v := by
  have hw : wid 8 = 7 := by decide
  unfold clampI cl
  rw [hw]
  omega
theorem smallFrom_stay (s r : BitVec 64) : ∀ (l : List Int) (i : Nat), InD 127 l → smallFrom 8 0 s r i l = l
  | [], _, _ => rfl
  | v :: l, i, h => by
    have hv := h v (by simp)
    rw [smallFrom, smallAt, chance_stay _ hv, clamp8_stay hv, smallFrom_stay s r l (i + 1) (fun y hy => h y (List.mem_cons_of_mem _ hy))]
theorem mayAcc_of_may {t : Tn} (h : mayB t = true) : mayAccB t = true := by
  obtain ⟨h1, h2, h3, _⟩ := mayB_parts h
  have := expB_in h3
  unfold mayAccB expB
  simp [h1, h2]
  omega
theorem small_stay {t : Tn} (s r : BitVec 64) (h : mayB t = true) (hf : Fits .i8 t.data) : smallE t 8 s r = (t, 0) := by
  have hin := mayB_in h hf
  have hm := mayAcc_of_may h
  have hw : widthB t ≤ 7 := by unfold widthB; rw [if_pos hm]; exact width7 hin 0 (by omega)
  unfold smallE
  have hz : max 0 (widthB t - (8 - 1)) = (0 : Int) := by omega
  rw [if_neg (by rw [hm]; simp)]
  simp only [hz, Int.add_zero, (mayB_parts h).2.2.1, if_true, smallFrom_stay s r _ _ hin]
theorem reads_blk' {k : IntKind} {w : World} {v : Value} {l : List Int} {B : Nat} {E : TypeId} (h : w.ownsRow B E 1 v l.length (kv k l)) (hf : Fits k l) (hm : l.length ≤ maxLen) : Reads k w v l := ⟨holds_own h, hf, hm⟩
theorem tensorTwice_any (v : Value) (t : Tn) (s r : Int) (S R : BitVec 64) (hs : s = N S) (hr : r = N R) (w : World) (h : RT .i8 w v t) :
    Calls Try.prog 5 #[v, .int .u64 s, .int .u64 r] w fun e w' => e = .returned (.bool true) ∧ Below w.heap.size w w' := by
  have HR := Lib.hid h
  have HS := Lib.hid hs
  have HRR := Lib.hid hr
  obtain ⟨d, a, rfl, hd, ha, hw⟩ := h
  obtain ⟨D, e, A⟩ := t
  simp only at hd ha hw HR ⊢
  obtain ⟨ao, cap, hav, _⟩ := ha.1
  rw [kv_len] at hav
  subst hav
  obtain ⟨dao, dcap, hdv, _⟩ := hd.1
  rw [kv_len] at hdv
  subst hdv
  have hlm := ha.2.2
  unfold maxLen at hlm
  obtain ⟨n, hn⟩ : ∃ n, A.length = n := ⟨_, rfl⟩
  rw [hn] at ha hlm HR ⊢
  obtain ⟨wb, hwwb⟩ : ∃ wb, wb = w.alloc (.cells #[.slice dao D.length dcap, .int .i64 e, .slice ao n cap] 31) := ⟨_, rfl⟩
  have hbwb : Below w.heap.size w wb := by rw [hwwb]; exact (Below.refl _ _).alloc (Nat.le_refl _) _
  have hblwb : wb.heap[w.heap.size]? = some (.cells #[.slice dao D.length dcap, .int .i64 e, .slice ao n cap] 31 (0, 0)) := by rw [hwwb]; exact Deep.blk_alloc_new _ _
  have hswb : w.heap.size < wb.heap.size := by rw [hwwb]; simp
  have c0 : wb.cell? ⟨w.heap.size, 0, none⟩ = some (.slice dao D.length dcap) := cell_at hblwb rfl
  have c1 : wb.cell? ⟨w.heap.size, 1, none⟩ = some (.int .i64 e) := cell_at hblwb rfl
  have c2 : wb.cell? ⟨w.heap.size, 2, none⟩ = some (.slice ao n cap) := cell_at hblwb rfl
  have HWwb := Lib.hid hwwb
  have HBLwb := Lib.hid hblwb
  clear hwwb hblwb
  have HRB : Hid (RT .i8 wb (.agg #[.slice dao D.length dcap, .int .i64 e, .slice ao n cap]) ⟨D, e, A⟩) := Lib.hid (HR.out.below hbwb)
  have HBB := Lib.hid hbwb
  have HN := Lib.hid hn
  have HD := Lib.hid (hd.below hbwb)
  have HA := Lib.hid (ha.below hbwb)
  clear hbwb hd ha hn hs hr
  by_cases hm : mayB ⟨D, e, A⟩ = true
  · by_cases h6 : n ≤ 600
    · obtain ⟨i0, hi, hz0, hz1, hz2⟩ := info_parts info32
      have i6 : (n : Int) ≤ 600 := by omega
      have HM := Lib.hid hm
      have HMA := Lib.hid (mayAcc_of_may hm)
      have HSA := Lib.hid (show sameB ⟨D, e, A⟩ ⟨D, e, A⟩ = true from by simp [sameB])
      obtain ⟨W7, hW7⟩ : ∃ W7, widthB ⟨D, e, A⟩ = W7 := ⟨_, rfl⟩
      have hW7' : W7 ≤ 7 := by rw [← hW7]; unfold widthB; rw [if_pos (mayAcc_of_may hm)]; exact width7 (mayB_in hm HA.out.2.1) 0 (by omega)
      have HWI := Lib.hid hW7
      clear hm hW7
      go_enter Try.func5, Try.ntmps5
      go_wp2_with fail
      rw [← HWwb.out]
      refine (mayT_any _ _ _ HRB.out).mono ?_
      rintro r1 w1 ⟨rfl, hb1⟩
      rw [HM.out]
      replace c0 := (Below.cell hb1 (World.block_lt_of_cell? _ _ c0)).trans c0
      replace c1 := (Below.cell hb1 (World.block_lt_of_cell? _ _ c1)).trans c1
      replace c2 := (Below.cell hb1 (World.block_lt_of_cell? _ _ c2)).trans c2
      have HB1 := Lib.hid (HBB.out.trans (hb1.mono HBB.out.size))
      have HR1 := Lib.hid (HRB.out.below hb1)
      have HA1 := Lib.hid (HA.out.below hb1)
      have hsb1 := hb1.size
      clear hb1
      have d0 := c0
      have d1 := c1
      have d2 := c2
      obtain ⟨wc, hwwc⟩ : ∃ wc, wc = w1.alloc (.cells #[.slice dao D.length dcap, .int .i64 e, .slice none 0 0] 25) := ⟨_, rfl⟩
      have hbwc : Below w1.heap.size w1 wc := by rw [hwwc]; exact (Below.refl _ _).alloc (Nat.le_refl _) _
      have hblwc : wc.heap[w1.heap.size]? = some (.cells #[.slice dao D.length dcap, .int .i64 e, .slice none 0 0] 25 (0, 0)) := by rw [hwwc]; exact Deep.blk_alloc_new _ _
      have hswc : w1.heap.size < wc.heap.size := by rw [hwwc]; simp
      have z0 : wc.cell? ⟨w1.heap.size, 0, none⟩ = some (.slice dao D.length dcap) := cell_at hblwc rfl
      have z1 : wc.cell? ⟨w1.heap.size, 1, none⟩ = some (.int .i64 e) := cell_at hblwc rfl
      have z2 : wc.cell? ⟨w1.heap.size, 2, none⟩ = some (.slice none 0 0) := cell_at hblwc rfl
      have HWwc := Lib.hid hwwc
      have HBLwc := Lib.hid hblwc
      clear hwwc hblwc
      have HBC := Lib.hid (HB1.out.trans (hbwc.mono HB1.out.size))
      have HRC := Lib.hid (HR1.out.below hbwc)
      have HAC := Lib.hid (HA1.out.below hbwc)
      go_upto_region 4 with (fail)
      rw [← HWwc.out]
      replace c0 := (Below.cell hbwc (World.block_lt_of_cell? _ _ c0)).trans c0
      replace c1 := (Below.cell hbwc (World.block_lt_of_cell? _ _ c1)).trans c1
      replace c2 := (Below.cell hbwc (World.block_lt_of_cell? _ _ c2)).trans c2
      clear hbwc
      go_wp2_with fail
      go_loopw [30] (fun c wr => ∃ (k : Nat) (ra : Option Addr) (rc : Nat), c = .int .i64 k ∧ k ≤ n ∧ wr.heap[w1.heap.size]? = some (.cells #[.slice dao D.length dcap, .int .i64 e, .slice ra k rc] 25 (0, 0)) ∧ wr.ownsRow wc.heap.size 21 1 (.slice ra k rc) k (kv .i32 (A.take k)) ∧ Below w1.heap.size w1 wr) (fun c _ => n - (intOf c).toNat)
      case atStart => exact ⟨0, none, 0, rfl, by omega, HBLwc.out, World.ownsRow_nil _ _ _ _, by rw [HWwc.out]; exact (Below.refl _ _).alloc (Nat.le_refl _) _⟩
      case round =>
        obtain ⟨k, ra, rc, rfl, hk, hbl, hown, hbr⟩ := hrel
        obtain ⟨w2, rfl⟩ : ∃ w2 : World, w2 = wr := ⟨_, rfl⟩
        have HBR := Lib.hid hbr
        have HBL := Lib.hid hbl
        have HOW := Lib.hid hown
        have hsz := hbr.size
        have hszc : w1.heap.size + 1 = wc.heap.size := by rw [HWwc.out]; simp
        have hs1 : w1.heap.size < w2.heap.size := (Array.getElem?_eq_some_iff.1 hbl).1
        clear hbr hbl hown
        by_cases hlt : k < n
        · obtain ⟨b1, o1, rfl, ga, hb1⟩ := reads_cell HA1.out k (by rw [HN.out]; exact hlt)
          replace ga := (HBR.out.cell (p := ⟨b1, o1 + k, none⟩) hb1).trans ga
          have hxb := HA.out.2.1.i8 k
          obtain ⟨x, hx⟩ : ∃ x, A.getD k 0 = x := ⟨_, rfl⟩
          rw [hx] at ga hxb
          have HX := Lib.hid hx
          have i0k : (0 : Int) ≤ (k : Int) := by omega
          have i1k : (k : Int) < (n : Int) := by omega
          have hwx : IntKind.i32.wrap x = x := IntWalk.i32_in _ (by omega)
          have g2 : w2.cell? ⟨w1.heap.size, 2, none⟩ = some (.slice ra k rc) := cell_at HBL.out rfl
          have HO : Hid ((w2.alloc (.cells #[.int .i32 x] 21)).ownsRow wc.heap.size 21 1 (.slice ra k rc) k (kv .i32 (A.take k))) := Lib.hid (owned_below HOW.out ((Below.refl _ _).alloc (Nat.le_refl _) _))
          have hsz2 : wc.heap.size ≤ (w2.alloc (.cells #[.int .i32 x] 21)).heap.size := by simp; omega
          clear hx
          have hnb := Deep.blk_alloc_new w2 (.cells #[.int .i32 x] 21)
          have HNB := Lib.hid hnb
          have hk4 : (k + 1) * 4 ≤ 140737488355328 := by omega
          clear hnb
          go_wp2_with (at_builtin; refine wpList_push rfl _ _ 23 rfl wc.heap.size 21 i0 (.int .i32 0) 4 Try.underlying23 hi hz0 hz1 hz2 rfl _ _ _ rfl HO.out w2.heap.size 1 _ _ rfl HNB.out rfl (by omega) hk4 hsz2 ?_)
          intro g cg w5 ho5 hg5 hgb hgl
          have hgr2 : w2.grownBy w5 (Value.slice ra k rc).ownBlock := grown_trans (grown_alloc _ _ _) hg5
          have hno : (Value.slice ra k rc).ownBlock ≠ some w1.heap.size := by
            intro e1
            rcases HOW.out.2 with ⟨e2, _⟩ | ⟨g', cap', cur', e2, hb', _⟩
            · rw [e2] at e1; simp [Value.ownBlock] at e1
            · rw [e2] at e1; simp [Value.ownBlock] at e1; omega
          have hbl5 : w5.heap[w1.heap.size]? = some (.cells #[.slice dao D.length dcap, .int .i64 e, .slice ra k rc] 25 (0, 0)) := (hgr2.block _ hs1 (fun e1 => hno e1.symm)).trans HBL.out
          have y2 := cell_at hbl5 (i := 2) rfl
          have yf := free_at hbl5 2
          have HB6 : Hid ((w5.setCell ⟨w1.heap.size, 2, none⟩ (.slice (some ⟨g, 0, none⟩) (k + 1) cg)).heap[w1.heap.size]? = some (.cells #[.slice dao D.length dcap, .int .i64 e, .slice (some ⟨g, 0, none⟩) (k + 1) cg] 25 (0, 0))) := Lib.hid (set_blk hbl5 2 _)
          have HO6 : Hid ((w5.setCell ⟨w1.heap.size, 2, none⟩ (.slice (some ⟨g, 0, none⟩) (k + 1) cg)).ownsRow wc.heap.size 21 1 (.slice (some ⟨g, 0, none⟩) (k + 1) cg) (k + 1) (kv .i32 (A.take (k + 1)))) := Lib.hid (by
            rw [← kv_push .i32 A k x (by rw [HN.out]; exact hlt) HX.out]
            rw [← List.map_take] at ho5
            exact ho5.kept (grown_set w5 w1.heap.size 2 (.slice (some ⟨g, 0, none⟩) (k + 1) cg)) (.inr (by simp [Value.ownBlock]; omega)))
          have HB7 : Hid (Below w1.heap.size w1 (w5.setCell ⟨w1.heap.size, 2, none⟩ (.slice (some ⟨g, 0, none⟩) (k + 1) cg))) := Lib.hid ((HBR.out.grown hgr2 hsz (by
            intro j hj
            rcases HOW.out.2 with ⟨e2, _⟩ | ⟨g', cap', cur', e2, hb', _⟩
            · rw [e2] at hj; simp [Value.ownBlock] at hj
            · rw [e2] at hj; simp [Value.ownBlock] at hj; omega)).grown (grown_set _ _ _ _) (by have := hgr2.size; omega) (by intro j hj; cases hj; omega))
          clear hgr2 hno hbl5 ho5 hg5
          go_wp2
          go_roundw
          case rel => exact ⟨k + 1, _, _, by go_num, by omega, HB6.out, HO6.out, HB7.out⟩
          case measure => simp [intOf]; omega
        · have hkn : k = n := by omega
          subst hkn
          have z0 : w2.cell? ⟨w1.heap.size, 0, none⟩ = some (.slice dao D.length dcap) := cell_at HBL.out rfl
          have z1 : w2.cell? ⟨w1.heap.size, 1, none⟩ = some (.int .i64 e) := cell_at HBL.out rfl
          have z2 : w2.cell? ⟨w1.heap.size, 2, none⟩ = some (.slice ra k rc) := cell_at HBL.out rfl
          have HRA := Lib.hid (show RT .i32 w2 (.agg #[.slice dao D.length dcap, .int .i64 e, .slice ra k rc]) ⟨D, e, A⟩ from by
            have hr := (HR1.out.below HBR.out)
            obtain ⟨d1, a1, he, hd1, _⟩ := hr
            cases he
            refine ⟨_, _, rfl, hd1, ⟨?_, ?_, HA.out.2.2⟩, hw⟩
            · have := holds_own HOW.out
              rw [show A.take k = A from List.take_of_length_le (Nat.le_of_eq HN.out)] at this
              exact this
            · exact fits_i32_iff.2 (fun y hy => by have := fits_i8_iff.1 HA.out.2.1 y hy; omega))
          have HRT2 := Lib.hid (HR1.out.below HBR.out)
          have HBW2 := Lib.hid (HB1.out.trans (HBR.out.mono HB1.out.size))
          replace c0 := (HBR.out.cell (p := ⟨w.heap.size, 0, none⟩) (show w.heap.size < w1.heap.size by omega)).trans d0
          replace c1 := (HBR.out.cell (p := ⟨w.heap.size, 1, none⟩) (show w.heap.size < w1.heap.size by omega)).trans d1
          replace c2 := (HBR.out.cell (p := ⟨w.heap.size, 2, none⟩) (show w.heap.size < w1.heap.size by omega)).trans d2
          go_wp2_with fail
          refine (small_lit _ _ _ _ _ S R HS.out HRR.out _ (small_stay _ _ HM.out HA.out.2.1) _ HRA.out).mono ?_
          rintro r5 w5 ⟨v5, rfl, hft, hb5⟩
          have hrt5 := hft.rt
          obtain ⟨ta, tc, xa, xc, rfl, _⟩ := hft.parts
          simp only [HN.out] at hrt5 ⊢
          replace c0 := (Below.cell hb5 (World.block_lt_of_cell? _ _ c0)).trans c0
          replace c1 := (Below.cell hb5 (World.block_lt_of_cell? _ _ c1)).trans c1
          replace c2 := (Below.cell hb5 (World.block_lt_of_cell? _ _ c2)).trans c2
          replace z0 := (Below.cell hb5 (World.block_lt_of_cell? _ _ z0)).trans z0
          replace z1 := (Below.cell hb5 (World.block_lt_of_cell? _ _ z1)).trans z1
          replace z2 := (Below.cell hb5 (World.block_lt_of_cell? _ _ z2)).trans z2
          have HRA5 := Lib.hid (HRA.out.below hb5)
          have HRT5 := Lib.hid (HRT2.out.below hb5)
          have HBW5 := Lib.hid (HBW2.out.trans (hb5.mono HBW2.out.size))
          clear hb5 hft
          obtain ⟨w6, hww6⟩ : ∃ w6, w6 = w5.alloc (.cells #[.slice ta D.length tc, .int .i64 e, .slice xa k xc] 31) := ⟨_, rfl⟩
          have hbw6 : Below w5.heap.size w5 w6 := by rw [hww6]; exact (Below.refl _ _).alloc (Nat.le_refl _) _
          have hblw6 : w6.heap[w5.heap.size]? = some (.cells #[.slice ta D.length tc, .int .i64 e, .slice xa k xc] 31 (0, 0)) := by rw [hww6]; exact Deep.blk_alloc_new _ _
          have hsw6 : w5.heap.size < w6.heap.size := by rw [hww6]; simp
          have u0 : w6.cell? ⟨w5.heap.size, 0, none⟩ = some (.slice ta D.length tc) := cell_at hblw6 rfl
          have u1 : w6.cell? ⟨w5.heap.size, 1, none⟩ = some (.int .i64 e) := cell_at hblw6 rfl
          have u2 : w6.cell? ⟨w5.heap.size, 2, none⟩ = some (.slice xa k xc) := cell_at hblw6 rfl
          have HWw6 := Lib.hid hww6
          have HBLw6 := Lib.hid hblw6
          clear hww6 hblw6
          have HRU := Lib.hid (RT.below (t := ⟨D, e, A⟩) hrt5 hbw6)
          have HRA6 := Lib.hid (HRA5.out.below hbw6)
          have HRT6 := Lib.hid (HRT5.out.below hbw6)
          have HBW6 := Lib.hid (HBW5.out.trans (hbw6.mono HBW5.out.size))
          go_upto_region 10 with (fail)
          rw [← HWw6.out]
          replace c0 := (Below.cell hbw6 (World.block_lt_of_cell? _ _ c0)).trans c0
          replace c1 := (Below.cell hbw6 (World.block_lt_of_cell? _ _ c1)).trans c1
          replace c2 := (Below.cell hbw6 (World.block_lt_of_cell? _ _ c2)).trans c2
          replace z0 := (Below.cell hbw6 (World.block_lt_of_cell? _ _ z0)).trans z0
          replace z1 := (Below.cell hbw6 (World.block_lt_of_cell? _ _ z1)).trans z1
          replace z2 := (Below.cell hbw6 (World.block_lt_of_cell? _ _ z2)).trans z2
          clear hbw6 hrt5
          go_wp2_with fail
          refine (sameT_any _ _ _ _ _ HRU.out HRT6.out).mono ?_
          rintro r7 w7 ⟨rfl, hb7⟩
          rw [HSA.out]
          replace z0 := (Below.cell hb7 (World.block_lt_of_cell? _ _ z0)).trans z0
          replace z1 := (Below.cell hb7 (World.block_lt_of_cell? _ _ z1)).trans z1
          replace z2 := (Below.cell hb7 (World.block_lt_of_cell? _ _ z2)).trans z2
          have HRA7 := Lib.hid (HRA6.out.below hb7)
          have HBW7 := Lib.hid (HBW6.out.trans (hb7.mono HBW6.out.size))
          clear hb7 c0 c1 c2 u0 u1 u2
          go_wp2_with fail
          refine (width_any _ _ _ HRA7.out).mono ?_
          rintro r8 w8 ⟨rfl, hb8⟩
          rw [HWI.out]
          replace z0 := (Below.cell hb8 (World.block_lt_of_cell? _ _ z0)).trans z0
          replace z1 := (Below.cell hb8 (World.block_lt_of_cell? _ _ z1)).trans z1
          replace z2 := (Below.cell hb8 (World.block_lt_of_cell? _ _ z2)).trans z2
          have HRA8 := Lib.hid (HRA7.out.below hb8)
          have HBW8 := Lib.hid (HBW7.out.trans (hb8.mono HBW7.out.size))
          clear hb8
          go_wp2_with fail
          refine (mayAcc_any _ _ _ HRA8.out).mono ?_
          rintro r9 w9 ⟨rfl, hb9⟩
          rw [HMA.out]
          have HBW9 := Lib.hid (HBW8.out.trans (hb9.mono HBW8.out.size))
          clear hb9 z0 z1 z2
          go_wp2_with fail
          refine (awake8_any _).mono ?_
          rintro r10 w10 ⟨rfl, hb10⟩
          have HB10 := Lib.hid (HBW9.out.trans (hb10.mono HBW9.out.size))
          clear hb10
          go_wp2
          go_ret
          exact ⟨rfl, HB10.out⟩
    · have i6 : ¬ (n : Int) ≤ 600 := by omega
      have HM := Lib.hid hm
      clear hm
      go_enter Try.func5, Try.ntmps5
      go_wp2_with fail
      rw [← HWwb.out]
      refine (mayT_any _ _ _ HRB.out).mono ?_
      rintro r1 w1 ⟨rfl, hb1⟩
      rw [HM.out]
      replace c0 := (Below.cell hb1 (World.block_lt_of_cell? _ _ c0)).trans c0
      replace c1 := (Below.cell hb1 (World.block_lt_of_cell? _ _ c1)).trans c1
      replace c2 := (Below.cell hb1 (World.block_lt_of_cell? _ _ c2)).trans c2
      have HB1 := Lib.hid (HBB.out.trans (hb1.mono HBB.out.size))
      clear hb1
      go_wp2_with fail
      refine (awake8_any _).mono ?_
      rintro r2 w2 ⟨rfl, hb2⟩
      have HB2 := Lib.hid (HB1.out.trans (hb2.mono HB1.out.size))
      clear hb2
      go_wp2
      go_ret
      exact ⟨rfl, HB2.out⟩
  · have HM := Lib.hid (Bool.not_eq_true _ ▸ hm)
    clear hm
    go_enter Try.func5, Try.ntmps5
    go_wp2_with fail
    rw [← HWwb.out]
    refine (mayT_any _ _ _ HRB.out).mono ?_
    rintro r1 w1 ⟨rfl, hb1⟩
    rw [HM.out]
    have HB1 := Lib.hid (HBB.out.trans (hb1.mono HBB.out.size))
    clear hb1
    go_wp2_with fail
    refine (awake8_any _).mono ?_
    rintro r2 w2 ⟨rfl, hb2⟩
    have HB2 := Lib.hid (HB1.out.trans (hb2.mono HB1.out.size))
    clear hb2
    go_wp2
    go_ret
    exact ⟨rfl, HB2.out⟩
theorem tensorTwice_ints (v : Value) (t : Tn) (s r : Int) (w : World) (h : RT .i8 w v t) (hs : (Lit.int .u64 s).wf = true) (hr : (Lit.int .u64 r).wf = true) :
    Calls Try.prog 5 #[v, .int .u64 s, .int .u64 r] w fun e w' => e = .returned (.bool true) ∧ Below w.heap.size w w' := by
  obtain ⟨S, hS⟩ := N_wf hs
  obtain ⟨R, hR⟩ := N_wf hr
  exact tensorTwice_any v t s r S R hS hR w h
end Go.Proofs.Ytcbcfajihbbdcaa
