/- TensorChance. -/
import Derived.Test.YtcbcfajihbbdcaaLaw8S
namespace Go.Proofs.Ytcbcfajihbbdcaa
open Go.RowKit
set_option maxHeartbeats 4000000
theorem tensorChance_far (v : Value) (A : List Int) (i x s r : Int) (w : World) (h : Reads .i32 w v A) (hn : A.length < 2 ∨ 300 < A.length) :
    Calls Try.prog 4 #[v, .int .i64 i, .int .i32 x, .int .u64 s, .int .u64 r] w fun e w' => e = .returned (.bool true) ∧ Below w.heap.size w w' := by
  obtain ⟨ao, cap, hav, _⟩ := h.1
  rw [kv_len] at hav
  subst hav
  obtain ⟨n, hn2⟩ : ∃ n, A.length = n := ⟨_, rfl⟩
  rw [hn2] at hn ⊢
  by_cases h1 : n < 2
  · have i1 : (n : Int) < 2 := by omega
    clear hn h hn2
    go_enter Try.func4, Try.ntmps4
    go_wp2_with fail
    refine (awake8_any _).mono ?_
    rintro r9 w9 ⟨rfl, hb9⟩
    have HB9 := Lib.hid hb9
    clear hb9
    go_wp2
    go_ret
    exact ⟨rfl, HB9.out⟩
  · have i1 : ¬ (n : Int) < 2 := by omega
    have i2 : 300 < (n : Int) := by omega
    clear hn h hn2
    go_enter Try.func4, Try.ntmps4
    go_wp2_with fail
    refine (awake8_any _).mono ?_
    rintro r9 w9 ⟨rfl, hb9⟩
    have HB9 := Lib.hid hb9
    clear hb9
    go_wp2
    go_ret
    exact ⟨rfl, HB9.out⟩
theorem chance_acc {A : List Int} {n : Nat} (hn : A.length = n) (h2 : 2 ≤ n) (h3 : n ≤ 300) : mayAccB ⟨[(n : Int)], 0, A⟩ = true := by
  unfold mayAccB
  have hd : mayD [(n : Int)] = true := by rw [mayD_iff]; simp [prodFrom]; omega
  have hz : szD [(n : Int)] = n := by unfold szD; rw [if_pos hd]; simp [prodFrom]
  rw [hd, hz, hn]
  simp [expB]
theorem chance_small {A : List Int} {n : Nat} (S R : BitVec 64) (hn : A.length = n) (h2 : 2 ≤ n) (h3 : n ≤ 300) (hf : Fits .i32 A) :
    smallE ⟨[(n : Int)], 0, A⟩ 8 S R = (⟨[(n : Int)], max 0 (widthL A - 7), smallFrom 8 (max 0 (widthL A - 7)) S R 0 A⟩, 0) := by
  have hm := chance_acc hn h2 h3
  have hW : widthB ⟨[(n : Int)], 0, A⟩ = widthL A := by unfold widthB; rw [if_pos hm]
  have h32 := width_le32 hf 0 (by omega)
  unfold smallE
  rw [if_neg (by rw [hm]; simp)]
  have he : expB (0 + max 0 (widthL A - (8 - 1))) 64 = true := by
    unfold expB
    have : widthL A ≤ 32 := h32
    simp
    omega
  simp only [hW, he, if_true]
  simp
theorem chance_apart {A : List Int} {i k : Nat} {x z : Int} (S R : BitVec 64) (hk : k < A.length) (hne : k ≠ i) : (smallFrom 8 z S R 0 A).getD k 0 = (smallFrom 8 z S R 0 (A.set i x)).getD k 0 := by
  rw [smallFrom_getD _ _ _ _ _ _ _ hk, smallFrom_getD _ _ _ _ _ _ _ (by simpa using hk)]
  congr 1
  rw [List.getD_eq_getElem?_getD, List.getD_eq_getElem?_getD, List.getElem?_set_ne (Ne.symm hne)]
theorem tensorChance_main (ao : Option Addr) (n cap : Nat) (A : List Int) (i x s r : Int) (S R : BitVec 64) (hs : s = N S) (hr : r = N R) (w : World) (h : Reads .i32 w (.slice ao n cap) A) (hn : A.length = n) (h2 : 2 ≤ n) (h3 : n ≤ 300) (hx : (Lit.int .i32 x).wf = true) :
    Calls Try.prog 4 #[.slice ao n cap, .int .i64 i, .int .i32 x, .int .u64 s, .int .u64 r] w fun e w' => e = .returned (.bool true) ∧ Below w.heap.size w w' := by
  obtain ⟨i0, hi, hz0, hz1, hz2⟩ := info_parts info32
  obtain ⟨b, off, rfl, ga, hbl⟩ := reads_cell h 0 (by omega)
  have HR := Lib.hid h
  have HS := Lib.hid hs
  have HRR := Lib.hid hr
  have HN := Lib.hid hn
  obtain ⟨I, hI, hIn⟩ := u64_mod i n (by omega) (by omega)
  have hnw : IntKind.u64.wrap (n : Int) = n := IntWalk.u64_in _ (by omega)
  have i1 : ¬ (n : Int) < 2 := by omega
  have i2 : ¬ 300 < (n : Int) := by omega
  have HX := Lib.hid hx
  clear h hs hr hn ga hx
  go_enter Try.func4, Try.ntmps4
  obtain ⟨w1, hww1⟩ : ∃ w1, w1 = w.alloc (.cells #[.int .i64 n] 3) := ⟨_, rfl⟩
  have hbw1 : Below w.heap.size w w1 := by rw [hww1]; exact (Below.refl _ _).alloc (Nat.le_refl _) _
  have hblw1 : w1.heap[w.heap.size]? = some (.cells #[.int .i64 n] 3 (0, 0)) := by rw [hww1]; exact Deep.blk_alloc_new _ _
  have hsw1 : w.heap.size < w1.heap.size := by rw [hww1]; simp
  have d0 : w1.cell? ⟨w.heap.size, 0, none⟩ = some (.int .i64 n) := cell_at hblw1 rfl
  have HWw1 := Lib.hid hww1
  have HBLw1 := Lib.hid hblw1
  clear hww1 hblw1
  obtain ⟨wa, hwwa⟩ : ∃ wa, wa = w1.alloc (.cells #[.slice (some ⟨w.heap.size, 0, none⟩) 1 1, .int .i64 0, .slice (some ⟨b, off, none⟩) n cap] 25) := ⟨_, rfl⟩
  have hbwa : Below w1.heap.size w1 wa := by rw [hwwa]; exact (Below.refl _ _).alloc (Nat.le_refl _) _
  have hblwa : wa.heap[w1.heap.size]? = some (.cells #[.slice (some ⟨w.heap.size, 0, none⟩) 1 1, .int .i64 0, .slice (some ⟨b, off, none⟩) n cap] 25 (0, 0)) := by rw [hwwa]; exact Deep.blk_alloc_new _ _
  have hswa : w1.heap.size < wa.heap.size := by rw [hwwa]; simp
  have a0 : wa.cell? ⟨w1.heap.size, 0, none⟩ = some (.slice (some ⟨w.heap.size, 0, none⟩) 1 1) := cell_at hblwa rfl
  have a1 : wa.cell? ⟨w1.heap.size, 1, none⟩ = some (.int .i64 0) := cell_at hblwa rfl
  have a2 : wa.cell? ⟨w1.heap.size, 2, none⟩ = some (.slice (some ⟨b, off, none⟩) n cap) := cell_at hblwa rfl
  have HWwa := Lib.hid hwwa
  have HBLwa := Lib.hid hblwa
  clear hwwa hblwa
  go_upto_region 4 with (fail)
  rw [← HWw1.out, ← HWwa.out]
  have hsw1 : w1.heap.size = w.heap.size + 1 := by rw [HWw1.out]; simp
  have hbwa' : Below w.heap.size w wa := hbw1.trans (hbwa.mono (by omega))
  have HL := Lib.hid (HR.out.below hbwa')
  have HD0 := Lib.hid (show Reads .i64 wa (.slice (some ⟨w.heap.size, 0, none⟩) 1 1) [(n : Int)] from (reads_blk (l := [(n : Int)]) (n := 1) (cap := 1) HBLw1.out rfl (fun y hy => by simp at hy; subst hy; exact WalkArith.wf_i64 (by omega)) rfl (by decide) (by decide)).below hbwa)
  have HBA := Lib.hid hbwa'
  have hswa2 : w.heap.size + 2 ≤ wa.heap.size := by rw [HWwa.out]; simp; omega
  rw [hsw1] at a0 a1 a2
  clear hbwa hbwa' hbw1 hswa hsw1
  have HO : Hid (((wa.alloc (.cells #[.int .i64 n] 3)).alloc (.cells #[] 21)).ownsRow (wa.heap.size + 1) 21 1 (.slice (some ⟨wa.heap.size + 1, 0, none⟩) 0 0) 0 []) := Lib.hid (by
    have := World.ownsRow_made (base := wa.heap.size + 1) (e := 21) (size := 1) (wa.alloc (.cells #[.int .i64 n] 3)) #[] 0 (by simp) (Nat.zero_le _) rfl
    simpa using this)
  go_wp2_with (at_builtin; go_loud (refine wpList_append_own _ rfl _ _ 23 rfl (wa.heap.size + 1) 21 i0 (.int .i32 0) 1 4 Try.underlying23 hi hz0 hz1 hz2 rfl (by decide) _ _ _ rfl HO.out ⟨b, off, none⟩ n cap (kv .i32 A) rfl ?c1 ?c2 ?c3 ?c4 ?c5 ?c6 ?_))
  case c1 => exact HN.out
  case c2 =>
    intro j u hj
    obtain ⟨a', c', he, _, _, hh⟩ := HL.out.1
    injection he with he1 he2 he3
    subst he1
    have hj2 : (kv .i32 A)[j]? = some (.int .i32 u) := by rw [List.getElem?_map, hj]; rfl
    rcases hh with hh | ⟨b', o', he4, hh⟩
    · rw [hh] at hj2; simp at hj2
    · cases he4
      exact Lib.cell?_alloc_some _ (Lib.cell?_alloc_some _ (hh j _ hj2))
  case c3 => intro u hu; rfl
  case c4 => unfold maxLen; omega
  case c5 => omega
  intro v' w4 hown hgrow hnil
  obtain ⟨g, cg, rfl, hg1, hg2, hg3⟩ := owned_shape hown (by omega)
  clear hnil
  obtain ⟨w2, hww2⟩ : ∃ w2, w2 = wa.alloc (.cells #[.int .i64 n] 3) := ⟨_, rfl⟩
  have hbw2 : Below wa.heap.size wa w2 := by rw [hww2]; exact (Below.refl _ _).alloc (Nat.le_refl _) _
  have hblw2 : w2.heap[wa.heap.size]? = some (.cells #[.int .i64 n] 3 (0, 0)) := by rw [hww2]; exact Deep.blk_alloc_new _ _
  have hsw2 : wa.heap.size < w2.heap.size := by rw [hww2]; simp
  have HWw2 := Lib.hid hww2
  have HBLw2 := Lib.hid hblw2
  clear hww2 hblw2
  have hsw2 : w2.heap.size = wa.heap.size + 1 := by rw [HWw2.out]; simp
  have hb24 : Below w2.heap.size w2 w4 := by
    rw [HWw2.out]
    refine ((Below.refl _ (wa.alloc _)).alloc (by simp) _).grown hgrow (by simp) ?_
    intro k hk
    simp [Value.ownBlock] at hk
    simp
    omega
  obtain ⟨w5, hww5⟩ : ∃ w5, w5 = w4.alloc (.cells #[.slice (some ⟨wa.heap.size, 0, none⟩) 1 1, .int .i64 0, .slice (some ⟨g, 0, none⟩) n cg] 25) := ⟨_, rfl⟩
  have hbw5 : Below w4.heap.size w4 w5 := by rw [hww5]; exact (Below.refl _ _).alloc (Nat.le_refl _) _
  have hblw5 : w5.heap[w4.heap.size]? = some (.cells #[.slice (some ⟨wa.heap.size, 0, none⟩) 1 1, .int .i64 0, .slice (some ⟨g, 0, none⟩) n cg] 25 (0, 0)) := by rw [hww5]; exact Deep.blk_alloc_new _ _
  have hsw5 : w4.heap.size < w5.heap.size := by rw [hww5]; simp
  have e0 : w5.cell? ⟨w4.heap.size, 0, none⟩ = some (.slice (some ⟨wa.heap.size, 0, none⟩) 1 1) := cell_at hblw5 rfl
  have e1 : w5.cell? ⟨w4.heap.size, 1, none⟩ = some (.int .i64 0) := cell_at hblw5 rfl
  have e2 : w5.cell? ⟨w4.heap.size, 2, none⟩ = some (.slice (some ⟨g, 0, none⟩) n cg) := cell_at hblw5 rfl
  have HWw5 := Lib.hid hww5
  have HBLw5 := Lib.hid hblw5
  clear hww5 hblw5
  go_upto_region 5 with (fail)
  rw [← HWw5.out]
  have hbl5 : w.heap.size + 2 ≤ w4.heap.size ∧ wa.heap.size + 1 ≤ w4.heap.size := by have := hb24.size; omega
  have hgi : g ≠ w4.heap.size := by omega
  have hD2 := (reads_blk (l := [(n : Int)]) (n := 1) (cap := 1) HBLw2.out rfl (fun y hy => by simp at hy; subst hy; exact WalkArith.wf_i64 (by omega)) rfl (by decide) (by decide))
  have hb25 : Below w2.heap.size w2 w5 := hb24.trans (hbw5.mono hb24.size)
  have ho5 : w5.ownsRow (wa.heap.size + 1) 21 1 (.slice (some ⟨g, 0, none⟩) n cg) n (kv .i32 A) := owned_below hown hbw5
  have gk : w5.cell? ⟨g, I, none⟩ = some (.int .i32 (A.getD I 0)) := (ho5.cellAt I (by omega)).trans (kv_getD _ _ _ (by rw [HN.out]; omega))
  have gf : w5.frozen? ⟨g, I, none⟩ = false := ho5.frozenAt I
  obtain ⟨hs1, hs2⟩ := ho5.stored I (.int .i32 x)
  rw [kv_set] at hs1
  have hHB5 := HBLw5.out
  obtain ⟨w6, hw6⟩ : ∃ w6, w6 = w5.setCell ⟨g, I, none⟩ (.int .i32 x) := ⟨_, rfl⟩
  rw [← hw6] at hs1 hs2
  have hb26 : Below w2.heap.size w2 w6 := hb25.grown hs2 hb25.size (by intro k hk; simp [Value.ownBlock] at hk; omega)
  have hba2 : Below wa.heap.size wa w2 := by rw [HWw2.out]; exact (Below.refl _ _).alloc (Nat.le_refl _) _
  have hba6 : Below wa.heap.size wa w6 := hba2.trans (hb26.mono hba2.size)
  have f0 : w6.cell? ⟨w4.heap.size, 0, none⟩ = some (.slice (some ⟨wa.heap.size, 0, none⟩) 1 1) := (hs2.cell e0 (by simp [Value.ownBlock]; omega))
  have f1 : w6.cell? ⟨w4.heap.size, 1, none⟩ = some (.int .i64 0) := (hs2.cell e1 (by simp [Value.ownBlock]; omega))
  have f2 : w6.cell? ⟨w4.heap.size, 2, none⟩ = some (.slice (some ⟨g, 0, none⟩) n cg) := (hs2.cell e2 (by simp [Value.ownBlock]; omega))
  replace a0 := (Below.cell hba6 (World.block_lt_of_cell? _ _ a0)).trans a0
  replace a1 := (Below.cell hba6 (World.block_lt_of_cell? _ _ a1)).trans a1
  replace a2 := (Below.cell hba6 (World.block_lt_of_cell? _ _ a2)).trans a2
  have HRA := Lib.hid (show RT .i32 w6 (.agg #[.slice (some ⟨w.heap.size, 0, none⟩) 1 1, .int .i64 0, .slice (some ⟨b, off, none⟩) n cap]) ⟨[(n : Int)], 0, A⟩ from ⟨_, _, rfl, HD0.out.below hba6, HL.out.below hba6, rfl⟩)
  have HRB := Lib.hid (show RT .i32 w6 (.agg #[.slice (some ⟨wa.heap.size, 0, none⟩) 1 1, .int .i64 0, .slice (some ⟨g, 0, none⟩) n cg]) ⟨[(n : Int)], 0, A.set I x⟩ from
    ⟨_, _, rfl, hD2.below hb26, ⟨holds_own hs1, fun y hy => by
      rcases List.mem_or_eq_of_mem_set hy with hy | rfl
      · exact HR.out.2.1 y hy
      · exact HX.out, by rw [List.length_set]; exact HR.out.2.2⟩, rfl⟩)
  have HB6 := Lib.hid (HBA.out.trans (hba6.mono HBA.out.size))
  have HW6 := Lib.hid hw6
  clear hw6 hb26 hba2 hba6 hHB5 hs1 hs2 hb25 hb24 hbw5 hown hgrow ho5
  have i0I : (0 : Int) ≤ (I : Int) := by omega
  go_upto_region 7 with (fail)
  rw [← HW6.out]
  have HBX := HB6
  obtain ⟨T1, hT1⟩ : ∃ T, smallFrom 8 (max 0 (widthL A - 7)) S R 0 A = T := ⟨_, rfl⟩
  obtain ⟨T3, hT3⟩ : ∃ T, smallFrom 8 (max 0 (widthL (A.set I x) - 7)) S R 0 (A.set I x) = T := ⟨_, rfl⟩
  have hlB : (A.set I x).length = n := by rw [List.length_set]; exact HN.out
  have hfB : Fits .i32 (A.set I x) := by
    intro y hy
    rcases List.mem_or_eq_of_mem_set hy with hy | rfl
    · exact HR.out.2.1 y hy
    · exact HX.out
  have hp1 := chance_small S R HN.out h2 h3 HR.out.2.1
  have hp3 := chance_small S R hlB h2 h3 hfB
  rw [hT1] at hp1
  rw [hT3] at hp3
  have HTN1 := Lib.hid (show T1.length = n by rw [← hT1, smallFrom_len]; exact HN.out)
  have HTN3 := Lib.hid (show T3.length = n by rw [← hT3, smallFrom_len]; exact hlB)
  have HWA := Lib.hid (show widthB ⟨[(n : Int)], 0, A⟩ = widthL A by unfold widthB; rw [if_pos (chance_acc HN.out h2 h3)])
  have HWB := Lib.hid (show widthB ⟨[(n : Int)], 0, A.set I x⟩ = widthL (A.set I x) by unfold widthB; rw [if_pos (chance_acc hlB h2 h3)])
  have HAP := Lib.hid (show widthL A = widthL (A.set I x) → ∀ k, k < n → k ≠ I → T1.getD k 0 = T3.getD k 0 from by
    intro he k hk hne
    rw [← hT1, ← hT3, ← he]
    exact chance_apart S R (by rw [HN.out]; exact hk) hne)
  obtain ⟨WA, hWA⟩ : ∃ WA, widthL A = WA := ⟨_, rfl⟩
  obtain ⟨WB, hWB⟩ : ∃ WB, widthL (A.set I x) = WB := ⟨_, rfl⟩
  rw [hWA] at hp1 HWA HAP
  rw [hWB] at hp3 HWB HAP
  obtain ⟨z1, hz1'⟩ : ∃ z, max 0 (WA - 7) = z := ⟨_, rfl⟩
  obtain ⟨z3, hz3'⟩ : ∃ z, max 0 (WB - 7) = z := ⟨_, rfl⟩
  rw [hz1'] at hp1
  rw [hz3'] at hp3
  have HP1 := Lib.hid hp1
  have HP3 := Lib.hid hp3
  clear hT1 hT3 hlB hfB hp1 hp3 hWA hWB hz1' hz3' HB6
  obtain ⟨T2, hT2⟩ : ∃ T2, T2 = T1 := ⟨_, rfl⟩
  have HP2 : Hid (smallE ⟨[(n : Int)], 0, A⟩ 8 S R = (⟨[(n : Int)], z1, T2⟩, 0)) := by rw [hT2]; exact HP1
  have HTN2 : Hid (T2.length = n) := by rw [hT2]; exact HTN1
  have HT21 := Lib.hid hT2
  clear hT2
  go_wp2_with fail
  refine (small_lit _ _ _ _ _ S R HS.out HRR.out _ HP1.out _ HRA.out).mono ?_
  rintro r1 w7 ⟨v1, rfl, hft, hb1⟩
  have hrt1 := hft.rt
  obtain ⟨ta1, tc1, xa1, xc1, rfl, _⟩ := hft.parts
  simp only [HTN1.out, List.length_cons, List.length_nil, Nat.zero_add] at hrt1 ⊢
  replace a0 := (Below.cell hb1 (World.block_lt_of_cell? _ _ a0)).trans a0
  replace a1 := (Below.cell hb1 (World.block_lt_of_cell? _ _ a1)).trans a1
  replace a2 := (Below.cell hb1 (World.block_lt_of_cell? _ _ a2)).trans a2
  replace f0 := (Below.cell hb1 (World.block_lt_of_cell? _ _ f0)).trans f0
  replace f1 := (Below.cell hb1 (World.block_lt_of_cell? _ _ f1)).trans f1
  replace f2 := (Below.cell hb1 (World.block_lt_of_cell? _ _ f2)).trans f2
  have HRA := Lib.hid (HRA.out.below hb1)
  have HRB := Lib.hid (HRB.out.below hb1)
  have HB1 := Lib.hid (HBX.out.trans (hb1.mono HBX.out.size))
  clear HBX
  have HBX := HB1
  clear hb1 hft
  obtain ⟨w8, hww8⟩ : ∃ w8, w8 = w7.alloc (.cells #[.slice ta1 1 tc1, .int .i64 z1, .slice xa1 n xc1] 31) := ⟨_, rfl⟩
  have hbw8 : Below w7.heap.size w7 w8 := by rw [hww8]; exact (Below.refl _ _).alloc (Nat.le_refl _) _
  have hblw8 : w8.heap[w7.heap.size]? = some (.cells #[.slice ta1 1 tc1, .int .i64 z1, .slice xa1 n xc1] 31 (0, 0)) := by rw [hww8]; exact Deep.blk_alloc_new _ _
  have hsw8 : w7.heap.size < w8.heap.size := by rw [hww8]; simp
  have p0 : w8.cell? ⟨w7.heap.size, 0, none⟩ = some (.slice ta1 1 tc1) := cell_at hblw8 rfl
  have p1 : w8.cell? ⟨w7.heap.size, 1, none⟩ = some (.int .i64 z1) := cell_at hblw8 rfl
  have p2 : w8.cell? ⟨w7.heap.size, 2, none⟩ = some (.slice xa1 n xc1) := cell_at hblw8 rfl
  have HWw8 := Lib.hid hww8
  have HBLw8 := Lib.hid hblw8
  clear hww8 hblw8
  have HT1 := Lib.hid (RT.below (t := ⟨[(n : Int)], z1, T1⟩) hrt1 hbw8)
  have HRA := Lib.hid (HRA.out.below hbw8)
  have HRB := Lib.hid (HRB.out.below hbw8)
  have HB1b := Lib.hid (HBX.out.trans (hbw8.mono HBX.out.size))
  clear HBX
  have HBX := HB1b
  go_upto_region 8 with (fail)
  rw [← HWw8.out]
  replace a0 := (Below.cell hbw8 (World.block_lt_of_cell? _ _ a0)).trans a0
  replace a1 := (Below.cell hbw8 (World.block_lt_of_cell? _ _ a1)).trans a1
  replace a2 := (Below.cell hbw8 (World.block_lt_of_cell? _ _ a2)).trans a2
  replace f0 := (Below.cell hbw8 (World.block_lt_of_cell? _ _ f0)).trans f0
  replace f1 := (Below.cell hbw8 (World.block_lt_of_cell? _ _ f1)).trans f1
  replace f2 := (Below.cell hbw8 (World.block_lt_of_cell? _ _ f2)).trans f2
  clear hbw8 hrt1
  go_wp2_with fail
  refine (small_lit _ _ _ _ _ S R HS.out HRR.out _ HP2.out _ HRA.out).mono ?_
  rintro r2 w9 ⟨v2, rfl, hft, hb2⟩
  have hrt2 := hft.rt
  obtain ⟨ta2, tc2, xa2, xc2, rfl, _⟩ := hft.parts
  simp only [HTN2.out, List.length_cons, List.length_nil, Nat.zero_add] at hrt2 ⊢
  replace a0 := (Below.cell hb2 (World.block_lt_of_cell? _ _ a0)).trans a0
  replace a1 := (Below.cell hb2 (World.block_lt_of_cell? _ _ a1)).trans a1
  replace a2 := (Below.cell hb2 (World.block_lt_of_cell? _ _ a2)).trans a2
  replace f0 := (Below.cell hb2 (World.block_lt_of_cell? _ _ f0)).trans f0
  replace f1 := (Below.cell hb2 (World.block_lt_of_cell? _ _ f1)).trans f1
  replace f2 := (Below.cell hb2 (World.block_lt_of_cell? _ _ f2)).trans f2
  replace p0 := (Below.cell hb2 (World.block_lt_of_cell? _ _ p0)).trans p0
  replace p1 := (Below.cell hb2 (World.block_lt_of_cell? _ _ p1)).trans p1
  replace p2 := (Below.cell hb2 (World.block_lt_of_cell? _ _ p2)).trans p2
  have HRA := Lib.hid (HRA.out.below hb2)
  have HRB := Lib.hid (HRB.out.below hb2)
  have HT1 := Lib.hid (HT1.out.below hb2)
  have HB2 := Lib.hid (HBX.out.trans (hb2.mono HBX.out.size))
  clear HBX
  have HBX := HB2
  clear hb2 hft
  obtain ⟨w10, hww10⟩ : ∃ w10, w10 = w9.alloc (.cells #[.slice ta2 1 tc2, .int .i64 z1, .slice xa2 n xc2] 31) := ⟨_, rfl⟩
  have hbw10 : Below w9.heap.size w9 w10 := by rw [hww10]; exact (Below.refl _ _).alloc (Nat.le_refl _) _
  have hblw10 : w10.heap[w9.heap.size]? = some (.cells #[.slice ta2 1 tc2, .int .i64 z1, .slice xa2 n xc2] 31 (0, 0)) := by rw [hww10]; exact Deep.blk_alloc_new _ _
  have hsw10 : w9.heap.size < w10.heap.size := by rw [hww10]; simp
  have q0 : w10.cell? ⟨w9.heap.size, 0, none⟩ = some (.slice ta2 1 tc2) := cell_at hblw10 rfl
  have q1 : w10.cell? ⟨w9.heap.size, 1, none⟩ = some (.int .i64 z1) := cell_at hblw10 rfl
  have q2 : w10.cell? ⟨w9.heap.size, 2, none⟩ = some (.slice xa2 n xc2) := cell_at hblw10 rfl
  have HWw10 := Lib.hid hww10
  have HBLw10 := Lib.hid hblw10
  clear hww10 hblw10
  have HT2 := Lib.hid (RT.below (t := ⟨[(n : Int)], z1, T2⟩) hrt2 hbw10)
  have HRA := Lib.hid (HRA.out.below hbw10)
  have HRB := Lib.hid (HRB.out.below hbw10)
  have HT1 := Lib.hid (HT1.out.below hbw10)
  have HB2b := Lib.hid (HBX.out.trans (hbw10.mono HBX.out.size))
  clear HBX
  have HBX := HB2b
  go_upto_region 9 with (fail)
  rw [← HWw10.out]
  replace a0 := (Below.cell hbw10 (World.block_lt_of_cell? _ _ a0)).trans a0
  replace a1 := (Below.cell hbw10 (World.block_lt_of_cell? _ _ a1)).trans a1
  replace a2 := (Below.cell hbw10 (World.block_lt_of_cell? _ _ a2)).trans a2
  replace f0 := (Below.cell hbw10 (World.block_lt_of_cell? _ _ f0)).trans f0
  replace f1 := (Below.cell hbw10 (World.block_lt_of_cell? _ _ f1)).trans f1
  replace f2 := (Below.cell hbw10 (World.block_lt_of_cell? _ _ f2)).trans f2
  replace p0 := (Below.cell hbw10 (World.block_lt_of_cell? _ _ p0)).trans p0
  replace p1 := (Below.cell hbw10 (World.block_lt_of_cell? _ _ p1)).trans p1
  replace p2 := (Below.cell hbw10 (World.block_lt_of_cell? _ _ p2)).trans p2
  clear hbw10 hrt2
  go_wp2_with fail
  refine (small_lit _ _ _ _ _ S R HS.out HRR.out _ HP3.out _ HRB.out).mono ?_
  rintro r3 w11 ⟨v3, rfl, hft, hb3⟩
  have hrt3 := hft.rt
  obtain ⟨ta3, tc3, xa3, xc3, rfl, _⟩ := hft.parts
  simp only [HTN3.out, List.length_cons, List.length_nil, Nat.zero_add] at hrt3 ⊢
  replace a0 := (Below.cell hb3 (World.block_lt_of_cell? _ _ a0)).trans a0
  replace a1 := (Below.cell hb3 (World.block_lt_of_cell? _ _ a1)).trans a1
  replace a2 := (Below.cell hb3 (World.block_lt_of_cell? _ _ a2)).trans a2
  replace f0 := (Below.cell hb3 (World.block_lt_of_cell? _ _ f0)).trans f0
  replace f1 := (Below.cell hb3 (World.block_lt_of_cell? _ _ f1)).trans f1
  replace f2 := (Below.cell hb3 (World.block_lt_of_cell? _ _ f2)).trans f2
  replace p0 := (Below.cell hb3 (World.block_lt_of_cell? _ _ p0)).trans p0
  replace p1 := (Below.cell hb3 (World.block_lt_of_cell? _ _ p1)).trans p1
  replace p2 := (Below.cell hb3 (World.block_lt_of_cell? _ _ p2)).trans p2
  replace q0 := (Below.cell hb3 (World.block_lt_of_cell? _ _ q0)).trans q0
  replace q1 := (Below.cell hb3 (World.block_lt_of_cell? _ _ q1)).trans q1
  replace q2 := (Below.cell hb3 (World.block_lt_of_cell? _ _ q2)).trans q2
  have HRA := Lib.hid (HRA.out.below hb3)
  have HRB := Lib.hid (HRB.out.below hb3)
  have HT1 := Lib.hid (HT1.out.below hb3)
  have HT2 := Lib.hid (HT2.out.below hb3)
  have HB3 := Lib.hid (HBX.out.trans (hb3.mono HBX.out.size))
  clear HBX
  have HBX := HB3
  clear hb3 hft
  obtain ⟨w12, hww12⟩ : ∃ w12, w12 = w11.alloc (.cells #[.slice ta3 1 tc3, .int .i64 z3, .slice xa3 n xc3] 31) := ⟨_, rfl⟩
  have hbw12 : Below w11.heap.size w11 w12 := by rw [hww12]; exact (Below.refl _ _).alloc (Nat.le_refl _) _
  have hblw12 : w12.heap[w11.heap.size]? = some (.cells #[.slice ta3 1 tc3, .int .i64 z3, .slice xa3 n xc3] 31 (0, 0)) := by rw [hww12]; exact Deep.blk_alloc_new _ _
  have hsw12 : w11.heap.size < w12.heap.size := by rw [hww12]; simp
  have u0 : w12.cell? ⟨w11.heap.size, 0, none⟩ = some (.slice ta3 1 tc3) := cell_at hblw12 rfl
  have u1 : w12.cell? ⟨w11.heap.size, 1, none⟩ = some (.int .i64 z3) := cell_at hblw12 rfl
  have u2 : w12.cell? ⟨w11.heap.size, 2, none⟩ = some (.slice xa3 n xc3) := cell_at hblw12 rfl
  have HWw12 := Lib.hid hww12
  have HBLw12 := Lib.hid hblw12
  clear hww12 hblw12
  have HT3 := Lib.hid (RT.below (t := ⟨[(n : Int)], z3, T3⟩) hrt3 hbw12)
  have HRA := Lib.hid (HRA.out.below hbw12)
  have HRB := Lib.hid (HRB.out.below hbw12)
  have HT1 := Lib.hid (HT1.out.below hbw12)
  have HT2 := Lib.hid (HT2.out.below hbw12)
  have HB3b := Lib.hid (HBX.out.trans (hbw12.mono HBX.out.size))
  clear HBX
  have HBX := HB3b
  go_upto_region 10 with (fail)
  rw [← HWw12.out]
  replace a0 := (Below.cell hbw12 (World.block_lt_of_cell? _ _ a0)).trans a0
  replace a1 := (Below.cell hbw12 (World.block_lt_of_cell? _ _ a1)).trans a1
  replace a2 := (Below.cell hbw12 (World.block_lt_of_cell? _ _ a2)).trans a2
  replace f0 := (Below.cell hbw12 (World.block_lt_of_cell? _ _ f0)).trans f0
  replace f1 := (Below.cell hbw12 (World.block_lt_of_cell? _ _ f1)).trans f1
  replace f2 := (Below.cell hbw12 (World.block_lt_of_cell? _ _ f2)).trans f2
  replace p0 := (Below.cell hbw12 (World.block_lt_of_cell? _ _ p0)).trans p0
  replace p1 := (Below.cell hbw12 (World.block_lt_of_cell? _ _ p1)).trans p1
  replace p2 := (Below.cell hbw12 (World.block_lt_of_cell? _ _ p2)).trans p2
  replace q0 := (Below.cell hbw12 (World.block_lt_of_cell? _ _ q0)).trans q0
  replace q1 := (Below.cell hbw12 (World.block_lt_of_cell? _ _ q1)).trans q1
  replace q2 := (Below.cell hbw12 (World.block_lt_of_cell? _ _ q2)).trans q2
  clear hbw12 hrt3
  have hSA : sameB ⟨[(n : Int)], z1, T1⟩ ⟨[(n : Int)], z1, T2⟩ = true := by rw [HT21.out]; simp [sameB]
  have HSA := Lib.hid hSA
  clear hSA
  go_wp2_with fail
  refine (sameT_any _ _ _ _ _ HT1.out HT2.out).mono ?_
  rintro r13 w13 ⟨rfl, hb13⟩
  rw [HSA.out]
  replace a0 := (Below.cell hb13 (World.block_lt_of_cell? _ _ a0)).trans a0
  replace a1 := (Below.cell hb13 (World.block_lt_of_cell? _ _ a1)).trans a1
  replace a2 := (Below.cell hb13 (World.block_lt_of_cell? _ _ a2)).trans a2
  replace f0 := (Below.cell hb13 (World.block_lt_of_cell? _ _ f0)).trans f0
  replace f1 := (Below.cell hb13 (World.block_lt_of_cell? _ _ f1)).trans f1
  replace f2 := (Below.cell hb13 (World.block_lt_of_cell? _ _ f2)).trans f2
  replace p0 := (Below.cell hb13 (World.block_lt_of_cell? _ _ p0)).trans p0
  replace p1 := (Below.cell hb13 (World.block_lt_of_cell? _ _ p1)).trans p1
  replace p2 := (Below.cell hb13 (World.block_lt_of_cell? _ _ p2)).trans p2
  replace u0 := (Below.cell hb13 (World.block_lt_of_cell? _ _ u0)).trans u0
  replace u1 := (Below.cell hb13 (World.block_lt_of_cell? _ _ u1)).trans u1
  replace u2 := (Below.cell hb13 (World.block_lt_of_cell? _ _ u2)).trans u2
  have HRA13 := Lib.hid (HRA.out.below hb13)
  have HRB13 := Lib.hid (HRB.out.below hb13)
  have HT1 := Lib.hid (HT1.out.below hb13)
  have HT3 := Lib.hid (HT3.out.below hb13)
  have HB13 := Lib.hid (HBX.out.trans (hb13.mono HBX.out.size))
  clear hb13 HBX q0 q1 q2
  obtain ⟨BW, hBW⟩ : ∃ BW, (WA != WB) = BW := ⟨_, rfl⟩
  have HBW := Lib.hid hBW
  go_upto_region 12 with (fail)
  refine wp_region_cl_all 5 [([], Cl.eq (.agg #[.slice (some ⟨w.heap.size, 0, none⟩) 1 1, .int .i64 0, .slice (some ⟨b, off, none⟩) n cap])), ([0], Cl.eq (.int .i64 WA)), ([], Cl.eq (.agg #[.slice (some ⟨wa.heap.size, 0, none⟩) 1 1, .int .i64 0, .slice (some ⟨g, 0, none⟩) n cg])), ([2], Cl.eq (.int .i64 WB)), ([1, 3], Cl.eq (.bool BW))] (by kernel_rfl) (by kernel_rfl) rfl (by kernel_rfl) (by kernel_rfl) rfl ?hop ?htail
  case hop =>
    refine ⟨?_, ?_, ?_, ?_, ?_, trivial⟩
    · intro V L U wg hb hd
      rw [if_pos (by rfl)]
      simp only [putN]
      have g0 := (Below.cell hb (World.block_lt_of_cell? _ _ a0)).trans a0
      have g1 := (Below.cell hb (World.block_lt_of_cell? _ _ a1)).trans a1
      have g2 := (Below.cell hb (World.block_lt_of_cell? _ _ a2)).trans a2
      go_wp2
      exact ⟨_, rfl, rfl, Below.refl _ _⟩
    · intro V L U wg hb hd
      obtain ⟨e0, _⟩ := hd
      replace e0 : V 0 = .agg #[.slice (some ⟨w.heap.size, 0, none⟩) 1 1, .int .i64 0, .slice (some ⟨b, off, none⟩) n cap] := e0
      rw [if_pos (by rfl)]
      simp only [putN, dstAt, List.getElem?_toArray, List.getElem?_cons_zero, Option.bind_some, Act.put, List.setIfInBounds_toArray, List.set_cons_zero, List.set_cons_succ, e0]
      go_wp2_with fail
      refine (width_any _ _ _ (HRA13.out.below hb)).mono ?_
      rintro r1 wx ⟨rfl, hbx⟩
      rw [HWA.out]
      go_wp2
      exact ⟨_, rfl, rfl, hbx⟩
    · intro V L U wg hb hd
      rw [if_pos (by rfl)]
      simp only [putN, dstAt, List.getElem?_toArray, List.getElem?_cons_zero, List.getElem?_cons_succ, Option.bind_some, Act.put, List.setIfInBounds_toArray, List.set_cons_zero, List.set_cons_succ]
      have g0 := (Below.cell hb (World.block_lt_of_cell? _ _ f0)).trans f0
      have g1 := (Below.cell hb (World.block_lt_of_cell? _ _ f1)).trans f1
      have g2 := (Below.cell hb (World.block_lt_of_cell? _ _ f2)).trans f2
      go_wp2
      exact ⟨_, rfl, rfl, Below.refl _ _⟩
    · intro V L U wg hb hd
      obtain ⟨e2, _⟩ := hd
      replace e2 : V 2 = .agg #[.slice (some ⟨wa.heap.size, 0, none⟩) 1 1, .int .i64 0, .slice (some ⟨g, 0, none⟩) n cg] := e2
      rw [if_pos (by rfl)]
      simp only [putN, dstAt, List.getElem?_toArray, List.getElem?_cons_zero, List.getElem?_cons_succ, Option.bind_some, Act.put, List.setIfInBounds_toArray, List.set_cons_zero, List.set_cons_succ, e2]
      go_wp2_with fail
      refine (width_any _ _ _ (HRB13.out.below hb)).mono ?_
      rintro r1 wx ⟨rfl, hbx⟩
      rw [HWB.out]
      go_wp2
      exact ⟨_, rfl, rfl, hbx⟩
    · intro V L U wg hb hd
      obtain ⟨e1, e3, _⟩ := hd
      replace e1 : V 1 = .int .i64 WA := e1
      replace e3 : V 3 = .int .i64 WB := e3
      rw [if_pos (by rfl)]
      simp only [putN, dstAt, List.getElem?_toArray, List.getElem?_cons_zero, List.getElem?_cons_succ, Option.bind_some, Act.put, List.setIfInBounds_toArray, List.set_cons_zero, List.set_cons_succ, e1, e3]
      go_wp2
      exact ⟨_, rfl, rfl, Below.refl _ _⟩
  case htail =>
    intro V L U wg hb hap hlu hV
    obtain ⟨e0, e1, e2, e3, e4, _⟩ := hV
    replace e0 : V 0 = .agg #[.slice (some ⟨w.heap.size, 0, none⟩) 1 1, .int .i64 0, .slice (some ⟨b, off, none⟩) n cap] := e0
    replace e1 : V 1 = .int .i64 WA := e1
    replace e2 : V 2 = .agg #[.slice (some ⟨wa.heap.size, 0, none⟩) 1 1, .int .i64 0, .slice (some ⟨g, 0, none⟩) n cg] := e2
    replace e3 : V 3 = .int .i64 WB := e3
    replace e4 : V 4 = .bool BW := e4
    simp only [putN, dstAt, List.getElem?_toArray, List.getElem?_cons_zero, List.getElem?_cons_succ, Option.bind_some, Act.put, List.setIfInBounds_toArray, List.set_cons_zero, List.set_cons_succ, e0, e1, e2, e3, e4]
    clear e0 e1 e2 e3 e4
    have HBG := Lib.hid (HB13.out.trans (hb.mono HB13.out.size))
    replace p0 := (Below.cell hb (World.block_lt_of_cell? _ _ p0)).trans p0
    replace p1 := (Below.cell hb (World.block_lt_of_cell? _ _ p1)).trans p1
    replace p2 := (Below.cell hb (World.block_lt_of_cell? _ _ p2)).trans p2
    replace u0 := (Below.cell hb (World.block_lt_of_cell? _ _ u0)).trans u0
    replace u1 := (Below.cell hb (World.block_lt_of_cell? _ _ u1)).trans u1
    replace u2 := (Below.cell hb (World.block_lt_of_cell? _ _ u2)).trans u2
    have HT1 := Lib.hid (HT1.out.below hb)
    have HT3 := Lib.hid (HT3.out.below hb)
    clear hb hap hlu a0 a1 a2 f0 f1 f2
    cases BW
    · have HAP := Lib.hid (HAP.out (by simpa using HBW.out))
      clear hBW
      go_wp2_with fail
      go_loopw [114] (fun c wr => ∃ (k : Nat), c = .int .i64 k ∧ k ≤ n ∧ ∃ m, wr = wg.drewN m) (fun c _ => n - (intOf c).toNat)
      case atStart => exact ⟨0, rfl, by omega, 0, rfl⟩
      case round =>
        obtain ⟨k, rfl, hk, q, rfl⟩ := hrel
        by_cases hlt : k < n
        · by_cases hkI : k = I
          · subst hkI
            have hne : ((k : Int) != (k : Int)) = false := by simp
            go_wp2_with fail
            go_quiet (fail)
            go_wp2
            go_roundw
            case rel => exact ⟨k + 1, by go_num, by omega, _, rfl⟩
            case measure => simp [intOf]; omega
          · have hne : ((k : Int) != (I : Int)) = true := by simp; omega
            obtain ⟨wr, hwr⟩ : ∃ wr, wr = wg.drewN q := ⟨_, rfl⟩
            obtain ⟨d1, a1, he1, _, hR1, _⟩ := HT1.out
            cases he1
            obtain ⟨d3, a3, he3, _, hR3, _⟩ := HT3.out
            cases he3
            obtain ⟨bb1, oo1, rfl, g1, _⟩ := reads_cell hR1 k (by rw [HTN1.out]; exact hlt)
            obtain ⟨bb3, oo3, rfl, g3, _⟩ := reads_cell hR3 k (by rw [HTN3.out]; exact hlt)
            simp only at g1 g3
            have hEQ := HAP.out k hlt hkI
            rw [← hEQ] at g3
            obtain ⟨y, hy⟩ : ∃ y, T1.getD k 0 = y := ⟨_, rfl⟩
            rw [hy] at g1 g3
            have g1 : wr.cell? ⟨bb1, oo1 + k, none⟩ = some (.int .i8 y) := by rw [hwr]; exact g1
            have g3 : wr.cell? ⟨bb3, oo3 + k, none⟩ = some (.int .i8 y) := by rw [hwr]; exact g3
            have l1 : wr.cell? ⟨w7.heap.size, 2, none⟩ = some (.slice (some ⟨bb1, oo1, none⟩) n xc1) := by rw [hwr]; exact p2
            have l3 : wr.cell? ⟨w11.heap.size, 2, none⟩ = some (.slice (some ⟨bb3, oo3, none⟩) n xc3) := by rw [hwr]; exact u2
            have i0k : (0 : Int) ≤ (k : Int) := by omega
            have i1k : (k : Int) < (n : Int) := by omega
            have HWR := Lib.hid hwr
            clear hEQ hy hR1 hR3 p0 p1 p2 u0 u1 u2
            rw [← hwr]
            clear hwr
            go_wp2_with fail
            go_quiet (fail)
            go_wp2
            go_roundw
            case rel => exact ⟨k + 1, by go_num, by omega, _, by rw [HWR.out, World.drewN_drewN]⟩
            case measure => simp [intOf]; omega
        · have hkn : k = n := by omega
          subst hkn
          go_wp2_with fail
          refine (awake8_any _).mono ?_
          rintro r9 w9 ⟨rfl, hb9⟩
          have HB9 := Lib.hid ((below_drewN' HBG.out q).trans (hb9.mono (below_drewN' HBG.out q).size))
          clear hb9
          go_wp2
          go_ret
          exact ⟨rfl, HB9.out⟩
    · clear hBW
      go_wp2_with fail
      refine (awake8_any _).mono ?_
      rintro r9 w9 ⟨rfl, hb9⟩
      have HB9 := Lib.hid (HBG.out.trans (hb9.mono HBG.out.size))
      clear hb9
      go_wp2
      go_ret
      exact ⟨rfl, HB9.out⟩
theorem tensorChance_ints (v : Value) (A : List Int) (i x s r : Int) (w : World) (h : Reads .i32 w v A) (hx : (Lit.int .i32 x).wf = true) (hs : (Lit.int .u64 s).wf = true) (hr : (Lit.int .u64 r).wf = true) :
    Calls Try.prog 4 #[v, .int .i64 i, .int .i32 x, .int .u64 s, .int .u64 r] w fun e w' => e = .returned (.bool true) ∧ Below w.heap.size w w' := by
  by_cases hn : A.length < 2 ∨ 300 < A.length
  · exact tensorChance_far v A i x s r w h hn
  · obtain ⟨S, hS⟩ := N_wf hs
    obtain ⟨R, hR⟩ := N_wf hr
    obtain ⟨ao, cap, rfl, _⟩ := id h.1
    rw [kv_len] at h ⊢
    exact tensorChance_main ao A.length cap A i x s r S R hS hR w h rfl (by omega) (by omega) hx
end Go.Proofs.Ytcbcfajihbbdcaa
