/- ShapeBack: each number is at one place. -/
import Derived.Test.YtbdokpfjggilhaaShapeA
namespace Go.Proofs.Ytbdokpfjggilhaa
open Go.RowKit
set_option maxHeartbeats 2000000
theorem reads_nil (k : IntKind) (w : World) : Reads k w (.slice none 0 0) [] := ⟨holds_nil w, by intro x hx; simp at hx, by simp⟩
theorem dot_drop (t s : List Int) (k : Nat) (h1 : k < t.length) (h2 : k < s.length) : dotL (t.drop k) (s.drop k) = t.getD k 0 * s.getD k 0 + dotL (t.drop (k + 1)) (s.drop (k + 1)) := by
  rw [drop_getD t k h1, drop_getD s k h2]; rfl
theorem dot_nonneg (t s : List Int) (ht : ∀ x ∈ t, 0 ≤ x) (hs : ∀ x ∈ s, 0 ≤ x) : 0 ≤ dotL t s := by
  induction t generalizing s with
  | nil => exact Int.le_refl _
  | cons a t ih =>
    cases s with
    | nil => exact Int.le_refl _
    | cons b s =>
      have := ih s (fun x hx => ht x (List.mem_cons_of_mem _ hx)) (fun x hx => hs x (List.mem_cons_of_mem _ hx))
      have h2 := Int.mul_nonneg (ht a (by simp)) (hs b (by simp))
      show 0 ≤ a * b + dotL t s
      omega
theorem shapeBack_any (v : Value) (d : List Int) (i : Int) (w : World) (hr : Reads .i64 w v d) :
    Calls Try.prog 4 #[v, .int .i64 i] w fun e w' => e = .returned (.bool true) ∧ Below w.heap.size w w' := by
  have HRE := Lib.hid hr
  obtain ⟨wo, rfl⟩ : ∃ wo : World, wo = w := ⟨_, rfl⟩
  by_cases hmay : mayD d = true
  · obtain ⟨h4, hx4, hp⟩ := (mayD_iff d).1 hmay
    have hz1 : 1 ≤ szD d := by unfold szD; rw [if_pos hmay]; exact prodFrom_pos 1 d (by omega) hx4
    have hz2 := szD_le d
    obtain ⟨I, hI, hI1⟩ := u64_mod i (szD d) (by omega) (by omega)
    obtain ⟨q1, q2, q3, q4⟩ := back_all d I hmay (by omega) hI1
    have hsd : strD d = stridesOf d := by unfold strD; rw [if_pos hmay]
    have hin := atD_in d I
    have hst := stridesOf_in d hx4 hp
    obtain ⟨t, ht⟩ : ∃ t, atD d I = t := ⟨_, rfl⟩
    rw [ht] at q1 q2 q3 q4 hin
    rw [hsd] at q3
    have HM := Lib.hid hmay
    have HX := Lib.hid hx4
    clear hx4
    have HT := Lib.hid ht
    have HQ3 := Lib.hid q3
    have HQ4 := Lib.hid q4
    have HIN := Lib.hid hin.1
    have HST := Lib.hid hst
    have hq2 : (idxD d t != (I : Int)) = false := by rw [q2]; simp
    have HE1 : Hid (atD d (szD d) = []) := Lib.hid (by unfold atD; rw [if_pos (by omega)])
    have HE2 : Hid (atD d (-1) = []) := Lib.hid (by unfold atD; rw [if_pos (by omega)])
    obtain ⟨n, hn⟩ : ∃ n, d.length = n := ⟨_, rfl⟩
    rw [hn] at h4 q1
    clear hmay hp q2 q3 q4 hst ht
    obtain ⟨Z, hZ⟩ : ∃ Z, szD d = Z := ⟨_, rfl⟩
    rw [hZ] at hz1 hz2 hI1 hI HE1
    have HZ := Lib.hid hZ
    clear hZ
    have hr' := hr
    obtain ⟨⟨ao, cap, rfl, _, _, hd⟩, hfd, _⟩ := hr
    rw [kv_len, hn] at HRE hr' ⊢
    rcases hd with hd | ⟨b1, o1, rfl, hd⟩
    · rw [List.map_eq_nil_iff] at hd; rw [hd] at hn; simp at hn; omega
    have HD := Lib.hid hd
    clear hd hr'
    go_enter Try.func4, Try.ntmps4
    go_wp2_with (first | (go_at_call 12; refine (size_any _ _ _ HRE.out).mono ?_; rintro e w' ⟨rfl, rfl⟩; rw [HZ.out]) | (go_at_call 10; refine (may_any _ _ _ HRE.out).mono ?_; rintro e w' ⟨rfl, rfl⟩; rw [HM.out]))
    refine (at_any _ _ _ _ HRE.out).mono ?_
    rintro r1 w1 ⟨x1, rfl, o1', b1'⟩
    rw [HT.out, kv_len, q1] at o1'
    have e1 : Reads .i64 w1 x1 t := own_reads o1' (fits_small HIN.out) (small_max (by omega))
    obtain ⟨g, cg, rfl, hg1, hg2, hg3⟩ := owned_shape o1' (by omega)
    have E1 := Lib.hid e1
    clear e1
    go_wp2_with (go_at_call 18; refine (index_any _ _ _ _ _ (HRE.out.below b1') E1.out).mono ?_; rintro r2 w2 ⟨rfl, b2'⟩)
    have c2 := b1'.trans (b2'.mono b1'.size)
    refine (strides_any _ _ _ (HRE.out.below c2)).mono ?_
    rintro r3 w3 ⟨x3, rfl, o3, b3⟩
    rw [kv_len, hsd, stridesOf_len, hn] at o3
    obtain ⟨g3, cg3, rfl, hg31, hg32, hg33⟩ := owned_shape o3 (by omega)
    have c3 := c2.trans (b3.mono c2.size)
    obtain ⟨w4, rfl⟩ : ∃ w4 : World, w4 = w3 := ⟨_, rfl⟩
    have E3 := Lib.hid (E1.out.below (b2'.trans (b3.mono b2'.size)))
    have hcat : ∀ k, k < n → w4.cell? ⟨g, k, none⟩ = some (.int .i64 (t.getD k 0)) := by
      intro k hk
      have a := (o1'.cellAt k (by omega)).trans (kv_getD .i64 t k (by omega))
      exact ((b2'.trans (b3.mono b2'.size)).cell (p := ⟨g, k, none⟩) hg2).trans a
    have HC := Lib.hid hcat
    clear hcat
    go_wp2
    go_loopw [7, 51] (fun s c wr => ∃ (k : Nat) (a : Int), c = .int .i64 k ∧ s = .int .i64 a ∧ k ≤ n ∧ 0 ≤ a ∧ a + dotL (t.drop k) ((stridesOf d).drop k) = I ∧ ∃ q, wr = w4.drewN q) (fun _ c _ => n - (intOf c).toNat)
    case atStart => exact ⟨0, 0, rfl, rfl, by omega, by omega, by rw [List.drop_zero, List.drop_zero, HQ3.out]; omega, 0, rfl⟩
    case round =>
      obtain ⟨k, a, rfl, rfl, hk, ha, hS, q, rfl⟩ := hrel
      have HS := Lib.hid hS
      clear hS
      by_cases hlt : k < n
      · have g0 := HD.out k _ (kv_getD .i64 d k (by omega))
        have gd := (c3.cell (p := ⟨b1, o1 + k, none⟩) (World.block_lt_of_cell? wo _ g0)).trans g0
        have gt := HC.out k hlt
        have gs := (o3.cellAt k (by omega)).trans (kv_getD .i64 (stridesOf d) k (by rw [stridesOf_len]; omega))
        have hq := HQ4.out k (by omega)
        have hdot := dot_drop t (stridesOf d) k (by omega) (by rw [stridesOf_len]; omega)
        have hst1 := stridesOf_pos d HX.out k (by omega)
        have hdn := dot_nonneg (t.drop (k + 1)) ((stridesOf d).drop (k + 1)) (fun x hx => (HIN.out x (List.mem_of_mem_drop hx)).1) (fun x hx => by have := (HST.out x (List.mem_of_mem_drop hx)).1; omega)
        obtain ⟨x, hx⟩ : ∃ x, d.getD k 0 = x := ⟨_, rfl⟩
        obtain ⟨y, hy⟩ : ∃ y, t.getD k 0 = y := ⟨_, rfl⟩
        obtain ⟨s, hs⟩ : ∃ s, (stridesOf d).getD k 0 = s := ⟨_, rfl⟩
        rw [hx] at gd hq
        rw [hy] at gt hq hdot
        rw [hs] at gs hdot hst1
        have hys := Int.mul_nonneg hq.1 (show 0 ≤ s by omega)
        have hle : a + y * s ≤ 8192 := by have := HS.out; rw [hdot] at this; omega
        have HN : Hid (a + y * s + dotL (t.drop (k + 1)) ((stridesOf d).drop (k + 1)) = I) := Lib.hid (by have := HS.out; rw [hdot] at this; omega)
        have hk1 : decide ((n : Int) ≤ (k : Int)) = false := by simp; omega
        have hk2 : decide (y < 0) = false := by simp; omega
        have hk3 : decide (x ≤ y) = false := by simp; omega
        clear g0 hdot hdn hx hy hs
        go_wp2
        go_quiet (fail)
        go_wp2
        go_roundw
        case rel => exact ⟨k + 1, a + y * s, by go_num, rfl, by omega, by omega, HN.out, _, rfl⟩
        case measure => simp [intOf]; omega
      · have hkn : k = n := by omega
        subst hkn
        have haI : a = I := by
          have := HS.out
          rw [List.drop_of_length_le (by omega), List.drop_of_length_le (by rw [stridesOf_len]; omega)] at this
          simpa [dotL] using this
        subst haI
        have c4 := below_drewN c3 q
        go_wp2_with fail
        refine (at_any _ _ _ _ (HRE.out.below c4)).mono ?_
        rintro r5 w5 ⟨x5, rfl, o5, b5⟩
        rw [HE1.out] at o5
        obtain ⟨ao5, cap5, rfl, _, _, _⟩ := holds_own o5
        have c5 := c4.trans (b5.mono c4.size)
        go_wp2_with fail
        refine (at_any _ _ _ _ (HRE.out.below c5)).mono ?_
        rintro r6 w6 ⟨x6, rfl, o6, b6⟩
        rw [HE2.out] at o6
        obtain ⟨ao6, cap6, rfl, _, _, _⟩ := holds_own o6
        have c6 := c5.trans (b6.mono c5.size)
        go_wp2_with (go_at_call 24; refine (awake7_any _).mono ?_; rintro r7 w7 ⟨rfl, b7⟩)
        go_ret
        exact ⟨rfl, c6.trans (Below.mono (by assumption) c6.size)⟩
  · have hz : szD d = 0 := by unfold szD; rw [if_neg hmay]
    have hid : idxD d [] = -1 := by unfold idxD; rw [if_neg (fun e => hmay e.1)]
    have HM : Hid (mayD d = false) := Lib.hid (by simpa using hmay)
    have HZ := Lib.hid hz
    have HI := Lib.hid hid
    clear hmay hz hid hr
    go_enter Try.func4, Try.ntmps4
    go_wp2_with (first | (go_at_call 12; refine (size_any _ _ _ HRE.out).mono ?_; rintro e w' ⟨rfl, rfl⟩; rw [HZ.out]) | (go_at_call 10; refine (may_any _ _ _ HRE.out).mono ?_; rintro e w' ⟨rfl, rfl⟩; rw [HM.out]))
    refine (index_any _ _ _ _ _ HRE.out (reads_nil _ _)).mono ?_
    rintro r2 w2 ⟨rfl, b2⟩
    rw [HI.out]
    go_wp2_with fail
    refine (awake7_any _).mono ?_
    rintro r3 w3 ⟨rfl, b3⟩
    have c3 := b2.trans (b3.mono b2.size)
    go_wp2
    go_ret
    exact ⟨rfl, c3⟩
end Go.Proofs.Ytbdokpfjggilhaa
