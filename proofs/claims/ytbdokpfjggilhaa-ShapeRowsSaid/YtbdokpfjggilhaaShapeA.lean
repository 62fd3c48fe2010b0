/- The laws of shape: ShapeForms; what ShapeBack leans on. -/
import Derived.Test.YtbdokpfjggilhaaShape3
namespace Go.Proofs.Ytbdokpfjggilhaa
open Go.RowKit
set_option maxHeartbeats 2000000
theorem own_reads {w : World} {base : Nat} {e : TypeId} {v : Value} {n : Nat} {k : IntKind} {l : List Int} (h : w.ownsRow base e 1 v n (kv k l)) (hf : Fits k l) (hm : l.length ≤ maxLen) : Reads k w v l := ⟨holds_own h, hf, hm⟩
theorem fits_small {l : List Int} (h : ∀ x ∈ l, 0 ≤ x ∧ x ≤ 8192) : Fits .i64 l := fun x hx => by
  have := h x hx
  simp [Lit.wf, IntKind.min, IntKind.max, IntKind.signed, IntKind.bits]; omega
theorem stridesOf_in (d : List Int) (h : ∀ x ∈ d, 1 ≤ x ∧ x ≤ 4096) (hp : prodFrom 1 d ≤ 8192) : ∀ x ∈ stridesOf d, 1 ≤ x ∧ x ≤ 8192 := by
  induction d with
  | nil => intro x hx; simp [stridesOf] at hx
  | cons y d ih =>
    have hd : ∀ x ∈ d, 1 ≤ x ∧ x ≤ 4096 := fun x hx => h x (List.mem_cons_of_mem _ hx)
    have hy := h y (by simp)
    have h1 := prodFrom_pos 1 d (by omega) hd
    have h2 : prodFrom 1 d ≤ 8192 := by
      rw [prodFrom_cons, Int.one_mul, prodFrom_one] at hp
      have := Int.mul_le_mul_of_nonneg_right hy.1 (show 0 ≤ prodFrom 1 d by omega)
      omega
    intro x hx
    rcases List.mem_cons.1 hx with rfl | hx
    · exact ⟨h1, h2⟩
    · exact ih hd h2 x hx
theorem strD_fits (d : List Int) : Fits .i64 (strD d) ∧ (strD d).length ≤ 4 := by
  unfold strD
  split
  · rename_i h
    obtain ⟨h1, h2, h3⟩ := (mayD_iff d).1 h
    exact ⟨fits_small (fun x hx => by have := stridesOf_in d h2 h3 x hx; omega), by rw [stridesOf_len]; omega⟩
  · exact ⟨by intro x hx; simp at hx, by simp⟩
theorem atFrom_in (i : Int) (ss : List Int) (h0 : 0 ≤ i) (h1 : i ≤ 8192) (h : ∀ x ∈ ss, 1 ≤ x ∧ x ≤ 8192) : ∀ x ∈ atFrom i ss, 0 ≤ x ∧ x ≤ 8192 := by
  induction ss generalizing i with
  | nil => intro x hx; simp [atFrom] at hx
  | cons s ss ih =>
    have hs := h s (by simp)
    intro x hx
    rcases List.mem_cons.1 hx with rfl | hx
    · exact ⟨Int.ediv_nonneg h0 (by omega), Int.le_trans (Int.ediv_le_self s h0) h1⟩
    · exact ih (i % s) (Int.emod_nonneg _ (by omega)) (Int.le_trans (emod_le' i s h0 hs.1) h1) (fun x hx => h x (List.mem_cons_of_mem _ hx)) x hx
theorem atD_in (d : List Int) (i : Int) : (∀ x ∈ atD d i, 0 ≤ x ∧ x ≤ 8192) ∧ (atD d i).length ≤ 4 := by
  unfold atD
  split
  · exact ⟨by intro x hx; simp at hx, by simp⟩
  · rename_i h
    have hmay : mayD d = true := by
      unfold szD at h
      by_cases hm : mayD d = true
      · exact hm
      · rw [if_neg hm] at h; omega
    obtain ⟨h1, h2, h3⟩ := (mayD_iff d).1 hmay
    have hsz := szD_le d
    exact ⟨atFrom_in i _ (by omega) (by omega) (stridesOf_in d h2 h3), by rw [atFrom_len, stridesOf_len]; omega⟩
theorem small_max {n : Nat} (h : n ≤ 4) : n ≤ maxLen := by unfold maxLen; omega
theorem shapeForms_any (v1 v2 v3 : Value) (d e t : List Int) (i n k s p : Int) (w : World) (h1 : Reads .i64 w v1 d) (h2 : Reads .i64 w v2 e) (h3 : Reads .i64 w v3 t) :
    Calls Try.prog 3 #[v1, v2, v3, .int .i64 i, .int .i64 n, .int .i64 k, .int .i64 s, .int .i64 p] w fun e w' => e = .returned (.bool true) ∧ Below w.heap.size w w' := by
  have H1 := Lib.hid h1
  have H2 := Lib.hid h2
  have H3 := Lib.hid h3
  clear h1 h2 h3
  obtain ⟨wo, rfl⟩ : ∃ wo : World, wo = w := ⟨_, rfl⟩
  go_enter Try.func3, Try.ntmps3
  go_wp2_with (first | (go_at_call 10; refine (may_any _ _ _ H1.out).mono ?_; rintro e w' ⟨rfl, rfl⟩) | (go_at_call 11; refine (rmay_any _ _ _ H1.out).mono ?_; rintro e w' ⟨rfl, rfl⟩) | (go_at_call 12; refine (size_any _ _ _ H1.out).mono ?_; rintro e w' ⟨rfl, rfl⟩) | (go_at_call 13; refine (rsize_any _ _ _ H1.out).mono ?_; rintro e w' ⟨rfl, rfl⟩))
  refine (strides_any _ _ _ H1.out).mono ?_
  rintro r1 w1 ⟨x1, rfl, o1, b1⟩
  go_wp2_with fail
  refine (rstrides_any _ _ _ (H1.out.below b1)).mono ?_
  rintro r2 w2 ⟨x2, rfl, o2, b2⟩
  have c2 := b1.trans (b2.mono b1.size)
  have e1 := (own_reads o1 (strD_fits d).1 (small_max (strD_fits d).2)).below b2
  have e2 := own_reads o2 (strD_fits d).1 (small_max (strD_fits d).2)
  clear o1 o2
  go_wp2_with fail
  refine (sameInts_any _ _ _ _ _ e1 e2).mono ?_
  rintro r3 w3 ⟨rfl, m3, rfl⟩
  rw [beq_self_eq_true]
  clear e1 e2
  go_wp2_with fail
  refine (same_any _ _ _ _ _ (H1.out.below (below_drewN c2 _)) (H2.out.below (below_drewN c2 _))).mono ?_
  rintro r4 w4 ⟨rfl, m4, rfl⟩
  go_wp2_with fail
  refine (sameInts_any _ _ _ _ _ (H1.out.below (below_drewN c2 _)) (H2.out.below (below_drewN c2 _))).mono ?_
  rintro r5 w5 ⟨rfl, m5, rfl⟩
  go_wp2_with fail
  have c5 := below_drewN c2 (m3 + m4 + m5)
  refine (index_any _ _ _ _ _ (H1.out.below c5) (H3.out.below c5)).mono ?_
  rintro r6 w6 ⟨rfl, b6⟩
  have c6 := c5.trans (b6.mono c5.size)
  go_wp2_with fail
  refine (rindex_any _ _ _ _ _ (H1.out.below c6) (H3.out.below c6)).mono ?_
  rintro r7 w7 ⟨rfl, b7⟩
  have c7 := c6.trans (b7.mono c6.size)
  go_wp2_with fail
  refine (at_any _ _ _ _ (H1.out.below c7)).mono ?_
  rintro r8 w8 ⟨x8, rfl, o8, b8⟩
  have c8 := c7.trans (b8.mono c7.size)
  go_wp2_with fail
  refine (rat_any2 _ _ _ _ (H1.out.below c8)).mono ?_
  rintro r9 w9 ⟨x9, rfl, o9, b9⟩
  have c9 := c8.trans (b9.mono c8.size)
  have e8 := (own_reads o8 (fits_small (atD_in d i).1) (small_max (atD_in d i).2)).below b9
  have e9 := own_reads o9 (fits_small (atD_in d i).1) (small_max (atD_in d i).2)
  clear o8 o9
  go_wp2_with fail
  refine (sameInts_any _ _ _ _ _ e8 e9).mono ?_
  rintro r10 w10 ⟨rfl, m10, rfl⟩
  rw [beq_self_eq_true]
  clear e8 e9
  have c10 := below_drewN c9 m10
  go_wp2_with (first | (go_at_call 22; refine (out_any _ _ _ _ _).mono ?_; rintro e w' ⟨rfl, rfl⟩) | (go_at_call 23; refine (rout_any _ _ _ _ _).mono ?_; rintro e w' ⟨rfl, rfl⟩))
  refine (awake7_any _).mono ?_
  rintro r11 w11 ⟨rfl, b11⟩
  have c11 := c10.trans (b11.mono c10.size)
  go_wp2_with fail
  go_ret
  exact ⟨rfl, c11⟩
/-! ### ShapeBack: each number is at one place -/
def dotL : List Int → List Int → Int
  | a :: t, s :: ss => a * s + dotL t ss
  | _, _ => 0
theorem at_spec (d : List Int) (i : Int) (hx : ∀ x ∈ d, 1 ≤ x ∧ x ≤ 4096) (h0 : 0 ≤ i) (h1 : i < prodFrom 1 d) :
    dotL (atFrom i (stridesOf d)) (stridesOf d) = i ∧ (∀ k, k < d.length → 0 ≤ (atFrom i (stridesOf d)).getD k 0 ∧ (atFrom i (stridesOf d)).getD k 0 < d.getD k 0) := by
  induction d generalizing i with
  | nil =>
    simp [prodFrom] at h1
    exact ⟨by simp [stridesOf, atFrom, dotL]; omega, by intro k hk; simp at hk⟩
  | cons x d ih =>
    have hd : ∀ y ∈ d, 1 ≤ y ∧ y ≤ 4096 := fun y hy => hx y (List.mem_cons_of_mem _ hy)
    have hS := prodFrom_pos 1 d (by omega) hd
    have hm := Int.mul_ediv_add_emod i (prodFrom 1 d)
    have hr1 := Int.emod_nonneg i (show prodFrom 1 d ≠ 0 by omega)
    have hr2 := Int.emod_lt_of_pos i (show 0 < prodFrom 1 d by omega)
    have := ih (i % prodFrom 1 d) hd hr1 hr2
    simp only [stridesOf, atFrom, dotL]
    refine ⟨by rw [this.1, Int.mul_comm]; exact hm, ?_⟩
    intro k hk
    cases k with
    | zero =>
      simp only [List.getD_cons_zero]
      refine ⟨Int.ediv_nonneg h0 (by omega), ?_⟩
      rw [prodFrom_cons, Int.one_mul, prodFrom_one] at h1
      exact Int.ediv_lt_of_lt_mul (by omega) h1
    | succ k =>
      simp only [List.getD_cons_succ]
      exact this.2 k (by simpa using hk)
theorem idx_dot (n : Int) (d t : List Int) (hl : t.length = d.length) (hv : ∀ k, k < d.length → 0 ≤ t.getD k 0 ∧ t.getD k 0 < d.getD k 0) : idxFrom n d t = n + dotL t (stridesOf d) := by
  induction d generalizing n t with
  | nil => cases t with
    | nil => simp [idxFrom, dotL]
    | cons a t => simp at hl
  | cons x d ih => cases t with
    | nil => simp at hl
    | cons a t =>
      have h0 := hv 0 (by simp)
      simp only [List.getD_cons_zero] at h0
      unfold idxFrom
      rw [if_neg (by omega), ih _ _ (by simpa using hl) (fun k hk => by have := hv (k + 1) (by simpa using hk); simpa using this)]
      simp only [stridesOf, dotL]
      omega
theorem back_all (d : List Int) (i : Int) (hm : mayD d = true) (h0 : 0 ≤ i) (h1 : i < szD d) :
    (atD d i).length = d.length ∧ idxD d (atD d i) = i ∧ dotL (atD d i) (strD d) = i ∧ ∀ k, k < d.length → 0 ≤ (atD d i).getD k 0 ∧ (atD d i).getD k 0 < d.getD k 0 := by
  obtain ⟨h4, hx, hp⟩ := (mayD_iff d).1 hm
  have hs : strD d = stridesOf d := by unfold strD; rw [if_pos hm]
  have ha : atD d i = atFrom i (stridesOf d) := by unfold atD; rw [if_neg (by omega)]
  have hsz : szD d = prodFrom 1 d := by unfold szD; rw [if_pos hm]
  rw [hsz] at h1
  have hsp := at_spec d i hx h0 h1
  have hl : (atFrom i (stridesOf d)).length = d.length := by rw [atFrom_len, stridesOf_len]
  rw [ha, hs]
  refine ⟨hl, ?_, hsp.1, hsp.2⟩
  unfold idxD
  rw [if_pos ⟨hm, hl⟩, idx_dot 0 d _ hl hsp.2, hsp.1, Int.zero_add]
end Go.Proofs.Ytbdokpfjggilhaa
