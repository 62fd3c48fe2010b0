/- Layer 10: the way back is the slope: sums. -/
import Derived.Test.YtcbcfajihbbdcaaDenN
namespace Go.Proofs.Ytcbcfajihbbdcaa
open Go.RowKit
set_option maxRecDepth 100000
set_option linter.unusedSimpArgs false
set_option linter.unusedVariables false
set_option maxHeartbeats 8000000
def sumN (f : Nat → Int) : Nat → Int
  | 0 => 0
  | n + 1 => sumN f n + f n
theorem sumN_congr {f g : Nat → Int} : ∀ {n : Nat}, (∀ z, z < n → f z = g z) → sumN f n = sumN g n
  | 0, _ => rfl
  | n + 1, h => by unfold sumN; rw [sumN_congr fun z hz => h z (by omega), h n (by omega)]
theorem sumN_sub (f g : Nat → Int) : ∀ n, sumN f n - sumN g n = sumN (fun z => f z - g z) n
  | 0 => rfl
  | n + 1 => by unfold sumN; rw [← sumN_sub f g n]; omega
theorem sumN_zero {f : Nat → Int} : ∀ {n : Nat}, (∀ z, z < n → f z = 0) → sumN f n = 0
  | 0, _ => rfl
  | n + 1, h => by unfold sumN; rw [sumN_zero fun z hz => h z (by omega), h n (by omega)]; rfl
theorem sumN_one {f : Nat → Int} {c : Nat} : ∀ {n : Nat}, c < n → (∀ z, z < n → z ≠ c → f z = 0) → sumN f n = f c
  | 0, h, _ => by omega
  | n + 1, hc, h => by
    unfold sumN
    by_cases e : c = n
    · subst e
      rw [sumN_zero fun z hz => h z (by omega) (by omega), Int.zero_add]
    · rw [sumN_one (by omega) fun z hz hne => h z (by omega) hne, h n (by omega) (by omega), Int.add_zero]
theorem sumN_add (f : Nat → Int) (a : Nat) : ∀ b, sumN f (a + b) = sumN f a + sumN (fun t => f (a + t)) b
  | 0 => by simp [sumN]
  | b + 1 => by
    show sumN f (a + b) + f (a + b) = sumN f a + (sumN (fun t => f (a + t)) b + f (a + b))
    rw [sumN_add f a b]; omega
theorem sumN_rows (f : Nat → Int) (M : Nat) : ∀ N, sumN f (N * M) = sumN (fun s => sumN (fun t => f (s * M + t)) M) N
  | 0 => by simp [sumN]
  | N + 1 => by
    rw [Nat.succ_mul, sumN_add, sumN_rows f M N]
    rfl
theorem sumN_bd {f : Nat → Int} {B : Int} (hB : 0 ≤ B) (h : ∀ z, -B ≤ f z ∧ f z ≤ B) : ∀ n : Nat, -((n : Int) * B) ≤ sumN f n ∧ sumN f n ≤ (n : Int) * B
  | 0 => by simp [sumN]
  | n + 1 => by
    have h1 := sumN_bd hB h n
    have h2 := h n
    unfold sumN
    rw [show ((n + 1 : Nat) : Int) * B = (n : Int) * B + B by rw [Int.natCast_succ, Int.add_mul, Int.one_mul]]
    omega
theorem dt_sumN (a b : Ln) {n1 n2 s1 s2 : Nat} (e1 : a.next = n1) (e2 : b.next = n2) (e3 : a.step = s1) (e4 : b.step = s2) (m j : Nat) : ∀ n, dt a b m j n = sumN (fun z => a.data.getD (j / m * n1 + z * s1) 0 * b.data.getD (j % m * n2 + z * s2) 0) n
  | 0 => rfl
  | n + 1 => by
    have ih := dt_sumN a b e1 e2 e3 e4 m j n
    unfold dt at ih ⊢
    unfold sumTo sumN
    rw [ih, prI_nat a b (j / m) (j % m) n n1 n2 s1 s2 e1 e2 e3 e4]
/-- One number is one more. -/
def bump (L : List Int) (i : Nat) : List Int := L.set i (L.getD i 0 + 1)
theorem bump_len (L : List Int) (i : Nat) : (bump L i).length = L.length := by simp [bump]
theorem bump_get (L : List Int) {i : Nat} (hi : i < L.length) (t : Nat) : (bump L i).getD t 0 = L.getD t 0 + if t = i then 1 else 0 := by
  unfold bump
  by_cases e : t = i
  · subst e
    rw [if_pos rfl, List.getD_eq_getElem?_getD, List.getElem?_set_self hi]; rfl
  · rw [if_neg e, Int.add_zero, List.getD_eq_getElem?_getD, List.getElem?_set_ne (Ne.symm e), ← List.getD_eq_getElem?_getD]
theorem bump_no {L : List Int} {i : Nat} (hL : L.contains (-128) = false) (hf : Fits .i8 L) (hi : i < L.length) : (bump L i).contains (-128) = false := by
  rw [List.contains_eq_mem, decide_eq_false_iff_not] at hL ⊢
  intro hm
  rcases List.mem_or_eq_of_mem_set hm with h | h
  · exact hL h
  · have h1 := fits8 hf i
    have h2 : L.getD i 0 ∈ L := by
      rw [List.getD_eq_getElem?_getD, List.getElem?_eq_getElem hi]; exact List.getElem_mem _
    have h3 : L.getD i 0 ≠ -128 := fun e => hL (e ▸ h2)
    omega
theorem split_idx {K i r z : Nat} (hz : z < K) : r * K + z = i ↔ r = i / K ∧ z = i % K := by
  constructor
  · rintro rfl
    obtain ⟨h1, h2⟩ := idx_div (i := r) hz
    exact ⟨h1.symm, h2.symm⟩
  · rintro ⟨rfl, rfl⟩
    rw [Nat.mul_comm]; exact Nat.div_add_mod i K
/-- Where x is one more. -/
theorem dt_left {P V : List Int} {N K M i : Nat} (hK : 0 < K) (hi : i < P.length) (j : Nat) : dt (rowsR ⟨[(N : Int), K], 0, bump P i⟩) (rowsR ⟨[(M : Int), K], 0, V⟩) M j K - dt (rowsR ⟨[(N : Int), K], 0, P⟩) (rowsR ⟨[(M : Int), K], 0, V⟩) M j K = if j / M = i / K then V.getD (j % M * K + i % K) 0 else 0 := by
  rw [dt_sumN _ _ (n1 := K) (n2 := K) (s1 := 1) (s2 := 1) rfl rfl rfl rfl, dt_sumN _ _ (n1 := K) (n2 := K) (s1 := 1) (s2 := 1) rfl rfl rfl rfl, sumN_sub]
  simp only [rowsR, Nat.mul_one, bump_get P hi]
  by_cases h : j / M = i / K
  · rw [if_pos h, sumN_one (c := i % K) (Nat.mod_lt _ hK)]
    · rw [if_pos ((split_idx (Nat.mod_lt _ hK)).2 ⟨h, rfl⟩), ← Int.sub_mul, show ∀ x : Int, x + 1 - x = 1 from fun x => by omega, Int.one_mul]
    · intro z hz hne
      rw [if_neg (fun e => hne ((split_idx hz).1 e).2), Int.add_zero, Int.sub_self]
  · rw [if_neg h, sumN_zero]
    intro z hz
    rw [if_neg (fun e => h ((split_idx hz).1 e).1), Int.add_zero, Int.sub_self]
/-- Where w is one more. -/
theorem dt_right {P V : List Int} {N K M o : Nat} (hK : 0 < K) (ho : o < V.length) (j : Nat) : dt (rowsR ⟨[(N : Int), K], 0, P⟩) (rowsR ⟨[(M : Int), K], 0, bump V o⟩) M j K - dt (rowsR ⟨[(N : Int), K], 0, P⟩) (rowsR ⟨[(M : Int), K], 0, V⟩) M j K = if j % M = o / K then P.getD (j / M * K + o % K) 0 else 0 := by
  rw [dt_sumN _ _ (n1 := K) (n2 := K) (s1 := 1) (s2 := 1) rfl rfl rfl rfl, dt_sumN _ _ (n1 := K) (n2 := K) (s1 := 1) (s2 := 1) rfl rfl rfl rfl, sumN_sub]
  simp only [rowsR, Nat.mul_one, bump_get V ho]
  by_cases h : j % M = o / K
  · rw [if_pos h, sumN_one (c := o % K) (Nat.mod_lt _ hK)]
    · rw [if_pos ((split_idx (Nat.mod_lt _ hK)).2 ⟨h, rfl⟩), ← Int.mul_sub, show ∀ x : Int, x + 1 - x = 1 from fun x => by omega, Int.mul_one]
    · intro z hz hne
      rw [if_neg (fun e => hne ((split_idx hz).1 e).2), Int.add_zero, Int.sub_self]
  · rw [if_neg h, sumN_zero]
    intro z hz
    rw [if_neg (fun e => h ((split_idx hz).1 e).1), Int.add_zero, Int.sub_self]
theorem slope_x {H P V : List Int} {N K M i : Nat} (hK : 0 < K) (hi : i < P.length) (hP : P.length = N * K) : sumN (fun j => H.getD j 0 * (dt (rowsR ⟨[(N : Int), K], 0, bump P i⟩) (rowsR ⟨[(M : Int), K], 0, V⟩) M j K - dt (rowsR ⟨[(N : Int), K], 0, P⟩) (rowsR ⟨[(M : Int), K], 0, V⟩) M j K)) (N * M) = (mulL (rowsR ⟨[(N : Int), M], 0, H⟩) (colsR ⟨[(M : Int), K], 0, V⟩) N K M).getD i 0 := by
  have hr : i / K < N := Nat.div_lt_of_lt_mul (by rw [Nat.mul_comm]; omega)
  unfold mulL
  rw [getD_map (by omega), dt_sumN _ _ (n1 := M) (n2 := 1) (s1 := 1) (s2 := K) rfl rfl rfl rfl, sumN_rows]
  rw [sumN_one hr]
  · refine sumN_congr fun t ht => ?_
    obtain ⟨e1, e2⟩ := idx_div (i := i / K) ht
    rw [dt_left hK hi, e1, e2, if_pos rfl]
    simp only [rowsR, colsR, Nat.mul_one]
    rw [Nat.add_comm (i % K)]
  · intro s hs hne
    refine sumN_zero fun t ht => ?_
    obtain ⟨e1, e2⟩ := idx_div (i := s) ht
    simp only [dt_left hK hi, e1, e2, if_neg hne, Int.mul_zero]
theorem slope_w {H P V : List Int} {N K M o : Nat} (hK : 0 < K) (ho : o < V.length) (hV : V.length = M * K) : sumN (fun j => H.getD j 0 * (dt (rowsR ⟨[(N : Int), K], 0, P⟩) (rowsR ⟨[(M : Int), K], 0, bump V o⟩) M j K - dt (rowsR ⟨[(N : Int), K], 0, P⟩) (rowsR ⟨[(M : Int), K], 0, V⟩) M j K)) (N * M) = (mulL (colsR ⟨[(N : Int), M], 0, H⟩) (colsR ⟨[(N : Int), K], 0, P⟩) M K N).getD o 0 := by
  have hr : o / K < M := Nat.div_lt_of_lt_mul (by rw [Nat.mul_comm]; omega)
  unfold mulL
  rw [getD_map (by omega), dt_sumN _ _ (n1 := 1) (n2 := 1) (s1 := M) (s2 := K) rfl rfl rfl rfl, sumN_rows]
  refine sumN_congr fun s hs => ?_
  rw [sumN_one hr]
  · obtain ⟨e1, e2⟩ := idx_div (i := s) hr
    simp only [dt_right hK ho, e1, e2, if_true, colsR, Nat.mul_one]
    rw [Nat.add_comm (o % K), Nat.add_comm (o / K)]
  · intro t ht hne
    obtain ⟨e1, e2⟩ := idx_div (i := s) ht
    simp only [dt_right hK ho, e1, e2, if_neg hne, Int.mul_zero]
end Go.Proofs.Ytcbcfajihbbdcaa
