/- Layer 10: the way back is the slope: sums. -/
import Derived.Test.YtcbcfajihbbdcaaDenN
namespace Go.Proofs.Ytcbcfajihbbdcaa
open Go.RowKit
set_option maxRecDepth 100000
set_option linter.unusedSimpArgs false
set_option linter.unusedVariables false
set_option maxHeartbeats 8000000
def sumN (f : Nat → Int) : Nat → Int
  | 0 => 0
  | n + 1 => sumN f n + f n
theorem sumN_congr {f g : Nat → Int} : ∀ {n : Nat}, (∀ z, z < n → f z = g z) → sumN f n = sumN g n
  | 0, _ => rfl
  | n + 1, h => by unfold sumN; rw [sumN_congr fun z hz => h z (by omega), h n (by omega)]
theorem sumN_sub (f g : Nat → Int) : ∀ n, sumN f n - sumN g n = sumN (fun z => f z - g z) n
  | 0 => rfl
  | n + 1 => by unfold sumN; rw [← sumN_sub f g n]; omega
theorem sumN_zero {f : Nat → Int} : ∀ {n : Nat}, (∀ z, z < n → f z = 0) → sumN f n = 0
  | 0, _ => rfl
  | n + 1, h => by unfold sumN; rw [sumN_zero fun z hz => h z (by omega), h n (by omega)]; rfl
theorem sumN_one {f : Nat → Int} {c : Nat} : ∀ {n : Nat}, c < n → (∀ z, z < n → z ≠ c → f z = 0) → sumN f n = f c
  | 0, h, _ => by omega
  | n + 1, hc, h => by
    unfold sumN
    by_cases e : c = n
    · subst e
      rw [sumN_zero fun z hz => h z (by omega) (by omega), Int.zero_add]
    · rw [sumN_one (by omega) fun z hz hne => h z (by omega) hne, h n (by omega) (by omega), Int.add_zero]
theorem sumN_add (f : Nat → Int) (a : Nat) : ∀ b, sumN f (a + b) = sumN f a + sumN (fun t => f (a + t)) b
  | 0 => by simp [sumN]
  | b + 1 => by
    show sumN f (a + b) + f (a + b) = sumN f a + (sumN (fun t => f (a + t)) b + f (a + b))
    rw [sumN_add f a b]; omega
theorem sumN_rows (f : Nat → Int) (M : Nat) : ∀ N, sumN f (N * M) = sumN (fun s => sumN (fun t => f (s * M + t)) M) N
  | 0 => by simp [sumN]
  | N + 1 => by
    rw [Nat.succ_mul, sumN_add, sumN_rows f M N]
    rfl
theorem sumN_bd {f : Nat → Int} {B : Int} (hB : 0 ≤ B) (h : ∀ z, -B ≤ f z ∧ f z ≤ B) : ∀ n : Nat, -((n : Int) * B) ≤ sumN f n ∧ sumN f n ≤ (n : Int) * B
  | 0 => by simp [sumN]
  | n + 1 => by
    have h1 := sumN_bd hB h n
    have h2 := h n
    unfold sumN
    rw [show ((n + 1 : Nat) : Int) * B = (n : Int) * B + B by rw [Int.natCast_succ, Int.add_mul, Int.one_mul]]
    omega
theorem dt_sumN (a b : Ln) {n1 n2 s1 s2 : Nat} (e1 : a.next = n1) (e2 : b.next = n2) (e3 : a.step = s1) (e4 : b.step = s2) (m j : Nat) : ∀ n, dt a b m j n = sumN (fun z => a.data.getD (j / m * n1 + z * s1) 0 * b.data.getD (j % m * n2 + z * s2) 0) n
  | 0 => rfl
  | n + 1 => by
    have ih := dt_sumN a b e1 e2 e3 e4 m j n
    unfold dt at ih ⊢
    unfold sumTo sumN
    rw [ih, prI_nat a b (j / m) (j % m) n n1 n2 s1 s2 e1 e2 e3 e4]
/-- One number is one more. -/
def bump (L : List Int) (i : Nat) : List Int := L.set i (L.getD i 0 + 1)
theorem bump_len (L : List Int) (i : Nat) : (bump L i).length = L.length := by simp [bump]
theorem bump_get (L : List Int) {i : Nat} (hi : i < L.length) (t : Nat) : (bump L i).getD t 0 = L.getD t 0 + if t = i then 1 else 0 := by
  unfold bump
  by_cases e : t = i
  · subst e
    rw [if_pos rfl, List.getD_eq_getElem?_getD, List.getElem?_set_self hi]; rfl
  · rw [if_neg e, Int.add_zero, List.getD_eq_getElem?_getD, List.getElem?_set_ne (Ne.symm e), ← List.getD_eq_getElem?_getD]
theorem bump_no {L : List Int} {i : Nat} (hL : L.contains (-128) = false) (hf : Fits .i8 L) (hi : i < L.length) : (bump L i).contains (-128) = false := by
  rw [List.contains_eq_mem, decide_eq_false_iff_not] at hL ⊢
  intro hm
  rcases List.mem_or_eq_of_mem_set hm with h | h
  · exact hL h
  · have h1 := fits8 hf i
    have h2 : L.getD i 0 ∈ L := by
      rw [List.getD_eq_getElem?_getD, List.getElem?_eq_getElem hi]; exact List.getElem_mem _
    have h3 : L.getD i 0 ≠ -128 := fun e => hL (e ▸ h2)
    omega
theorem split_idx {K i r z : Nat} (hz : z < K) : r * K + z = i ↔ r = i / K ∧ z = i % K := by
  constructor
  · rintro rfl
    obtain ⟨h1, h2⟩ := idx_div (i := r) hz
    exact ⟨h1.symm, h2.symm⟩
  · rintro ⟨rfl, rfl⟩
    rw [Nat.mul_comm]; exact Nat.div_add_mod i K
/-- Where x is one more. -/
theorem dt_left {P V : List Int} {N K M i : Nat} (hK : 0 < K) (hi : i < P.length) (j : Nat) : dt (rowsR ⟨[(N : Int), K], 0, bump P i⟩) (rowsR ⟨[(M : Int), K], 0, V⟩) M j K - dt (rowsR ⟨[(N : Int), K], 0, P⟩) (rowsR ⟨[(M : Int), K], 0, V⟩) M j K = if j / M = i / K then V.getD (j % M * K + i % K) 0 else 0 := by
  rw [dt_sumN _ _ (n1 := K) (n2 := K) (s1 := 1) (s2 := 1) rfl rfl rfl rfl, dt_sumN _ _ (n1 := K) (n2 := K) (s1 := 1) (s2 := 1) rfl rfl rfl rfl, sumN_sub]
  simp only [rowsR, Nat.mul_one, bump_get P hi]
  by_cases h : j / M = i / K
  · rw [if_pos h, sumN_one (c := i % K) (Nat.mod_lt _ hK)]
    · rw [if_pos ((split_idx (Nat.mod_lt _ hK)).2 ⟨h, rfl⟩), ← Int.sub_mul, show ∀ x : Int, x + 1 - x = 1 from fun x => by omega, Int.one_mul]
    · intro z hz hne
      rw [if_neg (fun e => hne ((split_idx hz).1 e).2), Int.add_zero, Int.sub_self]
  · rw [if_neg h, sumN_zero]
    intro z hz
    rw [if_neg (fun e => h ((split_idx hz).1 e).1), Int.add_zero, Int.sub_self]
/-- Where w is one more. -/
theorem dt_right {P V : List Int} {N K M o : Nat} (hK : 0 < K) (ho : o < V.length) (j : Nat) : dt (rowsR ⟨[(N : Int), K], 0, P⟩) (rowsR ⟨[(M : Int), K], 0, bump V o⟩) M j K - dt (rowsR ⟨[(N : Int), K], 0, P⟩) (rowsR ⟨[(M : Int), K], 0, V⟩) M j K = if j % M = o / K then P.getD (j / M * K + o % K) 0 else 0 := by
  rw [dt_sumN _ _ (n1 := K) (n2 := K) (s1 := 1) (s2 := 1) rfl rfl rfl rfl, dt_sumN _ _ (n1 := K) (n2 := K) (s1 := 1) (s2 := 1) rfl rfl rfl rfl, sumN_sub]
  simp only [rowsR, Nat.mul_one, bump_get V ho]
  by_cases h : j % M = o / K
  · rw [if_pos h, sumN_one (c := o % K) (Nat.mod_lt _ hK)]
    · rw [if_pos ((split_idx (Nat.mod_lt _ hK)).2 ⟨h, rfl⟩), ← Int.mul_sub, show ∀ x : Int, x + 1 - x = 1 from fun x => by omega, Int.mul_one]
    · intro z hz hne
      rw [if_neg (fun e => hne ((split_idx hz).1 e).2), Int.add_zero, Int.sub_self]
  · rw [if_neg h, sumN_zero]
    intro z hz
    rw [if_neg (fun e => h ((split_idx hz).1 e).1), Int.add_zero, Int.sub_self]
theorem slope_x {H P V : List Int} {N K M i : Nat} (hK : 0 < K) (hi : i < P.length) (hP : P.length = N * K) : sumN (fun j => H.getD j 0 * (dt (rowsR ⟨[(N : Int), K], 0, bump P i⟩) (rowsR ⟨[(M : Int), K], 0, V⟩) M j K - dt (rowsR ⟨[(N : Int), K], 0, P⟩) (rowsR ⟨[(M : Int), K], 0, V⟩) M j K)) (N * M) = (mulL (rowsR ⟨[(N : Int), M], 0, H⟩) (colsR ⟨[(M : Int), K], 0, V⟩) N K M).getD i 0 := by
  have hr : i / K < N := Nat.div_lt_of_lt_mul (by rw [Nat.mul_comm]; omega)
  unfold mulL
  rw [getD_map (by omega), dt_sumN _ _ (n1 := M) (n2 := 1) (s1 := 1) (s2 := K) rfl rfl rfl rfl, sumN_rows]
  rw [sumN_one hr]
  · refine sumN_congr fun t ht => ?_
    obtain ⟨e1, e2⟩ := idx_div (i := i / K) ht
    rw [dt_left hK hi, e1, e2, if_pos rfl]
    simp only [rowsR, colsR, Nat.mul_one]
    rw [Nat.add_comm (i % K)]
  · intro s hs hne
    refine sumN_zero fun t ht => ?_
    obtain ⟨e1, e2⟩ := idx_div (i := s) ht
    simp only [dt_left hK hi, e1, e2, if_neg hne, Int.mul_zero]
theorem slope_w {H P V : List Int} {N K M o : Nat} (hK : 0 < K) (ho : o < V.length) (hV : V.length = M * K) : sumN (fun j => H.getD j 0 * (dt (rowsR ⟨[(N : Int), K], 0, P⟩) (rowsR ⟨[(M : Int), K], 0, bump V o⟩) M j K - dt (rowsR ⟨[(N : Int), K], 0, P⟩) (rowsR ⟨[(M : Int), K], 0, V⟩) M j K)) (N * M) = (mulL (colsR ⟨[(N : Int), M], 0, H⟩) (colsR ⟨[(N : Int), K], 0, P⟩) M K N).getD o 0 := by
  have hr : o / K < M := Nat.div_lt_of_lt_mul (by rw [Nat.mul_comm]; omega)
  unfold mulL
  rw [getD_map (by omega), dt_sumN _ _ (n1 := 1) (n2 := 1) (s1 := M) (s2 := K) rfl rfl rfl rfl, sumN_rows]
  refine sumN_congr fun s hs => ?_
  rw [sumN_one hr]
  · obtain ⟨e1, e2⟩ := idx_div (i := s) hr
    simp only [dt_right hK ho, e1, e2, if_true, colsR, Nat.mul_one]
    rw [Nat.add_comm (o % K), Nat.add_comm (o / K)]
  · intro t ht hne
    obtain ⟨e1, e2⟩ := idx_div (i := s) ht
    simp only [dt_right hK ho, e1, e2, if_neg hne, Int.mul_zero]
end Go.Proofs.Ytcbcfajihbbdcaa
/- Layer 10: the way back is the slope. -/
namespace Go.Proofs.Ytcbcfajihbbdcaa
open Go.RowKit
set_option maxRecDepth 100000
set_option linter.unusedSimpArgs false
set_option linter.unusedVariables false
set_option maxHeartbeats 8000000
theorem fwd_nk {N K M : Nat} (h : Small3 N K M) {A B : List Int} (b : List Int) (lA : A.length = N * K) (lB : B.length = M * K) (cA : A.contains (-128) = false) (cB : B.contains (-128) = false) : fwdE [.st [.l [(N : Int), K], .z 0, .l A], .st [.l [(M : Int), K], .z 0, .l B], .st [.l [(M : Int)], .z 0, .l (matL b M)]] = 0 ∧ rU fwdE fwdR [.st [.l [(N : Int), K], .z 0, .l A], .st [.l [(M : Int), K], .z 0, .l B], .st [.l [(M : Int)], .z 0, .l (matL b M)]] = ⟨[(N : Int), M], 0, (List.range (N * M)).map (outL ⟨[(N : Int), K], 0, A⟩ ⟨[(M : Int), K], 0, B⟩ ⟨[(M : Int)], 0, matL b M⟩)⟩ :=
  fwd_pair (n := (N : Int)) (k := (K : Int)) (m := (M : Int)) (e1 := 0) (e2 := 0) (e3 := 0) (by have := h.n; omega) (by have := h.k; omega) (by have := h.m; omega) (smulN h.n h.k (by decide)).2.2.2 (smulN h.m h.k (by decide)).2.2.2 (smulN h.n h.m (by decide)).2.2.2 (by decide) (by decide) (by decide) (by rw [lA, Int.natCast_mul]) (by rw [lB, Int.natCast_mul]) (by rw [matL_len]) cA cB (matL_no _ _)
theorem inp_nk {N K M : Nat} (h : Small3 N K M) (g w : List Int) : t2 inErr 0 [.st [.l [(N : Int), M], .z 0, .l (matL g (N * M))], .st [.l [(M : Int), K], .z 0, .l (matL w (M * K))]] = 0 ∧ rU (t2 inErr 0) (t2 inRes ⟨[], 0, []⟩) [.st [.l [(N : Int), M], .z 0, .l (matL g (N * M))], .st [.l [(M : Int), K], .z 0, .l (matL w (M * K))]] = ⟨[(N : Int), K], 0, mulL (rowsR ⟨[(N : Int), M], 0, matL g (N * M)⟩) (colsR ⟨[(M : Int), K], 0, matL w (M * K)⟩) N K M⟩ := inp_mat h g w
theorem wgt_nk {N K M : Nat} (h : Small3 N K M) (g x : List Int) : t2 wtErr 0 [.st [.l [(N : Int), M], .z 0, .l (matL g (N * M))], .st [.l [(N : Int), K], .z 0, .l (matL x (N * K))]] = 0 ∧ rU (t2 wtErr 0) (t2 wtRes ⟨[], 0, []⟩) [.st [.l [(N : Int), M], .z 0, .l (matL g (N * M))], .st [.l [(N : Int), K], .z 0, .l (matL x (N * K))]] = ⟨[(M : Int), K], 0, mulL (colsR ⟨[(N : Int), M], 0, matL g (N * M)⟩) (colsR ⟨[(N : Int), K], 0, matL x (N * K)⟩) M K N⟩ := wgt_mat h g x
theorem outD (x x' w w' b : List Int) (N K M j : Nat) : outL ⟨[(N : Int), K], 0, x'⟩ ⟨[(M : Int), K], 0, w'⟩ ⟨[(M : Int)], 0, b⟩ j - outL ⟨[(N : Int), K], 0, x⟩ ⟨[(M : Int), K], 0, w⟩ ⟨[(M : Int)], 0, b⟩ j = dt (rowsR ⟨[(N : Int), K], 0, x'⟩) (rowsR ⟨[(M : Int), K], 0, w'⟩) M j K - dt (rowsR ⟨[(N : Int), K], 0, x⟩) (rowsR ⟨[(M : Int), K], 0, w⟩) M j K := by
  have e : ∀ x w : List Int, outL ⟨[(N : Int), K], 0, x⟩ ⟨[(M : Int), K], 0, w⟩ ⟨[(M : Int)], 0, b⟩ j = dt (rowsR ⟨[(N : Int), K], 0, x⟩) (rowsR ⟨[(M : Int), K], 0, w⟩) M j K + alignI (b.getD (j % b.length) 0) 0 (0 + 0) := fun _ _ => rfl
  rw [e, e]
  omega
theorem outB {x w b : List Int} (hx : Fits .i8 x) (hw : Fits .i8 w) (hb : Fits .i8 b) {N K M : Nat} (hK : K ≤ 959) (j : Nat) : -16760832 ≤ outL ⟨[(N : Int), K], 0, x⟩ ⟨[(M : Int), K], 0, w⟩ ⟨[(M : Int)], 0, b⟩ j ∧ outL ⟨[(N : Int), K], 0, x⟩ ⟨[(M : Int), K], 0, w⟩ ⟨[(M : Int)], 0, b⟩ j ≤ 16760832 := by
  have h1 := dt_in (a := rowsR ⟨[(N : Int), K], 0, x⟩) (b := rowsR ⟨[(M : Int), K], 0, w⟩) hx hw M j K hK
  have h2 := alignS (b.getD (j % b.length) 0) 0 (0 + 0) (fits8 hb _)
  have e : outL ⟨[(N : Int), K], 0, x⟩ ⟨[(M : Int), K], 0, w⟩ ⟨[(M : Int)], 0, b⟩ j = dt (rowsR ⟨[(N : Int), K], 0, x⟩) (rowsR ⟨[(M : Int), K], 0, w⟩) M j K + alignI (b.getD (j % b.length) 0) 0 (0 + 0) := rfl
  omega
theorem bump_fits {L : List Int} {i : Nat} (h : Fits .i8 L) (h1 : L.getD i 0 ≠ 127) : Fits .i8 (bump L i) := by
  intro y hy
  rcases List.mem_or_eq_of_mem_set hy with hy | rfl
  · exact h y hy
  · have := fits8 h i
    exact (stdIn_iff .i8 _).1 ⟨by omega, by omega⟩
theorem bump_eq (L : List Int) (i : Nat) : L.set i (L.getD i 0 + 1) = bump L i := rfl
theorem wrapU_nk {N K : Nat} (h : N * K ≤ 8192) : IntKind.u64.wrap ((N : Int) * K) = (N : Int) * K := by
  rw [wrap64u, ← Int.natCast_mul]
  omega
def dX (x x' w w' : List Int) (N K M j : Nat) : Int := dt (rowsR ⟨[(N : Int), K], 0, x'⟩) (rowsR ⟨[(M : Int), K], 0, w'⟩) M j K - dt (rowsR ⟨[(N : Int), K], 0, x⟩) (rowsR ⟨[(M : Int), K], 0, w⟩) M j K
theorem dX_in {x x' w w' : List Int} (h1 : Fits .i8 x) (h2 : Fits .i8 x') (h3 : Fits .i8 w) (h4 : Fits .i8 w') {N K M : Nat} (hK : K ≤ 959) (j : Nat) : -31424512 ≤ dX x x' w w' N K M j ∧ dX x x' w w' N K M j ≤ 31424512 := by
  have a1 := dt_in (a := rowsR ⟨[(N : Int), K], 0, x'⟩) (b := rowsR ⟨[(M : Int), K], 0, w'⟩) h2 h4 M j K hK
  have a2 := dt_in (a := rowsR ⟨[(N : Int), K], 0, x⟩) (b := rowsR ⟨[(M : Int), K], 0, w⟩) h1 h3 M j K hK
  unfold dX
  omega
theorem slope_in {H x x' w w' : List Int} (hH : Fits .i8 H) (h1 : Fits .i8 x) (h2 : Fits .i8 x') (h3 : Fits .i8 w) (h4 : Fits .i8 w') {N K M : Nat} (hK : K ≤ 959) (j : Nat) : -((j : Int) * 4022337536) ≤ sumN (fun j => H.getD j 0 * dX x x' w w' N K M j) j ∧ sumN (fun j => H.getD j 0 * dX x x' w w' N K M j) j ≤ (j : Int) * 4022337536 := by
  refine sumN_bd (by decide) (fun z => ?_) j
  have a1 := fits8 hH z
  have a2 := dX_in h1 h2 h3 h4 (N := N) (M := M) hK z
  have := mulAbs (a := H.getD z 0) (b := dX x x' w w' N K M z) (A := 128) (B := 31424512) (by omega) (by omega) (by omega) (by omega)
  omega
theorem slope10_ok : CtrOk Try.prog 9 (boolC [.sl (.int .i8), .sl (.int .i8), .sl (.int .i8), .sl (.int .i8), .int .i64, .int .i64, .int .i64, .int .i64] yes) := by
  obtain ⟨G, hG⟩ : ∃ G : List (FuncId × Ctr), G = [(24, resU [tnTy .i8, tnTy .i8, tnTy .i8] .i32 3 21 fwdE (rU fwdE fwdR)), (26, resU [tnTy .i8, tnTy .i8] .i32 3 21 (t2 inErr 0) (rU (t2 inErr 0) (t2 inRes ⟨[], 0, []⟩))), (28, resU [tnTy .i8, tnTy .i8] .i32 3 21 (t2 wtErr 0) (rU (t2 wtErr 0) (t2 wtRes ⟨[], 0, []⟩))), (35, tnP [.sl (.int .i8), .int .i64, .int .i64] .i8 3 38 matP matR), (36, tnP [.sl (.int .i8), .int .i64] .i8 3 38 vecP vecR), (23, boolC [] yes)] := ⟨_, rfl⟩
  refine fn_ok (ck := true) Try.func9 rfl tt_ok (G := G) (by rw [hG]; exact ⟨⟨fwdU_ok, by unfold FnOk; kernel_rfl⟩, ⟨inpU_ok, by unfold FnOk; kernel_rfl⟩, ⟨wgtU_ok, by unfold FnOk; kernel_rfl⟩, ⟨matrix_ok, by unfold FnOk; kernel_rfl⟩, ⟨vector_ok, by unfold FnOk; kernel_rfl⟩, ⟨awake10_ok, by unfold FnOk; kernel_rfl⟩, trivial⟩) mixed (by kernel_rfl) ?_
  intro xa xs h hx hp
  obtain ⟨a0, as0, x0, xs0, rfl, rfl, h0, H1⟩ := svArgs_cons h
  obtain ⟨a1, as1, x1, xs1, rfl, rfl, h1, H2⟩ := svArgs_cons H1
  obtain ⟨a2, as2, x2, xs2, rfl, rfl, h2, H3⟩ := svArgs_cons H2
  obtain ⟨a3, as3, x3, xs3, rfl, rfl, h3, H4⟩ := svArgs_cons H3
  obtain ⟨a4, as4, x4, xs4, rfl, rfl, h4, H5⟩ := svArgs_cons H4
  obtain ⟨a5, as5, x5, xs5, rfl, rfl, h5, H6⟩ := svArgs_cons H5
  obtain ⟨a6, as6, x6, xs6, rfl, rfl, h6, H7⟩ := svArgs_cons H6
  obtain ⟨a7, as7, x7, xs7, rfl, rfl, h7, H8⟩ := svArgs_cons H7
  obtain ⟨rfl, rfl⟩ := svArgs_nil H8
  obtain ⟨x, rfl, rfl⟩ := argSV_ints h0
  obtain ⟨w, rfl, rfl⟩ := argSV_ints h1
  obtain ⟨b, rfl, rfl⟩ := argSV_ints h2
  obtain ⟨g, rfl, rfl⟩ := argSV_ints h3
  obtain ⟨n, rfl, rfl⟩ := argSV_int h4
  obtain ⟨k, rfl, rfl⟩ := argSV_int h5
  obtain ⟨m, rfl, rfl⟩ := argSV_int h6
  obtain ⟨a, rfl, rfl⟩ := argSV_int h7
  have sx : Fits .i8 x ∧ ci x.length ≤ 9223372036854775807 := svf_ints (hx (.iimm .i8 x) (by simp))
  have sw : Fits .i8 w ∧ ci w.length ≤ 9223372036854775807 := svf_ints (hx (.iimm .i8 w) (by simp))
  have sb : Fits .i8 b ∧ ci b.length ≤ 9223372036854775807 := svf_ints (hx (.iimm .i8 b) (by simp))
  have sg : Fits .i8 g ∧ ci g.length ≤ 9223372036854775807 := svf_ints (hx (.iimm .i8 g) (by simp))
  have sn := of_i64 (hx (.v (.int .i64 n)) (by simp))
  have sk := of_i64 (hx (.v (.int .i64 k)) (by simp))
  have sm := of_i64 (hx (.v (.int .i64 m)) (by simp))
  have sa := of_i64 (hx (.v (.int .i64 a)) (by simp))
  have SX := Lib.hid sx
  clear sx
  have SW := Lib.hid sw
  clear sw
  have SB := Lib.hid sb
  clear sb
  have SG := Lib.hid sg
  clear sg
  have SN := Lib.hid sn
  clear sn
  have SK := Lib.hid sk
  clear sk
  have SM := Lib.hid sm
  clear sm
  have SA := Lib.hid sa
  clear sa
  clear hx hp h h0 H1 h1 H2 h2 H3 h3 H4 h4 H5 h5 H6 h6 H7 h7 H8
  generalize hA : std = A
  subst hG
  generalize h_c : ci = c
  generalize h_fR : rU fwdE fwdR = fR
  generalize h_fE : fwdE = fE
  generalize h_fI : rU (t2 inErr 0) (t2 inRes ⟨[], 0, []⟩) = fI
  generalize h_fJ : t2 inErr 0 = fJ
  generalize h_fW : rU (t2 wtErr 0) (t2 wtRes ⟨[], 0, []⟩) = fW
  generalize h_fX : t2 wtErr 0 = fX
  generalize h_fM : matR = fM
  generalize h_fV : vecR = fV
  generalize h_pM : matP = pM
  generalize h_pV : vecP = pV
  generalize h_fY : yes = fY
  (obtain ⟨N, hN, b1⟩ := modN n 4 4 (by decide) (by decide) rfl; obtain ⟨K, hK, b2⟩ := modN k 12 12 (by decide) (by decide) rfl; obtain ⟨M, hM, b3⟩ := modN m 8 8 (by decide) (by decide) rfl; have HS := Lib.hid (Small3.mk b1 b2 b3); clear b1 b2 b3; have HNKM := Lib.hid (And.intro hN (And.intro hK hM)); clear hN hK hM)
  obtain ⟨I, hI⟩ : ∃ I : Nat, I = (IntKind.i64.wrap ((IntKind.u64.wrap a).tmod (ci N * ci K))).toNat := ⟨_, rfl⟩
  obtain ⟨O, hO⟩ : ∃ I : Nat, I = (IntKind.i64.wrap ((IntKind.u64.wrap a).tmod (ci M * ci K))).toNat := ⟨_, rfl⟩
  have HI := Lib.hid hI
  have HO := Lib.hid hO
  clear hI hO
  obtain ⟨S1, hS1⟩ : ∃ S : Nat → Int, ∀ j, S j = sumN (fun j => (matL g (N * M)).getD j 0 * dX (matL x (N * K)) (bump (matL x (N * K)) I) (matL w (M * K)) (matL w (M * K)) N K M j) j := ⟨_, fun _ => rfl⟩
  obtain ⟨S2, hS2⟩ : ∃ S : Nat → Int, ∀ j, S j = sumN (fun j => (matL g (N * M)).getD j 0 * dX (matL x (N * K)) (matL x (N * K)) (matL w (M * K)) (bump (matL w (M * K)) O) N K M j) j := ⟨_, fun _ => rfl⟩
  have HS1 := Lib.hid hS1
  have HS2 := Lib.hid hS2
  clear hS1 hS2
  cbv
  (repeat' (first | apply And.intro | apply BrB.mk | apply BrP.mk | intro _))
  all_goals try (refine loop_at Nat 220 (fun j => [(35, .v (.int .i64 (S1 j))), (36, .v (.int .i64 (S2 j))), (37, .any), (220, .v (.int .i64 (c j)))]) (fun _ o => o) (fun j => j ≤ N * M) (fun j => N * M - j) 0 (Nat.zero_le _) ?hle ?round)
  case hle =>
    cbv
    (repeat' (first | apply And.intro | apply BrB.mk | apply BrP.mk | intro _))
    (all_goals (subst hA; subst h_c; subst h_fR; subst h_fE; subst h_fI; subst h_fJ; subst h_fW; subst h_fX; subst h_fM; subst h_fV; subst h_pM; subst h_pV; subst h_fY); all_goals (have f_sx := SX.out; have f_sw := SW.out; have f_sb := SB.out; have f_sg := SG.out; have f_sn := SN.out; have f_sk := SK.out; have f_sm := SM.out; have f_sa := SA.out); all_goals (obtain ⟨hN, hK, hM⟩ := HNKM.out; have hS := HS.out; have bN := hS.n; have bK := hS.k; have bM := hS.m; have hn := modU n 4 (by decide) (by decide); have hk := modU k 12 (by decide) (by decide); have hm := modU m 8 (by decide) (by decide); have pNK := smulN bN bK (by decide); have pNM := smulN bN bM (by decide); have pMK := smulN bM bK (by decide); have hI := HI.out; have hO := HO.out; have mI := modU a ((N : Int) * K) (by omega) (by omega); have mO := modU a ((M : Int) * K) (by omega) (by omega); have wNK := wrapU_nk pNK.2.1; have wMK := wrapU_nk pMK.2.1; simp only [std, stdBin, stdCmp, stdUna, stdIn, ci, beq_iff_eq, bne_iff_ne, beq_eq_false_iff_ne, bne_eq_false_iff_eq, decide_eq_true_eq, decide_eq_false_iff_not, Bool.not_true, Bool.not_false, Bool.not_eq_true', Bool.not_eq_false', Bool.not_not, tn0, tn1, tn2, tn3, matR, vecR, matP, vecP] at *; (try simp only [hN, hK, hM, Int.toNat_natCast, nm_nat, wNK, wMK] at *)); all_goals (have eI : IntKind.i64.wrap ((IntKind.u64.wrap a).tmod ((N : Int) * K)) = (I : Int) := (by omega); have eO : IntKind.i64.wrap ((IntKind.u64.wrap a).tmod ((M : Int) * K)) = (O : Int) := (by omega); have bI : I < N * K := (by rw [eI, ← Int.natCast_mul] at mI; omega); have bO : O < M * K := (by rw [eO, ← Int.natCast_mul] at mO; omega); (try simp only [eI, eO, Int.toNat_natCast, bump_eq] at *)))
    all_goals first | exact True.intro | rfl | skip
    all_goals (first | (rw [HS1.out]; rfl) | (rw [HS2.out]; rfl))
  case round =>
    intro j hj
    cbv
    refine BrB.mk (fun gx => ?yx) (fun gx => ?nx)
    case yx =>
      (repeat' (first | apply And.intro | apply BrB.mk | apply BrP.mk | intro _))
      all_goals try (refine ⟨j + 1, ?jI, ?jL, ?jM⟩)
      case jL =>
        cbv
        (repeat' (first | apply And.intro | apply BrB.mk | apply BrP.mk | intro _))
        (all_goals (subst hA; subst h_c; subst h_fR; subst h_fE; subst h_fI; subst h_fJ; subst h_fW; subst h_fX; subst h_fM; subst h_fV; subst h_pM; subst h_pV; subst h_fY); all_goals (have f_sx := SX.out; have f_sw := SW.out; have f_sb := SB.out; have f_sg := SG.out; have f_sn := SN.out; have f_sk := SK.out; have f_sm := SM.out; have f_sa := SA.out); all_goals (obtain ⟨hN, hK, hM⟩ := HNKM.out; have hS := HS.out; have bN := hS.n; have bK := hS.k; have bM := hS.m; have hn := modU n 4 (by decide) (by decide); have hk := modU k 12 (by decide) (by decide); have hm := modU m 8 (by decide) (by decide); have pNK := smulN bN bK (by decide); have pNM := smulN bN bM (by decide); have pMK := smulN bM bK (by decide); have hI := HI.out; have hO := HO.out; have mI := modU a ((N : Int) * K) (by omega) (by omega); have mO := modU a ((M : Int) * K) (by omega) (by omega); have wNK := wrapU_nk pNK.2.1; have wMK := wrapU_nk pMK.2.1; simp only [std, stdBin, stdCmp, stdUna, stdIn, ci, beq_iff_eq, bne_iff_ne, beq_eq_false_iff_ne, bne_eq_false_iff_eq, decide_eq_true_eq, decide_eq_false_iff_not, Bool.not_true, Bool.not_false, Bool.not_eq_true', Bool.not_eq_false', Bool.not_not, tn0, tn1, tn2, tn3, matR, vecR, matP, vecP] at *; (try simp only [hN, hK, hM, Int.toNat_natCast, nm_nat, wNK, wMK] at *)); all_goals (have eI : IntKind.i64.wrap ((IntKind.u64.wrap a).tmod ((N : Int) * K)) = (I : Int) := (by omega); have eO : IntKind.i64.wrap ((IntKind.u64.wrap a).tmod ((M : Int) * K)) = (O : Int) := (by omega); have bI : I < N * K := (by rw [eI, ← Int.natCast_mul] at mI; omega); have bO : O < M * K := (by rw [eO, ← Int.natCast_mul] at mO; omega); (try simp only [eI, eO, Int.toNat_natCast, bump_eq] at *)))
        all_goals first | exact True.intro | rfl | skip
        (all_goals (have cX := matL_no x (N * K); have cW := matL_no w (M * K); have fX := matL_in x f_sx.1 (N * K); have fW := matL_in w f_sw.1 (M * K); have fB := matL_in b f_sb.1 M; have fG := matL_in g f_sg.1 (N * M); have lI : I < (matL x (N * K)).length := (by rw [matL_len]; exact bI); have lO : O < (matL w (M * K)).length := (by rw [matL_len]; exact bO); obtain ⟨F1, R1⟩ := fwd_nk hS b (A := matL x (N * K)) (B := matL w (M * K)) (matL_len _ _) (matL_len _ _) cX cW; obtain ⟨F2, R2⟩ := fwd_nk hS b (A := bump (matL x (N * K)) I) (B := matL w (M * K)) (by rw [bump_len, matL_len]) (matL_len _ _) (bump_no cX fX lI) cW; obtain ⟨F3, R3⟩ := fwd_nk hS b (A := matL x (N * K)) (B := bump (matL w (M * K)) O) (matL_len _ _) (by rw [bump_len, matL_len]) cX (bump_no cW fW lO); obtain ⟨F4, R4⟩ := inp_nk hS g w; obtain ⟨F5, R5⟩ := wgt_nk hS g x; (try simp only [F1, F2, F3, F4, F5, R1, R2, R3, R4, R5, List.length_map, List.length_range, mulL_len, matL_len, bump_len] at *)))
        (all_goals (have hjm : j < N * M := (by omega); have g1 := getD_map (f := outL ⟨[(N : Int), K], 0, matL x (N * K)⟩ ⟨[(M : Int), K], 0, matL w (M * K)⟩ ⟨[(M : Int)], 0, matL b M⟩) hjm; have g2 := getD_map (f := outL ⟨[(N : Int), K], 0, bump (matL x (N * K)) I⟩ ⟨[(M : Int), K], 0, matL w (M * K)⟩ ⟨[(M : Int)], 0, matL b M⟩) hjm; have g3 := getD_map (f := outL ⟨[(N : Int), K], 0, matL x (N * K)⟩ ⟨[(M : Int), K], 0, bump (matL w (M * K)) O⟩ ⟨[(M : Int)], 0, matL b M⟩) hjm; have d1 : outL ⟨[(N : Int), K], 0, bump (matL x (N * K)) I⟩ ⟨[(M : Int), K], 0, matL w (M * K)⟩ ⟨[(M : Int)], 0, matL b M⟩ j - outL ⟨[(N : Int), K], 0, matL x (N * K)⟩ ⟨[(M : Int), K], 0, matL w (M * K)⟩ ⟨[(M : Int)], 0, matL b M⟩ j = dX (matL x (N * K)) (bump (matL x (N * K)) I) (matL w (M * K)) (matL w (M * K)) N K M j := outD _ _ _ _ _ N K M j; have d2 : outL ⟨[(N : Int), K], 0, matL x (N * K)⟩ ⟨[(M : Int), K], 0, bump (matL w (M * K)) O⟩ ⟨[(M : Int)], 0, matL b M⟩ j - outL ⟨[(N : Int), K], 0, matL x (N * K)⟩ ⟨[(M : Int), K], 0, matL w (M * K)⟩ ⟨[(M : Int)], 0, matL b M⟩ j = dX (matL x (N * K)) (matL x (N * K)) (matL w (M * K)) (bump (matL w (M * K)) O) N K M j := outD _ _ _ _ _ N K M j; (try simp only [g1, g2, g3, d1, d2] at *)))
        all_goals (first | (rw [HS1.out, HS1.out]; rfl) | (rw [HS2.out, HS2.out]; rfl))
      (all_goals (subst hA; subst h_c; subst h_fR; subst h_fE; subst h_fI; subst h_fJ; subst h_fW; subst h_fX; subst h_fM; subst h_fV; subst h_pM; subst h_pV; subst h_fY); all_goals (have f_sx := SX.out; have f_sw := SW.out; have f_sb := SB.out; have f_sg := SG.out; have f_sn := SN.out; have f_sk := SK.out; have f_sm := SM.out; have f_sa := SA.out); all_goals (obtain ⟨hN, hK, hM⟩ := HNKM.out; have hS := HS.out; have bN := hS.n; have bK := hS.k; have bM := hS.m; have hn := modU n 4 (by decide) (by decide); have hk := modU k 12 (by decide) (by decide); have hm := modU m 8 (by decide) (by decide); have pNK := smulN bN bK (by decide); have pNM := smulN bN bM (by decide); have pMK := smulN bM bK (by decide); have hI := HI.out; have hO := HO.out; have mI := modU a ((N : Int) * K) (by omega) (by omega); have mO := modU a ((M : Int) * K) (by omega) (by omega); have wNK := wrapU_nk pNK.2.1; have wMK := wrapU_nk pMK.2.1; simp only [std, stdBin, stdCmp, stdUna, stdIn, ci, beq_iff_eq, bne_iff_ne, beq_eq_false_iff_ne, bne_eq_false_iff_eq, decide_eq_true_eq, decide_eq_false_iff_not, Bool.not_true, Bool.not_false, Bool.not_eq_true', Bool.not_eq_false', Bool.not_not, tn0, tn1, tn2, tn3, matR, vecR, matP, vecP] at *; (try simp only [hN, hK, hM, Int.toNat_natCast, nm_nat, wNK, wMK] at *)); all_goals (have eI : IntKind.i64.wrap ((IntKind.u64.wrap a).tmod ((N : Int) * K)) = (I : Int) := (by omega); have eO : IntKind.i64.wrap ((IntKind.u64.wrap a).tmod ((M : Int) * K)) = (O : Int) := (by omega); have bI : I < N * K := (by rw [eI, ← Int.natCast_mul] at mI; omega); have bO : O < M * K := (by rw [eO, ← Int.natCast_mul] at mO; omega); (try simp only [eI, eO, Int.toNat_natCast, bump_eq] at *)))
      (all_goals (have cX := matL_no x (N * K); have cW := matL_no w (M * K); have fX := matL_in x f_sx.1 (N * K); have fW := matL_in w f_sw.1 (M * K); have fB := matL_in b f_sb.1 M; have fG := matL_in g f_sg.1 (N * M); have lI : I < (matL x (N * K)).length := (by rw [matL_len]; exact bI); have lO : O < (matL w (M * K)).length := (by rw [matL_len]; exact bO); obtain ⟨F1, R1⟩ := fwd_nk hS b (A := matL x (N * K)) (B := matL w (M * K)) (matL_len _ _) (matL_len _ _) cX cW; obtain ⟨F2, R2⟩ := fwd_nk hS b (A := bump (matL x (N * K)) I) (B := matL w (M * K)) (by rw [bump_len, matL_len]) (matL_len _ _) (bump_no cX fX lI) cW; obtain ⟨F3, R3⟩ := fwd_nk hS b (A := matL x (N * K)) (B := bump (matL w (M * K)) O) (matL_len _ _) (by rw [bump_len, matL_len]) cX (bump_no cW fW lO); obtain ⟨F4, R4⟩ := inp_nk hS g w; obtain ⟨F5, R5⟩ := wgt_nk hS g x; (try simp only [F1, F2, F3, F4, F5, R1, R2, R3, R4, R5, List.length_map, List.length_range, mulL_len, matL_len, bump_len] at *)))
      all_goals (try omega)
      (all_goals (have hjm : j < N * M := (by omega); have g1 := getD_map (f := outL ⟨[(N : Int), K], 0, matL x (N * K)⟩ ⟨[(M : Int), K], 0, matL w (M * K)⟩ ⟨[(M : Int)], 0, matL b M⟩) hjm; have g2 := getD_map (f := outL ⟨[(N : Int), K], 0, bump (matL x (N * K)) I⟩ ⟨[(M : Int), K], 0, matL w (M * K)⟩ ⟨[(M : Int)], 0, matL b M⟩) hjm; have g3 := getD_map (f := outL ⟨[(N : Int), K], 0, matL x (N * K)⟩ ⟨[(M : Int), K], 0, bump (matL w (M * K)) O⟩ ⟨[(M : Int)], 0, matL b M⟩) hjm; have d1 : outL ⟨[(N : Int), K], 0, bump (matL x (N * K)) I⟩ ⟨[(M : Int), K], 0, matL w (M * K)⟩ ⟨[(M : Int)], 0, matL b M⟩ j - outL ⟨[(N : Int), K], 0, matL x (N * K)⟩ ⟨[(M : Int), K], 0, matL w (M * K)⟩ ⟨[(M : Int)], 0, matL b M⟩ j = dX (matL x (N * K)) (bump (matL x (N * K)) I) (matL w (M * K)) (matL w (M * K)) N K M j := outD _ _ _ _ _ N K M j; have d2 : outL ⟨[(N : Int), K], 0, matL x (N * K)⟩ ⟨[(M : Int), K], 0, bump (matL w (M * K)) O⟩ ⟨[(M : Int)], 0, matL b M⟩ j - outL ⟨[(N : Int), K], 0, matL x (N * K)⟩ ⟨[(M : Int), K], 0, matL w (M * K)⟩ ⟨[(M : Int)], 0, matL b M⟩ j = dX (matL x (N * K)) (matL x (N * K)) (matL w (M * K)) (bump (matL w (M * K)) O) N K M j := outD _ _ _ _ _ N K M j; (try simp only [g1, g2, g3, d1, d2] at *)))
      all_goals (have fXb := bump_fits fX (i := I) (by assumption); have fWb := bump_fits fW (i := O) (by assumption); have b1 := dX_in fX fXb fW fW (N := N) (M := M) (K := K) (by omega) j; have b2 := dX_in fX fX fW fWb (N := N) (M := M) (K := K) (by omega) j; have s1 := slope_in fG fX fXb fW fW (N := N) (M := M) (K := K) (by omega) j; have s2 := slope_in fG fX fX fW fWb (N := N) (M := M) (K := K) (by omega) j; have hg := fits8 fG j; have q1 := mulAbs (a := (matL g (N * M)).getD j 0) (b := dX (matL x (N * K)) (bump (matL x (N * K)) I) (matL w (M * K)) (matL w (M * K)) N K M j) (A := 128) (B := 31424512) (by omega) (by omega) (by omega) (by omega); have q2 := mulAbs (a := (matL g (N * M)).getD j 0) (b := dX (matL x (N * K)) (matL x (N * K)) (matL w (M * K)) (bump (matL w (M * K)) O) N K M j) (A := 128) (B := 31424512) (by omega) (by omega) (by omega) (by omega); (try rw [← HS1.out] at s1); (try rw [← HS2.out] at s2))
      all_goals (try omega)
    case nx =>
      (repeat' (first | apply And.intro | apply BrB.mk | apply BrP.mk | intro _))
      (all_goals (subst hA; subst h_c; subst h_fR; subst h_fE; subst h_fI; subst h_fJ; subst h_fW; subst h_fX; subst h_fM; subst h_fV; subst h_pM; subst h_pV; subst h_fY); all_goals (have f_sx := SX.out; have f_sw := SW.out; have f_sb := SB.out; have f_sg := SG.out; have f_sn := SN.out; have f_sk := SK.out; have f_sm := SM.out; have f_sa := SA.out); all_goals (obtain ⟨hN, hK, hM⟩ := HNKM.out; have hS := HS.out; have bN := hS.n; have bK := hS.k; have bM := hS.m; have hn := modU n 4 (by decide) (by decide); have hk := modU k 12 (by decide) (by decide); have hm := modU m 8 (by decide) (by decide); have pNK := smulN bN bK (by decide); have pNM := smulN bN bM (by decide); have pMK := smulN bM bK (by decide); have hI := HI.out; have hO := HO.out; have mI := modU a ((N : Int) * K) (by omega) (by omega); have mO := modU a ((M : Int) * K) (by omega) (by omega); have wNK := wrapU_nk pNK.2.1; have wMK := wrapU_nk pMK.2.1; simp only [std, stdBin, stdCmp, stdUna, stdIn, ci, beq_iff_eq, bne_iff_ne, beq_eq_false_iff_ne, bne_eq_false_iff_eq, decide_eq_true_eq, decide_eq_false_iff_not, Bool.not_true, Bool.not_false, Bool.not_eq_true', Bool.not_eq_false', Bool.not_not, tn0, tn1, tn2, tn3, matR, vecR, matP, vecP] at *; (try simp only [hN, hK, hM, Int.toNat_natCast, nm_nat, wNK, wMK] at *)); all_goals (have eI : IntKind.i64.wrap ((IntKind.u64.wrap a).tmod ((N : Int) * K)) = (I : Int) := (by omega); have eO : IntKind.i64.wrap ((IntKind.u64.wrap a).tmod ((M : Int) * K)) = (O : Int) := (by omega); have bI : I < N * K := (by rw [eI, ← Int.natCast_mul] at mI; omega); have bO : O < M * K := (by rw [eO, ← Int.natCast_mul] at mO; omega); (try simp only [eI, eO, Int.toNat_natCast, bump_eq] at *)))
      (all_goals (have cX := matL_no x (N * K); have cW := matL_no w (M * K); have fX := matL_in x f_sx.1 (N * K); have fW := matL_in w f_sw.1 (M * K); have fB := matL_in b f_sb.1 M; have fG := matL_in g f_sg.1 (N * M); have lI : I < (matL x (N * K)).length := (by rw [matL_len]; exact bI); have lO : O < (matL w (M * K)).length := (by rw [matL_len]; exact bO); obtain ⟨F1, R1⟩ := fwd_nk hS b (A := matL x (N * K)) (B := matL w (M * K)) (matL_len _ _) (matL_len _ _) cX cW; obtain ⟨F2, R2⟩ := fwd_nk hS b (A := bump (matL x (N * K)) I) (B := matL w (M * K)) (by rw [bump_len, matL_len]) (matL_len _ _) (bump_no cX fX lI) cW; obtain ⟨F3, R3⟩ := fwd_nk hS b (A := matL x (N * K)) (B := bump (matL w (M * K)) O) (matL_len _ _) (by rw [bump_len, matL_len]) cX (bump_no cW fW lO); obtain ⟨F4, R4⟩ := inp_nk hS g w; obtain ⟨F5, R5⟩ := wgt_nk hS g x; (try simp only [F1, F2, F3, F4, F5, R1, R2, R3, R4, R5, List.length_map, List.length_range, mulL_len, matL_len, bump_len] at *)))
      all_goals (try first | omega | (refine vb ?_; rfl))
      all_goals (have ej : j = N * M := (by omega); subst ej; have s1 : S1 (N * M) = _ := (HS1.out (N * M)).trans (slope_x (H := matL g (N * M)) (P := matL x (N * K)) (V := matL w (M * K)) (N := N) (M := M) (K := K) (by omega) (by rw [matL_len]; exact bI) (matL_len _ _)); have s2 : S2 (N * M) = _ := (HS2.out (N * M)).trans (slope_w (H := matL g (N * M)) (P := matL x (N * K)) (V := matL w (M * K)) (N := N) (M := M) (K := K) (by omega) (by rw [matL_len]; exact bO) (matL_len _ _)); first | contradiction | (exfalso; omega))
  (all_goals (subst hA; subst h_c; subst h_fR; subst h_fE; subst h_fI; subst h_fJ; subst h_fW; subst h_fX; subst h_fM; subst h_fV; subst h_pM; subst h_pV; subst h_fY); all_goals (have f_sx := SX.out; have f_sw := SW.out; have f_sb := SB.out; have f_sg := SG.out; have f_sn := SN.out; have f_sk := SK.out; have f_sm := SM.out; have f_sa := SA.out); all_goals (obtain ⟨hN, hK, hM⟩ := HNKM.out; have hS := HS.out; have bN := hS.n; have bK := hS.k; have bM := hS.m; have hn := modU n 4 (by decide) (by decide); have hk := modU k 12 (by decide) (by decide); have hm := modU m 8 (by decide) (by decide); have pNK := smulN bN bK (by decide); have pNM := smulN bN bM (by decide); have pMK := smulN bM bK (by decide); have hI := HI.out; have hO := HO.out; have mI := modU a ((N : Int) * K) (by omega) (by omega); have mO := modU a ((M : Int) * K) (by omega) (by omega); have wNK := wrapU_nk pNK.2.1; have wMK := wrapU_nk pMK.2.1; simp only [std, stdBin, stdCmp, stdUna, stdIn, ci, beq_iff_eq, bne_iff_ne, beq_eq_false_iff_ne, bne_eq_false_iff_eq, decide_eq_true_eq, decide_eq_false_iff_not, Bool.not_true, Bool.not_false, Bool.not_eq_true', Bool.not_eq_false', Bool.not_not, tn0, tn1, tn2, tn3, matR, vecR, matP, vecP] at *; (try simp only [hN, hK, hM, Int.toNat_natCast, nm_nat, wNK, wMK] at *)); all_goals (have eI : IntKind.i64.wrap ((IntKind.u64.wrap a).tmod ((N : Int) * K)) = (I : Int) := (by omega); have eO : IntKind.i64.wrap ((IntKind.u64.wrap a).tmod ((M : Int) * K)) = (O : Int) := (by omega); have bI : I < N * K := (by rw [eI, ← Int.natCast_mul] at mI; omega); have bO : O < M * K := (by rw [eO, ← Int.natCast_mul] at mO; omega); (try simp only [eI, eO, Int.toNat_natCast, bump_eq] at *)))
  all_goals (try first | exact True.intro | omega | (refine vb ?_; rfl) | contradiction)
  (all_goals (have cX := matL_no x (N * K); have cW := matL_no w (M * K); have fX := matL_in x f_sx.1 (N * K); have fW := matL_in w f_sw.1 (M * K); have fB := matL_in b f_sb.1 M; have fG := matL_in g f_sg.1 (N * M); have lI : I < (matL x (N * K)).length := (by rw [matL_len]; exact bI); have lO : O < (matL w (M * K)).length := (by rw [matL_len]; exact bO); obtain ⟨F1, R1⟩ := fwd_nk hS b (A := matL x (N * K)) (B := matL w (M * K)) (matL_len _ _) (matL_len _ _) cX cW; obtain ⟨F2, R2⟩ := fwd_nk hS b (A := bump (matL x (N * K)) I) (B := matL w (M * K)) (by rw [bump_len, matL_len]) (matL_len _ _) (bump_no cX fX lI) cW; obtain ⟨F3, R3⟩ := fwd_nk hS b (A := matL x (N * K)) (B := bump (matL w (M * K)) O) (matL_len _ _) (by rw [bump_len, matL_len]) cX (bump_no cW fW lO); obtain ⟨F4, R4⟩ := inp_nk hS g w; obtain ⟨F5, R5⟩ := wgt_nk hS g x; (try simp only [F1, F2, F3, F4, F5, R1, R2, R3, R4, R5, List.length_map, List.length_range, mulL_len, matL_len, bump_len] at *)))
  all_goals (try first | exact True.intro | omega | (refine vb ?_; rfl) | contradiction)
  all_goals (have hp := fits8 fX I; have hv := fits8 fW O)
  all_goals (try first | exact True.intro | omega | contradiction)
end Go.Proofs.Ytcbcfajihbbdcaa
