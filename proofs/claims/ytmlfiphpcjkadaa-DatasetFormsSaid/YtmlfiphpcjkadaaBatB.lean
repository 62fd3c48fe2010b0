/- Layer 23: in each epoch each example comes once. -/
import Derived.Test.YtmlfiphpcjkadaaBatA
namespace Go.Proofs.Ytmlfiphpcjkadaa
open Go.RowKit
set_option maxRecDepth 100000
set_option linter.unusedSimpArgs false
set_option linter.unusedVariables false
set_option maxHeartbeats 8000000
theorem modN (k m : Int) (M : Nat) (h0 : 0 < m) (h1 : m ≤ 1000000) (h : m = ci M) : ∃ N : Nat, 1 + IntKind.i64.wrap ((IntKind.u64.wrap k).tmod m) = ci N ∧ 1 ≤ N ∧ N ≤ M := by
  have := modU k m (by omega) (by omega)
  unfold ci at *
  exact ⟨(1 + IntKind.i64.wrap ((IntKind.u64.wrap k).tmod m)).toNat, by omega, by omega, by omega⟩
theorem modZ (k m : Int) (M : Nat) (h0 : 0 < m) (h1 : m ≤ 1000000) (h : m = ci M) : ∃ N : Nat, IntKind.i64.wrap ((IntKind.u64.wrap k).tmod m) = ci N ∧ N < M := by
  have := modU k m (by omega) (by omega)
  unfold ci at *
  exact ⟨(IntKind.i64.wrap ((IntKind.u64.wrap k).tmod m)).toNat, by omega, by omega⟩
/-- What is known of an epoch's size. -/
structure Ep (N Z K : Nat) : Prop where
  n : 1 ≤ N ∧ N ≤ 64
  z : 1 ≤ Z ∧ Z ≤ 8
  s : stepsI N Z = ci K
  k : 1 ≤ K ∧ K ≤ 64
  lo : (K - 1) * Z < N
  hi : N ≤ K * Z
  q : ((N : Int) + Z - 1).tdiv Z = ci K
theorem ep_of (N Z : Nat) (hN : 1 ≤ N ∧ N ≤ 64) (hZ : 1 ≤ Z ∧ Z ≤ 8) : ∃ K : Nat, Ep N Z K := by
  have h0 : stepsI N Z = ((N : Int) + Z - 1).tdiv Z := by unfold stepsI; rw [if_neg (by omega)]
  have h1 := tdiv_in (n := N) (k := Z) (by omega) (by omega)
  rw [← h0] at h1
  refine ⟨(stepsI N Z).toNat, hN, hZ, by unfold ci; omega, by omega, ?_, ?_, by unfold ci; rw [← h0]; omega⟩
  · have : (((stepsI N Z).toNat - 1 : Nat) : Int) = stepsI N Z - 1 := by omega
    have h2 : ((((stepsI N Z).toNat - 1) * Z : Nat) : Int) < (N : Int) := by rw [Int.natCast_mul, this]; exact h1.2.2.1
    omega
  · have : (((stepsI N Z).toNat : Nat) : Int) = stepsI N Z := by omega
    have h2 : (N : Int) ≤ (((stepsI N Z).toNat * Z : Nat) : Int) := by rw [Int.natCast_mul, this]; exact h1.2.2.2
    omega
theorem which_at {a : Int} {N Z K E i : Nat} (h : Ep N Z K) (hE : E < 1000) (hi : i < K) : whichL a N Z ((E : Int) * K + i) = partL (permZ (pbv a) (pbv (1099511627776 + (E : Int))) N) (((i * Z : Nat) : Int)) Z N := by
  have hk := h.k
  have hs : stepsI N Z = (K : Int) := h.s
  have h1 : E * K ≤ 999 * 64 := Nat.mul_le_mul (by omega) hk.2
  have h2 : (E : Int) * K = ((E * K : Nat) : Int) := by rw [Int.natCast_mul]
  have h3 : stepB ((E : Int) * K + i) = true := by simp only [stepB, decide_eq_true_eq]; omega
  have h4 : ((E : Int) * K + i).tdiv K = E := by
    rw [Int.tdiv_eq_ediv_of_nonneg (by omega), Int.add_comm, Int.add_mul_ediv_right _ _ (by omega), Int.ediv_eq_zero_of_lt (by omega) (by omega), Int.zero_add]
  have h5 : ((E : Int) * K + i).tmod K = i := by
    rw [Int.tmod_eq_emod_of_nonneg (by omega), Int.add_comm, Int.add_mul_emod_self_right, Int.emod_eq_of_lt (by omega) (by omega)]
  unfold whichL orderL
  rw [hs, h3, h4, h5, if_neg (by simp; omega), Int.natCast_mul]
theorem ep_perm (x y : BitVec 64) {N Z K : Nat} (h : Ep N Z K) : (permZ x y (ci N)).length = N := by
  have := h.n
  show (permZ x y (N : Int)).length = N
  rw [permZ_eq _ _ (by omega) (by omega)]; rfl
theorem ep_each (x y : BitVec 64) {N Z K : Nat} (h : Ep N Z K) : Each N (permZ x y (ci N)) := each_perm x y N (by have := h.n; omega)
theorem part_len {P : List Int} {N Z i : Nat} (hP : P.length = N) : (partL P (((i * Z : Nat) : Int)) Z N).length = min Z (N - i * Z) := by
  unfold partL
  rw [List.length_take, List.length_drop, hP, Int.toNat_natCast]
  split <;> omega
theorem part_get {P : List Int} {N Z i j : Nat} (hj : j < (partL P (((i * Z : Nat) : Int)) Z N).length) : (partL P (((i * Z : Nat) : Int)) Z N).getD j 0 = P.getD (i * Z + j) 0 := by
  have h := hj
  unfold partL at hj ⊢
  rw [List.getD_eq_getElem?_getD, List.getElem?_take, if_pos (by rw [List.length_take] at hj; omega), List.getElem?_drop, Int.toNat_natCast, ← List.getD_eq_getElem?_getD]
/-- How often it has come among the first. -/
def cnt (P : List Int) (x : Int) : Nat → Int
  | 0 => 0
  | m + 1 => cnt P x m + if P.getD m 0 = x then 1 else 0
def cntL (P : List Int) (N m : Nat) : List Int := (List.range N).map fun x : Nat => cnt P (x : Int) m
theorem cntL_len (P : List Int) (N m : Nat) : (cntL P N m).length = N := by simp [cntL]
theorem cntL_get (P : List Int) {N m x : Nat} (h : x < N) : (cntL P N m).getD x 0 = cnt P x m := by
  unfold cntL
  rw [List.getD_eq_getElem?_getD, List.getElem?_map, List.getElem?_range h]; rfl
theorem cnt_in (P : List Int) (x : Int) : ∀ m, 0 ≤ cnt P x m ∧ cnt P x m ≤ m
  | 0 => by simp [cnt]
  | m + 1 => by
    have := cnt_in P x m
    unfold cnt
    split <;> omega
theorem cntL_set (P : List Int) {N m : Nat} (h0 : 0 ≤ P.getD m 0) (h1 : P.getD m 0 < N) : (cntL P N m).set (P.getD m 0).toNat ((cntL P N m).getD (P.getD m 0).toNat 0 + 1) = cntL P N (m + 1) := by
  obtain ⟨v, hv⟩ : ∃ v : Nat, P.getD m 0 = (v : Int) := ⟨(P.getD m 0).toNat, by omega⟩
  rw [hv, Int.toNat_natCast]
  refine eqL (by simp [cntL]) fun j hj => ?_
  rw [List.length_set, cntL_len] at hj
  rw [cntL_get P hj, List.getD_eq_getElem?_getD, List.getElem?_set, cntL_len]
  by_cases e : v = j
  · subst e
    rw [if_pos rfl, if_pos hj, cntL_get P hj, cnt, hv, if_pos rfl]; rfl
  · rw [if_neg e, ← List.getD_eq_getElem?_getD, cntL_get P hj, cnt, hv, if_neg (by omega), Int.add_zero]
theorem cntL_zero (P : List Int) (N : Nat) : cntL P N 0 = List.replicate N 0 := by
  unfold cntL
  have h : (List.range N).map (fun x : Nat => cnt P (x : Int) 0) = (List.range N).map fun _ => (0 : Int) := List.map_congr_left fun j _ => rfl
  rw [h, List.map_const', List.length_range]
def sm (f : Nat → Int) : Nat → Int
  | 0 => 0
  | n + 1 => sm f n + f n
theorem sm_add (f g : Nat → Int) : ∀ n, sm (fun i => f i + g i) n = sm f n + sm g n
  | 0 => rfl
  | n + 1 => by simp only [sm, sm_add f g n]; omega
theorem sm_zero : ∀ n, sm (fun _ => 0) n = 0
  | 0 => rfl
  | n + 1 => by simp only [sm, sm_zero n]; rfl
theorem sm_one {v : Nat} : ∀ n, sm (fun x => if (v : Int) = (x : Int) then 1 else 0) n = if v < n then 1 else 0
  | 0 => by simp [sm]
  | n + 1 => by
    simp only [sm, sm_one n]
    by_cases h1 : v < n
    · rw [if_pos h1, if_neg (by omega), if_pos (by omega)]; rfl
    · by_cases h2 : v = n
      · subst h2; rw [if_neg h1, if_pos rfl, if_pos (by omega)]; rfl
      · rw [if_neg h1, if_neg (by omega), if_neg (by omega)]; rfl
theorem sm_le {f : Nat → Int} : ∀ {n : Nat}, (∀ i, i < n → f i ≤ 1) → sm f n ≤ n ∧ (sm f n = n → ∀ i, i < n → f i = 1)
  | 0, _ => ⟨by simp [sm], fun _ i hi => by omega⟩
  | n + 1, h => by
    have h1 := sm_le (f := f) (n := n) fun i hi => h i (by omega)
    have h2 := h n (by omega)
    refine ⟨by simp only [sm]; omega, fun he i hi => ?_⟩
    simp only [sm] at he
    by_cases e : i = n
    · subst e; omega
    · exact h1.2 (by omega) i (by omega)
theorem cnt_some (P : List Int) (x : Int) : ∀ m, 1 ≤ cnt P x m → ∃ t, t < m ∧ P.getD t 0 = x
  | 0, h => by simp [cnt] at h
  | m + 1, h => by
    by_cases e : P.getD m 0 = x
    · exact ⟨m, by omega, e⟩
    · rw [cnt, if_neg e] at h
      obtain ⟨t, h1, h2⟩ := cnt_some P x m (by omega)
      exact ⟨t, by omega, h2⟩
theorem cnt_one {P : List Int} {N : Nat} (h : Each N P) (x : Int) : ∀ m, m ≤ N → cnt P x m ≤ 1
  | 0, _ => by simp [cnt]
  | m + 1, hm => by
    have h1 := cnt_one h x m (by omega)
    rw [cnt]
    by_cases e : P.getD m 0 = x
    · rw [if_pos e]
      by_cases h2 : 1 ≤ cnt P x m
      · obtain ⟨t, h3, h4⟩ := cnt_some P x m h2
        have := h.2.2 t m (by omega) (by omega) (by rw [h4, e])
        omega
      · omega
    · rw [if_neg e]; omega
theorem cnt_sum {P : List Int} {N : Nat} (h : Each N P) : ∀ m, m ≤ N → sm (fun x => cnt P (x : Int) m) N = m
  | 0, _ => by simp only [cnt]; exact sm_zero N
  | m + 1, hm => by
    have h1 := cnt_sum h m (by omega)
    have h2 := h.2.1 m (by omega)
    simp only [cnt]
    rw [sm_add, h1]
    obtain ⟨v, hv⟩ : ∃ v : Nat, P.getD m 0 = (v : Int) := ⟨(P.getD m 0).toNat, by omega⟩
    rw [hv, sm_one, if_pos (by omega)]; rfl
theorem cnt_all {P : List Int} {N : Nat} (h : Each N P) {x : Nat} (hx : x < N) : cnt P (x : Int) N = 1 :=
  (sm_le fun i _ => cnt_one h (i : Int) N (Nat.le_refl _)).2 (cnt_sum h N (Nat.le_refl _)) x hx
theorem awake23_ok : CtrOk Try.prog 22 (boolC [] yes) := by
  obtain ⟨G, hG⟩ : ∃ G : List (FuncId × Ctr), G = [(25, intC [.int .i64, .int .i64] .i64 stepsF), (28, rowC [.int .u64, .int .i64, .int .i64, .int .i64] 3 .i64 whichF)] := ⟨_, rfl⟩
  refine fn_ok (ck := true) Try.func22 rfl tt_ok (G := G) (by rw [hG]; exact ⟨⟨steps_ok, by unfold FnOk; kernel_rfl⟩, ⟨which_ok, by unfold FnOk; kernel_rfl⟩, trivial⟩) mixed (by kernel_rfl) ?_
  intro xa xs h hx hp
  obtain ⟨rfl, rfl⟩ := svArgs_nil h
  clear hx hp h 
  generalize hA : std = A
  subst hG
  generalize h_c : ci = c
  generalize h_fs : stepsF = fs
  generalize h_fw : whichF = fw
  generalize h_fR : yes = fR
  cbv
  (repeat' (first | apply And.intro | apply BrB.mk | apply BrP.mk | intro _))
  (all_goals (subst hA; subst h_c; subst h_fs; subst h_fw; subst h_fR); all_goals (skip); all_goals (try simp only [std, stdBin, stdCmp, stdUna, stdIn, ci, beq_iff_eq, bne_iff_ne, beq_eq_false_iff_ne, bne_eq_false_iff_eq, decide_eq_true_eq, decide_eq_false_iff_not, Bool.not_true, Bool.not_false, Bool.not_eq_true', Bool.not_eq_false', Bool.not_not, tn0, tn1, tn2, tn3, stepsF, whichF] at *); all_goals (try omega))
  all_goals (refine vb ?_)
  · have h1 : stepsI 5 2 = ((3 : Nat) : Int) := by decide
    have h2 := which_at (a := 1) (N := 5) (Z := 2) (K := 3) (E := 0) (i := 2) ⟨by decide, by decide, h1, by decide, by decide, by decide, by decide⟩ (by decide) (by decide)
    have h3 : whichL 1 5 2 2 = _ := h2
    rw [h3, part_len (by rw [permZ_eq _ _ (by decide) (by decide)]; rfl)]
    rfl
  · rename_i h; exact absurd (show stepsI 5 2 = 3 by decide) h
theorem ep_mul {N Z K i : Nat} (h : Ep N Z K) (hi : i < K) : i * Z ≤ (K - 1) * Z ∧ i * Z < N ∧ (i + 1) * Z = i * Z + Z ∧ (i + 1 < K → (i + 1) * Z ≤ (K - 1) * Z) ∧ (i + 1 = K → N ≤ i * Z + Z ∧ i * Z = (K - 1) * Z) := by
  have h1 : i * Z ≤ (K - 1) * Z := Nat.mul_le_mul_right Z (by omega)
  have h2 := h.lo
  refine ⟨h1, by omega, Nat.succ_mul i Z, fun h => Nat.mul_le_mul_right Z (by omega), fun e => ?_⟩
  have h3 := h.hi
  rw [← e, Nat.succ_mul] at h3
  exact ⟨h3, by rw [← e]; rfl⟩
theorem each23_ok : CtrOk Try.prog 9 (boolC [.int .u64, .int .i64, .int .i64, .int .i64] yes) := by
  obtain ⟨G, hG⟩ : ∃ G : List (FuncId × Ctr), G = [(25, intC [.int .i64, .int .i64] .i64 stepsF), (28, rowC [.int .u64, .int .i64, .int .i64, .int .i64] 3 .i64 whichF), (22, boolC [] yes)] := ⟨_, rfl⟩
  refine fn_ok (ck := true) Try.func9 rfl tt_ok (G := G) (by rw [hG]; exact ⟨⟨steps_ok, by unfold FnOk; kernel_rfl⟩, ⟨which_ok, by unfold FnOk; kernel_rfl⟩, ⟨awake23_ok, by unfold FnOk; kernel_rfl⟩, trivial⟩) mixed (by kernel_rfl) ?_
  intro xa xs h hx hp
  obtain ⟨a0, as0, x0, xs0, rfl, rfl, h0, H1⟩ := svArgs_cons h
  obtain ⟨a1, as1, x1, xs1, rfl, rfl, h1, H2⟩ := svArgs_cons H1
  obtain ⟨a2, as2, x2, xs2, rfl, rfl, h2, H3⟩ := svArgs_cons H2
  obtain ⟨a3, as3, x3, xs3, rfl, rfl, h3, H4⟩ := svArgs_cons H3
  obtain ⟨rfl, rfl⟩ := svArgs_nil H4
  obtain ⟨a, rfl, rfl⟩ := argSV_int h0
  obtain ⟨n, rfl, rfl⟩ := argSV_int h1
  obtain ⟨z, rfl, rfl⟩ := argSV_int h2
  obtain ⟨e, rfl, rfl⟩ := argSV_int h3
  have sa : (Lit.int .u64 a).wf = true := (hx (.v (.int .u64 a)) (by simp))
  have sn := of_i64 (hx (.v (.int .i64 n)) (by simp))
  have sz := of_i64 (hx (.v (.int .i64 z)) (by simp))
  have se := of_i64 (hx (.v (.int .i64 e)) (by simp))
  have SA := Lib.hid sa
  clear sa
  have SN := Lib.hid sn
  clear sn
  have SZ := Lib.hid sz
  clear sz
  have SE := Lib.hid se
  clear se
  clear hx hp h h0 H1 h1 H2 h2 H3 h3 H4
  generalize hA : std = A
  subst hG
  generalize h_c : ci = c
  generalize h_fs : stepsF = fs
  generalize h_fw : whichF = fw
  generalize h_fY : yes = fY
  (obtain ⟨N, hN, b1⟩ := modN n 64 64 (by decide) (by decide) rfl; obtain ⟨Z, hZ, b2⟩ := modN z 8 8 (by decide) (by decide) rfl; obtain ⟨E, hE, b3⟩ := modZ e 1000 1000 (by decide) (by decide) rfl; obtain ⟨K, hK⟩ := ep_of N Z b1 b2; obtain ⟨P, hP⟩ : ∃ P, P = permZ (pbv a) (pbv (1099511627776 + ci E)) (ci N) := ⟨_, rfl⟩; have HEP := Lib.hid (And.intro hK (And.intro b3 hP)); clear hK b1 b2 b3 hP; have HNZE := Lib.hid (And.intro hN (And.intro hZ hE)); clear hN hZ hE)
  obtain ⟨O, hO⟩ : ∃ O : Nat → List Int, ∀ i, O i = cntL P N (min (i * Z) N) := ⟨_, fun _ => rfl⟩
  obtain ⟨S, hS⟩ : ∃ S : Nat → Nat → List Int, ∀ i j, S i j = cntL P N (i * Z + j) := ⟨_, fun _ _ => rfl⟩
  have HO := Lib.hid hO
  have HS := Lib.hid hS
  clear hS hO
  cbv
  (repeat' (first | apply And.intro | apply BrB.mk | apply BrP.mk | intro _))
  all_goals try (refine loop_at Nat 45 (fun i => [(8, .any), (11, .any), (12, .any), (14, .any), (45, .v (.int .i64 (c i)))]) (fun i o => o.set 0 (.irow 3 .i64 (O i))) (fun i => i ≤ K) (fun i => K - i) 0 (Nat.zero_le _) ?hle ?round)
  case hle =>
    cbv
    (repeat' (first | apply And.intro | apply BrB.mk | apply BrP.mk | intro _))
    (all_goals (subst hA; subst h_c; subst h_fs; subst h_fw; subst h_fY); all_goals (have f_sa := SA.out; have f_sn := SN.out; have f_sz := SZ.out; have f_se := SE.out); all_goals (obtain ⟨hN, hZ, hE⟩ := HNZE.out; obtain ⟨hP, bE, eP⟩ := HEP.out; have bN := hP.n; have bZ := hP.z; have bK := hP.k; have eK := hP.s; have bl := hP.lo; have bh := hP.hi; have eQ : ((N : Int) + Z - 1).tdiv Z = (K : Int) := hP.q; have eW : IntKind.i64.wrap (K : Int) = K := w64 (by omega) (by omega); have uN := modU n 64 (by decide) (by decide); have uZ := modU z 8 (by decide) (by decide); have uE := modU e 1000 (by decide) (by decide); have lP : P.length = N := (by rw [eP]; exact ep_perm _ _ hP); have aP : Each N P := (by rw [eP]; exact ep_each _ _ hP); simp only [std, stdBin, stdCmp, stdUna, stdIn, ci, beq_iff_eq, bne_iff_ne, beq_eq_false_iff_ne, bne_eq_false_iff_eq, decide_eq_true_eq, decide_eq_false_iff_not, Bool.not_true, Bool.not_false, Bool.not_eq_true', Bool.not_eq_false', Bool.not_not, tn0, tn1, tn2, tn3, stepsF, whichF] at *; (try simp only [hN, hZ, hE, eK, eQ, eW, Int.toNat_natCast] at *)))
    all_goals first | exact True.intro | rfl | skip
    rw [HO.out, Nat.zero_mul, Nat.zero_min, cntL_zero]
  case round =>
    intro i hi
    cbv
    refine BrB.mk (fun gx => ?yx) (fun gx => ?nx)
    case yx =>
      (repeat' (first | apply And.intro | apply BrB.mk | apply BrP.mk | intro _))
      all_goals try (refine loop_at Nat 80 (fun j => [(8, .any), (14, .any), (80, .v (.int .i64 (c j)))]) (fun j o => o.set 0 (.irow 3 .i64 (S i j))) (fun j => j ≤ min Z (N - i * Z)) (fun j => N - j) 0 (Nat.zero_le _) ?_ ?_)
      all_goals try (
        show AS.le _ _
        cbv
        (repeat' (first | apply And.intro | apply BrB.mk | apply BrP.mk | intro _))
        (all_goals (subst hA; subst h_c; subst h_fs; subst h_fw; subst h_fY); all_goals (have f_sa := SA.out; have f_sn := SN.out; have f_sz := SZ.out; have f_se := SE.out); all_goals (obtain ⟨hN, hZ, hE⟩ := HNZE.out; obtain ⟨hP, bE, eP⟩ := HEP.out; have bN := hP.n; have bZ := hP.z; have bK := hP.k; have eK := hP.s; have bl := hP.lo; have bh := hP.hi; have eQ : ((N : Int) + Z - 1).tdiv Z = (K : Int) := hP.q; have eW : IntKind.i64.wrap (K : Int) = K := w64 (by omega) (by omega); have uN := modU n 64 (by decide) (by decide); have uZ := modU z 8 (by decide) (by decide); have uE := modU e 1000 (by decide) (by decide); have lP : P.length = N := (by rw [eP]; exact ep_perm _ _ hP); have aP : Each N P := (by rw [eP]; exact ep_each _ _ hP); simp only [std, stdBin, stdCmp, stdUna, stdIn, ci, beq_iff_eq, bne_iff_ne, beq_eq_false_iff_ne, bne_eq_false_iff_eq, decide_eq_true_eq, decide_eq_false_iff_not, Bool.not_true, Bool.not_false, Bool.not_eq_true', Bool.not_eq_false', Bool.not_not, tn0, tn1, tn2, tn3, stepsF, whichF] at *; (try simp only [hN, hZ, hE, eK, eQ, eW, Int.toNat_natCast] at *)))
        (all_goals (have hiK : i < K := (by omega); obtain ⟨m1, m2, m3, m4, m5⟩ := ep_mul hP hiK; have wa := which_at (a := a) hP bE hiK; have wl : (whichL a N Z ((E : Int) * K + i)).length = min Z (N - i * Z) := (by rw [wa]; exact part_len (ep_perm _ _ hP)); have bEK : E * K ≤ 999 * 64 := Nat.mul_le_mul (by omega) (by omega); have eEK : (E : Int) * K = ((E * K : Nat) : Int) := (by rw [Int.natCast_mul]); have bZK : (K - 1) * Z < N := hP.lo; have eZK : (Z : Int) * ((K : Int) - 1) = (((K - 1) * Z : Nat) : Int) := (by rw [Int.natCast_mul, Int.mul_comm, Int.ofNat_sub (by omega)]; rfl)))
        all_goals first | exact True.intro | rfl | skip
        rw [HO.out, HS.out, Nat.add_zero, Nat.min_eq_left (by omega)])
      all_goals first | (intro j hj) | ((all_goals (subst hA; subst h_c; subst h_fs; subst h_fw; subst h_fY); all_goals (have f_sa := SA.out; have f_sn := SN.out; have f_sz := SZ.out; have f_se := SE.out); all_goals (obtain ⟨hN, hZ, hE⟩ := HNZE.out; obtain ⟨hP, bE, eP⟩ := HEP.out; have bN := hP.n; have bZ := hP.z; have bK := hP.k; have eK := hP.s; have bl := hP.lo; have bh := hP.hi; have eQ : ((N : Int) + Z - 1).tdiv Z = (K : Int) := hP.q; have eW : IntKind.i64.wrap (K : Int) = K := w64 (by omega) (by omega); have uN := modU n 64 (by decide) (by decide); have uZ := modU z 8 (by decide) (by decide); have uE := modU e 1000 (by decide) (by decide); have lP : P.length = N := (by rw [eP]; exact ep_perm _ _ hP); have aP : Each N P := (by rw [eP]; exact ep_each _ _ hP); simp only [std, stdBin, stdCmp, stdUna, stdIn, ci, beq_iff_eq, bne_iff_ne, beq_eq_false_iff_ne, bne_eq_false_iff_eq, decide_eq_true_eq, decide_eq_false_iff_not, Bool.not_true, Bool.not_false, Bool.not_eq_true', Bool.not_eq_false', Bool.not_not, tn0, tn1, tn2, tn3, stepsF, whichF] at *; (try simp only [hN, hZ, hE, eK, eQ, eW, Int.toNat_natCast] at *))); (all_goals (have hiK : i < K := (by omega); obtain ⟨m1, m2, m3, m4, m5⟩ := ep_mul hP hiK; have wa := which_at (a := a) hP bE hiK; have wl : (whichL a N Z ((E : Int) * K + i)).length = min Z (N - i * Z) := (by rw [wa]; exact part_len (ep_perm _ _ hP)); have bEK : E * K ≤ 999 * 64 := Nat.mul_le_mul (by omega) (by omega); have eEK : (E : Int) * K = ((E * K : Nat) : Int) := (by rw [Int.natCast_mul]); have bZK : (K - 1) * Z < N := hP.lo; have eZK : (Z : Int) * ((K : Int) - 1) = (((K - 1) * Z : Nat) : Int) := (by rw [Int.natCast_mul, Int.mul_comm, Int.ofNat_sub (by omega)]; rfl))); all_goals (try simp only [wl, eEK, eZK] at *); all_goals (try omega); all_goals (exfalso; omega))
      all_goals cbv
      all_goals (
        refine BrB.mk (fun gy => ?_) (fun gy => ?_)
        · (repeat' (first | apply And.intro | apply BrB.mk | apply BrP.mk | intro _))
          all_goals try (refine ⟨j + 1, ?_, ?_, ?_⟩)
          all_goals try (show AS.le _ _; cbv; (repeat' (first | apply And.intro | apply BrB.mk | apply BrP.mk | intro _)))
          (all_goals (subst hA; subst h_c; subst h_fs; subst h_fw; subst h_fY); all_goals (have f_sa := SA.out; have f_sn := SN.out; have f_sz := SZ.out; have f_se := SE.out); all_goals (obtain ⟨hN, hZ, hE⟩ := HNZE.out; obtain ⟨hP, bE, eP⟩ := HEP.out; have bN := hP.n; have bZ := hP.z; have bK := hP.k; have eK := hP.s; have bl := hP.lo; have bh := hP.hi; have eQ : ((N : Int) + Z - 1).tdiv Z = (K : Int) := hP.q; have eW : IntKind.i64.wrap (K : Int) = K := w64 (by omega) (by omega); have uN := modU n 64 (by decide) (by decide); have uZ := modU z 8 (by decide) (by decide); have uE := modU e 1000 (by decide) (by decide); have lP : P.length = N := (by rw [eP]; exact ep_perm _ _ hP); have aP : Each N P := (by rw [eP]; exact ep_each _ _ hP); simp only [std, stdBin, stdCmp, stdUna, stdIn, ci, beq_iff_eq, bne_iff_ne, beq_eq_false_iff_ne, bne_eq_false_iff_eq, decide_eq_true_eq, decide_eq_false_iff_not, Bool.not_true, Bool.not_false, Bool.not_eq_true', Bool.not_eq_false', Bool.not_not, tn0, tn1, tn2, tn3, stepsF, whichF] at *; (try simp only [hN, hZ, hE, eK, eQ, eW, Int.toNat_natCast] at *)))
          (all_goals (have hiK : i < K := (by omega); obtain ⟨m1, m2, m3, m4, m5⟩ := ep_mul hP hiK; have wa := which_at (a := a) hP bE hiK; have wl : (whichL a N Z ((E : Int) * K + i)).length = min Z (N - i * Z) := (by rw [wa]; exact part_len (ep_perm _ _ hP)); have bEK : E * K ≤ 999 * 64 := Nat.mul_le_mul (by omega) (by omega); have eEK : (E : Int) * K = ((E * K : Nat) : Int) := (by rw [Int.natCast_mul]); have bZK : (K - 1) * Z < N := hP.lo; have eZK : (Z : Int) * ((K : Int) - 1) = (((K - 1) * Z : Nat) : Int) := (by rw [Int.natCast_mul, Int.mul_comm, Int.ofNat_sub (by omega)]; rfl)))
          all_goals (try simp only [wl] at gy)
          all_goals (have hjZ : j < min Z (N - i * Z) := (by omega))
          (all_goals (have hjl : j < (whichL a N Z ((E : Int) * K + i)).length := (by rw [wl]; omega); have pj : (whichL a N Z ((E : Int) * K + i)).getD j 0 = P.getD (i * Z + j) 0 := (by rw [wa] at hjl ⊢; rw [eP]; exact part_get hjl); have pin := aP.2.1 (i * Z + j) (by omega)))
          all_goals (try simp only [pj, wl] at *)
          all_goals first | exact True.intro | omega | exact congrArg (Value.int .i64) (by omega) | with_reducible rfl | skip
          all_goals (have lS : (S i j).length = N := (by rw [HS.out, cntL_len]); have cS := cnt_in P (P.getD (i * Z + j) 0) (i * Z + j); try simp only [lS] at *)
          all_goals first | omega | skip
          all_goals first | (rw [HS.out, HS.out]; exact cntL_set P pin.1 pin.2) | skip
          all_goals (have eS : (S i j).getD (P.getD (i * Z + j) 0).toNat 0 = cnt P (P.getD (i * Z + j) 0) (i * Z + j) := (by rw [HS.out, cntL_get P (by omega), Int.toNat_of_nonneg pin.1]); try simp only [eS])
          all_goals omega
        · (repeat' (first | apply And.intro | apply BrB.mk | apply BrP.mk | intro _))
          all_goals try (refine ⟨i + 1, ?_, ?_, ?_⟩)
          all_goals try (show AS.le _ _; cbv; (repeat' (first | apply And.intro | apply BrB.mk | apply BrP.mk | intro _)))
          (all_goals (subst hA; subst h_c; subst h_fs; subst h_fw; subst h_fY); all_goals (have f_sa := SA.out; have f_sn := SN.out; have f_sz := SZ.out; have f_se := SE.out); all_goals (obtain ⟨hN, hZ, hE⟩ := HNZE.out; obtain ⟨hP, bE, eP⟩ := HEP.out; have bN := hP.n; have bZ := hP.z; have bK := hP.k; have eK := hP.s; have bl := hP.lo; have bh := hP.hi; have eQ : ((N : Int) + Z - 1).tdiv Z = (K : Int) := hP.q; have eW : IntKind.i64.wrap (K : Int) = K := w64 (by omega) (by omega); have uN := modU n 64 (by decide) (by decide); have uZ := modU z 8 (by decide) (by decide); have uE := modU e 1000 (by decide) (by decide); have lP : P.length = N := (by rw [eP]; exact ep_perm _ _ hP); have aP : Each N P := (by rw [eP]; exact ep_each _ _ hP); simp only [std, stdBin, stdCmp, stdUna, stdIn, ci, beq_iff_eq, bne_iff_ne, beq_eq_false_iff_ne, bne_eq_false_iff_eq, decide_eq_true_eq, decide_eq_false_iff_not, Bool.not_true, Bool.not_false, Bool.not_eq_true', Bool.not_eq_false', Bool.not_not, tn0, tn1, tn2, tn3, stepsF, whichF] at *; (try simp only [hN, hZ, hE, eK, eQ, eW, Int.toNat_natCast] at *)))
          (all_goals (have hiK : i < K := (by omega); obtain ⟨m1, m2, m3, m4, m5⟩ := ep_mul hP hiK; have wa := which_at (a := a) hP bE hiK; have wl : (whichL a N Z ((E : Int) * K + i)).length = min Z (N - i * Z) := (by rw [wa]; exact part_len (ep_perm _ _ hP)); have bEK : E * K ≤ 999 * 64 := Nat.mul_le_mul (by omega) (by omega); have eEK : (E : Int) * K = ((E * K : Nat) : Int) := (by rw [Int.natCast_mul]); have bZK : (K - 1) * Z < N := hP.lo; have eZK : (Z : Int) * ((K : Int) - 1) = (((K - 1) * Z : Nat) : Int) := (by rw [Int.natCast_mul, Int.mul_comm, Int.ofNat_sub (by omega)]; rfl)))
          all_goals (try simp only [wl] at *)
          all_goals first | exact True.intro | omega | exact congrArg (Value.int .i64) (by omega) | with_reducible rfl | skip
          all_goals (rw [HO.out, HS.out, show i * Z + j = min ((i + 1) * Z) N by omega]))
    case nx =>
      (repeat' (first | apply And.intro | apply BrB.mk | apply BrP.mk | intro _))
      all_goals try (refine loop_at Nat 101 (fun j => [(8, .any), (16, .any), (101, .v (.int .i64 (c j)))]) (fun j o => o) (fun j => j ≤ N) (fun j => N - j) 0 (Nat.zero_le _) ?_ ?_)
      all_goals try (
        show AS.le _ _
        cbv
        (repeat' (first | apply And.intro | apply BrB.mk | apply BrP.mk | intro _))
        (all_goals (subst hA; subst h_c; subst h_fs; subst h_fw; subst h_fY); all_goals (have f_sa := SA.out; have f_sn := SN.out; have f_sz := SZ.out; have f_se := SE.out); all_goals (obtain ⟨hN, hZ, hE⟩ := HNZE.out; obtain ⟨hP, bE, eP⟩ := HEP.out; have bN := hP.n; have bZ := hP.z; have bK := hP.k; have eK := hP.s; have bl := hP.lo; have bh := hP.hi; have eQ : ((N : Int) + Z - 1).tdiv Z = (K : Int) := hP.q; have eW : IntKind.i64.wrap (K : Int) = K := w64 (by omega) (by omega); have uN := modU n 64 (by decide) (by decide); have uZ := modU z 8 (by decide) (by decide); have uE := modU e 1000 (by decide) (by decide); have lP : P.length = N := (by rw [eP]; exact ep_perm _ _ hP); have aP : Each N P := (by rw [eP]; exact ep_each _ _ hP); simp only [std, stdBin, stdCmp, stdUna, stdIn, ci, beq_iff_eq, bne_iff_ne, beq_eq_false_iff_ne, bne_eq_false_iff_eq, decide_eq_true_eq, decide_eq_false_iff_not, Bool.not_true, Bool.not_false, Bool.not_eq_true', Bool.not_eq_false', Bool.not_not, tn0, tn1, tn2, tn3, stepsF, whichF] at *; (try simp only [hN, hZ, hE, eK, eQ, eW, Int.toNat_natCast] at *)))
        all_goals first | exact True.intro | rfl | skip)
      intro j hj
      cbv
      refine BrB.mk (fun gy => ?_) (fun gy => ?_)
      · (repeat' (first | apply And.intro | apply BrB.mk | apply BrP.mk | intro _))
        all_goals try (refine ⟨j + 1, ?_, ?_, ?_⟩)
        all_goals try (show AS.le _ _; cbv; (repeat' (first | apply And.intro | apply BrB.mk | apply BrP.mk | intro _)))
        (all_goals (subst hA; subst h_c; subst h_fs; subst h_fw; subst h_fY); all_goals (have f_sa := SA.out; have f_sn := SN.out; have f_sz := SZ.out; have f_se := SE.out); all_goals (obtain ⟨hN, hZ, hE⟩ := HNZE.out; obtain ⟨hP, bE, eP⟩ := HEP.out; have bN := hP.n; have bZ := hP.z; have bK := hP.k; have eK := hP.s; have bl := hP.lo; have bh := hP.hi; have eQ : ((N : Int) + Z - 1).tdiv Z = (K : Int) := hP.q; have eW : IntKind.i64.wrap (K : Int) = K := w64 (by omega) (by omega); have uN := modU n 64 (by decide) (by decide); have uZ := modU z 8 (by decide) (by decide); have uE := modU e 1000 (by decide) (by decide); have lP : P.length = N := (by rw [eP]; exact ep_perm _ _ hP); have aP : Each N P := (by rw [eP]; exact ep_each _ _ hP); simp only [std, stdBin, stdCmp, stdUna, stdIn, ci, beq_iff_eq, bne_iff_ne, beq_eq_false_iff_ne, bne_eq_false_iff_eq, decide_eq_true_eq, decide_eq_false_iff_not, Bool.not_true, Bool.not_false, Bool.not_eq_true', Bool.not_eq_false', Bool.not_not, tn0, tn1, tn2, tn3, stepsF, whichF] at *; (try simp only [hN, hZ, hE, eK, eQ, eW, Int.toNat_natCast] at *)))
        all_goals (have hiK : i = K := (by omega); have lO : (O i).length = N := (by rw [HO.out, cntL_len]); try simp only [lO] at *)
        all_goals (have eO : (O i).getD j 0 = 1 := (by rw [HO.out, hiK, Nat.min_eq_right bh, cntL_get P (by omega)]; exact cnt_all aP (by omega)); try simp only [eO] at *)
        all_goals first | exact True.intro | omega | exact congrArg (Value.int .i64) (by omega) | with_reducible rfl | contradiction | skip
      · (repeat' (first | apply And.intro | apply BrB.mk | apply BrP.mk | intro _))
        (all_goals (subst hA; subst h_c; subst h_fs; subst h_fw; subst h_fY); all_goals (have f_sa := SA.out; have f_sn := SN.out; have f_sz := SZ.out; have f_se := SE.out); all_goals (obtain ⟨hN, hZ, hE⟩ := HNZE.out; obtain ⟨hP, bE, eP⟩ := HEP.out; have bN := hP.n; have bZ := hP.z; have bK := hP.k; have eK := hP.s; have bl := hP.lo; have bh := hP.hi; have eQ : ((N : Int) + Z - 1).tdiv Z = (K : Int) := hP.q; have eW : IntKind.i64.wrap (K : Int) = K := w64 (by omega) (by omega); have uN := modU n 64 (by decide) (by decide); have uZ := modU z 8 (by decide) (by decide); have uE := modU e 1000 (by decide) (by decide); have lP : P.length = N := (by rw [eP]; exact ep_perm _ _ hP); have aP : Each N P := (by rw [eP]; exact ep_each _ _ hP); simp only [std, stdBin, stdCmp, stdUna, stdIn, ci, beq_iff_eq, bne_iff_ne, beq_eq_false_iff_ne, bne_eq_false_iff_eq, decide_eq_true_eq, decide_eq_false_iff_not, Bool.not_true, Bool.not_false, Bool.not_eq_true', Bool.not_eq_false', Bool.not_not, tn0, tn1, tn2, tn3, stepsF, whichF] at *; (try simp only [hN, hZ, hE, eK, eQ, eW, Int.toNat_natCast] at *)))
        all_goals first | exact True.intro | omega | exact congrArg (Value.int .i64) (by omega) | with_reducible rfl | contradiction | (refine vb ?_; rfl)
  (all_goals (subst hA; subst h_c; subst h_fs; subst h_fw; subst h_fY); all_goals (have f_sa := SA.out; have f_sn := SN.out; have f_sz := SZ.out; have f_se := SE.out); all_goals (obtain ⟨hN, hZ, hE⟩ := HNZE.out; obtain ⟨hP, bE, eP⟩ := HEP.out; have bN := hP.n; have bZ := hP.z; have bK := hP.k; have eK := hP.s; have bl := hP.lo; have bh := hP.hi; have eQ : ((N : Int) + Z - 1).tdiv Z = (K : Int) := hP.q; have eW : IntKind.i64.wrap (K : Int) = K := w64 (by omega) (by omega); have uN := modU n 64 (by decide) (by decide); have uZ := modU z 8 (by decide) (by decide); have uE := modU e 1000 (by decide) (by decide); have lP : P.length = N := (by rw [eP]; exact ep_perm _ _ hP); have aP : Each N P := (by rw [eP]; exact ep_each _ _ hP); simp only [std, stdBin, stdCmp, stdUna, stdIn, ci, beq_iff_eq, bne_iff_ne, beq_eq_false_iff_ne, bne_eq_false_iff_eq, decide_eq_true_eq, decide_eq_false_iff_not, Bool.not_true, Bool.not_false, Bool.not_eq_true', Bool.not_eq_false', Bool.not_not, tn0, tn1, tn2, tn3, stepsF, whichF] at *; (try simp only [hN, hZ, hE, eK, eQ, eW, Int.toNat_natCast] at *)))
  all_goals (try omega)
  all_goals first | exact True.intro | omega | exact congrArg (Value.int .i64) (by omega) | with_reducible rfl | contradiction
end Go.Proofs.Ytmlfiphpcjkadaa
