/- Layer 10: the laws of a matrix, the way there. -/
import Derived.Test.YtcbcfajihbbdcaaDenJ
import Derived.Test.YtcbcfajihbbdcaaRef
namespace Go.Proofs.Ytcbcfajihbbdcaa
open Go.RowKit
set_option maxRecDepth 100000
set_option linter.unusedSimpArgs false
set_option linter.unusedVariables false
set_option maxHeartbeats 8000000
theorem fwdU_ok : CtrOk Try.prog 24 (resU [tnTy .i8, tnTy .i8, tnTy .i8] .i32 3 21 fwdE (rU fwdE fwdR)) := by
  exact resU_of fwd_ok
theorem inpU_ok : CtrOk Try.prog 26 (resU [tnTy .i8, tnTy .i8] .i32 3 21 (t2 inErr 0) (rU (t2 inErr 0) (t2 inRes ⟨[], 0, []⟩))) := by
  exact resU_of inp_ok
theorem wgtU_ok : CtrOk Try.prog 28 (resU [tnTy .i8, tnTy .i8] .i32 3 21 (t2 wtErr 0) (rU (t2 wtErr 0) (t2 wtRes ⟨[], 0, []⟩))) := by
  exact resU_of wgt_ok
theorem biasU_ok : CtrOk Try.prog 30 (resU [tnTy .i8] .i32 3 21 (t1 bsErr 0) (rU (t1 bsErr 0) (t1 bsRes ⟨[], 0, []⟩))) := by
  exact resU_of bias_ok
theorem awk1 : fwdE [.st [.l [1, 2], .z 0, .l [1, 2]], .st [.l [1, 2], .z 0, .l [3, 4]], .st [.l [1], .z 0, .l [5]]] = 0 := by kernel_rfl
theorem awk2 : rU fwdE fwdR [.st [.l [1, 2], .z 0, .l [1, 2]], .st [.l [1, 2], .z 0, .l [3, 4]], .st [.l [1], .z 0, .l [5]]] = ⟨[1, 1], 0, [16]⟩ := by kernel_rfl
theorem awake10_ok : CtrOk Try.prog 23 (boolC [] yes) := by
  obtain ⟨G, hG⟩ : ∃ G : List (FuncId × Ctr), G = [(24, resU [tnTy .i8, tnTy .i8, tnTy .i8] .i32 3 21 fwdE (rU fwdE fwdR))] := ⟨_, rfl⟩
  refine fn_ok (ck := true) Try.func23 rfl tt_ok (G := G) (by rw [hG]; exact ⟨⟨fwdU_ok, by unfold FnOk; kernel_rfl⟩, trivial⟩) mixed (by kernel_rfl) ?_
  intro xa xs h hx hp
  obtain ⟨rfl, rfl⟩ := svArgs_nil h
  clear hx hp h 
  generalize hA : std = A
  subst hG
  generalize h_c : ci = c
  generalize h_fR : rU fwdE fwdR = fR
  generalize h_fE : fwdE = fE
  generalize h_fY : yes = fY
  cbv
  (repeat' (first | apply And.intro | apply BrB.mk | apply BrP.mk | intro _))
  (all_goals (subst hA; subst h_c; subst h_fR; subst h_fE; subst h_fY); all_goals (skip); all_goals (try simp only [std, stdBin, stdCmp, stdUna, stdIn, ci, beq_iff_eq, bne_iff_ne, beq_eq_false_iff_ne, bne_eq_false_iff_eq, decide_eq_true_eq, decide_eq_false_iff_not, Bool.not_true, Bool.not_false, Bool.not_eq_true', Bool.not_eq_false', Bool.not_not, tn0, tn1, tn2, tn3, awk1, awk2] at *); all_goals (try omega))
  all_goals (first | rfl | contradiction | simp_all)
theorem matL_no (l : List Int) (N : Nat) : (matL l N).contains (-128) = false := by
  rw [List.contains_eq_mem, decide_eq_false_iff_not]
  intro h
  obtain ⟨i, _, hi⟩ := List.mem_map.1 h
  split at hi
  · rename_i hc; exact hc.2 hi
  · exact absurd hi (by decide)
theorem matL_in (l : List Int) (h : Fits .i8 l) (N : Nat) : Fits .i8 (matL l N) := by
  intro x hx
  obtain ⟨i, _, hi⟩ := List.mem_map.1 hx
  have := fits8 h i
  split at hi <;> subst hi
  · exact (stdIn_iff .i8 _).1 ⟨by omega, by omega⟩
  · decide
theorem mayD_pair {n k : Int} (hn : 1 ≤ n ∧ n ≤ 4096) (hk : 1 ≤ k ∧ k ≤ 4096) (h : n * k ≤ 8192) : mayD [n, k] = true := by
  refine (mayD_iff _).2 ⟨by simp, fun x hx => ?_, ?_⟩
  · simp only [List.mem_cons, List.not_mem_nil, or_false] at hx
    rcases hx with rfl | rfl
    · exact hn
    · exact hk
  · simp only [prodFrom, List.foldl_cons, List.foldl_nil, Int.one_mul]; exact h
theorem mayD_one {n : Int} (hn : 1 ≤ n ∧ n ≤ 4096) : mayD [n] = true := by
  refine (mayD_iff _).2 ⟨by simp, fun x hx => ?_, ?_⟩
  · simp only [List.mem_cons, List.not_mem_nil, or_false] at hx
    rcases hx with rfl
    exact hn
  · simp only [prodFrom, List.foldl_cons, List.foldl_nil, Int.one_mul]; omega
theorem szD_pair {n k : Int} (h : mayD [n, k] = true) : szD [n, k] = n * k := by
  unfold szD; rw [if_pos h]; simp [prodFrom]
theorem szD_one {n : Int} (h : mayD [n] = true) : szD [n] = n := by
  unfold szD; rw [if_pos h]; simp [prodFrom]
theorem may_pair {n k e : Int} {L : List Int} (hn : 1 ≤ n ∧ n ≤ 4096) (hk : 1 ≤ k ∧ k ≤ 4096) (h : n * k ≤ 8192) (he : -64 ≤ e ∧ e ≤ 64) (hl : (L.length : Int) = n * k) (h0 : L.contains (-128) = false) : mayB ⟨[n, k], e, L⟩ = true := by
  have hd := mayD_pair hn hk h
  exact (mayB_eq _ _ _).2 ⟨hd, by rw [szD_pair hd, hl], he, h0⟩
theorem may_vec {n e : Int} {L : List Int} (hn : 1 ≤ n ∧ n ≤ 4096) (he : -64 ≤ e ∧ e ≤ 64) (hl : (L.length : Int) = n) (h0 : L.contains (-128) = false) : mayB ⟨[n], e, L⟩ = true := by
  have hd := mayD_one hn
  exact (mayB_eq _ _ _).2 ⟨hd, by rw [szD_one hd, hl], he, h0⟩
theorem mat_len (l : List Int) {n k : Int} (hn : 0 ≤ n) (hk : 0 ≤ k) : ((matL l (n * k).toNat).length : Int) = n * k := by
  rw [matL_len, Int.toNat_of_nonneg (Int.mul_nonneg hn hk)]
/-- The way there goes well. -/
theorem fwd_pair {n k m e1 e2 e3 : Int} {A B D : List Int} (hn : 1 ≤ n ∧ n ≤ 4096) (hk : 1 ≤ k ∧ k ≤ 959) (hm : 1 ≤ m ∧ m ≤ 4096) (h1 : n * k ≤ 8192) (h2 : m * k ≤ 8192) (h3 : n * m ≤ 8192) (q1 : -64 ≤ e1 ∧ e1 ≤ 64) (q2 : -64 ≤ e2 ∧ e2 ≤ 64) (q3 : -64 ≤ e3 ∧ e3 ≤ 64)
    (l1 : (A.length : Int) = n * k) (l2 : (B.length : Int) = m * k) (l3 : (D.length : Int) = m) (c1 : A.contains (-128) = false) (c2 : B.contains (-128) = false) (c3 : D.contains (-128) = false) :
    fwdE [.st [.l [n, k], .z e1, .l A], .st [.l [m, k], .z e2, .l B], .st [.l [m], .z e3, .l D]] = 0 ∧ rU fwdE fwdR [.st [.l [n, k], .z e1, .l A], .st [.l [m, k], .z e2, .l B], .st [.l [m], .z e3, .l D]] = ⟨[n, m], e1 + e2, (List.range (n.toNat * m.toNat)).map (outL ⟨[n, k], e1, A⟩ ⟨[m, k], e2, B⟩ ⟨[m], e3, D⟩)⟩ := by
  have he : fwdE [.st [.l [n, k], .z e1, .l A], .st [.l [m, k], .z e2, .l B], .st [.l [m], .z e3, .l D]] = 0 := by
    show fwdErr ⟨[n, k], e1, A⟩ ⟨[m, k], e2, B⟩ ⟨[m], e3, D⟩ = 0
    rw [fwdErr_eq, may_pair hn ⟨hk.1, by omega⟩ h1 q1 l1 c1, may_pair hm ⟨hk.1, by omega⟩ h2 q2 l2 c2, may_vec hm q3 l3 c3]
    rw [if_pos (by rfl), if_pos ⟨rfl, rfl, rfl, rfl, rfl⟩, if_pos (by show decide _ = true; rw [decide_eq_true_eq]; show 0 ≤ k ∧ k ≤ 959; omega)]
    show (if mayD [n, m] = true then (0 : Int) else 1) = 0
    rw [if_pos (mayD_pair hn hm h3)]
  refine ⟨he, ?_⟩
  unfold rU
  rw [if_pos he]
  rfl
theorem alignI_zero (a b : Int) : alignI 0 a b = 0 := by
  unfold alignI
  split
  · unfold downI
    rw [show numb 0 = 0 from by decide, Int.zero_ediv]
  · rw [show cut20 0 = 0 from by decide, Int.zero_mul]; decide
theorem outL_free (D1 A D2 B D3 : List Int) (e1 e2 : Int) : outL ⟨D1, e1, A⟩ ⟨D2, e2, B⟩ ⟨D3, 0, matL [] 1⟩ = fun j => dt (rowsR ⟨D1, 0, A⟩) (rowsR ⟨D2, 0, B⟩) (D2.getD 0 0).toNat j (D1.getD 1 0).toNat := by
  funext j
  unfold outL
  have e : (matL [] 1).getD (j % (matL [] 1).length) 0 = 0 := by
    rw [matL_len, Nat.mod_one]; rfl
  simp only [e, alignI_zero, Int.add_zero]
  rfl
theorem tmod64 (a : Int) : -64 ≤ a.tmod 64 ∧ a.tmod 64 ≤ 64 := by
  have h1 := Int.tmod_lt_of_pos a (show (0 : Int) < 64 by decide)
  have h2 := Int.lt_tmod_of_pos a (show (0 : Int) < 64 by decide)
  omega
theorem exps10_ok : CtrOk Try.prog 13 (boolC [.sl (.int .i8), .sl (.int .i8), .int .i64, .int .i64, .int .i64] yes) := by
  obtain ⟨G, hG⟩ : ∃ G : List (FuncId × Ctr), G = [(24, resU [tnTy .i8, tnTy .i8, tnTy .i8] .i32 3 21 fwdE (rU fwdE fwdR)), (35, tnP [.sl (.int .i8), .int .i64, .int .i64] .i8 3 38 matP matR), (36, tnP [.sl (.int .i8), .int .i64] .i8 3 38 vecP vecR), (23, boolC [] yes)] := ⟨_, rfl⟩
  refine fn_ok (ck := true) Try.func13 rfl tt_ok (G := G) (by rw [hG]; exact ⟨⟨fwdU_ok, by unfold FnOk; kernel_rfl⟩, ⟨matrix_ok, by unfold FnOk; kernel_rfl⟩, ⟨vector_ok, by unfold FnOk; kernel_rfl⟩, ⟨awake10_ok, by unfold FnOk; kernel_rfl⟩, trivial⟩) mixed (by kernel_rfl) ?_
  intro xa xs h hx hp
  obtain ⟨a0, as0, x0, xs0, rfl, rfl, h0, H1⟩ := svArgs_cons h
  obtain ⟨a1, as1, x1, xs1, rfl, rfl, h1, H2⟩ := svArgs_cons H1
  obtain ⟨a2, as2, x2, xs2, rfl, rfl, h2, H3⟩ := svArgs_cons H2
  obtain ⟨a3, as3, x3, xs3, rfl, rfl, h3, H4⟩ := svArgs_cons H3
  obtain ⟨a4, as4, x4, xs4, rfl, rfl, h4, H5⟩ := svArgs_cons H4
  obtain ⟨rfl, rfl⟩ := svArgs_nil H5
  obtain ⟨x, rfl, rfl⟩ := argSV_ints h0
  obtain ⟨w, rfl, rfl⟩ := argSV_ints h1
  obtain ⟨k, rfl, rfl⟩ := argSV_int h2
  obtain ⟨a, rfl, rfl⟩ := argSV_int h3
  obtain ⟨b, rfl, rfl⟩ := argSV_int h4
  have sx : Fits .i8 x ∧ ci x.length ≤ 9223372036854775807 := svf_ints (hx (.iimm .i8 x) (by simp))
  have sw : Fits .i8 w ∧ ci w.length ≤ 9223372036854775807 := svf_ints (hx (.iimm .i8 w) (by simp))
  have sk := of_i64 (hx (.v (.int .i64 k)) (by simp))
  have sa := of_i64 (hx (.v (.int .i64 a)) (by simp))
  have sb := of_i64 (hx (.v (.int .i64 b)) (by simp))
  have SX := Lib.hid sx
  clear sx
  have SW := Lib.hid sw
  clear sw
  have SK := Lib.hid sk
  clear sk
  have SA := Lib.hid sa
  clear sa
  have SB := Lib.hid sb
  clear sb
  clear hx hp h h0 H1 h1 H2 h2 H3 h3 H4 h4 H5
  generalize hA : std = A
  subst hG
  generalize h_c : ci = c
  generalize h_fR : rU fwdE fwdR = fR
  generalize h_fE : fwdE = fE
  generalize h_fM : matR = fM
  generalize h_fV : vecR = fV
  generalize h_pM : matP = pM
  generalize h_pV : vecP = pV
  generalize h_fY : yes = fY
  cbv
  (repeat' (first | apply And.intro | apply BrB.mk | apply BrP.mk | intro _))
  all_goals (subst hA; subst h_c; subst h_fR; subst h_fE; subst h_fM; subst h_fV; subst h_pM; subst h_pV; subst h_fY)
  all_goals (have f_sx := SX.out; have f_sw := SW.out; have f_sk := SK.out; have f_sa := SA.out; have f_sb := SB.out)
  all_goals (try simp only [std, stdBin, stdCmp, stdUna, stdIn, ci, beq_iff_eq, bne_iff_ne, beq_eq_false_iff_ne, bne_eq_false_iff_eq, decide_eq_true_eq, decide_eq_false_iff_not, Bool.not_true, Bool.not_false, Bool.not_eq_true', Bool.not_eq_false', Bool.not_not, tn0, tn1, tn2, tn3, matR, vecR, matP, vecP] at *)
  all_goals (have hk := modU k 12 (by decide) (by decide); generalize IntKind.i64.wrap ((IntKind.u64.wrap k).tmod 12) = K at *)
  all_goals (have ha := tmod64 a; have hb := tmod64 b)
  all_goals (try omega)
  all_goals (obtain ⟨F1, R1⟩ := fwd_pair (n := 1) (k := 1 + K) (m := 1) (e1 := 0) (e2 := 0) (e3 := 0) (A := matL x (1 * (1 + K)).toNat) (B := matL w (1 * (1 + K)).toNat) (D := matL [] 1) (by decide) (by omega) (by decide) (by omega) (by omega) (by decide) (by decide) (by decide) (by decide) (mat_len _ (by decide) (by omega)) (mat_len _ (by decide) (by omega)) rfl (matL_no _ _) (matL_no _ _) (matL_no _ _))
  all_goals (obtain ⟨F2, R2⟩ := fwd_pair (n := 1) (k := 1 + K) (m := 1) (e1 := a.tmod 64) (e2 := b.tmod 64) (e3 := 0) (A := matL x (1 * (1 + K)).toNat) (B := matL w (1 * (1 + K)).toNat) (D := matL [] 1) (by decide) (by omega) (by decide) (by omega) (by omega) (by decide) ha hb (by decide) (mat_len _ (by decide) (by omega)) (mat_len _ (by decide) (by omega)) rfl (matL_no _ _) (matL_no _ _) (matL_no _ _))
  all_goals (try simp only [F1, F2, R1, R2, List.length_map, List.length_range] at *)
  all_goals (try first | rfl | contradiction | omega)
  simp only [outL_free] at *
  contradiction
end Go.Proofs.Ytcbcfajihbbdcaa
