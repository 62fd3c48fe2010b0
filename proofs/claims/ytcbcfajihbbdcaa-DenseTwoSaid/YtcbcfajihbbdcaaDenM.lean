/- Layer 10: noughts; sums of batches. -/
import Derived.Test.YtcbcfajihbbdcaaDenK
namespace Go.Proofs.Ytcbcfajihbbdcaa
open Go.RowKit
set_option maxRecDepth 100000
set_option linter.unusedSimpArgs false
set_option linter.unusedVariables false
set_option maxHeartbeats 8000000
theorem al_same {v : Int} (e : Int) (h : -1048576 ≤ v ∧ v ≤ 1048576) : alignI v e e = v := by
  unfold alignI
  have hg : gap e e = 0 := by unfold gap; omega
  rw [hg, if_neg (by decide)]
  have hv : cut20 v = v := by unfold cut20 cl; omega
  rw [hv, show (min (0 : Int) 20).toNat = 0 from by decide, Int.pow_zero, Int.mul_one, hv]
theorem matL_nil (N i : Nat) : (matL [] N).getD i 0 = 0 := by
  by_cases h : i < N
  · rw [matL_get [] h, if_neg (by simp)]
  · rw [List.getD_eq_getElem?_getD, List.getElem?_eq_none (by rw [matL_len]; omega)]; rfl
theorem sumTo_zero {g : Int → Int} (f : Int) (h : ∀ x, g x = 0) : ∀ n : Nat, sumTo g f n = 0
  | 0 => rfl
  | n + 1 => by unfold sumTo; rw [sumTo_zero f h n, h]; rfl
theorem dt_zeroL {a : Ln} (b : Ln) (h : ∀ i, a.data.getD i 0 = 0) (m j n : Nat) : dt a b m j n = 0 := by
  unfold dt
  refine sumTo_zero _ (fun x => ?_) n
  unfold prI
  rw [h, Int.zero_mul]
theorem dt_zeroR (a : Ln) {b : Ln} (h : ∀ i, b.data.getD i 0 = 0) (m j n : Nat) : dt a b m j n = 0 := by
  unfold dt
  refine sumTo_zero _ (fun x => ?_) n
  unfold prI
  rw [h, Int.mul_zero]
theorem getD_map {f : Nat → Int} {n j : Nat} (h : j < n) : ((List.range n).map f).getD j 0 = f j := by
  rw [List.getD_eq_getElem?_getD, List.getElem?_map, List.getElem?_range h]; rfl
theorem mulL_zero {a : Ln} (b : Ln) (h : ∀ i, a.data.getD i 0 = 0) (n m q j : Nat) : (mulL a b n m q).getD j 0 = 0 := by
  unfold mulL
  by_cases hj : j < n * m
  · rw [getD_map hj]; exact dt_zeroL b h m j q
  · rw [List.getD_eq_getElem?_getD, List.getElem?_eq_none (by simp; omega)]; rfl
theorem smul {a b A B : Int} (h1 : 1 ≤ a ∧ a ≤ A) (h2 : 1 ≤ b ∧ b ≤ B) (h : A * B ≤ 8192) : 1 ≤ a * b ∧ a * b ≤ 8192 := by
  have h3 := mulB (a := a) (b := b) (A := A) (B := B) (by omega) h1.2 (by omega) h2.2
  have h4 := Int.mul_le_mul h1.1 h2.1 (by decide) (by omega)
  omega
theorem zfit {b : List Int} (h : Fits .i8 b) (N i : Nat) : -128 ≤ (matL b N).getD i 0 ∧ (matL b N).getD i 0 ≤ 127 := fits8 (matL_in b h N) i
/-- The way back goes well. -/
theorem inp_pair {n m k e1 e2 : Int} {A B : List Int} (hn : 1 ≤ n ∧ n ≤ 4096) (hk : 1 ≤ k ∧ k ≤ 4096) (hm : 1 ≤ m ∧ m ≤ 959) (h1 : n * m ≤ 8192) (h2 : m * k ≤ 8192) (h3 : n * k ≤ 8192) (q1 : -64 ≤ e1 ∧ e1 ≤ 64) (q2 : -64 ≤ e2 ∧ e2 ≤ 64)
    (l1 : (A.length : Int) = n * m) (l2 : (B.length : Int) = m * k) (c1 : A.contains (-128) = false) (c2 : B.contains (-128) = false) :
    t2 inErr 0 [.st [.l [n, m], .z e1, .l A], .st [.l [m, k], .z e2, .l B]] = 0 ∧ rU (t2 inErr 0) (t2 inRes ⟨[], 0, []⟩) [.st [.l [n, m], .z e1, .l A], .st [.l [m, k], .z e2, .l B]] = ⟨[n, k], e1 + e2, mulL (rowsR ⟨[n, m], e1, A⟩) (colsR ⟨[m, k], e2, B⟩) n.toNat k.toNat m.toNat⟩ := by
  have he : t2 inErr 0 [.st [.l [n, m], .z e1, .l A], .st [.l [m, k], .z e2, .l B]] = 0 := by
    show inErr ⟨[n, m], e1, A⟩ ⟨[m, k], e2, B⟩ = 0
    unfold inErr
    rw [may_pair hn ⟨hm.1, by omega⟩ h1 q1 l1 c1, may_pair ⟨hm.1, by omega⟩ hk h2 q2 l2 c2]
    rw [if_pos (by rfl), if_pos ⟨rfl, rfl, rfl⟩, room_eq', if_pos (by show decide _ = true; rw [decide_eq_true_eq]; show 0 ≤ m ∧ m ≤ 959; omega)]
    show (if mayD [n, k] = true then (0 : Int) else 1) = 0
    rw [if_pos (mayD_pair hn hk h3)]
  refine ⟨he, ?_⟩
  unfold rU
  rw [if_pos he]
  rfl
/-- The way back to the weights goes well. -/
theorem wgt_pair {n m k e1 e2 : Int} {A B : List Int} (hn : 1 ≤ n ∧ n ≤ 959) (hk : 1 ≤ k ∧ k ≤ 4096) (hm : 1 ≤ m ∧ m ≤ 4096) (h1 : n * m ≤ 8192) (h2 : n * k ≤ 8192) (h3 : m * k ≤ 8192) (q1 : -64 ≤ e1 ∧ e1 ≤ 64) (q2 : -64 ≤ e2 ∧ e2 ≤ 64)
    (l1 : (A.length : Int) = n * m) (l2 : (B.length : Int) = n * k) (c1 : A.contains (-128) = false) (c2 : B.contains (-128) = false) :
    t2 wtErr 0 [.st [.l [n, m], .z e1, .l A], .st [.l [n, k], .z e2, .l B]] = 0 ∧ rU (t2 wtErr 0) (t2 wtRes ⟨[], 0, []⟩) [.st [.l [n, m], .z e1, .l A], .st [.l [n, k], .z e2, .l B]] = ⟨[m, k], e1 + e2, mulL (colsR ⟨[n, m], e1, A⟩) (colsR ⟨[n, k], e2, B⟩) m.toNat k.toNat n.toNat⟩ := by
  have he : t2 wtErr 0 [.st [.l [n, m], .z e1, .l A], .st [.l [n, k], .z e2, .l B]] = 0 := by
    show wtErr ⟨[n, m], e1, A⟩ ⟨[n, k], e2, B⟩ = 0
    unfold wtErr
    rw [may_pair ⟨hn.1, by omega⟩ hm h1 q1 l1 c1, may_pair ⟨hn.1, by omega⟩ hk h2 q2 l2 c2]
    rw [if_pos (by rfl), if_pos ⟨rfl, rfl, rfl⟩, room_eq', if_pos (by show decide _ = true; rw [decide_eq_true_eq]; show 0 ≤ n ∧ n ≤ 959; omega)]
    show (if mayD [m, k] = true then (0 : Int) else 1) = 0
    rw [if_pos (mayD_pair hm hk h3)]
  refine ⟨he, ?_⟩
  unfold rU
  rw [if_pos he]
  rfl
/-- The way back to the bias goes well. -/
theorem bias_pair {n m e1 : Int} {A : List Int} (hn : 1 ≤ n ∧ n ≤ 959) (hm : 1 ≤ m ∧ m ≤ 4096) (h1 : n * m ≤ 8192) (q1 : -64 ≤ e1 ∧ e1 ≤ 64) (l1 : (A.length : Int) = n * m) (c1 : A.contains (-128) = false) :
    t1 bsErr 0 [.st [.l [n, m], .z e1, .l A]] = 0 ∧ rU (t1 bsErr 0) (t1 bsRes ⟨[], 0, []⟩) [.st [.l [n, m], .z e1, .l A]] = ⟨[m], e1, bsL A m.toNat A.length⟩ := by
  have he : t1 bsErr 0 [.st [.l [n, m], .z e1, .l A]] = 0 := by
    show bsErr ⟨[n, m], e1, A⟩ = 0
    unfold bsErr
    rw [may_pair ⟨hn.1, by omega⟩ hm h1 q1 l1 c1]
    rw [if_pos (by rfl), if_pos (by rfl), room_eq', if_pos (by show decide _ = true; rw [decide_eq_true_eq]; show 0 ≤ n ∧ n ≤ 959; omega)]
    show (if mayD [m] = true then (0 : Int) else 1) = 0
    rw [if_pos (mayD_one hm)]
  refine ⟨he, ?_⟩
  unfold rU
  rw [if_pos he]
  rfl
theorem out_nothing {D1 A D2 B D3 b : List Int} {N M : Nat} (hb : Fits .i8 b) (h : (∀ i, A.getD i 0 = 0) ∨ ∀ i, B.getD i 0 = 0) (j : Nat) : outL ⟨D1, 0, A⟩ ⟨D2, 0, B⟩ ⟨D3, 0, matL b M⟩ j = (matL b M).getD (j % M) 0 := by
  unfold outL
  have e : dt (rowsR ⟨D1, 0, A⟩) (rowsR ⟨D2, 0, B⟩) (D2.getD 0 0).toNat j (D1.getD 1 0).toNat = 0 := by
    rcases h with h | h
    · exact dt_zeroL _ h _ _ _
    · exact dt_zeroR _ h _ _ _
  simp only [matL_len]
  rw [e, Int.zero_add]
  have := zfit hb M (j % M)
  exact al_same 0 (by omega)
/-- Three numbers that are small. -/
structure Small3 (N K M : Nat) : Prop where
  n : 1 ≤ N ∧ N ≤ 4
  k : 1 ≤ K ∧ K ≤ 12
  m : 1 ≤ M ∧ M ≤ 8
theorem modN (k m : Int) (M : Nat) (h0 : 0 < m) (h1 : m ≤ 1000000) (h : m = ci M) : ∃ N : Nat, 1 + IntKind.i64.wrap ((IntKind.u64.wrap k).tmod m) = ci N ∧ 1 ≤ N ∧ N ≤ M := by
  have := modU k m (by omega) (by omega)
  unfold ci at *
  exact ⟨(1 + IntKind.i64.wrap ((IntKind.u64.wrap k).tmod m)).toNat, by omega, by omega, by omega⟩
theorem smulN {a b A B : Nat} (h1 : 1 ≤ a ∧ a ≤ A) (h2 : 1 ≤ b ∧ b ≤ B) (h : A * B ≤ 8192) : 1 ≤ a * b ∧ a * b ≤ 8192 ∧ (1 : Int) ≤ (a : Int) * b ∧ (a : Int) * b ≤ 8192 := by
  have h3 : a * b ≤ A * B := Nat.mul_le_mul h1.2 h2.2
  have h4 : 1 * 1 ≤ a * b := Nat.mul_le_mul h1.1 h2.1
  refine ⟨by omega, by omega, ?_, ?_⟩
  · rw [← Int.natCast_mul]; omega
  · rw [← Int.natCast_mul]; omega
theorem matN_len (l : List Int) (n k : Nat) : ((matL l ((n : Int) * k).toNat).length : Int) = (n : Int) * k := mat_len l (by omega) (by omega)
theorem vecN_len (l : List Int) (n : Nat) : ((matL l (n : Int).toNat).length : Int) = (n : Int) := by rw [matL_len]; omega
theorem fwd_mat {N K M : Nat} (h : Small3 N K M) (x w b : List Int) : fwdE [.st [.l [(N : Int), K], .z 0, .l (matL x ((N : Int) * K).toNat)], .st [.l [(M : Int), K], .z 0, .l (matL w ((M : Int) * K).toNat)], .st [.l [(M : Int)], .z 0, .l (matL b M)]] = 0 ∧ rU fwdE fwdR [.st [.l [(N : Int), K], .z 0, .l (matL x ((N : Int) * K).toNat)], .st [.l [(M : Int), K], .z 0, .l (matL w ((M : Int) * K).toNat)], .st [.l [(M : Int)], .z 0, .l (matL b M)]] = ⟨[(N : Int), M], 0, (List.range (N * M)).map (outL ⟨[(N : Int), K], 0, matL x ((N : Int) * K).toNat⟩ ⟨[(M : Int), K], 0, matL w ((M : Int) * K).toNat⟩ ⟨[(M : Int)], 0, matL b M⟩)⟩ :=
  fwd_pair (n := (N : Int)) (k := (K : Int)) (m := (M : Int)) (e1 := 0) (e2 := 0) (e3 := 0) (by have := h.n; omega) (by have := h.k; omega) (by have := h.m; omega) (smulN h.n h.k (by decide)).2.2.2 (smulN h.m h.k (by decide)).2.2.2 (smulN h.n h.m (by decide)).2.2.2 (by decide) (by decide) (by decide) (matN_len _ _ _) (matN_len _ _ _) (by rw [matL_len]) (matL_no _ _) (matL_no _ _) (matL_no _ _)
theorem inp_mat {N K M : Nat} (h : Small3 N K M) (g w : List Int) : t2 inErr 0 [.st [.l [(N : Int), M], .z 0, .l (matL g ((N : Int) * M).toNat)], .st [.l [(M : Int), K], .z 0, .l (matL w ((M : Int) * K).toNat)]] = 0 ∧ rU (t2 inErr 0) (t2 inRes ⟨[], 0, []⟩) [.st [.l [(N : Int), M], .z 0, .l (matL g ((N : Int) * M).toNat)], .st [.l [(M : Int), K], .z 0, .l (matL w ((M : Int) * K).toNat)]] = ⟨[(N : Int), K], 0, mulL (rowsR ⟨[(N : Int), M], 0, matL g ((N : Int) * M).toNat⟩) (colsR ⟨[(M : Int), K], 0, matL w ((M : Int) * K).toNat⟩) N K M⟩ :=
  inp_pair (n := (N : Int)) (k := (K : Int)) (m := (M : Int)) (e1 := 0) (e2 := 0) (by have := h.n; omega) (by have := h.k; omega) (by have := h.m; omega) (smulN h.n h.m (by decide)).2.2.2 (smulN h.m h.k (by decide)).2.2.2 (smulN h.n h.k (by decide)).2.2.2 (by decide) (by decide) (matN_len _ _ _) (matN_len _ _ _) (matL_no _ _) (matL_no _ _)
theorem nothing10_ok : CtrOk Try.prog 11 (boolC [.sl (.int .i8), .sl (.int .i8), .sl (.int .i8), .int .i64, .int .i64, .int .i64] yes) := by
  obtain ⟨G, hG⟩ : ∃ G : List (FuncId × Ctr), G = [(24, resU [tnTy .i8, tnTy .i8, tnTy .i8] .i32 3 21 fwdE (rU fwdE fwdR)), (26, resU [tnTy .i8, tnTy .i8] .i32 3 21 (t2 inErr 0) (rU (t2 inErr 0) (t2 inRes ⟨[], 0, []⟩))), (35, tnP [.sl (.int .i8), .int .i64, .int .i64] .i8 3 38 matP matR), (36, tnP [.sl (.int .i8), .int .i64] .i8 3 38 vecP vecR), (23, boolC [] yes)] := ⟨_, rfl⟩
  refine fn_ok (ck := true) Try.func11 rfl tt_ok (G := G) (by rw [hG]; exact ⟨⟨fwdU_ok, by unfold FnOk; kernel_rfl⟩, ⟨inpU_ok, by unfold FnOk; kernel_rfl⟩, ⟨matrix_ok, by unfold FnOk; kernel_rfl⟩, ⟨vector_ok, by unfold FnOk; kernel_rfl⟩, ⟨awake10_ok, by unfold FnOk; kernel_rfl⟩, trivial⟩) mixed (by kernel_rfl) ?_
  intro xa xs h hx hp
  obtain ⟨a0, as0, x0, xs0, rfl, rfl, h0, H1⟩ := svArgs_cons h
  obtain ⟨a1, as1, x1, xs1, rfl, rfl, h1, H2⟩ := svArgs_cons H1
  obtain ⟨a2, as2, x2, xs2, rfl, rfl, h2, H3⟩ := svArgs_cons H2
  obtain ⟨a3, as3, x3, xs3, rfl, rfl, h3, H4⟩ := svArgs_cons H3
  obtain ⟨a4, as4, x4, xs4, rfl, rfl, h4, H5⟩ := svArgs_cons H4
  obtain ⟨a5, as5, x5, xs5, rfl, rfl, h5, H6⟩ := svArgs_cons H5
  obtain ⟨rfl, rfl⟩ := svArgs_nil H6
  obtain ⟨x, rfl, rfl⟩ := argSV_ints h0
  obtain ⟨w, rfl, rfl⟩ := argSV_ints h1
  obtain ⟨b, rfl, rfl⟩ := argSV_ints h2
  obtain ⟨n, rfl, rfl⟩ := argSV_int h3
  obtain ⟨k, rfl, rfl⟩ := argSV_int h4
  obtain ⟨m, rfl, rfl⟩ := argSV_int h5
  have sx : Fits .i8 x ∧ ci x.length ≤ 9223372036854775807 := svf_ints (hx (.iimm .i8 x) (by simp))
  have sw : Fits .i8 w ∧ ci w.length ≤ 9223372036854775807 := svf_ints (hx (.iimm .i8 w) (by simp))
  have sb : Fits .i8 b ∧ ci b.length ≤ 9223372036854775807 := svf_ints (hx (.iimm .i8 b) (by simp))
  have sn := of_i64 (hx (.v (.int .i64 n)) (by simp))
  have sk := of_i64 (hx (.v (.int .i64 k)) (by simp))
  have sm := of_i64 (hx (.v (.int .i64 m)) (by simp))
  have SX := Lib.hid sx
  clear sx
  have SW := Lib.hid sw
  clear sw
  have SB := Lib.hid sb
  clear sb
  have SN := Lib.hid sn
  clear sn
  have SK := Lib.hid sk
  clear sk
  have SM := Lib.hid sm
  clear sm
  clear hx hp h h0 H1 h1 H2 h2 H3 h3 H4 h4 H5 h5 H6
  generalize hA : std = A
  subst hG
  generalize h_c : ci = c
  generalize h_fR : rU fwdE fwdR = fR
  generalize h_fE : fwdE = fE
  generalize h_fI : rU (t2 inErr 0) (t2 inRes ⟨[], 0, []⟩) = fI
  generalize h_fJ : t2 inErr 0 = fJ
  generalize h_fM : matR = fM
  generalize h_fV : vecR = fV
  generalize h_pM : matP = pM
  generalize h_pV : vecP = pV
  generalize h_fY : yes = fY
  (obtain ⟨N, hN, b1⟩ := modN n 4 4 (by decide) (by decide) rfl; obtain ⟨K, hK, b2⟩ := modN k 12 12 (by decide) (by decide) rfl; obtain ⟨M, hM, b3⟩ := modN m 8 8 (by decide) (by decide) rfl; have HS := Lib.hid (Small3.mk b1 b2 b3); clear b1 b2 b3; have HNKM := Lib.hid (And.intro hN (And.intro hK hM)); clear hN hK hM)
  cbv
  (repeat' (first | apply And.intro | apply BrB.mk | apply BrP.mk | intro _))
  all_goals try (refine loop_at Nat 109 (fun j => [(12, .any), (21, .any), (109, .v (.int .i64 (c j)))]) (fun _ o => o) (fun j => j ≤ N * M) (fun j => N * M - j) 0 ?h0 ?hle ?round)
  case h0 => exact Nat.zero_le _
  case hle => (cbv; (repeat' (first | apply And.intro | apply BrB.mk | apply BrP.mk | intro _)); all_goals (subst hA; subst h_c; subst h_fR; subst h_fE; subst h_fI; subst h_fJ; subst h_fM; subst h_fV; subst h_pM; subst h_pV; subst h_fY); all_goals (have f_sx := SX.out; have f_sw := SW.out; have f_sb := SB.out; have f_sn := SN.out; have f_sk := SK.out; have f_sm := SM.out); all_goals (try simp only [std, stdBin, stdCmp, stdUna, stdIn, ci, beq_iff_eq, bne_iff_ne, beq_eq_false_iff_ne, bne_eq_false_iff_eq, decide_eq_true_eq, decide_eq_false_iff_not, Bool.not_true, Bool.not_false, Bool.not_eq_true', Bool.not_eq_false', Bool.not_not, tn0, tn1, tn2, tn3] at *); (all_goals first | exact True.intro | rfl | exact congrArg (Value.int .i64) (by omega)))
  case round =>
    intro j hj
    cbv
    refine BrB.mk (fun gx => ?yx) (fun gx => ?nx)
    case yx =>
      (repeat' (first | apply And.intro | apply BrB.mk | apply BrP.mk | intro _))
      all_goals try (refine ⟨j + 1, ?_, ?_, ?_⟩)
      all_goals try (show AS.le _ _; (cbv; (repeat' (first | apply And.intro | apply BrB.mk | apply BrP.mk | intro _)); all_goals (subst hA; subst h_c; subst h_fR; subst h_fE; subst h_fI; subst h_fJ; subst h_fM; subst h_fV; subst h_pM; subst h_pV; subst h_fY); all_goals (have f_sx := SX.out; have f_sw := SW.out; have f_sb := SB.out; have f_sn := SN.out; have f_sk := SK.out; have f_sm := SM.out); all_goals (try simp only [std, stdBin, stdCmp, stdUna, stdIn, ci, beq_iff_eq, bne_iff_ne, beq_eq_false_iff_ne, bne_eq_false_iff_eq, decide_eq_true_eq, decide_eq_false_iff_not, Bool.not_true, Bool.not_false, Bool.not_eq_true', Bool.not_eq_false', Bool.not_not, tn0, tn1, tn2, tn3] at *); (all_goals first | exact True.intro | rfl | exact congrArg (Value.int .i64) (by omega))))
      (all_goals (subst hA; subst h_c; subst h_fR; subst h_fE; subst h_fI; subst h_fJ; subst h_fM; subst h_fV; subst h_pM; subst h_pV; subst h_fY); all_goals (have f_sx := SX.out; have f_sw := SW.out; have f_sb := SB.out; have f_sn := SN.out; have f_sk := SK.out; have f_sm := SM.out); all_goals (obtain ⟨hN, hK, hM⟩ := HNKM.out; have hS := HS.out; have bN := hS.n; have bK := hS.k; have bM := hS.m; have hn := modU n 4 (by decide) (by decide); have hk := modU k 12 (by decide) (by decide); have hm := modU m 8 (by decide) (by decide); have pNK := smulN bN bK (by decide); have pNM := smulN bN bM (by decide); have pMK := smulN bM bK (by decide); simp only [std, stdBin, stdCmp, stdUna, stdIn, ci, beq_iff_eq, bne_iff_ne, beq_eq_false_iff_ne, bne_eq_false_iff_eq, decide_eq_true_eq, decide_eq_false_iff_not, Bool.not_true, Bool.not_false, Bool.not_eq_true', Bool.not_eq_false', Bool.not_not, tn0, tn1, tn2, tn3, matR, vecR, matP, vecP] at *; (try simp only [hN, hK, hM, Int.toNat_natCast] at *)))
      all_goals (obtain ⟨F1, R1⟩ := fwd_mat hS [] w b)
      all_goals (obtain ⟨F2, R2⟩ := fwd_mat hS x [] b)
      all_goals (have O1 := out_nothing (D1 := [(N : Int), K]) (D2 := [(M : Int), K]) (D3 := [(M : Int)]) (A := matL [] ((N : Int) * K).toNat) (B := matL w ((M : Int) * K).toNat) (N := N) (M := M) f_sb.1 (.inl (matL_nil _)) j)
      all_goals (have O2 := out_nothing (D1 := [(N : Int), K]) (D2 := [(M : Int), K]) (D3 := [(M : Int)]) (A := matL x ((N : Int) * K).toNat) (B := matL [] ((M : Int) * K).toNat) (N := N) (M := M) f_sb.1 (.inr (matL_nil _)) j)
      all_goals (simp only [F1, F2, R1, R2, List.length_map, List.length_range, Int.toNat_natCast, tmod_nat, matL_len] at *)
      all_goals (have dM := Nat.mod_lt j (show 0 < M by omega))
      all_goals (try simp only [getD_map (show j < N * M by omega), O1, O2] at *)
      all_goals (try first | exact True.intro | omega | contradiction)
    case nx =>
      refine loop_at Nat 146 (fun j => [(12, .any), (23, .any), (146, .v (.int .i64 (c j)))]) (fun _ o => o) (fun j => j ≤ N * K) (fun j => N * K - j) 0 ?h0 ?hle ?round
      case h0 => exact Nat.zero_le _
      case hle => (cbv; (repeat' (first | apply And.intro | apply BrB.mk | apply BrP.mk | intro _)); all_goals (subst hA; subst h_c; subst h_fR; subst h_fE; subst h_fI; subst h_fJ; subst h_fM; subst h_fV; subst h_pM; subst h_pV; subst h_fY); all_goals (have f_sx := SX.out; have f_sw := SW.out; have f_sb := SB.out; have f_sn := SN.out; have f_sk := SK.out; have f_sm := SM.out); all_goals (try simp only [std, stdBin, stdCmp, stdUna, stdIn, ci, beq_iff_eq, bne_iff_ne, beq_eq_false_iff_ne, bne_eq_false_iff_eq, decide_eq_true_eq, decide_eq_false_iff_not, Bool.not_true, Bool.not_false, Bool.not_eq_true', Bool.not_eq_false', Bool.not_not, tn0, tn1, tn2, tn3] at *); (all_goals first | exact True.intro | rfl | exact congrArg (Value.int .i64) (by omega)))
      case round =>
        intro i hi
        cbv
        (repeat' (first | apply And.intro | apply BrB.mk | apply BrP.mk | intro _))
        all_goals try (refine ⟨i + 1, ?_, ?_, ?_⟩)
        all_goals try (show AS.le _ _; (cbv; (repeat' (first | apply And.intro | apply BrB.mk | apply BrP.mk | intro _)); all_goals (subst hA; subst h_c; subst h_fR; subst h_fE; subst h_fI; subst h_fJ; subst h_fM; subst h_fV; subst h_pM; subst h_pV; subst h_fY); all_goals (have f_sx := SX.out; have f_sw := SW.out; have f_sb := SB.out; have f_sn := SN.out; have f_sk := SK.out; have f_sm := SM.out); all_goals (try simp only [std, stdBin, stdCmp, stdUna, stdIn, ci, beq_iff_eq, bne_iff_ne, beq_eq_false_iff_ne, bne_eq_false_iff_eq, decide_eq_true_eq, decide_eq_false_iff_not, Bool.not_true, Bool.not_false, Bool.not_eq_true', Bool.not_eq_false', Bool.not_not, tn0, tn1, tn2, tn3] at *); (all_goals first | exact True.intro | rfl | exact congrArg (Value.int .i64) (by omega))))
        (all_goals (subst hA; subst h_c; subst h_fR; subst h_fE; subst h_fI; subst h_fJ; subst h_fM; subst h_fV; subst h_pM; subst h_pV; subst h_fY); all_goals (have f_sx := SX.out; have f_sw := SW.out; have f_sb := SB.out; have f_sn := SN.out; have f_sk := SK.out; have f_sm := SM.out); all_goals (obtain ⟨hN, hK, hM⟩ := HNKM.out; have hS := HS.out; have bN := hS.n; have bK := hS.k; have bM := hS.m; have hn := modU n 4 (by decide) (by decide); have hk := modU k 12 (by decide) (by decide); have hm := modU m 8 (by decide) (by decide); have pNK := smulN bN bK (by decide); have pNM := smulN bN bM (by decide); have pMK := smulN bM bK (by decide); simp only [std, stdBin, stdCmp, stdUna, stdIn, ci, beq_iff_eq, bne_iff_ne, beq_eq_false_iff_ne, bne_eq_false_iff_eq, decide_eq_true_eq, decide_eq_false_iff_not, Bool.not_true, Bool.not_false, Bool.not_eq_true', Bool.not_eq_false', Bool.not_not, tn0, tn1, tn2, tn3, matR, vecR, matP, vecP] at *; (try simp only [hN, hK, hM, Int.toNat_natCast] at *)))
        all_goals (obtain ⟨F1, R1⟩ := inp_mat hS [] w)
        all_goals (have Z := mulL_zero (a := rowsR ⟨[(N : Int), M], 0, matL [] ((N : Int) * M).toNat⟩) (colsR ⟨[(M : Int), K], 0, matL w ((M : Int) * K).toNat⟩) (matL_nil _) N K M i)
        all_goals (have Zl : (mulL (rowsR ⟨[(N : Int), M], 0, matL [] ((N : Int) * M).toNat⟩) (colsR ⟨[(M : Int), K], 0, matL w ((M : Int) * K).toNat⟩) N K M).length = N * K := (by simp [mulL]))
        all_goals (simp only [F1, R1, Z, Zl, Int.toNat_natCast] at *)
        all_goals (try first | exact True.intro | omega | rfl | contradiction)
  (all_goals (subst hA; subst h_c; subst h_fR; subst h_fE; subst h_fI; subst h_fJ; subst h_fM; subst h_fV; subst h_pM; subst h_pV; subst h_fY); all_goals (have f_sx := SX.out; have f_sw := SW.out; have f_sb := SB.out; have f_sn := SN.out; have f_sk := SK.out; have f_sm := SM.out); all_goals (obtain ⟨hN, hK, hM⟩ := HNKM.out; have hS := HS.out; have bN := hS.n; have bK := hS.k; have bM := hS.m; have hn := modU n 4 (by decide) (by decide); have hk := modU k 12 (by decide) (by decide); have hm := modU m 8 (by decide) (by decide); have pNK := smulN bN bK (by decide); have pNM := smulN bN bM (by decide); have pMK := smulN bM bK (by decide); simp only [std, stdBin, stdCmp, stdUna, stdIn, ci, beq_iff_eq, bne_iff_ne, beq_eq_false_iff_ne, bne_eq_false_iff_eq, decide_eq_true_eq, decide_eq_false_iff_not, Bool.not_true, Bool.not_false, Bool.not_eq_true', Bool.not_eq_false', Bool.not_not, tn0, tn1, tn2, tn3, matR, vecR, matP, vecP] at *; (try simp only [hN, hK, hM, Int.toNat_natCast] at *)))
  all_goals (obtain ⟨F1, R1⟩ := fwd_mat hS [] w b)
  all_goals (obtain ⟨F2, R2⟩ := fwd_mat hS x [] b)
  all_goals (obtain ⟨F3, R3⟩ := inp_mat hS [] w)
  all_goals (simp only [F1, F2, F3, R1, R2, List.length_map, List.length_range, Int.toNat_natCast, tmod_nat, matL_len] at *)
  all_goals (try first | exact True.intro | omega | contradiction)
end Go.Proofs.Ytcbcfajihbbdcaa
