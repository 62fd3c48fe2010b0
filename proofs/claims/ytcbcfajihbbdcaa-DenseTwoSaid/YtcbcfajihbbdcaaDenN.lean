/- Layer 10: what comes back of a batch is that of its examples, added. -/
import Derived.Test.YtcbcfajihbbdcaaDenM
namespace Go.Proofs.Ytcbcfajihbbdcaa
open Go.RowKit
set_option maxRecDepth 100000
set_option linter.unusedSimpArgs false
set_option linter.unusedVariables false
set_option maxHeartbeats 8000000
theorem wgt_mat {N K M : Nat} (h : Small3 N K M) (g x : List Int) : t2 wtErr 0 [.st [.l [(N : Int), M], .z 0, .l (matL g ((N : Int) * M).toNat)], .st [.l [(N : Int), K], .z 0, .l (matL x ((N : Int) * K).toNat)]] = 0 ∧ rU (t2 wtErr 0) (t2 wtRes ⟨[], 0, []⟩) [.st [.l [(N : Int), M], .z 0, .l (matL g ((N : Int) * M).toNat)], .st [.l [(N : Int), K], .z 0, .l (matL x ((N : Int) * K).toNat)]] = ⟨[(M : Int), K], 0, mulL (colsR ⟨[(N : Int), M], 0, matL g ((N : Int) * M).toNat⟩) (colsR ⟨[(N : Int), K], 0, matL x ((N : Int) * K).toNat⟩) M K N⟩ :=
  wgt_pair (n := (N : Int)) (k := (K : Int)) (m := (M : Int)) (e1 := 0) (e2 := 0) (by have := h.n; omega) (by have := h.k; omega) (by have := h.m; omega) (smulN h.n h.m (by decide)).2.2.2 (smulN h.n h.k (by decide)).2.2.2 (smulN h.m h.k (by decide)).2.2.2 (by decide) (by decide) (matN_len _ _ _) (matN_len _ _ _) (matL_no _ _) (matL_no _ _)
theorem wgt_one {N K M : Nat} (h : Small3 N K M) (g x : List Int) : t2 wtErr 0 [.st [.l [1, (M : Int)], .z 0, .l (matL g (1 * (M : Int)).toNat)], .st [.l [1, (K : Int)], .z 0, .l (matL x (1 * (K : Int)).toNat)]] = 0 ∧ rU (t2 wtErr 0) (t2 wtRes ⟨[], 0, []⟩) [.st [.l [1, (M : Int)], .z 0, .l (matL g (1 * (M : Int)).toNat)], .st [.l [1, (K : Int)], .z 0, .l (matL x (1 * (K : Int)).toNat)]] = ⟨[(M : Int), K], 0, mulL (colsR ⟨[1, (M : Int)], 0, matL g (1 * (M : Int)).toNat⟩) (colsR ⟨[1, (K : Int)], 0, matL x (1 * (K : Int)).toNat⟩) M K 1⟩ :=
  wgt_mat (N := 1) (Small3.mk (by decide) h.k h.m) g x
theorem bias_mat {N K M : Nat} (h : Small3 N K M) (g : List Int) : t1 bsErr 0 [.st [.l [(N : Int), M], .z 0, .l (matL g ((N : Int) * M).toNat)]] = 0 ∧ rU (t1 bsErr 0) (t1 bsRes ⟨[], 0, []⟩) [.st [.l [(N : Int), M], .z 0, .l (matL g ((N : Int) * M).toNat)]] = ⟨[(M : Int)], 0, bsL (matL g ((N : Int) * M).toNat) M (N * M)⟩ := by
  have h1 := bias_pair (n := (N : Int)) (m := (M : Int)) (e1 := 0) (A := matL g ((N : Int) * M).toNat) (by have := h.n; omega) (by have := h.m; omega) (smulN h.n h.m (by decide)).2.2.2 (by decide) (matN_len _ _ _) (matL_no _ _)
  rw [show (matL g ((N : Int) * M).toNat).length = N * M from by rw [matL_len]; rfl] at h1
  exact h1
theorem nm_nat (N M : Nat) : ((N : Int) * M).toNat = N * M := rfl
theorem one_nat (M : Nat) : (1 * (M : Int)).toNat = M := by rw [Int.one_mul]; rfl
theorem row_nat (i M : Nat) : (((i : Int) + 1) * M - (i : Int) * M).toNat = M := by rw [Int.add_mul, Int.one_mul]; omega
theorem row_get (g : List Int) {P M i t : Nat} (h : i * M + M ≤ P) (ht : t < M) : (matL (((matL g P).drop (i * M)).take M) M).getD t 0 = (matL g P).getD (i * M + t) 0 := by
  have e : (((matL g P).drop (i * M)).take M).getD t 0 = (matL g P).getD (i * M + t) 0 := by
    rw [List.getD_eq_getElem?_getD, List.getElem?_take_of_lt ht, List.getElem?_drop, ← List.getD_eq_getElem?_getD]
  rw [matL_get _ ht, e]
  by_cases h2 : (matL g P).getD (i * M + t) 0 = -128
  · exfalso
    have h3 : -128 ∈ matL g P := by
      rw [← h2, List.getD_eq_getElem?_getD, List.getElem?_eq_getElem (by rw [matL_len]; omega)]
      exact List.getElem_mem _
    have h4 := matL_no g P
    rw [List.contains_eq_mem, decide_eq_false_iff_not] at h4
    exact h4 h3
  · rw [if_pos ⟨by simp [matL_len]; omega, h2⟩]
theorem idx_in {i N t M : Nat} (hi : i < N) (ht : t < M) : i * M + t < N * M := idx_lt hi ht
theorem row_in {i N M : Nat} (hi : i < N) : i * M + M ≤ N * M := by
  have := Nat.mul_le_mul_right M (show i + 1 ≤ N from hi)
  rw [Nat.succ_mul] at this
  exact this
/-- One example more. -/
theorem dt_more {g x : List Int} {N K M i j : Nat} (hi : i < N) (hj : j < M * K) : (mulL (colsR ⟨[1, (M : Int)], 0, matL (((matL g (N * M)).drop (i * M)).take M) M⟩) (colsR ⟨[1, (K : Int)], 0, matL (((matL x (N * K)).drop (i * K)).take K) K⟩) M K 1).getD j 0 + dt (colsR ⟨[(N : Int), M], 0, matL g (N * M)⟩) (colsR ⟨[(N : Int), K], 0, matL x (N * K)⟩) K j i = dt (colsR ⟨[(N : Int), M], 0, matL g (N * M)⟩) (colsR ⟨[(N : Int), K], 0, matL x (N * K)⟩) K j (i + 1) := by
  have hK : 0 < K := by
    rcases Nat.eq_zero_or_pos K with h | h
    · subst h; omega
    · exact h
  have h1 : j / K < M := Nat.div_lt_of_lt_mul (by rw [Nat.mul_comm]; exact hj)
  have h2 : j % K < K := Nat.mod_lt j hK
  unfold mulL
  rw [getD_map hj]
  unfold dt
  rw [sumTo, sumTo, sumTo, Int.zero_add, Int.add_comm]
  congr 1
  rw [show (0 : Int) + ((0 : Nat) : Int) = 0 + ((0 : Nat) : Int) from rfl, prI_nat _ _ (j / K) (j % K) 0 1 1 M K rfl rfl rfl rfl, prI_nat _ _ (j / K) (j % K) i 1 1 M K rfl rfl rfl rfl]
  simp only [colsR, Nat.mul_one, Nat.zero_mul, Nat.add_zero]
  rw [row_get g (row_in hi) h1, row_get x (row_in hi) h2, Nat.add_comm (j / K), Nat.add_comm (j % K)]
theorem bsum_skip (L : List Int) {M o : Nat} (ho : o < M) (i : Nat) : ∀ t, t ≤ M → bsum L M o (i * M + t) = bsum L M o (i * M) + if o < t then L.getD (i * M + o) 0 else 0
  | 0, _ => by simp
  | t + 1, ht => by
    rw [← Nat.add_assoc, bsum, bsum_skip L ho i t (by omega)]
    have e : (i * M + t) % M = t := by rw [Nat.mul_comm, Nat.mul_add_mod, Nat.mod_eq_of_lt (by omega)]
    rw [e]
    by_cases h1 : t = o
    · subst h1
      rw [if_pos rfl, if_neg (Nat.lt_irrefl _), if_pos (Nat.lt_succ_self _), Int.add_zero]
    · rw [if_neg h1, Int.add_zero]
      by_cases h2 : o < t
      · rw [if_pos h2, if_pos (by omega)]
      · rw [if_neg h2, if_neg (by omega)]
theorem bsum_row (L : List Int) {M o : Nat} (ho : o < M) (i : Nat) : bsum L M o ((i + 1) * M) = bsum L M o (i * M) + L.getD (i * M + o) 0 := by
  rw [Nat.succ_mul, bsum_skip L ho i M (Nat.le_refl _), if_pos ho]
theorem dt_all (a b : Ln) (K P : Nat) : (List.range P).map (fun j => dt a b K j 0) = List.replicate P 0 := by
  have h : (List.range P).map (fun j => dt a b K j 0) = (List.range P).map fun _ => (0 : Int) := List.map_congr_left fun j _ => rfl
  rw [h, List.map_const', List.length_range]
theorem mulL_range (a b : Ln) (n m q : Nat) : mulL a b n m q = (List.range (n * m)).map fun j => dt a b m j q := rfl
theorem nmo_nat (i M o : Nat) : ((i : Int) * M + o).toNat = i * M + o := rfl
theorem mulL_len (a b : Ln) (n m q : Nat) : (mulL a b n m q).length = n * m := by simp [mulL]
theorem rowI {i N : Nat} (hi : i < N) (M : Nat) : 0 ≤ (i : Int) * M ∧ ((i : Int) + 1) * M = (i : Int) * M + M ∧ (i : Int) * M + M ≤ (N : Int) * M := by
  refine ⟨Int.mul_nonneg (by omega) (by omega), by rw [Int.add_mul, Int.one_mul], ?_⟩
  have := row_in (M := M) hi
  rw [← Int.natCast_mul, ← Int.natCast_mul]
  omega
theorem bsum_bd {g : List Int} {N M : Nat} (hg : Fits .i8 g) (o n : Nat) (hn : n ≤ 8192) : -2000000 ≤ bsum (matL g (N * M)) M o n ∧ bsum (matL g (N * M)) M o n ≤ 2000000 := by
  have := bsum_in (matL_in g hg (N * M)) M o n
  omega
theorem dt_bd {g x : List Int} {N M K : Nat} (hg : Fits .i8 g) (hx : Fits .i8 x) (j n : Nat) (hn : n ≤ 959) : -15712256 ≤ dt (colsR ⟨[(N : Int), M], 0, matL g (N * M)⟩) (colsR ⟨[(N : Int), K], 0, matL x (N * K)⟩) K j n ∧ dt (colsR ⟨[(N : Int), M], 0, matL g (N * M)⟩) (colsR ⟨[(N : Int), K], 0, matL x (N * K)⟩) K j n ≤ 15712256 :=
  dt_in (matL_in g hg _) (matL_in x hx _) K j n hn
theorem sums10_ok : CtrOk Try.prog 12 (boolC [.sl (.int .i8), .sl (.int .i8), .int .i64, .int .i64, .int .i64] yes) := by
  obtain ⟨G, hG⟩ : ∃ G : List (FuncId × Ctr), G = [(28, resU [tnTy .i8, tnTy .i8] .i32 3 21 (t2 wtErr 0) (rU (t2 wtErr 0) (t2 wtRes ⟨[], 0, []⟩))), (30, resU [tnTy .i8] .i32 3 21 (t1 bsErr 0) (rU (t1 bsErr 0) (t1 bsRes ⟨[], 0, []⟩))), (35, tnP [.sl (.int .i8), .int .i64, .int .i64] .i8 3 38 matP matR), (23, boolC [] yes)] := ⟨_, rfl⟩
  refine fn_ok (ck := true) Try.func12 rfl tt_ok (G := G) (by rw [hG]; exact ⟨⟨wgtU_ok, by unfold FnOk; kernel_rfl⟩, ⟨biasU_ok, by unfold FnOk; kernel_rfl⟩, ⟨matrix_ok, by unfold FnOk; kernel_rfl⟩, ⟨awake10_ok, by unfold FnOk; kernel_rfl⟩, trivial⟩) mixed (by kernel_rfl) ?_
  intro xa xs h hx hp
  obtain ⟨a0, as0, x0, xs0, rfl, rfl, h0, H1⟩ := svArgs_cons h
  obtain ⟨a1, as1, x1, xs1, rfl, rfl, h1, H2⟩ := svArgs_cons H1
  obtain ⟨a2, as2, x2, xs2, rfl, rfl, h2, H3⟩ := svArgs_cons H2
  obtain ⟨a3, as3, x3, xs3, rfl, rfl, h3, H4⟩ := svArgs_cons H3
  obtain ⟨a4, as4, x4, xs4, rfl, rfl, h4, H5⟩ := svArgs_cons H4
  obtain ⟨rfl, rfl⟩ := svArgs_nil H5
  obtain ⟨x, rfl, rfl⟩ := argSV_ints h0
  obtain ⟨g, rfl, rfl⟩ := argSV_ints h1
  obtain ⟨n, rfl, rfl⟩ := argSV_int h2
  obtain ⟨k, rfl, rfl⟩ := argSV_int h3
  obtain ⟨m, rfl, rfl⟩ := argSV_int h4
  have sx : Fits .i8 x ∧ ci x.length ≤ 9223372036854775807 := svf_ints (hx (.iimm .i8 x) (by simp))
  have sg : Fits .i8 g ∧ ci g.length ≤ 9223372036854775807 := svf_ints (hx (.iimm .i8 g) (by simp))
  have sn := of_i64 (hx (.v (.int .i64 n)) (by simp))
  have sk := of_i64 (hx (.v (.int .i64 k)) (by simp))
  have sm := of_i64 (hx (.v (.int .i64 m)) (by simp))
  have SX := Lib.hid sx
  clear sx
  have SG := Lib.hid sg
  clear sg
  have SN := Lib.hid sn
  clear sn
  have SK := Lib.hid sk
  clear sk
  have SM := Lib.hid sm
  clear sm
  clear hx hp h h0 H1 h1 H2 h2 H3 h3 H4 h4 H5
  generalize hA : std = A
  subst hG
  generalize h_c : ci = c
  generalize h_fR : rU (t2 wtErr 0) (t2 wtRes ⟨[], 0, []⟩) = fR
  generalize h_fE : t2 wtErr 0 = fE
  generalize h_fI : rU (t1 bsErr 0) (t1 bsRes ⟨[], 0, []⟩) = fI
  generalize h_fJ : t1 bsErr 0 = fJ
  generalize h_fM : matR = fM
  generalize h_pM : matP = pM
  generalize h_fY : yes = fY
  (obtain ⟨N, hN, b1⟩ := modN n 4 4 (by decide) (by decide) rfl; obtain ⟨K, hK, b2⟩ := modN k 12 12 (by decide) (by decide) rfl; obtain ⟨M, hM, b3⟩ := modN m 8 8 (by decide) (by decide) rfl; have HS := Lib.hid (Small3.mk b1 b2 b3); clear b1 b2 b3; have HNKM := Lib.hid (And.intro hN (And.intro hK hM)); clear hN hK hM)
  obtain ⟨S, hS⟩ : ∃ S : Nat → Nat → List Int, ∀ i j, S i j = mixL (fun j => dt (colsR ⟨[(N : Int), M], 0, matL g (N * M)⟩) (colsR ⟨[(N : Int), K], 0, matL x (N * K)⟩) K j i) (fun j => dt (colsR ⟨[(N : Int), M], 0, matL g (N * M)⟩) (colsR ⟨[(N : Int), K], 0, matL x (N * K)⟩) K j (i + 1)) (M * K) j := ⟨_, fun _ _ => rfl⟩
  obtain ⟨B, hB⟩ : ∃ S : Nat → Nat → List Int, ∀ i j, S i j = mixL (fun o => bsum (matL g (N * M)) M o (i * M)) (fun o => bsum (matL g (N * M)) M o ((i + 1) * M)) M j := ⟨_, fun _ _ => rfl⟩
  have HSS := Lib.hid hS
  have HBB := Lib.hid hB
  clear hS hB
  cbv
  (repeat' (first | apply And.intro | apply BrB.mk | apply BrP.mk | intro _))
  all_goals try (refine loop_at Nat 90 (fun j => [(10, .any), (19, .any), (20, .any), (21, .any), (22, .any), (23, .any), (24, .any), (90, .v (.int .i64 (c j)))]) (fun i o => (o.set 12 (.irow 21 .i32 (S i 0))).set 13 (.irow 21 .i32 (B i 0))) (fun j => j ≤ N) (fun j => N - j) 0 ?h0 ?hle ?round)
  case h0 => exact Nat.zero_le _
  case hle =>
    cbv
    (repeat' (first | apply And.intro | apply BrB.mk | apply BrP.mk | intro _))
    (all_goals (subst hA; subst h_c; subst h_fR; subst h_fE; subst h_fI; subst h_fJ; subst h_fM; subst h_pM; subst h_fY); all_goals (have f_sx := SX.out; have f_sg := SG.out; have f_sn := SN.out; have f_sk := SK.out; have f_sm := SM.out); all_goals (obtain ⟨hN, hK, hM⟩ := HNKM.out; have hS := HS.out; have bN := hS.n; have bK := hS.k; have bM := hS.m; have hn := modU n 4 (by decide) (by decide); have hk := modU k 12 (by decide) (by decide); have hm := modU m 8 (by decide) (by decide); have pNK := smulN bN bK (by decide); have pNM := smulN bN bM (by decide); have pMK := smulN bM bK (by decide); obtain ⟨F1, R1⟩ := wgt_mat hS g x; obtain ⟨F2, R2⟩ := bias_mat hS g; simp only [std, stdBin, stdCmp, stdUna, stdIn, ci, beq_iff_eq, bne_iff_ne, beq_eq_false_iff_ne, bne_eq_false_iff_eq, decide_eq_true_eq, decide_eq_false_iff_not, Bool.not_true, Bool.not_false, Bool.not_eq_true', Bool.not_eq_false', Bool.not_not, tn0, tn1, tn2, tn3, matR, vecR, matP, vecP] at *; (try simp only [hN, hK, hM, Int.toNat_natCast, nm_nat, one_nat, row_nat] at *); (try simp only [F1, R1, F2, R2, mulL_len, bsL_len] at *)))
    all_goals first | exact True.intro | rfl | skip
    · rw [HSS.out, mixL_none, dt_all]
    · rw [HBB.out, mixL_none, Nat.zero_mul]
      have h : (List.range M).map (fun o => bsum (matL g (N * M)) M o 0) = (List.range M).map fun _ => (0 : Int) := List.map_congr_left fun j _ => rfl
      rw [h, List.map_const', List.length_range]
  case round =>
    intro i hi
    cbv
    refine BrB.mk (fun gx => ?yx) (fun gx => ?nx)
    case yx =>
      (repeat' (first | apply And.intro | apply BrB.mk | apply BrP.mk | intro _))
      all_goals try (refine loop_at Nat 135 (fun j => [(22, .any), (23, .any), (135, .v (.int .i64 (c j)))]) (fun j o => o.set 12 (.irow 21 .i32 (S i j))) (fun j => j ≤ M * K) (fun j => M * K - j) 0 ?h0 ?hle ?round)
      case h0 => exact Nat.zero_le _
      case hle => (cbv; (repeat' (first | apply And.intro | apply BrB.mk | apply BrP.mk | intro _)); all_goals (subst hA; subst h_c; subst h_fR; subst h_fE; subst h_fI; subst h_fJ; subst h_fM; subst h_pM; subst h_fY); all_goals (have f_sx := SX.out; have f_sg := SG.out; have f_sn := SN.out; have f_sk := SK.out; have f_sm := SM.out); all_goals (try simp only [std, stdBin, stdCmp, stdUna, stdIn, ci, beq_iff_eq, bne_iff_ne, beq_eq_false_iff_ne, bne_eq_false_iff_eq, decide_eq_true_eq, decide_eq_false_iff_not, Bool.not_true, Bool.not_false, Bool.not_eq_true', Bool.not_eq_false', Bool.not_not, tn0, tn1, tn2, tn3] at *); (all_goals first | exact True.intro | rfl | exact congrArg (Value.int .i64) (by omega)))
      case round =>
        intro j hj
        cbv
        refine BrB.mk (fun gy => ?yy) (fun gy => ?ny)
        case yy =>
          (repeat' (first | apply And.intro | apply BrB.mk | apply BrP.mk | intro _))
          all_goals try (refine ⟨j + 1, ?jI, ?jL, ?jM⟩)
          case jL =>
            cbv
            (repeat' (first | apply And.intro | apply BrB.mk | apply BrP.mk | intro _))
            (all_goals (subst hA; subst h_c; subst h_fR; subst h_fE; subst h_fI; subst h_fJ; subst h_fM; subst h_pM; subst h_fY); all_goals (have f_sx := SX.out; have f_sg := SG.out; have f_sn := SN.out; have f_sk := SK.out; have f_sm := SM.out); all_goals (obtain ⟨hN, hK, hM⟩ := HNKM.out; have hS := HS.out; have bN := hS.n; have bK := hS.k; have bM := hS.m; have hn := modU n 4 (by decide) (by decide); have hk := modU k 12 (by decide) (by decide); have hm := modU m 8 (by decide) (by decide); have pNK := smulN bN bK (by decide); have pNM := smulN bN bM (by decide); have pMK := smulN bM bK (by decide); obtain ⟨F1, R1⟩ := wgt_mat hS g x; obtain ⟨F2, R2⟩ := bias_mat hS g; simp only [std, stdBin, stdCmp, stdUna, stdIn, ci, beq_iff_eq, bne_iff_ne, beq_eq_false_iff_ne, bne_eq_false_iff_eq, decide_eq_true_eq, decide_eq_false_iff_not, Bool.not_true, Bool.not_false, Bool.not_eq_true', Bool.not_eq_false', Bool.not_not, tn0, tn1, tn2, tn3, matR, vecR, matP, vecP] at *; (try simp only [hN, hK, hM, Int.toNat_natCast, nm_nat, one_nat, row_nat] at *); (try simp only [F1, R1, F2, R2, mulL_len, bsL_len] at *)))
            (all_goals (have hiN : i < N := (by omega); have q1 := rowI hiN M; have q2 := rowI hiN K; obtain ⟨F3, R3⟩ := wgt_one hS (((matL g (N * M)).drop (i * M)).take M) (((matL x (N * K)).drop (i * K)).take K); (try simp only [one_nat] at F3 R3); (try simp only [F3, R3, mulL_len, q1.2.1, q2.2.1, Int.natCast_mul, matL_len] at *)))
            all_goals first | exact True.intro | rfl | skip
            rw [HSS.out, HSS.out]
            refine mixL_store (by omega) ?_
            rw [mixL_get _ _ (by omega), if_neg (Nat.lt_irrefl _), Int.add_comm]
            exact dt_more hiN (by omega)
          (all_goals (subst hA; subst h_c; subst h_fR; subst h_fE; subst h_fI; subst h_fJ; subst h_fM; subst h_pM; subst h_fY); all_goals (have f_sx := SX.out; have f_sg := SG.out; have f_sn := SN.out; have f_sk := SK.out; have f_sm := SM.out); all_goals (obtain ⟨hN, hK, hM⟩ := HNKM.out; have hS := HS.out; have bN := hS.n; have bK := hS.k; have bM := hS.m; have hn := modU n 4 (by decide) (by decide); have hk := modU k 12 (by decide) (by decide); have hm := modU m 8 (by decide) (by decide); have pNK := smulN bN bK (by decide); have pNM := smulN bN bM (by decide); have pMK := smulN bM bK (by decide); obtain ⟨F1, R1⟩ := wgt_mat hS g x; obtain ⟨F2, R2⟩ := bias_mat hS g; simp only [std, stdBin, stdCmp, stdUna, stdIn, ci, beq_iff_eq, bne_iff_ne, beq_eq_false_iff_ne, bne_eq_false_iff_eq, decide_eq_true_eq, decide_eq_false_iff_not, Bool.not_true, Bool.not_false, Bool.not_eq_true', Bool.not_eq_false', Bool.not_not, tn0, tn1, tn2, tn3, matR, vecR, matP, vecP] at *; (try simp only [hN, hK, hM, Int.toNat_natCast, nm_nat, one_nat, row_nat] at *); (try simp only [F1, R1, F2, R2, mulL_len, bsL_len] at *)))
          (all_goals (have hiN : i < N := (by omega); have q1 := rowI hiN M; have q2 := rowI hiN K; obtain ⟨F3, R3⟩ := wgt_one hS (((matL g (N * M)).drop (i * M)).take M) (((matL x (N * K)).drop (i * K)).take K); (try simp only [one_nat] at F3 R3); (try simp only [F3, R3, mulL_len, q1.2.1, q2.2.1, Int.natCast_mul, matL_len] at *)))
          all_goals (have lS : (S i j).length = M * K := (by rw [HSS.out, mixL_len]); try simp only [lS])
          all_goals (try omega)
          all_goals (have eD := dt_more (g := g) (x := x) hiN (show j < M * K by omega); have bD := dt_bd (N := N) (M := M) (K := K) f_sg.1 f_sx.1 j (i + 1) (by omega); have eS : (S i j).getD j 0 = dt (colsR ⟨[(N : Int), M], 0, matL g (N * M)⟩) (colsR ⟨[(N : Int), K], 0, matL x (N * K)⟩) K j i := (by rw [HSS.out, mixL_get _ _ (by omega), if_neg (Nat.lt_irrefl _)]); rw [eS]; omega)
        case ny =>
          refine loop_at Nat 149 (fun j => [(24, .any), (149, .v (.int .i64 (c j)))]) (fun j o => o.set 13 (.irow 21 .i32 (B i j))) (fun j => j ≤ M) (fun j => M - j) 0 ?h0 ?hle ?round
          case h0 => exact Nat.zero_le _
          case hle => (cbv; (repeat' (first | apply And.intro | apply BrB.mk | apply BrP.mk | intro _)); all_goals (subst hA; subst h_c; subst h_fR; subst h_fE; subst h_fI; subst h_fJ; subst h_fM; subst h_pM; subst h_fY); all_goals (have f_sx := SX.out; have f_sg := SG.out; have f_sn := SN.out; have f_sk := SK.out; have f_sm := SM.out); all_goals (try simp only [std, stdBin, stdCmp, stdUna, stdIn, ci, beq_iff_eq, bne_iff_ne, beq_eq_false_iff_ne, bne_eq_false_iff_eq, decide_eq_true_eq, decide_eq_false_iff_not, Bool.not_true, Bool.not_false, Bool.not_eq_true', Bool.not_eq_false', Bool.not_not, tn0, tn1, tn2, tn3] at *); (all_goals first | exact True.intro | rfl | exact congrArg (Value.int .i64) (by omega)))
          case round =>
            intro o ho
            cbv
            refine BrB.mk (fun gz => ?yz) (fun gz => ?nz)
            case yz =>
              (repeat' (first | apply And.intro | apply BrB.mk | apply BrP.mk | intro _))
              all_goals try (refine ⟨o + 1, ?oI, ?oL, ?oM⟩)
              case oL =>
                cbv
                (repeat' (first | apply And.intro | apply BrB.mk | apply BrP.mk | intro _))
                (all_goals (subst hA; subst h_c; subst h_fR; subst h_fE; subst h_fI; subst h_fJ; subst h_fM; subst h_pM; subst h_fY); all_goals (have f_sx := SX.out; have f_sg := SG.out; have f_sn := SN.out; have f_sk := SK.out; have f_sm := SM.out); all_goals (obtain ⟨hN, hK, hM⟩ := HNKM.out; have hS := HS.out; have bN := hS.n; have bK := hS.k; have bM := hS.m; have hn := modU n 4 (by decide) (by decide); have hk := modU k 12 (by decide) (by decide); have hm := modU m 8 (by decide) (by decide); have pNK := smulN bN bK (by decide); have pNM := smulN bN bM (by decide); have pMK := smulN bM bK (by decide); obtain ⟨F1, R1⟩ := wgt_mat hS g x; obtain ⟨F2, R2⟩ := bias_mat hS g; simp only [std, stdBin, stdCmp, stdUna, stdIn, ci, beq_iff_eq, bne_iff_ne, beq_eq_false_iff_ne, bne_eq_false_iff_eq, decide_eq_true_eq, decide_eq_false_iff_not, Bool.not_true, Bool.not_false, Bool.not_eq_true', Bool.not_eq_false', Bool.not_not, tn0, tn1, tn2, tn3, matR, vecR, matP, vecP] at *; (try simp only [hN, hK, hM, Int.toNat_natCast, nm_nat, one_nat, row_nat] at *); (try simp only [F1, R1, F2, R2, mulL_len, bsL_len] at *)))
                (all_goals (have hiN : i < N := (by omega); have q1 := rowI hiN M; have q2 := rowI hiN K; obtain ⟨F3, R3⟩ := wgt_one hS (((matL g (N * M)).drop (i * M)).take M) (((matL x (N * K)).drop (i * K)).take K); (try simp only [one_nat] at F3 R3); (try simp only [F3, R3, mulL_len, q1.2.1, q2.2.1, Int.natCast_mul, matL_len] at *)))
                all_goals first | exact True.intro | rfl | skip
                rw [HBB.out, HBB.out, nmo_nat]
                refine mixL_store (by omega) ?_
                rw [mixL_get _ _ (by omega), if_neg (Nat.lt_irrefl _)]
                exact (bsum_row _ (by omega) i).symm
              (all_goals (subst hA; subst h_c; subst h_fR; subst h_fE; subst h_fI; subst h_fJ; subst h_fM; subst h_pM; subst h_fY); all_goals (have f_sx := SX.out; have f_sg := SG.out; have f_sn := SN.out; have f_sk := SK.out; have f_sm := SM.out); all_goals (obtain ⟨hN, hK, hM⟩ := HNKM.out; have hS := HS.out; have bN := hS.n; have bK := hS.k; have bM := hS.m; have hn := modU n 4 (by decide) (by decide); have hk := modU k 12 (by decide) (by decide); have hm := modU m 8 (by decide) (by decide); have pNK := smulN bN bK (by decide); have pNM := smulN bN bM (by decide); have pMK := smulN bM bK (by decide); obtain ⟨F1, R1⟩ := wgt_mat hS g x; obtain ⟨F2, R2⟩ := bias_mat hS g; simp only [std, stdBin, stdCmp, stdUna, stdIn, ci, beq_iff_eq, bne_iff_ne, beq_eq_false_iff_ne, bne_eq_false_iff_eq, decide_eq_true_eq, decide_eq_false_iff_not, Bool.not_true, Bool.not_false, Bool.not_eq_true', Bool.not_eq_false', Bool.not_not, tn0, tn1, tn2, tn3, matR, vecR, matP, vecP] at *; (try simp only [hN, hK, hM, Int.toNat_natCast, nm_nat, one_nat, row_nat] at *); (try simp only [F1, R1, F2, R2, mulL_len, bsL_len] at *)))
              (all_goals (have hiN : i < N := (by omega); have q1 := rowI hiN M; have q2 := rowI hiN K; obtain ⟨F3, R3⟩ := wgt_one hS (((matL g (N * M)).drop (i * M)).take M) (((matL x (N * K)).drop (i * K)).take K); (try simp only [one_nat] at F3 R3); (try simp only [F3, R3, mulL_len, q1.2.1, q2.2.1, Int.natCast_mul, matL_len] at *)))
              all_goals (have lS : (B i o).length = M := (by rw [HBB.out, mixL_len]); try simp only [lS])
              all_goals (try omega)
              all_goals (have eD := bsum_row (matL g (N * M)) (show o < M by omega) i; have bD := bsum_bd (N := N) (M := M) f_sg.1 o ((i + 1) * M) (Nat.le_trans (Nat.mul_le_mul_right M (show i + 1 ≤ N by omega)) pNM.2.1); have eS : (B i o).getD o 0 = bsum (matL g (N * M)) M o (i * M) := (by rw [HBB.out, mixL_get _ _ (by omega), if_neg (Nat.lt_irrefl _)]); rw [eS, nmo_nat]; omega)
            case nz =>
              (repeat' (first | apply And.intro | apply BrB.mk | apply BrP.mk | intro _))
              all_goals try (refine ⟨i + 1, ?iI, ?iL, ?iM⟩)
              case iL =>
                cbv
                (repeat' (first | apply And.intro | apply BrB.mk | apply BrP.mk | intro _))
                (all_goals (subst hA; subst h_c; subst h_fR; subst h_fE; subst h_fI; subst h_fJ; subst h_fM; subst h_pM; subst h_fY); all_goals (have f_sx := SX.out; have f_sg := SG.out; have f_sn := SN.out; have f_sk := SK.out; have f_sm := SM.out); all_goals (obtain ⟨hN, hK, hM⟩ := HNKM.out; have hS := HS.out; have bN := hS.n; have bK := hS.k; have bM := hS.m; have hn := modU n 4 (by decide) (by decide); have hk := modU k 12 (by decide) (by decide); have hm := modU m 8 (by decide) (by decide); have pNK := smulN bN bK (by decide); have pNM := smulN bN bM (by decide); have pMK := smulN bM bK (by decide); obtain ⟨F1, R1⟩ := wgt_mat hS g x; obtain ⟨F2, R2⟩ := bias_mat hS g; simp only [std, stdBin, stdCmp, stdUna, stdIn, ci, beq_iff_eq, bne_iff_ne, beq_eq_false_iff_ne, bne_eq_false_iff_eq, decide_eq_true_eq, decide_eq_false_iff_not, Bool.not_true, Bool.not_false, Bool.not_eq_true', Bool.not_eq_false', Bool.not_not, tn0, tn1, tn2, tn3, matR, vecR, matP, vecP] at *; (try simp only [hN, hK, hM, Int.toNat_natCast, nm_nat, one_nat, row_nat] at *); (try simp only [F1, R1, F2, R2, mulL_len, bsL_len] at *)))
                (all_goals (have hiN : i < N := (by omega); have q1 := rowI hiN M; have q2 := rowI hiN K; obtain ⟨F3, R3⟩ := wgt_one hS (((matL g (N * M)).drop (i * M)).take M) (((matL x (N * K)).drop (i * K)).take K); (try simp only [one_nat] at F3 R3); (try simp only [F3, R3, mulL_len, q1.2.1, q2.2.1, Int.natCast_mul, matL_len] at *)))
                all_goals first | exact True.intro | rfl | skip
                · rw [HSS.out, HSS.out, show j = M * K by omega, mixL_all, mixL_none]
                · rw [HBB.out, HBB.out, show o = M by omega, mixL_all, mixL_none]
              (all_goals (subst hA; subst h_c; subst h_fR; subst h_fE; subst h_fI; subst h_fJ; subst h_fM; subst h_pM; subst h_fY); all_goals (have f_sx := SX.out; have f_sg := SG.out; have f_sn := SN.out; have f_sk := SK.out; have f_sm := SM.out); all_goals (obtain ⟨hN, hK, hM⟩ := HNKM.out; have hS := HS.out; have bN := hS.n; have bK := hS.k; have bM := hS.m; have hn := modU n 4 (by decide) (by decide); have hk := modU k 12 (by decide) (by decide); have hm := modU m 8 (by decide) (by decide); have pNK := smulN bN bK (by decide); have pNM := smulN bN bM (by decide); have pMK := smulN bM bK (by decide); obtain ⟨F1, R1⟩ := wgt_mat hS g x; obtain ⟨F2, R2⟩ := bias_mat hS g; simp only [std, stdBin, stdCmp, stdUna, stdIn, ci, beq_iff_eq, bne_iff_ne, beq_eq_false_iff_ne, bne_eq_false_iff_eq, decide_eq_true_eq, decide_eq_false_iff_not, Bool.not_true, Bool.not_false, Bool.not_eq_true', Bool.not_eq_false', Bool.not_not, tn0, tn1, tn2, tn3, matR, vecR, matP, vecP] at *; (try simp only [hN, hK, hM, Int.toNat_natCast, nm_nat, one_nat, row_nat] at *); (try simp only [F1, R1, F2, R2, mulL_len, bsL_len] at *)))
              all_goals (try omega)
      (all_goals (subst hA; subst h_c; subst h_fR; subst h_fE; subst h_fI; subst h_fJ; subst h_fM; subst h_pM; subst h_fY); all_goals (have f_sx := SX.out; have f_sg := SG.out; have f_sn := SN.out; have f_sk := SK.out; have f_sm := SM.out); all_goals (obtain ⟨hN, hK, hM⟩ := HNKM.out; have hS := HS.out; have bN := hS.n; have bK := hS.k; have bM := hS.m; have hn := modU n 4 (by decide) (by decide); have hk := modU k 12 (by decide) (by decide); have hm := modU m 8 (by decide) (by decide); have pNK := smulN bN bK (by decide); have pNM := smulN bN bM (by decide); have pMK := smulN bM bK (by decide); obtain ⟨F1, R1⟩ := wgt_mat hS g x; obtain ⟨F2, R2⟩ := bias_mat hS g; simp only [std, stdBin, stdCmp, stdUna, stdIn, ci, beq_iff_eq, bne_iff_ne, beq_eq_false_iff_ne, bne_eq_false_iff_eq, decide_eq_true_eq, decide_eq_false_iff_not, Bool.not_true, Bool.not_false, Bool.not_eq_true', Bool.not_eq_false', Bool.not_not, tn0, tn1, tn2, tn3, matR, vecR, matP, vecP] at *; (try simp only [hN, hK, hM, Int.toNat_natCast, nm_nat, one_nat, row_nat] at *); (try simp only [F1, R1, F2, R2, mulL_len, bsL_len] at *)))
      (all_goals (have hiN : i < N := (by omega); have q1 := rowI hiN M; have q2 := rowI hiN K; obtain ⟨F3, R3⟩ := wgt_one hS (((matL g (N * M)).drop (i * M)).take M) (((matL x (N * K)).drop (i * K)).take K); (try simp only [one_nat] at F3 R3); (try simp only [F3, R3, mulL_len, q1.2.1, q2.2.1, Int.natCast_mul, matL_len] at *)))
      all_goals (try first | omega | contradiction)
    case nx =>
      refine loop_at Nat 172 (fun j => [(10, .any), (25, .any), (172, .v (.int .i64 (c j)))]) (fun j o => o) (fun j => j ≤ M * K) (fun j => M * K - j) 0 ?h0 ?hle ?round
      case h0 => exact Nat.zero_le _
      case hle => (cbv; (repeat' (first | apply And.intro | apply BrB.mk | apply BrP.mk | intro _)); all_goals (subst hA; subst h_c; subst h_fR; subst h_fE; subst h_fI; subst h_fJ; subst h_fM; subst h_pM; subst h_fY); all_goals (have f_sx := SX.out; have f_sg := SG.out; have f_sn := SN.out; have f_sk := SK.out; have f_sm := SM.out); all_goals (try simp only [std, stdBin, stdCmp, stdUna, stdIn, ci, beq_iff_eq, bne_iff_ne, beq_eq_false_iff_ne, bne_eq_false_iff_eq, decide_eq_true_eq, decide_eq_false_iff_not, Bool.not_true, Bool.not_false, Bool.not_eq_true', Bool.not_eq_false', Bool.not_not, tn0, tn1, tn2, tn3] at *); (all_goals first | exact True.intro | rfl | exact congrArg (Value.int .i64) (by omega)))
      case round =>
        intro j hj
        cbv
        refine BrB.mk (fun gy => ?yy) (fun gy => ?ny)
        case yy =>
          (repeat' (first | apply And.intro | apply BrB.mk | apply BrP.mk | intro _))
          all_goals try (refine ⟨j + 1, ?_, ?_, ?_⟩)
          all_goals try (show AS.le _ _; (cbv; (repeat' (first | apply And.intro | apply BrB.mk | apply BrP.mk | intro _)); all_goals (subst hA; subst h_c; subst h_fR; subst h_fE; subst h_fI; subst h_fJ; subst h_fM; subst h_pM; subst h_fY); all_goals (have f_sx := SX.out; have f_sg := SG.out; have f_sn := SN.out; have f_sk := SK.out; have f_sm := SM.out); all_goals (try simp only [std, stdBin, stdCmp, stdUna, stdIn, ci, beq_iff_eq, bne_iff_ne, beq_eq_false_iff_ne, bne_eq_false_iff_eq, decide_eq_true_eq, decide_eq_false_iff_not, Bool.not_true, Bool.not_false, Bool.not_eq_true', Bool.not_eq_false', Bool.not_not, tn0, tn1, tn2, tn3] at *); (all_goals first | exact True.intro | rfl | exact congrArg (Value.int .i64) (by omega))))
          (all_goals (subst hA; subst h_c; subst h_fR; subst h_fE; subst h_fI; subst h_fJ; subst h_fM; subst h_pM; subst h_fY); all_goals (have f_sx := SX.out; have f_sg := SG.out; have f_sn := SN.out; have f_sk := SK.out; have f_sm := SM.out); all_goals (obtain ⟨hN, hK, hM⟩ := HNKM.out; have hS := HS.out; have bN := hS.n; have bK := hS.k; have bM := hS.m; have hn := modU n 4 (by decide) (by decide); have hk := modU k 12 (by decide) (by decide); have hm := modU m 8 (by decide) (by decide); have pNK := smulN bN bK (by decide); have pNM := smulN bN bM (by decide); have pMK := smulN bM bK (by decide); obtain ⟨F1, R1⟩ := wgt_mat hS g x; obtain ⟨F2, R2⟩ := bias_mat hS g; simp only [std, stdBin, stdCmp, stdUna, stdIn, ci, beq_iff_eq, bne_iff_ne, beq_eq_false_iff_ne, bne_eq_false_iff_eq, decide_eq_true_eq, decide_eq_false_iff_not, Bool.not_true, Bool.not_false, Bool.not_eq_true', Bool.not_eq_false', Bool.not_not, tn0, tn1, tn2, tn3, matR, vecR, matP, vecP] at *; (try simp only [hN, hK, hM, Int.toNat_natCast, nm_nat, one_nat, row_nat] at *); (try simp only [F1, R1, F2, R2, mulL_len, bsL_len] at *)))
          all_goals (have eN : i = N := (by omega); subst eN; have lS : (S i 0).length = M * K := (by rw [HSS.out, mixL_len]); simp only [lS] at *; have hjn : j < M * K := (by omega))
          all_goals (have eS : (S i 0).getD j 0 = dt (colsR ⟨[(i : Int), M], 0, matL g (i * M)⟩) (colsR ⟨[(i : Int), K], 0, matL x (i * K)⟩) K j i := (by rw [HSS.out, mixL_get _ _ hjn, if_neg (Nat.not_lt_zero _)]); have eM := getD_map (f := fun j => dt (colsR ⟨[(i : Int), M], 0, matL g (i * M)⟩) (colsR ⟨[(i : Int), K], 0, matL x (i * K)⟩) K j i) hjn; rw [← mulL_range] at eM; simp only [eS, eM] at *)
          all_goals (try first | omega | contradiction)
        case ny =>
          refine loop_at Nat 188 (fun j => [(10, .any), (26, .any), (188, .v (.int .i64 (c j)))]) (fun j o => o) (fun j => j ≤ M) (fun j => M - j) 0 ?h0 ?hle ?round
          case h0 => exact Nat.zero_le _
          case hle => (cbv; (repeat' (first | apply And.intro | apply BrB.mk | apply BrP.mk | intro _)); all_goals (subst hA; subst h_c; subst h_fR; subst h_fE; subst h_fI; subst h_fJ; subst h_fM; subst h_pM; subst h_fY); all_goals (have f_sx := SX.out; have f_sg := SG.out; have f_sn := SN.out; have f_sk := SK.out; have f_sm := SM.out); all_goals (try simp only [std, stdBin, stdCmp, stdUna, stdIn, ci, beq_iff_eq, bne_iff_ne, beq_eq_false_iff_ne, bne_eq_false_iff_eq, decide_eq_true_eq, decide_eq_false_iff_not, Bool.not_true, Bool.not_false, Bool.not_eq_true', Bool.not_eq_false', Bool.not_not, tn0, tn1, tn2, tn3] at *); (all_goals first | exact True.intro | rfl | exact congrArg (Value.int .i64) (by omega)))
          case round =>
            intro o ho
            cbv
            (repeat' (first | apply And.intro | apply BrB.mk | apply BrP.mk | intro _))
            all_goals try (refine ⟨o + 1, ?_, ?_, ?_⟩)
            all_goals try (show AS.le _ _; (cbv; (repeat' (first | apply And.intro | apply BrB.mk | apply BrP.mk | intro _)); all_goals (subst hA; subst h_c; subst h_fR; subst h_fE; subst h_fI; subst h_fJ; subst h_fM; subst h_pM; subst h_fY); all_goals (have f_sx := SX.out; have f_sg := SG.out; have f_sn := SN.out; have f_sk := SK.out; have f_sm := SM.out); all_goals (try simp only [std, stdBin, stdCmp, stdUna, stdIn, ci, beq_iff_eq, bne_iff_ne, beq_eq_false_iff_ne, bne_eq_false_iff_eq, decide_eq_true_eq, decide_eq_false_iff_not, Bool.not_true, Bool.not_false, Bool.not_eq_true', Bool.not_eq_false', Bool.not_not, tn0, tn1, tn2, tn3] at *); (all_goals first | exact True.intro | rfl | exact congrArg (Value.int .i64) (by omega))))
            (all_goals (subst hA; subst h_c; subst h_fR; subst h_fE; subst h_fI; subst h_fJ; subst h_fM; subst h_pM; subst h_fY); all_goals (have f_sx := SX.out; have f_sg := SG.out; have f_sn := SN.out; have f_sk := SK.out; have f_sm := SM.out); all_goals (obtain ⟨hN, hK, hM⟩ := HNKM.out; have hS := HS.out; have bN := hS.n; have bK := hS.k; have bM := hS.m; have hn := modU n 4 (by decide) (by decide); have hk := modU k 12 (by decide) (by decide); have hm := modU m 8 (by decide) (by decide); have pNK := smulN bN bK (by decide); have pNM := smulN bN bM (by decide); have pMK := smulN bM bK (by decide); obtain ⟨F1, R1⟩ := wgt_mat hS g x; obtain ⟨F2, R2⟩ := bias_mat hS g; simp only [std, stdBin, stdCmp, stdUna, stdIn, ci, beq_iff_eq, bne_iff_ne, beq_eq_false_iff_ne, bne_eq_false_iff_eq, decide_eq_true_eq, decide_eq_false_iff_not, Bool.not_true, Bool.not_false, Bool.not_eq_true', Bool.not_eq_false', Bool.not_not, tn0, tn1, tn2, tn3, matR, vecR, matP, vecP] at *; (try simp only [hN, hK, hM, Int.toNat_natCast, nm_nat, one_nat, row_nat] at *); (try simp only [F1, R1, F2, R2, mulL_len, bsL_len] at *)))
            all_goals (have eN : i = N := (by omega); subst eN; have lS : (B i 0).length = M := (by rw [HBB.out, mixL_len]); simp only [lS] at *)
            all_goals (try (refine vb ?_; rfl))
            all_goals (have hon : o < M := (by omega); have eS : (B i 0).getD o 0 = bsum (matL g (i * M)) M o (i * M) := (by rw [HBB.out, mixL_get _ _ hon, if_neg (Nat.not_lt_zero _)]); have eM := bsL_get (matL g (i * M)) (n := i * M) hon; simp only [eS, eM] at *)
            all_goals (try first | omega | contradiction)
  (all_goals (subst hA; subst h_c; subst h_fR; subst h_fE; subst h_fI; subst h_fJ; subst h_fM; subst h_pM; subst h_fY); all_goals (have f_sx := SX.out; have f_sg := SG.out; have f_sn := SN.out; have f_sk := SK.out; have f_sm := SM.out); all_goals (obtain ⟨hN, hK, hM⟩ := HNKM.out; have hS := HS.out; have bN := hS.n; have bK := hS.k; have bM := hS.m; have hn := modU n 4 (by decide) (by decide); have hk := modU k 12 (by decide) (by decide); have hm := modU m 8 (by decide) (by decide); have pNK := smulN bN bK (by decide); have pNM := smulN bN bM (by decide); have pMK := smulN bM bK (by decide); obtain ⟨F1, R1⟩ := wgt_mat hS g x; obtain ⟨F2, R2⟩ := bias_mat hS g; simp only [std, stdBin, stdCmp, stdUna, stdIn, ci, beq_iff_eq, bne_iff_ne, beq_eq_false_iff_ne, bne_eq_false_iff_eq, decide_eq_true_eq, decide_eq_false_iff_not, Bool.not_true, Bool.not_false, Bool.not_eq_true', Bool.not_eq_false', Bool.not_not, tn0, tn1, tn2, tn3, matR, vecR, matP, vecP] at *; (try simp only [hN, hK, hM, Int.toNat_natCast, nm_nat, one_nat, row_nat] at *); (try simp only [F1, R1, F2, R2, mulL_len, bsL_len] at *)))
  all_goals (try first | omega | contradiction)
end Go.Proofs.Ytcbcfajihbbdcaa
