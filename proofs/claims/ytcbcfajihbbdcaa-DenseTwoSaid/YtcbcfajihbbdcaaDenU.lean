/- Layer 10: two examples at once come to what each comes to alone. -/
import Derived.Test.YtcbcfajihbbdcaaDenO
import Derived.Test.YtcbcfajihbbdcaaDenS
import Derived.Test.YtcbcfajihbbdcaaFrzR
namespace Go.Proofs.Ytcbcfajihbbdcaa
open Go.RowKit
set_option maxRecDepth 1000000
set_option linter.unusedSimpArgs false
set_option linter.unusedVariables false
set_option maxHeartbeats 16000000
set_option cbv.maxSteps 10000000
theorem add_cg {a b c d : Int} (h : a = b) (k : c = d) : a + c = b + d := by rw [h, k]
theorem dt_rows (D D' : List Int) (A B : List Int) (K M : Nat) (j n : Nat) : dt (rowsR ⟨[D.getD 0 0, (K : Int)], 0, A⟩) (rowsR ⟨[D'.getD 0 0, (K : Int)], 0, B⟩) M j n = sumN (fun z => A.getD (j / M * K + z) 0 * B.getD (j % M * K + z) 0) n := by
  have h := dt_sumN (rowsR ⟨[D.getD 0 0, (K : Int)], 0, A⟩) (rowsR ⟨[D'.getD 0 0, (K : Int)], 0, B⟩) (n1 := K) (n2 := K) (s1 := 1) (s2 := 1) rfl rfl rfl rfl M j n
  rw [h]
  refine sumN_congr fun z hz => ?_
  rw [Nat.mul_one]
  rfl
theorem getD_left {A B : List Int} {i : Nat} (h : i < A.length) : (A ++ B).getD i 0 = A.getD i 0 := by
  rw [List.getD_eq_getElem?_getD, List.getElem?_append_left h, ← List.getD_eq_getElem?_getD]
theorem getD_right {A B : List Int} {i K : Nat} (h : A.length = K) : (A ++ B).getD (K + i) 0 = B.getD i 0 := by
  rw [List.getD_eq_getElem?_getD, List.getElem?_append_right (by omega), ← List.getD_eq_getElem?_getD, h, Nat.add_sub_cancel_left]
theorem out_two {A B V c : List Int} {K M i : Nat} (hA : A.length = K) (hi : i < M) (hc : c.length = M) :
    outL ⟨[2, (K : Int)], 0, A ++ B⟩ ⟨[(M : Int), K], 0, V⟩ ⟨[(M : Int)], 0, c⟩ i = outL ⟨[1, (K : Int)], 0, A⟩ ⟨[(M : Int), K], 0, V⟩ ⟨[(M : Int)], 0, c⟩ i ∧
    outL ⟨[2, (K : Int)], 0, A ++ B⟩ ⟨[(M : Int), K], 0, V⟩ ⟨[(M : Int)], 0, c⟩ (M + i) = outL ⟨[1, (K : Int)], 0, B⟩ ⟨[(M : Int), K], 0, V⟩ ⟨[(M : Int)], 0, c⟩ i := by
  have d0 : i / M = 0 := Nat.div_eq_of_lt hi
  have d1 : (M + i) / M = 1 := by rw [Nat.add_comm, Nat.add_div_right _ (by omega), d0]
  have m1 : (M + i) % M = i % M := by rw [Nat.add_comm, Nat.add_mod_right]
  have e2 := fun (A : List Int) (j n : Nat) => dt_rows [2] [(M : Int)] A V K M j n
  have e1 := fun (A : List Int) (j n : Nat) => dt_rows [1] [(M : Int)] A V K M j n
  constructor
  · unfold outL
    refine add_cg ?_ rfl
    refine (e2 (A ++ B) i K).trans (((?_ : _ = _)).trans (e1 A i K).symm)
    refine sumN_congr fun z hz => ?_
    rw [d0, Nat.zero_mul, Nat.zero_add, getD_left (by omega)]
  · unfold outL
    refine add_cg ?_ (by show alignI (c.getD ((M + i) % c.length) 0) _ _ = _; rw [hc, m1])
    refine (e2 (A ++ B) (M + i) K).trans (((?_ : _ = _)).trans (e1 B i K).symm)
    refine sumN_congr fun z hz => ?_
    rw [d0, d1, m1, Nat.one_mul, Nat.zero_mul, Nat.zero_add, getD_right hA]
theorem mat_one (x : List Int) {K : Nat} : (matL x ((1 : Int) * (K : Int)).toNat).length = K := by rw [matL_len]; omega
theorem app_no {A B : List Int} (h1 : A.contains (-128) = false) (h2 : B.contains (-128) = false) : (A ++ B).contains (-128) = false := by
  rw [List.contains_eq_mem, decide_eq_false_iff_not] at *
  intro h
  rcases List.mem_append.1 h with h | h
  · exact h1 h
  · exact h2 h
structure Two3 (K M : Nat) : Prop where
  k : 1 ≤ K ∧ K ≤ 20
  m : 1 ≤ M ∧ M ≤ 10
theorem two_facts {K M : Nat} (h : Two3 K M) (x y w b : List Int) :
    (∀ z : List Int, fwdE [.st [.l [(1 : Int), K], .z 0, .l (matL z ((1 : Int) * K).toNat)], .st [.l [(M : Int), K], .z 0, .l (matL w ((M : Int) * K).toNat)], .st [.l [(M : Int)], .z 0, .l (matL b M)]] = 0 ∧
      rU fwdE fwdR [.st [.l [(1 : Int), K], .z 0, .l (matL z ((1 : Int) * K).toNat)], .st [.l [(M : Int), K], .z 0, .l (matL w ((M : Int) * K).toNat)], .st [.l [(M : Int)], .z 0, .l (matL b M)]] = ⟨[(1 : Int), M], 0, (List.range (1 * M)).map (outL ⟨[(1 : Int), K], 0, matL z ((1 : Int) * K).toNat⟩ ⟨[(M : Int), K], 0, matL w ((M : Int) * K).toNat⟩ ⟨[(M : Int)], 0, matL b M⟩)⟩) ∧
    fwdE [.st [.l [(2 : Int), K], .z 0, .l (matL x ((1 : Int) * K).toNat ++ matL y ((1 : Int) * K).toNat)], .st [.l [(M : Int), K], .z 0, .l (matL w ((M : Int) * K).toNat)], .st [.l [(M : Int)], .z 0, .l (matL b M)]] = 0 ∧
      rU fwdE fwdR [.st [.l [(2 : Int), K], .z 0, .l (matL x ((1 : Int) * K).toNat ++ matL y ((1 : Int) * K).toNat)], .st [.l [(M : Int), K], .z 0, .l (matL w ((M : Int) * K).toNat)], .st [.l [(M : Int)], .z 0, .l (matL b M)]] = ⟨[(2 : Int), M], 0, (List.range (2 * M)).map (outL ⟨[(2 : Int), K], 0, matL x ((1 : Int) * K).toNat ++ matL y ((1 : Int) * K).toNat⟩ ⟨[(M : Int), K], 0, matL w ((M : Int) * K).toNat⟩ ⟨[(M : Int)], 0, matL b M⟩)⟩ := by
  have hk := h.k
  have hm := h.m
  have s1 := smulN (a := 1) (b := K) (A := 1) (B := 20) ⟨by omega, by omega⟩ hk (by decide)
  have s2 := smulN (a := 2) (b := K) (A := 2) (B := 20) ⟨by omega, by omega⟩ hk (by decide)
  have s3 := smulN (a := M) (b := K) (A := 10) (B := 20) hm hk (by decide)
  refine ⟨fun z => ?_, ?_⟩
  · exact fwd_pair (n := 1) (k := (K : Int)) (m := (M : Int)) (e1 := 0) (e2 := 0) (e3 := 0) (by decide) (by omega) (by omega) (by omega) s3.2.2.2 (by omega) (by decide) (by decide) (by decide) (by rw [mat_one]; omega) (matN_len _ _ _) (by rw [matL_len]) (matL_no _ _) (matL_no _ _) (matL_no _ _)
  · exact fwd_pair (n := 2) (k := (K : Int)) (m := (M : Int)) (e1 := 0) (e2 := 0) (e3 := 0) (by decide) (by omega) (by omega) (by omega) s3.2.2.2 (by omega) (by decide) (by decide) (by decide) (by rw [List.length_append, mat_one, mat_one]; omega) (matN_len _ _ _) (by rw [matL_len]) (app_no (matL_no _ _) (matL_no _ _)) (matL_no _ _) (matL_no _ _)
def fwdQ (xa : List AV) : Prop := fwdE xa = 0
theorem fwdP_ok : CtrOk Try.prog 24 (resP [tnTy .i8, tnTy .i8, tnTy .i8] .i32 3 21 fwdQ fwdR) := by
  exact resP_of fwd_ok fun xa h => h
theorem of_rU {err : List AV → Int} {r : List AV → Tn} {xa : List AV} {t : Tn} (h : err xa = 0) (k : rU err r xa = t) : r xa = t := by
  unfold rU at k
  rwa [if_pos h] at k
theorem two_f1 {K M : Nat} (h : Two3 K M) (z w b : List Int) : fwdQ [.st [.l [(1 : Int), K], .z 0, .l (matL z ((1 : Int) * K).toNat)], .st [.l [(M : Int), K], .z 0, .l (matL w ((M : Int) * K).toNat)], .st [.l [(M : Int)], .z 0, .l (matL b M)]] ∧
    fwdR [.st [.l [(1 : Int), K], .z 0, .l (matL z ((1 : Int) * K).toNat)], .st [.l [(M : Int), K], .z 0, .l (matL w ((M : Int) * K).toNat)], .st [.l [(M : Int)], .z 0, .l (matL b M)]] = ⟨[(1 : Int), M], 0, (List.range (1 * M)).map (outL ⟨[(1 : Int), K], 0, matL z ((1 : Int) * K).toNat⟩ ⟨[(M : Int), K], 0, matL w ((M : Int) * K).toNat⟩ ⟨[(M : Int)], 0, matL b M⟩)⟩ :=
  ⟨((two_facts h [] [] w b).1 z).1, of_rU ((two_facts h [] [] w b).1 z).1 ((two_facts h [] [] w b).1 z).2⟩
theorem two_f2 {K M : Nat} (h : Two3 K M) (x y w b : List Int) : fwdQ [.st [.l [(2 : Int), K], .z 0, .l ([] ++ matL x ((1 : Int) * K).toNat ++ matL y ((1 : Int) * K).toNat)], .st [.l [(M : Int), K], .z 0, .l (matL w ((M : Int) * K).toNat)], .st [.l [(M : Int)], .z 0, .l (matL b M)]] ∧
    fwdR [.st [.l [(2 : Int), K], .z 0, .l ([] ++ matL x ((1 : Int) * K).toNat ++ matL y ((1 : Int) * K).toNat)], .st [.l [(M : Int), K], .z 0, .l (matL w ((M : Int) * K).toNat)], .st [.l [(M : Int)], .z 0, .l (matL b M)]] = ⟨[(2 : Int), M], 0, (List.range (2 * M)).map (outL ⟨[(2 : Int), K], 0, matL x ((1 : Int) * K).toNat ++ matL y ((1 : Int) * K).toNat⟩ ⟨[(M : Int), K], 0, matL w ((M : Int) * K).toNat⟩ ⟨[(M : Int)], 0, matL b M⟩)⟩ := by
  have h2 := (two_facts h x y w b).2
  rw [List.nil_append]
  exact ⟨h2.1, of_rU h2.1 h2.2⟩
def kindI : SO → Nat
  | .irow _ .i64 _ => 1
  | .irow _ .i8 _ => 2
  | .cells _ _ => 3
  | _ => 0
def findK (k : Nat) : Nat → List SO → Nat
  | i, [] => i
  | i, o :: l => match Nat.beq (kindI o) k with
    | true => i
    | false => findK k (i + 1) l
/-- The first twelve, then one of each kind. -/
def permT (l : List SO) : List Nat := [0, 1, 2, 3, 4, 5, 6, 7, 8, 9, 10, 11, findK 1 12 (l.drop 12), findK 2 12 (l.drop 12), findK 3 12 (l.drop 12)]
theorem two10_ok : CtrOk Try.prog 8 (boolC [.sl (.int .i8), .sl (.int .i8), .sl (.int .i8), .sl (.int .i8), .int .i64, .int .i64] yes) := by
  obtain ⟨G, hG⟩ : ∃ G : List (FuncId × Ctr), G = [(24, resP [tnTy .i8, tnTy .i8, tnTy .i8] .i32 3 21 fwdQ fwdR), (35, tnP [.sl (.int .i8), .int .i64, .int .i64] .i8 3 38 matP matR), (36, tnP [.sl (.int .i8), .int .i64] .i8 3 38 vecP vecR), (23, boolC [] yes)] := ⟨_, rfl⟩
  refine fn_cut (ck := true) [] iok_nil [] trivial Try.func8 rfl tt_ok (G := G) (by rw [hG]; exact ⟨⟨fwdP_ok, by unfold FnOk; kernel_rfl⟩, ⟨matrix_ok, by unfold FnOk; kernel_rfl⟩, ⟨vector_ok, by unfold FnOk; kernel_rfl⟩, ⟨awake10_ok, by unfold FnOk; kernel_rfl⟩, trivial⟩) mixed 5 (by kernel_rfl) ?_
  intro xa xs h hx hp
  obtain ⟨a0, as0, x0, xs0, rfl, rfl, h0, H1⟩ := svArgs_cons h
  obtain ⟨a1, as1, x1, xs1, rfl, rfl, h1, H2⟩ := svArgs_cons H1
  obtain ⟨a2, as2, x2, xs2, rfl, rfl, h2, H3⟩ := svArgs_cons H2
  obtain ⟨a3, as3, x3, xs3, rfl, rfl, h3, H4⟩ := svArgs_cons H3
  obtain ⟨a4, as4, x4, xs4, rfl, rfl, h4, H5⟩ := svArgs_cons H4
  obtain ⟨a5, as5, x5, xs5, rfl, rfl, h5, H6⟩ := svArgs_cons H5
  obtain ⟨rfl, rfl⟩ := svArgs_nil H6
  obtain ⟨x, rfl, rfl⟩ := argSV_ints h0
  obtain ⟨y, rfl, rfl⟩ := argSV_ints h1
  obtain ⟨w, rfl, rfl⟩ := argSV_ints h2
  obtain ⟨b, rfl, rfl⟩ := argSV_ints h3
  obtain ⟨k, rfl, rfl⟩ := argSV_int h4
  obtain ⟨m, rfl, rfl⟩ := argSV_int h5
  have sx : Fits .i8 x ∧ ci x.length ≤ 9223372036854775807 := svf_ints (hx (.iimm .i8 x) (by simp))
  have sy : Fits .i8 y ∧ ci y.length ≤ 9223372036854775807 := svf_ints (hx (.iimm .i8 y) (by simp))
  have sw : Fits .i8 w ∧ ci w.length ≤ 9223372036854775807 := svf_ints (hx (.iimm .i8 w) (by simp))
  have sb : Fits .i8 b ∧ ci b.length ≤ 9223372036854775807 := svf_ints (hx (.iimm .i8 b) (by simp))
  have sk := of_i64 (hx (.v (.int .i64 k)) (by simp))
  have sm := of_i64 (hx (.v (.int .i64 m)) (by simp))
  have SX := Lib.hid sx
  clear sx
  have SY := Lib.hid sy
  clear sy
  have SW := Lib.hid sw
  clear sw
  have SB := Lib.hid sb
  clear sb
  have SK := Lib.hid sk
  clear sk
  have SM := Lib.hid sm
  clear sm
  clear hx hp h h0 H1 h1 H2 h2 H3 h3 H4 h4 H5 h5 H6
  intro V hof hjn
  have HOF := Lib.hid hof
  have HJN := Lib.hid hjn
  clear hof hjn
  generalize hA : std = A at HOF ⊢
  subst hG
  generalize h_c : ci = c at HOF ⊢
  generalize h_fR : fwdR = fR at HOF ⊢
  generalize h_fQ : fwdQ = fQ at HOF ⊢
  generalize h_fM : matR = fM at HOF ⊢
  generalize h_fV : vecR = fV at HOF ⊢
  generalize h_pM : matP = pM at HOF ⊢
  generalize h_pV : vecP = pV at HOF ⊢
  generalize h_fY : yes = fY at HOF ⊢
  (obtain ⟨K, hK, b2⟩ := modN k 20 20 (by decide) (by decide) rfl; obtain ⟨M, hM, b3⟩ := modN m 10 10 (by decide) (by decide) rfl; have HS := Lib.hid (Two3.mk b2 b3); clear b2 b3; have HKM := Lib.hid (And.intro hK hM); clear hK hM)
  have key : V (restC 5 (Try.f8.body.getD .skip)) (⟨fmOf 143 [(4, .v (.int .i64 (A.add 1 (A.cnv .i64 (A.bin .rem .u64 (A.cnv .u64 k) 20))))), (5, .v (.int .i64 (A.add 1 (A.cnv .i64 (A.bin .rem .u64 (A.cnv .u64 m) 10))))), (13, .ptr 4 0), (14, .ptr 5 0), (15, .ptr 10 0), (16, .ptr 11 0), (17, .ptr 14 0)], [SO.irow 3 .i64 (fM [AV.l x, AV.z 1, AV.z (A.add 1 (A.cnv .i64 (A.bin .rem .u64 (A.cnv .u64 k) 20)))]).1, SO.irow 38 .i8 (fM [AV.l x, AV.z 1, AV.z (A.add 1 (A.cnv .i64 (A.bin .rem .u64 (A.cnv .u64 k) 20)))]).3, SO.irow 3 .i64 (fM [AV.l y, AV.z 1, AV.z (A.add 1 (A.cnv .i64 (A.bin .rem .u64 (A.cnv .u64 k) 20)))]).1, SO.irow 38 .i8 (fM [AV.l y, AV.z 1, AV.z (A.add 1 (A.cnv .i64 (A.bin .rem .u64 (A.cnv .u64 k) 20)))]).3, SO.cells 31 [SV.hdl 0, SV.v (Value.int .i64 (fM [AV.l x, AV.z 1, AV.z (A.add 1 (A.cnv .i64 (A.bin .rem .u64 (A.cnv .u64 k) 20)))]).2), SV.hdl 1], SO.cells 31 [SV.hdl 2, SV.v (Value.int .i64 (fM [AV.l y, AV.z 1, AV.z (A.add 1 (A.cnv .i64 (A.bin .rem .u64 (A.cnv .u64 k) 20)))]).2), SV.hdl 3], SO.irow 3 .i64 (fM [AV.l w, AV.z (A.add 1 (A.cnv .i64 (A.bin .rem .u64 (A.cnv .u64 m) 10))), AV.z (A.add 1 (A.cnv .i64 (A.bin .rem .u64 (A.cnv .u64 k) 20)))]).1, SO.irow 38 .i8 (fM [AV.l w, AV.z (A.add 1 (A.cnv .i64 (A.bin .rem .u64 (A.cnv .u64 m) 10))), AV.z (A.add 1 (A.cnv .i64 (A.bin .rem .u64 (A.cnv .u64 k) 20)))]).3, SO.irow 3 .i64 (fV [AV.l b, AV.z (A.add 1 (A.cnv .i64 (A.bin .rem .u64 (A.cnv .u64 m) 10)))]).1, SO.irow 38 .i8 (fV [AV.l b, AV.z (A.add 1 (A.cnv .i64 (A.bin .rem .u64 (A.cnv .u64 m) 10)))]).3, SO.cells 31 [SV.hdl 6, SV.v (Value.int .i64 (fM [AV.l w, AV.z (A.add 1 (A.cnv .i64 (A.bin .rem .u64 (A.cnv .u64 m) 10))), AV.z (A.add 1 (A.cnv .i64 (A.bin .rem .u64 (A.cnv .u64 k) 20)))]).2), SV.hdl 7], SO.cells 31 [SV.hdl 8, SV.v (Value.int .i64 (fV [AV.l b, AV.z (A.add 1 (A.cnv .i64 (A.bin .rem .u64 (A.cnv .u64 m) 10)))]).2), SV.hdl 9], SO.irow 3 .i64 [2, (A.add 1 (A.cnv .i64 (A.bin .rem .u64 (A.cnv .u64 k) 20)))], SO.irow 38 .i8 (A.lapp (A.lapp [] (fM [AV.l x, AV.z 1, AV.z (A.add 1 (A.cnv .i64 (A.bin .rem .u64 (A.cnv .u64 k) 20)))]).3) (fM [AV.l y, AV.z 1, AV.z (A.add 1 (A.cnv .i64 (A.bin .rem .u64 (A.cnv .u64 k) 20)))]).3), SO.cells 31 [SV.hdl 12, SV.v (Value.int .i64 0), SV.hdl 13]], []⟩ : AS) := by
    refine HOF.out _ _ (by kernel_rfl) ?_
    clear HOF HJN
    cbv
    (repeat' (first | apply And.intro | apply BrB.mk | apply BrP.mk | intro _))
    all_goals try (refine loop_at Nat 112 (fun j => [(12, .any), (24, .any), (112, .v (.int .i64 (c j)))]) (fun _ o => o) (fun j => j ≤ M) (fun j => M - j) 0 (Nat.zero_le _) ?_ ?_
                   focus
                     show AS.le _ _
                     (cbv; (repeat' (first | apply And.intro | apply BrB.mk | apply BrP.mk | intro _)); all_goals (subst hA; subst h_c; subst h_fR; subst h_fQ; subst h_fM; subst h_fV; subst h_pM; subst h_pV; subst h_fY); all_goals (have f_sx := SX.out; have f_sy := SY.out; have f_sw := SW.out; have f_sb := SB.out; have f_sk := SK.out; have f_sm := SM.out); all_goals (try simp only [std, stdBin, stdCmp, stdUna, stdIn, ci, beq_iff_eq, bne_iff_ne, beq_eq_false_iff_ne, bne_eq_false_iff_eq, decide_eq_true_eq, decide_eq_false_iff_not, Bool.not_true, Bool.not_false, Bool.not_eq_true', Bool.not_eq_false', Bool.not_not, tn0, tn1, tn2, tn3] at *); (all_goals first | exact True.intro | rfl | exact congrArg (Value.int .i64) (by omega)))
                     done)
    all_goals try (intro j hj; cbv; (repeat' (first | apply And.intro | apply BrB.mk | apply BrP.mk | intro _)))
    all_goals try (refine ⟨j + 1, ?_, ?_, ?_⟩)
    all_goals try (show AS.le _ _; (cbv; (repeat' (first | apply And.intro | apply BrB.mk | apply BrP.mk | intro _)); all_goals (subst hA; subst h_c; subst h_fR; subst h_fQ; subst h_fM; subst h_fV; subst h_pM; subst h_pV; subst h_fY); all_goals (have f_sx := SX.out; have f_sy := SY.out; have f_sw := SW.out; have f_sb := SB.out; have f_sk := SK.out; have f_sm := SM.out); all_goals (try simp only [std, stdBin, stdCmp, stdUna, stdIn, ci, beq_iff_eq, bne_iff_ne, beq_eq_false_iff_ne, bne_eq_false_iff_eq, decide_eq_true_eq, decide_eq_false_iff_not, Bool.not_true, Bool.not_false, Bool.not_eq_true', Bool.not_eq_false', Bool.not_not, tn0, tn1, tn2, tn3] at *); (all_goals first | exact True.intro | rfl | exact congrArg (Value.int .i64) (by omega))))
    (all_goals (subst hA; subst h_c; subst h_fR; subst h_fQ; subst h_fM; subst h_fV; subst h_pM; subst h_pV; subst h_fY); all_goals (have f_sx := SX.out; have f_sy := SY.out; have f_sw := SW.out; have f_sb := SB.out; have f_sk := SK.out; have f_sm := SM.out); all_goals (obtain ⟨hK, hM⟩ := HKM.out; have hS := HS.out; have bK := hS.k; have bM := hS.m; have hk := modU k 20 (by decide) (by decide); have hm := modU m 10 (by decide) (by decide); have s3 := smulN (a := M) (b := K) (A := 10) (B := 20) bM bK (by decide); simp only [std, stdBin, stdCmp, stdUna, stdIn, ci, beq_iff_eq, bne_iff_ne, beq_eq_false_iff_ne, bne_eq_false_iff_eq, decide_eq_true_eq, decide_eq_false_iff_not, Bool.not_true, Bool.not_false, Bool.not_eq_true', Bool.not_eq_false', Bool.not_not, tn0, tn1, tn2, tn3, matR, vecR, matP, vecP] at *; (try simp only [hK, hM, Int.toNat_natCast] at *)))
    all_goals (try first | exact True.intro | omega | contradiction | rfl)
    all_goals first | (obtain ⟨F1, R1⟩ := two_f1 hS x w b; obtain ⟨F2, R2⟩ := two_f1 hS y w b; obtain ⟨F3, R3⟩ := two_f2 hS x y w b; first | exact F1 | exact F2 | exact F3 | (clear F1 F2 F3; simp only [R1, R2, R3, List.length_map, List.length_range, Int.toNat_natCast, matL_len, List.length_append, List.length_nil] at *; first | exact True.intro | omega | contradiction | rfl | (have jM : j < M := (by omega); obtain ⟨W1, W2⟩ := out_two (A := matL x ((1 : Int) * K).toNat) (B := matL y ((1 : Int) * K).toNat) (V := matL w ((M : Int) * K).toNat) (c := matL b M) (K := K) (i := j) (mat_one x) jM (by rw [matL_len]); have t1 : ((M : Int) + (j : Int)).toNat = M + j := (by omega); simp only [t1, getD_map (show j < 2 * M by omega), getD_map (show j < 1 * M by omega), getD_map (show M + j < 2 * M by omega), W1, W2] at *; first | omega | contradiction | rfl))) | trace_state
  have jn : ∀ b s t, permB (permT s.objs) s.objs.length = true → (s.perm (permT s.objs)).le t → V b t → V b s := fun b s t h1 h2 h3 => HJN.out b s t _ h1 h2 h3
  cbv
  (repeat' (first | apply And.intro | apply BrB.mk | apply BrP.mk | intro _))
  all_goals try (refine jn _ _ _ (by rfl) ?_ key; focus (show AS.le _ _; cbv; (repeat' (first | apply And.intro | apply BrB.mk | apply BrP.mk | intro _)); all_goals first | exact True.intro | rfl; done))
  all_goals (clear jn key HOF HJN)
  (all_goals (subst hA; subst h_c; subst h_fR; subst h_fQ; subst h_fM; subst h_fV; subst h_pM; subst h_pV; subst h_fY); all_goals (have f_sx := SX.out; have f_sy := SY.out; have f_sw := SW.out; have f_sb := SB.out; have f_sk := SK.out; have f_sm := SM.out); all_goals (obtain ⟨hK, hM⟩ := HKM.out; have hS := HS.out; have bK := hS.k; have bM := hS.m; have hk := modU k 20 (by decide) (by decide); have hm := modU m 10 (by decide) (by decide); have s3 := smulN (a := M) (b := K) (A := 10) (B := 20) bM bK (by decide); simp only [std, stdBin, stdCmp, stdUna, stdIn, ci, beq_iff_eq, bne_iff_ne, beq_eq_false_iff_ne, bne_eq_false_iff_eq, decide_eq_true_eq, decide_eq_false_iff_not, Bool.not_true, Bool.not_false, Bool.not_eq_true', Bool.not_eq_false', Bool.not_not, tn0, tn1, tn2, tn3, matR, vecR, matP, vecP] at *; (try simp only [hK, hM, Int.toNat_natCast] at *)))
  all_goals (try first | exact True.intro | omega | contradiction | rfl)
  all_goals first | (obtain ⟨F1, R1⟩ := two_f1 hS x w b; obtain ⟨F2, R2⟩ := two_f1 hS y w b; obtain ⟨F3, R3⟩ := two_f2 hS x y w b; first | exact F1 | exact F2 | exact F3 | (clear F1 F2 F3; simp only [R1, R2, R3, List.length_map, List.length_range, Int.toNat_natCast, matL_len, List.length_append, List.length_nil] at *; first | exact True.intro | omega | contradiction | rfl | (have jM : j < M := (by omega); obtain ⟨W1, W2⟩ := out_two (A := matL x ((1 : Int) * K).toNat) (B := matL y ((1 : Int) * K).toNat) (V := matL w ((M : Int) * K).toNat) (c := matL b M) (K := K) (i := j) (mat_one x) jM (by rw [matL_len]); have t1 : ((M : Int) + (j : Int)).toNat = M + j := (by omega); simp only [t1, getD_map (show j < 2 * M by omega), getD_map (show j < 1 * M by omega), getD_map (show M + j < 2 * M by omega), W1, W2] at *; first | omega | contradiction | rfl))) | trace_state
end Go.Proofs.Ytcbcfajihbbdcaa
