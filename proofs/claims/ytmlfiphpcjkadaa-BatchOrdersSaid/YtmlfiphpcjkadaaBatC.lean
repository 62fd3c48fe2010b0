/- Layer 23: a batch of another size takes them in the same order. -/
import Derived.Test.YtmlfiphpcjkadaaBatB
namespace Go.Proofs.Ytmlfiphpcjkadaa
open Go.RowKit
set_option maxRecDepth 100000
set_option linter.unusedSimpArgs false
set_option linter.unusedVariables false
set_option maxHeartbeats 8000000
theorem part_more {P : List Int} {N Z K i : Nat} (h : Ep N Z K) (hi : i < K) : P.take (min (i * Z) N) ++ partL P (((i * Z : Nat) : Int)) Z N = P.take (min ((i + 1) * Z) N) := by
  obtain ⟨m1, m2, m3, m4, m5⟩ := ep_mul h hi
  unfold partL
  rw [Int.toNat_natCast, Nat.min_eq_left (by omega), ← List.take_add]
  congr 1
  split <;> omega
theorem orders23_ok : CtrOk Try.prog 10 (boolC [.int .u64, .int .i64, .int .i64, .int .i64, .int .i64] yes) := by
  obtain ⟨G, hG⟩ : ∃ G : List (FuncId × Ctr), G = [(25, intC [.int .i64, .int .i64] .i64 stepsF), (28, rowC [.int .u64, .int .i64, .int .i64, .int .i64] 3 .i64 whichF), (27, boolC [.sl (.int .i64), .sl (.int .i64)] eqF), (22, boolC [] yes)] := ⟨_, rfl⟩
  refine fn_ok (ck := true) Try.func10 rfl tt_ok (G := G) (by rw [hG]; exact ⟨⟨steps_ok, by unfold FnOk; kernel_rfl⟩, ⟨which_ok, by unfold FnOk; kernel_rfl⟩, ⟨rsame_ok, by unfold FnOk; kernel_rfl⟩, ⟨awake23_ok, by unfold FnOk; kernel_rfl⟩, trivial⟩) mixed (by kernel_rfl) ?_
  intro xa xs h hx hp
  obtain ⟨a0, as0, x0, xs0, rfl, rfl, h0, H1⟩ := svArgs_cons h
  obtain ⟨a1, as1, x1, xs1, rfl, rfl, h1, H2⟩ := svArgs_cons H1
  obtain ⟨a2, as2, x2, xs2, rfl, rfl, h2, H3⟩ := svArgs_cons H2
  obtain ⟨a3, as3, x3, xs3, rfl, rfl, h3, H4⟩ := svArgs_cons H3
  obtain ⟨a4, as4, x4, xs4, rfl, rfl, h4, H5⟩ := svArgs_cons H4
  obtain ⟨rfl, rfl⟩ := svArgs_nil H5
  obtain ⟨a, rfl, rfl⟩ := argSV_int h0
  obtain ⟨n, rfl, rfl⟩ := argSV_int h1
  obtain ⟨z, rfl, rfl⟩ := argSV_int h2
  obtain ⟨y, rfl, rfl⟩ := argSV_int h3
  obtain ⟨e, rfl, rfl⟩ := argSV_int h4
  have sa : (Lit.int .u64 a).wf = true := (hx (.v (.int .u64 a)) (by simp))
  have sn := of_i64 (hx (.v (.int .i64 n)) (by simp))
  have sz := of_i64 (hx (.v (.int .i64 z)) (by simp))
  have sy := of_i64 (hx (.v (.int .i64 y)) (by simp))
  have se := of_i64 (hx (.v (.int .i64 e)) (by simp))
  have SA := Lib.hid sa
  clear sa
  have SN := Lib.hid sn
  clear sn
  have SZ := Lib.hid sz
  clear sz
  have SY := Lib.hid sy
  clear sy
  have SE := Lib.hid se
  clear se
  clear hx hp h h0 H1 h1 H2 h2 H3 h3 H4 h4 H5
  subst hG
  generalize hA : std = A
  generalize h_c : ci = c
  generalize h_fs : stepsF = fs
  generalize h_fw : whichF = fw
  generalize h_fe : eqF = fe
  generalize h_fY : yes = fY
  (obtain ⟨N, hN, b1⟩ := modN n 64 64 (by decide) (by decide) rfl; obtain ⟨Z, hZ, b2⟩ := modN z 8 8 (by decide) (by decide) rfl; obtain ⟨Y, hY, b4⟩ := modN y 8 8 (by decide) (by decide) rfl; obtain ⟨E, hE, b3⟩ := modZ e 100 100 (by decide) (by decide) rfl; obtain ⟨K, hK⟩ := ep_of N Z b1 b2; obtain ⟨L, hL⟩ := ep_of N Y b1 b4; obtain ⟨P, hP⟩ : ∃ P, P = permZ (bv a) (bv (1099511627776 + ci E)) (ci N) := ⟨_, rfl⟩; have HEP := Lib.hid (And.intro hK (And.intro hL (And.intro b3 hP))); clear hK hL b1 b2 b3 b4 hP; have HNZE := Lib.hid (And.intro hN (And.intro hZ (And.intro hY hE))); clear hN hZ hY hE)
  obtain ⟨X, hX⟩ : ∃ O : Nat → List Int, ∀ i, O i = P.take (min (i * Z) N) := ⟨_, fun _ => rfl⟩
  obtain ⟨W, hW⟩ : ∃ O : Nat → List Int, ∀ i, O i = P.take (min (i * Y) N) := ⟨_, fun _ => rfl⟩
  have HX := Lib.hid hX
  have HW := Lib.hid hW
  clear hX hW
  cbv
  (repeat' (first | apply And.intro | apply BrB.mk | apply BrP.mk | intro _))
  all_goals try (refine loop_nil [.slot 11 3 .i64] Nat 37 (fun i => [(11, .hdl 0), (13, .any), (37, .v (.int .i64 (c i)))]) (fun i o => o.set 0 (.irow 3 .i64 (X i))) (fun i => i ≤ K) (fun i => K - i) 0 (Nat.zero_le _) ?hle ?round)
  case hle =>
    cbv
    (repeat' (first | apply And.intro | apply BrB.mk | apply BrP.mk | intro _))
    (all_goals (subst hA; subst h_c; subst h_fs; subst h_fw; subst h_fe; subst h_fY); all_goals (have f_sa := SA.out; have f_sn := SN.out; have f_sz := SZ.out; have f_sy := SY.out; have f_se := SE.out); all_goals (obtain ⟨hN, hZ, hY, hE⟩ := HNZE.out; obtain ⟨hP, hQ, bE, eP⟩ := HEP.out; have bN := hP.n; have bZ := hP.z; have bY := hQ.z; have bK := hP.k; have bL := hQ.k; have eK := hP.s; have eL := hQ.s; have bh := hP.hi; have bg := hQ.hi; have uN := modU n 64 (by decide) (by decide); have uZ := modU z 8 (by decide) (by decide); have uY := modU y 8 (by decide) (by decide); have uE := modU e 100 (by decide) (by decide); have lP : P.length = N := (by rw [eP]; exact ep_perm _ _ hP); simp only [std, stdBin, stdCmp, stdUna, stdIn, ci, beq_iff_eq, bne_iff_ne, beq_eq_false_iff_ne, bne_eq_false_iff_eq, decide_eq_true_eq, decide_eq_false_iff_not, Bool.not_true, Bool.not_false, Bool.not_eq_true', Bool.not_eq_false', Bool.not_not, tn0, tn1, tn2, tn3, stepsF, whichF, eqF] at *; (try simp only [hN, hZ, hY, hE, eK, eL, Int.toNat_natCast] at *)))
    (all_goals first | exact True.intro | omega | exact congrArg (Value.int .i64) (by omega) | with_reducible rfl | contradiction | skip)
    rw [HX.out, Nat.zero_mul, Nat.zero_min]; rfl
  case round =>
    intro i hi
    cbv
    refine BrB.mk (fun gx => ?yx) (fun gx => ?nx)
    case yx =>
      (repeat' (first | apply And.intro | apply BrB.mk | apply BrP.mk | intro _))
      all_goals try (refine ⟨i + 1, ?_, ?_, ?_⟩)
      all_goals try (show AS.le _ _; cbv; (repeat' (first | apply And.intro | apply BrB.mk | apply BrP.mk | intro _)))
      (all_goals (subst hA; subst h_c; subst h_fs; subst h_fw; subst h_fe; subst h_fY); all_goals (have f_sa := SA.out; have f_sn := SN.out; have f_sz := SZ.out; have f_sy := SY.out; have f_se := SE.out); all_goals (obtain ⟨hN, hZ, hY, hE⟩ := HNZE.out; obtain ⟨hP, hQ, bE, eP⟩ := HEP.out; have bN := hP.n; have bZ := hP.z; have bY := hQ.z; have bK := hP.k; have bL := hQ.k; have eK := hP.s; have eL := hQ.s; have bh := hP.hi; have bg := hQ.hi; have uN := modU n 64 (by decide) (by decide); have uZ := modU z 8 (by decide) (by decide); have uY := modU y 8 (by decide) (by decide); have uE := modU e 100 (by decide) (by decide); have lP : P.length = N := (by rw [eP]; exact ep_perm _ _ hP); simp only [std, stdBin, stdCmp, stdUna, stdIn, ci, beq_iff_eq, bne_iff_ne, beq_eq_false_iff_ne, bne_eq_false_iff_eq, decide_eq_true_eq, decide_eq_false_iff_not, Bool.not_true, Bool.not_false, Bool.not_eq_true', Bool.not_eq_false', Bool.not_not, tn0, tn1, tn2, tn3, stepsF, whichF, eqF] at *; (try simp only [hN, hZ, hY, hE, eK, eL, Int.toNat_natCast] at *)))
      (all_goals (have hiK : i < K := (by omega); have lX : (X i).length = min (i * Z) N := (by rw [HX.out, List.length_take, lP]; omega); obtain ⟨m1, m2, m3, m4, m5⟩ := ep_mul hP hiK; have wa := which_at (a := a) hP (show E < 1000 by omega) hiK; have bEK : E * K ≤ 99 * 64 := Nat.mul_le_mul (by omega) (by omega); have eEK : (E : Int) * K = ((E * K : Nat) : Int) := (by rw [Int.natCast_mul]); have wb : whichL a N Z ((E : Int) * K + i) = partL P (((i * Z : Nat) : Int)) Z N := (by rw [wa, eP]); have lW : (whichL a N Z ((E : Int) * K + i)).length = min Z (N - i * Z) := (by rw [wb]; exact part_len lP)))
      all_goals (try simp only [lX, lW, eEK] at *)
      (all_goals first | exact True.intro | omega | exact congrArg (Value.int .i64) (by omega) | with_reducible rfl | contradiction | skip)
      rw [HX.out, HX.out, wb]
      exact part_more hP hiK
    case nx =>
      (repeat' (first | apply And.intro | apply BrB.mk | apply BrP.mk | intro _))
      all_goals try (refine loop_nil [.slot 12 3 .i64] Nat 57 (fun i => [(12, .hdl 1), (14, .any), (57, .v (.int .i64 (c i)))]) (fun i o => o.set 1 (.irow 3 .i64 (W i))) (fun i => i ≤ L) (fun i => L - i) 0 (Nat.zero_le _) ?hle ?round)
      case hle =>
        cbv
        (repeat' (first | apply And.intro | apply BrB.mk | apply BrP.mk | intro _))
        (all_goals (subst hA; subst h_c; subst h_fs; subst h_fw; subst h_fe; subst h_fY); all_goals (have f_sa := SA.out; have f_sn := SN.out; have f_sz := SZ.out; have f_sy := SY.out; have f_se := SE.out); all_goals (obtain ⟨hN, hZ, hY, hE⟩ := HNZE.out; obtain ⟨hP, hQ, bE, eP⟩ := HEP.out; have bN := hP.n; have bZ := hP.z; have bY := hQ.z; have bK := hP.k; have bL := hQ.k; have eK := hP.s; have eL := hQ.s; have bh := hP.hi; have bg := hQ.hi; have uN := modU n 64 (by decide) (by decide); have uZ := modU z 8 (by decide) (by decide); have uY := modU y 8 (by decide) (by decide); have uE := modU e 100 (by decide) (by decide); have lP : P.length = N := (by rw [eP]; exact ep_perm _ _ hP); simp only [std, stdBin, stdCmp, stdUna, stdIn, ci, beq_iff_eq, bne_iff_ne, beq_eq_false_iff_ne, bne_eq_false_iff_eq, decide_eq_true_eq, decide_eq_false_iff_not, Bool.not_true, Bool.not_false, Bool.not_eq_true', Bool.not_eq_false', Bool.not_not, tn0, tn1, tn2, tn3, stepsF, whichF, eqF] at *; (try simp only [hN, hZ, hY, hE, eK, eL, Int.toNat_natCast] at *)))
        (all_goals first | exact True.intro | omega | exact congrArg (Value.int .i64) (by omega) | with_reducible rfl | contradiction | skip)
        rw [HW.out, Nat.zero_mul, Nat.zero_min]; rfl
      case round =>
        intro k hk
        cbv
        refine BrB.mk (fun gy => ?yy) (fun gy => ?ny)
        case yy =>
          (repeat' (first | apply And.intro | apply BrB.mk | apply BrP.mk | intro _))
          all_goals try (refine ⟨k + 1, ?_, ?_, ?_⟩)
          all_goals try (show AS.le _ _; cbv; (repeat' (first | apply And.intro | apply BrB.mk | apply BrP.mk | intro _)))
          (all_goals (subst hA; subst h_c; subst h_fs; subst h_fw; subst h_fe; subst h_fY); all_goals (have f_sa := SA.out; have f_sn := SN.out; have f_sz := SZ.out; have f_sy := SY.out; have f_se := SE.out); all_goals (obtain ⟨hN, hZ, hY, hE⟩ := HNZE.out; obtain ⟨hP, hQ, bE, eP⟩ := HEP.out; have bN := hP.n; have bZ := hP.z; have bY := hQ.z; have bK := hP.k; have bL := hQ.k; have eK := hP.s; have eL := hQ.s; have bh := hP.hi; have bg := hQ.hi; have uN := modU n 64 (by decide) (by decide); have uZ := modU z 8 (by decide) (by decide); have uY := modU y 8 (by decide) (by decide); have uE := modU e 100 (by decide) (by decide); have lP : P.length = N := (by rw [eP]; exact ep_perm _ _ hP); simp only [std, stdBin, stdCmp, stdUna, stdIn, ci, beq_iff_eq, bne_iff_ne, beq_eq_false_iff_ne, bne_eq_false_iff_eq, decide_eq_true_eq, decide_eq_false_iff_not, Bool.not_true, Bool.not_false, Bool.not_eq_true', Bool.not_eq_false', Bool.not_not, tn0, tn1, tn2, tn3, stepsF, whichF, eqF] at *; (try simp only [hN, hZ, hY, hE, eK, eL, Int.toNat_natCast] at *)))
          (all_goals (have hiK : k < L := (by omega); have lX : (W k).length = min (k * Y) N := (by rw [HW.out, List.length_take, lP]; omega); obtain ⟨m1, m2, m3, m4, m5⟩ := ep_mul hQ hiK; have wa := which_at (a := a) hQ (show E < 1000 by omega) hiK; have bEK : E * L ≤ 99 * 64 := Nat.mul_le_mul (by omega) (by omega); have eEK : (E : Int) * L = ((E * L : Nat) : Int) := (by rw [Int.natCast_mul]); have wb : whichL a N Y ((E : Int) * L + k) = partL P (((k * Y : Nat) : Int)) Y N := (by rw [wa, eP]); have lW : (whichL a N Y ((E : Int) * L + k)).length = min Y (N - k * Y) := (by rw [wb]; exact part_len lP)))
          all_goals (try simp only [eEK] at *)
          (all_goals first | exact True.intro | omega | exact congrArg (Value.int .i64) (by omega) | with_reducible rfl | contradiction | skip)
          rw [HW.out, HW.out, wb]
          exact part_more hQ hiK
        case ny =>
          (repeat' (first | apply And.intro | apply BrB.mk | apply BrP.mk | intro _))
          (all_goals (subst hA; subst h_c; subst h_fs; subst h_fw; subst h_fe; subst h_fY); all_goals (have f_sa := SA.out; have f_sn := SN.out; have f_sz := SZ.out; have f_sy := SY.out; have f_se := SE.out); all_goals (obtain ⟨hN, hZ, hY, hE⟩ := HNZE.out; obtain ⟨hP, hQ, bE, eP⟩ := HEP.out; have bN := hP.n; have bZ := hP.z; have bY := hQ.z; have bK := hP.k; have bL := hQ.k; have eK := hP.s; have eL := hQ.s; have bh := hP.hi; have bg := hQ.hi; have uN := modU n 64 (by decide) (by decide); have uZ := modU z 8 (by decide) (by decide); have uY := modU y 8 (by decide) (by decide); have uE := modU e 100 (by decide) (by decide); have lP : P.length = N := (by rw [eP]; exact ep_perm _ _ hP); simp only [std, stdBin, stdCmp, stdUna, stdIn, ci, beq_iff_eq, bne_iff_ne, beq_eq_false_iff_ne, bne_eq_false_iff_eq, decide_eq_true_eq, decide_eq_false_iff_not, Bool.not_true, Bool.not_false, Bool.not_eq_true', Bool.not_eq_false', Bool.not_not, tn0, tn1, tn2, tn3, stepsF, whichF, eqF] at *; (try simp only [hN, hZ, hY, hE, eK, eL, Int.toNat_natCast] at *)))
          all_goals (have ei : i = K := (by omega); have ek : k = L := (by omega); have x1 : X i = P := (by rw [HX.out, ei, Nat.min_eq_right bh, ← lP, List.take_length]); have x2 : W k = P := (by rw [HW.out, ek, Nat.min_eq_right bg, ← lP, List.take_length]); try simp only [x1, x2, lP] at *)
          (all_goals first | exact True.intro | omega | exact congrArg (Value.int .i64) (by omega) | with_reducible rfl | contradiction | skip)
          all_goals (refine vb ?_; rfl)
  (all_goals (subst hA; subst h_c; subst h_fs; subst h_fw; subst h_fe; subst h_fY); all_goals (have f_sa := SA.out; have f_sn := SN.out; have f_sz := SZ.out; have f_sy := SY.out; have f_se := SE.out); all_goals (obtain ⟨hN, hZ, hY, hE⟩ := HNZE.out; obtain ⟨hP, hQ, bE, eP⟩ := HEP.out; have bN := hP.n; have bZ := hP.z; have bY := hQ.z; have bK := hP.k; have bL := hQ.k; have eK := hP.s; have eL := hQ.s; have bh := hP.hi; have bg := hQ.hi; have uN := modU n 64 (by decide) (by decide); have uZ := modU z 8 (by decide) (by decide); have uY := modU y 8 (by decide) (by decide); have uE := modU e 100 (by decide) (by decide); have lP : P.length = N := (by rw [eP]; exact ep_perm _ _ hP); simp only [std, stdBin, stdCmp, stdUna, stdIn, ci, beq_iff_eq, bne_iff_ne, beq_eq_false_iff_ne, bne_eq_false_iff_eq, decide_eq_true_eq, decide_eq_false_iff_not, Bool.not_true, Bool.not_false, Bool.not_eq_true', Bool.not_eq_false', Bool.not_not, tn0, tn1, tn2, tn3, stepsF, whichF, eqF] at *; (try simp only [hN, hZ, hY, hE, eK, eL, Int.toNat_natCast] at *)))
  (all_goals first | exact True.intro | omega | exact congrArg (Value.int .i64) (by omega) | with_reducible rfl | contradiction | skip)
end Go.Proofs.Ytmlfiphpcjkadaa
