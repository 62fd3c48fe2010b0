/- Layer 14: two tensors whose exponents are far apart. -/
import Derived.Test.YthclcnidbnbkcaaAddB
namespace Go.Proofs.Ythclcnidbnbkcaa
open Go.RowKit
set_option maxRecDepth 100000
set_option linter.unusedSimpArgs false
set_option linter.unusedVariables false
set_option maxHeartbeats 8000000
theorem pow7 {k : Nat} (h : 7 ≤ k) : (128 : Int) ≤ 2 ^ k := by
  have h1 := Nat.pow_le_pow_right (show 0 < 2 by decide) h
  have h2 : ((2 ^ 7 : Nat) : Int) ≤ ((2 ^ k : Nat) : Int) := Int.ofNat_le.2 h1
  simpa using h2
theorem align_far {v a b : Int} (hv : -127 ≤ v ∧ v ≤ 127) (ha : -64 ≤ a ∧ a ≤ 64) (hb : -64 ≤ b ∧ b ≤ 64) (h : 7 ≤ b - a) : alignI v a b = if v < 0 then -1 else 0 := by
  have hg : gap a b = a - b := by unfold gap cl; omega
  unfold alignI
  rw [hg, if_pos (by omega)]
  unfold downI
  have hn : numb v = v := by unfold numb cl; omega
  rw [hn]
  have hk : 7 ≤ shN (-(a - b)) := by unfold shN cl; omega
  have hp := pow7 hk
  generalize (2 : Int) ^ shN (-(a - b)) = p at hp ⊢
  split
  · rw [Int.ediv_eq_iff_of_pos (by omega)]
    constructor <;> omega
  · exact Int.ediv_eq_zero_of_lt (by omega) (by omega)
theorem addX_far {a b : Int} (h : 7 ≤ a - 12 - b) : addX a b = a - 12 := by
  unfold addX
  repeat' split
  all_goals omega
theorem addAt_far {l m : List Int} (hl : Fits .i8 l) (hm : Fits .i8 m) {N : Nat} {ea eb : Int} (ha : -50 ≤ ea ∧ ea ≤ 64) (hb : -64 ≤ eb ∧ eb ≤ 64) (h : 7 ≤ ea - 12 - eb) (i : Nat) :
    addAt ⟨[(N : Int)], ea, rowZ l N⟩ ⟨[(N : Int)], eb, rowZ m N⟩ i = (rowZ l N).getD i 0 * 4096 + (if (rowZ m N).getD i 0 < 0 then -1 else 0) := by
  unfold addAt
  simp only [addX_far h]
  rw [align_up (rowZ_in hl N i) (by omega) (by omega) (by omega) (by omega), align_far (rowZ_in hm N i) hb (by omega) (by omega), show ea - (ea - 12) = 12 by omega]
  rfl
theorem tn12 : (12 : Int).toNat = 12 := rfl
theorem p12 : (2 : Int) ^ 12 = 4096 := by decide
theorem tmod20 (a : Int) : -20 ≤ a.tmod 20 ∧ a.tmod 20 ≤ 20 := by
  have h1 := Int.tmod_lt_of_pos a (show (0 : Int) < 20 by decide)
  have h2 := Int.lt_tmod_of_pos a (show (0 : Int) < 20 by decide)
  omega
theorem far14_ok : CtrOk Try.prog 11 (boolC [.sl (.int .i8), .sl (.int .i8), .int .i64, .int .i64] yes) := by
  obtain ⟨G, hG⟩ : ∃ G : List (FuncId × Ctr), G = [(24, resU [tnTy .i8, tnTy .i8] .i32 3 21 (t2 addErr 0) (rU (t2 addErr 0) (t2 addRes ⟨[], 0, []⟩))), (29, boolC [] yes)] := ⟨_, rfl⟩
  refine fn_ok (ck := true) Try.func11 rfl tt_ok (G := G) (by rw [hG]; exact ⟨⟨addU_ok, by unfold FnOk; kernel_rfl⟩, ⟨awake14_ok, by unfold FnOk; kernel_rfl⟩, trivial⟩) mixed (by kernel_rfl) ?_
  intro xa xs h hx hp
  obtain ⟨a0, as0, x0, xs0, rfl, rfl, h0, H1⟩ := svArgs_cons h
  obtain ⟨a1, as1, x1, xs1, rfl, rfl, h1, H2⟩ := svArgs_cons H1
  obtain ⟨a2, as2, x2, xs2, rfl, rfl, h2, H3⟩ := svArgs_cons H2
  obtain ⟨a3, as3, x3, xs3, rfl, rfl, h3, H4⟩ := svArgs_cons H3
  obtain ⟨rfl, rfl⟩ := svArgs_nil H4
  obtain ⟨l, rfl, rfl⟩ := argSV_ints h0
  obtain ⟨m, rfl, rfl⟩ := argSV_ints h1
  obtain ⟨a, rfl, rfl⟩ := argSV_int h2
  obtain ⟨b, rfl, rfl⟩ := argSV_int h3
  have sl : Fits .i8 l ∧ ci l.length ≤ 9223372036854775807 := svf_ints (hx (.iimm .i8 l) (by simp))
  have sm : Fits .i8 m ∧ ci m.length ≤ 9223372036854775807 := svf_ints (hx (.iimm .i8 m) (by simp))
  have sa := of_i64 (hx (.v (.int .i64 a)) (by simp))
  have sb := of_i64 (hx (.v (.int .i64 b)) (by simp))
  have SL := Lib.hid sl
  clear sl
  have SM := Lib.hid sm
  clear sm
  have SA := Lib.hid sa
  clear sa
  have SB := Lib.hid sb
  clear sb
  clear hx hp h h0 H1 h1 H2 h2 H3 h3 H4
  subst hG
  generalize hA : std = A
  generalize h_c : ci = c
  generalize h_fR : rU (t2 addErr 0) (t2 addRes ⟨[], 0, []⟩) = fR
  generalize h_fE : t2 addErr 0 = fE
  generalize h_fY : yes = fY
  obtain ⟨N, hN⟩ : ∃ N : Nat, N = least3 l.length m.length := ⟨_, rfl⟩
  have HN := Lib.hid hN
  clear hN
  obtain ⟨S1, hS1⟩ : ∃ S : Nat → List Int, ∀ j, S j = mixL (fun _ => 0) (fun i => lo8 (l.getD i 0)) N j := ⟨_, fun _ => rfl⟩
  obtain ⟨S2, hS2⟩ : ∃ S : Nat → List Int, ∀ j, S j = mixL (fun _ => 0) (fun i => lo8 (m.getD i 0)) N j := ⟨_, fun _ => rfl⟩
  have HS1 := Lib.hid hS1
  have HS2 := Lib.hid hS2
  clear hS1 hS2
  cbv
  (repeat' (first | apply And.intro | apply BrB.mk | apply BrP.mk | intro _))
  all_goals try (refine loop_at Nat 49 (fun j => [(12, .any), (49, .v (.int .i64 (c j)))]) (fun j o => (o.set 1 (.irow 35 .i8 (S1 j))).set 4 (.irow 35 .i8 (S2 j))) (fun j => j ≤ N) (fun j => N - j) 0 ?h0 ?hle ?round)
  case h0 => exact Nat.zero_le _
  case hle =>
    cbv
    (repeat' (first | apply And.intro | apply BrB.mk | apply BrP.mk | intro _))
    (all_goals (subst hA; subst h_c; subst h_fR; subst h_fE; subst h_fY); all_goals (have f_sl := SL.out; have f_sm := SM.out; have f_sa := SA.out; have f_sb := SB.out); all_goals (have hN := least3_eq l.length m.length; have hB := least3_le l.length m.length; rw [← HN.out] at hN hB; obtain ⟨n1, n2, n3⟩ := hB; have ha := tmod20 a; have hb := modU b 40 (by decide) (by decide)); all_goals (try simp only [std, stdBin, stdCmp, stdUna, stdIn, ci, beq_iff_eq, bne_iff_ne, beq_eq_false_iff_ne, bne_eq_false_iff_eq, decide_eq_true_eq, decide_eq_false_iff_not, Bool.not_true, Bool.not_false, Bool.not_eq_true', Bool.not_eq_false', Bool.not_not, tn0, tn1, tn2, tn3] at *); all_goals (try simp only [hN, Int.toNat_natCast] at *))
    all_goals first | exact True.intro | rfl | skip
    · rw [HS1.out, mixL_nil]
    · rw [HS2.out, mixL_nil]
  case round =>
    intro j hj
    cbv
    refine BrB.mk (fun gx => ?yx) (fun gx => ?nx)
    case yx =>
      (repeat' (first | apply And.intro | apply BrB.mk | apply BrP.mk | intro _))
      all_goals try (refine ⟨j + 1, ?jI, ?jL, ?jM⟩)
      case jL =>
        cbv
        (repeat' (first | apply And.intro | apply BrB.mk | apply BrP.mk | intro _))
        (all_goals (subst hA; subst h_c; subst h_fR; subst h_fE; subst h_fY); all_goals (have f_sl := SL.out; have f_sm := SM.out; have f_sa := SA.out; have f_sb := SB.out); all_goals (have hN := least3_eq l.length m.length; have hB := least3_le l.length m.length; rw [← HN.out] at hN hB; obtain ⟨n1, n2, n3⟩ := hB; have ha := tmod20 a; have hb := modU b 40 (by decide) (by decide)); all_goals (try simp only [std, stdBin, stdCmp, stdUna, stdIn, ci, beq_iff_eq, bne_iff_ne, beq_eq_false_iff_ne, bne_eq_false_iff_eq, decide_eq_true_eq, decide_eq_false_iff_not, Bool.not_true, Bool.not_false, Bool.not_eq_true', Bool.not_eq_false', Bool.not_not, tn0, tn1, tn2, tn3] at *); all_goals (try simp only [hN, Int.toNat_natCast] at *))
        all_goals first | exact True.intro | rfl | skip
        · rw [HS1.out, HS1.out]; exact mixL_store (by omega) rfl
        · rw [HS2.out, HS2.out]; exact mixL_store (by omega) rfl
      (all_goals (subst hA; subst h_c; subst h_fR; subst h_fE; subst h_fY); all_goals (have f_sl := SL.out; have f_sm := SM.out; have f_sa := SA.out; have f_sb := SB.out); all_goals (have hN := least3_eq l.length m.length; have hB := least3_le l.length m.length; rw [← HN.out] at hN hB; obtain ⟨n1, n2, n3⟩ := hB; have ha := tmod20 a; have hb := modU b 40 (by decide) (by decide)); all_goals (try simp only [std, stdBin, stdCmp, stdUna, stdIn, ci, beq_iff_eq, bne_iff_ne, beq_eq_false_iff_ne, bne_eq_false_iff_eq, decide_eq_true_eq, decide_eq_false_iff_not, Bool.not_true, Bool.not_false, Bool.not_eq_true', Bool.not_eq_false', Bool.not_not, tn0, tn1, tn2, tn3] at *); all_goals (try simp only [hN, Int.toNat_natCast] at *))
      all_goals (try simp only [HS1.out, HS2.out, mixL_len])
      all_goals (try omega)
    case nx =>
      (repeat' (first | apply And.intro | apply BrB.mk | apply BrP.mk | intro _))
      all_goals try (refine loop_at Nat 104 (fun j => [(8, .any), (15, .any), (16, .any), (17, .any), (104, .v (.int .i64 (c j)))]) (fun _ o => o) (fun j => j ≤ N) (fun j => N - j) 0 ?h0 ?hle ?round)
      case h0 => exact Nat.zero_le _
      case hle => (cbv; (repeat' (first | apply And.intro | apply BrB.mk | apply BrP.mk | intro _)); all_goals (subst hA; subst h_c; subst h_fR; subst h_fE; subst h_fY); all_goals (have f_sl := SL.out; have f_sm := SM.out; have f_sa := SA.out; have f_sb := SB.out); all_goals (try simp only [std, stdBin, stdCmp, stdUna, stdIn, ci, beq_iff_eq, bne_iff_ne, beq_eq_false_iff_ne, bne_eq_false_iff_eq, decide_eq_true_eq, decide_eq_false_iff_not, Bool.not_true, Bool.not_false, Bool.not_eq_true', Bool.not_eq_false', Bool.not_not, tn0, tn1, tn2, tn3] at *); (all_goals first | exact True.intro | rfl | exact congrArg (Value.int .i64) (by omega)))
      case round =>
        intro i hi
        cbv
        (repeat' (first | apply And.intro | apply BrB.mk | apply BrP.mk | intro _))
        all_goals try (refine ⟨i + 1, ?_, ?_, ?_⟩)
        all_goals try (show AS.le _ _; (cbv; (repeat' (first | apply And.intro | apply BrB.mk | apply BrP.mk | intro _)); all_goals (subst hA; subst h_c; subst h_fR; subst h_fE; subst h_fY); all_goals (have f_sl := SL.out; have f_sm := SM.out; have f_sa := SA.out; have f_sb := SB.out); all_goals (try simp only [std, stdBin, stdCmp, stdUna, stdIn, ci, beq_iff_eq, bne_iff_ne, beq_eq_false_iff_ne, bne_eq_false_iff_eq, decide_eq_true_eq, decide_eq_false_iff_not, Bool.not_true, Bool.not_false, Bool.not_eq_true', Bool.not_eq_false', Bool.not_not, tn0, tn1, tn2, tn3] at *); (all_goals first | exact True.intro | rfl | exact congrArg (Value.int .i64) (by omega))))
        (all_goals (subst hA; subst h_c; subst h_fR; subst h_fE; subst h_fY); all_goals (have f_sl := SL.out; have f_sm := SM.out; have f_sa := SA.out; have f_sb := SB.out); all_goals (have hN := least3_eq l.length m.length; have hB := least3_le l.length m.length; rw [← HN.out] at hN hB; obtain ⟨n1, n2, n3⟩ := hB; have ha := tmod20 a; have hb := modU b 40 (by decide) (by decide)); all_goals (try simp only [std, stdBin, stdCmp, stdUna, stdIn, ci, beq_iff_eq, bne_iff_ne, beq_eq_false_iff_ne, bne_eq_false_iff_eq, decide_eq_true_eq, decide_eq_false_iff_not, Bool.not_true, Bool.not_false, Bool.not_eq_true', Bool.not_eq_false', Bool.not_not, tn0, tn1, tn2, tn3] at *); all_goals (try simp only [hN, Int.toNat_natCast] at *))
        (all_goals (have ej : j = N := (by omega); subst ej; have e1 : S1 j = rowZ l j := (by rw [HS1.out, mixL_all]; rfl); have e2 : S2 j = rowZ m j := (by rw [HS2.out, mixL_all]; rfl)); all_goals (generalize hX : (if 64 < a.tmod 20 + (20 + IntKind.i64.wrap ((IntKind.u64.wrap b).tmod 40)) then 64 else a.tmod 20 + (20 + IntKind.i64.wrap ((IntKind.u64.wrap b).tmod 40))) = X at *; have bX : 0 ≤ X ∧ X ≤ 64 := (by rw [← hX]; split <;> omega)); all_goals (obtain ⟨E1, R1⟩ := rU_rows f_sl.1 f_sm.1 (N := j) (ea := X) (eb := a.tmod 20) (by omega) (by omega) (by omega); (try simp only [e1, e2] at *); (try simp only [E1, R1] at *); (try simp only [List.length_map, List.length_range, rowZ_len] at *)))
        all_goals (try first | exact True.intro | omega | (refine vb ?_; rfl))
        all_goals (have hij : i < j := (by omega); have gi := getD_mapR (f := addAt ⟨[(j : Int)], X, rowZ l j⟩ ⟨[(j : Int)], a.tmod 20, rowZ m j⟩) hij; have ri := rowZ_in f_sl.1 j i; have si := rowZ_in f_sm.1 j i; have nr := addAt_far f_sl.1 f_sm.1 (N := j) (ea := X) (eb := a.tmod 20) (by omega) (by omega) (by omega) i; (try simp only [gi, nr, tn12, p12] at *))
        all_goals (try first | exact True.intro | omega | contradiction)
        all_goals (split at * <;> first | exact True.intro | omega | contradiction)
      (all_goals (subst hA; subst h_c; subst h_fR; subst h_fE; subst h_fY); all_goals (have f_sl := SL.out; have f_sm := SM.out; have f_sa := SA.out; have f_sb := SB.out); all_goals (have hN := least3_eq l.length m.length; have hB := least3_le l.length m.length; rw [← HN.out] at hN hB; obtain ⟨n1, n2, n3⟩ := hB; have ha := tmod20 a; have hb := modU b 40 (by decide) (by decide)); all_goals (try simp only [std, stdBin, stdCmp, stdUna, stdIn, ci, beq_iff_eq, bne_iff_ne, beq_eq_false_iff_ne, bne_eq_false_iff_eq, decide_eq_true_eq, decide_eq_false_iff_not, Bool.not_true, Bool.not_false, Bool.not_eq_true', Bool.not_eq_false', Bool.not_not, tn0, tn1, tn2, tn3] at *); all_goals (try simp only [hN, Int.toNat_natCast] at *))
      (all_goals (have ej : j = N := (by omega); subst ej; have e1 : S1 j = rowZ l j := (by rw [HS1.out, mixL_all]; rfl); have e2 : S2 j = rowZ m j := (by rw [HS2.out, mixL_all]; rfl)); all_goals (generalize hX : (if 64 < a.tmod 20 + (20 + IntKind.i64.wrap ((IntKind.u64.wrap b).tmod 40)) then 64 else a.tmod 20 + (20 + IntKind.i64.wrap ((IntKind.u64.wrap b).tmod 40))) = X at *; have bX : 0 ≤ X ∧ X ≤ 64 := (by rw [← hX]; split <;> omega)); all_goals (obtain ⟨E1, R1⟩ := rU_rows f_sl.1 f_sm.1 (N := j) (ea := X) (eb := a.tmod 20) (by omega) (by omega) (by omega); (try simp only [e1, e2] at *); (try simp only [E1, R1] at *); (try simp only [List.length_map, List.length_range, rowZ_len] at *)))
      all_goals (try have nx := addX_far (a := X) (b := a.tmod 20) (by omega))
      all_goals (try simp only [nx] at *)
      all_goals (try first | exact True.intro | omega | contradiction | (refine vb ?_; rfl))
  (all_goals (subst hA; subst h_c; subst h_fR; subst h_fE; subst h_fY); all_goals (have f_sl := SL.out; have f_sm := SM.out; have f_sa := SA.out; have f_sb := SB.out); all_goals (have hN := least3_eq l.length m.length; have hB := least3_le l.length m.length; rw [← HN.out] at hN hB; obtain ⟨n1, n2, n3⟩ := hB; have ha := tmod20 a; have hb := modU b 40 (by decide) (by decide)); all_goals (try simp only [std, stdBin, stdCmp, stdUna, stdIn, ci, beq_iff_eq, bne_iff_ne, beq_eq_false_iff_ne, bne_eq_false_iff_eq, decide_eq_true_eq, decide_eq_false_iff_not, Bool.not_true, Bool.not_false, Bool.not_eq_true', Bool.not_eq_false', Bool.not_not, tn0, tn1, tn2, tn3] at *); all_goals (try simp only [hN, Int.toNat_natCast] at *))
  all_goals (first | exact True.intro | omega | contradiction | (refine vb ?_; rfl))
end Go.Proofs.Ythclcnidbnbkcaa
