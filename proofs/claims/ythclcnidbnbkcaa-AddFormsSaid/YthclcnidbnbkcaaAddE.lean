/- Layer 14: the document's sums of two. -/
import Derived.Test.YthclcnidbnbkcaaAddD
namespace Go.Proofs.Ythclcnidbnbkcaa
open Go.RowKit
set_option maxRecDepth 100000
set_option linter.unusedSimpArgs false
set_option linter.unusedVariables false
set_option maxHeartbeats 8000000
set_option cbv.maxSteps 10000000
theorem may_sz {D L : List Int} {e : Int} (h : mayB ⟨D, e, L⟩ = true) : szD D = (L.length : Int) ∧ mayD D = true := by
  have := (mayB_eq D L e).1 h
  exact ⟨this.2.1.symm, this.1⟩
theorem addX_in {a b : Int} (h1 : -64 ≤ a ∧ a ≤ 64) (h2 : -64 ≤ b ∧ b ≤ 64) : -128 ≤ addX a b ∧ addX a b ≤ 128 := by
  unfold addX
  split <;> split <;> (try split) <;> omega
theorem addX_fold (a b : Int) : (if (if b > a then b else a) - 12 > (if b < a then b else a) then (if b > a then b else a) - 12 else (if b < a then b else a)) = addX a b := rfl
theorem addErr_zero {a b : Tn} (h : addErr a b = 0) : (mayB a && mayB b) = true ∧ a.dims = b.dims := by
  unfold addErr at h
  by_cases h1 : (mayB a && mayB b) = true
  · rw [if_pos h1] at h
    by_cases h2 : a.dims = b.dims
    · exact ⟨h1, h2⟩
    · rw [if_neg h2] at h; omega
  · rw [if_neg h1] at h; omega
theorem acc_one {a b : Tn} (h : mayAddB a = false ∨ mayAddB b = false) : accErr a b = 1 := by
  unfold accErr
  rw [if_neg]
  rcases h with h | h <;> rw [h] <;> simp
theorem acc_two {a b : Tn} (h1 : mayAddB a = true) (h2 : mayAddB b = true) (h : ¬ (a.dims = b.dims ∧ a.exp = b.exp)) : accErr a b = 2 := by
  unfold accErr
  rw [h1, h2, if_pos (by rfl), if_neg h]
theorem mayAdd_acc {t : Tn} (h : mayAccB t = false) : mayAddB t = false := by
  unfold mayAddB; rw [h]; rfl
theorem mayAdd_at {t : Tn} {i : Nat} (hi : i < t.data.length) (h : inB (t.data.getD i 0) = false) : mayAddB t = false := by
  unfold mayAddB allB
  rw [allTo_false (x := i) hi h, Bool.and_false]
theorem mayAdd_of {t : Tn} (h : mayAccB t = true) (g : ∀ i, i < t.data.length → inB (t.data.getD i 0) = true) : mayAddB t = true := by
  unfold mayAddB allB
  rw [h, allTo_true.2 g]; rfl
theorem radd_ok : CtrOk Try.prog 25 (resC [tnTy .i8, tnTy .i8] .i32 3 21 (t2 addErr 0) (t2 addRes ⟨[], 0, []⟩)) := by
  obtain ⟨G, hG⟩ : ∃ G : List (FuncId × Ctr), G = [(33, boolC [.sl (tnTy .i8)] mayAllF), (23, boolC [.sl (.int .i64), .sl (.int .i64)] eqF), (34, boolC [.sl (.int .i64)] shMayF), (38, intC [.sl (.int .i64)] .i64 szF), (41, intC [.int .i64, .int .i64, .int .i64] .i64 alF)] := ⟨_, rfl⟩
  refine fn_inl (ck := true) [(40, Try.f40)] ⟨⟨Try.func40, by unfold FnOk; kernel_rfl, by kernel_rfl⟩, trivial⟩ Try.func25 rfl tt_ok (G := G) (by rw [hG]; exact ⟨⟨rtmay_ok, by unfold FnOk; kernel_rfl⟩, ⟨rsame_ok, by unfold FnOk; kernel_rfl⟩, ⟨rmay_ok, by unfold FnOk; kernel_rfl⟩, ⟨rsize_ok, by unfold FnOk; kernel_rfl⟩, ⟨ral_ok, by unfold FnOk; kernel_rfl⟩, trivial⟩) mixed (by kernel_rfl) ?_
  intro xa xs h hx hp
  obtain ⟨a0, as0, x0, xs0, rfl, rfl, h0, H1⟩ := svArgs_cons h
  obtain ⟨a1, as1, x1, xs1, rfl, rfl, h1, H2⟩ := svArgs_cons H1
  obtain ⟨rfl, rfl⟩ := svArgs_nil H2
  obtain ⟨⟨aD, aE, aL⟩, rfl, rfl⟩ := argSV_tn h0
  obtain ⟨⟨bD, bE, bL⟩, rfl, rfl⟩ := argSV_tn h1
  have sa : (Fits .i64 aD ∧ ci aD.length ≤ 9223372036854775807) ∧ (-9223372036854775808 ≤ aE ∧ aE ≤ 9223372036854775807) ∧ Fits .i8 aL ∧ ci aL.length ≤ 9223372036854775807 := svf_tn (hx (Tn.sv .i8 ⟨aD, aE, aL⟩) (by simp))
  have sb : (Fits .i64 bD ∧ ci bD.length ≤ 9223372036854775807) ∧ (-9223372036854775808 ≤ bE ∧ bE ≤ 9223372036854775807) ∧ Fits .i8 bL ∧ ci bL.length ≤ 9223372036854775807 := svf_tn (hx (Tn.sv .i8 ⟨bD, bE, bL⟩) (by simp))
  have SA := Lib.hid sa
  clear sa
  have SB := Lib.hid sb
  clear sb
  clear hx hp h h0 H1 h1 H2
  generalize hA : std = A
  subst hG
  generalize h_c : ci = c
  generalize h_fm : mayAllF = fm
  generalize h_fs : eqF = fs
  generalize h_fd : shMayF = fd
  generalize h_fz : szF = fz
  generalize h_fa : alF = fa
  generalize h_fR : t2 addRes ⟨[], 0, []⟩ = fR
  generalize h_fE : t2 addErr 0 = fE
  obtain ⟨S, hS⟩ : ∃ S : Nat → List Int, ∀ j, S j = mixL (fun _ => 0) (addAt ⟨aD, aE, aL⟩ ⟨bD, bE, bL⟩) aL.length j := ⟨_, fun _ => rfl⟩
  have HS := Lib.hid hS
  clear hS
  cbv
  (repeat' (first | apply And.intro | apply BrB.mk | apply BrP.mk | intro _))
  all_goals try (exfalso; (subst hA; subst h_c; subst h_fm; subst h_fs; subst h_fd; subst h_fz; subst h_fa; subst h_fR; subst h_fE); (have f_sa := SA.out; have f_sb := SB.out); (try simp only [std, stdBin, stdCmp, stdUna, stdIn, ci, beq_iff_eq, bne_iff_ne, beq_eq_false_iff_ne, bne_eq_false_iff_eq, decide_eq_true_eq, decide_eq_false_iff_not, Bool.not_true, Bool.not_false, Bool.not_eq_true', Bool.not_eq_false', Bool.not_not, tn0, tn1, tn2, tn3, t2, mayD2, eqF, addX_fold, szF, shMayF] at *); first | contradiction | omega | (all_goals (have c3 : (mayB ⟨aD, aE, aL⟩ && mayB ⟨bD, bE, bL⟩) = true := (by assumption); have hm := may_lens (g := ⟨aD, aE, aL⟩) (x := ⟨bD, bE, bL⟩) c3 (by assumption); rw [Bool.and_eq_true] at c3; have x1 := may_exp c3.1; have x2 := may_exp c3.2; have x3 := may_sz c3.1; have x4 := addX_in x1 x2; simp only at hm x1 x2 x4); first | omega | (rw [x3.2] at *; contradiction) | (simp_all; done)))
  all_goals try (refine loop_at Nat 46 (fun j => [(9, .any), (46, .v (.int .i64 (c j)))]) (fun j o => o.set 6 (.irow 21 .i32 (S j))) (fun j => j ≤ aL.length) (fun j => aL.length - j) 0 (Nat.zero_le _) ?hle ?round)
  case hle =>
    cbv
    (repeat' (first | apply And.intro | apply BrB.mk | apply BrP.mk | intro _))
    (all_goals (subst hA; subst h_c; subst h_fm; subst h_fs; subst h_fd; subst h_fz; subst h_fa; subst h_fR; subst h_fE); all_goals (have f_sa := SA.out; have f_sb := SB.out); all_goals (try simp only [std, stdBin, stdCmp, stdUna, stdIn, ci, beq_iff_eq, bne_iff_ne, beq_eq_false_iff_ne, bne_eq_false_iff_eq, decide_eq_true_eq, decide_eq_false_iff_not, Bool.not_true, Bool.not_false, Bool.not_eq_true', Bool.not_eq_false', Bool.not_not, tn0, tn1, tn2, tn3, t2, mayD2, eqF, addX_fold, szF, shMayF] at *); all_goals (try omega))
    all_goals (have c3 : (mayB ⟨aD, aE, aL⟩ && mayB ⟨bD, bE, bL⟩) = true := (by assumption); have hm := may_lens (g := ⟨aD, aE, aL⟩) (x := ⟨bD, bE, bL⟩) c3 (by assumption); rw [Bool.and_eq_true] at c3; have x1 := may_exp c3.1; have x2 := may_exp c3.2; have x3 := may_sz c3.1; have x4 := addX_in x1 x2; simp only at hm x1 x2 x4)
    all_goals first | exact True.intro | rfl | skip
    rw [HS.out, mixL_nil, x3.1, Int.toNat_natCast]
  case round =>
    intro j hj
    cbv
    refine BrB.mk (fun gx => ?yx) (fun gx => ?nx)
    case yx =>
      (repeat' (first | apply And.intro | apply BrB.mk | apply BrP.mk | intro _))
      all_goals try (refine ⟨j + 1, ?jI, ?jL, ?jM⟩)
      case jL =>
        cbv
        (repeat' (first | apply And.intro | apply BrB.mk | apply BrP.mk | intro _))
        (all_goals (subst hA; subst h_c; subst h_fm; subst h_fs; subst h_fd; subst h_fz; subst h_fa; subst h_fR; subst h_fE); all_goals (have f_sa := SA.out; have f_sb := SB.out); all_goals (try simp only [std, stdBin, stdCmp, stdUna, stdIn, ci, beq_iff_eq, bne_iff_ne, beq_eq_false_iff_ne, bne_eq_false_iff_eq, decide_eq_true_eq, decide_eq_false_iff_not, Bool.not_true, Bool.not_false, Bool.not_eq_true', Bool.not_eq_false', Bool.not_not, tn0, tn1, tn2, tn3, t2, mayD2, eqF, alF, addX_fold, szF, shMayF, Int.toNat_natCast] at *); all_goals (try omega))
        all_goals (have c3 : (mayB ⟨aD, aE, aL⟩ && mayB ⟨bD, bE, bL⟩) = true := (by assumption); have hm := may_lens (g := ⟨aD, aE, aL⟩) (x := ⟨bD, bE, bL⟩) c3 (by assumption); rw [Bool.and_eq_true] at c3; have x1 := may_exp c3.1; have x2 := may_exp c3.2; have x3 := may_sz c3.1; have x4 := addX_in x1 x2; simp only at hm x1 x2 x4)
        all_goals first | exact True.intro | rfl | skip
        have q := addAt_in (a := ⟨aD, aE, aL⟩) (b := ⟨bD, bE, bL⟩) f_sa.2.2.1 f_sb.2.2.1 j
        rw [HS.out, HS.out]
        refine mixL_store (by simp only [List.length_replicate, x3.1, Int.toNat_natCast] at gx; omega) ?_
        show IntKind.i32.wrap (addAt ⟨aD, aE, aL⟩ ⟨bD, bE, bL⟩ j) = _
        rw [w32 (by omega) (by omega)]
      (all_goals (subst hA; subst h_c; subst h_fm; subst h_fs; subst h_fd; subst h_fz; subst h_fa; subst h_fR; subst h_fE); all_goals (have f_sa := SA.out; have f_sb := SB.out); all_goals (try simp only [std, stdBin, stdCmp, stdUna, stdIn, ci, beq_iff_eq, bne_iff_ne, beq_eq_false_iff_ne, bne_eq_false_iff_eq, decide_eq_true_eq, decide_eq_false_iff_not, Bool.not_true, Bool.not_false, Bool.not_eq_true', Bool.not_eq_false', Bool.not_not, tn0, tn1, tn2, tn3, t2, mayD2, eqF, alF, addX_fold, szF, shMayF, Int.toNat_natCast] at *); all_goals (try omega))
      all_goals (have c3 : (mayB ⟨aD, aE, aL⟩ && mayB ⟨bD, bE, bL⟩) = true := (by assumption); have hm := may_lens (g := ⟨aD, aE, aL⟩) (x := ⟨bD, bE, bL⟩) c3 (by assumption); rw [Bool.and_eq_true] at c3; have x1 := may_exp c3.1; have x2 := may_exp c3.2; have x3 := may_sz c3.1; have x4 := addX_in x1 x2; simp only at hm x1 x2 x4)
      all_goals (have q := addAt_in (a := ⟨aD, aE, aL⟩) (b := ⟨bD, bE, bL⟩) f_sa.2.2.1 f_sb.2.2.1 j)
      all_goals (simp only [x3.1, List.length_replicate, Int.toNat_natCast] at gx)
      all_goals (try (rw [HS.out, mixL_len]))
      all_goals (try omega)
      show -9223372036854775808 ≤ addAt ⟨aD, aE, aL⟩ ⟨bD, bE, bL⟩ j ∧ addAt ⟨aD, aE, aL⟩ ⟨bD, bE, bL⟩ j ≤ 9223372036854775807
      omega
    case nx =>
      (repeat' (first | apply And.intro | apply BrB.mk | apply BrP.mk | intro _))
      (all_goals (subst hA; subst h_c; subst h_fm; subst h_fs; subst h_fd; subst h_fz; subst h_fa; subst h_fR; subst h_fE); all_goals (have f_sa := SA.out; have f_sb := SB.out); all_goals (try simp only [std, stdBin, stdCmp, stdUna, stdIn, ci, beq_iff_eq, bne_iff_ne, beq_eq_false_iff_ne, bne_eq_false_iff_eq, decide_eq_true_eq, decide_eq_false_iff_not, Bool.not_true, Bool.not_false, Bool.not_eq_true', Bool.not_eq_false', Bool.not_not, tn0, tn1, tn2, tn3, t2, mayD2, eqF, addX_fold, szF, shMayF] at *); all_goals (try omega))
      all_goals (have c3 : (mayB ⟨aD, aE, aL⟩ && mayB ⟨bD, bE, bL⟩) = true := (by assumption); have hm := may_lens (g := ⟨aD, aE, aL⟩) (x := ⟨bD, bE, bL⟩) c3 (by assumption); rw [Bool.and_eq_true] at c3; have x1 := may_exp c3.1; have x2 := may_exp c3.2; have x3 := may_sz c3.1; have x4 := addX_in x1 x2; simp only at hm x1 x2 x4)
      all_goals (simp only [x3.1, List.length_replicate, Int.toNat_natCast] at gx)
      all_goals first | rfl | skip
      · rw [HS.out, show j = aL.length by omega, mixL_all]
        rfl
      · simp only [addErr] at *
        simp_all
  (all_goals (subst hA; subst h_c; subst h_fm; subst h_fs; subst h_fd; subst h_fz; subst h_fa; subst h_fR; subst h_fE); all_goals (have f_sa := SA.out; have f_sb := SB.out); all_goals (try simp only [std, stdBin, stdCmp, stdUna, stdIn, ci, beq_iff_eq, bne_iff_ne, beq_eq_false_iff_ne, bne_eq_false_iff_eq, decide_eq_true_eq, decide_eq_false_iff_not, Bool.not_true, Bool.not_false, Bool.not_eq_true', Bool.not_eq_false', Bool.not_not, tn0, tn1, tn2, tn3, t2, mayD2, eqF, addX_fold, szF, shMayF] at *); all_goals (try omega))
  all_goals (try (exfalso; have q := addErr_zero (a := ⟨aD, aE, aL⟩) (b := ⟨bD, bE, bL⟩) (by assumption); first | (have h0 : (mayB ⟨aD, aE, aL⟩ && mayB ⟨bD, bE, bL⟩) = false := (by assumption); rw [q.1] at h0; cases h0) | (have h0 : (aD == bD) = false := (by assumption); have h1 : aD = bD := q.2; rw [h1] at h0; simp at h0; done) | (have h0 : ¬ aD = bD := (by assumption); exact h0 q.2)))
  all_goals (try (simp only [addErr] at *; simp_all; done))
  all_goals (have c3 : (mayB ⟨aD, aE, aL⟩ && mayB ⟨bD, bE, bL⟩) = true := (by assumption); have hm := may_lens (g := ⟨aD, aE, aL⟩) (x := ⟨bD, bE, bL⟩) c3 (by assumption); rw [Bool.and_eq_true] at c3; have x1 := may_exp c3.1; have x2 := may_exp c3.2; have x3 := may_sz c3.1; have x4 := addX_in x1 x2; simp only at hm x1 x2 x4)
  all_goals (first | omega | (split <;> omega) | (rw [x3.1]; omega) | trace_state)
theorem raddU_ok : CtrOk Try.prog 25 (resU [tnTy .i8, tnTy .i8] .i32 3 21 (t2 addErr 0) (rU (t2 addErr 0) (t2 addRes ⟨[], 0, []⟩))) := by
  exact resU_of radd_ok
theorem rmayAcc_ok : CtrOk Try.prog 44 (boolC [tnTy .i32] mayAccF) := by
  obtain ⟨G, hG⟩ : ∃ G : List (FuncId × Ctr), G = [(34, boolC [.sl (.int .i64)] shMayF), (38, intC [.sl (.int .i64)] .i64 szF)] := ⟨_, rfl⟩
  refine fn_ok (ck := true) Try.func44 rfl tt_ok (G := G) (by rw [hG]; exact ⟨⟨rmay_ok, by unfold FnOk; kernel_rfl⟩, ⟨rsize_ok, by unfold FnOk; kernel_rfl⟩, trivial⟩) mixed (by kernel_rfl) ?_
  intro xa xs h hx hp
  obtain ⟨a0, as0, x0, xs0, rfl, rfl, h0, H1⟩ := svArgs_cons h
  obtain ⟨rfl, rfl⟩ := svArgs_nil H1
  obtain ⟨⟨aD, aE, aL⟩, rfl, rfl⟩ := argSV_tn h0
  have sa : (Fits .i64 aD ∧ ci aD.length ≤ 9223372036854775807) ∧ (-9223372036854775808 ≤ aE ∧ aE ≤ 9223372036854775807) ∧ Fits .i32 aL ∧ ci aL.length ≤ 9223372036854775807 := svf_tn (hx (Tn.sv .i32 ⟨aD, aE, aL⟩) (by simp))
  have SA := Lib.hid sa
  clear sa
  clear hx hp h h0 H1
  generalize hA : std = A
  subst hG
  generalize h_c : ci = c
  generalize h_fd : shMayF = fd
  generalize h_fz : szF = fz
  generalize h_fR : mayAccF = fR
  cbv
  (repeat' (first | apply And.intro | apply BrB.mk | apply BrP.mk | intro _))
  (all_goals (subst hA; subst h_c; subst h_fd; subst h_fz; subst h_fR); all_goals (have f_sa := SA.out); all_goals (try simp only [std, stdBin, stdCmp, stdUna, stdIn, ci, beq_iff_eq, bne_iff_ne, beq_eq_false_iff_ne, bne_eq_false_iff_eq, decide_eq_true_eq, decide_eq_false_iff_not, Bool.not_true, Bool.not_false, Bool.not_eq_true', Bool.not_eq_false', Bool.not_not, tn0, tn1, tn2, tn3, shMayF, szF, mayAccF, mayAccB, expB] at *); all_goals (try omega))
  all_goals (refine vb ?_; show mayAccB ⟨aD, aE, aL⟩ = _; simp only [mayAccB, expB])
  all_goals first | omega | (simp_all; done) | (simp_all; omega) | trace_state
theorem mayAdd_sz {t : Tn} (h : mayAddB t = true) : szD t.dims = (t.data.length : Int) := by
  unfold mayAddB mayAccB at h
  simp only [Bool.and_eq_true, decide_eq_true_eq] at h
  omega
theorem mayAdd_may {t : Tn} (h : mayAddB t = true) : mayD t.dims = true := by
  unfold mayAddB mayAccB at h
  simp only [Bool.and_eq_true, decide_eq_true_eq] at h
  simp_all
theorem racc_ok : CtrOk Try.prog 27 (resC [tnTy .i32, tnTy .i32] .i32 3 21 (t2 accErr 0) (t2 accRes ⟨[], 0, []⟩)) := by
  obtain ⟨G, hG⟩ : ∃ G : List (FuncId × Ctr), G = [(44, boolC [tnTy .i32] mayAccF), (23, boolC [.sl (.int .i64), .sl (.int .i64)] eqF), (34, boolC [.sl (.int .i64)] shMayF), (38, intC [.sl (.int .i64)] .i64 szF)] := ⟨_, rfl⟩
  refine fn_inl (ck := true) [(40, Try.f40)] ⟨⟨Try.func40, by unfold FnOk; kernel_rfl, by kernel_rfl⟩, trivial⟩ Try.func27 rfl tt_ok (G := G) (by rw [hG]; exact ⟨⟨rmayAcc_ok, by unfold FnOk; kernel_rfl⟩, ⟨rsame_ok, by unfold FnOk; kernel_rfl⟩, ⟨rmay_ok, by unfold FnOk; kernel_rfl⟩, ⟨rsize_ok, by unfold FnOk; kernel_rfl⟩, trivial⟩) mixed (by kernel_rfl) ?_
  intro xa xs h hx hp
  obtain ⟨a0, as0, x0, xs0, rfl, rfl, h0, H1⟩ := svArgs_cons h
  obtain ⟨a1, as1, x1, xs1, rfl, rfl, h1, H2⟩ := svArgs_cons H1
  obtain ⟨rfl, rfl⟩ := svArgs_nil H2
  obtain ⟨⟨aD, aE, aL⟩, rfl, rfl⟩ := argSV_tn h0
  obtain ⟨⟨bD, bE, bL⟩, rfl, rfl⟩ := argSV_tn h1
  have sa : (Fits .i64 aD ∧ ci aD.length ≤ 9223372036854775807) ∧ (-9223372036854775808 ≤ aE ∧ aE ≤ 9223372036854775807) ∧ Fits .i32 aL ∧ ci aL.length ≤ 9223372036854775807 := svf_tn (hx (Tn.sv .i32 ⟨aD, aE, aL⟩) (by simp))
  have sb : (Fits .i64 bD ∧ ci bD.length ≤ 9223372036854775807) ∧ (-9223372036854775808 ≤ bE ∧ bE ≤ 9223372036854775807) ∧ Fits .i32 bL ∧ ci bL.length ≤ 9223372036854775807 := svf_tn (hx (Tn.sv .i32 ⟨bD, bE, bL⟩) (by simp))
  have SA := Lib.hid sa
  clear sa
  have SB := Lib.hid sb
  clear sb
  clear hx hp h h0 H1 h1 H2
  generalize hA : std = A
  subst hG
  generalize h_c : ci = c
  generalize h_fm : mayAccF = fm
  generalize h_fs : eqF = fs
  generalize h_fd : shMayF = fd
  generalize h_fz : szF = fz
  generalize h_fE : t2 accErr 0 = fE
  generalize h_fR : t2 accRes ⟨[], 0, []⟩ = fR
  obtain ⟨S, hS⟩ : ∃ S : Nat → List Int, ∀ j, S j = mixL (fun _ => 0) (fun i => aL.getD i 0 + bL.getD i 0) aL.length j := ⟨_, fun _ => rfl⟩
  have HS := Lib.hid hS
  clear hS
  cbv
  (repeat' (first | apply And.intro | apply BrB.mk | apply BrP.mk | intro _))
  all_goals try (refine loop_at Nat 17 (fun j => [(5, .v (.int .i64 0)), (7, .any), (9, .any), (17, match j with | 0 => .v (.int .i64 0) | 1 => .v (.int .i64 1) | _ => .v (.int .i64 2))]) (fun j o => o) (fun j => j ≤ 2 ∧ (1 ≤ j → mayAddB ⟨aD, aE, aL⟩ = true) ∧ (2 ≤ j → mayAddB ⟨bD, bE, bL⟩ = true)) (fun j => 2 - j) 0 ?h0 ?hle ?round)
  case h0 => exact ⟨Nat.zero_le _, by omega, by omega⟩
  case hle => (cbv; (repeat' (first | apply And.intro | apply BrB.mk | apply BrP.mk | intro _)); all_goals (subst hA; subst h_c; subst h_fm; subst h_fs; subst h_fd; subst h_fz; subst h_fE; subst h_fR); all_goals (have f_sa := SA.out; have f_sb := SB.out); all_goals (try simp only [std, stdBin, stdCmp, stdUna, stdIn, ci, beq_iff_eq, bne_iff_ne, beq_eq_false_iff_ne, bne_eq_false_iff_eq, decide_eq_true_eq, decide_eq_false_iff_not, Bool.not_true, Bool.not_false, Bool.not_eq_true', Bool.not_eq_false', Bool.not_not, tn0, tn1, tn2, tn3] at *); (all_goals first | exact True.intro | rfl | exact congrArg (Value.int .i64) (by omega)))
  case round =>
    rintro (_ | _ | _ | j) ⟨hj, ha, hb⟩
    · cbv
      (repeat' (first | apply And.intro | apply BrB.mk | apply BrP.mk | intro _))
      all_goals try (refine loop_at Nat 27 (fun i => [(5, .v (.int .i64 0)), (9, .any), (27, .v (.int .i64 (c i)))]) (fun i o => o) (fun i => i ≤ aL.length ∧ ∀ q, q < i → inB (aL.getD q 0) = true) (fun i => aL.length - i) 0 ⟨Nat.zero_le _, fun q hq => absurd hq (Nat.not_lt_zero _)⟩ ?hlea ?rounda)
      case hlea => (cbv; (repeat' (first | apply And.intro | apply BrB.mk | apply BrP.mk | intro _)); all_goals (subst hA; subst h_c; subst h_fm; subst h_fs; subst h_fd; subst h_fz; subst h_fE; subst h_fR); all_goals (have f_sa := SA.out; have f_sb := SB.out); all_goals (try simp only [std, stdBin, stdCmp, stdUna, stdIn, ci, beq_iff_eq, bne_iff_ne, beq_eq_false_iff_ne, bne_eq_false_iff_eq, decide_eq_true_eq, decide_eq_false_iff_not, Bool.not_true, Bool.not_false, Bool.not_eq_true', Bool.not_eq_false', Bool.not_not, tn0, tn1, tn2, tn3] at *); (all_goals first | exact True.intro | rfl | exact congrArg (Value.int .i64) (by omega)))
      case rounda =>
        intro i hi
        cbv
        refine BrB.mk (fun gx => ?yxa) (fun gx => ?nxa)
        case yxa =>
          (repeat' (first | apply And.intro | apply BrB.mk | apply BrP.mk | intro _))
          all_goals try (refine ⟨i + 1, ?_, ?_, ?_⟩)
          all_goals try (show AS.le _ _; (cbv; (repeat' (first | apply And.intro | apply BrB.mk | apply BrP.mk | intro _)); all_goals (subst hA; subst h_c; subst h_fm; subst h_fs; subst h_fd; subst h_fz; subst h_fE; subst h_fR); all_goals (have f_sa := SA.out; have f_sb := SB.out); all_goals (try simp only [std, stdBin, stdCmp, stdUna, stdIn, ci, beq_iff_eq, bne_iff_ne, beq_eq_false_iff_ne, bne_eq_false_iff_eq, decide_eq_true_eq, decide_eq_false_iff_not, Bool.not_true, Bool.not_false, Bool.not_eq_true', Bool.not_eq_false', Bool.not_not, tn0, tn1, tn2, tn3] at *); (all_goals first | exact True.intro | rfl | exact congrArg (Value.int .i64) (by omega))))
          (all_goals (subst hA; subst h_c; subst h_fm; subst h_fs; subst h_fd; subst h_fz; subst h_fE; subst h_fR); all_goals (have f_sa := SA.out; have f_sb := SB.out); all_goals (try simp only [std, stdBin, stdCmp, stdUna, stdIn, ci, beq_iff_eq, bne_iff_ne, beq_eq_false_iff_ne, bne_eq_false_iff_eq, decide_eq_true_eq, decide_eq_false_iff_not, Bool.not_true, Bool.not_false, Bool.not_eq_true', Bool.not_eq_false', Bool.not_not, tn0, tn1, tn2, tn3, t2, mayAccF, Int.toNat_natCast] at *); all_goals (try omega))
          all_goals first
            | omega
            | (have hf : inB (aL.getD i 0) = false := decide_eq_false (by omega)
               have e1 : accErr ⟨aD, aE, aL⟩ ⟨bD, bE, bL⟩ = 1 := acc_one (.inl (mayAdd_at (t := ⟨aD, aE, aL⟩) (i := i) (by simp only; omega) hf))
               first | (exfalso; omega) | (rw [e1]))
            | (refine ⟨by omega, fun q hq => ?_⟩
               by_cases e : q = i
               · subst e; exact decide_eq_true (by omega)
               · exact hi.2 q (by omega))
            | trace_state
        case nxa =>
          (repeat' (first | apply And.intro | apply BrB.mk | apply BrP.mk | intro _))
          all_goals try (refine ⟨1, ?_, ?_, ?_⟩)
          all_goals try (show AS.le _ _; (cbv; (repeat' (first | apply And.intro | apply BrB.mk | apply BrP.mk | intro _)); all_goals (subst hA; subst h_c; subst h_fm; subst h_fs; subst h_fd; subst h_fz; subst h_fE; subst h_fR); all_goals (have f_sa := SA.out; have f_sb := SB.out); all_goals (try simp only [std, stdBin, stdCmp, stdUna, stdIn, ci, beq_iff_eq, bne_iff_ne, beq_eq_false_iff_ne, bne_eq_false_iff_eq, decide_eq_true_eq, decide_eq_false_iff_not, Bool.not_true, Bool.not_false, Bool.not_eq_true', Bool.not_eq_false', Bool.not_not, tn0, tn1, tn2, tn3] at *); (all_goals first | exact True.intro | rfl | exact congrArg (Value.int .i64) (by omega))))
          (all_goals (subst hA; subst h_c; subst h_fm; subst h_fs; subst h_fd; subst h_fz; subst h_fE; subst h_fR); all_goals (have f_sa := SA.out; have f_sb := SB.out); all_goals (try simp only [std, stdBin, stdCmp, stdUna, stdIn, ci, beq_iff_eq, bne_iff_ne, beq_eq_false_iff_ne, bne_eq_false_iff_eq, decide_eq_true_eq, decide_eq_false_iff_not, Bool.not_true, Bool.not_false, Bool.not_eq_true', Bool.not_eq_false', Bool.not_not, tn0, tn1, tn2, tn3, t2, mayAccF, Int.toNat_natCast] at *); all_goals (try omega))
          all_goals first
            | omega
            | (have hm : mayAddB ⟨aD, aE, aL⟩ = true := mayAdd_of (by assumption) (fun q hq => hi.2 q (by simp only at hq; omega))
               exact ⟨by omega, fun _ => hm, fun h => (by omega)⟩)
            | trace_state
      (all_goals (subst hA; subst h_c; subst h_fm; subst h_fs; subst h_fd; subst h_fz; subst h_fE; subst h_fR); all_goals (have f_sa := SA.out; have f_sb := SB.out); all_goals (try simp only [std, stdBin, stdCmp, stdUna, stdIn, ci, beq_iff_eq, bne_iff_ne, beq_eq_false_iff_ne, bne_eq_false_iff_eq, decide_eq_true_eq, decide_eq_false_iff_not, Bool.not_true, Bool.not_false, Bool.not_eq_true', Bool.not_eq_false', Bool.not_not, tn0, tn1, tn2, tn3, t2, mayAccF, Int.toNat_natCast] at *); all_goals (try omega))
      all_goals (have e1 : accErr ⟨aD, aE, aL⟩ ⟨bD, bE, bL⟩ = 1 := acc_one (.inl (mayAdd_acc (by assumption))))
      all_goals first | (exfalso; omega) | (rw [e1]) | trace_state
    · cbv
      (repeat' (first | apply And.intro | apply BrB.mk | apply BrP.mk | intro _))
      all_goals try (refine loop_at Nat 27 (fun i => [(5, .v (.int .i64 0)), (9, .any), (27, .v (.int .i64 (c i)))]) (fun i o => o) (fun i => i ≤ bL.length ∧ ∀ q, q < i → inB (bL.getD q 0) = true) (fun i => bL.length - i) 0 ⟨Nat.zero_le _, fun q hq => absurd hq (Nat.not_lt_zero _)⟩ ?hleb ?roundb)
      case hleb => (cbv; (repeat' (first | apply And.intro | apply BrB.mk | apply BrP.mk | intro _)); all_goals (subst hA; subst h_c; subst h_fm; subst h_fs; subst h_fd; subst h_fz; subst h_fE; subst h_fR); all_goals (have f_sa := SA.out; have f_sb := SB.out); all_goals (try simp only [std, stdBin, stdCmp, stdUna, stdIn, ci, beq_iff_eq, bne_iff_ne, beq_eq_false_iff_ne, bne_eq_false_iff_eq, decide_eq_true_eq, decide_eq_false_iff_not, Bool.not_true, Bool.not_false, Bool.not_eq_true', Bool.not_eq_false', Bool.not_not, tn0, tn1, tn2, tn3] at *); (all_goals first | exact True.intro | rfl | exact congrArg (Value.int .i64) (by omega)))
      case roundb =>
        intro i hi
        cbv
        refine BrB.mk (fun gx => ?yxb) (fun gx => ?nxb)
        case yxb =>
          (repeat' (first | apply And.intro | apply BrB.mk | apply BrP.mk | intro _))
          all_goals try (refine ⟨i + 1, ?_, ?_, ?_⟩)
          all_goals try (show AS.le _ _; (cbv; (repeat' (first | apply And.intro | apply BrB.mk | apply BrP.mk | intro _)); all_goals (subst hA; subst h_c; subst h_fm; subst h_fs; subst h_fd; subst h_fz; subst h_fE; subst h_fR); all_goals (have f_sa := SA.out; have f_sb := SB.out); all_goals (try simp only [std, stdBin, stdCmp, stdUna, stdIn, ci, beq_iff_eq, bne_iff_ne, beq_eq_false_iff_ne, bne_eq_false_iff_eq, decide_eq_true_eq, decide_eq_false_iff_not, Bool.not_true, Bool.not_false, Bool.not_eq_true', Bool.not_eq_false', Bool.not_not, tn0, tn1, tn2, tn3] at *); (all_goals first | exact True.intro | rfl | exact congrArg (Value.int .i64) (by omega))))
          (all_goals (subst hA; subst h_c; subst h_fm; subst h_fs; subst h_fd; subst h_fz; subst h_fE; subst h_fR); all_goals (have f_sa := SA.out; have f_sb := SB.out); all_goals (try simp only [std, stdBin, stdCmp, stdUna, stdIn, ci, beq_iff_eq, bne_iff_ne, beq_eq_false_iff_ne, bne_eq_false_iff_eq, decide_eq_true_eq, decide_eq_false_iff_not, Bool.not_true, Bool.not_false, Bool.not_eq_true', Bool.not_eq_false', Bool.not_not, tn0, tn1, tn2, tn3, t2, mayAccF, Int.toNat_natCast] at *); all_goals (try omega))
          all_goals first
            | omega
            | (have hf : inB (bL.getD i 0) = false := decide_eq_false (by omega)
               have e1 : accErr ⟨aD, aE, aL⟩ ⟨bD, bE, bL⟩ = 1 := acc_one (.inr (mayAdd_at (t := ⟨bD, bE, bL⟩) (i := i) (by simp only; omega) hf))
               first | (exfalso; omega) | (rw [e1]))
            | (refine ⟨by omega, fun q hq => ?_⟩
               by_cases e : q = i
               · subst e; exact decide_eq_true (by omega)
               · exact hi.2 q (by omega))
            | trace_state
        case nxb =>
          (repeat' (first | apply And.intro | apply BrB.mk | apply BrP.mk | intro _))
          all_goals try (refine ⟨2, ?_, ?_, ?_⟩)
          all_goals try (show AS.le _ _; (cbv; (repeat' (first | apply And.intro | apply BrB.mk | apply BrP.mk | intro _)); all_goals (subst hA; subst h_c; subst h_fm; subst h_fs; subst h_fd; subst h_fz; subst h_fE; subst h_fR); all_goals (have f_sa := SA.out; have f_sb := SB.out); all_goals (try simp only [std, stdBin, stdCmp, stdUna, stdIn, ci, beq_iff_eq, bne_iff_ne, beq_eq_false_iff_ne, bne_eq_false_iff_eq, decide_eq_true_eq, decide_eq_false_iff_not, Bool.not_true, Bool.not_false, Bool.not_eq_true', Bool.not_eq_false', Bool.not_not, tn0, tn1, tn2, tn3] at *); (all_goals first | exact True.intro | rfl | exact congrArg (Value.int .i64) (by omega))))
          (all_goals (subst hA; subst h_c; subst h_fm; subst h_fs; subst h_fd; subst h_fz; subst h_fE; subst h_fR); all_goals (have f_sa := SA.out; have f_sb := SB.out); all_goals (try simp only [std, stdBin, stdCmp, stdUna, stdIn, ci, beq_iff_eq, bne_iff_ne, beq_eq_false_iff_ne, bne_eq_false_iff_eq, decide_eq_true_eq, decide_eq_false_iff_not, Bool.not_true, Bool.not_false, Bool.not_eq_true', Bool.not_eq_false', Bool.not_not, tn0, tn1, tn2, tn3, t2, mayAccF, Int.toNat_natCast] at *); all_goals (try omega))
          all_goals first
            | omega
            | (have hm : mayAddB ⟨bD, bE, bL⟩ = true := mayAdd_of (by assumption) (fun q hq => hi.2 q (by simp only at hq; omega))
               exact ⟨by omega, fun _ => ha (by omega), fun _ => hm⟩)
            | trace_state
      (all_goals (subst hA; subst h_c; subst h_fm; subst h_fs; subst h_fd; subst h_fz; subst h_fE; subst h_fR); all_goals (have f_sa := SA.out; have f_sb := SB.out); all_goals (try simp only [std, stdBin, stdCmp, stdUna, stdIn, ci, beq_iff_eq, bne_iff_ne, beq_eq_false_iff_ne, bne_eq_false_iff_eq, decide_eq_true_eq, decide_eq_false_iff_not, Bool.not_true, Bool.not_false, Bool.not_eq_true', Bool.not_eq_false', Bool.not_not, tn0, tn1, tn2, tn3, t2, mayAccF, Int.toNat_natCast] at *); all_goals (try omega))
      all_goals (have e1 : accErr ⟨aD, aE, aL⟩ ⟨bD, bE, bL⟩ = 1 := acc_one (.inr (mayAdd_acc (by assumption))))
      all_goals first | (exfalso; omega) | (rw [e1]) | trace_state
    · cbv
      (repeat' (first | apply And.intro | apply BrB.mk | apply BrP.mk | intro _))
      all_goals try (exfalso; (subst hA; subst h_c; subst h_fm; subst h_fs; subst h_fd; subst h_fz; subst h_fE; subst h_fR); (have f_sa := SA.out; have f_sb := SB.out); (try simp only [std, stdBin, stdCmp, stdUna, stdIn, ci, beq_iff_eq, bne_iff_ne, beq_eq_false_iff_ne, bne_eq_false_iff_eq, decide_eq_true_eq, decide_eq_false_iff_not, Bool.not_true, Bool.not_false, Bool.not_eq_true', Bool.not_eq_false', Bool.not_not, tn0, tn1, tn2, tn3, t2, eqF, szF, shMayF] at *); first | contradiction | omega | ((have h1 := ha (by omega); have h2 := hb (by omega); have x3 := mayAdd_sz h1; have x5 := mayAdd_may h1; have hq : aD = bD := (by first | assumption | simpa using (by assumption : (aD == bD) = true)); have hm := mayAcc_lens h1 h2 hq; simp only at hm x3 x5); first | omega | (rw [x5] at *; contradiction)))
      all_goals try first
        | (refine loop_at Nat 66 (fun j => [(5, .v (.int .i64 0)), (12, .any), (13, .any), (66, .v (.int .i64 (c j)))]) (fun j o => o.set 5 (.irow 21 .i32 (S j))) (fun j => j ≤ aL.length ∧ ∀ i, i < j → inB (aL.getD i 0 + bL.getD i 0) = true) (fun j => aL.length - j) 0 ⟨Nat.zero_le _, fun i hi => absurd hi (Nat.not_lt_zero _)⟩ ?_ ?_
           focus
             show AS.le _ _
             cbv
             (repeat' (first | apply And.intro | apply BrB.mk | apply BrP.mk | intro _))
             (all_goals (subst hA; subst h_c; subst h_fm; subst h_fs; subst h_fd; subst h_fz; subst h_fE; subst h_fR); all_goals (have f_sa := SA.out; have f_sb := SB.out); all_goals (try simp only [std, stdBin, stdCmp, stdUna, stdIn, ci, beq_iff_eq, bne_iff_ne, beq_eq_false_iff_ne, bne_eq_false_iff_eq, decide_eq_true_eq, decide_eq_false_iff_not, Bool.not_true, Bool.not_false, Bool.not_eq_true', Bool.not_eq_false', Bool.not_not, tn0, tn1, tn2, tn3, t2, eqF, szF, shMayF] at *); all_goals (try omega))
             all_goals first | exact True.intro | rfl | (have x3 := mayAdd_sz (ha (by omega)); rw [HS.out, mixL_nil, x3, Int.toNat_natCast]; done)
             done)
        | (refine loop_at Nat 66 (fun j => [(5, .v (.int .i64 0)), (12, .any), (13, .any), (66, .v (.int .i64 (c j)))]) (fun j o => o.set 6 (.irow 21 .i32 (S j))) (fun j => j ≤ aL.length ∧ ∀ i, i < j → inB (aL.getD i 0 + bL.getD i 0) = true) (fun j => aL.length - j) 0 ⟨Nat.zero_le _, fun i hi => absurd hi (Nat.not_lt_zero _)⟩ ?_ ?_
           focus
             show AS.le _ _
             cbv
             (repeat' (first | apply And.intro | apply BrB.mk | apply BrP.mk | intro _))
             (all_goals (subst hA; subst h_c; subst h_fm; subst h_fs; subst h_fd; subst h_fz; subst h_fE; subst h_fR); all_goals (have f_sa := SA.out; have f_sb := SB.out); all_goals (try simp only [std, stdBin, stdCmp, stdUna, stdIn, ci, beq_iff_eq, bne_iff_ne, beq_eq_false_iff_ne, bne_eq_false_iff_eq, decide_eq_true_eq, decide_eq_false_iff_not, Bool.not_true, Bool.not_false, Bool.not_eq_true', Bool.not_eq_false', Bool.not_not, tn0, tn1, tn2, tn3, t2, eqF, szF, shMayF] at *); all_goals (try omega))
             all_goals first | exact True.intro | rfl | (have x3 := mayAdd_sz (ha (by omega)); rw [HS.out, mixL_nil, x3, Int.toNat_natCast]; done)
             done)
      all_goals try (rintro j ⟨hj2, hi2⟩; cbv; (repeat' (first | apply And.intro | apply BrB.mk | apply BrP.mk | intro _)))
      all_goals try (refine ⟨j + 1, ?_, ?_, ?_⟩)
      all_goals try (show AS.le _ _; cbv; (repeat' (first | apply And.intro | apply BrB.mk | apply BrP.mk | intro _)))
      (all_goals (subst hA; subst h_c; subst h_fm; subst h_fs; subst h_fd; subst h_fz; subst h_fE; subst h_fR); all_goals (have f_sa := SA.out; have f_sb := SB.out); all_goals (try simp only [std, stdBin, stdCmp, stdUna, stdIn, ci, beq_iff_eq, bne_iff_ne, beq_eq_false_iff_ne, bne_eq_false_iff_eq, decide_eq_true_eq, decide_eq_false_iff_not, Bool.not_true, Bool.not_false, Bool.not_eq_true', Bool.not_eq_false', Bool.not_not, tn0, tn1, tn2, tn3, t2, eqF, szF, shMayF, List.length_replicate, Int.toNat_natCast] at *); all_goals (try omega))
      all_goals (have h1 := ha (by omega); have h2 := hb (by omega); have x3 := mayAdd_sz h1; have x5 := mayAdd_may h1; simp only at x3 x5)
      all_goals (try (have hq : ¬ (aD = bD ∧ aE = bE) := (by rintro ⟨q1, q2⟩; first | omega | (have q3 : ¬ aD = bD := (by assumption); exact q3 q1) | (have q3 : (aD == bD) = false := (by assumption); rw [q1] at q3; simp at q3; done)); have e2 : accErr ⟨aD, aE, aL⟩ ⟨bD, bE, bL⟩ = 2 := acc_two h1 h2 hq; first | (rw [e2]; done) | (exfalso; omega)))
      all_goals (have hq : aD = bD := by first | assumption | simpa using (by assumption : (aD == bD) = true))
      all_goals (have hm := mayAcc_lens h1 h2 hq; simp only at hm; obtain ⟨m1, m2, m3, m4, m5, m6⟩ := hm)
      all_goals (try (exfalso; have q : mayD aD = false := (by assumption); rw [x5] at q; cases q; done))
      all_goals (try omega)
      all_goals (try (have ht : (szD aD).toNat = aL.length := (by omega); simp only [ht] at *))
      all_goals (try omega)
      all_goals first
        | (have hf : inB (aL.getD j 0 + bL.getD j 0) = false := decide_eq_false (by omega)
           have e3 : accErr ⟨aD, aE, aL⟩ ⟨bD, bE, bL⟩ = 3 := acc_three h1 h2 hq (by assumption) (j := j) (by simp only; omega) hf
           first | (rw [e3]; done) | (exfalso; omega))
        | (have e0 : accErr ⟨aD, aE, aL⟩ ⟨bD, bE, bL⟩ = 0 := acc_zero h1 h2 hq (by assumption) (fun i hi => hi2 i (by simp only at hi; omega))
           first | rfl | (exfalso; omega) | (rw [HS.out, show j = aL.length by omega, mixL_all]; rfl) | (rw [e0]; done))
        | (have sa := m5 j (by omega); have sb := m6 j (by omega); omega)
        | (refine ⟨by omega, fun i hi => ?_⟩
           by_cases e : i = j
           · subst e; exact decide_eq_true (by omega)
           · exact hi2 i (by omega))
        | (rw [HS.out, HS.out]; exact mixL_store (by omega) rfl)
        | (rw [HS.out, mixL_len]; omega)
        | (refine congrArg (Value.int .i64) ?_; omega)
        | trace_state
    · omega
  (all_goals (subst hA; subst h_c; subst h_fm; subst h_fs; subst h_fd; subst h_fz; subst h_fE; subst h_fR); all_goals (have f_sa := SA.out; have f_sb := SB.out); all_goals (try simp only [std, stdBin, stdCmp, stdUna, stdIn, ci, beq_iff_eq, bne_iff_ne, beq_eq_false_iff_ne, bne_eq_false_iff_eq, decide_eq_true_eq, decide_eq_false_iff_not, Bool.not_true, Bool.not_false, Bool.not_eq_true', Bool.not_eq_false', Bool.not_not, tn0, tn1, tn2, tn3, t2, mayAccF] at *); all_goals (try omega))
  all_goals trace_state
end Go.Proofs.Ythclcnidbnbkcaa
