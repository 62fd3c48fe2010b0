/- Layer 14: two tensors, added. -/
import Derived.Test.YthclcnidbnbkcaaUnitA
namespace Go.Proofs.Ythclcnidbnbkcaa
open Go.RowKit
set_option maxRecDepth 100000
set_option linter.unusedSimpArgs false
set_option linter.unusedVariables false
set_option maxHeartbeats 8000000
/-- The sum's exponent. -/
def addX (a b : Int) : Int := if (if b > a then b else a) - 12 > (if b < a then b else a) then (if b > a then b else a) - 12 else (if b < a then b else a)
def addAt (a b : Tn) (i : Nat) : Int := alignI (a.data.getD i 0) a.exp (addX a.exp b.exp) + alignI (b.data.getD i 0) b.exp (addX a.exp b.exp)
def addErr (a b : Tn) : Int := if (mayB a && mayB b) = true then (if a.dims = b.dims then 0 else 2) else 1
def addRes (a b : Tn) : Tn := ⟨a.dims, addX a.exp b.exp, (List.range a.data.length).map (addAt a b)⟩
theorem addAt_in {a b : Tn} (ha : Fits .i8 a.data) (hb : Fits .i8 b.data) (i : Nat) : -2097152 ≤ addAt a b i ∧ addAt a b i ≤ 2097152 := by
  have h1 := alignS (a.data.getD i 0) a.exp (addX a.exp b.exp) (fits8 ha i)
  have h2 := alignS (b.data.getD i 0) b.exp (addX a.exp b.exp) (fits8 hb i)
  unfold addAt
  omega
theorem add_ok : CtrOk Try.prog 24 (resC [tnTy .i8, tnTy .i8] .i32 3 21 (t2 addErr 0) (t2 addRes ⟨[], 0, []⟩)) := by
  obtain ⟨G, hG⟩ : ∃ G : List (FuncId × Ctr), G = [(30, boolC [tnTy .i8] tnMayF), (31, boolC [.sl (.int .i64), .sl (.int .i64)] eqF), (32, rowP [.sl (.int .i64)] 3 .i64 (lenP 8) sameL), (39, intC [.int .i64, .int .i64, .int .i64] .i64 alF)] := ⟨_, rfl⟩
  refine fn_ok (ck := true) Try.func24 rfl tt_ok (G := G) (by rw [hG]; exact ⟨⟨tnMay_ok, by unfold FnOk; kernel_rfl⟩, ⟨same_ok, by unfold FnOk; kernel_rfl⟩, ⟨cloneI_ok, by unfold FnOk; kernel_rfl⟩, ⟨al_ok, by unfold FnOk; kernel_rfl⟩, trivial⟩) mixed (by kernel_rfl) ?_
  intro xa xs h hx hp
  obtain ⟨a0, as0, x0, xs0, rfl, rfl, h0, H1⟩ := svArgs_cons h
  obtain ⟨a1, as1, x1, xs1, rfl, rfl, h1, H2⟩ := svArgs_cons H1
  obtain ⟨rfl, rfl⟩ := svArgs_nil H2
  obtain ⟨⟨aD, aE, aL⟩, rfl, rfl⟩ := argSV_tn h0
  obtain ⟨⟨bD, bE, bL⟩, rfl, rfl⟩ := argSV_tn h1
  have sa : (Fits .i64 aD ∧ ci aD.length ≤ 9223372036854775807) ∧ (-9223372036854775808 ≤ aE ∧ aE ≤ 9223372036854775807) ∧ Fits .i8 aL ∧ ci aL.length ≤ 9223372036854775807 := svf_tn (hx (Tn.sv .i8 ⟨aD, aE, aL⟩) (by simp))
  have sb : (Fits .i64 bD ∧ ci bD.length ≤ 9223372036854775807) ∧ (-9223372036854775808 ≤ bE ∧ bE ≤ 9223372036854775807) ∧ Fits .i8 bL ∧ ci bL.length ≤ 9223372036854775807 := svf_tn (hx (Tn.sv .i8 ⟨bD, bE, bL⟩) (by simp))
  have SA := Lib.hid sa
  clear sa
  have SB := Lib.hid sb
  clear sb
  clear hx hp h h0 H1 h1 H2
  subst hG
  generalize hA : std = A
  generalize h_c : ci = c
  generalize h_fm : tnMayF = fm
  generalize h_fs : eqF = fs
  generalize h_fl : lenP 8 = fl
  generalize h_fc : sameL = fc
  generalize h_fa : alF = fa
  generalize h_fR : t2 addRes ⟨[], 0, []⟩ = fR
  generalize h_fE : t2 addErr 0 = fE
  obtain ⟨S, hS⟩ : ∃ S : Nat → List Int, ∀ j, S j = mixL (fun _ => 0) (addAt ⟨aD, aE, aL⟩ ⟨bD, bE, bL⟩) aL.length j := ⟨_, fun _ => rfl⟩
  cbv
  (repeat' (first | apply And.intro | apply BrB.mk | apply BrP.mk | intro _))
  all_goals try (refine loop_at Nat 49 (fun j => [(8, .any), (49, .v (.int .i64 (c j)))]) (fun j o => o.set 4 (.irow 21 .i32 (S j))) (fun j => ci j ≤ ci aL.length) (fun j => aL.length - j) 0 ?h0 ?hle ?round)
  case h0 => simp [ci]
  case hle =>
    cbv
    (repeat' (first | apply And.intro | apply BrB.mk | apply BrP.mk | intro _))
    (all_goals (subst hA; subst h_c; subst h_fm; subst h_fs; subst h_fl; subst h_fc; subst h_fa; subst h_fR; subst h_fE); all_goals (have f_sa := SA.out; have f_sb := SB.out); all_goals (try simp only [std, stdBin, stdCmp, stdUna, stdIn, ci, beq_iff_eq, bne_iff_ne, beq_eq_false_iff_ne, bne_eq_false_iff_eq, decide_eq_true_eq, decide_eq_false_iff_not, Bool.not_true, Bool.not_false, Bool.not_eq_true', Bool.not_eq_false', Bool.not_not, tn0, tn1, tn2, tn3, t2] at *); all_goals (try omega))
    all_goals first | exact True.intro | rfl | skip
    rw [hS, mixL_nil, Int.toNat_natCast]
  case round =>
    intro j hj
    cbv
    refine BrB.mk (fun gx => ?yx) (fun gx => ?nx)
    case yx =>
      (repeat' (first | apply And.intro | apply BrB.mk | apply BrP.mk | intro _))
      all_goals try (refine ⟨j + 1, ?jI, ?jL, ?jM⟩)
      case jL =>
        cbv
        (repeat' (first | apply And.intro | apply BrB.mk | apply BrP.mk | intro _))
        (all_goals (subst hA; subst h_c; subst h_fm; subst h_fs; subst h_fl; subst h_fc; subst h_fa; subst h_fR; subst h_fE); all_goals (have f_sa := SA.out; have f_sb := SB.out); all_goals (try simp only [std, stdBin, stdCmp, stdUna, stdIn, ci, beq_iff_eq, bne_iff_ne, beq_eq_false_iff_ne, bne_eq_false_iff_eq, decide_eq_true_eq, decide_eq_false_iff_not, Bool.not_true, Bool.not_false, Bool.not_eq_true', Bool.not_eq_false', Bool.not_not, tn0, tn1, tn2, tn3, t2, tnMayF, eqF, alF] at *); all_goals (try omega))
        all_goals first | exact True.intro | rfl | skip
        simp only [List.length_replicate, Int.toNat_natCast] at gx ⊢
        have q := addAt_in (a := ⟨aD, aE, aL⟩) (b := ⟨bD, bE, bL⟩) f_sa.2.2.1 f_sb.2.2.1 j
        rw [hS, hS]
        refine mixL_store (by omega) ?_
        show IntKind.i32.wrap (addAt ⟨aD, aE, aL⟩ ⟨bD, bE, bL⟩ j) = _
        rw [w32 (by omega) (by omega)]
      (all_goals (subst hA; subst h_c; subst h_fm; subst h_fs; subst h_fl; subst h_fc; subst h_fa; subst h_fR; subst h_fE); all_goals (have f_sa := SA.out; have f_sb := SB.out); all_goals (try simp only [std, stdBin, stdCmp, stdUna, stdIn, ci, beq_iff_eq, bne_iff_ne, beq_eq_false_iff_ne, bne_eq_false_iff_eq, decide_eq_true_eq, decide_eq_false_iff_not, Bool.not_true, Bool.not_false, Bool.not_eq_true', Bool.not_eq_false', Bool.not_not, tn0, tn1, tn2, tn3, t2, tnMayF, eqF, alF, List.length_replicate, Int.toNat_natCast] at *); all_goals (try omega))
      all_goals (have h1 : mayB ⟨aD, aE, aL⟩ = true := (by assumption); have h2 : mayB ⟨bD, bE, bL⟩ = true := (by assumption); have hm := may_lens (g := ⟨aD, aE, aL⟩) (x := ⟨bD, bE, bL⟩) (by rw [Bool.and_eq_true]; exact ⟨h1, h2⟩) (by assumption); have x1 := may_exp h1; have x2 := may_exp h2; simp only at hm x1 x2)
      all_goals (have q := addAt_in (a := ⟨aD, aE, aL⟩) (b := ⟨bD, bE, bL⟩) f_sa.2.2.1 f_sb.2.2.1 j)
      all_goals (try simp only [hS, mixL_len])
      all_goals (try omega)
      show -9223372036854775808 ≤ addAt ⟨aD, aE, aL⟩ ⟨bD, bE, bL⟩ j ∧ addAt ⟨aD, aE, aL⟩ ⟨bD, bE, bL⟩ j ≤ 9223372036854775807
      omega
    case nx =>
      (repeat' (first | apply And.intro | apply BrB.mk | apply BrP.mk | intro _))
      (all_goals (subst hA; subst h_c; subst h_fm; subst h_fs; subst h_fl; subst h_fc; subst h_fa; subst h_fR; subst h_fE); all_goals (have f_sa := SA.out; have f_sb := SB.out); all_goals (try simp only [std, stdBin, stdCmp, stdUna, stdIn, ci, beq_iff_eq, bne_iff_ne, beq_eq_false_iff_ne, bne_eq_false_iff_eq, decide_eq_true_eq, decide_eq_false_iff_not, Bool.not_true, Bool.not_false, Bool.not_eq_true', Bool.not_eq_false', Bool.not_not, tn0, tn1, tn2, tn3, t2, tnMayF, eqF, List.length_replicate, Int.toNat_natCast] at *); all_goals (try omega))
      all_goals (have h1 : mayB ⟨aD, aE, aL⟩ = true := (by assumption); have h2 : mayB ⟨bD, bE, bL⟩ = true := (by assumption); have hm := may_lens (g := ⟨aD, aE, aL⟩) (x := ⟨bD, bE, bL⟩) (by rw [Bool.and_eq_true]; exact ⟨h1, h2⟩) (by assumption); have x1 := may_exp h1; have x2 := may_exp h2; simp only at hm x1 x2)
      · rfl
      · rfl
      · rw [hS, show j = aL.length by omega, mixL_all]
        rfl
      · simp only [addErr] at *
        simp_all
  (all_goals (subst hA; subst h_c; subst h_fm; subst h_fs; subst h_fl; subst h_fc; subst h_fa; subst h_fR; subst h_fE); all_goals (have f_sa := SA.out; have f_sb := SB.out); all_goals (try simp only [std, stdBin, stdCmp, stdUna, stdIn, ci, beq_iff_eq, bne_iff_ne, beq_eq_false_iff_ne, bne_eq_false_iff_eq, decide_eq_true_eq, decide_eq_false_iff_not, Bool.not_true, Bool.not_false, Bool.not_eq_true', Bool.not_eq_false', Bool.not_not, tn0, tn1, tn2, tn3, t2, tnMayF, eqF, lenP] at *); all_goals (try omega))
  all_goals (try (simp only [addErr] at *; simp_all; done))
  all_goals (have h1 : mayB ⟨aD, aE, aL⟩ = true := (by assumption); have h2 : mayB ⟨bD, bE, bL⟩ = true := (by assumption); have hm := may_lens (g := ⟨aD, aE, aL⟩) (x := ⟨bD, bE, bL⟩) (by rw [Bool.and_eq_true]; exact ⟨h1, h2⟩) (by assumption); have x1 := may_exp h1; have x2 := may_exp h2; simp only at hm x1 x2)
  all_goals first | omega | (split <;> omega)
theorem addU_ok : CtrOk Try.prog 24 (resU [tnTy .i8, tnTy .i8] .i32 3 21 (t2 addErr 0) (rU (t2 addErr 0) (t2 addRes ⟨[], 0, []⟩))) := by
  exact resU_of add_ok
theorem awk14 : (t2 addErr 0) [.st [.l [1], .z 1, .l [3]], .st [.l [1], .z 0, .l [1]]] = 0 := by kernel_rfl
theorem awk14' : (rU (t2 addErr 0) (t2 addRes ⟨[], 0, []⟩)) [.st [.l [1], .z 1, .l [3]], .st [.l [1], .z 0, .l [1]]] = ⟨[1], 0, [7]⟩ := by kernel_rfl
theorem awake14_ok : CtrOk Try.prog 29 (boolC [] yes) := by
  obtain ⟨G, hG⟩ : ∃ G : List (FuncId × Ctr), G = [(24, resU [tnTy .i8, tnTy .i8] .i32 3 21 (t2 addErr 0) (rU (t2 addErr 0) (t2 addRes ⟨[], 0, []⟩)))] := ⟨_, rfl⟩
  refine fn_ok (ck := true) Try.func29 rfl tt_ok (G := G) (by rw [hG]; exact ⟨⟨addU_ok, by unfold FnOk; kernel_rfl⟩, trivial⟩) mixed (by kernel_rfl) ?_
  intro xa xs h hx hp
  obtain ⟨rfl, rfl⟩ := svArgs_nil h
  clear hx hp h 
  subst hG
  generalize hA : std = A
  generalize h_c : ci = c
  generalize h_fR : rU (t2 addErr 0) (t2 addRes ⟨[], 0, []⟩) = fR
  generalize h_fE : t2 addErr 0 = fE
  generalize h_fY : yes = fY
  cbv
  (repeat' (first | apply And.intro | apply BrB.mk | apply BrP.mk | intro _))
  (all_goals (subst hA; subst h_c; subst h_fR; subst h_fE; subst h_fY); all_goals (skip); all_goals (try simp only [std, stdBin, stdCmp, stdUna, stdIn, ci, beq_iff_eq, bne_iff_ne, beq_eq_false_iff_ne, bne_eq_false_iff_eq, decide_eq_true_eq, decide_eq_false_iff_not, Bool.not_true, Bool.not_false, Bool.not_eq_true', Bool.not_eq_false', Bool.not_not, tn0, tn1, tn2, tn3, awk14, awk14'] at *); all_goals (try omega))
  all_goals (first | rfl | contradiction | simp_all)
theorem align_same {v : Int} (e : Int) (h : -1048576 ≤ v ∧ v ≤ 1048576) : alignI v e e = v := by
  unfold alignI
  have hg : gap e e = 0 := by unfold gap; omega
  rw [hg, if_neg (by decide)]
  have hv : cut20 v = v := by unfold cut20 cl; omega
  rw [hv, show (min (0 : Int) 20).toNat = 0 from by decide, Int.pow_zero, Int.mul_one, hv]
theorem addX_same (e : Int) : addX e e = e := by
  unfold addX
  simp only [show ¬ e > e from Int.lt_irrefl e, show ¬ e < e from Int.lt_irrefl e, if_false]
  rw [if_neg (by omega)]
theorem rep0_no (n : Nat) : (List.replicate n (0 : Int)).contains (-128) = false := by
  rw [List.contains_eq_mem, decide_eq_false_iff_not]
  intro hm
  exact absurd (List.mem_replicate.1 hm).2 (by decide)
theorem rep0_get (n i : Nat) : (List.replicate n (0 : Int)).getD i 0 = 0 := by
  rw [List.getD_eq_getElem?_getD, List.getElem?_replicate]
  split <;> rfl
theorem add_self {D L : List Int} {e : Int} (h : mayB ⟨D, e, L⟩ = true) (hf : Fits .i8 L) : addErr ⟨D, e, L⟩ ⟨D, e, List.replicate L.length 0⟩ = 0 ∧ addErr ⟨D, e, L⟩ ⟨D, e, L⟩ = 0 ∧ addRes ⟨D, e, L⟩ ⟨D, e, List.replicate L.length 0⟩ = ⟨D, e, L⟩ ∧ addRes ⟨D, e, L⟩ ⟨D, e, L⟩ = ⟨D, e, (List.range L.length).map fun i => 2 * L.getD i 0⟩ := by
  have h1 := (mayB_eq D L e).1 h
  have hz : mayB ⟨D, e, List.replicate L.length 0⟩ = true := (mayB_eq _ _ _).2 ⟨h1.1, by rw [List.length_replicate]; exact h1.2.1, h1.2.2.1, rep0_no _⟩
  refine ⟨?_, ?_, ?_, ?_⟩
  · unfold addErr; rw [if_pos (by rw [h, hz]; rfl)]; exact if_pos rfl
  · unfold addErr; rw [if_pos (by rw [h]; rfl)]; exact if_pos rfl
  · unfold addRes
    simp only [addX_same]
    refine congrArg (Tn.mk D e) ?_
    refine eqL (by simp) fun j hj => ?_
    rw [List.length_map, List.length_range] at hj
    rw [List.getD_eq_getElem?_getD, List.getElem?_map, List.getElem?_range hj]
    show addAt ⟨D, e, L⟩ ⟨D, e, List.replicate L.length 0⟩ j = _
    unfold addAt
    simp only [addX_same, rep0_get]
    have := fits8 hf j
    rw [align_same e (by omega), align_same e (by decide), Int.add_zero]
  · unfold addRes
    simp only [addX_same]
    refine congrArg (Tn.mk D e) ?_
    apply List.map_congr_left
    intro j _
    unfold addAt
    simp only [addX_same]
    have := fits8 hf j
    rw [align_same e (by omega)]
    omega
theorem add_no {a b : Tn} (h : mayB a = false) : addErr a b = 1 := by
  unfold addErr
  rw [if_neg (by simp [h])]
theorem dbl_get (L : List Int) {j : Nat} (h : j < L.length) : ((List.range L.length).map fun i => 2 * L.getD i 0).getD j 0 = 2 * L.getD j 0 := by
  rw [List.getD_eq_getElem?_getD, List.getElem?_map, List.getElem?_range h]
  rfl
theorem tnMayF_eq (D L : List Int) (e : Int) : tnMayF [.st [.l D, .z e, .l L]] = mayB ⟨D, e, L⟩ := rfl
/-- True comes, where it is so. -/
def yesP (ts : List Ty) (p : List AV → Prop) : Ctr := ⟨ts, fun xa => some (p xa), fun _ => .ret (.v (.bool true)) [], false⟩
def dataP (n : Nat) (xa : List AV) : Prop := match xa with
  | [.st [.l _, .z _, .l L]] => L.length ≤ n
  | _ => False
theorem none14_ok : CtrOk Try.prog 10 (yesP [tnTy .i8] (dataP 140737488355328)) := by
  obtain ⟨G, hG⟩ : ∃ G : List (FuncId × Ctr), G = [(24, resU [tnTy .i8, tnTy .i8] .i32 3 21 (t2 addErr 0) (rU (t2 addErr 0) (t2 addRes ⟨[], 0, []⟩))), (22, boolC [tnTy .i8] tnMayF), (29, boolC [] yes)] := ⟨_, rfl⟩
  refine fn_ok (ck := true) Try.func10 rfl tt_ok (G := G) (by rw [hG]; exact ⟨⟨addU_ok, by unfold FnOk; kernel_rfl⟩, ⟨rmayT_ok, by unfold FnOk; kernel_rfl⟩, ⟨awake14_ok, by unfold FnOk; kernel_rfl⟩, trivial⟩) mixed (by kernel_rfl) ?_
  intro xa xs h hx hp
  obtain ⟨a0, as0, x0, xs0, rfl, rfl, h0, H1⟩ := svArgs_cons h
  obtain ⟨rfl, rfl⟩ := svArgs_nil H1
  obtain ⟨⟨aD, aE, aL⟩, rfl, rfl⟩ := argSV_tn h0
  have sa : (Fits .i64 aD ∧ ci aD.length ≤ 9223372036854775807) ∧ (-9223372036854775808 ≤ aE ∧ aE ≤ 9223372036854775807) ∧ Fits .i8 aL ∧ ci aL.length ≤ 9223372036854775807 := svf_tn (hx (Tn.sv .i8 ⟨aD, aE, aL⟩) (by simp))
  have SA := Lib.hid sa
  clear sa
  have HP := Lib.hid (hp _ rfl)
  clear hx hp h h0 H1
  subst hG
  generalize hA : std = A
  generalize h_c : ci = c
  generalize h_fR : rU (t2 addErr 0) (t2 addRes ⟨[], 0, []⟩) = fR
  generalize h_fE : t2 addErr 0 = fE
  generalize h_fm : tnMayF = fm
  generalize h_fY : yes = fY
  cbv
  (repeat' (first | apply And.intro | apply BrB.mk | apply BrP.mk | intro _))
  all_goals try (refine loop_at Nat 84 (fun j => [(8, .any), (9, .any), (84, .v (.int .i64 (c j)))]) (fun _ o => o) (fun j => ci j ≤ ci aL.length) (fun j => aL.length - j) 0 ?h0 ?hle ?round)
  case h0 => simp [ci]
  case hle => (cbv; (repeat' (first | apply And.intro | apply BrB.mk | apply BrP.mk | intro _)); all_goals (subst hA; subst h_c; subst h_fR; subst h_fE; subst h_fm; subst h_fY); all_goals (have f_sa := SA.out; have f_hp := HP.out); all_goals (try simp only [std, stdBin, stdCmp, stdUna, stdIn, ci, beq_iff_eq, bne_iff_ne, beq_eq_false_iff_ne, bne_eq_false_iff_eq, decide_eq_true_eq, decide_eq_false_iff_not, Bool.not_true, Bool.not_false, Bool.not_eq_true', Bool.not_eq_false', Bool.not_not, tn0, tn1, tn2, tn3] at *); (all_goals first | exact True.intro | rfl | exact congrArg (Value.int .i64) (by omega)))
  case round =>
    intro j hj
    cbv
    refine BrB.mk (fun gx => ?yx) (fun gx => ?nx)
    case yx =>
      (repeat' (first | apply And.intro | apply BrB.mk | apply BrP.mk | intro _))
      all_goals try (refine ⟨j + 1, ?_, ?_, ?_⟩)
      all_goals try (show AS.le _ _; (cbv; (repeat' (first | apply And.intro | apply BrB.mk | apply BrP.mk | intro _)); all_goals (subst hA; subst h_c; subst h_fR; subst h_fE; subst h_fm; subst h_fY); all_goals (have f_sa := SA.out; have f_hp := HP.out); all_goals (try simp only [std, stdBin, stdCmp, stdUna, stdIn, ci, beq_iff_eq, bne_iff_ne, beq_eq_false_iff_ne, bne_eq_false_iff_eq, decide_eq_true_eq, decide_eq_false_iff_not, Bool.not_true, Bool.not_false, Bool.not_eq_true', Bool.not_eq_false', Bool.not_not, tn0, tn1, tn2, tn3] at *); (all_goals first | exact True.intro | rfl | exact congrArg (Value.int .i64) (by omega))))
      all_goals (subst hA; subst h_c; subst h_fR; subst h_fE; subst h_fm; subst h_fY)
      all_goals (have f_sa := SA.out; have f_hp := HP.out)
      all_goals (try simp only [std, stdBin, stdCmp, stdUna, stdIn, ci, beq_iff_eq, bne_iff_ne, beq_eq_false_iff_ne, bne_eq_false_iff_eq, decide_eq_true_eq, decide_eq_false_iff_not, Bool.not_true, Bool.not_false, Bool.not_eq_true', Bool.not_eq_false', Bool.not_not, tn0, tn1, tn2, tn3, rU, t2, tnMayF_eq, Int.toNat_natCast] at *)
      all_goals (try first | exact True.intro | omega)
      all_goals (have hb : mayB ⟨aD, aE, aL⟩ = true := (by assumption))
      all_goals (obtain ⟨F1, F2, F3, F4⟩ := add_self hb f_sa.2.2.1; have hd := dbl_get aL (j := j) (by omega); have hv := fits8 f_sa.2.2.1 j)
      all_goals (try simp only [F1, F2, F3, F4, if_true, hd, List.length_map, List.length_range] at *)
      all_goals (try first | rfl | contradiction | omega)
      all_goals trace_state
    case nx =>
      (repeat' (first | apply And.intro | apply BrB.mk | apply BrP.mk | intro _))
      all_goals (subst hA; subst h_c; subst h_fR; subst h_fE; subst h_fm; subst h_fY)
      all_goals (have f_sa := SA.out; have f_hp := HP.out)
      all_goals (try simp only [std, stdBin, stdCmp, stdUna, stdIn, ci, beq_iff_eq, bne_iff_ne, beq_eq_false_iff_ne, bne_eq_false_iff_eq, decide_eq_true_eq, decide_eq_false_iff_not, Bool.not_true, Bool.not_false, Bool.not_eq_true', Bool.not_eq_false', Bool.not_not, tn0, tn1, tn2, tn3, rU, t2, tnMayF_eq] at *)
      all_goals (try first | rfl | contradiction | omega)
  all_goals (subst hA; subst h_c; subst h_fR; subst h_fE; subst h_fm; subst h_fY)
  all_goals (have f_sa := SA.out; have f_hp := HP.out)
  all_goals (try simp only [std, stdBin, stdCmp, stdUna, stdIn, ci, beq_iff_eq, bne_iff_ne, beq_eq_false_iff_ne, bne_eq_false_iff_eq, decide_eq_true_eq, decide_eq_false_iff_not, Bool.not_true, Bool.not_false, Bool.not_eq_true', Bool.not_eq_false', Bool.not_not, tn0, tn1, tn2, tn3, rU, t2, tnMayF_eq, Int.toNat_natCast, dataP] at *)
  all_goals (try first | rfl | contradiction | omega)
  all_goals try (have h9 : aL.length ≤ 140737488355328 := f_hp; omega)
  all_goals try (have hb : mayB ⟨aD, aE, aL⟩ = false := (by assumption); simp only [add_no hb] at * <;> first | rfl | contradiction | omega)
  all_goals try (have hb : mayB ⟨aD, aE, aL⟩ = true := (by assumption); obtain ⟨F1, F2, F3, F4⟩ := add_self hb f_sa.2.2.1; simp only [F1, F2, F3, F4, if_true, List.length_map, List.length_range] at * <;> first | rfl | contradiction | omega)
end Go.Proofs.Ythclcnidbnbkcaa
