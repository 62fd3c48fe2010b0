/- Layer 14: sums, added. -/
import Derived.Test.YthclcnidbnbkcaaAddA
namespace Go.Proofs.Ythclcnidbnbkcaa
open Go.RowKit
set_option maxRecDepth 100000
set_option linter.unusedSimpArgs false
set_option linter.unusedVariables false
set_option maxHeartbeats 8000000
def mayAccF (xa : List AV) : Bool := match xa with
  | [.st [.l D, .z e, .l L]] => mayAccB ⟨D, e, L⟩
  | _ => false
theorem mayAcc_ok : CtrOk Try.prog 53 (boolC [tnTy .i32] mayAccF) := by
  intro xa w g vs ha _ hp
  obtain ⟨a, as', v, vs', rfl, rfl, h1, h⟩ := args_cons ha
  obtain ⟨rfl, rfl⟩ := args_nil h
  obtain ⟨t, rfl, h2⟩ := of_arg_tn h1
  refine (mayAcc_any v t w h2).mono fun e w' ⟨he, hw⟩ => ⟨_, he, gv_val trivial hw⟩
def inB (v : Int) : Bool := decide (-16777216 < v ∧ v < 16777216)
def inBF (xa : List AV) : Bool := match xa with
  | [.z v] => inB v
  | _ => false
def allB (l : List Int) : Bool := allTo (fun i => inB (l.getD i 0)) l.length
theorem allTo_true {g : Nat → Bool} : ∀ {n : Nat}, allTo g n = true ↔ ∀ i, i < n → g i = true
  | 0 => by simp [allTo]
  | n + 1 => by
    simp only [allTo, Bool.and_eq_true, allTo_true]
    constructor
    · rintro ⟨h1, h2⟩ i hi
      by_cases e : i = n
      · subst e; exact h2
      · exact h1 i (by omega)
    · intro h; exact ⟨fun i hi => h i (by omega), h n (by omega)⟩
def mayAddB (t : Tn) : Bool := mayAccB t && allB t.data
def mayAddF (xa : List AV) : Bool := match xa with
  | [.st [.l D, .z e, .l L]] => mayAddB ⟨D, e, L⟩
  | _ => false
theorem inB_ok : CtrOk Try.prog 43 (boolC [.int .i32] inBF) := by
  obtain ⟨G, hG⟩ : ∃ G : List (FuncId × Ctr), G = [] := ⟨_, rfl⟩
  refine fn_ok (ck := true) Try.func43 rfl tt_ok (G := G) (by rw [hG]; exact trivial) mixed (by kernel_rfl) ?_
  intro xa xs h hx hp
  obtain ⟨a0, as0, x0, xs0, rfl, rfl, h0, H1⟩ := svArgs_cons h
  obtain ⟨rfl, rfl⟩ := svArgs_nil H1
  obtain ⟨v, rfl, rfl⟩ := argSV_int h0
  have sv := of_i32 (hx (.v (.int .i32 v)) (by simp))
  have SV := Lib.hid sv
  clear sv
  clear hx hp h h0 H1
  subst hG
  generalize hA : std = A
  generalize h_c : ci = c
  generalize h_fR : inBF = fR
  cbv
  (repeat' (first | apply And.intro | apply BrB.mk | apply BrP.mk | intro _))
  (all_goals (subst hA; subst h_c; subst h_fR); all_goals (have f_sv := SV.out); all_goals (try simp only [std, stdBin, stdCmp, stdUna, stdIn, ci, beq_iff_eq, bne_iff_ne, beq_eq_false_iff_ne, bne_eq_false_iff_eq, decide_eq_true_eq, decide_eq_false_iff_not, Bool.not_true, Bool.not_false, Bool.not_eq_true', Bool.not_eq_false', Bool.not_not, tn0, tn1, tn2, tn3] at *); all_goals (try omega))
  all_goals (refine vb ?_; simp only [inBF, inB, decide_eq_true_eq, decide_eq_false_iff_not, ← Bool.decide_and] at *; first | omega | (symm; first | (rw [decide_eq_true_eq]; omega) | (rw [decide_eq_false_iff_not]; omega)) | (rw [decide_eq_decide]; omega))
theorem mayAdd_ok : CtrOk Try.prog 42 (boolC [tnTy .i32] mayAddF) := by
  obtain ⟨G, hG⟩ : ∃ G : List (FuncId × Ctr), G = [(53, boolC [tnTy .i32] mayAccF), (43, boolC [.int .i32] inBF)] := ⟨_, rfl⟩
  refine fn_inl (ck := true) [(54, Try.f54), (59, Try.f59), (55, Try.f55)] ⟨⟨Try.func54, by unfold FnOk; kernel_rfl, by kernel_rfl⟩, ⟨Try.func59, by unfold FnOk; kernel_rfl, by kernel_rfl⟩, ⟨Try.func55, by unfold FnOk; kernel_rfl, by kernel_rfl⟩, trivial⟩ Try.func42 rfl tt_ok (G := G) (by rw [hG]; exact ⟨⟨mayAcc_ok, by unfold FnOk; kernel_rfl⟩, ⟨inB_ok, by unfold FnOk; kernel_rfl⟩, trivial⟩) mixed (by kernel_rfl) ?_
  intro xa xs h hx hp
  obtain ⟨a0, as0, x0, xs0, rfl, rfl, h0, H1⟩ := svArgs_cons h
  obtain ⟨rfl, rfl⟩ := svArgs_nil H1
  obtain ⟨⟨aD, aE, aL⟩, rfl, rfl⟩ := argSV_tn h0
  have sa : (Fits .i64 aD ∧ ci aD.length ≤ 9223372036854775807) ∧ (-9223372036854775808 ≤ aE ∧ aE ≤ 9223372036854775807) ∧ Fits .i32 aL ∧ ci aL.length ≤ 9223372036854775807 := svf_tn (hx (Tn.sv .i32 ⟨aD, aE, aL⟩) (by simp))
  have SA := Lib.hid sa
  clear sa
  clear hx hp h h0 H1
  subst hG
  generalize hA : std = A
  generalize h_c : ci = c
  generalize h_fm : mayAccF = fm
  generalize h_fi : inBF = fi
  generalize h_fR : mayAddF = fR
  cbv
  (repeat' (first | apply And.intro | apply BrB.mk | apply BrP.mk | intro _))
  all_goals try (refine loop_at Nat 8 (fun x => [(4, .any), (5, .any), (8, .v (.int .i64 (c x)))]) (fun _ o => o) (fun x => x ≤ aL.length ∧ ∀ j, j < x → inB (aL.getD j 0) = true) (fun x => aL.length - x) 0 ?h0 ?hle ?round)
  case h0 => exact ⟨Nat.zero_le _, fun j hj => absurd hj (Nat.not_lt_zero _)⟩
  case hle => (cbv; (repeat' (first | apply And.intro | apply BrB.mk | apply BrP.mk | intro _)); all_goals (subst hA; subst h_c; subst h_fm; subst h_fi; subst h_fR); all_goals (have f_sa := SA.out); all_goals (try simp only [std, stdBin, stdCmp, stdUna, stdIn, ci, beq_iff_eq, bne_iff_ne, beq_eq_false_iff_ne, bne_eq_false_iff_eq, decide_eq_true_eq, decide_eq_false_iff_not, Bool.not_true, Bool.not_false, Bool.not_eq_true', Bool.not_eq_false', Bool.not_not, tn0, tn1, tn2, tn3] at *); (all_goals first | exact True.intro | rfl | exact congrArg (Value.int .i64) (by omega)))
  case round =>
    intro x hx
    cbv
    (repeat' (first | apply And.intro | apply BrB.mk | apply BrP.mk | intro _))
    all_goals try (refine ⟨x + 1, ?_, ?_, ?_⟩)
    all_goals try (show AS.le _ _; (cbv; (repeat' (first | apply And.intro | apply BrB.mk | apply BrP.mk | intro _)); all_goals (subst hA; subst h_c; subst h_fm; subst h_fi; subst h_fR); all_goals (have f_sa := SA.out); all_goals (try simp only [std, stdBin, stdCmp, stdUna, stdIn, ci, beq_iff_eq, bne_iff_ne, beq_eq_false_iff_ne, bne_eq_false_iff_eq, decide_eq_true_eq, decide_eq_false_iff_not, Bool.not_true, Bool.not_false, Bool.not_eq_true', Bool.not_eq_false', Bool.not_not, tn0, tn1, tn2, tn3] at *); (all_goals first | exact True.intro | rfl | exact congrArg (Value.int .i64) (by omega))))
    (all_goals (subst hA; subst h_c; subst h_fm; subst h_fi; subst h_fR); all_goals (have f_sa := SA.out); all_goals (try simp only [std, stdBin, stdCmp, stdUna, stdIn, ci, beq_iff_eq, bne_iff_ne, beq_eq_false_iff_ne, bne_eq_false_iff_eq, decide_eq_true_eq, decide_eq_false_iff_not, Bool.not_true, Bool.not_false, Bool.not_eq_true', Bool.not_eq_false', Bool.not_not, tn0, tn1, tn2, tn3, mayAccF, Int.toNat_natCast, inBF] at *); all_goals (try omega))
    · refine vb ?_
      have hc : mayAccB ⟨aD, aE, aL⟩ = true := by assumption
      have hb : inB (aL.getD x 0) = false := by assumption
      have h1 : allB aL = false := allTo_false (x := x) (by omega) hb
      have h2 : ((x : Int) ≥ 0) = True := by simp
      show (mayAccB ⟨aD, aE, aL⟩ && allB aL) = _
      rw [hc, h1]
      simp
    · refine ⟨by omega, fun j hj => ?_⟩
      by_cases e : j = x
      · subst e; assumption
      · exact hx.2 j (by omega)
    · refine vb ?_
      have hc : mayAccB ⟨aD, aE, aL⟩ = true := by assumption
      show (mayAccB ⟨aD, aE, aL⟩ && allB aL) = _
      rw [hc, show allB aL = true from allTo_true.2 fun j hj => hx.2 j (by omega)]
      rfl
  (all_goals (subst hA; subst h_c; subst h_fm; subst h_fi; subst h_fR); all_goals (have f_sa := SA.out); all_goals (try simp only [std, stdBin, stdCmp, stdUna, stdIn, ci, beq_iff_eq, bne_iff_ne, beq_eq_false_iff_ne, bne_eq_false_iff_eq, decide_eq_true_eq, decide_eq_false_iff_not, Bool.not_true, Bool.not_false, Bool.not_eq_true', Bool.not_eq_false', Bool.not_not, tn0, tn1, tn2, tn3, mayAccF] at *); all_goals (try omega))
  all_goals (refine vb ?_; have hc : mayAccB ⟨aD, aE, aL⟩ = false := (by assumption); show (mayAccB ⟨aD, aE, aL⟩ && allB aL) = _; rw [hc]; rfl)
def sumL (a b : Tn) : List Int := (List.range a.data.length).map fun i => a.data.getD i 0 + b.data.getD i 0
def accErr (a b : Tn) : Int := if (mayAddB a && mayAddB b) = true then (if a.dims = b.dims ∧ a.exp = b.exp then (if allB (sumL a b) = true then 0 else 3) else 2) else 1
def accRes (a b : Tn) : Tn := ⟨a.dims, a.exp, sumL a b⟩
theorem mayAcc_lens {a b : Tn} (h1 : mayAddB a = true) (h2 : mayAddB b = true) (hd : a.dims = b.dims) : a.data.length = b.data.length ∧ a.data.length ≤ 8192 ∧ a.dims.length ≤ 4 ∧ (-128 ≤ a.exp ∧ a.exp ≤ 128) ∧ (∀ i, i < a.data.length → -16777216 < a.data.getD i 0 ∧ a.data.getD i 0 < 16777216) ∧ (∀ i, i < b.data.length → -16777216 < b.data.getD i 0 ∧ b.data.getD i 0 < 16777216) := by
  unfold mayAddB mayAccB at h1 h2
  simp only [Bool.and_eq_true, decide_eq_true_eq] at h1 h2
  obtain ⟨⟨⟨a1, a2⟩, a3⟩, a4⟩ := h1
  obtain ⟨⟨⟨b1, b2⟩, b3⟩, b4⟩ := h2
  rw [← hd] at b2
  have h3 := szD_in a.dims
  have h4 := ((mayD_iff a.dims).1 a1).1.2
  have g : ∀ {l : List Int}, allB l = true → ∀ i, i < l.length → -16777216 < l.getD i 0 ∧ l.getD i 0 < 16777216 := fun h i hi => by
    have := allTo_true.1 h i hi
    unfold inB at this
    rw [decide_eq_true_eq] at this
    exact this
  refine ⟨by omega, by omega, by omega, ?_, g a4, g b4⟩
  unfold expB at a3
  simp only [Bool.and_eq_true, decide_eq_true_eq] at a3
  omega
theorem mayAddF_eq (D L : List Int) (e : Int) : mayAddF [.st [.l D, .z e, .l L]] = mayAddB ⟨D, e, L⟩ := rfl
theorem sumL_len (a b : Tn) : (sumL a b).length = a.data.length := by simp [sumL]
theorem sumL_get (a b : Tn) {i : Nat} (h : i < a.data.length) : (sumL a b).getD i 0 = a.data.getD i 0 + b.data.getD i 0 := by
  unfold sumL
  rw [List.getD_eq_getElem?_getD, List.getElem?_map, List.getElem?_range h]; rfl
theorem acc_three {a b : Tn} (h1 : mayAddB a = true) (h2 : mayAddB b = true) (h3 : a.dims = b.dims) (h4 : a.exp = b.exp) {j : Nat} (hj : j < a.data.length) (h : inB (a.data.getD j 0 + b.data.getD j 0) = false) : accErr a b = 3 := by
  unfold accErr
  rw [h1, h2, if_pos (by rfl), if_pos ⟨h3, h4⟩, if_neg]
  have : allB (sumL a b) = false := allTo_false (x := j) (by rw [sumL_len]; exact hj) (by rw [sumL_get a b hj]; exact h)
  rw [this]; simp
theorem acc_zero {a b : Tn} (h1 : mayAddB a = true) (h2 : mayAddB b = true) (h3 : a.dims = b.dims) (h4 : a.exp = b.exp) (h : ∀ i, i < a.data.length → inB (a.data.getD i 0 + b.data.getD i 0) = true) : accErr a b = 0 := by
  unfold accErr
  rw [h1, h2, if_pos (by rfl), if_pos ⟨h3, h4⟩, if_pos]
  refine allTo_true.2 fun i hi => ?_
  rw [sumL_len] at hi
  rw [sumL_get a b hi]; exact h i hi
theorem set_self {l : List Int} {j : Nat} {v : Int} (h : j < l.length) : (l.set j v).getD j 0 = v := by
  rw [List.getD_eq_getElem?_getD, List.getElem?_set_self h]; rfl
theorem acc_ok : CtrOk Try.prog 26 (resC [tnTy .i32, tnTy .i32] .i32 3 21 (t2 accErr 0) (t2 accRes ⟨[], 0, []⟩)) := by
  obtain ⟨G, hG⟩ : ∃ G : List (FuncId × Ctr), G = [(42, boolC [tnTy .i32] mayAddF), (43, boolC [.int .i32] inBF), (31, boolC [.sl (.int .i64), .sl (.int .i64)] eqF), (32, rowP [.sl (.int .i64)] 3 .i64 (lenP 8) sameL)] := ⟨_, rfl⟩
  refine fn_ok (ck := true) Try.func26 rfl tt_ok (G := G) (by rw [hG]; exact ⟨⟨mayAdd_ok, by unfold FnOk; kernel_rfl⟩, ⟨inB_ok, by unfold FnOk; kernel_rfl⟩, ⟨same_ok, by unfold FnOk; kernel_rfl⟩, ⟨cloneI_ok, by unfold FnOk; kernel_rfl⟩, trivial⟩) mixed (by kernel_rfl) ?_
  intro xa xs h hx hp
  obtain ⟨a0, as0, x0, xs0, rfl, rfl, h0, H1⟩ := svArgs_cons h
  obtain ⟨a1, as1, x1, xs1, rfl, rfl, h1, H2⟩ := svArgs_cons H1
  obtain ⟨rfl, rfl⟩ := svArgs_nil H2
  obtain ⟨⟨aD, aE, aL⟩, rfl, rfl⟩ := argSV_tn h0
  obtain ⟨⟨bD, bE, bL⟩, rfl, rfl⟩ := argSV_tn h1
  have sa : (Fits .i64 aD ∧ ci aD.length ≤ 9223372036854775807) ∧ (-9223372036854775808 ≤ aE ∧ aE ≤ 9223372036854775807) ∧ Fits .i32 aL ∧ ci aL.length ≤ 9223372036854775807 := svf_tn (hx (Tn.sv .i32 ⟨aD, aE, aL⟩) (by simp))
  have sb : (Fits .i64 bD ∧ ci bD.length ≤ 9223372036854775807) ∧ (-9223372036854775808 ≤ bE ∧ bE ≤ 9223372036854775807) ∧ Fits .i32 bL ∧ ci bL.length ≤ 9223372036854775807 := svf_tn (hx (Tn.sv .i32 ⟨bD, bE, bL⟩) (by simp))
  have SA := Lib.hid sa
  clear sa
  have SB := Lib.hid sb
  clear sb
  clear hx hp h h0 H1 h1 H2
  subst hG
  generalize hA : std = A
  generalize h_c : ci = c
  generalize h_fm : mayAddF = fm
  generalize h_fi : inBF = fi
  generalize h_fs : eqF = fs
  generalize h_fl : lenP 8 = fl
  generalize h_fc : sameL = fc
  generalize h_fR : t2 accRes ⟨[], 0, []⟩ = fR
  generalize h_fE : t2 accErr 0 = fE
  obtain ⟨S, hS⟩ : ∃ S : Nat → List Int, ∀ j, S j = mixL (fun _ => 0) (fun i => aL.getD i 0 + bL.getD i 0) aL.length j := ⟨_, fun _ => rfl⟩
  have HS := Lib.hid hS
  clear hS
  cbv
  (repeat' (first | apply And.intro | apply BrB.mk | apply BrP.mk | intro _))
  all_goals try (refine loop_at Nat 44 (fun j => [(5, .any), (7, .any), (44, .v (.int .i64 (c j)))]) (fun j o => o.set 4 (.irow 21 .i32 (S j))) (fun j => j ≤ aL.length ∧ ∀ i, i < j → inB (aL.getD i 0 + bL.getD i 0) = true) (fun j => aL.length - j) 0 ?h0 ?hle ?round)
  case h0 => exact ⟨Nat.zero_le _, fun j hj => absurd hj (Nat.not_lt_zero _)⟩
  case hle =>
    cbv
    (repeat' (first | apply And.intro | apply BrB.mk | apply BrP.mk | intro _))
    (all_goals (subst hA; subst h_c; subst h_fm; subst h_fi; subst h_fs; subst h_fl; subst h_fc; subst h_fR; subst h_fE); all_goals (have f_sa := SA.out; have f_sb := SB.out); all_goals (try simp only [std, stdBin, stdCmp, stdUna, stdIn, ci, beq_iff_eq, bne_iff_ne, beq_eq_false_iff_ne, bne_eq_false_iff_eq, decide_eq_true_eq, decide_eq_false_iff_not, Bool.not_true, Bool.not_false, Bool.not_eq_true', Bool.not_eq_false', Bool.not_not, tn0, tn1, tn2, tn3, t2, mayAddF_eq, eqF] at *); all_goals (try omega))
    all_goals first | exact True.intro | rfl | skip
    rw [HS.out, mixL_nil, Int.toNat_natCast]
  case round =>
    intro j hj
    cbv
    refine BrB.mk (fun gx => ?yx) (fun gx => ?nx)
    case yx =>
      (repeat' (first | apply And.intro | apply BrB.mk | apply BrP.mk | intro _))
      all_goals try (refine ⟨j + 1, ?jI, ?jL, ?jM⟩)
      case jL =>
        cbv
        (repeat' (first | apply And.intro | apply BrB.mk | apply BrP.mk | intro _))
        (all_goals (subst hA; subst h_c; subst h_fm; subst h_fi; subst h_fs; subst h_fl; subst h_fc; subst h_fR; subst h_fE); all_goals (have f_sa := SA.out; have f_sb := SB.out); all_goals (try simp only [std, stdBin, stdCmp, stdUna, stdIn, ci, beq_iff_eq, bne_iff_ne, beq_eq_false_iff_ne, bne_eq_false_iff_eq, decide_eq_true_eq, decide_eq_false_iff_not, Bool.not_true, Bool.not_false, Bool.not_eq_true', Bool.not_eq_false', Bool.not_not, tn0, tn1, tn2, tn3, t2, mayAddF_eq, eqF, List.length_replicate, Int.toNat_natCast] at *); all_goals (try omega))
        all_goals first | exact True.intro | rfl | skip
        rw [HS.out, HS.out]
        exact mixL_store (by omega) rfl
      (all_goals (subst hA; subst h_c; subst h_fm; subst h_fi; subst h_fs; subst h_fl; subst h_fc; subst h_fR; subst h_fE); all_goals (have f_sa := SA.out; have f_sb := SB.out); all_goals (try simp only [std, stdBin, stdCmp, stdUna, stdIn, ci, beq_iff_eq, bne_iff_ne, beq_eq_false_iff_ne, bne_eq_false_iff_eq, decide_eq_true_eq, decide_eq_false_iff_not, Bool.not_true, Bool.not_false, Bool.not_eq_true', Bool.not_eq_false', Bool.not_not, tn0, tn1, tn2, tn3, t2, mayAddF_eq, eqF, inBF, List.length_replicate, Int.toNat_natCast] at *); all_goals (try omega))
      all_goals (have h1 : mayAddB ⟨aD, aE, aL⟩ = true := (by assumption); have h2 : mayAddB ⟨bD, bE, bL⟩ = true := (by assumption); have hm := mayAcc_lens h1 h2 (by assumption); simp only at hm)
      all_goals (obtain ⟨m1, m2, m3, m4, m5, m6⟩ := hm; have ma := m5 j (by omega); have mb := m6 j (by omega); try simp only [HS.out, mixL_len, List.length_set] at *)
      all_goals (try omega)
      all_goals (have hst : ((mixL (fun _ => 0) (fun i => aL.getD i 0 + bL.getD i 0) aL.length j).set j (aL.getD j 0 + bL.getD j 0)).getD j 0 = aL.getD j 0 + bL.getD j 0 := set_self (by rw [mixL_len]; omega); (try simp only [hst] at *))
      all_goals try (have h3 := acc_three (a := ⟨aD, aE, aL⟩) (b := ⟨bD, bE, bL⟩) h1 h2 (by assumption) (by assumption) (j := j) (by simp only; omega) (by assumption); first | (exfalso; omega) | rw [h3])
      refine ⟨by omega, fun i hi => ?_⟩
      by_cases e : i = j
      · subst e; assumption
      · exact hj.2 i (by omega)
    case nx =>
      (repeat' (first | apply And.intro | apply BrB.mk | apply BrP.mk | intro _))
      (all_goals (subst hA; subst h_c; subst h_fm; subst h_fi; subst h_fs; subst h_fl; subst h_fc; subst h_fR; subst h_fE); all_goals (have f_sa := SA.out; have f_sb := SB.out); all_goals (try simp only [std, stdBin, stdCmp, stdUna, stdIn, ci, beq_iff_eq, bne_iff_ne, beq_eq_false_iff_ne, bne_eq_false_iff_eq, decide_eq_true_eq, decide_eq_false_iff_not, Bool.not_true, Bool.not_false, Bool.not_eq_true', Bool.not_eq_false', Bool.not_not, tn0, tn1, tn2, tn3, t2, mayAddF_eq, eqF, List.length_replicate, Int.toNat_natCast] at *); all_goals (try omega))
      all_goals (have h1 : mayAddB ⟨aD, aE, aL⟩ = true := (by assumption); have h2 : mayAddB ⟨bD, bE, bL⟩ = true := (by assumption); have hm := mayAcc_lens h1 h2 (by assumption); simp only at hm)
      · rfl
      · rfl
      · rw [HS.out, show j = aL.length by omega, mixL_all]
        rfl
      · have h3 := acc_zero (a := ⟨aD, aE, aL⟩) (b := ⟨bD, bE, bL⟩) h1 h2 (by assumption) (by assumption) (fun i hi => hj.2 i (by simp only at hi; omega))
        contradiction
  (all_goals (subst hA; subst h_c; subst h_fm; subst h_fi; subst h_fs; subst h_fl; subst h_fc; subst h_fR; subst h_fE); all_goals (have f_sa := SA.out; have f_sb := SB.out); all_goals (try simp only [std, stdBin, stdCmp, stdUna, stdIn, ci, beq_iff_eq, bne_iff_ne, beq_eq_false_iff_ne, bne_eq_false_iff_eq, decide_eq_true_eq, decide_eq_false_iff_not, Bool.not_true, Bool.not_false, Bool.not_eq_true', Bool.not_eq_false', Bool.not_not, tn0, tn1, tn2, tn3, t2, mayAddF_eq, eqF, lenP] at *); all_goals (try omega))
  all_goals (try (simp only [accErr] at *; simp_all; done))
  all_goals (have h1 : mayAddB ⟨aD, aE, aL⟩ = true := (by assumption); have h2 : mayAddB ⟨bD, bE, bL⟩ = true := (by assumption); have hm := mayAcc_lens h1 h2 (by assumption); simp only at hm)
  all_goals omega
theorem accU_ok : CtrOk Try.prog 26 (resU [tnTy .i32, tnTy .i32] .i32 3 21 (t2 accErr 0) (rU (t2 accErr 0) (t2 accRes ⟨[], 0, []⟩))) := by
  exact resU_of acc_ok
theorem accErr_sym (a b : Tn) : accErr a b = accErr b a := by
  unfold accErr
  rw [show (mayAddB b && mayAddB a) = (mayAddB a && mayAddB b) from Bool.and_comm _ _]
  by_cases h : (mayAddB a && mayAddB b) = true
  · rw [if_pos h, if_pos h]
    simp only [Bool.and_eq_true] at h
    by_cases hd : a.dims = b.dims ∧ a.exp = b.exp
    · rw [if_pos hd, if_pos (show b.dims = a.dims ∧ b.exp = a.exp from ⟨hd.1.symm, hd.2.symm⟩)]
      have hl := (mayAcc_lens h.1 h.2 hd.1).1
      have : sumL a b = sumL b a := by
        unfold sumL
        rw [hl]
        exact List.map_congr_left fun i _ => Int.add_comm _ _
      rw [this]
    · rw [if_neg hd, if_neg (show ¬ (b.dims = a.dims ∧ b.exp = a.exp) from fun h => hd ⟨h.1.symm, h.2.symm⟩)]
  · rw [if_neg h, if_neg h]
theorem acc_cases (a b : Tn) (h : accErr a b = 0) : mayAddB a = true ∧ mayAddB b = true ∧ a.dims = b.dims ∧ a.exp = b.exp ∧ allB (sumL a b) = true := by
  unfold accErr at h
  by_cases h1 : (mayAddB a && mayAddB b) = true
  · rw [if_pos h1] at h
    by_cases h2 : a.dims = b.dims ∧ a.exp = b.exp
    · rw [if_pos h2] at h
      by_cases h3 : allB (sumL a b) = true
      · simp only [Bool.and_eq_true] at h1
        exact ⟨h1.1, h1.2, h2.1, h2.2, h3⟩
      · rw [if_neg h3] at h; exact absurd h (by decide)
    · rw [if_neg h2] at h; exact absurd h (by decide)
  · rw [if_neg h1] at h; exact absurd h (by decide)
/-- What comes of sums, or nothing. -/
def accU (a b : Tn) : Tn := if accErr a b = 0 then accRes a b else ⟨[], 0, []⟩
theorem accU_sym (a b : Tn) : accU a b = accU b a := by
  unfold accU
  rw [accErr_sym a b]
  by_cases h : accErr b a = 0
  · rw [if_pos h, if_pos h]
    obtain ⟨h1, h2, h3, h4, _⟩ := acc_cases b a h
    have hl := (mayAcc_lens h1 h2 h3).1
    unfold accRes sumL
    rw [h3, h4, hl]
    refine congrArg (Tn.mk _ _) ?_
    exact List.map_congr_left fun i _ => Int.add_comm _ _
  · rw [if_neg h, if_neg h]
theorem accU_in (a b : Tn) (i : Nat) : -16777216 < (accU a b).data.getD i 0 ∧ (accU a b).data.getD i 0 < 16777216 := by
  unfold accU
  split
  · rename_i h
    obtain ⟨_, _, _, _, h5⟩ := acc_cases a b h
    by_cases hi : i < (sumL a b).length
    · have := allTo_true.1 h5 i hi
      unfold inB at this
      rw [decide_eq_true_eq] at this
      exact this
    · show -16777216 < (sumL a b).getD i 0 ∧ (sumL a b).getD i 0 < 16777216
      rw [List.getD_eq_getElem?_getD, List.getElem?_eq_none (by omega)]; exact ⟨by decide, by decide⟩
  · simp
theorem accU_len (a b : Tn) : (accU a b).data.length ≤ 8192 := by
  unfold accU
  split
  · rename_i h
    obtain ⟨h1, h2, h3, _, _⟩ := acc_cases a b h
    show (sumL a b).length ≤ 8192
    rw [sumL_len]
    exact (mayAcc_lens h1 h2 h3).2.1
  · exact Nat.zero_le _
theorem rep_get0 (n i : Nat) : (List.replicate n (0 : Int)).getD i 0 = 0 := by
  rw [List.getD_eq_getElem?_getD, List.getElem?_replicate]
  split <;> rfl
theorem acc_zeros {D L : List Int} {e : Int} (h : accErr ⟨D, e, L⟩ ⟨D, e, List.replicate L.length 0⟩ = 0) : accU ⟨D, e, L⟩ ⟨D, e, List.replicate L.length 0⟩ = ⟨D, e, L⟩ := by
  unfold accU
  rw [if_pos h]
  unfold accRes
  refine congrArg (Tn.mk D e) ?_
  refine eqL (by simp [sumL]) fun j hj => ?_
  rw [sumL_len] at hj
  rw [sumL_get _ _ hj]
  simp only [rep_get0, Int.add_zero]
theorem accE_eq (D L D' L' : List Int) (e e' : Int) : t2 accErr 0 [.st [.l D, .z e, .l L], .st [.l D', .z e', .l L']] = accErr ⟨D, e, L⟩ ⟨D', e', L'⟩ := rfl
theorem accR_eq (D L D' L' : List Int) (e e' : Int) : rU (t2 accErr 0) (t2 accRes ⟨[], 0, []⟩) [.st [.l D, .z e, .l L], .st [.l D', .z e', .l L']] = accU ⟨D, e, L⟩ ⟨D', e', L'⟩ := rfl
theorem sameF_eta (t u : Tn) : sameTnF [.st [.l t.dims, .z t.exp, .l t.data], .st [.l u.dims, .z u.exp, .l u.data]] = sameTn t u := rfl
theorem sameTn_refl (t : Tn) : sameTn t t = true := (sameTn_iff t.dims t.data t.dims t.data t.exp t.exp).2 ⟨rfl, rfl, rfl⟩
def data4 (n : Nat) (xa : List AV) : Prop := match xa with
  | [.st [.l _, .z _, .l L], .st [.l _, .z _, .l _]] => L.length * 4 ≤ n
  | _ => False
theorem asums14_ok : CtrOk Try.prog 9 (yesP [tnTy .i32, tnTy .i32] (data4 140737488355328)) := by
  obtain ⟨G, hG⟩ : ∃ G : List (FuncId × Ctr), G = [(26, resU [tnTy .i32, tnTy .i32] .i32 3 21 (t2 accErr 0) (rU (t2 accErr 0) (t2 accRes ⟨[], 0, []⟩))), (28, boolC [tnTy .i32, tnTy .i32] sameTnF), (29, boolC [] yes)] := ⟨_, rfl⟩
  refine fn_ok (ck := true) Try.func9 rfl tt_ok (G := G) (by rw [hG]; exact ⟨⟨accU_ok, by unfold FnOk; kernel_rfl⟩, ⟨rsameAcc_ok, by unfold FnOk; kernel_rfl⟩, ⟨awake14_ok, by unfold FnOk; kernel_rfl⟩, trivial⟩) mixed (by kernel_rfl) ?_
  intro xa xs h hx hp
  obtain ⟨a0, as0, x0, xs0, rfl, rfl, h0, H1⟩ := svArgs_cons h
  obtain ⟨a1, as1, x1, xs1, rfl, rfl, h1, H2⟩ := svArgs_cons H1
  obtain ⟨rfl, rfl⟩ := svArgs_nil H2
  obtain ⟨⟨aD, aE, aL⟩, rfl, rfl⟩ := argSV_tn h0
  obtain ⟨⟨bD, bE, bL⟩, rfl, rfl⟩ := argSV_tn h1
  have sa : (Fits .i64 aD ∧ ci aD.length ≤ 9223372036854775807) ∧ (-9223372036854775808 ≤ aE ∧ aE ≤ 9223372036854775807) ∧ Fits .i32 aL ∧ ci aL.length ≤ 9223372036854775807 := svf_tn (hx (Tn.sv .i32 ⟨aD, aE, aL⟩) (by simp))
  have sb : (Fits .i64 bD ∧ ci bD.length ≤ 9223372036854775807) ∧ (-9223372036854775808 ≤ bE ∧ bE ≤ 9223372036854775807) ∧ Fits .i32 bL ∧ ci bL.length ≤ 9223372036854775807 := svf_tn (hx (Tn.sv .i32 ⟨bD, bE, bL⟩) (by simp))
  have SA := Lib.hid sa
  clear sa
  have SB := Lib.hid sb
  clear sb
  have HP := Lib.hid (hp _ rfl)
  clear hx hp h h0 H1 h1 H2
  subst hG
  generalize hA : std = A
  generalize h_c : ci = c
  generalize h_fR : rU (t2 accErr 0) (t2 accRes ⟨[], 0, []⟩) = fR
  generalize h_fE : t2 accErr 0 = fE
  generalize h_fs : sameTnF = fs
  generalize h_fY : yes = fY
  cbv
  (repeat' (first | apply And.intro | apply BrB.mk | apply BrP.mk | intro _))
  all_goals try (refine loop_at Nat 61 (fun j => [(4, .any), (13, .any), (61, .v (.int .i64 (c j)))]) (fun _ o => o) (fun j => j ≤ (accU ⟨aD, aE, aL⟩ ⟨bD, bE, bL⟩).data.length) (fun j => (accU ⟨aD, aE, aL⟩ ⟨bD, bE, bL⟩).data.length - j) 0 (Nat.zero_le _) ?_ ?_)
  all_goals try (show AS.le _ _; (cbv; (repeat' (first | apply And.intro | apply BrB.mk | apply BrP.mk | intro _)); all_goals (subst hA; subst h_c; subst h_fR; subst h_fE; subst h_fs; subst h_fY); all_goals (have f_sa := SA.out; have f_sb := SB.out; have f_hp := HP.out); all_goals (try simp only [std, stdBin, stdCmp, stdUna, stdIn, ci, beq_iff_eq, bne_iff_ne, beq_eq_false_iff_ne, bne_eq_false_iff_eq, decide_eq_true_eq, decide_eq_false_iff_not, Bool.not_true, Bool.not_false, Bool.not_eq_true', Bool.not_eq_false', Bool.not_not, tn0, tn1, tn2, tn3] at *); (all_goals first | exact True.intro | rfl | exact congrArg (Value.int .i64) (by omega))))
  all_goals try (
    intro j hj
    cbv
    (repeat' (first | apply And.intro | apply BrB.mk | apply BrP.mk | intro _))
    all_goals try (refine ⟨j + 1, ?_, ?_, ?_⟩)
    all_goals try (show AS.le _ _; (cbv; (repeat' (first | apply And.intro | apply BrB.mk | apply BrP.mk | intro _)); all_goals (subst hA; subst h_c; subst h_fR; subst h_fE; subst h_fs; subst h_fY); all_goals (have f_sa := SA.out; have f_sb := SB.out; have f_hp := HP.out); all_goals (try simp only [std, stdBin, stdCmp, stdUna, stdIn, ci, beq_iff_eq, bne_iff_ne, beq_eq_false_iff_ne, bne_eq_false_iff_eq, decide_eq_true_eq, decide_eq_false_iff_not, Bool.not_true, Bool.not_false, Bool.not_eq_true', Bool.not_eq_false', Bool.not_not, tn0, tn1, tn2, tn3] at *); (all_goals first | exact True.intro | rfl | exact congrArg (Value.int .i64) (by omega))))
    all_goals (subst hA; subst h_c; subst h_fR; subst h_fE; subst h_fs; subst h_fY)
    all_goals (have f_sa := SA.out; have f_sb := SB.out; have f_hp := HP.out)
    all_goals (try simp only [std, stdBin, stdCmp, stdUna, stdIn, ci, beq_iff_eq, bne_iff_ne, beq_eq_false_iff_ne, bne_eq_false_iff_eq, decide_eq_true_eq, decide_eq_false_iff_not, Bool.not_true, Bool.not_false, Bool.not_eq_true', Bool.not_eq_false', Bool.not_not, tn0, tn1, tn2, tn3, accE_eq, accR_eq, sameF_eta, Int.toNat_natCast] at *)
    all_goals (have hb := accU_in ⟨aD, aE, aL⟩ ⟨bD, bE, bL⟩ j; have hbl := accU_len ⟨aD, aE, aL⟩ ⟨bD, bE, bL⟩)
    all_goals (generalize accU ⟨aD, aE, aL⟩ ⟨bD, bE, bL⟩ = U at *; obtain ⟨UD, UE, UL⟩ := U; dsimp only at *)
    all_goals (first | exact True.intro | omega | (refine vb ?_; rfl) | contradiction))
  all_goals (subst hA; subst h_c; subst h_fR; subst h_fE; subst h_fs; subst h_fY)
  all_goals (have f_sa := SA.out; have f_sb := SB.out; have f_hp := HP.out)
  all_goals (have hlen : aL.length * 4 ≤ 140737488355328 := f_hp; clear f_hp HP)
  all_goals (have e1 := accErr_sym ⟨aD, aE, aL⟩ ⟨bD, bE, bL⟩; have e2 := accU_sym ⟨aD, aE, aL⟩ ⟨bD, bE, bL⟩)
  all_goals (try simp only [std, stdBin, stdCmp, stdUna, stdIn, ci, beq_iff_eq, bne_iff_ne, beq_eq_false_iff_ne, bne_eq_false_iff_eq, decide_eq_true_eq, decide_eq_false_iff_not, Bool.not_true, Bool.not_false, Bool.not_eq_true', Bool.not_eq_false', Bool.not_not, tn0, tn1, tn2, tn3, accE_eq, accR_eq, sameF_eta, Int.toNat_natCast] at *)
  all_goals (try first | exact True.intro | omega | (refine vb ?_; rfl) | contradiction)
  all_goals try (rw [e2, sameTn_refl] at *; contradiction)
  all_goals (have hz := acc_zeros (D := aD) (L := aL) (e := aE) (by assumption); have hs : sameTnF [.st [.l (accU ⟨aD, aE, aL⟩ ⟨aD, aE, List.replicate aL.length 0⟩).dims, .z (accU ⟨aD, aE, aL⟩ ⟨aD, aE, List.replicate aL.length 0⟩).exp, .l (accU ⟨aD, aE, aL⟩ ⟨aD, aE, List.replicate aL.length 0⟩).data], .st [.l aD, .z aE, .l aL]] = true := (by rw [hz]; exact sameTn_refl ⟨aD, aE, aL⟩); rename_i hno; exact absurd (hs.symm.trans hno) (by decide))
end Go.Proofs.Ythclcnidbnbkcaa
