/- Layer 13: its laws. -/
import Derived.Test.YthclcnidbnbkcaaUnitA
namespace Go.Proofs.Ythclcnidbnbkcaa
open Go.RowKit
set_option maxRecDepth 100000
set_option linter.unusedSimpArgs false
set_option linter.unusedVariables false
set_option maxHeartbeats 8000000
theorem reluU_ok : CtrOk Try.prog 12 (resU [tnTy .i8] .i8 3 35 (t1 (fun x => rbErr x x) 0) (rU (t1 (fun x => rbErr x x) 0) (t1 (fun x => rbRes x x) ⟨[], 0, []⟩))) := by
  exact resU_of relu_ok
theorem rbackU_ok : CtrOk Try.prog 14 (resU [tnTy .i8, tnTy .i8] .i8 3 35 (t2 rbErr 0) (rU (t2 rbErr 0) (t2 rbRes ⟨[], 0, []⟩))) := by
  exact resU_of rback_ok
theorem flatU_ok : CtrOk Try.prog 16 (resU [tnTy .i8] .i8 3 35 (t1 flErr 0) (rU (t1 flErr 0) (t1 flRes ⟨[], 0, []⟩))) := by
  exact resU_of flat_ok
theorem shpU_ok : CtrOk Try.prog 18 (resU [tnTy .i8, .sl (.int .i64)] .i8 3 35 (t1i shpErr 0) (rU (t1i shpErr 0) (t1i shpRes ⟨[], 0, []⟩))) := by
  exact resU_of shp_ok
theorem awk13 : (t1 (fun x => rbErr x x) 0) [.st [.l [3], .z 0, .l [-1, 0, 2]]] = 0 := by kernel_rfl
theorem awk13' : (rU (t1 (fun x => rbErr x x) 0) (t1 (fun x => rbRes x x) ⟨[], 0, []⟩)) [.st [.l [3], .z 0, .l [-1, 0, 2]]] = ⟨[3], 0, [0, 0, 2]⟩ := by kernel_rfl
theorem awake13_ok : CtrOk Try.prog 21 (boolC [] yes) := by
  refine fn_ok (ck := true) Try.func21 rfl tt_ok (G := [(12, resU [tnTy .i8] .i8 3 35 (t1 (fun x => rbErr x x) 0) (rU (t1 (fun x => rbErr x x) 0) (t1 (fun x => rbRes x x) ⟨[], 0, []⟩)))]) ⟨⟨reluU_ok, by unfold FnOk; kernel_rfl⟩, trivial⟩ mixed (by kernel_rfl) ?_
  intro xa xs h hx hp
  obtain ⟨rfl, rfl⟩ := svArgs_nil h
  clear hx hp h 
  generalize hA : std = A
  generalize h_c : ci = c
  generalize h_fR : rU (t1 (fun x => rbErr x x) 0) (t1 (fun x => rbRes x x) ⟨[], 0, []⟩) = fR
  generalize h_fE : t1 (fun x => rbErr x x) 0 = fE
  generalize h_fY : yes = fY
  cbv
  (repeat' (first | apply And.intro | apply BrB.mk | apply BrP.mk | intro _))
  (all_goals (subst hA; subst h_c; subst h_fR; subst h_fE; subst h_fY); all_goals (skip); all_goals (try simp only [std, stdBin, stdCmp, stdUna, stdIn, ci, beq_iff_eq, bne_iff_ne, beq_eq_false_iff_ne, bne_eq_false_iff_eq, decide_eq_true_eq, decide_eq_false_iff_not, Bool.not_true, Bool.not_false, Bool.not_eq_true', Bool.not_eq_false', Bool.not_not, tn0, tn1, tn2, tn3, awk13, awk13'] at *); all_goals (try omega))
  all_goals (first | rfl | contradiction | simp_all)
theorem gate_len (g x : List Int) : (gate g x).length = g.length := by simp [gate]
theorem gate_get (g x : List Int) {i : Nat} (h : i < g.length) : (gate g x).getD i 0 = if 0 < x.getD i 0 then g.getD i 0 else 0 := by
  unfold gate
  rw [List.getD_eq_getElem?_getD, List.getElem?_map, List.getElem?_range h]
  rfl
theorem gate_no (g x : List Int) (h : g.contains (-128) = false) : (gate g x).contains (-128) = false := by
  rw [List.contains_eq_mem, decide_eq_false_iff_not] at h ⊢
  intro hm
  obtain ⟨i, hi, he⟩ := List.mem_map.1 hm
  split at he
  · refine h ?_
    rw [← he, List.getD_eq_getElem?_getD, List.getElem?_eq_getElem (List.mem_range.1 hi)]
    exact List.getElem_mem _
  · exact absurd he (by decide)
theorem gate_gate (g : List Int) : gate (gate g g) (gate g g) = gate g g := by
  refine eqL (by simp [gate_len]) fun j hj => ?_
  rw [gate_len, gate_len] at hj
  rw [gate_get _ _ (by rw [gate_len]; exact hj), gate_get _ _ hj]
  by_cases h : 0 < g.getD j 0
  · simp only [if_pos h]
  · simp only [if_neg h]
    rfl
theorem rb_may {g x : Tn} (h : (mayB g && mayB x) = true) (hd : g.dims = x.dims) : mayB (rbRes g x) = true := by
  obtain ⟨D, e, L⟩ := g
  rw [Bool.and_eq_true] at h
  have h1 := (mayB_eq D L e).1 h.1
  refine (mayB_eq _ _ _).2 ⟨h1.1, ?_, h1.2.2.1, gate_no _ _ h1.2.2.2⟩
  rw [gate_len]
  exact h1.2.1
theorem rb_ok {g x : Tn} (h : (mayB g && mayB x) = true) (hd : g.dims = x.dims) : rbErr g x = 0 := by
  unfold rbErr
  rw [if_pos h, if_pos hd]
theorem rb_self {x : Tn} (h : mayB x = true) : rbErr x x = 0 ∧ mayB (rbRes x x) = true ∧ rbErr (rbRes x x) (rbRes x x) = 0 ∧ rbRes (rbRes x x) (rbRes x x) = rbRes x x := by
  have h1 : (mayB x && mayB x) = true := by rw [h]; rfl
  have h2 := rb_may h1 rfl
  exact ⟨rb_ok h1 rfl, h2, rb_ok (by rw [h2]; rfl) rfl, by unfold rbRes; simp only [gate_gate]⟩
theorem rb_no {x : Tn} (h : mayB x = false) : rbErr x x = 1 := by
  unfold rbErr
  rw [if_neg (by rw [h]; decide)]
theorem fl_no {x : Tn} (h : mayB x = false) : flErr x = 1 := by
  unfold flErr
  rw [if_neg (by rw [h]; decide)]
/-- What is flat is of the same size. -/
theorem flD_sz {D L : List Int} {e : Int} (h : mayB ⟨D, e, L⟩ = true) (hm : mayD (flD ⟨D, e, L⟩) = true) : szD (flD ⟨D, e, L⟩) = (L.length : Int) := by
  have h1 := (mayB_eq D L e).1 h
  have h2 := (mayD_iff D).1 h1.1
  match D, h1, h2, hm with
  | [], _, h2, _ => exact absurd h2.1.1 (by simp)
  | a :: D, h1, h2, hm =>
    have ha := h2.2.1 a (by simp)
    have hp : prodFrom 1 (a :: D) = a * prodFrom 1 D := by rw [prodFrom_cons, Int.one_mul, prodFrom_one]
    have hpos := prodFrom_pos 1 D (by omega) (fun x hx => h2.2.1 x (by simp [hx]))
    have hl : (L.length : Int) = a * prodFrom 1 D := by
      rw [h1.2.1]
      unfold szD
      rw [if_pos h1.1, hp]
    have hbig : prodFrom 1 D ≤ a * prodFrom 1 D := by
      have := Int.mul_le_mul_of_nonneg_right ha.1 (show 0 ≤ prodFrom 1 D by omega)
      omega
    have h8 := h2.2.2
    rw [hp] at h8
    have hq : flD ⟨a :: D, e, L⟩ = [a, prodFrom 1 D] := by
      unfold flD
      simp only [List.getD_cons_zero]
      rw [hl, Int.mul_tdiv_cancel_left _ (show a ≠ 0 by omega), w64 (by omega) (by omega)]
    rw [hq] at hm ⊢
    unfold szD
    rw [if_pos hm, hl]
    simp [prodFrom]
/-- Flat, and back in its shape. -/
theorem fl_back {x : Tn} (h : mayB x = true) : flErr x = 1 ∨ (flErr x = 0 ∧ shpErr (flRes x) x.dims = 0 ∧ shpRes (flRes x) x.dims = x) := by
  obtain ⟨D, e, L⟩ := x
  have h1 := (mayB_eq D L e).1 h
  by_cases hm : mayD (flD ⟨D, e, L⟩) = true
  · right
    have hz := flD_sz h hm
    have hb : mayB (flRes ⟨D, e, L⟩) = true := (mayB_eq _ _ _).2 ⟨hm, hz.symm, h1.2.2⟩
    refine ⟨?_, ?_, rfl⟩
    · unfold flErr shpErr
      rw [if_pos h, if_pos h, if_pos hm, if_pos hz]
    · unfold shpErr
      rw [if_pos hb, if_pos h1.1]
      exact if_pos h1.2.1.symm
  · left
    unfold flErr shpErr
    rw [if_pos h, if_pos h, if_neg hm]
theorem Tn.eta (t : Tn) : (⟨t.dims, t.exp, t.data⟩ : Tn) = t := rfl
theorem sameTnF_eq (D L D' L' : List Int) (e e' : Int) : sameTnF [.st [.l D, .z e, .l L], .st [.l D', .z e', .l L']] = sameTn ⟨D, e, L⟩ ⟨D', e', L'⟩ := rfl
theorem sameTn_self (t : Tn) : sameTn t t = true := (sameTn_iff t.dims t.data t.dims t.data t.exp t.exp).2 ⟨rfl, rfl, rfl⟩
theorem tnMayF_eq (D L : List Int) (e : Int) : tnMayF [.st [.l D, .z e, .l L]] = mayB ⟨D, e, L⟩ := rfl
theorem twice13_ok : CtrOk Try.prog 4 (boolC [tnTy .i8] yes) := by
  refine fn_ok (ck := true) Try.func4 rfl tt_ok (G := [(12, resU [tnTy .i8] .i8 3 35 (t1 (fun x => rbErr x x) 0) (rU (t1 (fun x => rbErr x x) 0) (t1 (fun x => rbRes x x) ⟨[], 0, []⟩))), (16, resU [tnTy .i8] .i8 3 35 (t1 flErr 0) (rU (t1 flErr 0) (t1 flRes ⟨[], 0, []⟩))), (18, resU [tnTy .i8, .sl (.int .i64)] .i8 3 35 (t1i shpErr 0) (rU (t1i shpErr 0) (t1i shpRes ⟨[], 0, []⟩))), (22, boolC [tnTy .i8] tnMayF), (20, boolC [tnTy .i8, tnTy .i8] sameTnF), (21, boolC [] yes)]) ⟨⟨reluU_ok, by unfold FnOk; kernel_rfl⟩, ⟨flatU_ok, by unfold FnOk; kernel_rfl⟩, ⟨shpU_ok, by unfold FnOk; kernel_rfl⟩, ⟨rmayT_ok, by unfold FnOk; kernel_rfl⟩, ⟨rsameT_ok, by unfold FnOk; kernel_rfl⟩, ⟨awake13_ok, by unfold FnOk; kernel_rfl⟩, trivial⟩ mixed (by kernel_rfl) ?_
  intro xa xs h hx hp
  obtain ⟨a0, as0, x0, xs0, rfl, rfl, h0, H1⟩ := svArgs_cons h
  obtain ⟨rfl, rfl⟩ := svArgs_nil H1
  obtain ⟨⟨xD, xE, xL⟩, rfl, rfl⟩ := argSV_tn h0
  have sx : (Fits .i64 xD ∧ ci xD.length ≤ 9223372036854775807) ∧ (-9223372036854775808 ≤ xE ∧ xE ≤ 9223372036854775807) ∧ Fits .i8 xL ∧ ci xL.length ≤ 9223372036854775807 := svf_tn (hx (Tn.sv .i8 ⟨xD, xE, xL⟩) (by simp))
  have SX := Lib.hid sx
  clear sx
  clear hx hp h h0 H1
  generalize hA : std = A
  generalize h_c : ci = c
  generalize h_fR : rU (t1 (fun x => rbErr x x) 0) (t1 (fun x => rbRes x x) ⟨[], 0, []⟩) = fR
  generalize h_fE : t1 (fun x => rbErr x x) 0 = fE
  generalize h_lR : rU (t1 flErr 0) (t1 flRes ⟨[], 0, []⟩) = lR
  generalize h_lE : t1 flErr 0 = lE
  generalize h_sR : rU (t1i shpErr 0) (t1i shpRes ⟨[], 0, []⟩) = sR
  generalize h_sE : t1i shpErr 0 = sE
  generalize h_fm : tnMayF = fm
  generalize h_fs : sameTnF = fs
  generalize h_fY : yes = fY
  cbv
  (repeat' (first | apply And.intro | apply BrB.mk | apply BrP.mk | intro _))
  all_goals try (refine loop_at Nat 78 (fun j => [(11, .any), (12, .any), (78, .v (.int .i64 (c j)))]) (fun _ o => o) (fun j => ci j ≤ ci xL.length) (fun j => xL.length - j) 0 ?h0 ?hle ?round)
  case h0 => simp [ci]
  case hle => (cbv; (repeat' (first | apply And.intro | apply BrB.mk | apply BrP.mk | intro _)); all_goals (subst hA; subst h_c; subst h_fR; subst h_fE; subst h_lR; subst h_lE; subst h_sR; subst h_sE; subst h_fm; subst h_fs; subst h_fY); all_goals (have f_sx := SX.out); all_goals (try simp only [std, stdBin, stdCmp, stdUna, stdIn, ci, beq_iff_eq, bne_iff_ne, beq_eq_false_iff_ne, bne_eq_false_iff_eq, decide_eq_true_eq, decide_eq_false_iff_not, Bool.not_true, Bool.not_false, Bool.not_eq_true', Bool.not_eq_false', Bool.not_not, tn0, tn1, tn2, tn3] at *); (all_goals first | exact True.intro | rfl | exact congrArg (Value.int .i64) (by omega)))
  case round =>
    intro j hj
    cbv
    refine BrB.mk (fun gx => ?yx) (fun gx => ?nx)
    case yx =>
      (repeat' (first | apply And.intro | apply BrB.mk | apply BrP.mk | intro _))
      all_goals try (refine ⟨j + 1, ?jI, ?jL, ?jM⟩)
      case jL => (cbv; (repeat' (first | apply And.intro | apply BrB.mk | apply BrP.mk | intro _)); all_goals (subst hA; subst h_c; subst h_fR; subst h_fE; subst h_lR; subst h_lE; subst h_sR; subst h_sE; subst h_fm; subst h_fs; subst h_fY); all_goals (have f_sx := SX.out); all_goals (try simp only [std, stdBin, stdCmp, stdUna, stdIn, ci, beq_iff_eq, bne_iff_ne, beq_eq_false_iff_ne, bne_eq_false_iff_eq, decide_eq_true_eq, decide_eq_false_iff_not, Bool.not_true, Bool.not_false, Bool.not_eq_true', Bool.not_eq_false', Bool.not_not, tn0, tn1, tn2, tn3] at *); (all_goals first | exact True.intro | rfl | exact congrArg (Value.int .i64) (by omega)))
      all_goals (subst hA; subst h_c; subst h_fR; subst h_fE; subst h_lR; subst h_lE; subst h_sR; subst h_sE; subst h_fm; subst h_fs; subst h_fY)
      all_goals (have f_sx := SX.out)
      all_goals (try simp only [std, stdBin, stdCmp, stdUna, stdIn, ci, beq_iff_eq, bne_iff_ne, beq_eq_false_iff_ne, bne_eq_false_iff_eq, decide_eq_true_eq, decide_eq_false_iff_not, Bool.not_true, Bool.not_false, Bool.not_eq_true', Bool.not_eq_false', Bool.not_not, tn0, tn1, tn2, tn3, rU, t1, t2, t1i, tnMayF_eq, sameTnF_eq, Tn.eta] at *)
      all_goals (try omega)
      all_goals (have hb : mayB ⟨xD, xE, xL⟩ = true := by assumption)
      all_goals (obtain ⟨F1, F2, F3, F4⟩ := rb_self hb)
      all_goals (simp only [F1, if_true, Int.toNat_natCast] at *)
      · show 0 ≤ (j : Int) ∧ (j : Int) < ((gate xL xL).length : Int)
        rw [gate_len]
        omega
      · exfalso
        have hne : (gate xL xL).getD j 0 ≠ if 0 > xL.getD j 0 then 0 else xL.getD j 0 := by assumption
        refine hne ?_
        rw [gate_get _ _ (by omega)]
        split <;> split <;> omega
    case nx =>
      (repeat' (first | apply And.intro | apply BrB.mk | apply BrP.mk | intro _))
      all_goals (subst hA; subst h_c; subst h_fR; subst h_fE; subst h_lR; subst h_lE; subst h_sR; subst h_sE; subst h_fm; subst h_fs; subst h_fY)
      all_goals (have f_sx := SX.out)
      all_goals (try simp only [std, stdBin, stdCmp, stdUna, stdIn, ci, beq_iff_eq, bne_iff_ne, beq_eq_false_iff_ne, bne_eq_false_iff_eq, decide_eq_true_eq, decide_eq_false_iff_not, Bool.not_true, Bool.not_false, Bool.not_eq_true', Bool.not_eq_false', Bool.not_not, tn0, tn1, tn2, tn3, rU, t1, t2, t1i, tnMayF_eq, sameTnF_eq, Tn.eta] at *)
      all_goals (have hb : mayB ⟨xD, xE, xL⟩ = true := by assumption)
      all_goals (rcases fl_back hb with G1 | ⟨G1, G2, G3⟩)
      all_goals (simp only [G1, if_true] at *)
      all_goals (try first | rfl | contradiction | omega)
      all_goals (simp only [G2, G3, if_true, sameTn_self] at *)
      all_goals (try first | rfl | contradiction | omega)
  all_goals (subst hA; subst h_c; subst h_fR; subst h_fE; subst h_lR; subst h_lE; subst h_sR; subst h_sE; subst h_fm; subst h_fs; subst h_fY)
  all_goals (have f_sx := SX.out)
  all_goals (try simp only [std, stdBin, stdCmp, stdUna, stdIn, ci, beq_iff_eq, bne_iff_ne, beq_eq_false_iff_ne, bne_eq_false_iff_eq, decide_eq_true_eq, decide_eq_false_iff_not, Bool.not_true, Bool.not_false, Bool.not_eq_true', Bool.not_eq_false', Bool.not_not, tn0, tn1, tn2, tn3, rU, t1, t2, t1i, tnMayF_eq, sameTnF_eq, Tn.eta] at *)
  all_goals (try omega)
  all_goals try (have hb : mayB ⟨xD, xE, xL⟩ = true := (by assumption); obtain ⟨F1, F2, F3, F4⟩ := rb_self hb; simp only [F1, F3, F4, if_true, sameTn_self] at * <;> first | rfl | contradiction | omega | (exfalso; have hne : ((gate xL xL).length : Int) ≠ xL.length := (by assumption); rw [gate_len] at hne; exact hne rfl))
  all_goals try (have hb : mayB ⟨xD, xE, xL⟩ = false := (by assumption); simp only [rb_no hb, fl_no hb] at * <;> first | rfl | contradiction | omega)
theorem gate_pos {g x : List Int} {j : Nat} (h1 : j < g.length) (h2 : j < x.length) (h : 0 < (gate x x).getD j 0) : (gate g x).getD j 0 = g.getD j 0 := by
  rw [gate_get _ _ h2] at h
  rw [gate_get _ _ h1]
  by_cases hx : 0 < x.getD j 0
  · rw [if_pos hx]
  · rw [if_neg hx] at h; exact absurd h (by decide)
theorem gate_zero {g x : List Int} {j : Nat} (h1 : j < g.length) (h2 : j < x.length) (h : (gate x x).getD j 0 = 0) : (gate g x).getD j 0 = 0 := by
  rw [gate_get _ _ h2] at h
  rw [gate_get _ _ h1]
  by_cases hx : 0 < x.getD j 0
  · rw [if_pos hx] at h; omega
  · rw [if_neg hx]
theorem eqF_eq (a b : List Int) : eqF [.l a, .l b] = (a == b) := rfl
theorem slope13_ok : CtrOk Try.prog 5 (boolC [tnTy .i8, tnTy .i8] yes) := by
  refine fn_ok (ck := true) Try.func5 rfl tt_ok (G := [(12, resU [tnTy .i8] .i8 3 35 (t1 (fun x => rbErr x x) 0) (rU (t1 (fun x => rbErr x x) 0) (t1 (fun x => rbRes x x) ⟨[], 0, []⟩))), (14, resU [tnTy .i8, tnTy .i8] .i8 3 35 (t2 rbErr 0) (rU (t2 rbErr 0) (t2 rbRes ⟨[], 0, []⟩))), (22, boolC [tnTy .i8] tnMayF), (23, boolC [.sl (.int .i64), .sl (.int .i64)] eqF), (20, boolC [tnTy .i8, tnTy .i8] sameTnF), (21, boolC [] yes)]) ⟨⟨reluU_ok, by unfold FnOk; kernel_rfl⟩, ⟨rbackU_ok, by unfold FnOk; kernel_rfl⟩, ⟨rmayT_ok, by unfold FnOk; kernel_rfl⟩, ⟨rsame_ok, by unfold FnOk; kernel_rfl⟩, ⟨rsameT_ok, by unfold FnOk; kernel_rfl⟩, ⟨awake13_ok, by unfold FnOk; kernel_rfl⟩, trivial⟩ mixed (by kernel_rfl) ?_
  intro xa xs h hx hp
  obtain ⟨a0, as0, x0, xs0, rfl, rfl, h0, H1⟩ := svArgs_cons h
  obtain ⟨a1, as1, x1, xs1, rfl, rfl, h1, H2⟩ := svArgs_cons H1
  obtain ⟨rfl, rfl⟩ := svArgs_nil H2
  obtain ⟨⟨gD, gE, gL⟩, rfl, rfl⟩ := argSV_tn h0
  obtain ⟨⟨xD, xE, xL⟩, rfl, rfl⟩ := argSV_tn h1
  have sg : (Fits .i64 gD ∧ ci gD.length ≤ 9223372036854775807) ∧ (-9223372036854775808 ≤ gE ∧ gE ≤ 9223372036854775807) ∧ Fits .i8 gL ∧ ci gL.length ≤ 9223372036854775807 := svf_tn (hx (Tn.sv .i8 ⟨gD, gE, gL⟩) (by simp))
  have sx : (Fits .i64 xD ∧ ci xD.length ≤ 9223372036854775807) ∧ (-9223372036854775808 ≤ xE ∧ xE ≤ 9223372036854775807) ∧ Fits .i8 xL ∧ ci xL.length ≤ 9223372036854775807 := svf_tn (hx (Tn.sv .i8 ⟨xD, xE, xL⟩) (by simp))
  have SG := Lib.hid sg
  clear sg
  have SX := Lib.hid sx
  clear sx
  clear hx hp h h0 H1 h1 H2
  generalize hA : std = A
  generalize h_c : ci = c
  generalize h_fR : rU (t1 (fun x => rbErr x x) 0) (t1 (fun x => rbRes x x) ⟨[], 0, []⟩) = fR
  generalize h_fE : t1 (fun x => rbErr x x) 0 = fE
  generalize h_bR : rU (t2 rbErr 0) (t2 rbRes ⟨[], 0, []⟩) = bR
  generalize h_bE : t2 rbErr 0 = bE
  generalize h_fm : tnMayF = fm
  generalize h_fs : sameTnF = fs
  generalize h_fi : eqF = fi
  generalize h_fY : yes = fY
  cbv
  (repeat' (first | apply And.intro | apply BrB.mk | apply BrP.mk | intro _))
  all_goals try (refine loop_at Nat 91 (fun j => [(11, .any), (12, .any), (91, .v (.int .i64 (c j)))]) (fun _ o => o) (fun j => ci j ≤ ci gL.length) (fun j => gL.length - j) 0 ?h0 ?hle ?round)
  case h0 => simp [ci]
  case hle => (cbv; (repeat' (first | apply And.intro | apply BrB.mk | apply BrP.mk | intro _)); all_goals (subst hA; subst h_c; subst h_fR; subst h_fE; subst h_bR; subst h_bE; subst h_fm; subst h_fs; subst h_fi; subst h_fY); all_goals (have f_sg := SG.out; have f_sx := SX.out); all_goals (try simp only [std, stdBin, stdCmp, stdUna, stdIn, ci, beq_iff_eq, bne_iff_ne, beq_eq_false_iff_ne, bne_eq_false_iff_eq, decide_eq_true_eq, decide_eq_false_iff_not, Bool.not_true, Bool.not_false, Bool.not_eq_true', Bool.not_eq_false', Bool.not_not, tn0, tn1, tn2, tn3] at *); (all_goals first | exact True.intro | rfl | exact congrArg (Value.int .i64) (by omega)))
  case round =>
    intro j hj
    cbv
    refine BrB.mk (fun gx => ?yx) (fun gx => ?nx)
    case yx =>
      (repeat' (first | apply And.intro | apply BrB.mk | apply BrP.mk | intro _))
      all_goals try (refine ⟨j + 1, ?_, ?_, ?_⟩)
      all_goals try (show AS.le _ _; (cbv; (repeat' (first | apply And.intro | apply BrB.mk | apply BrP.mk | intro _)); all_goals (subst hA; subst h_c; subst h_fR; subst h_fE; subst h_bR; subst h_bE; subst h_fm; subst h_fs; subst h_fi; subst h_fY); all_goals (have f_sg := SG.out; have f_sx := SX.out); all_goals (try simp only [std, stdBin, stdCmp, stdUna, stdIn, ci, beq_iff_eq, bne_iff_ne, beq_eq_false_iff_ne, bne_eq_false_iff_eq, decide_eq_true_eq, decide_eq_false_iff_not, Bool.not_true, Bool.not_false, Bool.not_eq_true', Bool.not_eq_false', Bool.not_not, tn0, tn1, tn2, tn3] at *); (all_goals first | exact True.intro | rfl | exact congrArg (Value.int .i64) (by omega))))
      all_goals (subst hA; subst h_c; subst h_fR; subst h_fE; subst h_bR; subst h_bE; subst h_fm; subst h_fs; subst h_fi; subst h_fY)
      all_goals (have f_sg := SG.out; have f_sx := SX.out)
      all_goals (try simp only [std, stdBin, stdCmp, stdUna, stdIn, ci, beq_iff_eq, bne_iff_ne, beq_eq_false_iff_ne, bne_eq_false_iff_eq, decide_eq_true_eq, decide_eq_false_iff_not, Bool.not_true, Bool.not_false, Bool.not_eq_true', Bool.not_eq_false', Bool.not_not, tn0, tn1, tn2, tn3, rU, t1, t2, t1i, tnMayF_eq, sameTnF_eq, eqF_eq, Tn.eta] at *)
      all_goals (have h1 : mayB ⟨gD, gE, gL⟩ = true := (by assumption); have h2 : mayB ⟨xD, xE, xL⟩ = true := (by assumption); have h12 : (mayB ⟨gD, gE, gL⟩ && mayB ⟨xD, xE, xL⟩) = true := (by simp [h1, h2]); have hd : gD = xD := (by assumption); have F0 := rb_ok (g := ⟨gD, gE, gL⟩) (x := ⟨xD, xE, xL⟩) h12 hd; obtain ⟨F1, _, _, _⟩ := rb_self h2; have hq := may_lens h12 hd; simp only at hq; simp only [F0, F1, if_true, sameTn_self] at *)
      all_goals (try simp only [rbRes, gate_len, Int.toNat_natCast] at *)
      all_goals (try first | exact True.intro | omega)
      all_goals (have q1 := gate_pos (g := gL) (x := xL) (j := j) (by omega) (by omega); have q2 := gate_zero (g := gL) (x := xL) (j := j) (by omega) (by omega))
      all_goals first | exact absurd (q1 (by assumption)) (by assumption) | exact absurd (q2 (by assumption)) (by assumption)
    case nx =>
      (repeat' (first | apply And.intro | apply BrB.mk | apply BrP.mk | intro _))
      all_goals (subst hA; subst h_c; subst h_fR; subst h_fE; subst h_bR; subst h_bE; subst h_fm; subst h_fs; subst h_fi; subst h_fY)
      all_goals (have f_sg := SG.out; have f_sx := SX.out)
      all_goals (try simp only [std, stdBin, stdCmp, stdUna, stdIn, ci, beq_iff_eq, bne_iff_ne, beq_eq_false_iff_ne, bne_eq_false_iff_eq, decide_eq_true_eq, decide_eq_false_iff_not, Bool.not_true, Bool.not_false, Bool.not_eq_true', Bool.not_eq_false', Bool.not_not, tn0, tn1, tn2, tn3, rU, t1, t2, t1i, tnMayF_eq, sameTnF_eq, eqF_eq, Tn.eta] at *)
      all_goals (try first | rfl | contradiction | omega)
  all_goals (subst hA; subst h_c; subst h_fR; subst h_fE; subst h_bR; subst h_bE; subst h_fm; subst h_fs; subst h_fi; subst h_fY)
  all_goals (have f_sg := SG.out; have f_sx := SX.out)
  all_goals (try simp only [std, stdBin, stdCmp, stdUna, stdIn, ci, beq_iff_eq, bne_iff_ne, beq_eq_false_iff_ne, bne_eq_false_iff_eq, decide_eq_true_eq, decide_eq_false_iff_not, Bool.not_true, Bool.not_false, Bool.not_eq_true', Bool.not_eq_false', Bool.not_not, tn0, tn1, tn2, tn3, rU, t1, t2, t1i, tnMayF_eq, sameTnF_eq, eqF_eq, Tn.eta] at *)
  all_goals (try first | rfl | contradiction | omega)
  all_goals (have h1 : mayB ⟨gD, gE, gL⟩ = true := (by assumption); have h2 : mayB ⟨xD, xE, xL⟩ = true := (by assumption); have h12 : (mayB ⟨gD, gE, gL⟩ && mayB ⟨xD, xE, xL⟩) = true := (by simp [h1, h2]); have hd : gD = xD := (by assumption); have F0 := rb_ok (g := ⟨gD, gE, gL⟩) (x := ⟨xD, xE, xL⟩) h12 hd; obtain ⟨F1, _, _, _⟩ := rb_self h2; have hq := may_lens h12 hd; simp only at hq; simp only [F0, F1, if_true, sameTn_self] at *)
  all_goals (try simp only [rbRes, gate_len] at *)
  all_goals first | rfl | contradiction | omega
theorem shp_then {x : Tn} {d : List Int} (h : shpErr x d = 0) : mayB x = true ∧ (∀ e, shpErr (shpRes x d) e = shpErr x e) ∧ shpErr (shpRes x d) x.dims = 0 := by
  obtain ⟨D, e, L⟩ := x
  unfold shpErr at h
  by_cases h1 : mayB ⟨D, e, L⟩ = true
  · rw [if_pos h1] at h
    by_cases h2 : mayD d = true
    · rw [if_pos h2] at h
      by_cases h3 : szD d = ((⟨D, e, L⟩ : Tn).data.length : Int)
      · have h4 := (mayB_eq D L e).1 h1
        have hb : mayB (shpRes ⟨D, e, L⟩ d) = true := (mayB_eq _ _ _).2 ⟨h2, h3.symm, h4.2.2⟩
        refine ⟨h1, fun e' => ?_, ?_⟩
        · unfold shpErr
          rw [if_pos h1, if_pos hb]
          rfl
        · unfold shpErr
          rw [if_pos hb, if_pos h4.1]
          exact if_pos h4.2.1.symm
      · rw [if_neg h3] at h; exact absurd h (by decide)
    · rw [if_neg h2] at h; exact absurd h (by decide)
  · rw [if_neg h1] at h; exact absurd h (by decide)
theorem shapes13_ok : CtrOk Try.prog 6 (boolC [tnTy .i8, .sl (.int .i64), .sl (.int .i64)] yes) := by
  refine fn_ok (ck := true) Try.func6 rfl tt_ok (G := [(18, resU [tnTy .i8, .sl (.int .i64)] .i8 3 35 (t1i shpErr 0) (rU (t1i shpErr 0) (t1i shpRes ⟨[], 0, []⟩))), (20, boolC [tnTy .i8, tnTy .i8] sameTnF), (21, boolC [] yes)]) ⟨⟨shpU_ok, by unfold FnOk; kernel_rfl⟩, ⟨rsameT_ok, by unfold FnOk; kernel_rfl⟩, ⟨awake13_ok, by unfold FnOk; kernel_rfl⟩, trivial⟩ mixed (by kernel_rfl) ?_
  intro xa xs h hx hp
  obtain ⟨a0, as0, x0, xs0, rfl, rfl, h0, H1⟩ := svArgs_cons h
  obtain ⟨a1, as1, x1, xs1, rfl, rfl, h1, H2⟩ := svArgs_cons H1
  obtain ⟨a2, as2, x2, xs2, rfl, rfl, h2, H3⟩ := svArgs_cons H2
  obtain ⟨rfl, rfl⟩ := svArgs_nil H3
  obtain ⟨⟨xD, xE, xL⟩, rfl, rfl⟩ := argSV_tn h0
  obtain ⟨d, rfl, rfl⟩ := argSV_ints h1
  obtain ⟨e, rfl, rfl⟩ := argSV_ints h2
  have sx : (Fits .i64 xD ∧ ci xD.length ≤ 9223372036854775807) ∧ (-9223372036854775808 ≤ xE ∧ xE ≤ 9223372036854775807) ∧ Fits .i8 xL ∧ ci xL.length ≤ 9223372036854775807 := svf_tn (hx (Tn.sv .i8 ⟨xD, xE, xL⟩) (by simp))
  have sd : Fits .i64 d ∧ ci d.length ≤ 9223372036854775807 := svf_ints (hx (.iimm .i64 d) (by simp))
  have se : Fits .i64 e ∧ ci e.length ≤ 9223372036854775807 := svf_ints (hx (.iimm .i64 e) (by simp))
  have SX := Lib.hid sx
  clear sx
  have SD := Lib.hid sd
  clear sd
  have SE := Lib.hid se
  clear se
  clear hx hp h h0 H1 h1 H2 h2 H3
  generalize hA : std = A
  generalize h_c : ci = c
  generalize h_sR : rU (t1i shpErr 0) (t1i shpRes ⟨[], 0, []⟩) = sR
  generalize h_sE : t1i shpErr 0 = sE
  generalize h_fs : sameTnF = fs
  generalize h_fY : yes = fY
  cbv
  (repeat' (first | apply And.intro | apply BrB.mk | apply BrP.mk | intro _))
  all_goals (subst hA; subst h_c; subst h_sR; subst h_sE; subst h_fs; subst h_fY)
  all_goals (have f_sx := SX.out; have f_sd := SD.out; have f_se := SE.out)
  all_goals (try simp only [std, stdBin, stdCmp, stdUna, stdIn, ci, beq_iff_eq, bne_iff_ne, beq_eq_false_iff_ne, bne_eq_false_iff_eq, decide_eq_true_eq, decide_eq_false_iff_not, Bool.not_true, Bool.not_false, Bool.not_eq_true', Bool.not_eq_false', Bool.not_not, tn0, tn1, tn2, tn3, rU, t1, t2, t1i, tnMayF_eq, sameTnF_eq, Tn.eta] at *)
  all_goals (try first | rfl | contradiction | omega)
  all_goals (by_cases h : shpErr ⟨xD, xE, xL⟩ d = 0)
  all_goals try (have G := shp_then h; have G4 : shpErr ⟨xD, xE, xL⟩ xD = 0 := (G.2.1 xD).symm.trans G.2.2; have G2 := G.2.1; clear G; simp only [h, G2, G4, show ∀ e, shpRes (shpRes ⟨xD, xE, xL⟩ d) e = shpRes ⟨xD, xE, xL⟩ e from fun _ => rfl, show shpRes ⟨xD, xE, xL⟩ xD = ⟨xD, xE, xL⟩ from rfl, if_true, sameTn_self] at * <;> first | rfl | contradiction | omega)
  all_goals try (simp only [h, if_false] at * <;> first | rfl | contradiction | omega)
  have G2 := (shp_then h).2.1
  simp only [h, G2, if_true] at *
  rename_i hs
  have e1 : shpRes (shpRes ⟨xD, xE, xL⟩ d) e = shpRes ⟨xD, xE, xL⟩ e := rfl
  rw [e1] at hs
  by_cases he : shpErr ⟨xD, xE, xL⟩ e = 0
  · simp [he, sameTn_self] at hs
  · simp [he, sameTn_self] at hs
end Go.Proofs.Ythclcnidbnbkcaa
