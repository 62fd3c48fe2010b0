/- Layer 13: what is above 0, shapes. -/
import Derived.Test.YthclcnidbnbkcaaResU
namespace Go.Proofs.Ythclcnidbnbkcaa
open Go.RowKit
set_option maxRecDepth 100000
set_option linter.unusedSimpArgs false
set_option linter.unusedVariables false
set_option maxHeartbeats 8000000
/-- Where x is above 0. -/
def gate (g x : List Int) : List Int := (List.range g.length).map fun i => if 0 < x.getD i 0 then g.getD i 0 else 0
def rbErr (g x : Tn) : Int := if (mayB g && mayB x) = true then (if g.dims = x.dims then 0 else 2) else 1
def rbRes (g x : Tn) : Tn := ⟨g.dims, g.exp, gate g.data x.data⟩
theorem may_lens {g x : Tn} (h : (mayB g && mayB x) = true) (hd : g.dims = x.dims) : g.data.length = x.data.length ∧ g.data.length ≤ 8192 ∧ g.dims.length ≤ 4 := by
  obtain ⟨D, e, L⟩ := g
  obtain ⟨D', e', L'⟩ := x
  simp only [Bool.and_eq_true, mayB_eq] at h
  simp only at hd
  subst hd
  have := szD_in D
  have h2 := ((mayD_iff D).1 h.1.1).1
  simp only
  omega
theorem rback_ok : CtrOk Try.prog 14 (resC [tnTy .i8, tnTy .i8] .i8 3 35 (t2 rbErr 0) (t2 rbRes ⟨[], 0, []⟩)) := by
  obtain ⟨G, hG⟩ : ∃ G : List (FuncId × Ctr), G = [(30, boolC [tnTy .i8] tnMayF), (31, boolC [.sl (.int .i64), .sl (.int .i64)] eqF), (32, rowP [.sl (.int .i64)] 3 .i64 (lenP 8) sameL)] := ⟨_, rfl⟩
  refine fn_ok (ck := true) Try.func14 rfl tt_ok (G := G) (by rw [hG]; exact ⟨⟨tnMay_ok, by unfold FnOk; kernel_rfl⟩, ⟨same_ok, by unfold FnOk; kernel_rfl⟩, ⟨cloneI_ok, by unfold FnOk; kernel_rfl⟩, trivial⟩) mixed (by kernel_rfl) ?_
  intro xa xs h hx hp
  obtain ⟨a0, as0, x0, xs0, rfl, rfl, h0, H1⟩ := svArgs_cons h
  obtain ⟨a1, as1, x1, xs1, rfl, rfl, h1, H2⟩ := svArgs_cons H1
  obtain ⟨rfl, rfl⟩ := svArgs_nil H2
  obtain ⟨⟨gD, gE, gL⟩, rfl, rfl⟩ := argSV_tn h0
  obtain ⟨⟨xD, xE, xL⟩, rfl, rfl⟩ := argSV_tn h1
  have sg : (Fits .i64 gD ∧ ci gD.length ≤ 9223372036854775807) ∧ (-9223372036854775808 ≤ gE ∧ gE ≤ 9223372036854775807) ∧ Fits .i8 gL ∧ ci gL.length ≤ 9223372036854775807 := svf_tn (hx (Tn.sv .i8 ⟨gD, gE, gL⟩) (by simp))
  have sx : (Fits .i64 xD ∧ ci xD.length ≤ 9223372036854775807) ∧ (-9223372036854775808 ≤ xE ∧ xE ≤ 9223372036854775807) ∧ Fits .i8 xL ∧ ci xL.length ≤ 9223372036854775807 := svf_tn (hx (Tn.sv .i8 ⟨xD, xE, xL⟩) (by simp))
  have SG := Lib.hid sg
  clear sg
  have SX := Lib.hid sx
  clear sx
  clear hx hp h h0 H1 h1 H2
  subst hG
  generalize hA : std = A
  generalize h_c : ci = c
  generalize h_fm : tnMayF = fm
  generalize h_fs : eqF = fs
  generalize h_fl : lenP 8 = fl
  generalize h_fc : sameL = fc
  generalize h_fR : t2 rbRes ⟨[], 0, []⟩ = fR
  generalize h_fE : t2 rbErr 0 = fE
  obtain ⟨S, hS⟩ : ∃ S : Nat → List Int, ∀ j, S j = mixL (fun _ => 0) (fun i => if 0 < xL.getD i 0 then gL.getD i 0 else 0) gL.length j := ⟨_, fun _ => rfl⟩
  cbv
  (repeat' (first | apply And.intro | apply BrB.mk | apply BrP.mk | intro _))
  all_goals try (refine loop_at Nat 38 (fun j => [(7, .any), (8, .any), (38, .v (.int .i64 (c j)))]) (fun j o => o.set 4 (.irow 35 .i8 (S j))) (fun j => ci j ≤ ci xL.length) (fun j => xL.length - j) 0 ?h0 ?hle ?round)
  case h0 => simp [ci]
  case hle =>
    cbv
    (repeat' (first | apply And.intro | apply BrB.mk | apply BrP.mk | intro _))
    (all_goals (subst hA; subst h_c; subst h_fm; subst h_fs; subst h_fl; subst h_fc; subst h_fR; subst h_fE); all_goals (have f_sg := SG.out; have f_sx := SX.out); all_goals (try simp only [std, stdBin, stdCmp, stdUna, stdIn, ci, beq_iff_eq, bne_iff_ne, beq_eq_false_iff_ne, bne_eq_false_iff_eq, decide_eq_true_eq, decide_eq_false_iff_not, Bool.not_true, Bool.not_false, Bool.not_eq_true', Bool.not_eq_false', Bool.not_not, tn0, tn1, tn2, tn3, t2] at *); all_goals (try omega))
    all_goals first | exact True.intro | rfl | skip
    rw [hS, mixL_nil, Int.toNat_natCast]
  case round =>
    intro j hj
    cbv
    refine BrB.mk (fun gx => ?yx) (fun gx => ?nx)
    case yx =>
      refine ⟨?a1, BrB.mk (fun g2 => ?y2) (fun g2 => ?n2)⟩
      case y2 =>
        refine ⟨?a2, ?a3, ?a4, j + 1, ?a5, ?a6, ?a7⟩
        case a6 =>
          cbv
          (repeat' (first | apply And.intro | apply BrB.mk | apply BrP.mk | intro _))
          (all_goals (subst hA; subst h_c; subst h_fm; subst h_fs; subst h_fl; subst h_fc; subst h_fR; subst h_fE); all_goals (have f_sg := SG.out; have f_sx := SX.out); all_goals (try simp only [std, stdBin, stdCmp, stdUna, stdIn, ci, beq_iff_eq, bne_iff_ne, beq_eq_false_iff_ne, bne_eq_false_iff_eq, decide_eq_true_eq, decide_eq_false_iff_not, Bool.not_true, Bool.not_false, Bool.not_eq_true', Bool.not_eq_false', Bool.not_not, tn0, tn1, tn2, tn3, t2, tnMayF, eqF] at *); all_goals (try omega))
          all_goals first | exact True.intro | rfl | skip
          have hm := may_lens (g := ⟨gD, gE, gL⟩) (x := ⟨xD, xE, xL⟩) (by rw [Bool.and_eq_true]; exact ⟨by assumption, by assumption⟩) (by assumption)
          simp only at hm
          rw [hS, hS, Int.toNat_natCast]
          exact mixL_store (by omega) (by rw [if_pos (by simpa using g2)])
        all_goals (subst hA; subst h_c; subst h_fm; subst h_fs; subst h_fl; subst h_fc; subst h_fR; subst h_fE)
        all_goals (have f_sg := SG.out; have f_sx := SX.out)
        all_goals (simp only [std, stdBin, stdCmp, stdUna, stdIn, ci, beq_iff_eq, bne_iff_ne, beq_eq_false_iff_ne, bne_eq_false_iff_eq, decide_eq_true_eq, decide_eq_false_iff_not, Bool.not_true, Bool.not_false, Bool.not_eq_true', Bool.not_eq_false', Bool.not_not, tn0, tn1, tn2, tn3, tnMayF, eqF] at *)
        all_goals (have hm := may_lens (g := ⟨gD, gE, gL⟩) (x := ⟨xD, xE, xL⟩) (by rw [Bool.and_eq_true]; exact ⟨by assumption, by assumption⟩) (by assumption))
        all_goals (simp only [hS, mixL_len] at *)
        all_goals omega
      case n2 =>
        refine ⟨?b4, j + 1, ?b5, ?b6, ?b7⟩
        case b6 =>
          cbv
          (repeat' (first | apply And.intro | apply BrB.mk | apply BrP.mk | intro _))
          (all_goals (subst hA; subst h_c; subst h_fm; subst h_fs; subst h_fl; subst h_fc; subst h_fR; subst h_fE); all_goals (have f_sg := SG.out; have f_sx := SX.out); all_goals (try simp only [std, stdBin, stdCmp, stdUna, stdIn, ci, beq_iff_eq, bne_iff_ne, beq_eq_false_iff_ne, bne_eq_false_iff_eq, decide_eq_true_eq, decide_eq_false_iff_not, Bool.not_true, Bool.not_false, Bool.not_eq_true', Bool.not_eq_false', Bool.not_not, tn0, tn1, tn2, tn3, t2] at *); all_goals (try omega))
          all_goals first | exact True.intro | rfl | skip
          rw [hS, hS]
          exact mixL_skip (by rw [if_neg]; intro h; exact absurd (by simpa using g2) (Int.not_le.2 h))
        (all_goals (subst hA; subst h_c; subst h_fm; subst h_fs; subst h_fl; subst h_fc; subst h_fR; subst h_fE); all_goals (have f_sg := SG.out; have f_sx := SX.out); all_goals (try simp only [std, stdBin, stdCmp, stdUna, stdIn, ci, beq_iff_eq, bne_iff_ne, beq_eq_false_iff_ne, bne_eq_false_iff_eq, decide_eq_true_eq, decide_eq_false_iff_not, Bool.not_true, Bool.not_false, Bool.not_eq_true', Bool.not_eq_false', Bool.not_not, tn0, tn1, tn2, tn3] at *); all_goals (try omega))
      (all_goals (subst hA; subst h_c; subst h_fm; subst h_fs; subst h_fl; subst h_fc; subst h_fR; subst h_fE); all_goals (have f_sg := SG.out; have f_sx := SX.out); all_goals (try simp only [std, stdBin, stdCmp, stdUna, stdIn, ci, beq_iff_eq, bne_iff_ne, beq_eq_false_iff_ne, bne_eq_false_iff_eq, decide_eq_true_eq, decide_eq_false_iff_not, Bool.not_true, Bool.not_false, Bool.not_eq_true', Bool.not_eq_false', Bool.not_not, tn0, tn1, tn2, tn3] at *); all_goals (try omega))
    case nx =>
      (repeat' (first | apply And.intro | apply BrB.mk | apply BrP.mk | intro _))
      (all_goals (subst hA; subst h_c; subst h_fm; subst h_fs; subst h_fl; subst h_fc; subst h_fR; subst h_fE); all_goals (have f_sg := SG.out; have f_sx := SX.out); all_goals (try simp only [std, stdBin, stdCmp, stdUna, stdIn, ci, beq_iff_eq, bne_iff_ne, beq_eq_false_iff_ne, bne_eq_false_iff_eq, decide_eq_true_eq, decide_eq_false_iff_not, Bool.not_true, Bool.not_false, Bool.not_eq_true', Bool.not_eq_false', Bool.not_not, tn0, tn1, tn2, tn3, t2, tnMayF, eqF] at *); all_goals (try omega))
      all_goals (have hm := may_lens (g := ⟨gD, gE, gL⟩) (x := ⟨xD, xE, xL⟩) (by rw [Bool.and_eq_true]; exact ⟨by assumption, by assumption⟩) (by assumption))
      all_goals (simp only at hm)
      · rfl
      · rfl
      · rw [hS, show j = gL.length by omega, mixL_all]
        rfl
      · simp only [rbErr] at *
        simp_all
  (all_goals (subst hA; subst h_c; subst h_fm; subst h_fs; subst h_fl; subst h_fc; subst h_fR; subst h_fE); all_goals (have f_sg := SG.out; have f_sx := SX.out); all_goals (try simp only [std, stdBin, stdCmp, stdUna, stdIn, ci, beq_iff_eq, bne_iff_ne, beq_eq_false_iff_ne, bne_eq_false_iff_eq, decide_eq_true_eq, decide_eq_false_iff_not, Bool.not_true, Bool.not_false, Bool.not_eq_true', Bool.not_eq_false', Bool.not_not, tn0, tn1, tn2, tn3, t2, tnMayF, eqF, lenP] at *); all_goals (try omega))
  all_goals (try (simp only [rbErr] at *; simp_all; done))
  all_goals (have hm := may_lens (g := ⟨gD, gE, gL⟩) (x := ⟨xD, xE, xL⟩) (by rw [Bool.and_eq_true]; exact ⟨by assumption, by assumption⟩) (by assumption); simp only at hm; omega)
def t1i {α : Type} (f : Tn → List Int → α) (d : α) (xa : List AV) : α := match xa with
  | [.st [.l D1, .z e1, .l L1], .l D] => f ⟨D1, e1, L1⟩ D
  | _ => d
def shpErr (x : Tn) (D : List Int) : Int := if mayB x = true then (if mayD D = true then (if szD D = (x.data.length : Int) then 0 else 2) else 1) else 1
def shpRes (x : Tn) (D : List Int) : Tn := ⟨D, x.exp, x.data⟩
theorem may_len {x : Tn} (h : mayB x = true) : x.data.length ≤ 8192 ∧ x.dims.length ≤ 4 ∧ 1 ≤ x.dims.length := by
  obtain ⟨D, e, L⟩ := x
  have h1 := (mayB_eq D L e).1 h
  have := szD_in D
  have h2 := ((mayD_iff D).1 h1.1).1
  simp only
  omega
theorem mayD_len {D : List Int} (h : mayD D = true) : D.length ≤ 4 := ((mayD_iff D).1 h).1.2
theorem shp_ok : CtrOk Try.prog 18 (resC [tnTy .i8, .sl (.int .i64)] .i8 3 35 (t1i shpErr 0) (t1i shpRes ⟨[], 0, []⟩)) := by
  obtain ⟨G, hG⟩ : ∃ G : List (FuncId × Ctr), G = [(30, boolC [tnTy .i8] tnMayF), (35, boolC [.sl (.int .i64)] shMayF), (36, intC [.sl (.int .i64)] .i64 szF), (32, rowP [.sl (.int .i64)] 3 .i64 (lenP 8) sameL), (37, rowP [.sl (.int .i8)] 35 .i8 (lenP 1) sameL)] := ⟨_, rfl⟩
  refine fn_ok (ck := true) Try.func18 rfl tt_ok (G := G) (by rw [hG]; exact ⟨⟨tnMay_ok, by unfold FnOk; kernel_rfl⟩, ⟨shMay_ok, by unfold FnOk; kernel_rfl⟩, ⟨size_ok, by unfold FnOk; kernel_rfl⟩, ⟨cloneI_ok, by unfold FnOk; kernel_rfl⟩, ⟨clone8_ok, by unfold FnOk; kernel_rfl⟩, trivial⟩) mixed (by kernel_rfl) ?_
  intro xa xs h hx hp
  obtain ⟨a0, as0, x0, xs0, rfl, rfl, h0, H1⟩ := svArgs_cons h
  obtain ⟨a1, as1, x1, xs1, rfl, rfl, h1, H2⟩ := svArgs_cons H1
  obtain ⟨rfl, rfl⟩ := svArgs_nil H2
  obtain ⟨⟨xD, xE, xL⟩, rfl, rfl⟩ := argSV_tn h0
  obtain ⟨d, rfl, rfl⟩ := argSV_ints h1
  have sx : (Fits .i64 xD ∧ ci xD.length ≤ 9223372036854775807) ∧ (-9223372036854775808 ≤ xE ∧ xE ≤ 9223372036854775807) ∧ Fits .i8 xL ∧ ci xL.length ≤ 9223372036854775807 := svf_tn (hx (Tn.sv .i8 ⟨xD, xE, xL⟩) (by simp))
  have sd : Fits .i64 d ∧ ci d.length ≤ 9223372036854775807 := svf_ints (hx (.iimm .i64 d) (by simp))
  have SX := Lib.hid sx
  clear sx
  have SD := Lib.hid sd
  clear sd
  clear hx hp h h0 H1 h1 H2
  subst hG
  generalize hA : std = A
  generalize h_c : ci = c
  generalize h_fm : tnMayF = fm
  generalize h_fs : shMayF = fs
  generalize h_fz : szF = fz
  generalize h_fl : lenP 8 = fl
  generalize h_fk : lenP 1 = fk
  generalize h_fc : sameL = fc
  generalize h_fR : t1i shpRes ⟨[], 0, []⟩ = fR
  generalize h_fE : t1i shpErr 0 = fE
  cbv
  (repeat' (first | apply And.intro | apply BrB.mk | apply BrP.mk | intro _))
  (all_goals (subst hA; subst h_c; subst h_fm; subst h_fs; subst h_fz; subst h_fl; subst h_fk; subst h_fc; subst h_fR; subst h_fE); all_goals (have f_sx := SX.out; have f_sd := SD.out); all_goals (try simp only [std, stdBin, stdCmp, stdUna, stdIn, ci, beq_iff_eq, bne_iff_ne, beq_eq_false_iff_ne, bne_eq_false_iff_eq, decide_eq_true_eq, decide_eq_false_iff_not, Bool.not_true, Bool.not_false, Bool.not_eq_true', Bool.not_eq_false', Bool.not_not, tn0, tn1, tn2, tn3, t1i, tnMayF, shMayF, szF, lenP] at *); all_goals (try omega))
  all_goals (try (simp only [shpErr] at *; simp_all; done))
  all_goals (have h1 := may_len (x := ⟨xD, xE, xL⟩) (by assumption); have h2 := mayD_len (D := d) (by assumption); simp only at h1)
  all_goals first | rfl | omega
theorem relu_ok : CtrOk Try.prog 12 (resC [tnTy .i8] .i8 3 35 (t1 (fun x => rbErr x x) 0) (t1 (fun x => rbRes x x) ⟨[], 0, []⟩)) := by
  obtain ⟨G, hG⟩ : ∃ G : List (FuncId × Ctr), G = [(14, resC [tnTy .i8, tnTy .i8] .i8 3 35 (t2 rbErr 0) (t2 rbRes ⟨[], 0, []⟩))] := ⟨_, rfl⟩
  refine fn_ok (ck := true) Try.func12 rfl tt_ok (G := G) (by rw [hG]; exact ⟨⟨rback_ok, by unfold FnOk; kernel_rfl⟩, trivial⟩) mixed (by kernel_rfl) ?_
  intro xa xs h hx hp
  obtain ⟨a0, as0, x0, xs0, rfl, rfl, h0, H1⟩ := svArgs_cons h
  obtain ⟨rfl, rfl⟩ := svArgs_nil H1
  obtain ⟨⟨xD, xE, xL⟩, rfl, rfl⟩ := argSV_tn h0
  have sx : (Fits .i64 xD ∧ ci xD.length ≤ 9223372036854775807) ∧ (-9223372036854775808 ≤ xE ∧ xE ≤ 9223372036854775807) ∧ Fits .i8 xL ∧ ci xL.length ≤ 9223372036854775807 := svf_tn (hx (Tn.sv .i8 ⟨xD, xE, xL⟩) (by simp))
  have SX := Lib.hid sx
  clear sx
  clear hx hp h h0 H1
  subst hG
  generalize hA : std = A
  generalize h_c : ci = c
  generalize h_fR : t2 rbRes ⟨[], 0, []⟩ = fR
  generalize h_fE : t2 rbErr 0 = fE
  generalize h_gR : t1 (fun x => rbRes x x) ⟨[], 0, []⟩ = gR
  generalize h_gE : t1 (fun x => rbErr x x) 0 = gE
  cbv
  (repeat' (first | apply And.intro | apply BrB.mk | apply BrP.mk | intro _))
  (all_goals (subst hA; subst h_c; subst h_fR; subst h_fE; subst h_gR; subst h_gE); all_goals (have f_sx := SX.out); all_goals (try simp only [std, stdBin, stdCmp, stdUna, stdIn, ci, beq_iff_eq, bne_iff_ne, beq_eq_false_iff_ne, bne_eq_false_iff_eq, decide_eq_true_eq, decide_eq_false_iff_not, Bool.not_true, Bool.not_false, Bool.not_eq_true', Bool.not_eq_false', Bool.not_not, tn0, tn1, tn2, tn3, t1, t2] at *); all_goals (try omega))
  all_goals (try contradiction)
  all_goals rfl
def flD (x : Tn) : List Int := [x.dims.getD 0 0, IntKind.i64.wrap ((x.data.length : Int).tdiv (x.dims.getD 0 0))]
def flErr (x : Tn) : Int := if mayB x = true then shpErr x (flD x) else 1
def flRes (x : Tn) : Tn := shpRes x (flD x)
theorem may_first {x : Tn} (h : mayB x = true) : 1 ≤ x.dims.length ∧ 1 ≤ x.dims.getD 0 0 ∧ x.dims.getD 0 0 ≤ 4096 := by
  obtain ⟨D, e, L⟩ := x
  have h1 := (mayD_iff D).1 ((mayB_eq D L e).1 h).1
  refine ⟨h1.1.1, ?_⟩
  simp only
  match D, h1 with
  | a :: D, h1 => exact h1.2.1 a (by simp)
theorem flat_ok : CtrOk Try.prog 16 (resC [tnTy .i8] .i8 3 35 (t1 flErr 0) (t1 flRes ⟨[], 0, []⟩)) := by
  obtain ⟨G, hG⟩ : ∃ G : List (FuncId × Ctr), G = [(30, boolC [tnTy .i8] tnMayF), (18, resC [tnTy .i8, .sl (.int .i64)] .i8 3 35 (t1i shpErr 0) (t1i shpRes ⟨[], 0, []⟩))] := ⟨_, rfl⟩
  refine fn_ok (ck := false) Try.func16 rfl tt_ok (G := G) (by rw [hG]; exact ⟨⟨tnMay_ok, by unfold FnOk; kernel_rfl⟩, ⟨shp_ok, by unfold FnOk; kernel_rfl⟩, trivial⟩) mixed (by kernel_rfl) ?_
  intro xa xs h hx hp
  obtain ⟨a0, as0, x0, xs0, rfl, rfl, h0, H1⟩ := svArgs_cons h
  obtain ⟨rfl, rfl⟩ := svArgs_nil H1
  obtain ⟨⟨xD, xE, xL⟩, rfl, rfl⟩ := argSV_tn h0
  have sx : (Fits .i64 xD ∧ ci xD.length ≤ 9223372036854775807) ∧ (-9223372036854775808 ≤ xE ∧ xE ≤ 9223372036854775807) ∧ Fits .i8 xL ∧ ci xL.length ≤ 9223372036854775807 := svf_tn (hx (Tn.sv .i8 ⟨xD, xE, xL⟩) (by simp))
  have SX := Lib.hid sx
  clear sx
  clear hx hp h h0 H1
  subst hG
  generalize hA : std = A
  generalize h_c : ci = c
  generalize h_fm : tnMayF = fm
  generalize h_fR : t1i shpRes ⟨[], 0, []⟩ = fR
  generalize h_fE : t1i shpErr 0 = fE
  generalize h_gR : t1 flRes ⟨[], 0, []⟩ = gR
  generalize h_gE : t1 flErr 0 = gE
  cbv
  (repeat' (first | apply And.intro | apply BrB.mk | apply BrP.mk | intro _))
  (all_goals (subst hA; subst h_c; subst h_fm; subst h_fR; subst h_fE; subst h_gR; subst h_gE); all_goals (have f_sx := SX.out); all_goals (try simp only [std, stdBin, stdCmp, stdUna, stdIn, ci, beq_iff_eq, bne_iff_ne, beq_eq_false_iff_ne, bne_eq_false_iff_eq, decide_eq_true_eq, decide_eq_false_iff_not, Bool.not_true, Bool.not_false, Bool.not_eq_true', Bool.not_eq_false', Bool.not_not, tn0, tn1, tn2, tn3, t1, t1i, tnMayF] at *); all_goals (try omega))
  all_goals (try (simp only [flErr, flRes, flD] at *; simp_all; done))
  all_goals (have h1 := may_first (x := ⟨xD, xE, xL⟩) (by assumption); simp only at h1; first | rfl | omega)
end Go.Proofs.Ythclcnidbnbkcaa
