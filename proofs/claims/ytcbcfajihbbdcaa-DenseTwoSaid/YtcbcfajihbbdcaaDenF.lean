/- Layer 10: what comes back. -/
import Derived.Test.YtcbcfajihbbdcaaDenE
namespace Go.Proofs.Ytcbcfajihbbdcaa
open Go.RowKit
set_option maxRecDepth 100000
set_option linter.unusedSimpArgs false
set_option maxHeartbeats 2000000
def inCnd (g w : Tn) : Prop := (g.dims.length : Int) = 2 ∧ (w.dims.length : Int) = 2 ∧ g.dims.getD 1 0 = w.dims.getD 0 0
instance (g w : Tn) : Decidable (inCnd g w) := by unfold inCnd; exact inferInstance
def inErr (g w : Tn) : Int := if (mayB g && mayB w) = true then (if inCnd g w then roomF [.z (g.dims.getD 1 0), .l [g.dims.getD 0 0, w.dims.getD 1 0]] else 2) else 1
def inRes (g w : Tn) : Tn := ⟨[g.dims.getD 0 0, w.dims.getD 1 0], g.exp + w.exp, mulR (rowsR g) (colsR w) (g.dims.getD 1 0)⟩
theorem inc_mulP {x w : Tn} (hx : mayB x = true) (hw : mayB w = true) (h1 : x.dims.length = 2) (h2 : w.dims.length = 2) (h3 : x.dims.getD 1 0 = w.dims.getD 0 0) (h4 : x.dims.getD 1 0 ≤ 959) : mulP (rowsR x) (colsR w) (x.dims.getD 1 0) := by
  obtain ⟨a1, a2, a3, a4, a5, a6, _⟩ := may2 hx h1
  obtain ⟨b1, b2, b3, b4, b5, b6, _⟩ := may2 hw h2
  refine ⟨⟨?_, ?_⟩, ⟨?_, ?_⟩, ⟨?_, ?_⟩, ⟨?_, ?_⟩, ⟨?_, ?_⟩, ⟨?_, ?_⟩, ?_, h4, ?_⟩
  all_goals try simp only [rowsR, colsR]
  all_goals try omega
  intro i k z hi hi2 hk hk2 hz hz2
  rw [a5, b5]
  have e1 := Int.mul_le_mul_of_nonneg_right (show i + 1 ≤ x.dims.getD 0 0 by omega) (show 0 ≤ x.dims.getD 1 0 by omega)
  have e2 := Int.mul_le_mul_of_nonneg_right (show z + 1 ≤ w.dims.getD 0 0 by omega) (show 0 ≤ w.dims.getD 1 0 by omega)
  rw [Int.add_mul] at e1 e2
  omega
theorem inc_facts {g w : Tn} (hm : (mayB g && mayB w) = true) (h1 : (g.dims.length : Int) = 2) (h2 : (w.dims.length : Int) = 2) : mayB g = true ∧ mayB w = true ∧ g.dims.length = 2 ∧ w.dims.length = 2 := by
  rw [Bool.and_eq_true] at hm
  exact ⟨hm.1, hm.2, by omega, by omega⟩
theorem inp_ok : CtrOk Try.prog 26 (resC [tnTy .i8, tnTy .i8] .i32 3 21 (t2 inErr 0) (t2 inRes ⟨[], 0, []⟩)) := by
  obtain ⟨G, hG⟩ : ∃ G : List (FuncId × Ctr), G = [(48, boolC [.sl (tnTy .i8)] mayAllF), (49, intC [.int .i64, .sl (.int .i64)] .i64 roomF), (51, lnC two rowsR), (56, lnC two colsR), (50, mulC mulP mulR)] := ⟨_, rfl⟩
  refine fn_ok (ck := true) Try.func26 rfl tt_ok (G := G) (by rw [hG]; exact ⟨⟨may_ok, by unfold FnOk; kernel_rfl⟩, ⟨room_ok, by unfold FnOk; kernel_rfl⟩, ⟨rowsOf_ok, by unfold FnOk; kernel_rfl⟩, ⟨colsOf_ok, by unfold FnOk; kernel_rfl⟩, ⟨mul_ok, by unfold FnOk; kernel_rfl⟩, trivial⟩) mixed (by kernel_rfl) ?_
  intro xa xs h hx hp
  obtain ⟨a0, as0, x0, xs0, rfl, rfl, h0, H1⟩ := svArgs_cons h
  obtain ⟨a1, as1, x1, xs1, rfl, rfl, h1, H2⟩ := svArgs_cons H1
  obtain ⟨rfl, rfl⟩ := svArgs_nil H2
  obtain ⟨⟨gD, gE, gL⟩, rfl, rfl⟩ := argSV_tn h0
  obtain ⟨⟨wD, wE, wL⟩, rfl, rfl⟩ := argSV_tn h1
  have sg : (Fits .i64 gD ∧ ci gD.length ≤ 9223372036854775807) ∧ (-9223372036854775808 ≤ gE ∧ gE ≤ 9223372036854775807) ∧ Fits .i8 gL ∧ ci gL.length ≤ 9223372036854775807 := svf_tn (hx (Tn.sv .i8 ⟨gD, gE, gL⟩) (by simp))
  have sw : (Fits .i64 wD ∧ ci wD.length ≤ 9223372036854775807) ∧ (-9223372036854775808 ≤ wE ∧ wE ≤ 9223372036854775807) ∧ Fits .i8 wL ∧ ci wL.length ≤ 9223372036854775807 := svf_tn (hx (Tn.sv .i8 ⟨wD, wE, wL⟩) (by simp))
  have SG := Lib.hid sg
  clear sg
  have SW := Lib.hid sw
  clear sw
  clear hx hp h h0 H1 h1 H2
  generalize hA : std = A
  subst hG
  generalize h_c : ci = c
  generalize h_fm : mayAllF = fm
  generalize h_fr : roomF = fr
  generalize h_tw : two = tw
  generalize h_r1 : rowsR = r1
  generalize h_r2 : colsR = r2
  generalize h_p : mulP = p
  generalize h_q : mulR = q
  generalize h_fE : t2 inErr 0 = fE
  generalize h_fR : t2 inRes ⟨[], 0, []⟩ = fR
  cbv
  (repeat' (first | apply And.intro | apply BrB.mk | apply BrP.mk | intro _))
  all_goals (subst hA; subst h_c; subst h_fm; subst h_fr; subst h_tw; subst h_r1; subst h_r2; subst h_p; subst h_q; subst h_fE; subst h_fR)
  all_goals (have f_sg := SG.out; have f_sw := SW.out)
  all_goals (try simp only [std, stdBin, stdCmp, stdUna, stdIn, ci, beq_iff_eq, bne_iff_ne, beq_eq_false_iff_ne, bne_eq_false_iff_eq, decide_eq_true_eq, decide_eq_false_iff_not, Bool.not_true, Bool.not_false, Bool.not_eq_true', Bool.not_eq_false', Bool.not_not, tn0, tn1, tn2, tn3, t2, mayD2] at *)
  all_goals (try omega)
  all_goals (try (simp only [inErr, inCnd] at *; simp_all; done))
  all_goals (have c1 : (gD.length : Int) = 2 := by assumption)
  all_goals (have c2 : (wD.length : Int) = 2 := by assumption)
  all_goals (have c3 : (mayB ⟨gD, gE, gL⟩ && mayB ⟨wD, wE, wL⟩) = true := by assumption)
  all_goals (have c4 : gD.getD 1 0 = wD.getD 0 0 := by assumption)
  all_goals (have c5 : roomF [.z (gD.getD 1 0), .l [gD.getD 0 0, wD.getD 1 0]] = 0 := by assumption)
  all_goals (obtain ⟨m1, m2, l1, l2⟩ := inc_facts (g := ⟨gD, gE, gL⟩) (w := ⟨wD, wE, wL⟩) c3 c1 c2)
  all_goals first
    | rfl
    | exact l1
    | exact l2
    | exact inc_mulP (x := ⟨gD, gE, gL⟩) (w := ⟨wD, wE, wL⟩) m1 m2 l1 l2 c4 (room_zero c5).2.1
    | (have d1 := may2 m1 l1; have d2 := may2 m2 l2; simp only at d1 d2; omega)
def wtCnd (g x : Tn) : Prop := (g.dims.length : Int) = 2 ∧ (x.dims.length : Int) = 2 ∧ g.dims.getD 0 0 = x.dims.getD 0 0
instance (g w : Tn) : Decidable (wtCnd g w) := by unfold wtCnd; exact inferInstance
def wtErr (g x : Tn) : Int := if (mayB g && mayB x) = true then (if wtCnd g x then roomF [.z (g.dims.getD 0 0), .l [g.dims.getD 1 0, x.dims.getD 1 0]] else 2) else 1
def wtRes (g x : Tn) : Tn := ⟨[g.dims.getD 1 0, x.dims.getD 1 0], g.exp + x.exp, mulR (colsR g) (colsR x) (g.dims.getD 0 0)⟩
theorem wt_mulP {x w : Tn} (hx : mayB x = true) (hw : mayB w = true) (h1 : x.dims.length = 2) (h2 : w.dims.length = 2) (h3 : x.dims.getD 0 0 = w.dims.getD 0 0) (h4 : x.dims.getD 0 0 ≤ 959) : mulP (colsR x) (colsR w) (x.dims.getD 0 0) := by
  obtain ⟨a1, a2, a3, a4, a5, a6, _⟩ := may2 hx h1
  obtain ⟨b1, b2, b3, b4, b5, b6, _⟩ := may2 hw h2
  refine ⟨⟨?_, ?_⟩, ⟨?_, ?_⟩, ⟨?_, ?_⟩, ⟨?_, ?_⟩, ⟨?_, ?_⟩, ⟨?_, ?_⟩, ?_, h4, ?_⟩
  all_goals try simp only [rowsR, colsR]
  all_goals try omega
  intro i k z hi hi2 hk hk2 hz hz2
  rw [a5, b5]
  have e1 := Int.mul_le_mul_of_nonneg_right (show z + 1 ≤ x.dims.getD 0 0 by omega) (show 0 ≤ x.dims.getD 1 0 by omega)
  have e2 := Int.mul_le_mul_of_nonneg_right (show z + 1 ≤ w.dims.getD 0 0 by omega) (show 0 ≤ w.dims.getD 1 0 by omega)
  rw [Int.add_mul] at e1 e2
  omega
theorem wgt_ok : CtrOk Try.prog 28 (resC [tnTy .i8, tnTy .i8] .i32 3 21 (t2 wtErr 0) (t2 wtRes ⟨[], 0, []⟩)) := by
  obtain ⟨G, hG⟩ : ∃ G : List (FuncId × Ctr), G = [(48, boolC [.sl (tnTy .i8)] mayAllF), (49, intC [.int .i64, .sl (.int .i64)] .i64 roomF), (56, lnC two colsR), (50, mulC mulP mulR)] := ⟨_, rfl⟩
  refine fn_ok (ck := true) Try.func28 rfl tt_ok (G := G) (by rw [hG]; exact ⟨⟨may_ok, by unfold FnOk; kernel_rfl⟩, ⟨room_ok, by unfold FnOk; kernel_rfl⟩, ⟨colsOf_ok, by unfold FnOk; kernel_rfl⟩, ⟨mul_ok, by unfold FnOk; kernel_rfl⟩, trivial⟩) mixed (by kernel_rfl) ?_
  intro xa xs h hx hp
  obtain ⟨a0, as0, x0, xs0, rfl, rfl, h0, H1⟩ := svArgs_cons h
  obtain ⟨a1, as1, x1, xs1, rfl, rfl, h1, H2⟩ := svArgs_cons H1
  obtain ⟨rfl, rfl⟩ := svArgs_nil H2
  obtain ⟨⟨gD, gE, gL⟩, rfl, rfl⟩ := argSV_tn h0
  obtain ⟨⟨wD, wE, wL⟩, rfl, rfl⟩ := argSV_tn h1
  have sg : (Fits .i64 gD ∧ ci gD.length ≤ 9223372036854775807) ∧ (-9223372036854775808 ≤ gE ∧ gE ≤ 9223372036854775807) ∧ Fits .i8 gL ∧ ci gL.length ≤ 9223372036854775807 := svf_tn (hx (Tn.sv .i8 ⟨gD, gE, gL⟩) (by simp))
  have sw : (Fits .i64 wD ∧ ci wD.length ≤ 9223372036854775807) ∧ (-9223372036854775808 ≤ wE ∧ wE ≤ 9223372036854775807) ∧ Fits .i8 wL ∧ ci wL.length ≤ 9223372036854775807 := svf_tn (hx (Tn.sv .i8 ⟨wD, wE, wL⟩) (by simp))
  have SG := Lib.hid sg
  clear sg
  have SW := Lib.hid sw
  clear sw
  clear hx hp h h0 H1 h1 H2
  generalize hA : std = A
  subst hG
  generalize h_c : ci = c
  generalize h_fm : mayAllF = fm
  generalize h_fr : roomF = fr
  generalize h_tw : two = tw
  generalize h_r2 : colsR = r2
  generalize h_p : mulP = p
  generalize h_q : mulR = q
  generalize h_fE : t2 wtErr 0 = fE
  generalize h_fR : t2 wtRes ⟨[], 0, []⟩ = fR
  cbv
  (repeat' (first | apply And.intro | apply BrB.mk | apply BrP.mk | intro _))
  all_goals (subst hA; subst h_c; subst h_fm; subst h_fr; subst h_tw; subst h_r2; subst h_p; subst h_q; subst h_fE; subst h_fR)
  all_goals (have f_sg := SG.out; have f_sw := SW.out)
  all_goals (try simp only [std, stdBin, stdCmp, stdUna, stdIn, ci, beq_iff_eq, bne_iff_ne, beq_eq_false_iff_ne, bne_eq_false_iff_eq, decide_eq_true_eq, decide_eq_false_iff_not, Bool.not_true, Bool.not_false, Bool.not_eq_true', Bool.not_eq_false', Bool.not_not, tn0, tn1, tn2, tn3, t2, mayD2] at *)
  all_goals (try omega)
  all_goals (try (simp only [wtErr, wtCnd] at *; simp_all; done))
  all_goals (have c1 : (gD.length : Int) = 2 := by assumption)
  all_goals (have c2 : (wD.length : Int) = 2 := by assumption)
  all_goals (have c3 : (mayB ⟨gD, gE, gL⟩ && mayB ⟨wD, wE, wL⟩) = true := by assumption)
  all_goals (have c4 : gD.getD 0 0 = wD.getD 0 0 := by assumption)
  all_goals (have c5 : roomF [.z (gD.getD 0 0), .l [gD.getD 1 0, wD.getD 1 0]] = 0 := by assumption)
  all_goals (obtain ⟨m1, m2, l1, l2⟩ := inc_facts (g := ⟨gD, gE, gL⟩) (w := ⟨wD, wE, wL⟩) c3 c1 c2)
  all_goals first
    | rfl
    | exact l1
    | exact l2
    | exact wt_mulP (x := ⟨gD, gE, gL⟩) (w := ⟨wD, wE, wL⟩) m1 m2 l1 l2 c4 (room_zero c5).2.1
    | (have d1 := may2 m1 l1; have d2 := may2 m2 l2; simp only at d1 d2; omega)
/-- What of a row of numbers comes to place j of m. -/
def bsum (L : List Int) (m j : Nat) : Nat → Int
  | 0 => 0
  | n + 1 => bsum L m j n + if n % m = j then L.getD n 0 else 0
def bsL (L : List Int) (m n : Nat) : List Int := (List.range m).map fun j => bsum L m j n
theorem bsL_len (L : List Int) (m n : Nat) : (bsL L m n).length = m := by simp [bsL]
theorem bsL_get (L : List Int) {m n j : Nat} (h : j < m) : (bsL L m n).getD j 0 = bsum L m j n := by
  unfold bsL
  rw [List.getD_eq_getElem?_getD, List.getElem?_map, List.getElem?_range h]
  rfl
theorem bsL_set (L : List Int) {m n : Nat} (h : 0 < m) : (bsL L m n).set (n % m) (bsum L m (n % m) n + L.getD n 0) = bsL L m (n + 1) := by
  apply List.ext_getElem?
  intro j
  unfold bsL
  rw [List.getElem?_set, List.getElem?_map, List.getElem?_map]
  by_cases hj : j < m
  · rw [List.getElem?_range hj]
    simp only [Option.map_some, List.length_map, List.length_range, bsum]
    by_cases e : n % m = j
    · rw [if_pos e, if_pos (by omega), if_pos e, e]
    · rw [if_neg e, if_neg e, Int.add_zero]
  · rw [List.getElem?_eq_none (by simp; omega)]
    simp only [Option.map_none, List.length_map, List.length_range]
    have := Nat.mod_lt n h
    rw [if_neg (by omega)]
theorem bsL_zero (L : List Int) (m : Nat) : bsL L m 0 = List.replicate m 0 := by
  apply List.ext_getElem?
  intro j
  unfold bsL
  rw [List.getElem?_map, List.getElem?_replicate]
  by_cases hj : j < m
  · rw [List.getElem?_range hj, if_pos hj]; rfl
  · rw [List.getElem?_eq_none (by simp; omega), if_neg hj]; rfl
theorem bsum_in {L : List Int} (h : Fits .i8 L) (m j : Nat) : ∀ n : Nat, -((n : Int) * 128) ≤ bsum L m j n ∧ bsum L m j n ≤ (n : Int) * 128
  | 0 => by simp [bsum]
  | n + 1 => by
    have h1 := bsum_in h m j n
    have h2 := fits8 h n
    unfold bsum
    split <;> omega
theorem tmod_nat (x m : Nat) : (x : Int).tmod (m : Int) = ((x % m : Nat) : Int) := (Int.ofNat_tmod x m).symm
def bsErr (g : Tn) : Int := if mayB g = true then (if (g.dims.length : Int) = 2 then roomF [.z (g.dims.getD 0 0), .l [g.dims.getD 1 0]] else 2) else 1
def bsRes (g : Tn) : Tn := ⟨[g.dims.getD 1 0], g.exp, bsL g.data (g.dims.getD 1 0).toNat g.data.length⟩
theorem bias_ok : CtrOk Try.prog 30 (resC [tnTy .i8] .i32 3 21 (t1 bsErr 0) (t1 bsRes ⟨[], 0, []⟩)) := by
  obtain ⟨G, hG⟩ : ∃ G : List (FuncId × Ctr), G = [(48, boolC [.sl (tnTy .i8)] mayAllF), (49, intC [.int .i64, .sl (.int .i64)] .i64 roomF)] := ⟨_, rfl⟩
  refine fn_ok (ck := true) Try.func30 rfl tt_ok (G := G) (by rw [hG]; exact ⟨⟨may_ok, by unfold FnOk; kernel_rfl⟩, ⟨room_ok, by unfold FnOk; kernel_rfl⟩, trivial⟩) mixed (by kernel_rfl) ?_
  intro xa xs h hx hp
  obtain ⟨a0, as0, x0, xs0, rfl, rfl, h0, H1⟩ := svArgs_cons h
  obtain ⟨rfl, rfl⟩ := svArgs_nil H1
  obtain ⟨⟨gD, gE, gL⟩, rfl, rfl⟩ := argSV_tn h0
  have sg : (Fits .i64 gD ∧ ci gD.length ≤ 9223372036854775807) ∧ (-9223372036854775808 ≤ gE ∧ gE ≤ 9223372036854775807) ∧ Fits .i8 gL ∧ ci gL.length ≤ 9223372036854775807 := svf_tn (hx (Tn.sv .i8 ⟨gD, gE, gL⟩) (by simp))
  have SG := Lib.hid sg
  clear sg
  clear hx hp h h0 H1
  generalize hA : std = A
  subst hG
  generalize h_c : ci = c
  generalize h_fm : mayAllF = fm
  generalize h_fr : roomF = fr
  generalize h_fE : t1 bsErr 0 = fE
  generalize h_fR : t1 bsRes ⟨[], 0, []⟩ = fR
  obtain ⟨S, hS⟩ : ∃ S, S = bsL gL (gD.getD 1 0).toNat := ⟨_, rfl⟩
  cbv
  (repeat' (first | apply And.intro | apply BrB.mk | apply BrP.mk | intro _))
  all_goals try (refine loop_at Nat 41 (fun x => [(7, .any), (8, .any), (41, .v (.int .i64 (c x)))]) (fun x o => o.set 4 (.irow 21 .i32 (S x))) (fun x => ci x ≤ ci gL.length) (fun x => gL.length - x) 0 ?h0 ?hle ?round)
  case h0 => simp [ci]
  case hle =>
    cbv
    (repeat' (first | apply And.intro | apply BrB.mk | apply BrP.mk | intro _))
    (all_goals (subst hA; subst h_c; subst h_fm; subst h_fr; subst h_fE; subst h_fR); all_goals (have f_sg := SG.out); all_goals (try simp only [std, stdBin, stdCmp, stdUna, stdIn, ci, beq_iff_eq, bne_iff_ne, beq_eq_false_iff_ne, bne_eq_false_iff_eq, decide_eq_true_eq, decide_eq_false_iff_not, Bool.not_true, Bool.not_false, Bool.not_eq_true', Bool.not_eq_false', Bool.not_not, tn0, tn1, tn2, tn3] at *); all_goals (try omega))
    all_goals first | exact True.intro | rfl | skip
    rw [hS, bsL_zero]
    rfl
  case round =>
    intro x hx
    cbv
    (repeat' (first | apply And.intro | apply BrB.mk | apply BrP.mk | intro _))
    all_goals try (refine ⟨x + 1, ?i, ?le, ?mu⟩)
    case le =>
      cbv
      (repeat' (first | apply And.intro | apply BrB.mk | apply BrP.mk | intro _))
      (all_goals (subst hA; subst h_c; subst h_fm; subst h_fr; subst h_fE; subst h_fR); all_goals (have f_sg := SG.out); all_goals (try simp only [std, stdBin, stdCmp, stdUna, stdIn, ci, beq_iff_eq, bne_iff_ne, beq_eq_false_iff_ne, bne_eq_false_iff_eq, decide_eq_true_eq, decide_eq_false_iff_not, Bool.not_true, Bool.not_false, Bool.not_eq_true', Bool.not_eq_false', Bool.not_not, tn0, tn1, tn2, tn3, t1, mayD1, List.getD_cons_zero] at *); all_goals (try omega))
      all_goals first | exact True.intro | rfl | skip
      have c3 : mayB ⟨gD, gE, gL⟩ = true := by assumption
      have c1 : (gD.length : Int) = 2 := by assumption
      obtain ⟨d1, d2, d3, d4, d5, d6, d7, d8⟩ := may2 c3 (show gD.length = 2 by omega)
      simp only at d1 d2 d3 d4 d5 d6 d7 d8
      obtain ⟨m, hm⟩ : ∃ m : Nat, gD.getD 1 0 = (m : Int) := ⟨(gD.getD 1 0).toNat, by omega⟩
      rw [hm] at hS d3 ⊢
      rw [tmod_nat, Int.toNat_natCast, Int.toNat_natCast, hS, Int.toNat_natCast, bsL_get _ (Nat.mod_lt x (by omega)), bsL_set _ (by omega)]
    (all_goals (subst hA; subst h_c; subst h_fm; subst h_fr; subst h_fE; subst h_fR); all_goals (have f_sg := SG.out); all_goals (try simp only [std, stdBin, stdCmp, stdUna, stdIn, ci, beq_iff_eq, bne_iff_ne, beq_eq_false_iff_ne, bne_eq_false_iff_eq, decide_eq_true_eq, decide_eq_false_iff_not, Bool.not_true, Bool.not_false, Bool.not_eq_true', Bool.not_eq_false', Bool.not_not, tn0, tn1, tn2, tn3, t1, mayD1, List.getD_cons_zero] at *); all_goals (try omega))
    all_goals (have c3 : mayB ⟨gD, gE, gL⟩ = true := by assumption)
    all_goals (have c1 : (gD.length : Int) = 2 := by assumption)
    all_goals (have c5 : roomF [.z (gD.getD 0 0), .l [gD.getD 1 0]] = 0 := by assumption)
    all_goals (obtain ⟨d1, d2, d3, d4, d5, d6, d7, d8⟩ := may2 c3 (show gD.length = 2 by omega))
    all_goals (simp only at d1 d2 d3 d4 d5 d6 d7 d8)
    all_goals (try (simp only [bsErr, bsRes] at *; simp_all; done))
    all_goals (obtain ⟨m, hm⟩ : ∃ m : Nat, gD.getD 1 0 = (m : Int) := ⟨(gD.getD 1 0).toNat, by omega⟩)
    all_goals (have hmod := Nat.mod_lt x (show 0 < m by omega))
    all_goals (have hb := bsum_in f_sg.2.2.1 m (x % m) x; have hg := fits8 f_sg.2.2.1 x)
    all_goals (try simp only [hm, hS, tmod_nat, Int.toNat_natCast, bsL_len, bsL_get _ hmod])
    all_goals (try omega)
    all_goals (try (simp only [List.length_singleton]; omega))
    · rfl
    · show [(m : Int)] = [gD.getD 1 0]
      rw [hm]
    · show bsL gL m x = bsL gL (gD.getD 1 0).toNat gL.length
      rw [hm, Int.toNat_natCast, show x = gL.length by omega]
  (all_goals (subst hA; subst h_c; subst h_fm; subst h_fr; subst h_fE; subst h_fR); all_goals (have f_sg := SG.out); all_goals (try simp only [std, stdBin, stdCmp, stdUna, stdIn, ci, beq_iff_eq, bne_iff_ne, beq_eq_false_iff_ne, bne_eq_false_iff_eq, decide_eq_true_eq, decide_eq_false_iff_not, Bool.not_true, Bool.not_false, Bool.not_eq_true', Bool.not_eq_false', Bool.not_not, tn0, tn1, tn2, tn3, t1, mayD1] at *); all_goals (try omega))
  all_goals (try (simp only [bsErr, bsRes] at *; simp_all; done))
  all_goals (have c3 : mayB ⟨gD, gE, gL⟩ = true := by assumption)
  all_goals (have c1 : (gD.length : Int) = 2 := by assumption)
  all_goals (obtain ⟨d1, d2, d3, d4, d5, d6, d7, d8⟩ := may2 c3 (show gD.length = 2 by omega))
  all_goals (simp only at d1 d2 d3 d4 d5 d6 d7 d8)
  all_goals (simp only [List.length_singleton, List.getD_cons_zero]; omega)
end Go.Proofs.Ytcbcfajihbbdcaa
