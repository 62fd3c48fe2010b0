/- Layer 19: LossGrads. -/
import Derived.Test.YtdbfgcpohloabaaLossE
namespace Go.Proofs.Ytdbfgcpohloabaa
open Go.RowKit
set_option maxRecDepth 100000
set_option linter.unusedSimpArgs false
set_option linter.unusedVariables false
set_option maxHeartbeats 40000000
set_option cbv.maxSteps 10000000
def gL (t : Tn) (q : List Int) : List Int := (List.range t.data.length).map (gradAt t q)
theorem gradU_at {D L q : List Int} {e : Int} (h : chqI ⟨D, e, L⟩ q = 0) : rU (tq chqI 0) (tq gradR ⟨[], 0, []⟩) [.st [.l D, .z e, .l L], .l q] = ⟨D, -7, gL ⟨D, e, L⟩ q⟩ := by
  unfold rU
  rw [if_pos (show tq chqI 0 [.st [.l D, .z e, .l L], .l q] = 0 from h)]
  rfl
theorem gradU_no {D L q : List Int} {e : Int} (h : ¬ chqI ⟨D, e, L⟩ q = 0) : rU (tq chqI 0) (tq gradR ⟨[], 0, []⟩) [.st [.l D, .z e, .l L], .l q] = ⟨[], 0, []⟩ := by
  unfold rU
  rw [if_neg (show ¬ tq chqI 0 [.st [.l D, .z e, .l L], .l q] = 0 from h)]
theorem gL_len (t : Tn) (q : List Int) : (gL t q).length = t.data.length := by simp [gL]
theorem gL_get (t : Tn) (q : List Int) {i : Nat} (h : i < t.data.length) : (gL t q).getD i 0 = gradAt t q i := by
  unfold gL
  rw [List.getD_eq_getElem?_getD, List.getElem?_map, List.getElem?_range h]
  rfl
theorem okq_at {q : List Int} {c : Int} : ∀ {n i : Nat}, okq q c n = true → i < n → 0 ≤ q.getD i 0 ∧ q.getD i 0 < c
  | 0, i, _, hi => by omega
  | n + 1, i, h, hi => by
    unfold okq at h
    rw [allTo, Bool.and_eq_true] at h
    by_cases e : i = n
    · subst e; exact of_decide_eq_true h.2
    · exact okq_at (n := n) h.1 (by omega)
theorem row_get {t : Tn} {N C n j : Nat} (h1 : t.dims.getD 1 0 = C) (hj : j < C) : (rowL t n).getD j 0 = t.data.getD (n * C + j) 0 := by
  unfold rowL
  rw [h1, Int.toNat_natCast, List.getD_eq_getElem?_getD, List.getElem?_take_of_lt hj, List.getElem?_drop, ← List.getD_eq_getElem?_getD]
/-- Where the greatest is. -/
theorem top_main {t : Tn} {N C n : Nat} (h1 : t.dims.getD 1 0 = C) (h2 : t.data.length = N * C) (h : n < N) (hC : 1 ≤ C) : ∃ p : Nat, topAt t n = (p : Int) ∧ p < C ∧ ∀ j, j < C → t.data.getD (n * C + j) 0 ≤ t.data.getD (n * C + p) 0 ∧ (j < p → t.data.getD (n * C + j) 0 ≠ t.data.getD (n * C + p) 0) := by
  have hl := row19_len h1 h2 h
  have hg := fun j (hj : j < C) => row_get (n := n) (N := N) h1 hj
  unfold topAt idxV
  rw [hl]
  obtain ⟨k, hk, h3⟩ := mxTo_at (rowL t n) (C - 1)
  have h4 := mxTo_ge (rowL t n) (C - 1)
  have h5 : fstAt (rowL t n) (mxTo (rowL t n) (C - 1)) C < C := by
    by_cases hh : fstAt (rowL t n) (mxTo (rowL t n) (C - 1)) C < C
    · exact hh
    · exact absurd h3.symm (fst_no _ _ C k (by omega)).2
  have h6 := fst_yes _ _ _ h5
  have h7 := fun j => fst_no (rowL t n) (mxTo (rowL t n) (C - 1)) C j
  rw [if_pos h5]
  refine ⟨_, rfl, h5, fun j hj => ?_⟩
  rw [← hg j hj, ← hg _ h5, h6]
  exact ⟨h4 j (by omega), fun hp => (h7 j hp).2⟩
/-- What comes back to the first j of row n, together. -/
def gS (t : Tn) (q : List Int) (n : Nat) : Nat → Int
  | 0 => 0
  | j + 1 => gS t q n j + gradAt t q (n * (t.dims.getD 1 0).toNat + j)
theorem gS_eq {t : Tn} {q : List Int} {C n : Nat} (h1 : t.dims.getD 1 0 = C) (hq : 0 ≤ q.getD n 0) : ∀ j, j ≤ C → gS t q n j = psI (rowL t n) t.exp j - (if q.getD n 0 < j then 127 else 0)
  | 0, _ => by
    show 0 = 0 - _
    rw [if_neg (by omega)]
    rfl
  | j + 1, hj => by
    have ih := gS_eq h1 hq j (by omega)
    have hg := grad_at (t := t) (q := q) (n := n) h1 (show j < C by omega)
    show gS t q n j + gradAt t q (n * (t.dims.getD 1 0).toNat + j) = psI (rowL t n) t.exp j + partI (rowL t n) t.exp j - _
    rw [h1, Int.toNat_natCast, ih, hg]
    split <;> split <;> split <;> omega
theorem rgt_succ (t : Tn) (q : List Int) (n : Nat) : rgtN t q n.succ = (if topAt t n = q.getD n 0 then rgtN t q n + 1 else rgtN t q n) := rfl
theorem gS_succ (t : Tn) (q : List Int) (n j : Nat) : gS t q n j.succ = gS t q n j + gradAt t q (n * (t.dims.getD 1 0).toNat + j) := rfl
/-- What stands at a place, and to the places before it. -/
theorem at_main {D L q : List Int} {e : Int} {N C n : Nat} (h : Fits .i8 L) (h1 : D.getD 1 0 = C) (h2 : L.length = N * C) (hn : n < N) (hC : 2 ≤ C ∧ C ≤ 10) (hq : okq q (C : Int) N = true) :
    (∀ j, j < C → n * C + j < N * C ∧ (gL ⟨D, e, L⟩ q).getD (n * C + j) 0 = gradAt ⟨D, e, L⟩ q (n * C + j) ∧ ((j : Int) = q.getD n 0 → gradAt ⟨D, e, L⟩ q (n * C + j) ≤ 0) ∧ ((j : Int) ≠ q.getD n 0 → 0 ≤ gradAt ⟨D, e, L⟩ q (n * C + j)) ∧ -127 ≤ gradAt ⟨D, e, L⟩ q (n * C + j) ∧ gradAt ⟨D, e, L⟩ q (n * C + j) ≤ 127) ∧
    (∀ j, j ≤ C → -127 ≤ gS ⟨D, e, L⟩ q n j ∧ gS ⟨D, e, L⟩ q n j ≤ 1270) ∧ gS ⟨D, e, L⟩ q n C ≤ 0 ∧ -(C : Int) < gS ⟨D, e, L⟩ q n C := by
  have hr := row19_len (t := ⟨D, e, L⟩) h1 h2 hn
  have hf := row_fits (t := ⟨D, e, L⟩) h n
  have hk := okq_at hq hn
  refine ⟨fun j hj => ?_, fun j hj => ?_, ?_⟩
  · have hi := idx_lt hn hj
    have hp := part_in hf e (i := j) (by omega)
    have ha := grad_at (t := ⟨D, e, L⟩) (q := q) (n := n) h1 hj
    refine ⟨hi, gL_get _ _ (by show _ < L.length; omega), ?_⟩
    rw [ha]
    simp only
    split <;> omega
  · have hs := gS_eq (t := ⟨D, e, L⟩) (q := q) (n := n) h1 hk.1 j hj
    have hp := ps_le hf e j (by omega)
    rw [hs]
    simp only
    split <;> omega
  · have hs := gS_eq (t := ⟨D, e, L⟩) (q := q) (n := n) h1 hk.1 C (Nat.le_refl _)
    have hp := ps_all hf e (by omega)
    rw [hr] at hp
    rw [hs, if_pos hk.2]
    simp only
    omega
theorem grads19_ok : CtrOk Try.prog 6 (boolC [tnTy .i8, .sl (.int .i64)] yes) := by
  obtain ⟨G, hG⟩ : ∃ G : List (FuncId × Ctr), G = [(12, resU [tnTy .i8, .sl (.int .i64)] .i8 3 41 (tq chqI 0) (rU (tq chqI 0) (tq gradR ⟨[], 0, []⟩))), (14, rowE [tnTy .i8] 3 .i64 (t1 chkI 0) (t1 topR [])), (16, intE [tnTy .i8, .sl (.int .i64)] .i64 (tq chqI 0) (tq rgtR 0)), (11, boolC [] yes)] := ⟨_, rfl⟩
  refine fn_ok (ck := true) Try.func6 rfl tt_ok (G := G) (by rw [hG]; exact ⟨⟨gradU_ok, by unfold FnOk; kernel_rfl⟩, ⟨top_ok, by unfold FnOk; kernel_rfl⟩, ⟨right_ok, by unfold FnOk; kernel_rfl⟩, ⟨awake19_ok, by unfold FnOk; kernel_rfl⟩, trivial⟩) mixed (by kernel_rfl) ?_
  intro xa xs h hx hp
  obtain ⟨a0, as0, x0, xs0, rfl, rfl, h0, H1⟩ := svArgs_cons h
  obtain ⟨a1, as1, x1, xs1, rfl, rfl, h1, H2⟩ := svArgs_cons H1
  obtain ⟨rfl, rfl⟩ := svArgs_nil H2
  obtain ⟨⟨yD, yE, yL⟩, rfl, rfl⟩ := argSV_tn h0
  obtain ⟨q, rfl, rfl⟩ := argSV_ints h1
  have sy : (Fits .i64 yD ∧ ci yD.length ≤ 9223372036854775807) ∧ (-9223372036854775808 ≤ yE ∧ yE ≤ 9223372036854775807) ∧ Fits .i8 yL ∧ ci yL.length ≤ 9223372036854775807 := svf_tn (hx (Tn.sv .i8 ⟨yD, yE, yL⟩) (by simp))
  have sq : Fits .i64 q ∧ ci q.length ≤ 9223372036854775807 := svf_ints (hx (.iimm .i64 q) (by simp))
  have SY := Lib.hid sy
  clear sy
  have SQ := Lib.hid sq
  clear sq
  clear hx hp h h0 H1 h1 H2
  subst hG
  generalize hA : std = A
  generalize h_c : ci = c
  generalize h_fR : rU (tq chqI 0) (tq gradR ⟨[], 0, []⟩) = fR
  generalize h_fh : t1 chkI 0 = fh
  generalize h_ft : t1 topR [] = ft
  generalize h_fr : tq rgtR 0 = fr
  generalize h_fE : tq chqI 0 = fE
  generalize h_fY : yes = fY
  obtain ⟨V, hV⟩ : ∃ T : Nat → Int, ∀ n, T n = rgtN ⟨yD, yE, yL⟩ q q.length - rgtN ⟨yD, yE, yL⟩ q n := ⟨_, fun _ => rfl⟩
  obtain ⟨S, hS⟩ : ∃ T : Nat → Nat → Int, ∀ n j, T n j = gS ⟨yD, yE, yL⟩ q n j := ⟨_, fun _ _ => rfl⟩
  have HV := Lib.hid hV
  have HS := Lib.hid hS
  clear hV hS
  cbv
  (repeat' (first | apply And.intro | apply BrB.mk | apply BrP.mk | intro _))
  all_goals try (refine loop_at Nat 82 (fun x => [(4, .any), (9, .v (.int .i64 (V x))), (12, .any), (13, .any), (14, .any), (15, .any), (16, .any), (82, .v (.int .i64 (c x)))]) (fun x o => o) (fun x => x ≤ q.length) (fun x => q.length - x) 0 (Nat.zero_le _) ?hle ?round)
  case hle =>
    cbv
    (repeat' (first | apply And.intro | apply BrB.mk | apply BrP.mk | intro _))
    (all_goals (subst hA; subst h_c; subst h_fR; subst h_fh; subst h_ft; subst h_fr; subst h_fE; subst h_fY); all_goals (have f_sy := SY.out; have f_sq := SQ.out); all_goals (try simp only [std, stdBin, stdCmp, stdUna, stdIn, ci, beq_iff_eq, bne_iff_ne, beq_eq_false_iff_ne, bne_eq_false_iff_eq, decide_eq_true_eq, decide_eq_false_iff_not, Bool.not_true, Bool.not_false, Bool.not_eq_true', Bool.not_eq_false', Bool.not_not, tn0, tn1, tn2, tn3, t1, tq] at *); all_goals (try omega))
    all_goals first | exact True.intro | rfl | skip
    (all_goals (obtain ⟨N, C, c1, c2, ⟨n1, n2⟩, ⟨k1, k2⟩, c3, c4, c5, c6, ⟨x1, x2⟩, c7, c8⟩ := chq_main (t := ⟨yD, yE, yL⟩) (q := q) (by assumption); simp only at c1 c2 c4 c6 x1 x2; have K2 := Lib.hid c2; have K4 := Lib.hid c4))
    refine congrArg _ ?_
    rw [HV.out]
    unfold rgtR
    rw [if_pos (by assumption)]
    show _ = _ - 0
    omega
  case round =>
    intro n hn
    cbv
    refine BrB.mk (fun gx => ?yx) (fun gx => ?nx)
    case yx =>
      (repeat' (first | apply And.intro | apply BrB.mk | apply BrP.mk | intro _))
      all_goals try (refine loop_at Nat 88 (fun x => [(4, .any), (14, .v (.int .i64 (S n x))), (15, .any), (16, .any), (88, .v (.int .i64 (c x)))]) (fun x o => o) (fun x => ci x ≤ yD.getD 1 0) (fun x => (yD.getD 1 0 - ci x).toNat) 0 ?h0 ?hle ?round)
      case h0 =>
        (all_goals (subst hA; subst h_c; subst h_fR; subst h_fh; subst h_ft; subst h_fr; subst h_fE; subst h_fY); all_goals (have f_sy := SY.out; have f_sq := SQ.out); all_goals (try simp only [std, stdBin, stdCmp, stdUna, stdIn, ci, beq_iff_eq, bne_iff_ne, beq_eq_false_iff_ne, bne_eq_false_iff_eq, decide_eq_true_eq, decide_eq_false_iff_not, Bool.not_true, Bool.not_false, Bool.not_eq_true', Bool.not_eq_false', Bool.not_not, tn0, tn1, tn2, tn3, t1, tq] at *); all_goals (try omega))
        (all_goals (obtain ⟨N, C, c1, c2, ⟨n1, n2⟩, ⟨k1, k2⟩, c3, c4, c5, c6, ⟨x1, x2⟩, c7, c8⟩ := chq_main (t := ⟨yD, yE, yL⟩) (q := q) (by assumption); simp only at c1 c2 c4 c6 x1 x2; have K2 := Lib.hid c2; have K4 := Lib.hid c4))
        omega
      case hle =>
        cbv
        (repeat' (first | apply And.intro | apply BrB.mk | apply BrP.mk | intro _))
        (all_goals (subst hA; subst h_c; subst h_fR; subst h_fh; subst h_ft; subst h_fr; subst h_fE; subst h_fY); all_goals (have f_sy := SY.out; have f_sq := SQ.out); all_goals (try simp only [std, stdBin, stdCmp, stdUna, stdIn, ci, beq_iff_eq, bne_iff_ne, beq_eq_false_iff_ne, bne_eq_false_iff_eq, decide_eq_true_eq, decide_eq_false_iff_not, Bool.not_true, Bool.not_false, Bool.not_eq_true', Bool.not_eq_false', Bool.not_not, tn0, tn1, tn2, tn3, t1, tq] at *); all_goals (try omega))
        all_goals first | exact True.intro | rfl | skip
        rw [HS.out, gS]
      case round =>
        intro j hj
        cbv
        refine BrB.mk (fun gy => ?yy) (fun gy => ?ny)
        case yy =>
          (repeat' (first | apply And.intro | apply BrB.mk | apply BrP.mk | intro _))
          all_goals try (refine ⟨j + 1, ?_, ?_, ?_⟩)
          all_goals try (show AS.le _ _; cbv; (repeat' (first | apply And.intro | apply BrB.mk | apply BrP.mk | intro _)))
          (all_goals (subst hA; subst h_c; subst h_fR; subst h_fh; subst h_ft; subst h_fr; subst h_fE; subst h_fY); all_goals (have f_sy := SY.out; have f_sq := SQ.out); all_goals (try simp only [std, stdBin, stdCmp, stdUna, stdIn, ci, beq_iff_eq, bne_iff_ne, beq_eq_false_iff_ne, bne_eq_false_iff_eq, decide_eq_true_eq, decide_eq_false_iff_not, Bool.not_true, Bool.not_false, Bool.not_eq_true', Bool.not_eq_false', Bool.not_not, tn0, tn1, tn2, tn3, t1, tq] at *); all_goals (try omega))
          (all_goals (have h0 := chq_chk (t := ⟨yD, yE, yL⟩) (q := q) (by assumption); have eg := gradU_at (D := yD) (L := yL) (q := q) (e := yE) (by assumption)); (all_goals (obtain ⟨N, C, c1, c2, ⟨n1, n2⟩, ⟨k1, k2⟩, c3, c4, c5, c6, ⟨x1, x2⟩, c7, c8⟩ := chq_main (t := ⟨yD, yE, yL⟩) (q := q) (by assumption); simp only at c1 c2 c4 c6 x1 x2; have K2 := Lib.hid c2; have K4 := Lib.hid c4)); all_goals (have ht := topR_at h0 (n := n) (by show (n : Int) < yD.getD 0 0; omega); obtain ⟨p, ep, hp, hm⟩ := top_main (t := ⟨yD, yE, yL⟩) (n := n) c2 c4 (by omega) (by omega); have HT := Lib.hid hm; clear hm; have ha := at_main (e := yE) (n := n) f_sy.2.2.1 c2 c4 (by omega) ⟨k1, k2⟩ c7; have HA := Lib.hid ha; clear ha))
          all_goals (obtain ⟨d1, d2, d3, d4, d5, d6⟩ := HA.out.1 j (by omega); have d7 := HA.out.2.1 j (by omega); have d8 := HT.out j (by omega); have d9 := idx_lt (i := n) (n := N) (j := p) (k := C) (by omega) hp; have dz : 0 ≤ q.getD n 0 ∧ q.getD n 0 < C := okq_at (by assumption) (by omega))
          all_goals (try simp only [eg, ht, ep, gL_len, K2.out, K4.out, HS.out, gS_succ, Int.toNat_natCast, ← Int.natCast_mul, ← Int.natCast_add, d2] at *)
          all_goals (try first | omega | rfl)
        case ny =>
          (repeat' (first | apply And.intro | apply BrB.mk | apply BrP.mk | intro _))
          all_goals try (refine ⟨n + 1, ?_, ?_, ?_⟩)
          all_goals try (show AS.le _ _; cbv; (repeat' (first | apply And.intro | apply BrB.mk | apply BrP.mk | intro _)))
          (all_goals (subst hA; subst h_c; subst h_fR; subst h_fh; subst h_ft; subst h_fr; subst h_fE; subst h_fY); all_goals (have f_sy := SY.out; have f_sq := SQ.out); all_goals (try simp only [std, stdBin, stdCmp, stdUna, stdIn, ci, beq_iff_eq, bne_iff_ne, beq_eq_false_iff_ne, bne_eq_false_iff_eq, decide_eq_true_eq, decide_eq_false_iff_not, Bool.not_true, Bool.not_false, Bool.not_eq_true', Bool.not_eq_false', Bool.not_not, tn0, tn1, tn2, tn3, t1, tq] at *); all_goals (try omega))
          (all_goals (have h0 := chq_chk (t := ⟨yD, yE, yL⟩) (q := q) (by assumption); have eg := gradU_at (D := yD) (L := yL) (q := q) (e := yE) (by assumption)); (all_goals (obtain ⟨N, C, c1, c2, ⟨n1, n2⟩, ⟨k1, k2⟩, c3, c4, c5, c6, ⟨x1, x2⟩, c7, c8⟩ := chq_main (t := ⟨yD, yE, yL⟩) (q := q) (by assumption); simp only at c1 c2 c4 c6 x1 x2; have K2 := Lib.hid c2; have K4 := Lib.hid c4)); all_goals (have ht := topR_at h0 (n := n) (by show (n : Int) < yD.getD 0 0; omega); obtain ⟨p, ep, hp, hm⟩ := top_main (t := ⟨yD, yE, yL⟩) (n := n) c2 c4 (by omega) (by omega); have HT := Lib.hid hm; clear hm; have ha := at_main (e := yE) (n := n) f_sy.2.2.1 c2 c4 (by omega) ⟨k1, k2⟩ c7; have HA := Lib.hid ha; clear ha))
          all_goals (have ej : j = C := by omega)
          all_goals (subst ej; have d7 := HA.out.2.2; have v1 := rgt_in ⟨yD, yE, yL⟩ q n; have v2 := rgt_in ⟨yD, yE, yL⟩ q q.length)
          all_goals (try simp only [eg, ht, ep, gL_len, K2.out, K4.out, HS.out, HV.out, rgt_succ, Int.toNat_natCast] at *)
          all_goals (try first | omega | rfl)
          all_goals (refine congrArg _ ?_; first | (rw [if_pos (by assumption)]; omega) | (rw [if_neg (by assumption)]))
      (all_goals (subst hA; subst h_c; subst h_fR; subst h_fh; subst h_ft; subst h_fr; subst h_fE; subst h_fY); all_goals (have f_sy := SY.out; have f_sq := SQ.out); all_goals (try simp only [std, stdBin, stdCmp, stdUna, stdIn, ci, beq_iff_eq, bne_iff_ne, beq_eq_false_iff_ne, bne_eq_false_iff_eq, decide_eq_true_eq, decide_eq_false_iff_not, Bool.not_true, Bool.not_false, Bool.not_eq_true', Bool.not_eq_false', Bool.not_not, tn0, tn1, tn2, tn3, t1, tq] at *); all_goals (try omega))
      (all_goals (have h0 := chq_chk (t := ⟨yD, yE, yL⟩) (q := q) (by assumption); have eg := gradU_at (D := yD) (L := yL) (q := q) (e := yE) (by assumption)); (all_goals (obtain ⟨N, C, c1, c2, ⟨n1, n2⟩, ⟨k1, k2⟩, c3, c4, c5, c6, ⟨x1, x2⟩, c7, c8⟩ := chq_main (t := ⟨yD, yE, yL⟩) (q := q) (by assumption); simp only at c1 c2 c4 c6 x1 x2; have K2 := Lib.hid c2; have K4 := Lib.hid c4)); all_goals (have ht := topR_at h0 (n := n) (by show (n : Int) < yD.getD 0 0; omega); obtain ⟨p, ep, hp, hm⟩ := top_main (t := ⟨yD, yE, yL⟩) (n := n) c2 c4 (by omega) (by omega); have HT := Lib.hid hm; clear hm; have ha := at_main (e := yE) (n := n) f_sy.2.2.1 c2 c4 (by omega) ⟨k1, k2⟩ c7; have HA := Lib.hid ha; clear ha))
    case nx =>
      (repeat' (first | apply And.intro | apply BrB.mk | apply BrP.mk | intro _))
      (all_goals (subst hA; subst h_c; subst h_fR; subst h_fh; subst h_ft; subst h_fr; subst h_fE; subst h_fY); all_goals (have f_sy := SY.out; have f_sq := SQ.out); all_goals (try simp only [std, stdBin, stdCmp, stdUna, stdIn, ci, beq_iff_eq, bne_iff_ne, beq_eq_false_iff_ne, bne_eq_false_iff_eq, decide_eq_true_eq, decide_eq_false_iff_not, Bool.not_true, Bool.not_false, Bool.not_eq_true', Bool.not_eq_false', Bool.not_not, tn0, tn1, tn2, tn3, t1, tq] at *); all_goals (try omega))
      all_goals (have eg := gradU_at (D := yD) (L := yL) (q := q) (e := yE) (by assumption))
      all_goals (have en : n = q.length := by omega)
      all_goals (subst en; (try simp only [eg, HV.out] at *))
      all_goals (try first | omega | rfl)
  (all_goals (subst hA; subst h_c; subst h_fR; subst h_fh; subst h_ft; subst h_fr; subst h_fE; subst h_fY); all_goals (have f_sy := SY.out; have f_sq := SQ.out); all_goals (try simp only [std, stdBin, stdCmp, stdUna, stdIn, ci, beq_iff_eq, bne_iff_ne, beq_eq_false_iff_ne, bne_eq_false_iff_eq, decide_eq_true_eq, decide_eq_false_iff_not, Bool.not_true, Bool.not_false, Bool.not_eq_true', Bool.not_eq_false', Bool.not_not, tn0, tn1, tn2, tn3, t1, tq] at *); all_goals (try omega))
  · rfl
  · rfl
  · rw [gradU_no (by assumption)] at *
    simp at *
  all_goals (have h0 := chq_chk (t := ⟨yD, yE, yL⟩) (q := q) (by assumption); have eg := gradU_at (D := yD) (L := yL) (q := q) (e := yE) (by assumption); have hl := topR_len h0)
  (all_goals (obtain ⟨N, C, c1, c2, ⟨n1, n2⟩, ⟨k1, k2⟩, c3, c4, c5, c6, ⟨x1, x2⟩, c7, c8⟩ := chq_main (t := ⟨yD, yE, yL⟩) (q := q) (by assumption); simp only at c1 c2 c4 c6 x1 x2; have K2 := Lib.hid c2; have K4 := Lib.hid c4))
  all_goals (simp only [eg, gL_len, hl, c1, Int.toNat_natCast] at *)
  all_goals (try first | omega | contradiction)
end Go.Proofs.Ytdbfgcpohloabaa
