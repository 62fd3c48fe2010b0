/- Layer 19: parts together; LossSoft. -/
import Derived.Test.YtdbfgcpohloabaaLossB
namespace Go.Proofs.Ytdbfgcpohloabaa
open Go.RowKit
set_option maxRecDepth 100000
set_option linter.unusedSimpArgs false
set_option linter.unusedVariables false
set_option maxHeartbeats 8000000
theorem wt_mono {l : List Int} (h : Fits .i8 l) (e : Int) {i j : Nat} (hi : i < l.length) (hj : j < l.length) (hl : l.getD j 0 ≤ l.getD i 0) : wtI l e j ≤ wtI l e i := by
  unfold wtI
  have h1 := far_in h hi
  have h2 := bel_mono (a := mxTo l (l.length - 1) - l.getD i 0) (b := mxTo l (l.length - 1) - l.getD j 0) (e := cutE e) h1.1 (by omega)
  generalize belI (mxTo l (l.length - 1) - l.getD i 0) (cutE e) = a at h2 ⊢
  generalize belI (mxTo l (l.length - 1) - l.getD j 0) (cutE e) = b at h2 ⊢
  have h3 := Nat.pow_le_pow_right (show 0 < 2 by decide) (show (15 - b).toNat ≤ (15 - a).toNat by omega)
  have h4 : ((2 ^ (15 - b).toNat : Nat) : Int) ≤ ((2 ^ (15 - a).toNat : Nat) : Int) := Int.ofNat_le.2 h3
  have h5 : (2 : Int) ^ (15 - b).toNat ≤ 2 ^ (15 - a).toNat := by simpa using h4
  omega
theorem tot_pos {l : List Int} (h : Fits .i8 l) (e : Int) (hl : 1 ≤ l.length) : 0 < totI l e l.length := by
  have := tot_in h e l.length (Nat.le_refl _)
  omega
theorem part_mono {l : List Int} (h : Fits .i8 l) (e : Int) {i j : Nat} (hi : i < l.length) (hj : j < l.length) (hl : l.getD j 0 ≤ l.getD i 0) : partI l e j ≤ partI l e i := by
  rw [part_eq h e hi, part_eq h e hj]
  refine Int.ediv_le_ediv (tot_pos h e (by omega)) ?_
  have := wt_mono h e hi hj hl
  omega
/-- The parts of the first n, together. -/
def psI (l : List Int) (e : Int) : Nat → Int
  | 0 => 0
  | n + 1 => psI l e n + partI l e n
theorem ps_in {l : List Int} (h : Fits .i8 l) (e : Int) (hl : 1 ≤ l.length) : ∀ n, n ≤ l.length → psI l e n * totI l e l.length ≤ totI l e n * 127 ∧ totI l e n * 127 ≤ psI l e n * totI l e l.length + n * (totI l e l.length - 1)
  | 0, _ => by simp [psI, totI]
  | n + 1, hn => by
    have h1 := ps_in h e hl n (by omega)
    have h2 := part_eq h e (i := n) (by omega)
    have h3 := tot_pos h e hl
    have h4 := Int.mul_ediv_add_emod (wtI l e n * 127) (totI l e l.length)
    have h5 := Int.emod_lt_of_pos (wtI l e n * 127) h3
    have h6 := Int.emod_nonneg (wtI l e n * 127) (Int.ne_of_gt h3)
    rw [← h2] at h4
    show (psI l e n + partI l e n) * _ ≤ (totI l e n + wtI l e n) * 127 ∧ (totI l e n + wtI l e n) * 127 ≤ (psI l e n + partI l e n) * _ + ((n + 1 : Nat) : Int) * _
    generalize totI l e l.length = T at *
    rw [Int.add_mul, Int.natCast_add, Int.add_mul, Int.add_mul]
    rw [Int.mul_comm T] at h4
    generalize partI l e n * T = a at *
    generalize psI l e n * T = b at *
    generalize (n : Int) * (T - 1) = d at *
    have e1 : ((1 : Nat) : Int) * (T - 1) = T - 1 := by simp
    rw [e1]
    omega
theorem ps_all {l : List Int} (h : Fits .i8 l) (e : Int) (hl : 1 ≤ l.length) : psI l e l.length ≤ 127 ∧ 127 - (l.length : Int) < psI l e l.length := by
  obtain ⟨h1, h2⟩ := ps_in h e hl l.length (Nat.le_refl _)
  have h3 := tot_pos h e hl
  constructor
  · rw [Int.mul_comm (totI l e l.length)] at h1
    exact Int.le_of_mul_le_mul_right h1 h3
  · rw [Int.mul_sub, Int.mul_one] at h2
    have h4 : 127 * totI l e l.length < (psI l e l.length + l.length) * totI l e l.length := by
      rw [Int.add_mul]
      rw [Int.mul_comm (totI l e l.length)] at h2
      omega
    have := Int.lt_of_mul_lt_mul_right h4 (Int.le_of_lt h3)
    omega
theorem ps_le {l : List Int} (h : Fits .i8 l) (e : Int) : ∀ n, n ≤ l.length → 0 ≤ psI l e n ∧ psI l e n ≤ n * 127
  | 0, _ => by simp [psI]
  | n + 1, hn => by
    have h1 := ps_le h e n (by omega)
    have h2 := part_in h e (i := n) (by omega)
    show 0 ≤ psI l e n + partI l e n ∧ psI l e n + partI l e n ≤ ((n + 1 : Nat) : Int) * 127
    omega
theorem mx_shift {l m : List Int} {b : Int} {N : Nat} (h : ∀ i, i < N → m.getD i 0 = l.getD i 0 + b) : ∀ n, n < N → mxTo m n = mxTo l n + b
  | 0, hn => h 0 hn
  | n + 1, hn => by
    unfold mxTo
    rw [mx_shift h n (by omega), h (n + 1) hn]
    split <;> split <;> omega
theorem wt_shift {l m : List Int} {b e : Int} (hl : m.length = l.length) (h : ∀ i, i < l.length → m.getD i 0 = l.getD i 0 + b) {i : Nat} (hi : i < l.length) : wtI m e i = wtI l e i := by
  unfold wtI
  rw [hl, mx_shift h _ (by omega), h i hi, show mxTo l (l.length - 1) + b - (l.getD i 0 + b) = mxTo l (l.length - 1) - l.getD i 0 by omega]
theorem tot_shift {l m : List Int} {b e : Int} (hl : m.length = l.length) (h : ∀ i, i < l.length → m.getD i 0 = l.getD i 0 + b) : ∀ n, n ≤ l.length → totI m e n = totI l e n
  | 0, _ => rfl
  | n + 1, hn => by
    show totI m e n + wtI m e n = totI l e n + wtI l e n
    rw [tot_shift hl h n (by omega), wt_shift hl h (by omega)]
theorem soft_shift {l m : List Int} {b e : Int} (hl : m.length = l.length) (h : ∀ i, i < l.length → m.getD i 0 = l.getD i 0 + b) : softL m e = softL l e := by
  unfold softL
  rw [hl]
  apply List.map_congr_left
  intro i hi
  unfold partI
  rw [wt_shift hl h (List.mem_range.1 hi), hl, tot_shift hl h _ (Nat.le_refl _)]
/-- All of the first n can be moved. -/
def mvB (l : List Int) (b : Int) : Nat → Bool := allTo (fun i => decide (-128 ≤ l.getD i 0 + b ∧ l.getD i 0 + b ≤ 127))
theorem mv_at {l : List Int} {b : Int} : ∀ {n i : Nat}, mvB l b n = true → i < n → -128 ≤ l.getD i 0 + b ∧ l.getD i 0 + b ≤ 127
  | 0, i, _, hi => by omega
  | n + 1, i, h, hi => by
    unfold mvB at h
    rw [allTo, Bool.and_eq_true] at h
    by_cases e : i = n
    · subst e; exact of_decide_eq_true h.2
    · exact mv_at (n := n) h.1 (by omega)
theorem mv_succ (l : List Int) (b : Int) (j : Nat) : mvB l b j.succ = (mvB l b j && decide (-128 ≤ l.getD j 0 + b ∧ l.getD j 0 + b ≤ 127)) := rfl
theorem ps_succ (l : List Int) (e : Int) (j : Nat) : psI l e j.succ = psI l e j + partI l e j := rfl
theorem eqF_self (l : List Int) : eqF [.l l, .l l] = true := by simp [eqF]
theorem soft_no {l : List Int} {e : Int} (h : l.length < 1 ∨ l.length > 10) : softF [.l l, .z e] = [] := by
  show (if l.length < 1 ∨ l.length > 10 then [] else softL l e) = []
  rw [if_pos h]
theorem soft19_ok : CtrOk Try.prog 5 (boolC [.sl (.int .i8), .int .i64, .int .i8] yes) := by
  obtain ⟨G, hG⟩ : ∃ G : List (FuncId × Ctr), G = [(20, rowC [.sl (.int .i8), .int .i64] 3 .i64 softF), (19, boolC [.sl (.int .i64), .sl (.int .i64)] eqF), (11, boolC [] yes)] := ⟨_, rfl⟩
  refine fn_ok (ck := true) Try.func5 rfl tt_ok (G := G) (by rw [hG]; exact ⟨⟨soft_ok, by unfold FnOk; kernel_rfl⟩, ⟨rsame_ok, by unfold FnOk; kernel_rfl⟩, ⟨awake19_ok, by unfold FnOk; kernel_rfl⟩, trivial⟩) mixed (by kernel_rfl) ?_
  intro xa xs h hx hp
  obtain ⟨a0, as0, x0, xs0, rfl, rfl, h0, H1⟩ := svArgs_cons h
  obtain ⟨a1, as1, x1, xs1, rfl, rfl, h1, H2⟩ := svArgs_cons H1
  obtain ⟨a2, as2, x2, xs2, rfl, rfl, h2, H3⟩ := svArgs_cons H2
  obtain ⟨rfl, rfl⟩ := svArgs_nil H3
  obtain ⟨l, rfl, rfl⟩ := argSV_ints h0
  obtain ⟨e, rfl, rfl⟩ := argSV_int h1
  obtain ⟨b, rfl, rfl⟩ := argSV_int h2
  have sl : Fits .i8 l ∧ ci l.length ≤ 9223372036854775807 := svf_ints (hx (.iimm .i8 l) (by simp))
  have se := of_i64 (hx (.v (.int .i64 e)) (by simp))
  have sb := of_i8 (hx (.v (.int .i8 b)) (by simp))
  have SL := Lib.hid sl
  clear sl
  have SE := Lib.hid se
  clear se
  have SB := Lib.hid sb
  clear sb
  clear hx hp h h0 H1 h1 H2 h2 H3
  subst hG
  generalize hA : std = A
  generalize h_c : ci = c
  generalize h_fs : softF = fs
  generalize h_fq : eqF = fq
  generalize h_fY : yes = fY
  obtain ⟨M, hM⟩ : ∃ M : Nat → List Int, ∀ j, M j = mixL (fun _ => 0) (fun i => IntKind.i8.wrap (l.getD i 0 + b)) l.length j := ⟨_, fun _ => rfl⟩
  obtain ⟨V, hV⟩ : ∃ V : Nat → Int, ∀ x, V x = psI l e x := ⟨_, fun _ => rfl⟩
  obtain ⟨W, hW⟩ : ∃ W : Nat → Bool, ∀ x, W x = mvB l b x := ⟨_, fun _ => rfl⟩
  have HM := Lib.hid hM
  have HV := Lib.hid hV
  have HW := Lib.hid hW
  clear hM hV hW
  cbv
  (repeat' (first | apply And.intro | apply BrB.mk | apply BrP.mk | intro _))
  all_goals try (refine loop_at Nat 45 (fun j => [(6, .any), (8, .v (.int .i64 (V j))), (9, .v (.bool (W j))), (11, .any), (12, .any), (13, .any), (14, .any), (15, .any), (45, .v (.int .i64 (c j)))]) (fun j o => o.set 1 (.irow 41 .i8 (M j))) (fun j => j ≤ l.length) (fun j => l.length - j) 0 (Nat.zero_le _) ?hle ?round)
  case hle =>
    cbv
    (repeat' (first | apply And.intro | apply BrB.mk | apply BrP.mk | intro _))
    (all_goals (subst hA; subst h_c; subst h_fs; subst h_fq; subst h_fY); all_goals (have f_sl := SL.out; have f_se := SE.out; have f_sb := SB.out); all_goals (try simp only [std, stdBin, stdCmp, stdUna, stdIn, ci, beq_iff_eq, bne_iff_ne, beq_eq_false_iff_ne, bne_eq_false_iff_eq, decide_eq_true_eq, decide_eq_false_iff_not, Bool.not_true, Bool.not_false, Bool.not_eq_true', Bool.not_eq_false', Bool.not_not, tn0, tn1, tn2, tn3] at *); all_goals (try omega))
    all_goals first | exact True.intro | rfl | skip
    all_goals (first | (rw [HM.out, mixL_nil, Int.toNat_natCast]) | (rw [HV.out]; rfl) | (rw [HW.out]; rfl))
  case round =>
    intro j hj
    cbv
    refine BrB.mk (fun gx => ?yx) (fun gx => ?nx)
    case yx =>
      (repeat' (first | apply And.intro | apply BrB.mk | apply BrP.mk | intro _))
      all_goals try (refine loop_at Nat 61 (fun i => [(6, .any), (13, .any), (14, .any), (61, .v (.int .i64 (c i)))]) (fun _ o => o) (fun i => i ≤ l.length) (fun i => l.length - i) 0 (Nat.zero_le _) ?_ ?_)
      all_goals try (show AS.le _ _; (cbv; (repeat' (first | apply And.intro | apply BrB.mk | apply BrP.mk | intro _)); all_goals (subst hA; subst h_c; subst h_fs; subst h_fq; subst h_fY); all_goals (have f_sl := SL.out; have f_se := SE.out; have f_sb := SB.out); all_goals (try simp only [std, stdBin, stdCmp, stdUna, stdIn, ci, beq_iff_eq, bne_iff_ne, beq_eq_false_iff_ne, bne_eq_false_iff_eq, decide_eq_true_eq, decide_eq_false_iff_not, Bool.not_true, Bool.not_false, Bool.not_eq_true', Bool.not_eq_false', Bool.not_not, tn0, tn1, tn2, tn3] at *); (all_goals first | exact True.intro | rfl | exact congrArg (Value.int .i64) (by omega))))
      all_goals try (intro i hi; cbv; refine BrB.mk (fun gy => ?yy) (fun gy => ?ny))
      case yy =>
        (repeat' (first | apply And.intro | apply BrB.mk | apply BrP.mk | intro _))
        all_goals try (refine ⟨i + 1, ?_, ?_, ?_⟩)
        all_goals try (show AS.le _ _; cbv; (repeat' (first | apply And.intro | apply BrB.mk | apply BrP.mk | intro _)))
        (all_goals (subst hA; subst h_c; subst h_fs; subst h_fq; subst h_fY); all_goals (have f_sl := SL.out; have f_se := SE.out; have f_sb := SB.out); all_goals (try simp only [std, stdBin, stdCmp, stdUna, stdIn, ci, beq_iff_eq, bne_iff_ne, beq_eq_false_iff_ne, bne_eq_false_iff_eq, decide_eq_true_eq, decide_eq_false_iff_not, Bool.not_true, Bool.not_false, Bool.not_eq_true', Bool.not_eq_false', Bool.not_not, tn0, tn1, tn2, tn3] at *); all_goals (try omega))
        (all_goals (have hs := soft_row (l := l) (e := e) (by omega); (try simp only [hs, soft_len, HM.out, HV.out, HW.out, mixL_len, Int.toNat_natCast] at *)))
        all_goals (have pj := soft_get (l := l) e (k := j) (by omega); have pi := soft_get (l := l) e (k := i) (by omega); have m1 := part_mono f_sl.1 e (i := j) (j := i) (by omega) (by omega); have m2 := part_mono f_sl.1 e (i := i) (j := j) (by omega) (by omega); (try simp only [pj, pi] at *))
        all_goals (first | rfl | (exfalso; omega))
      case ny =>
        (repeat' (first | apply And.intro | apply BrB.mk | apply BrP.mk | intro _))
        all_goals try (refine ⟨j + 1, ?_, ?_, ?_⟩)
        all_goals try (show AS.le _ _; cbv; (repeat' (first | apply And.intro | apply BrB.mk | apply BrP.mk | intro _)))
        (all_goals (subst hA; subst h_c; subst h_fs; subst h_fq; subst h_fY); all_goals (have f_sl := SL.out; have f_se := SE.out; have f_sb := SB.out); all_goals (try simp only [std, stdBin, stdCmp, stdUna, stdIn, ci, beq_iff_eq, bne_iff_ne, beq_eq_false_iff_ne, bne_eq_false_iff_eq, decide_eq_true_eq, decide_eq_false_iff_not, Bool.not_true, Bool.not_false, Bool.not_eq_true', Bool.not_eq_false', Bool.not_not, tn0, tn1, tn2, tn3] at *); all_goals (try omega))
        (all_goals (have hs := soft_row (l := l) (e := e) (by omega); (try simp only [hs, soft_len, HM.out, HV.out, HW.out, mixL_len, Int.toNat_natCast] at *)))
        all_goals (have pj := soft_get (l := l) e (k := j) (by omega); have p1 := part_in f_sl.1 e (i := j) (by omega); have p2 := ps_le f_sl.1 e j (by omega); have p3 := fits8 f_sl.1 j; (try simp only [pj, mv_succ, ps_succ] at *))
        all_goals (first | rfl | omega | (exact mixL_store (by omega) rfl) | skip)
        · refine congrArg _ ?_
          rw [show mvB l b j = true by assumption, Bool.true_and]
          exact decide_eq_decide.2 (by omega)
        · refine congrArg _ ?_
          rw [decide_eq_false (by omega), Bool.and_false]
        · refine congrArg _ ?_
          rw [show mvB l b j = false by assumption, Bool.false_and]
      (all_goals (subst hA; subst h_c; subst h_fs; subst h_fq; subst h_fY); all_goals (have f_sl := SL.out; have f_se := SE.out; have f_sb := SB.out); all_goals (try simp only [std, stdBin, stdCmp, stdUna, stdIn, ci, beq_iff_eq, bne_iff_ne, beq_eq_false_iff_ne, bne_eq_false_iff_eq, decide_eq_true_eq, decide_eq_false_iff_not, Bool.not_true, Bool.not_false, Bool.not_eq_true', Bool.not_eq_false', Bool.not_not, tn0, tn1, tn2, tn3] at *); all_goals (try omega))
      (all_goals (have hs := soft_row (l := l) (e := e) (by omega); (try simp only [hs, soft_len, HM.out, HV.out, HW.out, mixL_len, Int.toNat_natCast] at *)))
      all_goals (have pj := soft_get (l := l) e (k := j) (by omega); have p1 := part_in f_sl.1 e (i := j) (by omega); have p2 := ps_le f_sl.1 e j (by omega); (try simp only [pj] at *))
      all_goals (first | omega | (exfalso; omega))
    case nx =>
      (repeat' (first | apply And.intro | apply BrB.mk | apply BrP.mk | intro _))
      (all_goals (subst hA; subst h_c; subst h_fs; subst h_fq; subst h_fY); all_goals (have f_sl := SL.out; have f_se := SE.out; have f_sb := SB.out); all_goals (try simp only [std, stdBin, stdCmp, stdUna, stdIn, ci, beq_iff_eq, bne_iff_ne, beq_eq_false_iff_ne, bne_eq_false_iff_eq, decide_eq_true_eq, decide_eq_false_iff_not, Bool.not_true, Bool.not_false, Bool.not_eq_true', Bool.not_eq_false', Bool.not_not, tn0, tn1, tn2, tn3] at *); all_goals (try omega))
      all_goals (first | exact True.intro | rfl | skip)
      (all_goals (have hs := soft_row (l := l) (e := e) (by omega); (try simp only [hs, soft_len, HM.out, HV.out, HW.out, mixL_len, Int.toNat_natCast] at *)))
      all_goals (have ej : j = l.length := by omega)
      all_goals (subst ej; have p2 := ps_all f_sl.1 e (by omega))
      all_goals (try (exfalso; omega))
      exfalso
      rename_i hw hz _
      rw [soft_row (by rw [mixL_len]; omega), soft_shift (l := l) (b := b) (by rw [mixL_len]) (fun i hi => by rw [mixL_get _ _ hi, if_pos hi]; have := mv_at (show mvB l b l.length = true by assumption) hi; exact w8 (by omega) (by omega)), eqF_self] at *
      contradiction
  (all_goals (subst hA; subst h_c; subst h_fs; subst h_fq; subst h_fY); all_goals (have f_sl := SL.out; have f_se := SE.out; have f_sb := SB.out); all_goals (try simp only [std, stdBin, stdCmp, stdUna, stdIn, ci, beq_iff_eq, bne_iff_ne, beq_eq_false_iff_ne, bne_eq_false_iff_eq, decide_eq_true_eq, decide_eq_false_iff_not, Bool.not_true, Bool.not_false, Bool.not_eq_true', Bool.not_eq_false', Bool.not_not, tn0, tn1, tn2, tn3] at *); all_goals (try omega))
  all_goals (try (have hs := soft_row (l := l) (e := e) (by omega); simp only [hs, soft_len] at *; done))
  all_goals (try (have hs := soft_no (l := l) (e := e) (by omega); simp only [hs, List.length_nil] at *; first | rfl | contradiction | omega))
  exfalso
  have hs := soft_row (l := l) (e := e) (by omega)
  simp only [hs, soft_len] at *
  contradiction
end Go.Proofs.Ytdbfgcpohloabaa
