/- Layer 19: LossSharp. -/
import Derived.Test.YtdbfgcpohloabaaLossC
namespace Go.Proofs.Ytdbfgcpohloabaa
open Go.RowKit
set_option maxRecDepth 100000
set_option linter.unusedSimpArgs false
set_option linter.unusedVariables false
set_option maxHeartbeats 8000000
/-- Where the greatest of the first n is, first. -/
def bst (l : List Int) : Nat → Nat
  | 0 => 0
  | n + 1 => if l.getD n 0 > l.getD (bst l n) 0 then n else bst l n
theorem bst_lt {l : List Int} (hl : 1 ≤ l.length) : ∀ n, n ≤ l.length → bst l n < l.length
  | 0, _ => hl
  | n + 1, hn => by
    unfold bst
    have := bst_lt hl n (by omega)
    split <;> omega
theorem bst_ge (l : List Int) : ∀ n i, i < n → l.getD i 0 ≤ l.getD (bst l n) 0
  | 0, i, h => by omega
  | n + 1, i, h => by
    unfold bst
    by_cases e : i = n
    · subst e; split <;> omega
    · have := bst_ge l n i (by omega)
      split <;> omega
theorem fdiv_mono2 {a p : Int} (ha : 0 ≤ a) (hp : 0 < p) : a.fdiv (2 * p) ≤ a.fdiv p := by
  rw [Int.fdiv_eq_ediv_of_nonneg _ (by omega), Int.fdiv_eq_ediv_of_nonneg _ (by omega), Int.mul_comm, ← Int.ediv_ediv_of_nonneg (by omega)]
  exact Int.ediv_le_self _ (Int.ediv_nonneg ha (by omega))
theorem bel_exp {f e : Int} (hf : 0 ≤ f) (h1 : -63 ≤ e) : belI f e ≤ belI f (e + 1) := by
  unfold belI
  by_cases h : e < 0
  · rw [if_pos h]
    by_cases h2 : e + 1 < 0
    · rw [if_pos h2]
      have hm : (-e).toNat = (-(e + 1)).toNat + 1 := by omega
      have hq := fdiv_mono2 (p := 2 ^ min (-(e + 1)).toNat 64) hf (Int.pow_pos (by decide))
      have hp : (2 : Int) * 2 ^ min (-(e + 1)).toNat 64 = 2 ^ min (-e).toNat 64 := by
        rw [Nat.min_eq_left (by omega), Nat.min_eq_left (by omega), hm, Int.pow_succ, Int.mul_comm]
      rw [hp] at hq
      generalize f.fdiv (2 ^ min (-e).toNat 64) = q at hq ⊢
      generalize f.fdiv (2 ^ min (-(e + 1)).toNat 64) = r at hq ⊢
      split <;> split <;> omega
    · rw [if_neg h2]
      have he : e = -1 := by omega
      subst he
      have hq := fdiv_mono2 (p := 1) hf (by decide)
      have e1 : f.fdiv (2 ^ min (-(-1 : Int)).toNat 64) = f.fdiv (2 * 1) := rfl
      have e2 : f * 2 ^ (if 4 < (-1 : Int) + 1 then 4 else (-1 : Int) + 1).toNat = f := by
        show f * 2 ^ (0 : Nat) = f
        rw [Int.pow_zero, Int.mul_one]
      rw [e1, e2]
      rw [Int.fdiv_eq_ediv_of_nonneg f (show (0 : Int) ≤ 1 by decide), Int.ediv_one] at hq
      generalize f.fdiv (2 * 1) = q at hq ⊢
      split <;> split <;> omega
  · rw [if_neg h, if_neg (show ¬ e + 1 < 0 by omega)]
    have h2 := Nat.pow_le_pow_right (show 0 < 2 by decide) (show (if 4 < e then 4 else e).toNat ≤ (if 4 < e + 1 then 4 else e + 1).toNat by split <;> split <;> omega)
    have h3 : ((2 ^ (if 4 < e then 4 else e).toNat : Nat) : Int) ≤ ((2 ^ (if 4 < e + 1 then 4 else e + 1).toNat : Nat) : Int) := Int.ofNat_le.2 h2
    have h4 : (2 : Int) ^ (if 4 < e then 4 else e).toNat ≤ 2 ^ (if 4 < e + 1 then 4 else e + 1).toNat := by simpa using h3
    have h5 := Int.mul_le_mul_of_nonneg_left h4 hf
    generalize f * 2 ^ (if 4 < e then 4 else e).toNat = q at h5 ⊢
    generalize f * 2 ^ (if 4 < e + 1 then 4 else e + 1).toNat = r at h5 ⊢
    split <;> split <;> omega
theorem cut_id {e : Int} (h : -64 ≤ e ∧ e ≤ 64) : cutE e = e := by unfold cutE; split <;> split <;> omega
theorem wt_exp {l : List Int} (h : Fits .i8 l) {e : Int} (he : -60 ≤ e ∧ e ≤ 60) {i : Nat} (hi : i < l.length) : wtI l (e + 1) i ≤ wtI l e i := by
  unfold wtI
  have h1 := far_in h hi
  rw [cut_id (by omega), cut_id (by omega)]
  have h2 := bel_exp (e := e) h1.1 (by omega)
  generalize belI (mxTo l (l.length - 1) - l.getD i 0) e = a at h2 ⊢
  generalize belI (mxTo l (l.length - 1) - l.getD i 0) (e + 1) = b at h2 ⊢
  have h3 := Nat.pow_le_pow_right (show 0 < 2 by decide) (show (15 - b).toNat ≤ (15 - a).toNat by omega)
  have h4 : ((2 ^ (15 - b).toNat : Nat) : Int) ≤ ((2 ^ (15 - a).toNat : Nat) : Int) := Int.ofNat_le.2 h3
  have h5 : (2 : Int) ^ (15 - b).toNat ≤ 2 ^ (15 - a).toNat := by simpa using h4
  omega
theorem tot_exp {l : List Int} (h : Fits .i8 l) {e : Int} (he : -60 ≤ e ∧ e ≤ 60) : ∀ n, n ≤ l.length → totI l (e + 1) n ≤ totI l e n
  | 0, _ => Int.le_refl _
  | n + 1, hn => by
    have h1 := tot_exp h he n (by omega)
    have h2 := wt_exp h he (i := n) (by omega)
    show totI l (e + 1) n + wtI l (e + 1) n ≤ totI l e n + wtI l e n
    omega
theorem wt_best {l : List Int} (h : Fits .i8 l) (e : Int) {i : Nat} (hi : i < l.length) (hb : ∀ j, j < l.length → l.getD j 0 ≤ l.getD i 0) : wtI l e i = 32768 := by
  have h1 : mxTo l (l.length - 1) - l.getD i 0 = 0 := by
    obtain ⟨k, hk, h2⟩ := mxTo_at l (l.length - 1)
    have h3 := mxTo_ge l (l.length - 1) i (by omega)
    have h4 := hb k (by omega)
    omega
  unfold wtI
  rw [h1]
  have h2 : belI 0 (cutE e) = 0 := by
    unfold belI
    rw [Int.zero_mul, Int.zero_fdiv]
    split <;> rfl
  rw [h2]
  rfl
theorem part_exp {l : List Int} (h : Fits .i8 l) {e : Int} (he : -60 ≤ e ∧ e ≤ 60) {i : Nat} (hi : i < l.length) (hb : ∀ j, j < l.length → l.getD j 0 ≤ l.getD i 0) : partI l e i ≤ partI l (e + 1) i := by
  rw [part_eq h e hi, part_eq h (e + 1) hi, wt_best h e hi hb, wt_best h (e + 1) hi hb]
  have h1 := tot_pos h e (by omega)
  have h2 := tot_pos h (e + 1) (by omega)
  have h3 := tot_exp h he l.length (Nat.le_refl _)
  refine Int.le_ediv_of_mul_le h2 ?_
  have h4 := Int.ediv_mul_le (32768 * 127) (Int.ne_of_gt h1)
  have h5 : 0 ≤ 32768 * 127 / totI l e l.length := Int.ediv_nonneg (by decide) (by omega)
  have h6 := Int.mul_le_mul_of_nonneg_left h3 h5
  omega
theorem ps_best {l : List Int} (h : Fits .i8 l) (e : Int) {i : Nat} (hi : i < l.length) (hb : ∀ j, j < l.length → l.getD j 0 ≤ l.getD i 0) : ∀ n, n ≤ l.length → psI l e n ≤ partI l e i * n
  | 0, _ => by simp [psI]
  | n + 1, hn => by
    have h1 := ps_best h e hi hb n (by omega)
    have h2 := part_mono h e hi (j := n) (by omega) (hb n (by omega))
    show psI l e n + partI l e n ≤ partI l e i * ((n + 1 : Nat) : Int)
    rw [Int.natCast_add, Int.mul_add]
    have e1 : partI l e i * ((1 : Nat) : Int) = partI l e i := by simp
    omega
theorem part_one {m : List Int} (h : Fits .i8 m) (e : Int) (hm : m.length = 1) : partI m e 0 = 127 := by
  rw [part_eq h e (by omega), hm]
  show wtI m e 0 * 127 / (0 + wtI m e 0) = 127
  have := wt_in h e (i := 0) (by omega)
  rw [Int.zero_add, Int.mul_ediv_cancel_left _ (by omega)]
theorem rem60 (e : Int) : -59 ≤ e.tmod 60 ∧ e.tmod 60 ≤ 59 := by
  rw [Int.tmod_eq_emod]
  split <;> omega
theorem sharp19_ok : CtrOk Try.prog 7 (boolC [.sl (.int .i8), .int .i64] yes) := by
  obtain ⟨G, hG⟩ : ∃ G : List (FuncId × Ctr), G = [(20, rowC [.sl (.int .i8), .int .i64] 3 .i64 softF), (11, boolC [] yes)] := ⟨_, rfl⟩
  refine fn_ok (ck := true) Try.func7 rfl tt_ok (G := G) (by rw [hG]; exact ⟨⟨soft_ok, by unfold FnOk; kernel_rfl⟩, ⟨awake19_ok, by unfold FnOk; kernel_rfl⟩, trivial⟩) mixed (by kernel_rfl) ?_
  intro xa xs h hx hp
  obtain ⟨a0, as0, x0, xs0, rfl, rfl, h0, H1⟩ := svArgs_cons h
  obtain ⟨a1, as1, x1, xs1, rfl, rfl, h1, H2⟩ := svArgs_cons H1
  obtain ⟨rfl, rfl⟩ := svArgs_nil H2
  obtain ⟨l, rfl, rfl⟩ := argSV_ints h0
  obtain ⟨e, rfl, rfl⟩ := argSV_int h1
  have sl : Fits .i8 l ∧ ci l.length ≤ 9223372036854775807 := svf_ints (hx (.iimm .i8 l) (by simp))
  have se := of_i64 (hx (.v (.int .i64 e)) (by simp))
  have SL := Lib.hid sl
  clear sl
  have SE := Lib.hid se
  clear se
  clear hx hp h h0 H1 h1 H2
  subst hG
  generalize hA : std = A
  generalize h_c : ci = c
  generalize h_fs : softF = fs
  generalize h_fY : yes = fY
  obtain ⟨B, hB⟩ : ∃ M : Nat → Int, ∀ j, M j = (bst l j : Int) := ⟨_, fun _ => rfl⟩
  have HB := Lib.hid hB
  clear hB
  cbv
  (repeat' (first | apply And.intro | apply BrB.mk | apply BrP.mk | intro _))
  all_goals try (refine loop_at Nat 57 (fun j => [(8, .v (.int .i64 (B j))), (9, .any), (57, .v (.int .i64 (c j)))]) (fun _ o => o) (fun j => j ≤ l.length) (fun j => l.length - j) 0 (Nat.zero_le _) ?hle ?round)
  case hle =>
    cbv
    (repeat' (first | apply And.intro | apply BrB.mk | apply BrP.mk | intro _))
    (all_goals (subst hA; subst h_c; subst h_fs; subst h_fY); all_goals (have f_sl := SL.out; have f_se := SE.out); all_goals (try simp only [std, stdBin, stdCmp, stdUna, stdIn, ci, beq_iff_eq, bne_iff_ne, beq_eq_false_iff_ne, bne_eq_false_iff_eq, decide_eq_true_eq, decide_eq_false_iff_not, Bool.not_true, Bool.not_false, Bool.not_eq_true', Bool.not_eq_false', Bool.not_not, tn0, tn1, tn2, tn3] at *); all_goals (try omega))
    all_goals first | exact True.intro | rfl | skip
    all_goals (rw [HB.out]; rfl)
  case round =>
    intro j hj
    cbv
    refine BrB.mk (fun gx => ?yx) (fun gx => ?nx)
    case yx =>
      (repeat' (first | apply And.intro | apply BrB.mk | apply BrP.mk | intro _))
      all_goals try (refine ⟨j + 1, ?_, ?_, ?_⟩)
      all_goals try (show AS.le _ _; cbv; (repeat' (first | apply And.intro | apply BrB.mk | apply BrP.mk | intro _)))
      (all_goals (subst hA; subst h_c; subst h_fs; subst h_fY); all_goals (have f_sl := SL.out; have f_se := SE.out); all_goals (try simp only [std, stdBin, stdCmp, stdUna, stdIn, ci, beq_iff_eq, bne_iff_ne, beq_eq_false_iff_ne, bne_eq_false_iff_eq, decide_eq_true_eq, decide_eq_false_iff_not, Bool.not_true, Bool.not_false, Bool.not_eq_true', Bool.not_eq_false', Bool.not_not, tn0, tn1, tn2, tn3] at *); all_goals (try omega))
      all_goals (have b1 := bst_lt (l := l) (by omega) j (by omega); (try simp only [HB.out, Int.toNat_natCast] at *))
      all_goals (try first | omega | rfl)
      · exact ⟨Int.natCast_nonneg _, Int.ofNat_lt.2 b1⟩
      · refine congrArg _ ?_
        unfold bst
        rw [if_pos (by assumption)]
      · refine congrArg _ ?_
        conv => rhs; unfold bst
        rw [if_neg (by assumption)]
    case nx =>
      (repeat' (first | apply And.intro | apply BrB.mk | apply BrP.mk | intro _))
      (all_goals (subst hA; subst h_c; subst h_fs; subst h_fY); all_goals (have f_sl := SL.out; have f_se := SE.out); all_goals (try simp only [std, stdBin, stdCmp, stdUna, stdIn, ci, beq_iff_eq, bne_iff_ne, beq_eq_false_iff_ne, bne_eq_false_iff_eq, decide_eq_true_eq, decide_eq_false_iff_not, Bool.not_true, Bool.not_false, Bool.not_eq_true', Bool.not_eq_false', Bool.not_not, tn0, tn1, tn2, tn3] at *); all_goals (try omega))
      all_goals (first | exact True.intro | rfl | skip)
      all_goals (have ej : j = l.length := by omega)
      all_goals (subst ej; have b1 := bst_lt (l := l) (by omega) _ (Nat.le_refl _); have b2 := bst_ge l l.length)
      (all_goals (have r := rem60 e; have lm : (List.take (1 - 0 : Int).toNat (List.drop 0 l)).length = 1 := (by rw [List.length_take, List.length_drop]; show min 1 _ = 1; omega); have fm : Fits .i8 (List.take (1 - 0 : Int).toNat (List.drop 0 l)) := (fun x hx => f_sl.1 x (List.mem_of_mem_drop (List.mem_of_mem_take hx))); have po := part_one fm (e.tmod 60) lm; have hs := soft_row (l := l) (e := e.tmod 60) (by omega); have ht := soft_row (l := l) (e := e.tmod 60 + 1) (by omega); have ho := soft_row (l := List.take (1 - 0 : Int).toNat (List.drop 0 l)) (e := e.tmod 60) (by omega); have hp := soft_get (l := List.take (1 - 0 : Int).toNat (List.drop 0 l)) (e.tmod 60) (k := 0) (by omega); (try simp only [hs, ht, ho, hp, po, soft_len, lm] at *)))
      all_goals (have q1 := soft_get (l := l) (e.tmod 60) b1; have q2 := soft_get (l := l) (e.tmod 60 + 1) b1; have q3 := part_exp f_sl.1 (e := e.tmod 60) (by omega) b1 b2; have q4 := ps_best f_sl.1 (e.tmod 60) b1 b2 l.length (Nat.le_refl _); have q5 := ps_all f_sl.1 (e.tmod 60) (by omega); have q6 := part_in f_sl.1 (e.tmod 60) b1; have q7 := mulB (a := partI l (e.tmod 60) (bst l l.length)) (b := (l.length : Int)) (A := 127) (B := 10) q6.1 q6.2 (by omega) (by omega); (try simp only [HB.out, Int.toNat_natCast, q1, q2] at *))
      all_goals (try first | omega | (exfalso; omega))
      all_goals (exact ⟨Int.natCast_nonneg _, Int.ofNat_lt.2 b1⟩)
  (all_goals (subst hA; subst h_c; subst h_fs; subst h_fY); all_goals (have f_sl := SL.out; have f_se := SE.out); all_goals (try simp only [std, stdBin, stdCmp, stdUna, stdIn, ci, beq_iff_eq, bne_iff_ne, beq_eq_false_iff_ne, bne_eq_false_iff_eq, decide_eq_true_eq, decide_eq_false_iff_not, Bool.not_true, Bool.not_false, Bool.not_eq_true', Bool.not_eq_false', Bool.not_not, tn0, tn1, tn2, tn3] at *); all_goals (try omega))
  all_goals (try first | rfl | (have r := rem60 e; omega))
  (all_goals (have r := rem60 e; have lm : (List.take (1 - 0 : Int).toNat (List.drop 0 l)).length = 1 := (by rw [List.length_take, List.length_drop]; show min 1 _ = 1; omega); have fm : Fits .i8 (List.take (1 - 0 : Int).toNat (List.drop 0 l)) := (fun x hx => f_sl.1 x (List.mem_of_mem_drop (List.mem_of_mem_take hx))); have po := part_one fm (e.tmod 60) lm; have hs := soft_row (l := l) (e := e.tmod 60) (by omega); have ht := soft_row (l := l) (e := e.tmod 60 + 1) (by omega); have ho := soft_row (l := List.take (1 - 0 : Int).toNat (List.drop 0 l)) (e := e.tmod 60) (by omega); have hp := soft_get (l := List.take (1 - 0 : Int).toNat (List.drop 0 l)) (e.tmod 60) (k := 0) (by omega); (try simp only [hs, ht, ho, hp, po, soft_len, lm] at *)))
  all_goals (try first | rfl | contradiction | omega)
end Go.Proofs.Ytdbfgcpohloabaa
