/- Layer 23: which examples a step takes. -/
import Derived.Test.YtmlfiphpcjkadaaPermR
namespace Go.Proofs.Ytmlfiphpcjkadaa
open Go.RowKit
set_option maxRecDepth 100000
set_option linter.unusedSimpArgs false
set_option linter.unusedVariables false
set_option maxHeartbeats 8000000
def stepsI (n k : Int) : Int := if n < 1 ∨ n > 64 ∨ k < 1 ∨ k > 8 then 0 else (n + k - 1).tdiv k
theorem tdiv_in {n k : Int} (h : 1 ≤ n ∧ n ≤ 64) (hk : 1 ≤ k ∧ k ≤ 8) : 1 ≤ (n + k - 1).tdiv k ∧ (n + k - 1).tdiv k ≤ 64 ∧ ((n + k - 1).tdiv k - 1) * k < n ∧ n ≤ (n + k - 1).tdiv k * k := by
  rw [Int.tdiv_eq_ediv_of_nonneg (by omega)]
  have h1 := Int.mul_ediv_self_le (x := n + k - 1) (k := k) (by omega)
  have h2 := Int.lt_mul_ediv_self_add (x := n + k - 1) (k := k) (by omega)
  generalize (n + k - 1) / k = q at h1 h2 ⊢
  rw [Int.sub_mul, Int.one_mul, Int.mul_comm q k]
  have h3 : 1 ≤ q := by
    rcases Int.lt_or_le q 1 with h | h
    · have := Int.mul_le_mul_of_nonneg_left (show q ≤ 0 by omega) (show 0 ≤ k by omega)
      omega
    · exact h
  have h4 : q - 1 ≤ k * q - k := by
    have := Int.mul_le_mul_of_nonneg_right (show 1 ≤ k by omega) (show 0 ≤ q - 1 by omega)
    rw [Int.one_mul, Int.mul_sub, Int.mul_one] at this
    exact this
  omega
theorem steps_facts {n k : Int} (h : stepsI n k ≠ 0) : (1 ≤ n ∧ n ≤ 64) ∧ (1 ≤ k ∧ k ≤ 8) ∧ stepsI n k = (n + k - 1).tdiv k ∧ 1 ≤ stepsI n k ∧ stepsI n k ≤ 64 ∧ (stepsI n k - 1) * k < n ∧ n ≤ stepsI n k * k := by
  unfold stepsI at h ⊢
  split at h
  · exact absurd rfl h
  · rename_i h1
    rw [if_neg h1]
    have := tdiv_in (n := n) (k := k) (by omega) (by omega)
    exact ⟨by omega, by omega, rfl, this⟩
theorem from_in {s k z : Int} (hs : 0 ≤ s) (hk : 1 ≤ k) (hz : 1 ≤ z) : (0 ≤ s.tmod k ∧ s.tmod k < k) ∧ 0 ≤ s.tmod k * z ∧ s.tmod k * z ≤ (k - 1) * z ∧ (0 ≤ s.tdiv k ∧ s.tdiv k ≤ s) := by
  rw [Int.tmod_eq_emod_of_nonneg hs, Int.tdiv_eq_ediv_of_nonneg hs]
  have h1 := Int.emod_nonneg s (show k ≠ 0 by omega)
  have h2 := Int.emod_lt_of_pos s (show 0 < k by omega)
  exact ⟨⟨h1, h2⟩, Int.mul_nonneg h1 (by omega), Int.mul_le_mul_of_nonneg_right (by omega) (by omega), Int.ediv_nonneg hs (by omega), Int.ediv_le_self k hs⟩
def stepsF (xa : List AV) : Int := match xa with
  | [.z n, .z k] => stepsI n k
  | _ => 0
theorem steps_in (n k : Int) : 0 ≤ stepsI n k ∧ stepsI n k ≤ 64 := by
  unfold stepsI
  split
  · omega
  · have h : 0 ≤ n + k - 1 := by omega
    rw [Int.tdiv_eq_ediv_of_nonneg h]
    constructor
    · exact Int.ediv_nonneg h (by omega)
    · refine Int.ediv_le_of_le_mul (by omega) ?_
      have : n ≤ n * k := by
        have := Int.mul_le_mul_of_nonneg_left (show 1 ≤ k by omega) (show 0 ≤ n by omega)
        omega
      have : n * k ≤ 64 * k := Int.mul_le_mul_of_nonneg_right (by omega) (by omega)
      omega
theorem steps_ok : CtrOk Try.prog 25 (intC [.int .i64, .int .i64] .i64 stepsF) := by
  obtain ⟨G, hG⟩ : ∃ G : List (FuncId × Ctr), G = [] := ⟨_, rfl⟩
  refine fn_ok (ck := true) Try.func25 rfl tt_ok (G := G) (by rw [hG]; exact trivial) mixed (by kernel_rfl) ?_
  intro xa xs h hx hp
  obtain ⟨a0, as0, x0, xs0, rfl, rfl, h0, H1⟩ := svArgs_cons h
  obtain ⟨a1, as1, x1, xs1, rfl, rfl, h1, H2⟩ := svArgs_cons H1
  obtain ⟨rfl, rfl⟩ := svArgs_nil H2
  obtain ⟨n, rfl, rfl⟩ := argSV_int h0
  obtain ⟨k, rfl, rfl⟩ := argSV_int h1
  have sn := of_i64 (hx (.v (.int .i64 n)) (by simp))
  have sk := of_i64 (hx (.v (.int .i64 k)) (by simp))
  have SN := Lib.hid sn
  clear sn
  have SK := Lib.hid sk
  clear sk
  clear hx hp h h0 H1 h1 H2
  generalize hA : std = A
  subst hG
  generalize h_c : ci = c
  generalize h_fR : stepsF = fR
  cbv
  (repeat' (first | apply And.intro | apply BrB.mk | apply BrP.mk | intro _))
  (all_goals (subst hA; subst h_c; subst h_fR); all_goals (have f_sn := SN.out; have f_sk := SK.out); all_goals (try simp only [std, stdBin, stdCmp, stdUna, stdIn, ci, beq_iff_eq, bne_iff_ne, beq_eq_false_iff_ne, bne_eq_false_iff_eq, decide_eq_true_eq, decide_eq_false_iff_not, Bool.not_true, Bool.not_false, Bool.not_eq_true', Bool.not_eq_false', Bool.not_not, tn0, tn1, tn2, tn3, stepsF, stepsI] at *); all_goals (try omega))
  all_goals (first | omega | (rw [if_pos (by omega)]) | (rw [if_neg (by omega)]) | skip)
  all_goals (rw [w64 (by have := (tdiv_in (n := n) (k := k) (by omega) (by omega)); omega) (by have := (tdiv_in (n := n) (k := k) (by omega) (by omega)); omega)])
def inB (n a b : Int) : Bool := decide (a ≤ n ∧ n ≤ b)
def inF (xa : List AV) : Bool := match xa with
  | [.z n, .z a, .z b] => inB n a b
  | _ => false
theorem rin_ok : CtrOk Try.prog 60 (boolC [.int .i64, .int .i64, .int .i64] inF) := by
  obtain ⟨G, hG⟩ : ∃ G : List (FuncId × Ctr), G = [] := ⟨_, rfl⟩
  refine fn_ok (ck := true) Try.func60 rfl tt_ok (G := G) (by rw [hG]; exact trivial) mixed (by kernel_rfl) ?_
  intro xa xs h hx hp
  obtain ⟨a0, as0, x0, xs0, rfl, rfl, h0, H1⟩ := svArgs_cons h
  obtain ⟨a1, as1, x1, xs1, rfl, rfl, h1, H2⟩ := svArgs_cons H1
  obtain ⟨a2, as2, x2, xs2, rfl, rfl, h2, H3⟩ := svArgs_cons H2
  obtain ⟨rfl, rfl⟩ := svArgs_nil H3
  obtain ⟨n, rfl, rfl⟩ := argSV_int h0
  obtain ⟨a, rfl, rfl⟩ := argSV_int h1
  obtain ⟨b, rfl, rfl⟩ := argSV_int h2
  have sn := of_i64 (hx (.v (.int .i64 n)) (by simp))
  have sa := of_i64 (hx (.v (.int .i64 a)) (by simp))
  have sb := of_i64 (hx (.v (.int .i64 b)) (by simp))
  have SN := Lib.hid sn
  clear sn
  have SA := Lib.hid sa
  clear sa
  have SB := Lib.hid sb
  clear sb
  clear hx hp h h0 H1 h1 H2 h2 H3
  generalize hA : std = A
  subst hG
  generalize h_c : ci = c
  generalize h_fR : inF = fR
  cbv
  (repeat' (first | apply And.intro | apply BrB.mk | apply BrP.mk | intro _))
  (all_goals (subst hA; subst h_c; subst h_fR); all_goals (have f_sn := SN.out; have f_sa := SA.out; have f_sb := SB.out); all_goals (try simp only [std, stdBin, stdCmp, stdUna, stdIn, ci, beq_iff_eq, bne_iff_ne, beq_eq_false_iff_ne, bne_eq_false_iff_eq, decide_eq_true_eq, decide_eq_false_iff_not, Bool.not_true, Bool.not_false, Bool.not_eq_true', Bool.not_eq_false', Bool.not_not, tn0, tn1, tn2, tn3] at *); all_goals (try omega))
  all_goals (refine vb ?_; simp only [inF, inB])
  · rw [decide_eq_decide]; omega
  · rw [decide_eq_false_iff_not]; omega
theorem within_ok : CtrOk Try.prog 68 (boolC [.int .i64, .int .i64, .int .i64] inF) := by
  obtain ⟨G, hG⟩ : ∃ G : List (FuncId × Ctr), G = [] := ⟨_, rfl⟩
  refine fn_ok (ck := true) Try.func68 rfl tt_ok (G := G) (by rw [hG]; exact trivial) mixed (by kernel_rfl) ?_
  intro xa xs h hx hp
  obtain ⟨a0, as0, x0, xs0, rfl, rfl, h0, H1⟩ := svArgs_cons h
  obtain ⟨a1, as1, x1, xs1, rfl, rfl, h1, H2⟩ := svArgs_cons H1
  obtain ⟨a2, as2, x2, xs2, rfl, rfl, h2, H3⟩ := svArgs_cons H2
  obtain ⟨rfl, rfl⟩ := svArgs_nil H3
  obtain ⟨n, rfl, rfl⟩ := argSV_int h0
  obtain ⟨a, rfl, rfl⟩ := argSV_int h1
  obtain ⟨b, rfl, rfl⟩ := argSV_int h2
  have sn := of_i64 (hx (.v (.int .i64 n)) (by simp))
  have sa := of_i64 (hx (.v (.int .i64 a)) (by simp))
  have sb := of_i64 (hx (.v (.int .i64 b)) (by simp))
  have SN := Lib.hid sn
  clear sn
  have SA := Lib.hid sa
  clear sa
  have SB := Lib.hid sb
  clear sb
  clear hx hp h h0 H1 h1 H2 h2 H3
  generalize hA : std = A
  subst hG
  generalize h_c : ci = c
  generalize h_fR : inF = fR
  cbv
  (repeat' (first | apply And.intro | apply BrB.mk | apply BrP.mk | intro _))
  (all_goals (subst hA; subst h_c; subst h_fR); all_goals (have f_sn := SN.out; have f_sa := SA.out; have f_sb := SB.out); all_goals (try simp only [std, stdBin, stdCmp, stdUna, stdIn, ci, beq_iff_eq, bne_iff_ne, beq_eq_false_iff_ne, bne_eq_false_iff_eq, decide_eq_true_eq, decide_eq_false_iff_not, Bool.not_true, Bool.not_false, Bool.not_eq_true', Bool.not_eq_false', Bool.not_not, tn0, tn1, tn2, tn3] at *); all_goals (try omega))
  all_goals (refine vb ?_; simp only [inF, inB])
  · rw [decide_eq_decide]; omega
  · rw [decide_eq_false_iff_not]; omega
def stepB (s : Int) : Bool := decide (0 ≤ s ∧ s ≤ 1000000)
def stepBF (xa : List AV) : Bool := match xa with
  | [.z s] => stepB s
  | _ => false
theorem rmayStep_ok : CtrOk Try.prog 64 (boolC [.int .i64] stepBF) := by
  obtain ⟨G, hG⟩ : ∃ G : List (FuncId × Ctr), G = [] := ⟨_, rfl⟩
  refine fn_ok (ck := true) Try.func64 rfl tt_ok (G := G) (by rw [hG]; exact trivial) mixed (by kernel_rfl) ?_
  intro xa xs h hx hp
  obtain ⟨a0, as0, x0, xs0, rfl, rfl, h0, H1⟩ := svArgs_cons h
  obtain ⟨rfl, rfl⟩ := svArgs_nil H1
  obtain ⟨n, rfl, rfl⟩ := argSV_int h0
  have sn := of_i64 (hx (.v (.int .i64 n)) (by simp))
  have SN := Lib.hid sn
  clear sn
  clear hx hp h h0 H1
  generalize hA : std = A
  subst hG
  generalize h_c : ci = c
  generalize h_fR : stepBF = fR
  cbv
  (repeat' (first | apply And.intro | apply BrB.mk | apply BrP.mk | intro _))
  (all_goals (subst hA; subst h_c; subst h_fR); all_goals (have f_sn := SN.out); all_goals (try simp only [std, stdBin, stdCmp, stdUna, stdIn, ci, beq_iff_eq, bne_iff_ne, beq_eq_false_iff_ne, bne_eq_false_iff_eq, decide_eq_true_eq, decide_eq_false_iff_not, Bool.not_true, Bool.not_false, Bool.not_eq_true', Bool.not_eq_false', Bool.not_not, tn0, tn1, tn2, tn3] at *); all_goals (try omega))
  all_goals (refine vb ?_; simp only [stepBF, stepB])
  · rw [decide_eq_decide]; omega
  · rw [decide_eq_false_iff_not]; omega
theorem rsteps_ok : CtrOk Try.prog 26 (intC [.int .i64, .int .i64] .i64 stepsF) := by
  obtain ⟨G, hG⟩ : ∃ G : List (FuncId × Ctr), G = [(60, boolC [.int .i64, .int .i64, .int .i64] inF)] := ⟨_, rfl⟩
  refine fn_ok (ck := true) Try.func26 rfl tt_ok (G := G) (by rw [hG]; exact ⟨⟨rin_ok, by unfold FnOk; kernel_rfl⟩, trivial⟩) mixed (by kernel_rfl) ?_
  intro xa xs h hx hp
  obtain ⟨a0, as0, x0, xs0, rfl, rfl, h0, H1⟩ := svArgs_cons h
  obtain ⟨a1, as1, x1, xs1, rfl, rfl, h1, H2⟩ := svArgs_cons H1
  obtain ⟨rfl, rfl⟩ := svArgs_nil H2
  obtain ⟨n, rfl, rfl⟩ := argSV_int h0
  obtain ⟨k, rfl, rfl⟩ := argSV_int h1
  have sn := of_i64 (hx (.v (.int .i64 n)) (by simp))
  have sk := of_i64 (hx (.v (.int .i64 k)) (by simp))
  have SN := Lib.hid sn
  clear sn
  have SK := Lib.hid sk
  clear sk
  clear hx hp h h0 H1 h1 H2
  generalize hA : std = A
  subst hG
  generalize h_c : ci = c
  generalize h_fi : inF = fi
  generalize h_fR : stepsF = fR
  cbv
  (repeat' (first | apply And.intro | apply BrB.mk | apply BrP.mk | intro _))
  (all_goals (subst hA; subst h_c; subst h_fi; subst h_fR); all_goals (have f_sn := SN.out; have f_sk := SK.out); all_goals (try simp only [std, stdBin, stdCmp, stdUna, stdIn, ci, beq_iff_eq, bne_iff_ne, beq_eq_false_iff_ne, bne_eq_false_iff_eq, decide_eq_true_eq, decide_eq_false_iff_not, Bool.not_true, Bool.not_false, Bool.not_eq_true', Bool.not_eq_false', Bool.not_not, tn0, tn1, tn2, tn3, stepsF, inF, inB, stepsI] at *); all_goals (try omega))
  all_goals (first | omega | (rw [if_pos (by omega)]) | (rw [if_neg (by omega)]) | skip)
  all_goals (rw [w64 (by have := (tdiv_in (n := n) (k := k) (by omega) (by omega)); omega) (by have := (tdiv_in (n := n) (k := k) (by omega) (by omega)); omega)])
def orderL (a s k : Int) (n : Int) : List Int := permZ (pbv a) (pbv (1099511627776 + s.tdiv k)) n
/-- The examples of a step: from place f on. -/
def partL (l : List Int) (f k n : Int) : List Int := (l.drop f.toNat).take ((if n < f + k then n else f + k) - f).toNat
def whichL (a n z s : Int) : List Int := if stepsI n z = 0 ∨ stepB s = false then [] else partL (orderL a s (stepsI n z) n) (s.tmod (stepsI n z) * z) z n
def whichF (xa : List AV) : List Int := match xa with
  | [.z a, .z n, .z z, .z s] => whichL a n z s
  | _ => []
theorem which_ok : CtrOk Try.prog 28 (rowC [.int .u64, .int .i64, .int .i64, .int .i64] 3 .i64 whichF) := by
  obtain ⟨G, hG⟩ : ∃ G : List (FuncId × Ctr), G = [(25, intC [.int .i64, .int .i64] .i64 stepsF), (62, rowC [.int .u64, .int .u64, .int .i64] 3 .i64 permF), (63, rowP [.sl (.int .i64)] 3 .i64 (lenP 8) sameL)] := ⟨_, rfl⟩
  refine fn_ok (ck := true) Try.func28 rfl tt_ok (G := G) (by rw [hG]; exact ⟨⟨steps_ok, by unfold FnOk; kernel_rfl⟩, ⟨perm_ok, by unfold FnOk; kernel_rfl⟩, ⟨cloneI_ok, by unfold FnOk; kernel_rfl⟩, trivial⟩) mixed (by kernel_rfl) ?_
  intro xa xs h hx hp
  obtain ⟨a0, as0, x0, xs0, rfl, rfl, h0, H1⟩ := svArgs_cons h
  obtain ⟨a1, as1, x1, xs1, rfl, rfl, h1, H2⟩ := svArgs_cons H1
  obtain ⟨a2, as2, x2, xs2, rfl, rfl, h2, H3⟩ := svArgs_cons H2
  obtain ⟨a3, as3, x3, xs3, rfl, rfl, h3, H4⟩ := svArgs_cons H3
  obtain ⟨rfl, rfl⟩ := svArgs_nil H4
  obtain ⟨a, rfl, rfl⟩ := argSV_int h0
  obtain ⟨n, rfl, rfl⟩ := argSV_int h1
  obtain ⟨z, rfl, rfl⟩ := argSV_int h2
  obtain ⟨s, rfl, rfl⟩ := argSV_int h3
  have sa : (Lit.int .u64 a).wf = true := (hx (.v (.int .u64 a)) (by simp))
  have sn := of_i64 (hx (.v (.int .i64 n)) (by simp))
  have sz := of_i64 (hx (.v (.int .i64 z)) (by simp))
  have ss := of_i64 (hx (.v (.int .i64 s)) (by simp))
  have SA := Lib.hid sa
  clear sa
  have SN := Lib.hid sn
  clear sn
  have SZ := Lib.hid sz
  clear sz
  have SS := Lib.hid ss
  clear ss
  clear hx hp h h0 H1 h1 H2 h2 H3 h3 H4
  generalize hA : std = A
  subst hG
  generalize h_c : ci = c
  generalize h_fs : stepsF = fs
  generalize h_fp : permF = fp
  generalize h_fl : lenP 8 = fl
  generalize h_fc : sameL = fc
  generalize h_fR : whichF = fR
  cbv
  (repeat' (first | apply And.intro | apply BrB.mk | apply BrP.mk | intro _))
  (all_goals (subst hA; subst h_c; subst h_fs; subst h_fp; subst h_fl; subst h_fc; subst h_fR); all_goals (have f_sa := SA.out; have f_sn := SN.out; have f_sz := SZ.out; have f_ss := SS.out); all_goals (try simp only [std, stdBin, stdCmp, stdUna, stdIn, ci, beq_iff_eq, bne_iff_ne, beq_eq_false_iff_ne, bne_eq_false_iff_eq, decide_eq_true_eq, decide_eq_false_iff_not, Bool.not_true, Bool.not_false, Bool.not_eq_true', Bool.not_eq_false', Bool.not_not, tn0, tn1, tn2, tn3, stepsF, permF, lenP, sameL, whichF, whichL] at *); all_goals (try omega))
  all_goals (try (rw [if_pos (by first | (left; assumption) | (right; simp only [stepB, decide_eq_false_iff_not]; omega))]; done))
  all_goals (obtain ⟨q1, q2, q3, q4, q5, q6, q7⟩ := steps_facts (n := n) (k := z) (by assumption))
  all_goals (obtain ⟨p1, p2, p3, p4, p5⟩ := from_in (s := s) (k := stepsI n z) (z := z) (by omega) q4 q2.1)
  all_goals (have e1 : IntKind.u64.wrap (IntKind.i64.wrap (s.tdiv (stepsI n z))) = s.tdiv (stepsI n z) := (by rw [w64 (by omega) (by omega), wu64 (by omega) (by omega)]))
  all_goals (have e2 := permZ_eq (pbv a) (pbv (1099511627776 + s.tdiv (stepsI n z))) q1.1 (show n ≤ 65536 by omega))
  all_goals (try simp only [e1, List.length_take, List.length_drop, e2] at *)
  all_goals (try (clear q3; generalize s.tmod (stepsI n z) * z = f at *; split <;> omega))
  all_goals (try omega)
  have hq : ¬ (stepsI n z = 0 ∨ stepB s = false) := by
    rintro (h | h)
    · contradiction
    · simp only [stepB, decide_eq_false_iff_not] at h; omega
  rw [if_neg hq]
  rfl
end Go.Proofs.Ytmlfiphpcjkadaa
