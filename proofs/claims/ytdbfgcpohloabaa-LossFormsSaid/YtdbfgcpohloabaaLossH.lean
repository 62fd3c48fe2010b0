/- Layer 19's counterparts: parts. -/
import Derived.Test.YtdbfgcpohloabaaLossG
namespace Go.Proofs.Ytdbfgcpohloabaa
open Go.RowKit
set_option maxRecDepth 100000
set_option linter.unusedSimpArgs false
set_option linter.unusedVariables false
set_option maxHeartbeats 40000000
set_option cbv.maxSteps 10000000
def mxN (l : List Int) : Nat → Int
  | 0 => l.getD 0 0
  | n + 1 => if l.getD n 0 > mxN l n then l.getD n 0 else mxN l n
theorem mxN_eq (l : List Int) : ∀ n, mxN l (n + 1) = mxTo l n
  | 0 => by
    show (if l.getD 0 0 > l.getD 0 0 then l.getD 0 0 else l.getD 0 0) = l.getD 0 0
    split <;> rfl
  | n + 1 => by
    show (if l.getD (n + 1) 0 > mxN l (n + 1) then l.getD (n + 1) 0 else mxN l (n + 1)) = mxTo l (n + 1)
    rw [mxN_eq l n]
    rfl
theorem mxN_all {l : List Int} (h : 1 ≤ l.length) : mxN l l.length = mxTo l (l.length - 1) := by
  rw [← mxN_eq, show l.length - 1 + 1 = l.length by omega]
def dbl (d : Int) : Nat → Int
  | 0 => d
  | t + 1 => if 15 < 2 * dbl d t then 15 else 2 * dbl d t
def hlv (d : Int) : Nat → Int
  | 0 => d
  | t + 1 => (hlv d t).fdiv 2
theorem dbl_in {d : Int} (h : 0 ≤ d ∧ d ≤ 255) : ∀ t, 0 ≤ dbl d t ∧ dbl d t ≤ 255
  | 0 => h
  | t + 1 => by
    have := dbl_in h t
    unfold dbl
    split <;> omega
theorem hlv_in {d : Int} (h : 0 ≤ d ∧ d ≤ 255) : ∀ t, 0 ≤ hlv d t ∧ hlv d t ≤ 255
  | 0 => h
  | t + 1 => by
    have := hlv_in h t
    unfold hlv
    rw [Int.fdiv_eq_ediv_of_nonneg _ (by decide)]
    omega
theorem hlv_eq {d : Int} (h : 0 ≤ d) : ∀ t, hlv d t = d.fdiv (2 ^ t)
  | 0 => by rw [Int.pow_zero, Int.fdiv_one]; rfl
  | t + 1 => by
    unfold hlv
    have hp : (0 : Int) < 2 ^ t := Int.pow_pos (by decide)
    rw [hlv_eq h t, Int.fdiv_eq_ediv_of_nonneg _ (by decide), Int.fdiv_eq_ediv_of_nonneg _ (by omega), Int.fdiv_eq_ediv_of_nonneg _ (by rw [Int.pow_succ]; omega), Int.ediv_ediv_of_nonneg (by omega), Int.pow_succ]
theorem dbl_eq {d : Int} (h : 0 ≤ d ∧ d ≤ 255) : ∀ t, (if 15 < dbl d t then 15 else dbl d t) = if 15 < d * 2 ^ t then 15 else d * 2 ^ t
  | 0 => by rw [Int.pow_zero, Int.mul_one]; rfl
  | t + 1 => by
    have ih := dbl_eq h t
    have h1 := dbl_in h t
    have h2 : 0 ≤ d * 2 ^ t := Int.mul_nonneg h.1 (Int.le_of_lt (Int.pow_pos (by decide)))
    rw [Int.pow_succ, ← Int.mul_assoc]
    unfold dbl
    generalize dbl d t = x at *
    generalize d * 2 ^ t = y at *
    split at ih <;> split at ih <;> (repeat' split) <;> omega
theorem pow_big {d : Int} (h : 1 ≤ d) {t : Nat} (ht : 4 ≤ t) : 16 ≤ d * 2 ^ t := by
  have h1 := Nat.pow_le_pow_right (show 0 < 2 by decide) ht
  have h2 : ((2 ^ 4 : Nat) : Int) ≤ ((2 ^ t : Nat) : Int) := Int.ofNat_le.2 h1
  have h3 : (16 : Int) ≤ 2 ^ t := by simpa using h2
  have h4 := Int.mul_le_mul_of_nonneg_right h (show (0 : Int) ≤ 2 ^ t by omega)
  omega
/-- Step by step, or at once. -/
theorem bel_steps {d e : Int} (h : 0 ≤ d ∧ d ≤ 255) (he : -64 ≤ e ∧ e ≤ 64) : (if 15 < hlv (dbl d e.toNat) (-e).toNat then 15 else hlv (dbl d e.toNat) (-e).toNat) = belI d e := by
  unfold belI
  by_cases h0 : e < 0
  · rw [if_pos h0, show e.toNat = 0 by omega]
    show (if 15 < hlv d _ then 15 else hlv d _) = _
    rw [hlv_eq h.1, Nat.min_eq_left (by omega)]
  · rw [if_neg h0, show (-e).toNat = 0 by omega]
    show (if 15 < dbl d e.toNat then 15 else dbl d e.toNat) = _
    rw [dbl_eq h]
    by_cases h4 : 4 < e
    · rw [if_pos h4]
      by_cases hd : d = 0
      · subst hd; rw [Int.zero_mul, Int.zero_mul]
      · have a := pow_big (d := d) (by omega) (t := e.toNat) (by omega)
        have b := pow_big (d := d) (by omega) (t := (4 : Int).toNat) (by decide)
        rw [if_pos (by omega), if_pos (by omega)]
    · rw [if_neg h4]
theorem rsoft_ok : CtrOk Try.prog 21 (rowC [.sl (.int .i8), .int .i64] 3 .i64 softF) := by
  obtain ⟨G, hG⟩ : ∃ G : List (FuncId × Ctr), G = [] := ⟨_, rfl⟩
  refine fn_ok (ck := true) Try.func21 rfl tt_ok (G := G) (by rw [hG]; exact trivial) mixed (by kernel_rfl) ?_
  intro xa xs h hx hp
  obtain ⟨a0, as0, x0, xs0, rfl, rfl, h0, H1⟩ := svArgs_cons h
  obtain ⟨a1, as1, x1, xs1, rfl, rfl, h1, H2⟩ := svArgs_cons H1
  obtain ⟨rfl, rfl⟩ := svArgs_nil H2
  obtain ⟨l, rfl, rfl⟩ := argSV_ints h0
  obtain ⟨e, rfl, rfl⟩ := argSV_int h1
  have sl : Fits .i8 l ∧ ci l.length ≤ 9223372036854775807 := svf_ints (hx (.iimm .i8 l) (by simp))
  have se := of_i64 (hx (.v (.int .i64 e)) (by simp))
  have SL := Lib.hid sl
  clear sl
  have SE := Lib.hid se
  clear se
  clear hx hp h h0 H1 h1 H2
  subst hG
  generalize hA : std = A
  generalize h_c : ci = c
  generalize h_fR : softF = fR
  obtain ⟨M, hM⟩ : ∃ V : Nat → Int, ∀ x, V x = mxN l x := ⟨_, fun _ => rfl⟩
  obtain ⟨V, hV⟩ : ∃ V : Nat → Int, ∀ x, V x = totI l e x := ⟨_, fun _ => rfl⟩
  obtain ⟨P, hP⟩ : ∃ V : Nat → Nat → Int, ∀ j t, V j t = dbl (mxTo l (l.length - 1) - l.getD j 0) t := ⟨_, fun _ _ => rfl⟩
  obtain ⟨Q, hQ⟩ : ∃ V : Nat → Nat → Int, ∀ j t, V j t = hlv (dbl (mxTo l (l.length - 1) - l.getD j 0) (cutE e).toNat) t := ⟨_, fun _ _ => rfl⟩
  obtain ⟨S, hS⟩ : ∃ S : Nat → List Int, ∀ j, S j = (List.range j).map (wtI l e) := ⟨_, fun _ => rfl⟩
  obtain ⟨T, hT⟩ : ∃ S : Nat → List Int, ∀ j, S j = mixL (wtI l e) (partI l e) l.length j := ⟨_, fun _ => rfl⟩
  have HM := Lib.hid hM
  have HV := Lib.hid hV
  have HP := Lib.hid hP
  have HQ := Lib.hid hQ
  have HS := Lib.hid hS
  have HT := Lib.hid hT
  clear hM hV hP hQ hS hT
  cbv
  (repeat' (first | apply And.intro | apply BrB.mk | apply BrP.mk | intro _))
  all_goals try (refine loop_at Nat 30 (fun x => [(5, .v (.int .i8 (M x))), (7, .any), (30, .v (.int .i64 (c x)))]) (fun _ o => o) (fun x => x ≤ l.length) (fun x => l.length - x) 0 (Nat.zero_le _) ?hle ?round)
  case hle =>
    cbv
    (repeat' (first | apply And.intro | apply BrB.mk | apply BrP.mk | intro _))
    (all_goals (subst hA; subst h_c; subst h_fR); all_goals (have f_sl := SL.out; have f_se := SE.out); all_goals (try simp only [std, stdBin, stdCmp, stdUna, stdIn, ci, beq_iff_eq, bne_iff_ne, beq_eq_false_iff_ne, bne_eq_false_iff_eq, decide_eq_true_eq, decide_eq_false_iff_not, Bool.not_true, Bool.not_false, Bool.not_eq_true', Bool.not_eq_false', Bool.not_not, tn0, tn1, tn2, tn3] at *); all_goals (try omega))
    all_goals first | exact True.intro | rfl | skip
    all_goals (rw [HM.out]; rfl)
  case round =>
    intro x hx
    cbv
    refine BrB.mk (fun gx => ?yx) (fun gx => ?nx)
    case yx =>
      (repeat' (first | apply And.intro | apply BrB.mk | apply BrP.mk | intro _))
      all_goals try (refine ⟨x + 1, ?_, ?_, ?_⟩)
      all_goals try (show AS.le _ _; cbv; (repeat' (first | apply And.intro | apply BrB.mk | apply BrP.mk | intro _)))
      (all_goals (subst hA; subst h_c; subst h_fR); all_goals (have f_sl := SL.out; have f_se := SE.out); all_goals (try simp only [std, stdBin, stdCmp, stdUna, stdIn, ci, beq_iff_eq, bne_iff_ne, beq_eq_false_iff_ne, bne_eq_false_iff_eq, decide_eq_true_eq, decide_eq_false_iff_not, Bool.not_true, Bool.not_false, Bool.not_eq_true', Bool.not_eq_false', Bool.not_not, tn0, tn1, tn2, tn3, HM.out, Int.toNat_natCast] at *); all_goals (try omega))
      all_goals (try first | omega | rfl)
      skip
    case nx =>
      (repeat' (first | apply And.intro | apply BrB.mk | apply BrP.mk | intro _))
      all_goals try (refine loop_nil [.slot 9 3 .i64] Nat 40 (fun j => [(8, .v (.int .i64 (V j))), (9, .hdl 0), (11, .any), (12, .any), (40, .v (.int .i64 (c j)))]) (fun j o => o.set 0 (.irow 3 .i64 (S j))) (fun j => j ≤ l.length) (fun j => l.length - j) 0 (Nat.zero_le _) ?hle ?round)
      case hle =>
        cbv
        (repeat' (first | apply And.intro | apply BrB.mk | apply BrP.mk | intro _))
        (all_goals (subst hA; subst h_c; subst h_fR); all_goals (have f_sl := SL.out; have f_se := SE.out); all_goals (try simp only [std, stdBin, stdCmp, stdUna, stdIn, ci, beq_iff_eq, bne_iff_ne, beq_eq_false_iff_ne, bne_eq_false_iff_eq, decide_eq_true_eq, decide_eq_false_iff_not, Bool.not_true, Bool.not_false, Bool.not_eq_true', Bool.not_eq_false', Bool.not_not, tn0, tn1, tn2, tn3] at *); all_goals (try omega))
        all_goals first | exact True.intro | rfl | skip
        all_goals (first | (rw [HS.out]; rfl) | (rw [HV.out]; rfl))
      case round =>
        intro j hj
        cbv
        refine BrB.mk (fun gj => ?yj) (fun gj => ?nj)
        case yj =>
          (repeat' (first | apply And.intro | apply BrB.mk | apply BrP.mk | intro _))
          all_goals try (refine loop_at Nat 50 (fun t => [(12, .v (.int .i64 (P j t))), (50, .v (.int .i64 (c t)))]) (fun _ o => o) (fun t => t ≤ (cutE e).toNat) (fun t => (cutE e).toNat - t) 0 (Nat.zero_le _) ?hle ?round)
          case hle =>
            cbv
            (repeat' (first | apply And.intro | apply BrB.mk | apply BrP.mk | intro _))
            (all_goals (subst hA; subst h_c; subst h_fR); all_goals (have f_sl := SL.out; have f_se := SE.out); all_goals (try simp only [std, stdBin, stdCmp, stdUna, stdIn, ci, beq_iff_eq, bne_iff_ne, beq_eq_false_iff_ne, bne_eq_false_iff_eq, decide_eq_true_eq, decide_eq_false_iff_not, Bool.not_true, Bool.not_false, Bool.not_eq_true', Bool.not_eq_false', Bool.not_not, tn0, tn1, tn2, tn3] at *); all_goals (try omega))
            all_goals first | exact True.intro | rfl | skip
            all_goals (rw [HP.out, HM.out, show x = l.length by omega, mxN_all (by omega), Int.toNat_natCast]; rfl)
          case round =>
            intro t ht
            cbv
            refine BrB.mk (fun gt => ?yt) (fun gt => ?nt)
            case yt =>
              (repeat' (first | apply And.intro | apply BrB.mk | apply BrP.mk | intro _))
              all_goals try (refine ⟨t + 1, ?_, ?_, ?_⟩)
              all_goals try (show AS.le _ _; cbv; (repeat' (first | apply And.intro | apply BrB.mk | apply BrP.mk | intro _)))
              (all_goals (subst hA; subst h_c; subst h_fR); all_goals (have f_sl := SL.out; have f_se := SE.out); all_goals (try simp only [std, stdBin, stdCmp, stdUna, stdIn, ci, beq_iff_eq, bne_iff_ne, beq_eq_false_iff_ne, bne_eq_false_iff_eq, decide_eq_true_eq, decide_eq_false_iff_not, Bool.not_true, Bool.not_false, Bool.not_eq_true', Bool.not_eq_false', Bool.not_not, tn0, tn1, tn2, tn3, HP.out] at *); all_goals (try omega))
              all_goals (try first | omega | rfl)
              (all_goals (have hc : (if (if 64 < e then 64 else e) > -64 then (if 64 < e then 64 else e) else -64) = cutE e := rfl; have hin := cutE_in e; (try simp only [hc] at *)))
              all_goals (have d1 := dbl_in (far_in f_sl.1 (i := j) (by omega)) t)
              all_goals (try first | omega | rfl)
            case nt =>
              (repeat' (first | apply And.intro | apply BrB.mk | apply BrP.mk | intro _))
              all_goals try (refine loop_at Nat 58 (fun u => [(12, .v (.int .i64 (Q j u))), (58, .v (.int .i64 (c u)))]) (fun _ o => o) (fun u => u ≤ (-cutE e).toNat) (fun u => (-cutE e).toNat - u) 0 (Nat.zero_le _) ?_ ?_)
              all_goals try (show AS.le _ _; cbv; (repeat' (first | apply And.intro | apply BrB.mk | apply BrP.mk | intro _)))
              all_goals try (intro u hu; cbv; refine BrB.mk (fun gu => ?yu) (fun gu => ?nu))
              case yu =>
                (repeat' (first | apply And.intro | apply BrB.mk | apply BrP.mk | intro _))
                all_goals try (refine ⟨u + 1, ?_, ?_, ?_⟩)
                all_goals try (show AS.le _ _; cbv; (repeat' (first | apply And.intro | apply BrB.mk | apply BrP.mk | intro _)))
                (all_goals (subst hA; subst h_c; subst h_fR); all_goals (have f_sl := SL.out; have f_se := SE.out); all_goals (try simp only [std, stdBin, stdCmp, stdUna, stdIn, ci, beq_iff_eq, bne_iff_ne, beq_eq_false_iff_ne, bne_eq_false_iff_eq, decide_eq_true_eq, decide_eq_false_iff_not, Bool.not_true, Bool.not_false, Bool.not_eq_true', Bool.not_eq_false', Bool.not_not, tn0, tn1, tn2, tn3, HQ.out] at *); all_goals (try omega))
                all_goals (try first | omega | rfl)
                (all_goals (have hc : (if (if 64 < e then 64 else e) > -64 then (if 64 < e then 64 else e) else -64) = cutE e := rfl; have hin := cutE_in e; (try simp only [hc] at *)))
                all_goals (try first | omega | rfl)
              case nu =>
                (repeat' (first | apply And.intro | apply BrB.mk | apply BrP.mk | intro _))
                all_goals try (refine ⟨j + 1, ?_, ?_, ?_⟩)
                all_goals try (show AS.le _ _; cbv; (repeat' (first | apply And.intro | apply BrB.mk | apply BrP.mk | intro _)))
                (all_goals (subst hA; subst h_c; subst h_fR); all_goals (have f_sl := SL.out; have f_se := SE.out); all_goals (try simp only [std, stdBin, stdCmp, stdUna, stdIn, ci, beq_iff_eq, bne_iff_ne, beq_eq_false_iff_ne, bne_eq_false_iff_eq, decide_eq_true_eq, decide_eq_false_iff_not, Bool.not_true, Bool.not_false, Bool.not_eq_true', Bool.not_eq_false', Bool.not_not, tn0, tn1, tn2, tn3] at *); all_goals (try omega))
                (all_goals (have hc : (if (if 64 < e then 64 else e) > -64 then (if 64 < e then 64 else e) else -64) = cutE e := rfl; have hin := cutE_in e; (try simp only [hc] at *)))
                all_goals (have hf := far_in f_sl.1 (i := j) (by omega); have q1 : (if 15 < Q j u then 15 else Q j u) = belI (mxTo l (l.length - 1) - l.getD j 0) (cutE e) := (by rw [HQ.out, show u = (-cutE e).toNat by omega]; exact bel_steps hf hin); have b4 := bel_in (e := cutE e) hf.1; have wu : IntKind.u64.wrap (15 - belI (mxTo l (l.length - 1) - l.getD j 0) (cutE e)) = 15 - belI (mxTo l (l.length - 1) - l.getD j 0) (cutE e) := (by rw [wrap64u]; omega); have hw : 1 * 2 ^ (15 - belI (mxTo l (l.length - 1) - l.getD j 0) (cutE e)).toNat = wtI l e j := rfl; have w1 := wt_in f_sl.1 e (i := j) (by omega); have w2 := tot_in f_sl.1 e j (by omega); have ls : ((List.range j).map (wtI l e)).length = j := (by simp); (try simp only [q1, wu, hw, HS.out, HV.out, ls, List.length_singleton] at *))
                all_goals (try first | omega | (exact congrArg _ (Int.natCast_add j 1)))
                · rfl
                · exact (range_snoc19 _ _).symm
              (all_goals (subst hA; subst h_c; subst h_fR); all_goals (have f_sl := SL.out; have f_se := SE.out); all_goals (try simp only [std, stdBin, stdCmp, stdUna, stdIn, ci, beq_iff_eq, bne_iff_ne, beq_eq_false_iff_ne, bne_eq_false_iff_eq, decide_eq_true_eq, decide_eq_false_iff_not, Bool.not_true, Bool.not_false, Bool.not_eq_true', Bool.not_eq_false', Bool.not_not, tn0, tn1, tn2, tn3] at *); all_goals (try omega))
              all_goals (try first | omega | rfl)
              (all_goals (have hc : (if (if 64 < e then 64 else e) > -64 then (if 64 < e then 64 else e) else -64) = cutE e := rfl; have hin := cutE_in e; (try simp only [hc] at *)))
              all_goals (rw [HP.out, HQ.out, show t = (cutE e).toNat by omega]; rfl)
          (all_goals (subst hA; subst h_c; subst h_fR); all_goals (have f_sl := SL.out; have f_se := SE.out); all_goals (try simp only [std, stdBin, stdCmp, stdUna, stdIn, ci, beq_iff_eq, bne_iff_ne, beq_eq_false_iff_ne, bne_eq_false_iff_eq, decide_eq_true_eq, decide_eq_false_iff_not, Bool.not_true, Bool.not_false, Bool.not_eq_true', Bool.not_eq_false', Bool.not_not, tn0, tn1, tn2, tn3] at *); all_goals (try omega))
          all_goals (try first | omega | rfl)
          all_goals (have d1 := far_in f_sl.1 (i := j) (by omega); rw [HM.out, show x = l.length by omega, mxN_all (by omega), Int.toNat_natCast]; omega)
        case nj =>
          (repeat' (first | apply And.intro | apply BrB.mk | apply BrP.mk | intro _))
          all_goals try (refine loop_at Nat 81 (fun i => [(13, .any), (81, .v (.int .i64 (c i)))]) (fun i o => o.set 0 (.irow 3 .i64 (T i))) (fun i => i ≤ l.length) (fun i => l.length - i) 0 (Nat.zero_le _) ?hle ?round)
          case hle =>
            cbv
            (repeat' (first | apply And.intro | apply BrB.mk | apply BrP.mk | intro _))
            (all_goals (subst hA; subst h_c; subst h_fR); all_goals (have f_sl := SL.out; have f_se := SE.out); all_goals (try simp only [std, stdBin, stdCmp, stdUna, stdIn, ci, beq_iff_eq, bne_iff_ne, beq_eq_false_iff_ne, bne_eq_false_iff_eq, decide_eq_true_eq, decide_eq_false_iff_not, Bool.not_true, Bool.not_false, Bool.not_eq_true', Bool.not_eq_false', Bool.not_not, tn0, tn1, tn2, tn3] at *); all_goals (try omega))
            all_goals first | exact True.intro | rfl | skip
            rw [HS.out, HT.out, show j = l.length by omega, mixL_none]
          case round =>
            intro i hi
            cbv
            refine BrB.mk (fun gy => ?yy) (fun gy => ?ny)
            case yy =>
              (repeat' (first | apply And.intro | apply BrB.mk | apply BrP.mk | intro _))
              all_goals try (refine ⟨i + 1, ?_, ?_, ?_⟩)
              all_goals try (show AS.le _ _; cbv; (repeat' (first | apply And.intro | apply BrB.mk | apply BrP.mk | intro _)))
              (all_goals (subst hA; subst h_c; subst h_fR); all_goals (have f_sl := SL.out; have f_se := SE.out); all_goals (try simp only [std, stdBin, stdCmp, stdUna, stdIn, ci, beq_iff_eq, bne_iff_ne, beq_eq_false_iff_ne, bne_eq_false_iff_eq, decide_eq_true_eq, decide_eq_false_iff_not, Bool.not_true, Bool.not_false, Bool.not_eq_true', Bool.not_eq_false', Bool.not_not, tn0, tn1, tn2, tn3, Int.toNat_natCast] at *); all_goals (try omega))
              all_goals (have lS : (S j).length = j := (by rw [HS.out]; simp); have lT : (T i).length = l.length := (by rw [HT.out, mixL_len]); (try simp only [lS, lT] at *); have eT : (T i).getD i 0 = wtI l e i := (by rw [HT.out, mixL_get _ _ (by omega), if_neg (Nat.lt_irrefl _)]); have w1 := wt_in f_sl.1 e (i := i) (by omega); have w2 := tot_in f_sl.1 e l.length (Nat.le_refl _); have p1 := part_in f_sl.1 e (i := i) (by omega); have p2 : (wtI l e i * 127).tdiv (totI l e l.length) = partI l e i := rfl; have ej : j = l.length := (by omega); (try simp only [eT, HV.out, ej, p2] at *))
              all_goals (try first | omega | (exact congrArg _ (Int.natCast_add i 1)))
              rw [w64 (by omega) (by omega), HT.out, HT.out]
              exact mixL_store (by omega) rfl
            case ny =>
              (repeat' (first | apply And.intro | apply BrB.mk | apply BrP.mk | intro _))
              (all_goals (subst hA; subst h_c; subst h_fR); all_goals (have f_sl := SL.out; have f_se := SE.out); all_goals (try simp only [std, stdBin, stdCmp, stdUna, stdIn, ci, beq_iff_eq, bne_iff_ne, beq_eq_false_iff_ne, bne_eq_false_iff_eq, decide_eq_true_eq, decide_eq_false_iff_not, Bool.not_true, Bool.not_false, Bool.not_eq_true', Bool.not_eq_false', Bool.not_not, tn0, tn1, tn2, tn3] at *); all_goals (try omega))
              have lS : (S j).length = j := by rw [HS.out]; simp
              rw [lS] at gy
              rw [soft_row (by omega), HT.out, show i = l.length by omega, mixL_all]
              rfl
  (all_goals (subst hA; subst h_c; subst h_fR); all_goals (have f_sl := SL.out; have f_se := SE.out); all_goals (try simp only [std, stdBin, stdCmp, stdUna, stdIn, ci, beq_iff_eq, bne_iff_ne, beq_eq_false_iff_ne, bne_eq_false_iff_eq, decide_eq_true_eq, decide_eq_false_iff_not, Bool.not_true, Bool.not_false, Bool.not_eq_true', Bool.not_eq_false', Bool.not_not, tn0, tn1, tn2, tn3] at *); all_goals (try omega))
  all_goals (exact soft_no (by omega))
end Go.Proofs.Ytdbfgcpohloabaa
