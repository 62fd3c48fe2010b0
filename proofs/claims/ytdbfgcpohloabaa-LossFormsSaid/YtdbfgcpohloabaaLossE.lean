/- Layer 19: the greatest of each row; who is right. -/
import Derived.Test.YtdbfgcpohloabaaLossD
namespace Go.Proofs.Ytdbfgcpohloabaa
open Go.RowKit
set_option maxRecDepth 100000
set_option linter.unusedSimpArgs false
set_option linter.unusedVariables false
set_option maxHeartbeats 8000000
/-- The first of the first n that is v, or n. -/
def fstAt (l : List Int) (v : Int) : Nat → Nat
  | 0 => 0
  | n + 1 => if fstAt l v n < n then fstAt l v n else if l.getD n 0 = v then n else n + 1
theorem fst_no (l : List Int) (v : Int) : ∀ n i, i < fstAt l v n → fstAt l v n ≤ n ∧ l.getD i 0 ≠ v
  | 0, i, h => by simp [fstAt] at h
  | n + 1, i, h => by
    have ih := fst_no l v n
    unfold fstAt at h ⊢
    split at h
    · rename_i h1
      have := ih i h
      rw [if_pos h1]
      exact ⟨by omega, this.2⟩
    · rename_i h1
      rw [if_neg h1]
      split at h
      · rename_i h2
        rw [if_pos h2]
        exact ⟨by omega, (ih i (by omega)).2⟩
      · rename_i h2
        rw [if_neg h2]
        refine ⟨by omega, ?_⟩
        by_cases e : i = n
        · subst e; exact h2
        · exact (ih i (by omega)).2
theorem fst_le (l : List Int) (v : Int) : ∀ n, fstAt l v n ≤ n
  | 0 => Nat.le_refl _
  | n + 1 => by
    have := fst_le l v n
    unfold fstAt
    split
    · omega
    · split <;> omega
theorem fst_yes (l : List Int) (v : Int) : ∀ n, fstAt l v n < n → l.getD (fstAt l v n) 0 = v
  | 0, h => by omega
  | n + 1, h => by
    have ih := fst_yes l v n
    unfold fstAt at h ⊢
    split
    · exact ih (by assumption)
    · split
      · assumption
      · rename_i h1 h2
        rw [if_neg h1, if_neg h2] at h
        omega
theorem fst_eq {l : List Int} {v : Int} {n j : Nat} (hj : j < n) (h1 : l.getD j 0 = v) (h2 : ∀ i, i < j → l.getD i 0 ≠ v) : fstAt l v n = j := by
  have a := fst_le l v n
  have b := fst_yes l v n
  by_cases h : fstAt l v n < j
  · exact absurd (b (by omega)) (h2 _ h)
  · by_cases h3 : j < fstAt l v n
    · exact absurd h1 (fst_no l v n j h3).2
    · omega
theorem fst_end {l : List Int} {v : Int} {n : Nat} (h2 : ∀ i, i < n → l.getD i 0 ≠ v) : fstAt l v n = n := by
  have a := fst_le l v n
  have b := fst_yes l v n
  by_cases h : fstAt l v n < n
  · exact absurd (b h) (h2 _ h)
  · omega
def idxV (l : List Int) (v : Int) : Int := if fstAt l v l.length < l.length then (fstAt l v l.length : Int) else -1
def idxF (xa : List AV) : Int := match xa with
  | [.l l, .z v] => idxV l v
  | _ => 0
theorem idx_ok : CtrOk Try.prog 30 (intC [.sl (.int .i8), .int .i8] .i64 idxF) := by
  obtain ⟨G, hG⟩ : ∃ G : List (FuncId × Ctr), G = [] := ⟨_, rfl⟩
  refine fn_ok (ck := true) Try.func30 rfl tt_ok (G := G) (by rw [hG]; exact trivial) mixed (by kernel_rfl) ?_
  intro xa xs h hx hp
  obtain ⟨a0, as0, x0, xs0, rfl, rfl, h0, H1⟩ := svArgs_cons h
  obtain ⟨a1, as1, x1, xs1, rfl, rfl, h1, H2⟩ := svArgs_cons H1
  obtain ⟨rfl, rfl⟩ := svArgs_nil H2
  obtain ⟨l, rfl, rfl⟩ := argSV_ints h0
  obtain ⟨v, rfl, rfl⟩ := argSV_int h1
  have sl : Fits .i8 l ∧ ci l.length ≤ 9223372036854775807 := svf_ints (hx (.iimm .i8 l) (by simp))
  have sv := of_i8 (hx (.v (.int .i8 v)) (by simp))
  have SL := Lib.hid sl
  clear sl
  have SV := Lib.hid sv
  clear sv
  clear hx hp h h0 H1 h1 H2
  subst hG
  generalize hA : std = A
  generalize h_c : ci = c
  generalize h_fR : idxF = fR
  cbv
  (repeat' (first | apply And.intro | apply BrB.mk | apply BrP.mk | intro _))
  all_goals try (refine loop_at Nat 8 (fun x => [(5, .any), (8, .v (.int .i64 (c x)))]) (fun _ o => o) (fun x => x ≤ l.length ∧ ∀ i, i < x → l.getD i 0 ≠ v) (fun x => l.length - x) 0 ?h0 ?hle ?round)
  case h0 => exact ⟨Nat.zero_le _, fun i hi => by omega⟩
  case hle => (cbv; (repeat' (first | apply And.intro | apply BrB.mk | apply BrP.mk | intro _)); all_goals (subst hA; subst h_c; subst h_fR); all_goals (have f_sl := SL.out; have f_sv := SV.out); all_goals (try simp only [std, stdBin, stdCmp, stdUna, stdIn, ci, beq_iff_eq, bne_iff_ne, beq_eq_false_iff_ne, bne_eq_false_iff_eq, decide_eq_true_eq, decide_eq_false_iff_not, Bool.not_true, Bool.not_false, Bool.not_eq_true', Bool.not_eq_false', Bool.not_not, tn0, tn1, tn2, tn3] at *); (all_goals first | exact True.intro | rfl | exact congrArg (Value.int .i64) (by omega)))
  case round =>
    intro j hj
    cbv
    (repeat' (first | apply And.intro | apply BrB.mk | apply BrP.mk | intro _))
    all_goals try (refine ⟨j + 1, ?_, ?_, ?_⟩)
    all_goals try (show AS.le _ _; cbv; (repeat' (first | apply And.intro | apply BrB.mk | apply BrP.mk | intro _)))
    (all_goals (subst hA; subst h_c; subst h_fR); all_goals (have f_sl := SL.out; have f_sv := SV.out); all_goals (try simp only [std, stdBin, stdCmp, stdUna, stdIn, ci, beq_iff_eq, bne_iff_ne, beq_eq_false_iff_ne, bne_eq_false_iff_eq, decide_eq_true_eq, decide_eq_false_iff_not, Bool.not_true, Bool.not_false, Bool.not_eq_true', Bool.not_eq_false', Bool.not_not, tn0, tn1, tn2, tn3, Int.toNat_natCast] at *); all_goals (try omega))
    all_goals (try first | rfl | omega)
    · refine congrArg _ ?_
      show (j : Int) = idxV l v
      unfold idxV
      rw [fst_eq (j := j) (by omega) (Eq.symm (by assumption)) hj.2, if_pos (by omega)]
    · refine ⟨by omega, fun i hi => ?_⟩
      by_cases e : i = j
      · subst e; exact fun h => absurd h.symm (by assumption)
      · exact hj.2 i (by omega)
    · refine congrArg _ ?_
      show -1 = idxV l v
      unfold idxV
      rw [fst_end (fun i hi => hj.2 i (by omega)), if_neg (by omega)]
  (all_goals (subst hA; subst h_c; subst h_fR); all_goals (have f_sl := SL.out; have f_sv := SV.out); all_goals (try simp only [std, stdBin, stdCmp, stdUna, stdIn, ci, beq_iff_eq, bne_iff_ne, beq_eq_false_iff_ne, bne_eq_false_iff_eq, decide_eq_true_eq, decide_eq_false_iff_not, Bool.not_true, Bool.not_false, Bool.not_eq_true', Bool.not_eq_false', Bool.not_not, tn0, tn1, tn2, tn3] at *); all_goals (try omega))
/-- Where the greatest of row n is. -/
def topAt (t : Tn) (n : Nat) : Int := idxV (rowL t n) (mxTo (rowL t n) ((rowL t n).length - 1))
def topN (t : Tn) : List Int := (List.range (t.dims.getD 0 0).toNat).map (topAt t)
def topR (t : Tn) : List Int := if chkI t = 0 then topN t else []
/-- A row, and an error. -/
def rowE (ts : List Ty) (E : TypeId) (k : IntKind) (err : List AV → Int) (f : List AV → List Int) : Ctr := ⟨ts, fun _ => none, fun xa => .ret (.tup [.hdl 0, .v (.int .i64 (err xa))]) [(0, .irow E k (f xa))], false⟩
theorem chk_main {t : Tn} (h : chkI t = 0) : ∃ N C : Nat, t.dims.getD 0 0 = N ∧ t.dims.getD 1 0 = C ∧ (1 ≤ N ∧ N ≤ 4096) ∧ (2 ≤ C ∧ C ≤ 10) ∧ t.data.length = N * C ∧ N * C ≤ 8192 ∧ (t.dims.length : Int) = 2 := by
  obtain ⟨h1, h2, h3, h4⟩ := chk_zero h
  obtain ⟨N, C, a1, a2, a3, a4, a5, a6, a7, a8, a9⟩ := mat2 h1 h2
  exact ⟨N, C, a1, a2, ⟨a3, a4⟩, ⟨by omega, by omega⟩, a7, a8, h2⟩
theorem rowlP_ok {D L : List Int} {e : Int} {N C n : Nat} (h1 : (D.length : Int) = 2) (h2 : D.getD 1 0 = C) (h3 : L.length = N * C) (h4 : n < N) (h5 : N ≤ 4096) (h6 : C ≤ 10) : rowlP [.st [.l D, .z e, .l L], .z (n : Int)] := by
  have h7 : (((n + 1) * C : Nat) : Int) ≤ ((N * C : Nat) : Int) := Int.ofNat_le.2 (Nat.mul_le_mul_right C (by omega))
  rw [Int.natCast_mul] at h7
  show (D.length : Int) = 2 ∧ 0 ≤ (n : Int) ∧ (n : Int) ≤ 4096 ∧ 0 ≤ D.getD 1 0 ∧ D.getD 1 0 ≤ 4096 ∧ ((n : Int) + 1) * D.getD 1 0 ≤ (L.length : Int)
  rw [h2, h3]
  exact ⟨by omega, by omega, by omega, by omega, by omega, h7⟩
theorem rowlF_at (D L : List Int) (e : Int) (n : Nat) : rowlF [.st [.l D, .z e, .l L], .z (n : Int)] = rowL ⟨D, e, L⟩ n := by
  show rowL _ ((n : Int).toNat) = _
  rw [Int.toNat_natCast]
theorem topR_at {t : Tn} (h : chkI t = 0) {n : Nat} (hn : (n : Int) < t.dims.getD 0 0) : (topR t).getD n 0 = topAt t n := by
  unfold topR topN
  rw [if_pos h, List.getD_eq_getElem?_getD, List.getElem?_map, List.getElem?_range (by omega)]
  rfl
theorem topR_len {t : Tn} (h : chkI t = 0) : (topR t).length = (t.dims.getD 0 0).toNat := by
  unfold topR topN
  rw [if_pos h]
  simp
theorem top_ok : CtrOk Try.prog 14 (rowE [tnTy .i8] 3 .i64 (t1 chkI 0) (t1 topR [])) := by
  obtain ⟨G, hG⟩ : ∃ G : List (FuncId × Ctr), G = [(29, intC [tnTy .i8] .i64 (t1 chkI 0)), (27, rowlC rowlP rowlF), (31, intP [.sl (.int .i8)] .i8 oneP mxF), (30, intC [.sl (.int .i8), .int .i8] .i64 idxF)] := ⟨_, rfl⟩
  refine fn_ok (ck := true) Try.func14 rfl tt_ok (G := G) (by rw [hG]; exact ⟨⟨check_ok, by unfold FnOk; kernel_rfl⟩, ⟨row_ok, by unfold FnOk; kernel_rfl⟩, ⟨mx_ok, by unfold FnOk; kernel_rfl⟩, ⟨idx_ok, by unfold FnOk; kernel_rfl⟩, trivial⟩) mixed (by kernel_rfl) ?_
  intro xa xs h hx hp
  obtain ⟨a0, as0, x0, xs0, rfl, rfl, h0, H1⟩ := svArgs_cons h
  obtain ⟨rfl, rfl⟩ := svArgs_nil H1
  obtain ⟨⟨yD, yE, yL⟩, rfl, rfl⟩ := argSV_tn h0
  have sy : (Fits .i64 yD ∧ ci yD.length ≤ 9223372036854775807) ∧ (-9223372036854775808 ≤ yE ∧ yE ≤ 9223372036854775807) ∧ Fits .i8 yL ∧ ci yL.length ≤ 9223372036854775807 := svf_tn (hx (Tn.sv .i8 ⟨yD, yE, yL⟩) (by simp))
  have SY := Lib.hid sy
  clear sy
  clear hx hp h h0 H1
  subst hG
  generalize hA : std = A
  generalize h_c : ci = c
  generalize h_fr : rowlF = fr
  generalize h_pr : rowlP = pr
  generalize h_fm : mxF = fm
  generalize h_pm : oneP = pm
  generalize h_fi : idxF = fi
  generalize h_fE : t1 chkI 0 = fE
  generalize h_fR : t1 topR [] = fR
  obtain ⟨T, hT⟩ : ∃ T : Nat → List Int, ∀ n, T n = mixL (fun _ => 0) (topAt ⟨yD, yE, yL⟩) (yD.getD 0 0).toNat n := ⟨_, fun _ => rfl⟩
  have HT := Lib.hid hT
  clear hT
  cbv
  (repeat' (first | apply And.intro | apply BrB.mk | apply BrP.mk | intro _))
  all_goals try (refine loop_at Nat 20 (fun x => [(6, .any), (7, .any), (20, .v (.int .i64 (c x)))]) (fun x o => o.set 1 (.irow 3 .i64 (T x))) (fun x => ci x ≤ yD.getD 0 0) (fun x => (yD.getD 0 0 - ci x).toNat) 0 ?h0 ?hle ?round)
  case h0 =>
    (all_goals (subst hA; subst h_c; subst h_fr; subst h_pr; subst h_fm; subst h_pm; subst h_fi; subst h_fE; subst h_fR); all_goals (have f_sy := SY.out); all_goals (try simp only [std, stdBin, stdCmp, stdUna, stdIn, ci, beq_iff_eq, bne_iff_ne, beq_eq_false_iff_ne, bne_eq_false_iff_eq, decide_eq_true_eq, decide_eq_false_iff_not, Bool.not_true, Bool.not_false, Bool.not_eq_true', Bool.not_eq_false', Bool.not_not, tn0, tn1, tn2, tn3, t1] at *); all_goals (try omega))
    (all_goals (obtain ⟨N, C, c1, c2, ⟨n1, n2⟩, ⟨k1, k2⟩, c4, c5, c6⟩ := chk_main (t := ⟨yD, yE, yL⟩) (by assumption); simp only at c1 c2 c4 c6; have K2 := Lib.hid c2; have K4 := Lib.hid c4))
    omega
  case hle =>
    cbv
    (repeat' (first | apply And.intro | apply BrB.mk | apply BrP.mk | intro _))
    (all_goals (subst hA; subst h_c; subst h_fr; subst h_pr; subst h_fm; subst h_pm; subst h_fi; subst h_fE; subst h_fR); all_goals (have f_sy := SY.out); all_goals (try simp only [std, stdBin, stdCmp, stdUna, stdIn, ci, beq_iff_eq, bne_iff_ne, beq_eq_false_iff_ne, bne_eq_false_iff_eq, decide_eq_true_eq, decide_eq_false_iff_not, Bool.not_true, Bool.not_false, Bool.not_eq_true', Bool.not_eq_false', Bool.not_not, tn0, tn1, tn2, tn3, t1] at *); all_goals (try omega))
    all_goals first | exact True.intro | rfl | skip
    rw [HT.out, mixL_nil]
  case round =>
    intro n hn
    cbv
    refine BrB.mk (fun gx => ?yx) (fun gx => ?nx)
    case yx =>
      (repeat' (first | apply And.intro | apply BrB.mk | apply BrP.mk | intro _))
      all_goals try (refine ⟨n + 1, ?_, ?_, ?_⟩)
      all_goals try (show AS.le _ _; cbv; (repeat' (first | apply And.intro | apply BrB.mk | apply BrP.mk | intro _)))
      (all_goals (subst hA; subst h_c; subst h_fr; subst h_pr; subst h_fm; subst h_pm; subst h_fi; subst h_fE; subst h_fR); all_goals (have f_sy := SY.out); all_goals (try simp only [std, stdBin, stdCmp, stdUna, stdIn, ci, beq_iff_eq, bne_iff_ne, beq_eq_false_iff_ne, bne_eq_false_iff_eq, decide_eq_true_eq, decide_eq_false_iff_not, Bool.not_true, Bool.not_false, Bool.not_eq_true', Bool.not_eq_false', Bool.not_not, tn0, tn1, tn2, tn3, t1] at *); all_goals (try omega))
      (all_goals (obtain ⟨N, C, c1, c2, ⟨n1, n2⟩, ⟨k1, k2⟩, c4, c5, c6⟩ := chk_main (t := ⟨yD, yE, yL⟩) (by assumption); simp only at c1 c2 c4 c6; have K2 := Lib.hid c2; have K4 := Lib.hid c4))
      all_goals (have rp := rowlP_ok (e := yE) (n := n) c6 c2 c4 (by rw [List.length_replicate] at gx; omega) n2 k2; have rl := row19_len (t := ⟨yD, yE, yL⟩) (n := n) c2 c4 (by rw [List.length_replicate] at gx; omega); simp only [rowlF_at, HT.out, mixL_len, List.length_replicate, oneP] at *)
      all_goals (first | assumption | omega | (exact congrArg _ (Int.natCast_add n 1)) | skip)
      rw [Int.toNat_natCast]
      exact mixL_store (by omega) rfl
    case nx =>
      (repeat' (first | apply And.intro | apply BrB.mk | apply BrP.mk | intro _))
      (all_goals (subst hA; subst h_c; subst h_fr; subst h_pr; subst h_fm; subst h_pm; subst h_fi; subst h_fE; subst h_fR); all_goals (have f_sy := SY.out); all_goals (try simp only [std, stdBin, stdCmp, stdUna, stdIn, ci, beq_iff_eq, bne_iff_ne, beq_eq_false_iff_ne, bne_eq_false_iff_eq, decide_eq_true_eq, decide_eq_false_iff_not, Bool.not_true, Bool.not_false, Bool.not_eq_true', Bool.not_eq_false', Bool.not_not, tn0, tn1, tn2, tn3, t1] at *); all_goals (try omega))
      (all_goals (obtain ⟨N, C, c1, c2, ⟨n1, n2⟩, ⟨k1, k2⟩, c4, c5, c6⟩ := chk_main (t := ⟨yD, yE, yL⟩) (by assumption); simp only at c1 c2 c4 c6; have K2 := Lib.hid c2; have K4 := Lib.hid c4))
      · exact congrArg _ (Eq.symm (by assumption))
      · unfold topR
        rw [if_pos (by assumption), HT.out, List.length_replicate] at *
        rw [show n = (yD.getD 0 0).toNat by omega, mixL_all]
        rfl
  (all_goals (subst hA; subst h_c; subst h_fr; subst h_pr; subst h_fm; subst h_pm; subst h_fi; subst h_fE; subst h_fR); all_goals (have f_sy := SY.out); all_goals (try simp only [std, stdBin, stdCmp, stdUna, stdIn, ci, beq_iff_eq, bne_iff_ne, beq_eq_false_iff_ne, bne_eq_false_iff_eq, decide_eq_true_eq, decide_eq_false_iff_not, Bool.not_true, Bool.not_false, Bool.not_eq_true', Bool.not_eq_false', Bool.not_not, tn0, tn1, tn2, tn3, t1] at *); all_goals (try omega))
  · unfold topR
    rw [if_neg (by assumption)]
  (all_goals (obtain ⟨N, C, c1, c2, ⟨n1, n2⟩, ⟨k1, k2⟩, c4, c5, c6⟩ := chk_main (t := ⟨yD, yE, yL⟩) (by assumption); simp only at c1 c2 c4 c6; have K2 := Lib.hid c2; have K4 := Lib.hid c4))
  all_goals omega
/-- How many of the first n are right. -/
def rgtN (t : Tn) (q : List Int) : Nat → Int
  | 0 => 0
  | n + 1 => if topAt t n = q.getD n 0 then rgtN t q n + 1 else rgtN t q n
theorem rgt_in (t : Tn) (q : List Int) : ∀ n : Nat, 0 ≤ rgtN t q n ∧ rgtN t q n ≤ n
  | 0 => by simp [rgtN]
  | n + 1 => by
    have := rgt_in t q n
    unfold rgtN
    split <;> omega
def rgtR (t : Tn) (q : List Int) : Int := if chqI t q = 0 then rgtN t q q.length else 0
/-- A number, and an error. -/
def intE (ts : List Ty) (k : IntKind) (err f : List AV → Int) : Ctr := ⟨ts, fun _ => none, fun xa => .ret (.tup [.v (.int k (f xa)), .v (.int .i64 (err xa))]) [], false⟩
theorem chq_chk {t : Tn} {q : List Int} (h : chqI t q = 0) : chkI t = 0 := by
  unfold chqI at h
  split at h
  · assumption
  · exact h
theorem right_ok : CtrOk Try.prog 16 (intE [tnTy .i8, .sl (.int .i64)] .i64 (tq chqI 0) (tq rgtR 0)) := by
  obtain ⟨G, hG⟩ : ∃ G : List (FuncId × Ctr), G = [(25, intC [tnTy .i8, .sl (.int .i64)] .i64 (tq chqI 0)), (14, rowE [tnTy .i8] 3 .i64 (t1 chkI 0) (t1 topR []))] := ⟨_, rfl⟩
  refine fn_ok (ck := true) Try.func16 rfl tt_ok (G := G) (by rw [hG]; exact ⟨⟨chq_ok, by unfold FnOk; kernel_rfl⟩, ⟨top_ok, by unfold FnOk; kernel_rfl⟩, trivial⟩) mixed (by kernel_rfl) ?_
  intro xa xs h hx hp
  obtain ⟨a0, as0, x0, xs0, rfl, rfl, h0, H1⟩ := svArgs_cons h
  obtain ⟨a1, as1, x1, xs1, rfl, rfl, h1, H2⟩ := svArgs_cons H1
  obtain ⟨rfl, rfl⟩ := svArgs_nil H2
  obtain ⟨⟨yD, yE, yL⟩, rfl, rfl⟩ := argSV_tn h0
  obtain ⟨q, rfl, rfl⟩ := argSV_ints h1
  have sy : (Fits .i64 yD ∧ ci yD.length ≤ 9223372036854775807) ∧ (-9223372036854775808 ≤ yE ∧ yE ≤ 9223372036854775807) ∧ Fits .i8 yL ∧ ci yL.length ≤ 9223372036854775807 := svf_tn (hx (Tn.sv .i8 ⟨yD, yE, yL⟩) (by simp))
  have sq : Fits .i64 q ∧ ci q.length ≤ 9223372036854775807 := svf_ints (hx (.iimm .i64 q) (by simp))
  have SY := Lib.hid sy
  clear sy
  have SQ := Lib.hid sq
  clear sq
  clear hx hp h h0 H1 h1 H2
  subst hG
  generalize hA : std = A
  generalize h_c : ci = c
  generalize h_fh : t1 chkI 0 = fh
  generalize h_ft : t1 topR [] = ft
  generalize h_fE : tq chqI 0 = fE
  generalize h_fR : tq rgtR 0 = fR
  obtain ⟨V, hV⟩ : ∃ T : Nat → Int, ∀ n, T n = rgtN ⟨yD, yE, yL⟩ q n := ⟨_, fun _ => rfl⟩
  have HV := Lib.hid hV
  clear hV
  cbv
  (repeat' (first | apply And.intro | apply BrB.mk | apply BrP.mk | intro _))
  all_goals try (refine loop_at Nat 25 (fun x => [(9, .v (.int .i64 (V x))), (10, .any), (11, .any), (25, .v (.int .i64 (c x)))]) (fun x o => o) (fun x => x ≤ q.length) (fun x => q.length - x) 0 (Nat.zero_le _) ?hle ?round)
  case hle =>
    cbv
    (repeat' (first | apply And.intro | apply BrB.mk | apply BrP.mk | intro _))
    (all_goals (subst hA; subst h_c; subst h_fh; subst h_ft; subst h_fE; subst h_fR); all_goals (have f_sy := SY.out; have f_sq := SQ.out); all_goals (try simp only [std, stdBin, stdCmp, stdUna, stdIn, ci, beq_iff_eq, bne_iff_ne, beq_eq_false_iff_ne, bne_eq_false_iff_eq, decide_eq_true_eq, decide_eq_false_iff_not, Bool.not_true, Bool.not_false, Bool.not_eq_true', Bool.not_eq_false', Bool.not_not, tn0, tn1, tn2, tn3, t1] at *); all_goals (try omega))
    all_goals first | exact True.intro | rfl | skip
    rw [HV.out, rgtN]
  case round =>
    intro n hn
    cbv
    refine BrB.mk (fun gx => ?yx) (fun gx => ?nx)
    case yx =>
      (repeat' (first | apply And.intro | apply BrB.mk | apply BrP.mk | intro _))
      all_goals try (refine ⟨n + 1, ?_, ?_, ?_⟩)
      all_goals try (show AS.le _ _; cbv; (repeat' (first | apply And.intro | apply BrB.mk | apply BrP.mk | intro _)))
      (all_goals (subst hA; subst h_c; subst h_fh; subst h_ft; subst h_fE; subst h_fR); all_goals (have f_sy := SY.out; have f_sq := SQ.out); all_goals (try simp only [std, stdBin, stdCmp, stdUna, stdIn, ci, beq_iff_eq, bne_iff_ne, beq_eq_false_iff_ne, bne_eq_false_iff_eq, decide_eq_true_eq, decide_eq_false_iff_not, Bool.not_true, Bool.not_false, Bool.not_eq_true', Bool.not_eq_false', Bool.not_not, tn0, tn1, tn2, tn3, t1, tq] at *); all_goals (try omega))
      all_goals (have h0 := chq_chk (t := ⟨yD, yE, yL⟩) (q := q) (by assumption))
      (all_goals (obtain ⟨N, C, c1, c2, ⟨n1, n2⟩, ⟨k1, k2⟩, c3, c4, c5, c6, ⟨x1, x2⟩, c7, c8⟩ := chq_main (t := ⟨yD, yE, yL⟩) (q := q) (by assumption); simp only at c1 c2 c4 c6 x1 x2; have K2 := Lib.hid c2; have K4 := Lib.hid c4))
      all_goals (have ht := topR_at h0 (n := n) (by show (n : Int) < yD.getD 0 0; omega); have hl := topR_len h0; have hv := rgt_in ⟨yD, yE, yL⟩ q n; have hs : rgtN ⟨yD, yE, yL⟩ q n.succ = (if topAt ⟨yD, yE, yL⟩ n = q.getD n 0 then rgtN ⟨yD, yE, yL⟩ q n + 1 else rgtN ⟨yD, yE, yL⟩ q n) := rfl; simp only [HV.out, hs, Int.toNat_natCast, ht, hl, c1] at *)
      all_goals (first | omega | (exact congrArg _ (Int.natCast_add n 1)) | (refine congrArg _ ?_; first | (rw [if_pos (by assumption)]) | (rw [if_neg (by assumption)])))
    case nx =>
      (repeat' (first | apply And.intro | apply BrB.mk | apply BrP.mk | intro _))
      (all_goals (subst hA; subst h_c; subst h_fh; subst h_ft; subst h_fE; subst h_fR); all_goals (have f_sy := SY.out; have f_sq := SQ.out); all_goals (try simp only [std, stdBin, stdCmp, stdUna, stdIn, ci, beq_iff_eq, bne_iff_ne, beq_eq_false_iff_ne, bne_eq_false_iff_eq, decide_eq_true_eq, decide_eq_false_iff_not, Bool.not_true, Bool.not_false, Bool.not_eq_true', Bool.not_eq_false', Bool.not_not, tn0, tn1, tn2, tn3, t1, tq] at *); all_goals (try omega))
      · refine congrArg _ ?_
        unfold rgtR
        rw [if_pos (by assumption), HV.out, show n = q.length by omega]
      · exact congrArg _ ((chq_chk (by assumption)).trans (Eq.symm (by assumption)))
  (all_goals (subst hA; subst h_c; subst h_fh; subst h_ft; subst h_fE; subst h_fR); all_goals (have f_sy := SY.out; have f_sq := SQ.out); all_goals (try simp only [std, stdBin, stdCmp, stdUna, stdIn, ci, beq_iff_eq, bne_iff_ne, beq_eq_false_iff_ne, bne_eq_false_iff_eq, decide_eq_true_eq, decide_eq_false_iff_not, Bool.not_true, Bool.not_false, Bool.not_eq_true', Bool.not_eq_false', Bool.not_not, tn0, tn1, tn2, tn3, t1, tq] at *); all_goals (try omega))
  refine congrArg _ ?_
  unfold rgtR
  rw [if_neg (by assumption)]
end Go.Proofs.Ytdbfgcpohloabaa
