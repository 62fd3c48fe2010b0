/- Layer 10: results without a branch; the bias's counterpart; matrices that are made. -/
import Derived.Test.YtcbcfajihbbdcaaDenG
namespace Go.Proofs.Ytcbcfajihbbdcaa
open Go.RowKit Go.ChangeShapes Go.WideShapes Go.Deep
set_option maxRecDepth 100000
set_option linter.unusedSimpArgs false
set_option linter.unusedVariables false
set_option maxHeartbeats 8000000
theorem room_eq' (n : Int) (D : List Int) : roomF [.z n, .l D] = if fitsF [.z n] = true then (if mayD D = true then 0 else 1) else 3 := rfl
/-- A matrix out of a row of numbers. -/
def matL (l : List Int) (N : Nat) : List Int := (List.range N).map fun i => if i < l.length ∧ l.getD i 0 ≠ -128 then l.getD i 0 else 0
theorem matL_len (l : List Int) (N : Nat) : (matL l N).length = N := by simp [matL]
theorem matL_get (l : List Int) {N i : Nat} (h : i < N) : (matL l N).getD i 0 = if i < l.length ∧ l.getD i 0 ≠ -128 then l.getD i 0 else 0 := by
  unfold matL
  rw [List.getD_eq_getElem?_getD, List.getElem?_map, List.getElem?_range h]
  rfl
def matP (xa : List AV) : Prop := match xa with
  | [.l _, .z n, .z k] => 0 ≤ n ∧ 0 ≤ k ∧ n * k ≤ 8192
  | _ => False
def matR (xa : List AV) : Tn := match xa with
  | [.l l, .z n, .z k] => ⟨[n, k], 0, matL l (n * k).toNat⟩
  | _ => ⟨[], 0, []⟩
/-- A tensor comes, where it goes well. -/
def tnP (ts : List Ty) (k : IntKind) (tI tK : TypeId) (p : List AV → Prop) (r : List AV → Tn) : Ctr :=
  ⟨ts, fun xa => some (p xa), fun xa => .ret (.agg [.hdl 0, .v (.int .i64 (r xa).exp), .hdl 1]) [(0, .irow tI .i64 (r xa).dims), (2, .irow tK k (r xa).data)], false⟩
theorem matrix_ok : CtrOk Try.prog 35 (tnP [.sl (.int .i8), .int .i64, .int .i64] .i8 3 38 matP matR) := by
  obtain ⟨G, hG⟩ : ∃ G : List (FuncId × Ctr), G = [] := ⟨_, rfl⟩
  refine fn_ok (ck := true) Try.func35 rfl tt_ok (G := G) (by rw [hG]; exact trivial) mixed (by kernel_rfl) ?_
  intro xa xs h hx hp
  obtain ⟨a0, as0, x0, xs0, rfl, rfl, h0, H1⟩ := svArgs_cons h
  obtain ⟨a1, as1, x1, xs1, rfl, rfl, h1, H2⟩ := svArgs_cons H1
  obtain ⟨a2, as2, x2, xs2, rfl, rfl, h2, H3⟩ := svArgs_cons H2
  obtain ⟨rfl, rfl⟩ := svArgs_nil H3
  obtain ⟨l, rfl, rfl⟩ := argSV_ints h0
  obtain ⟨n, rfl, rfl⟩ := argSV_int h1
  obtain ⟨k, rfl, rfl⟩ := argSV_int h2
  have sl : Fits .i8 l ∧ ci l.length ≤ 9223372036854775807 := svf_ints (hx (.iimm .i8 l) (by simp))
  have sn := of_i64 (hx (.v (.int .i64 n)) (by simp))
  have sk := of_i64 (hx (.v (.int .i64 k)) (by simp))
  have SL := Lib.hid sl
  clear sl
  have SN := Lib.hid sn
  clear sn
  have SK := Lib.hid sk
  clear sk
  have HP := Lib.hid (hp _ rfl)
  clear hx hp h h0 H1 h1 H2 h2 H3
  generalize hA : std = A
  subst hG
  generalize h_c : ci = c
  generalize h_fR : matR = fR
  obtain ⟨S, hS⟩ : ∃ S : Nat → List Int, ∀ x, S x = mixL (fun _ => 0) (fun i => if i < l.length ∧ l.getD i 0 ≠ -128 then l.getD i 0 else 0) (n * k).toNat x := ⟨_, fun _ => rfl⟩
  cbv
  (repeat' (first | apply And.intro | apply BrB.mk | apply BrP.mk | intro _))
  all_goals try (refine loop_at Nat 20 (fun x => [(8, .any), (20, .v (.int .i64 (c x)))]) (fun x o => o.set 2 (.irow 38 .i8 (S x))) (fun x => ci x ≤ n * k) (fun x => (n * k - ci x).toNat) 0 ?h0 ?hle ?round)
  case h0 =>
    (all_goals (subst hA; subst h_c; subst h_fR); all_goals (have f_sl := SL.out; have f_sn := SN.out; have f_sk := SK.out; have f_hp := HP.out); all_goals (try simp only [std, stdBin, stdCmp, stdUna, stdIn, ci, beq_iff_eq, bne_iff_ne, beq_eq_false_iff_ne, bne_eq_false_iff_eq, decide_eq_true_eq, decide_eq_false_iff_not, Bool.not_true, Bool.not_false, Bool.not_eq_true', Bool.not_eq_false', Bool.not_not, tn0, tn1, tn2, tn3, matP] at *); all_goals (try omega))
    have := Int.mul_nonneg f_hp.1 f_hp.2.1
    omega
  case hle =>
    cbv
    (repeat' (first | apply And.intro | apply BrB.mk | apply BrP.mk | intro _))
    (all_goals (subst hA; subst h_c; subst h_fR); all_goals (have f_sl := SL.out; have f_sn := SN.out; have f_sk := SK.out; have f_hp := HP.out); all_goals (try simp only [std, stdBin, stdCmp, stdUna, stdIn, ci, beq_iff_eq, bne_iff_ne, beq_eq_false_iff_ne, bne_eq_false_iff_eq, decide_eq_true_eq, decide_eq_false_iff_not, Bool.not_true, Bool.not_false, Bool.not_eq_true', Bool.not_eq_false', Bool.not_not, tn0, tn1, tn2, tn3, matP] at *); all_goals (try omega))
    all_goals first | exact True.intro | rfl | skip
    rw [hS, mixL_nil]
  case round =>
    intro x hx
    cbv
    refine BrB.mk (fun gx => ?yx) (fun gx => ?nx)
    case yx =>
      refine BrB.mk (fun g1 => ?y1) (fun g1 => ?n1)
      case y1 =>
        refine ⟨?a1, BrB.mk (fun g2 => ?y2) (fun g2 => ?n2)⟩
        case y2 =>
          refine ⟨?a2, ?a3, ?a4, x + 1, ?a5, ?a6, ?a7⟩
          case a6 =>
            cbv
            (repeat' (first | apply And.intro | apply BrB.mk | apply BrP.mk | intro _))
            (all_goals (subst hA; subst h_c; subst h_fR); all_goals (have f_sl := SL.out; have f_sn := SN.out; have f_sk := SK.out; have f_hp := HP.out); all_goals (try simp only [std, stdBin, stdCmp, stdUna, stdIn, ci, beq_iff_eq, bne_iff_ne, beq_eq_false_iff_ne, bne_eq_false_iff_eq, decide_eq_true_eq, decide_eq_false_iff_not, Bool.not_true, Bool.not_false, Bool.not_eq_true', Bool.not_eq_false', Bool.not_not, tn0, tn1, tn2, tn3, matP, List.length_replicate] at *); all_goals (try omega))
            all_goals first | exact True.intro | rfl | skip
            rw [hS, hS, Int.toNat_natCast]
            exact mixL_store (by omega) (by rw [if_pos ⟨by omega, by simpa using g2⟩])
          (all_goals (subst hA; subst h_c; subst h_fR); all_goals (have f_sl := SL.out; have f_sn := SN.out; have f_sk := SK.out; have f_hp := HP.out); all_goals (try simp only [std, stdBin, stdCmp, stdUna, stdIn, ci, beq_iff_eq, bne_iff_ne, beq_eq_false_iff_ne, bne_eq_false_iff_eq, decide_eq_true_eq, decide_eq_false_iff_not, Bool.not_true, Bool.not_false, Bool.not_eq_true', Bool.not_eq_false', Bool.not_not, tn0, tn1, tn2, tn3, matP, List.length_replicate, hS, mixL_len] at *); all_goals (try omega))
        case n2 =>
          refine ⟨?b4, x + 1, ?b5, ?b6, ?b7⟩
          case b6 =>
            cbv
            (repeat' (first | apply And.intro | apply BrB.mk | apply BrP.mk | intro _))
            (all_goals (subst hA; subst h_c; subst h_fR); all_goals (have f_sl := SL.out; have f_sn := SN.out; have f_sk := SK.out; have f_hp := HP.out); all_goals (try simp only [std, stdBin, stdCmp, stdUna, stdIn, ci, beq_iff_eq, bne_iff_ne, beq_eq_false_iff_ne, bne_eq_false_iff_eq, decide_eq_true_eq, decide_eq_false_iff_not, Bool.not_true, Bool.not_false, Bool.not_eq_true', Bool.not_eq_false', Bool.not_not, tn0, tn1, tn2, tn3, matP, List.length_replicate] at *); all_goals (try omega))
            all_goals first | exact True.intro | rfl | skip
            rw [hS, hS]
            exact mixL_skip (by rw [if_neg]; rintro ⟨_, h⟩; exact h (by simpa using g2))
          (all_goals (subst hA; subst h_c; subst h_fR); all_goals (have f_sl := SL.out; have f_sn := SN.out; have f_sk := SK.out; have f_hp := HP.out); all_goals (try simp only [std, stdBin, stdCmp, stdUna, stdIn, ci, beq_iff_eq, bne_iff_ne, beq_eq_false_iff_ne, bne_eq_false_iff_eq, decide_eq_true_eq, decide_eq_false_iff_not, Bool.not_true, Bool.not_false, Bool.not_eq_true', Bool.not_eq_false', Bool.not_not, tn0, tn1, tn2, tn3, matP, List.length_replicate] at *); all_goals (try omega))
        (all_goals (subst hA; subst h_c; subst h_fR); all_goals (have f_sl := SL.out; have f_sn := SN.out; have f_sk := SK.out; have f_hp := HP.out); all_goals (try simp only [std, stdBin, stdCmp, stdUna, stdIn, ci, beq_iff_eq, bne_iff_ne, beq_eq_false_iff_ne, bne_eq_false_iff_eq, decide_eq_true_eq, decide_eq_false_iff_not, Bool.not_true, Bool.not_false, Bool.not_eq_true', Bool.not_eq_false', Bool.not_not, tn0, tn1, tn2, tn3, matP] at *); all_goals (try omega))
      case n1 =>
        refine ⟨?c4, x + 1, ?c5, ?c6, ?c7⟩
        case c6 =>
          cbv
          (repeat' (first | apply And.intro | apply BrB.mk | apply BrP.mk | intro _))
          (all_goals (subst hA; subst h_c; subst h_fR); all_goals (have f_sl := SL.out; have f_sn := SN.out; have f_sk := SK.out; have f_hp := HP.out); all_goals (try simp only [std, stdBin, stdCmp, stdUna, stdIn, ci, beq_iff_eq, bne_iff_ne, beq_eq_false_iff_ne, bne_eq_false_iff_eq, decide_eq_true_eq, decide_eq_false_iff_not, Bool.not_true, Bool.not_false, Bool.not_eq_true', Bool.not_eq_false', Bool.not_not, tn0, tn1, tn2, tn3, matP, List.length_replicate] at *); all_goals (try omega))
          all_goals first | exact True.intro | rfl | skip
          rw [hS, hS]
          exact mixL_skip (by rw [if_neg]; rintro ⟨h, _⟩; omega)
        (all_goals (subst hA; subst h_c; subst h_fR); all_goals (have f_sl := SL.out; have f_sn := SN.out; have f_sk := SK.out; have f_hp := HP.out); all_goals (try simp only [std, stdBin, stdCmp, stdUna, stdIn, ci, beq_iff_eq, bne_iff_ne, beq_eq_false_iff_ne, bne_eq_false_iff_eq, decide_eq_true_eq, decide_eq_false_iff_not, Bool.not_true, Bool.not_false, Bool.not_eq_true', Bool.not_eq_false', Bool.not_not, tn0, tn1, tn2, tn3, matP, List.length_replicate] at *); all_goals (try omega))
    case nx =>
      (repeat' (first | apply And.intro | apply BrB.mk | apply BrP.mk | intro _))
      (all_goals (subst hA; subst h_c; subst h_fR); all_goals (have f_sl := SL.out; have f_sn := SN.out; have f_sk := SK.out; have f_hp := HP.out); all_goals (try simp only [std, stdBin, stdCmp, stdUna, stdIn, ci, beq_iff_eq, bne_iff_ne, beq_eq_false_iff_ne, bne_eq_false_iff_eq, decide_eq_true_eq, decide_eq_false_iff_not, Bool.not_true, Bool.not_false, Bool.not_eq_true', Bool.not_eq_false', Bool.not_not, tn0, tn1, tn2, tn3, matP, List.length_replicate] at *); all_goals (try omega))
      · rfl
      · rfl
      · rw [hS, show x = (n * k).toNat by omega, mixL_all]
        rfl
  (all_goals (subst hA; subst h_c; subst h_fR); all_goals (have f_sl := SL.out; have f_sn := SN.out; have f_sk := SK.out; have f_hp := HP.out); all_goals (try simp only [std, stdBin, stdCmp, stdUna, stdIn, ci, beq_iff_eq, bne_iff_ne, beq_eq_false_iff_ne, bne_eq_false_iff_eq, decide_eq_true_eq, decide_eq_false_iff_not, Bool.not_true, Bool.not_false, Bool.not_eq_true', Bool.not_eq_false', Bool.not_not, tn0, tn1, tn2, tn3, matP] at *); all_goals (try omega))
  all_goals (have := Int.mul_nonneg f_hp.1 f_hp.2.1; omega)
def vecP (xa : List AV) : Prop := match xa with
  | [.l _, .z n] => 0 ≤ n ∧ n ≤ 8192
  | _ => False
def vecR (xa : List AV) : Tn := match xa with
  | [.l l, .z n] => ⟨[n], 0, matL l n.toNat⟩
  | _ => ⟨[], 0, []⟩
theorem vector_ok : CtrOk Try.prog 36 (tnP [.sl (.int .i8), .int .i64] .i8 3 38 vecP vecR) := by
  obtain ⟨G, hG⟩ : ∃ G : List (FuncId × Ctr), G = [(35, tnP [.sl (.int .i8), .int .i64, .int .i64] .i8 3 38 matP matR)] := ⟨_, rfl⟩
  refine fn_ok (ck := true) Try.func36 rfl tt_ok (G := G) (by rw [hG]; exact ⟨⟨matrix_ok, by unfold FnOk; kernel_rfl⟩, trivial⟩) mixed (by kernel_rfl) ?_
  intro xa xs h hx hp
  obtain ⟨a0, as0, x0, xs0, rfl, rfl, h0, H1⟩ := svArgs_cons h
  obtain ⟨a1, as1, x1, xs1, rfl, rfl, h1, H2⟩ := svArgs_cons H1
  obtain ⟨rfl, rfl⟩ := svArgs_nil H2
  obtain ⟨l, rfl, rfl⟩ := argSV_ints h0
  obtain ⟨n, rfl, rfl⟩ := argSV_int h1
  have sl : Fits .i8 l ∧ ci l.length ≤ 9223372036854775807 := svf_ints (hx (.iimm .i8 l) (by simp))
  have sn := of_i64 (hx (.v (.int .i64 n)) (by simp))
  have SL := Lib.hid sl
  clear sl
  have SN := Lib.hid sn
  clear sn
  have HP := Lib.hid (hp _ rfl)
  clear hx hp h h0 H1 h1 H2
  generalize hA : std = A
  subst hG
  generalize h_c : ci = c
  generalize h_fP : matP = fP
  generalize h_fR : matR = fR
  generalize h_fV : vecR = fV
  cbv
  (repeat' (first | apply And.intro | apply BrB.mk | apply BrP.mk | intro _))
  (all_goals (subst hA; subst h_c; subst h_fP; subst h_fR; subst h_fV); all_goals (have f_sl := SL.out; have f_sn := SN.out; have f_hp := HP.out); all_goals (try simp only [std, stdBin, stdCmp, stdUna, stdIn, ci, beq_iff_eq, bne_iff_ne, beq_eq_false_iff_ne, bne_eq_false_iff_eq, decide_eq_true_eq, decide_eq_false_iff_not, Bool.not_true, Bool.not_false, Bool.not_eq_true', Bool.not_eq_false', Bool.not_not, tn0, tn1, tn2, tn3, matP, vecP] at *); all_goals (try omega))
  · rfl
  · rfl
  · show matL l (1 * n).toNat = matL l n.toNat
    rw [Int.one_mul]
end Go.Proofs.Ytcbcfajihbbdcaa
