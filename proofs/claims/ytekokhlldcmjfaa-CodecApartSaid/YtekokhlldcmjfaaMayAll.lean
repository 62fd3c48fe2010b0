/- May all of them be: tensors, as most packages ask it. -/
import Derived.Test.YtekokhlldcmjfaaRef
namespace Go.Proofs.Ytekokhlldcmjfaa
open Go.RowKit
set_option maxRecDepth 100000
set_option linter.unusedSimpArgs false
set_option linter.unusedVariables false
set_option maxHeartbeats 4000000
/-- A tensor out of a row of them. -/
def tnOf (d : Dat) : Tn := ⟨(d.fld 0).ints, (d.fld 1).z, (d.fld 2).ints⟩
def Tn.arg (t : Tn) : List AV := [t.av]
def allTo (g : Nat → Bool) : Nat → Bool
  | 0 => true
  | n + 1 => allTo g n && g n
theorem allTo_false {g : Nat → Bool} {x n : Nat} (h : x < n) (hg : g x = false) : allTo g n = false := by
  induction n with
  | zero => omega
  | succ n ih =>
    simp only [allTo]
    by_cases e : x = n
    · subst e; rw [hg, Bool.and_false]
    · rw [ih (by omega), Bool.false_and]
def mayAll (f : List AV → Bool) (d : Dat) : Bool := allTo (fun i => f (tnOf (d.at i)).arg) d.ls.length
def mayAllF (xa : List AV) : Bool := match xa with
  | [.d d] => mayAll tnMayF d
  | _ => false
def tnD (A : Sy) (D : List Int) (e : Int) (L : List Int) : Dat := .agg [A.ofInts D, .int e, A.ofInts L]
theorem ints_of (D : List Int) : (std.ofInts D).ints = D := by
  show (D.map Dat.int).map Dat.z = D
  rw [List.map_map]
  conv => rhs; rw [← List.map_id D]
  rfl
theorem tnOf_tnD (D L : List Int) (e : Int) : tnOf (tnD std D e L) = ⟨D, e, L⟩ := by
  show Tn.mk (std.ofInts D).ints e (std.ofInts L).ints = _
  rw [ints_of, ints_of]
theorem mayAll_three (D1 L1 D2 L2 D3 L3 : List Int) (e1 e2 e3 : Int) : mayAllF [.d (.list [tnD std D1 e1 L1, tnD std D2 e2 L2, tnD std D3 e3 L3])] = (mayB ⟨D1, e1, L1⟩ && mayB ⟨D2, e2, L2⟩ && mayB ⟨D3, e3, L3⟩) := by
  show (((true && tnMayF (tnOf (tnD std D1 e1 L1)).arg) && tnMayF (tnOf (tnD std D2 e2 L2)).arg) && tnMayF (tnOf (tnD std D3 e3 L3)).arg) = _
  rw [tnOf_tnD, tnOf_tnD, tnOf_tnD]
  rfl
theorem mayAll_two (D1 L1 D2 L2 : List Int) (e1 e2 : Int) : mayAllF [.d (.list [tnD std D1 e1 L1, tnD std D2 e2 L2])] = (mayB ⟨D1, e1, L1⟩ && mayB ⟨D2, e2, L2⟩) := by
  show ((true && tnMayF (tnOf (tnD std D1 e1 L1)).arg) && tnMayF (tnOf (tnD std D2 e2 L2)).arg) = _
  rw [tnOf_tnD, tnOf_tnD]
  rfl
theorem mayAll_one (D1 L1 : List Int) (e1 : Int) : mayAllF [.d (.list [tnD std D1 e1 L1])] = mayB ⟨D1, e1, L1⟩ := by
  show (true && tnMayF (tnOf (tnD std D1 e1 L1)).arg) = _
  rw [tnOf_tnD]
  rfl
theorem mayD1 (D1 L1 : List Int) (e1 : Int) : mayAllF [.d (.list [.agg [.list (D1.map .int), .int e1, .list (L1.map .int)]])] = mayB ⟨D1, e1, L1⟩ := mayAll_one D1 L1 e1
theorem mayD2 (D1 L1 D2 L2 : List Int) (e1 e2 : Int) : mayAllF [.d (.list [.agg [.list (D1.map .int), .int e1, .list (L1.map .int)], .agg [.list (D2.map .int), .int e2, .list (L2.map .int)]])] = (mayB ⟨D1, e1, L1⟩ && mayB ⟨D2, e2, L2⟩) := mayAll_two D1 L1 D2 L2 e1 e2
theorem mayD3 (D1 L1 D2 L2 D3 L3 : List Int) (e1 e2 e3 : Int) : mayAllF [.d (.list [.agg [.list (D1.map .int), .int e1, .list (L1.map .int)], .agg [.list (D2.map .int), .int e2, .list (L2.map .int)], .agg [.list (D3.map .int), .int e3, .list (L3.map .int)]])] = (mayB ⟨D1, e1, L1⟩ && mayB ⟨D2, e2, L2⟩ && mayB ⟨D3, e3, L3⟩) := mayAll_three D1 L1 D2 L2 D3 L3 e1 e2 e3
theorem wt_len {e : Ty} {d : Dat} (h : Wt (.sl e) d) : (d.ls.length : Int) ≤ 9223372036854775807 := by
  simp only [Wt] at h
  obtain ⟨ds, rfl, h2, _⟩ := h
  unfold maxLen at h2
  simp only [Dat.ls]
  omega
theorem rtmay_ok : CtrOk Try.prog 64 (boolC [.sl (tnTy .i8)] mayAllF) := by
  obtain ⟨G, hG⟩ : ∃ G : List (FuncId × Ctr), G = [(30, boolC [tnTy .i8] tnMayF)] := ⟨_, rfl⟩
  refine fn_ok (ck := true) Try.func64 rfl tt_ok (G := G) (by rw [hG]; exact ⟨⟨rmayT_ok, by unfold FnOk; kernel_rfl⟩, trivial⟩) mixed (by kernel_rfl) ?_
  intro xa xs h hx hp
  obtain ⟨a0, as0, x0, xs0, rfl, rfl, h0, H1⟩ := svArgs_cons h
  obtain ⟨rfl, rfl⟩ := svArgs_nil H1
  obtain ⟨d, rfl, rfl⟩ := argSV_rows h0
  have sd : ci d.ls.length ≤ 9223372036854775807 := wt_len (hx _ (List.mem_of_getElem? (i := 0) rfl))
  have SD := Lib.hid sd
  clear sd
  clear hx hp h h0 H1
  generalize hA : std = A
  subst hG
  generalize h_c : ci = c
  generalize h_fm : tnMayF = fm
  generalize h_fR : mayAllF = fR
  cbv
  all_goals try (refine loop_at Nat 7 (fun x => [(4, .any), (7, .v (.int .i64 (c x)))]) (fun _ o => o) (fun x => ci x ≤ ci d.ls.length ∧ allTo (fun i => fm (tnOf (d.at i)).arg) x = true) (fun x => d.ls.length - x) 0 ?h0 ?hle ?round)
  case h0 => exact ⟨by simp [ci], rfl⟩
  case hle => (cbv; (repeat' (first | apply And.intro | apply BrB.mk | apply BrP.mk | intro _)); all_goals (subst hA; subst h_c; subst h_fm; subst h_fR); all_goals (have f_sd := SD.out); all_goals (try simp only [std, stdBin, stdCmp, stdUna, stdIn, ci, beq_iff_eq, bne_iff_ne, beq_eq_false_iff_ne, bne_eq_false_iff_eq, decide_eq_true_eq, decide_eq_false_iff_not, Bool.not_true, Bool.not_false, Bool.not_eq_true', Bool.not_eq_false', Bool.not_not, tn0, tn1, tn2, tn3] at *); (all_goals first | exact True.intro | rfl | exact congrArg (Value.int .i64) (by omega)))
  case round =>
    intro x hx
    cbv
    (repeat' (first | apply And.intro | apply BrB.mk | apply BrP.mk | intro _))
    all_goals try (refine ⟨x + 1, ?i, ?le, ?mu⟩)
    case le => (cbv; (repeat' (first | apply And.intro | apply BrB.mk | apply BrP.mk | intro _)); all_goals (subst hA; subst h_c; subst h_fm; subst h_fR); all_goals (have f_sd := SD.out); all_goals (try simp only [std, stdBin, stdCmp, stdUna, stdIn, ci, beq_iff_eq, bne_iff_ne, beq_eq_false_iff_ne, bne_eq_false_iff_eq, decide_eq_true_eq, decide_eq_false_iff_not, Bool.not_true, Bool.not_false, Bool.not_eq_true', Bool.not_eq_false', Bool.not_not, tn0, tn1, tn2, tn3] at *); (all_goals first | exact True.intro | rfl | exact congrArg (Value.int .i64) (by omega)))
    (all_goals (subst hA; subst h_c; subst h_fm; subst h_fR); all_goals (have f_sd := SD.out); all_goals (try simp only [std, stdBin, stdCmp, stdUna, stdIn, ci, beq_iff_eq, bne_iff_ne, beq_eq_false_iff_ne, bne_eq_false_iff_eq, decide_eq_true_eq, decide_eq_false_iff_not, Bool.not_true, Bool.not_false, Bool.not_eq_true', Bool.not_eq_false', Bool.not_not, tn0, tn1, tn2, tn3] at *); all_goals (try omega))
    · refine vb ?_
      have hg : tnMayF (tnOf (d.at x)).arg = false := by assumption
      exact allTo_false (x := x) (by omega) hg
    · refine ⟨by omega, ?_⟩
      simp only [allTo, hx.2, Bool.true_and]
      assumption
    · refine vb ?_
      show allTo _ _ = true
      rw [show d.ls.length = x by omega]
      exact hx.2
end Go.Proofs.Ytekokhlldcmjfaa
