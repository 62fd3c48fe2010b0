/- Layer 10: what is asked of tensors, of lengths. -/
import Derived.Test.YtcbcfajihbbdcaaDenB
import Derived.Test.YtcbcfajihbbdcaaCtr
namespace Go.Proofs.Ytcbcfajihbbdcaa
open Go.RowKit
set_option maxRecDepth 100000
set_option linter.unusedSimpArgs false
set_option maxHeartbeats 2000000
def fitsF (xa : List AV) : Bool := match xa with
  | [.z n] => decide (0 ≤ n ∧ n ≤ 959)
  | _ => false
theorem fits_vc (A : Sy) (hA : A = std) (n : Int) (hn : (Lit.int .i64 n).wf = true) (f : List AV → Bool) (hf : f [.z n] = decide (0 ≤ n ∧ n ≤ 959)) : vcFn ⟨A, tt, [], false, false, [], true⟩ Try.f33 [.v (.int .i64 n)] (.ret (.v (.bool (f [.z n]))) []) := by
  cbv
  rw [hA, hf]
  have hb := of_i64 hn
  simp only [std, stdBin, stdCmp]
  refine ⟨fun h1 => ⟨fun h2 => ?_, fun h2 => ?_⟩, fun h1 => ?_⟩ <;> simp at h1 <;> (try simp at h2) <;> refine ⟨congrArg _ ?_, trivial⟩
  · rw [w64 (z := n * 16384) (by omega) (by omega), w64 (by omega) (by omega)]
    rw [decide_eq_decide]; omega
  · symm; rw [decide_eq_false_iff_not]; omega
  · symm; rw [decide_eq_false_iff_not]; omega
theorem fits_ok : CtrOk Try.prog 33 (boolC [.int .i64] fitsF) := by
  refine fn_ok (ck := false) Try.func33 rfl tt_ok (G := []) trivial mixed (by kernel_rfl) ?_
  intro xa xs h hx hp
  obtain ⟨a1, as1, x1, xs1, rfl, rfl, h1, h⟩ := svArgs_cons h
  obtain ⟨rfl, rfl⟩ := svArgs_nil h
  obtain ⟨n, rfl, rfl⟩ := argSV_int h1
  exact fits_vc _ rfl n (hx (.v (.int .i64 n)) (by simp)) fitsF rfl
def roomF (xa : List AV) : Int := match xa with
  | [.z n, .l D] => if fitsF [.z n] then (if mayD D then 0 else 1) else 3
  | _ => 0
theorem room_vc (A : Sy) (hA : A = std) (n : Int) (D : List Int) (f g : List AV → Bool) (r : Int) (hr : r = if f [.z n] then (if g [.l D] then 0 else 1) else 3) : vcFn ⟨A, tt, [(33, boolC [.int .i64] f), (42, boolC [.sl (.int .i64)] g)], false, false, [], true⟩ Try.f49 [.v (.int .i64 n), .iimm .i64 D] (.ret (.v (.int .i64 r)) []) := by
  cbv
  rw [hA, hr]
  simp only [std]
  refine ⟨fun h1 => ?_, fun h1 => ⟨fun h2 => ?_, fun h2 => ?_⟩⟩ <;> simp at h1 <;> (try simp at h2) <;> simp [*]
theorem room_ok : CtrOk Try.prog 49 (intC [.int .i64, .sl (.int .i64)] .i64 roomF) := by
  refine fn_ok (ck := false) Try.func49 rfl tt_ok (G := [(33, boolC [.int .i64] fitsF), (42, boolC [.sl (.int .i64)] shMayF)]) ⟨⟨fits_ok, by unfold FnOk; kernel_rfl⟩, ⟨shMay_ok, by unfold FnOk; kernel_rfl⟩, trivial⟩ mixed (by kernel_rfl) ?_
  intro xa xs h hx hp
  obtain ⟨a1, as1, x1, xs1, rfl, rfl, h1, h⟩ := svArgs_cons h
  obtain ⟨a2, as2, x2, xs2, rfl, rfl, h2, h⟩ := svArgs_cons h
  obtain ⟨rfl, rfl⟩ := svArgs_nil h
  obtain ⟨n, rfl, rfl⟩ := argSV_int h1
  obtain ⟨D, rfl, rfl⟩ := argSV_ints h2
  exact room_vc _ rfl n D fitsF shMayF _ rfl
theorem may_vc (A : Sy) (hA : A = std) (d : Dat) (f : List AV → Bool) (r : Bool) (n : Nat) (hn : d.ls.length = n) (hl : n ≤ 9223372036854775807) (hr : r = allTo (fun i => f (tnOf (d.at i)).arg) n) (c : Nat → Int) (hc : ∀ x : Nat, c x = ci x) : vcFn ⟨A, tt, [(18, boolC [tnTy .i8] f)], false, false, [], true⟩ Try.f48 [.imm (tnTy .i8) d] (.ret (.v (.bool r)) []) := by
  cbv
  refine loop_at Nat 7 (fun x => [(4, .any), (7, .v (.int .i64 (c x)))]) (fun _ o => o) (fun x => x ≤ n ∧ allTo (fun i => f (tnOf (d.at i)).arg) x = true) (fun x => n - x) 0 ⟨Nat.zero_le _, rfl⟩ ?_ ?_
  · cbv
    rw [hc]
    repeat' apply And.intro
    all_goals first | exact True.intro | rfl
  · intro x hx
    cbv
    refine ⟨fun h1 => ⟨?_, fun h2 => ?_, fun h2 => ⟨x + 1, ?_, ?_, ?_⟩⟩, fun h1 => ?_⟩
    · rw [hA] at h1 ⊢
      simp only [std, stdBin, stdCmp, stdUna, stdIn, ci, beq_iff_eq, bne_iff_ne, beq_eq_false_iff_ne, bne_eq_false_iff_eq, decide_eq_true_eq, decide_eq_false_iff_not, Bool.not_true, Bool.not_false, Bool.not_eq_true', Bool.not_eq_false', Bool.not_not, tn0, tn1, tn2, tn3, hn, hc] at h1 ⊢
      omega
    · rw [hA] at h1 h2
      simp only [std, stdBin, stdCmp, stdUna, stdIn, ci, beq_iff_eq, bne_iff_ne, beq_eq_false_iff_ne, bne_eq_false_iff_eq, decide_eq_true_eq, decide_eq_false_iff_not, Bool.not_true, Bool.not_false, Bool.not_eq_true', Bool.not_eq_false', Bool.not_not, tn0, tn1, tn2, tn3, hn, hc, Int.toNat_natCast] at h1 h2
      refine ⟨congrArg _ ?_, trivial⟩
      rw [hr]
      exact (allTo_false (x := x) (by omega) h2).symm
    · rw [hA] at h1 h2
      simp only [std, stdBin, stdCmp, stdUna, stdIn, ci, beq_iff_eq, bne_iff_ne, beq_eq_false_iff_ne, bne_eq_false_iff_eq, decide_eq_true_eq, decide_eq_false_iff_not, Bool.not_true, Bool.not_false, Bool.not_eq_true', Bool.not_eq_false', Bool.not_not, tn0, tn1, tn2, tn3, hn, hc, Int.toNat_natCast] at h1 h2
      refine ⟨by omega, ?_⟩
      simp only [allTo, hx.2, Bool.true_and]
      exact h2
    · cbv
      rw [hA] at h1 ⊢
      simp only [std, stdBin, stdCmp, stdUna, stdIn, ci, beq_iff_eq, bne_iff_ne, beq_eq_false_iff_ne, bne_eq_false_iff_eq, decide_eq_true_eq, decide_eq_false_iff_not, Bool.not_true, Bool.not_false, Bool.not_eq_true', Bool.not_eq_false', Bool.not_not, tn0, tn1, tn2, tn3, hn, hc] at h1 ⊢
      repeat' apply And.intro
      all_goals first | exact True.intro | (refine congrArg _ ?_; rw [w64 (by omega) (by omega)]; omega)
    · rw [hA] at h1
      simp only [std, stdBin, stdCmp, stdUna, stdIn, ci, beq_iff_eq, bne_iff_ne, beq_eq_false_iff_ne, bne_eq_false_iff_eq, decide_eq_true_eq, decide_eq_false_iff_not, Bool.not_true, Bool.not_false, Bool.not_eq_true', Bool.not_eq_false', Bool.not_not, tn0, tn1, tn2, tn3, hn, hc] at h1
      show n - (x + 1) < n - x
      omega
    · rw [hA] at h1
      simp only [std, stdBin, stdCmp, stdUna, stdIn, ci, beq_iff_eq, bne_iff_ne, beq_eq_false_iff_ne, bne_eq_false_iff_eq, decide_eq_true_eq, decide_eq_false_iff_not, Bool.not_true, Bool.not_false, Bool.not_eq_true', Bool.not_eq_false', Bool.not_not, tn0, tn1, tn2, tn3, hn, hc] at h1
      refine ⟨congrArg _ ?_, trivial⟩
      rw [hr, show n = x by omega]
      exact hx.2.symm
theorem may_ok : CtrOk Try.prog 48 (boolC [.sl (tnTy .i8)] mayAllF) := by
  refine fn_ok (ck := false) Try.func48 rfl tt_ok (G := [(18, boolC [tnTy .i8] tnMayF)]) ⟨⟨tnMay_ok, by unfold FnOk; kernel_rfl⟩, trivial⟩ mixed (by kernel_rfl) ?_
  intro xa xs h hx hp
  obtain ⟨a1, as1, x1, xs1, rfl, rfl, h1, h⟩ := svArgs_cons h
  obtain ⟨rfl, rfl⟩ := svArgs_nil h
  obtain ⟨d, rfl, rfl⟩ := argSV_rows h1
  have hw : Wt _ d := hx (.imm (tnTy .i8) d) (by simp)
  have hl : d.ls.length ≤ 9223372036854775807 := by
    simp only [Wt] at hw
    obtain ⟨ds, rfl, h2, _⟩ := hw
    unfold maxLen at h2
    simp only [Dat.ls]
    omega
  exact may_vc _ rfl d tnMayF _ _ rfl hl rfl ci (fun _ => rfl)
def two (D : List Int) : Prop := D.length = 2
def lnC (q : List Int → Prop) (r : Tn → Ln) : Ctr where
  tys := [tnTy .i8]
  pre := fun xa => match xa with
    | [.st [.l D, .z _, .l _]] => some (q D)
    | _ => some False
  res := fun xa => match xa with
    | [.st [.l D, .z e, .l L]] => .ret (.agg [.iimm .i8 L, .v (.int .i64 (r ⟨D, e, L⟩).rows), .v (.int .i64 (r ⟨D, e, L⟩).next), .v (.int .i64 (r ⟨D, e, L⟩).step)]) []
    | _ => .ret .any []
  al := true
def rowsR (t : Tn) : Ln := ⟨t.data, t.dims.getD 0 0, t.dims.getD 1 0, 1⟩
def colsR (t : Tn) : Ln := ⟨t.data, t.dims.getD 1 0, 1, t.dims.getD 1 0⟩
theorem rowsOf_vc (A : Sy) (hA : A = std) (D L : List Int) (e : Int) (h : D.length = 2) (r : Tn → Ln) (hr : r = rowsR) : vcFn ⟨A, tt, [], true, true, [], false⟩ Try.f51 [.agg [.iimm .i64 D, .v (.int .i64 e), .iimm .i8 L]] (.ret (.agg [.iimm .i8 L, .v (.int .i64 (r ⟨D, e, L⟩).rows), .v (.int .i64 (r ⟨D, e, L⟩).next), .v (.int .i64 (r ⟨D, e, L⟩).step)]) []) := by
  cbv
  rw [hA, hr]
  simp only [std, stdBin, stdCmp, stdUna, stdIn, ci, beq_iff_eq, bne_iff_ne, beq_eq_false_iff_ne, bne_eq_false_iff_eq, decide_eq_true_eq, decide_eq_false_iff_not, Bool.not_true, Bool.not_false, Bool.not_eq_true', Bool.not_eq_false', Bool.not_not, tn0, tn1, tn2, tn3, rowsR, h]
  simp
theorem rowsOf_ok : CtrOk Try.prog 51 (lnC two rowsR) := by
  refine fn_ok (ck := true) Try.func51 rfl tt_ok (G := []) trivial mixed (by kernel_rfl) ?_
  intro xa xs h hx hp
  obtain ⟨a1, as1, x1, xs1, rfl, rfl, h1, h⟩ := svArgs_cons h
  obtain ⟨rfl, rfl⟩ := svArgs_nil h
  obtain ⟨t, rfl, rfl⟩ := argSV_tn h1
  exact rowsOf_vc _ rfl t.dims t.data t.exp (hp _ rfl) rowsR rfl
theorem colsOf_vc (A : Sy) (hA : A = std) (D L : List Int) (e : Int) (h : D.length = 2) (r : Tn → Ln) (hr : r = colsR) : vcFn ⟨A, tt, [], true, true, [], false⟩ Try.f56 [.agg [.iimm .i64 D, .v (.int .i64 e), .iimm .i8 L]] (.ret (.agg [.iimm .i8 L, .v (.int .i64 (r ⟨D, e, L⟩).rows), .v (.int .i64 (r ⟨D, e, L⟩).next), .v (.int .i64 (r ⟨D, e, L⟩).step)]) []) := by
  cbv
  rw [hA, hr]
  simp only [std, stdBin, stdCmp, stdUna, stdIn, ci, beq_iff_eq, bne_iff_ne, beq_eq_false_iff_ne, bne_eq_false_iff_eq, decide_eq_true_eq, decide_eq_false_iff_not, Bool.not_true, Bool.not_false, Bool.not_eq_true', Bool.not_eq_false', Bool.not_not, tn0, tn1, tn2, tn3, colsR, h]
  simp
theorem colsOf_ok : CtrOk Try.prog 56 (lnC two colsR) := by
  refine fn_ok (ck := true) Try.func56 rfl tt_ok (G := []) trivial mixed (by kernel_rfl) ?_
  intro xa xs h hx hp
  obtain ⟨a1, as1, x1, xs1, rfl, rfl, h1, h⟩ := svArgs_cons h
  obtain ⟨rfl, rfl⟩ := svArgs_nil h
  obtain ⟨t, rfl, rfl⟩ := argSV_tn h1
  exact colsOf_vc _ rfl t.dims t.data t.exp (hp _ rfl) colsR rfl
end Go.Proofs.Ytcbcfajihbbdcaa
