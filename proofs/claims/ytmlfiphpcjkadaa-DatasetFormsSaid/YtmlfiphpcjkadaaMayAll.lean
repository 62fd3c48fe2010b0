/- May all of them be: tensors, as most packages ask it. -/
import Derived.Test.YtmlfiphpcjkadaaRef
namespace Go.Proofs.Ytmlfiphpcjkadaa
open Go.RowKit
set_option maxRecDepth 100000
set_option linter.unusedSimpArgs false
set_option linter.unusedVariables false
set_option maxHeartbeats 4000000
/-- A tensor out of a row of them. -/
def tnOf (d : Dat) : Tn := ⟨(d.fld 0).ints, (d.fld 1).z, (d.fld 2).ints⟩
def Tn.arg (t : Tn) : List AV := [t.av]
def allTo (g : Nat → Bool) : Nat → Bool
  | 0 => true
  | n + 1 => allTo g n && g n
theorem allTo_false {g : Nat → Bool} {x n : Nat} (h : x < n) (hg : g x = false) : allTo g n = false := by
  induction n with
  | zero => omega
  | succ n ih =>
    simp only [allTo]
    by_cases e : x = n
    · subst e; rw [hg, Bool.and_false]
    · rw [ih (by omega), Bool.false_and]
def mayAll (f : List AV → Bool) (d : Dat) : Bool := allTo (fun i => f (tnOf (d.at i)).arg) d.ls.length
def mayAllF (xa : List AV) : Bool := match xa with
  | [.d d] => mayAll tnMayF d
  | _ => false
def tnD (A : Sy) (D : List Int) (e : Int) (L : List Int) : Dat := .agg [A.ofInts D, .int e, A.ofInts L]
theorem ints_of (D : List Int) : (std.ofInts D).ints = D := by
  show (D.map Dat.int).map Dat.z = D
  rw [List.map_map]
  conv => rhs; rw [← List.map_id D]
  rfl
theorem tnOf_tnD (D L : List Int) (e : Int) : tnOf (tnD std D e L) = ⟨D, e, L⟩ := by
  show Tn.mk (std.ofInts D).ints e (std.ofInts L).ints = _
  rw [ints_of, ints_of]
theorem mayAll_three (D1 L1 D2 L2 D3 L3 : List Int) (e1 e2 e3 : Int) : mayAllF [.d (.list [tnD std D1 e1 L1, tnD std D2 e2 L2, tnD std D3 e3 L3])] = (mayB ⟨D1, e1, L1⟩ && mayB ⟨D2, e2, L2⟩ && mayB ⟨D3, e3, L3⟩) := by
  show (((true && tnMayF (tnOf (tnD std D1 e1 L1)).arg) && tnMayF (tnOf (tnD std D2 e2 L2)).arg) && tnMayF (tnOf (tnD std D3 e3 L3)).arg) = _
  rw [tnOf_tnD, tnOf_tnD, tnOf_tnD]
  rfl
theorem mayAll_two (D1 L1 D2 L2 : List Int) (e1 e2 : Int) : mayAllF [.d (.list [tnD std D1 e1 L1, tnD std D2 e2 L2])] = (mayB ⟨D1, e1, L1⟩ && mayB ⟨D2, e2, L2⟩) := by
  show ((true && tnMayF (tnOf (tnD std D1 e1 L1)).arg) && tnMayF (tnOf (tnD std D2 e2 L2)).arg) = _
  rw [tnOf_tnD, tnOf_tnD]
  rfl
theorem mayAll_one (D1 L1 : List Int) (e1 : Int) : mayAllF [.d (.list [tnD std D1 e1 L1])] = mayB ⟨D1, e1, L1⟩ := by
  show (true && tnMayF (tnOf (tnD std D1 e1 L1)).arg) = _
  rw [tnOf_tnD]
  rfl
theorem mayD1 (D1 L1 : List Int) (e1 : Int) : mayAllF [.d (.list [.agg [.list (D1.map .int), .int e1, .list (L1.map .int)]])] = mayB ⟨D1, e1, L1⟩ := mayAll_one D1 L1 e1
theorem mayD2 (D1 L1 D2 L2 : List Int) (e1 e2 : Int) : mayAllF [.d (.list [.agg [.list (D1.map .int), .int e1, .list (L1.map .int)], .agg [.list (D2.map .int), .int e2, .list (L2.map .int)]])] = (mayB ⟨D1, e1, L1⟩ && mayB ⟨D2, e2, L2⟩) := mayAll_two D1 L1 D2 L2 e1 e2
theorem mayD3 (D1 L1 D2 L2 D3 L3 : List Int) (e1 e2 e3 : Int) : mayAllF [.d (.list [.agg [.list (D1.map .int), .int e1, .list (L1.map .int)], .agg [.list (D2.map .int), .int e2, .list (L2.map .int)], .agg [.list (D3.map .int), .int e3, .list (L3.map .int)]])] = (mayB ⟨D1, e1, L1⟩ && mayB ⟨D2, e2, L2⟩ && mayB ⟨D3, e3, L3⟩) := mayAll_three D1 L1 D2 L2 D3 L3 e1 e2 e3
theorem wt_len {e : Ty} {d : Dat} (h : Wt (.sl e) d) : (d.ls.length : Int) ≤ 9223372036854775807 := by
  simp only [Wt] at h
  obtain ⟨ds, rfl, h2, _⟩ := h
  unfold maxLen at h2
  simp only [Dat.ls]
  omega
end Go.Proofs.Ytmlfiphpcjkadaa
