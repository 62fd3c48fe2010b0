/- Sums: may they be; how wide; alike; noughts. -/
import Derived.Test.YtmlfiphpcjkadaaTensor
import Derived.Test.YtmlfiphpcjkadaaSlices
import Derived.Test.YtmlfiphpcjkadaaRound
namespace Go.Proofs.Ytmlfiphpcjkadaa
open Go.RowKit
set_option maxHeartbeats 1000000
def mayAccB (t : Tn) : Bool := mayD t.dims && decide ((t.data.length : Int) = szD t.dims) && expB t.exp 128
/-- How many bits the greatest has. -/
def widthL (l : List Int) : Int := l.foldl (fun a x => max a (bitsI x)) 0
def widthB (t : Tn) : Int := if mayAccB t then widthL t.data else 0
theorem bitsI_in (x : Int) : 0 ≤ bitsI x ∧ bitsI x ≤ 63 := by
  unfold bitsI
  have h := numb_in x
  refine ⟨by omega, ?_⟩
  have : Lib.bitLen (numb x).natAbs ≤ 63 := by
    exact Lib.bitLen_le _ 63 (by omega) (by omega)
  omega
theorem widthFrom_in (l : List Int) : ∀ a, 0 ≤ a → a ≤ 63 → 0 ≤ l.foldl (fun a x => max a (bitsI x)) a ∧ l.foldl (fun a x => max a (bitsI x)) a ≤ 63 := by
  induction l with
  | nil => intro a h0 h1; exact ⟨h0, h1⟩
  | cons x l ih => intro a h0 h1; have := bitsI_in x; rw [List.foldl_cons]; exact ih (max a (bitsI x)) (by omega) (by omega)
end Go.Proofs.Ytmlfiphpcjkadaa
