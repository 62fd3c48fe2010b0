/-
  No cell of these rows narrows 'for every input' (looked for: loops, veiled, ifaces, maps, wideKeys, modest, calm, conditions, laid).
  DERIVED. THE GIVEN ROWS OF THIS SEAT. 9 by the template 'for every input the law returns true; each argument reads behind the call as it read before'; 0 by the template 'total and deterministic' (their statements: YthclcnidbnbkcaaTotals.lean).
  GIVEN WITH THE SEED: the statements are not yours to turn. If you find one false, say at which input.
  Laid BY PROGRAM, IN A SANDBOX (cutbox-rows.mjs): the forced cells as the released guide's own fill.sh prints them over the translation 1edd58b00b53d210… (all of the seat's roots in one cut). By AI agents, Wed Nov 11 2026. No macro, syntax, notation, axiom, sorry.
-/
import Derived.Test.YthclcnidbnbkcaaChecked
import GoSem.Claim
import GoSem.ClaimJoined
import GoSem.ClaimMapViews
import Derived.JoinedTies
import Derived.KernelRfl
namespace Go.Proofs.Ythclcnidbnbkcaa
/- THE CELL 'sum', in the pinned program and in every row, IS THE sha256 OF THE DUMP (.gsa) THAT YthclcnidbnbkcaaProg.lean LOADS. Nothing in Lean hashes anything: it is a label: what it is worth is what the hold of that sum in a sandbox is worth. -/
noncomputable def Try.pinned : Pinned := { name := "ythclcnidbnbkcaa", sum := "1edd58b00b53d2106cfd6c73a12316ac663cce1270e90989765403ca474113d8", checked := Try.checked }
namespace Rows
def none {H : Type} : Left H := { results := [], args := [] }

/-- 'pedagoguelaw13.UnitForms': WHATEVER THE INPUT: true; the input reads as it did. -/
def unitFormsSpec : ChangeSpec := { name := "unitForms", fn := fun _ => fun
  | [d1, d2, d3] => { results := [.lit (.bool true)], args := [d1, d2, d3] }
  | _ => none }
def unitFormsRow : OpenClaim := { program := "ythclcnidbnbkcaa", sum := "1edd58b00b53d2106cfd6c73a12316ac663cce1270e90989765403ca474113d8", func := "pedagogue/pedagoguelaw13.UnitForms", spec := "unitForms", apart := false }
def UnitFormsSaid : Prop := unitFormsRow.holds Try.pinned (OpenSpec.ofChange unitFormsSpec)

/-- ITS FALSE NEIGHBOUR: 'it returns false'. Refute it at one input. -/
def unitFormsWrong : ChangeSpec := { name := "unitForms", fn := fun _ => fun
  | [d1, d2, d3] => { results := [.lit (.bool false)], args := [d1, d2, d3] }
  | _ => none }
def UnitFormsWrongFalsely : Prop := unitFormsRow.holds Try.pinned (OpenSpec.ofChange unitFormsWrong)

/-- 'pedagoguelaw13.UnitTwice': WHATEVER THE INPUT: true; the input reads as it did. -/
def unitTwiceSpec : ChangeSpec := { name := "unitTwice", fn := fun _ => fun
  | [d] => { results := [.lit (.bool true)], args := [d] }
  | _ => none }
def unitTwiceRow : OpenClaim := { program := "ythclcnidbnbkcaa", sum := "1edd58b00b53d2106cfd6c73a12316ac663cce1270e90989765403ca474113d8", func := "pedagogue/pedagoguelaw13.UnitTwice", spec := "unitTwice", apart := false }
def UnitTwiceSaid : Prop := unitTwiceRow.holds Try.pinned (OpenSpec.ofChange unitTwiceSpec)

/-- ITS FALSE NEIGHBOUR: 'it returns false'. Refute it at one input. -/
def unitTwiceWrong : ChangeSpec := { name := "unitTwice", fn := fun _ => fun
  | [d] => { results := [.lit (.bool false)], args := [d] }
  | _ => none }
def UnitTwiceWrongFalsely : Prop := unitTwiceRow.holds Try.pinned (OpenSpec.ofChange unitTwiceWrong)

/-- 'pedagoguelaw13.UnitSlope': WHATEVER THE INPUT: true; the input reads as it did. -/
def unitSlopeSpec : ChangeSpec := { name := "unitSlope", fn := fun _ => fun
  | [d1, d2] => { results := [.lit (.bool true)], args := [d1, d2] }
  | _ => none }
def unitSlopeRow : OpenClaim := { program := "ythclcnidbnbkcaa", sum := "1edd58b00b53d2106cfd6c73a12316ac663cce1270e90989765403ca474113d8", func := "pedagogue/pedagoguelaw13.UnitSlope", spec := "unitSlope", apart := false }
def UnitSlopeSaid : Prop := unitSlopeRow.holds Try.pinned (OpenSpec.ofChange unitSlopeSpec)

/-- ITS FALSE NEIGHBOUR: 'it returns false'. Refute it at one input. -/
def unitSlopeWrong : ChangeSpec := { name := "unitSlope", fn := fun _ => fun
  | [d1, d2] => { results := [.lit (.bool false)], args := [d1, d2] }
  | _ => none }
def UnitSlopeWrongFalsely : Prop := unitSlopeRow.holds Try.pinned (OpenSpec.ofChange unitSlopeWrong)

/-- 'pedagoguelaw13.UnitShapes': WHATEVER THE INPUT: true; the input reads as it did. -/
def unitShapesSpec : ChangeSpec := { name := "unitShapes", fn := fun _ => fun
  | [d1, d2, d3] => { results := [.lit (.bool true)], args := [d1, d2, d3] }
  | _ => none }
def unitShapesRow : OpenClaim := { program := "ythclcnidbnbkcaa", sum := "1edd58b00b53d2106cfd6c73a12316ac663cce1270e90989765403ca474113d8", func := "pedagogue/pedagoguelaw13.UnitShapes", spec := "unitShapes", apart := false }
def UnitShapesSaid : Prop := unitShapesRow.holds Try.pinned (OpenSpec.ofChange unitShapesSpec)

/-- ITS FALSE NEIGHBOUR: 'it returns false'. Refute it at one input. -/
def unitShapesWrong : ChangeSpec := { name := "unitShapes", fn := fun _ => fun
  | [d1, d2, d3] => { results := [.lit (.bool false)], args := [d1, d2, d3] }
  | _ => none }
def UnitShapesWrongFalsely : Prop := unitShapesRow.holds Try.pinned (OpenSpec.ofChange unitShapesWrong)

/-- 'pedagoguelaw14.AddForms': WHATEVER THE INPUT: true; the input reads as it did. -/
def addFormsSpec : ChangeSpec := { name := "addForms", fn := fun _ => fun
  | [d1, d2, d3, d4] => { results := [.lit (.bool true)], args := [d1, d2, d3, d4] }
  | _ => none }
def addFormsRow : OpenClaim := { program := "ythclcnidbnbkcaa", sum := "1edd58b00b53d2106cfd6c73a12316ac663cce1270e90989765403ca474113d8", func := "pedagogue/pedagoguelaw14.AddForms", spec := "addForms", unfollowed := true, recurses := true, apart := false }
def AddFormsSaid : Prop := addFormsRow.holds Try.pinned (OpenSpec.ofChange addFormsSpec)

/-- ITS FALSE NEIGHBOUR: 'it returns false'. Refute it at one input. -/
def addFormsWrong : ChangeSpec := { name := "addForms", fn := fun _ => fun
  | [d1, d2, d3, d4] => { results := [.lit (.bool false)], args := [d1, d2, d3, d4] }
  | _ => none }
def AddFormsWrongFalsely : Prop := addFormsRow.holds Try.pinned (OpenSpec.ofChange addFormsWrong)

/-- 'pedagoguelaw14.AddExact': WHATEVER THE INPUT: true; the input reads as it did. -/
def addExactSpec : ChangeSpec := { name := "addExact", fn := fun _ => fun
  | [d1, d2, d3, d4] => { results := [.lit (.bool true)], args := [d1, d2, d3, d4] }
  | _ => none }
def addExactRow : OpenClaim := { program := "ythclcnidbnbkcaa", sum := "1edd58b00b53d2106cfd6c73a12316ac663cce1270e90989765403ca474113d8", func := "pedagogue/pedagoguelaw14.AddExact", spec := "addExact", apart := false }
def AddExactSaid : Prop := addExactRow.holds Try.pinned (OpenSpec.ofChange addExactSpec)

/-- ITS FALSE NEIGHBOUR: 'it returns false'. Refute it at one input. -/
def addExactWrong : ChangeSpec := { name := "addExact", fn := fun _ => fun
  | [d1, d2, d3, d4] => { results := [.lit (.bool false)], args := [d1, d2, d3, d4] }
  | _ => none }
def AddExactWrongFalsely : Prop := addExactRow.holds Try.pinned (OpenSpec.ofChange addExactWrong)

/-- 'pedagoguelaw14.AddSums': WHATEVER THE INPUT: true; the input reads as it did. -/
def addSumsSpec : ChangeSpec := { name := "addSums", fn := fun _ => fun
  | [d1, d2] => { results := [.lit (.bool true)], args := [d1, d2] }
  | _ => none }
def addSumsRow : OpenClaim := { program := "ythclcnidbnbkcaa", sum := "1edd58b00b53d2106cfd6c73a12316ac663cce1270e90989765403ca474113d8", func := "pedagogue/pedagoguelaw14.AddSums", spec := "addSums", unfollowed := true, recurses := true, apart := false }
def AddSumsSaid : Prop := addSumsRow.holds Try.pinned (OpenSpec.ofChange addSumsSpec)

/-- ITS FALSE NEIGHBOUR: 'it returns false'. Refute it at one input. -/
def addSumsWrong : ChangeSpec := { name := "addSums", fn := fun _ => fun
  | [d1, d2] => { results := [.lit (.bool false)], args := [d1, d2] }
  | _ => none }
def AddSumsWrongFalsely : Prop := addSumsRow.holds Try.pinned (OpenSpec.ofChange addSumsWrong)

/-- 'pedagoguelaw14.AddNothing': WHATEVER THE INPUT: true; the input reads as it did. -/
def addNothingSpec : ChangeSpec := { name := "addNothing", fn := fun _ => fun
  | [d] => { results := [.lit (.bool true)], args := [d] }
  | _ => none }
def addNothingRow : OpenClaim := { program := "ythclcnidbnbkcaa", sum := "1edd58b00b53d2106cfd6c73a12316ac663cce1270e90989765403ca474113d8", func := "pedagogue/pedagoguelaw14.AddNothing", spec := "addNothing", apart := false }
def AddNothingSaid : Prop := addNothingRow.holds Try.pinned (OpenSpec.ofChange addNothingSpec)

/-- ITS FALSE NEIGHBOUR: 'it returns false'. Refute it at one input. -/
def addNothingWrong : ChangeSpec := { name := "addNothing", fn := fun _ => fun
  | [d] => { results := [.lit (.bool false)], args := [d] }
  | _ => none }
def AddNothingWrongFalsely : Prop := addNothingRow.holds Try.pinned (OpenSpec.ofChange addNothingWrong)

/-- 'pedagoguelaw14.AddFar': WHATEVER THE INPUT: true; the input reads as it did. -/
def addFarSpec : ChangeSpec := { name := "addFar", fn := fun _ => fun
  | [d1, d2, d3, d4] => { results := [.lit (.bool true)], args := [d1, d2, d3, d4] }
  | _ => none }
def addFarRow : OpenClaim := { program := "ythclcnidbnbkcaa", sum := "1edd58b00b53d2106cfd6c73a12316ac663cce1270e90989765403ca474113d8", func := "pedagogue/pedagoguelaw14.AddFar", spec := "addFar", apart := false }
def AddFarSaid : Prop := addFarRow.holds Try.pinned (OpenSpec.ofChange addFarSpec)

/-- ITS FALSE NEIGHBOUR: 'it returns false'. Refute it at one input. -/
def addFarWrong : ChangeSpec := { name := "addFar", fn := fun _ => fun
  | [d1, d2, d3, d4] => { results := [.lit (.bool false)], args := [d1, d2, d3, d4] }
  | _ => none }
def AddFarWrongFalsely : Prop := addFarRow.holds Try.pinned (OpenSpec.ofChange addFarWrong)

/- THE SECOND FORM. 'bulk': how many values and letters a reading holds, each counted each time it is reached (what is shared counts as often as it is met; a slice's spare places count too). A statement '..UptoSaid' is the law's where the arguments, and the package variables that the reading takes, are together of bulk at most 1048576: NARROWER than '..Said'. Prove '..Said' where nothing that the law and all that it calls make is longer than what came in: it says more and counts as full. Else prove '..UptoSaid'. A law counts once. -/
mutual
def uptoBulk {H : Type} : DataW H → Nat
  | .lit (.string bytes) => bytes.length + 1
  | .lit _ => 1
  | .nil => 1
  | .ptr d => uptoBulk d + 1
  | .slice elems spare => uptoBulkAll elems + uptoBulkAll spare + 1
  | .agg parts => uptoBulkAll parts + 1
  | .iface _ d => uptoBulk d + 1
  | .map entries => uptoBulkEntries entries + 1
  | .held _ => 1
def uptoBulkAll {H : Type} : List (DataW H) → Nat
  | [] => 0
  | d :: r => uptoBulk d + uptoBulkAll r
def uptoBulkEntries {H : Type} : List (Lit × DataW H) → Nat
  | [] => 0
  | x :: r => uptoBulkEntry x + uptoBulkEntries r
def uptoBulkEntry {H : Type} : Lit × DataW H → Nat
  | (.string bytes, d) => bytes.length + uptoBulk d + 1
  | (_, d) => uptoBulk d + 1
 end
def uptoSmall : (H : Type) → List (DataW H) → Bool := fun _ ds => decide (uptoBulkAll ds ≤ 1048576)
def OpenSpec.upto (s : _root_.Go.ChangeSpec) : _root_.Go.OpenSpec := { _root_.Go.OpenSpec.ofChange s with cond := some uptoSmall }

/-- 'pedagoguelaw13.UnitForms', WHERE WHAT IT READS IS OF BULK AT MOST 1048576: true; the input reads as it did. -/
def unitFormsUptoRow : OpenClaim := { program := "ythclcnidbnbkcaa", sum := "1edd58b00b53d2106cfd6c73a12316ac663cce1270e90989765403ca474113d8", func := "pedagogue/pedagoguelaw13.UnitForms", spec := "unitForms", apart := false, narrowed := true }
def UnitFormsUptoSaid : Prop := unitFormsUptoRow.holds Try.pinned (OpenSpec.upto unitFormsSpec)

/-- 'pedagoguelaw13.UnitTwice', WHERE WHAT IT READS IS OF BULK AT MOST 1048576: true; the input reads as it did. -/
def unitTwiceUptoRow : OpenClaim := { program := "ythclcnidbnbkcaa", sum := "1edd58b00b53d2106cfd6c73a12316ac663cce1270e90989765403ca474113d8", func := "pedagogue/pedagoguelaw13.UnitTwice", spec := "unitTwice", apart := false, narrowed := true }
def UnitTwiceUptoSaid : Prop := unitTwiceUptoRow.holds Try.pinned (OpenSpec.upto unitTwiceSpec)

/-- 'pedagoguelaw13.UnitSlope', WHERE WHAT IT READS IS OF BULK AT MOST 1048576: true; the input reads as it did. -/
def unitSlopeUptoRow : OpenClaim := { program := "ythclcnidbnbkcaa", sum := "1edd58b00b53d2106cfd6c73a12316ac663cce1270e90989765403ca474113d8", func := "pedagogue/pedagoguelaw13.UnitSlope", spec := "unitSlope", apart := false, narrowed := true }
def UnitSlopeUptoSaid : Prop := unitSlopeUptoRow.holds Try.pinned (OpenSpec.upto unitSlopeSpec)

/-- 'pedagoguelaw13.UnitShapes', WHERE WHAT IT READS IS OF BULK AT MOST 1048576: true; the input reads as it did. -/
def unitShapesUptoRow : OpenClaim := { program := "ythclcnidbnbkcaa", sum := "1edd58b00b53d2106cfd6c73a12316ac663cce1270e90989765403ca474113d8", func := "pedagogue/pedagoguelaw13.UnitShapes", spec := "unitShapes", apart := false, narrowed := true }
def UnitShapesUptoSaid : Prop := unitShapesUptoRow.holds Try.pinned (OpenSpec.upto unitShapesSpec)

/-- 'pedagoguelaw14.AddForms', WHERE WHAT IT READS IS OF BULK AT MOST 1048576: true; the input reads as it did. -/
def addFormsUptoRow : OpenClaim := { program := "ythclcnidbnbkcaa", sum := "1edd58b00b53d2106cfd6c73a12316ac663cce1270e90989765403ca474113d8", func := "pedagogue/pedagoguelaw14.AddForms", spec := "addForms", unfollowed := true, recurses := true, apart := false, narrowed := true }
def AddFormsUptoSaid : Prop := addFormsUptoRow.holds Try.pinned (OpenSpec.upto addFormsSpec)

/-- 'pedagoguelaw14.AddExact', WHERE WHAT IT READS IS OF BULK AT MOST 1048576: true; the input reads as it did. -/
def addExactUptoRow : OpenClaim := { program := "ythclcnidbnbkcaa", sum := "1edd58b00b53d2106cfd6c73a12316ac663cce1270e90989765403ca474113d8", func := "pedagogue/pedagoguelaw14.AddExact", spec := "addExact", apart := false, narrowed := true }
def AddExactUptoSaid : Prop := addExactUptoRow.holds Try.pinned (OpenSpec.upto addExactSpec)

/-- 'pedagoguelaw14.AddSums', WHERE WHAT IT READS IS OF BULK AT MOST 1048576: true; the input reads as it did. -/
def addSumsUptoRow : OpenClaim := { program := "ythclcnidbnbkcaa", sum := "1edd58b00b53d2106cfd6c73a12316ac663cce1270e90989765403ca474113d8", func := "pedagogue/pedagoguelaw14.AddSums", spec := "addSums", unfollowed := true, recurses := true, apart := false, narrowed := true }
def AddSumsUptoSaid : Prop := addSumsUptoRow.holds Try.pinned (OpenSpec.upto addSumsSpec)

/-- 'pedagoguelaw14.AddNothing', WHERE WHAT IT READS IS OF BULK AT MOST 1048576: true; the input reads as it did. -/
def addNothingUptoRow : OpenClaim := { program := "ythclcnidbnbkcaa", sum := "1edd58b00b53d2106cfd6c73a12316ac663cce1270e90989765403ca474113d8", func := "pedagogue/pedagoguelaw14.AddNothing", spec := "addNothing", apart := false, narrowed := true }
def AddNothingUptoSaid : Prop := addNothingUptoRow.holds Try.pinned (OpenSpec.upto addNothingSpec)

/-- 'pedagoguelaw14.AddFar', WHERE WHAT IT READS IS OF BULK AT MOST 1048576: true; the input reads as it did. -/
def addFarUptoRow : OpenClaim := { program := "ythclcnidbnbkcaa", sum := "1edd58b00b53d2106cfd6c73a12316ac663cce1270e90989765403ca474113d8", func := "pedagogue/pedagoguelaw14.AddFar", spec := "addFar", apart := false, narrowed := true }
def AddFarUptoSaid : Prop := addFarUptoRow.holds Try.pinned (OpenSpec.upto addFarSpec)

end Rows
end Go.Proofs.Ythclcnidbnbkcaa
