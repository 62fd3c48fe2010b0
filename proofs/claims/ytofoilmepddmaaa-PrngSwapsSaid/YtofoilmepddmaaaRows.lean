/-
  No cell of these rows narrows 'for every input' (looked for: loops, veiled, ifaces, maps, wideKeys, modest, calm, conditions, laid).
  DERIVED. THE GIVEN ROWS OF THIS SEAT. 12 by the template 'for every input the law returns true; each argument reads behind the call as it read before'; 0 by the template 'total and deterministic' (their statements: YtofoilmepddmaaaTotals.lean).
  GIVEN WITH THE SEED: the statements are not yours to turn. If you find one false, say at which input.
  Laid BY PROGRAM, IN A SANDBOX (cutbox-rows.mjs): the forced cells as the released guide's own fill.sh prints them over the translation 7d9202c32fa645b2… (all of the seat's roots in one cut). By AI agents, Wed Nov 11 2026. No macro, syntax, notation, axiom, sorry.
-/
import Derived.Test.YtofoilmepddmaaaChecked
import GoSem.Claim
import GoSem.ClaimJoined
import GoSem.ClaimMapViews
import Derived.JoinedTies
import Derived.KernelRfl
namespace Go.Proofs.Ytofoilmepddmaaa
/- THE CELL 'sum', in the pinned program and in every row, IS THE sha256 OF THE DUMP (.gsa) THAT YtofoilmepddmaaaProg.lean LOADS. Nothing in Lean hashes anything: it is a label: what it is worth is what the hold of that sum in a sandbox is worth. -/
noncomputable def Try.pinned : Pinned := { name := "ytofoilmepddmaaa", sum := "7d9202c32fa645b28695158f97091659eb3a6071a65875ed5ed0bde61fe9168b", checked := Try.checked }
namespace Rows
def none {H : Type} : Left H := { results := [], args := [] }

/-- 'pedagoguelaw1.PrngForms': WHATEVER THE INPUT: true; the input reads as it did. -/
def prngFormsSpec : ChangeSpec := { name := "prngForms", fn := fun _ => fun
  | [d1, d2, d3, d4, d5] => { results := [.lit (.bool true)], args := [d1, d2, d3, d4, d5] }
  | _ => none }
def prngFormsRow : OpenClaim := { program := "ytofoilmepddmaaa", sum := "7d9202c32fa645b28695158f97091659eb3a6071a65875ed5ed0bde61fe9168b", func := "pedagogue/pedagoguelaw1.PrngForms", spec := "prngForms", apart := false }
def PrngFormsSaid : Prop := prngFormsRow.holds Try.pinned (OpenSpec.ofChange prngFormsSpec)

/-- ITS FALSE NEIGHBOUR: 'it returns false'. Refute it at one input. -/
def prngFormsWrong : ChangeSpec := { name := "prngForms", fn := fun _ => fun
  | [d1, d2, d3, d4, d5] => { results := [.lit (.bool false)], args := [d1, d2, d3, d4, d5] }
  | _ => none }
def PrngFormsWrongFalsely : Prop := prngFormsRow.holds Try.pinned (OpenSpec.ofChange prngFormsWrong)

/-- 'pedagoguelaw1.PrngPerms': WHATEVER THE INPUT: true; the input reads as it did. -/
def prngPermsSpec : ChangeSpec := { name := "prngPerms", fn := fun _ => fun
  | [d1, d2, d3] => { results := [.lit (.bool true)], args := [d1, d2, d3] }
  | _ => none }
def prngPermsRow : OpenClaim := { program := "ytofoilmepddmaaa", sum := "7d9202c32fa645b28695158f97091659eb3a6071a65875ed5ed0bde61fe9168b", func := "pedagogue/pedagoguelaw1.PrngPerms", spec := "prngPerms", apart := false }
def PrngPermsSaid : Prop := prngPermsRow.holds Try.pinned (OpenSpec.ofChange prngPermsSpec)

/-- ITS FALSE NEIGHBOUR: 'it returns false'. Refute it at one input. -/
def prngPermsWrong : ChangeSpec := { name := "prngPerms", fn := fun _ => fun
  | [d1, d2, d3] => { results := [.lit (.bool false)], args := [d1, d2, d3] }
  | _ => none }
def PrngPermsWrongFalsely : Prop := prngPermsRow.holds Try.pinned (OpenSpec.ofChange prngPermsWrong)

/-- 'pedagoguelaw1.PrngEach': WHATEVER THE INPUT: true; the input reads as it did. -/
def prngEachSpec : ChangeSpec := { name := "prngEach", fn := fun _ => fun
  | [d1, d2, d3] => { results := [.lit (.bool true)], args := [d1, d2, d3] }
  | _ => none }
def prngEachRow : OpenClaim := { program := "ytofoilmepddmaaa", sum := "7d9202c32fa645b28695158f97091659eb3a6071a65875ed5ed0bde61fe9168b", func := "pedagogue/pedagoguelaw1.PrngEach", spec := "prngEach", apart := false }
def PrngEachSaid : Prop := prngEachRow.holds Try.pinned (OpenSpec.ofChange prngEachSpec)

/-- ITS FALSE NEIGHBOUR: 'it returns false'. Refute it at one input. -/
def prngEachWrong : ChangeSpec := { name := "prngEach", fn := fun _ => fun
  | [d1, d2, d3] => { results := [.lit (.bool false)], args := [d1, d2, d3] }
  | _ => none }
def PrngEachWrongFalsely : Prop := prngEachRow.holds Try.pinned (OpenSpec.ofChange prngEachWrong)

/-- 'pedagoguelaw1.PrngUnlike': WHATEVER THE INPUT: true; the input reads as it did. -/
def prngUnlikeSpec : ChangeSpec := { name := "prngUnlike", fn := fun _ => fun
  | [d1, d2, d3] => { results := [.lit (.bool true)], args := [d1, d2, d3] }
  | _ => none }
def prngUnlikeRow : OpenClaim := { program := "ytofoilmepddmaaa", sum := "7d9202c32fa645b28695158f97091659eb3a6071a65875ed5ed0bde61fe9168b", func := "pedagogue/pedagoguelaw1.PrngUnlike", spec := "prngUnlike", apart := false }
def PrngUnlikeSaid : Prop := prngUnlikeRow.holds Try.pinned (OpenSpec.ofChange prngUnlikeSpec)

/-- ITS FALSE NEIGHBOUR: 'it returns false'. Refute it at one input. -/
def prngUnlikeWrong : ChangeSpec := { name := "prngUnlike", fn := fun _ => fun
  | [d1, d2, d3] => { results := [.lit (.bool false)], args := [d1, d2, d3] }
  | _ => none }
def PrngUnlikeWrongFalsely : Prop := prngUnlikeRow.holds Try.pinned (OpenSpec.ofChange prngUnlikeWrong)

/-- 'pedagoguelaw1.PrngBelow': WHATEVER THE INPUT: true; the input reads as it did. -/
def prngBelowSpec : ChangeSpec := { name := "prngBelow", fn := fun _ => fun
  | [d1, d2, d3, d4] => { results := [.lit (.bool true)], args := [d1, d2, d3, d4] }
  | _ => none }
def prngBelowRow : OpenClaim := { program := "ytofoilmepddmaaa", sum := "7d9202c32fa645b28695158f97091659eb3a6071a65875ed5ed0bde61fe9168b", func := "pedagogue/pedagoguelaw1.PrngBelow", spec := "prngBelow", apart := false }
def PrngBelowSaid : Prop := prngBelowRow.holds Try.pinned (OpenSpec.ofChange prngBelowSpec)

/-- ITS FALSE NEIGHBOUR: 'it returns false'. Refute it at one input. -/
def prngBelowWrong : ChangeSpec := { name := "prngBelow", fn := fun _ => fun
  | [d1, d2, d3, d4] => { results := [.lit (.bool false)], args := [d1, d2, d3, d4] }
  | _ => none }
def PrngBelowWrongFalsely : Prop := prngBelowRow.holds Try.pinned (OpenSpec.ofChange prngBelowWrong)

/-- 'pedagoguelaw1.PrngParts': WHATEVER THE INPUT: true; the input reads as it did. -/
def prngPartsSpec : ChangeSpec := { name := "prngParts", fn := fun _ => fun
  | [d1, d2, d3] => { results := [.lit (.bool true)], args := [d1, d2, d3] }
  | _ => none }
def prngPartsRow : OpenClaim := { program := "ytofoilmepddmaaa", sum := "7d9202c32fa645b28695158f97091659eb3a6071a65875ed5ed0bde61fe9168b", func := "pedagogue/pedagoguelaw1.PrngParts", spec := "prngParts", apart := false }
def PrngPartsSaid : Prop := prngPartsRow.holds Try.pinned (OpenSpec.ofChange prngPartsSpec)

/-- ITS FALSE NEIGHBOUR: 'it returns false'. Refute it at one input. -/
def prngPartsWrong : ChangeSpec := { name := "prngParts", fn := fun _ => fun
  | [d1, d2, d3] => { results := [.lit (.bool false)], args := [d1, d2, d3] }
  | _ => none }
def PrngPartsWrongFalsely : Prop := prngPartsRow.holds Try.pinned (OpenSpec.ofChange prngPartsWrong)

/-- 'pedagoguelaw1.PrngPowers': WHATEVER THE INPUT: true; the input reads as it did. -/
def prngPowersSpec : ChangeSpec := { name := "prngPowers", fn := fun _ => fun
  | [d1, d2, d3, d4] => { results := [.lit (.bool true)], args := [d1, d2, d3, d4] }
  | _ => none }
def prngPowersRow : OpenClaim := { program := "ytofoilmepddmaaa", sum := "7d9202c32fa645b28695158f97091659eb3a6071a65875ed5ed0bde61fe9168b", func := "pedagogue/pedagoguelaw1.PrngPowers", spec := "prngPowers", apart := false }
def PrngPowersSaid : Prop := prngPowersRow.holds Try.pinned (OpenSpec.ofChange prngPowersSpec)

/-- ITS FALSE NEIGHBOUR: 'it returns false'. Refute it at one input. -/
def prngPowersWrong : ChangeSpec := { name := "prngPowers", fn := fun _ => fun
  | [d1, d2, d3, d4] => { results := [.lit (.bool false)], args := [d1, d2, d3, d4] }
  | _ => none }
def PrngPowersWrongFalsely : Prop := prngPowersRow.holds Try.pinned (OpenSpec.ofChange prngPowersWrong)

/-- 'pedagoguelaw1.PrngSwaps': WHATEVER THE INPUT: true; the input reads as it did. -/
def prngSwapsSpec : ChangeSpec := { name := "prngSwaps", fn := fun _ => fun
  | [d1, d2, d3] => { results := [.lit (.bool true)], args := [d1, d2, d3] }
  | _ => none }
def prngSwapsRow : OpenClaim := { program := "ytofoilmepddmaaa", sum := "7d9202c32fa645b28695158f97091659eb3a6071a65875ed5ed0bde61fe9168b", func := "pedagogue/pedagoguelaw1.PrngSwaps", spec := "prngSwaps", apart := false }
def PrngSwapsSaid : Prop := prngSwapsRow.holds Try.pinned (OpenSpec.ofChange prngSwapsSpec)

/-- ITS FALSE NEIGHBOUR: 'it returns false'. Refute it at one input. -/
def prngSwapsWrong : ChangeSpec := { name := "prngSwaps", fn := fun _ => fun
  | [d1, d2, d3] => { results := [.lit (.bool false)], args := [d1, d2, d3] }
  | _ => none }
def PrngSwapsWrongFalsely : Prop := prngSwapsRow.holds Try.pinned (OpenSpec.ofChange prngSwapsWrong)

/-- 'pedagoguelaw2.RoundForms': WHATEVER THE INPUT: true; the input reads as it did. -/
def roundFormsSpec : ChangeSpec := { name := "roundForms", fn := fun _ => fun
  | [d1, d2, d3, d4, d5, d6] => { results := [.lit (.bool true)], args := [d1, d2, d3, d4, d5, d6] }
  | _ => none }
def roundFormsRow : OpenClaim := { program := "ytofoilmepddmaaa", sum := "7d9202c32fa645b28695158f97091659eb3a6071a65875ed5ed0bde61fe9168b", func := "pedagogue/pedagoguelaw2.RoundForms", spec := "roundForms", apart := false }
def RoundFormsSaid : Prop := roundFormsRow.holds Try.pinned (OpenSpec.ofChange roundFormsSpec)

/-- ITS FALSE NEIGHBOUR: 'it returns false'. Refute it at one input. -/
def roundFormsWrong : ChangeSpec := { name := "roundForms", fn := fun _ => fun
  | [d1, d2, d3, d4, d5, d6] => { results := [.lit (.bool false)], args := [d1, d2, d3, d4, d5, d6] }
  | _ => none }
def RoundFormsWrongFalsely : Prop := roundFormsRow.holds Try.pinned (OpenSpec.ofChange roundFormsWrong)

/-- 'pedagoguelaw2.RoundChance': WHATEVER THE INPUT: true; the input reads as it did. -/
def roundChanceSpec : ChangeSpec := { name := "roundChance", fn := fun _ => fun
  | [d1, d2] => { results := [.lit (.bool true)], args := [d1, d2] }
  | _ => none }
def roundChanceRow : OpenClaim := { program := "ytofoilmepddmaaa", sum := "7d9202c32fa645b28695158f97091659eb3a6071a65875ed5ed0bde61fe9168b", func := "pedagogue/pedagoguelaw2.RoundChance", spec := "roundChance", apart := false }
def RoundChanceSaid : Prop := roundChanceRow.holds Try.pinned (OpenSpec.ofChange roundChanceSpec)

/-- ITS FALSE NEIGHBOUR: 'it returns false'. Refute it at one input. -/
def roundChanceWrong : ChangeSpec := { name := "roundChance", fn := fun _ => fun
  | [d1, d2] => { results := [.lit (.bool false)], args := [d1, d2] }
  | _ => none }
def RoundChanceWrongFalsely : Prop := roundChanceRow.holds Try.pinned (OpenSpec.ofChange roundChanceWrong)

/-- 'pedagoguelaw2.RoundNear': WHATEVER THE INPUT: true; the input reads as it did. -/
def roundNearSpec : ChangeSpec := { name := "roundNear", fn := fun _ => fun
  | [d1, d2] => { results := [.lit (.bool true)], args := [d1, d2] }
  | _ => none }
def roundNearRow : OpenClaim := { program := "ytofoilmepddmaaa", sum := "7d9202c32fa645b28695158f97091659eb3a6071a65875ed5ed0bde61fe9168b", func := "pedagogue/pedagoguelaw2.RoundNear", spec := "roundNear", apart := false }
def RoundNearSaid : Prop := roundNearRow.holds Try.pinned (OpenSpec.ofChange roundNearSpec)

/-- ITS FALSE NEIGHBOUR: 'it returns false'. Refute it at one input. -/
def roundNearWrong : ChangeSpec := { name := "roundNear", fn := fun _ => fun
  | [d1, d2] => { results := [.lit (.bool false)], args := [d1, d2] }
  | _ => none }
def RoundNearWrongFalsely : Prop := roundNearRow.holds Try.pinned (OpenSpec.ofChange roundNearWrong)

/-- 'pedagoguelaw2.RoundBits': WHATEVER THE INPUT: true; the input reads as it did. -/
def roundBitsSpec : ChangeSpec := { name := "roundBits", fn := fun _ => fun
  | [d] => { results := [.lit (.bool true)], args := [d] }
  | _ => none }
def roundBitsRow : OpenClaim := { program := "ytofoilmepddmaaa", sum := "7d9202c32fa645b28695158f97091659eb3a6071a65875ed5ed0bde61fe9168b", func := "pedagogue/pedagoguelaw2.RoundBits", spec := "roundBits", apart := false }
def RoundBitsSaid : Prop := roundBitsRow.holds Try.pinned (OpenSpec.ofChange roundBitsSpec)

/-- ITS FALSE NEIGHBOUR: 'it returns false'. Refute it at one input. -/
def roundBitsWrong : ChangeSpec := { name := "roundBits", fn := fun _ => fun
  | [d] => { results := [.lit (.bool false)], args := [d] }
  | _ => none }
def RoundBitsWrongFalsely : Prop := roundBitsRow.holds Try.pinned (OpenSpec.ofChange roundBitsWrong)

/- THE SECOND FORM. 'bulk': how many values and letters a reading holds, each counted each time it is reached (what is shared counts as often as it is met; a slice's spare places count too). A statement '..UptoSaid' is the law's where the arguments, and the package variables that the reading takes, are together of bulk at most 1048576: NARROWER than '..Said'. Prove '..Said' where nothing that the law and all that it calls make is longer than what came in: it says more and counts as full. Else prove '..UptoSaid'. A law counts once. -/
mutual
def uptoBulk {H : Type} : DataW H → Nat
  | .lit (.string bytes) => bytes.length + 1
  | .lit _ => 1
  | .nil => 1
  | .ptr d => uptoBulk d + 1
  | .slice elems spare => uptoBulkAll elems + uptoBulkAll spare + 1
  | .agg parts => uptoBulkAll parts + 1
  | .iface _ d => uptoBulk d + 1
  | .map entries => uptoBulkEntries entries + 1
  | .held _ => 1
def uptoBulkAll {H : Type} : List (DataW H) → Nat
  | [] => 0
  | d :: r => uptoBulk d + uptoBulkAll r
def uptoBulkEntries {H : Type} : List (Lit × DataW H) → Nat
  | [] => 0
  | x :: r => uptoBulkEntry x + uptoBulkEntries r
def uptoBulkEntry {H : Type} : Lit × DataW H → Nat
  | (.string bytes, d) => bytes.length + uptoBulk d + 1
  | (_, d) => uptoBulk d + 1
 end
def uptoSmall : (H : Type) → List (DataW H) → Bool := fun _ ds => decide (uptoBulkAll ds ≤ 1048576)
def OpenSpec.upto (s : _root_.Go.ChangeSpec) : _root_.Go.OpenSpec := { _root_.Go.OpenSpec.ofChange s with cond := some uptoSmall }

/-- 'pedagoguelaw1.PrngForms', WHERE WHAT IT READS IS OF BULK AT MOST 1048576: true; the input reads as it did. -/
def prngFormsUptoRow : OpenClaim := { program := "ytofoilmepddmaaa", sum := "7d9202c32fa645b28695158f97091659eb3a6071a65875ed5ed0bde61fe9168b", func := "pedagogue/pedagoguelaw1.PrngForms", spec := "prngForms", apart := false, narrowed := true }
def PrngFormsUptoSaid : Prop := prngFormsUptoRow.holds Try.pinned (OpenSpec.upto prngFormsSpec)

/-- 'pedagoguelaw1.PrngPerms', WHERE WHAT IT READS IS OF BULK AT MOST 1048576: true; the input reads as it did. -/
def prngPermsUptoRow : OpenClaim := { program := "ytofoilmepddmaaa", sum := "7d9202c32fa645b28695158f97091659eb3a6071a65875ed5ed0bde61fe9168b", func := "pedagogue/pedagoguelaw1.PrngPerms", spec := "prngPerms", apart := false, narrowed := true }
def PrngPermsUptoSaid : Prop := prngPermsUptoRow.holds Try.pinned (OpenSpec.upto prngPermsSpec)

/-- 'pedagoguelaw1.PrngEach', WHERE WHAT IT READS IS OF BULK AT MOST 1048576: true; the input reads as it did. -/
def prngEachUptoRow : OpenClaim := { program := "ytofoilmepddmaaa", sum := "7d9202c32fa645b28695158f97091659eb3a6071a65875ed5ed0bde61fe9168b", func := "pedagogue/pedagoguelaw1.PrngEach", spec := "prngEach", apart := false, narrowed := true }
def PrngEachUptoSaid : Prop := prngEachUptoRow.holds Try.pinned (OpenSpec.upto prngEachSpec)

/-- 'pedagoguelaw1.PrngUnlike', WHERE WHAT IT READS IS OF BULK AT MOST 1048576: true; the input reads as it did. -/
def prngUnlikeUptoRow : OpenClaim := { program := "ytofoilmepddmaaa", sum := "7d9202c32fa645b28695158f97091659eb3a6071a65875ed5ed0bde61fe9168b", func := "pedagogue/pedagoguelaw1.PrngUnlike", spec := "prngUnlike", apart := false, narrowed := true }
def PrngUnlikeUptoSaid : Prop := prngUnlikeUptoRow.holds Try.pinned (OpenSpec.upto prngUnlikeSpec)

/-- 'pedagoguelaw1.PrngBelow', WHERE WHAT IT READS IS OF BULK AT MOST 1048576: true; the input reads as it did. -/
def prngBelowUptoRow : OpenClaim := { program := "ytofoilmepddmaaa", sum := "7d9202c32fa645b28695158f97091659eb3a6071a65875ed5ed0bde61fe9168b", func := "pedagogue/pedagoguelaw1.PrngBelow", spec := "prngBelow", apart := false, narrowed := true }
def PrngBelowUptoSaid : Prop := prngBelowUptoRow.holds Try.pinned (OpenSpec.upto prngBelowSpec)

/-- 'pedagoguelaw1.PrngParts', WHERE WHAT IT READS IS OF BULK AT MOST 1048576: true; the input reads as it did. -/
def prngPartsUptoRow : OpenClaim := { program := "ytofoilmepddmaaa", sum := "7d9202c32fa645b28695158f97091659eb3a6071a65875ed5ed0bde61fe9168b", func := "pedagogue/pedagoguelaw1.PrngParts", spec := "prngParts", apart := false, narrowed := true }
def PrngPartsUptoSaid : Prop := prngPartsUptoRow.holds Try.pinned (OpenSpec.upto prngPartsSpec)

/-- 'pedagoguelaw1.PrngPowers', WHERE WHAT IT READS IS OF BULK AT MOST 1048576: true; the input reads as it did. -/
def prngPowersUptoRow : OpenClaim := { program := "ytofoilmepddmaaa", sum := "7d9202c32fa645b28695158f97091659eb3a6071a65875ed5ed0bde61fe9168b", func := "pedagogue/pedagoguelaw1.PrngPowers", spec := "prngPowers", apart := false, narrowed := true }
def PrngPowersUptoSaid : Prop := prngPowersUptoRow.holds Try.pinned (OpenSpec.upto prngPowersSpec)

/-- 'pedagoguelaw1.PrngSwaps', WHERE WHAT IT READS IS OF BULK AT MOST 1048576: true; the input reads as it did. -/
def prngSwapsUptoRow : OpenClaim := { program := "ytofoilmepddmaaa", sum := "7d9202c32fa645b28695158f97091659eb3a6071a65875ed5ed0bde61fe9168b", func := "pedagogue/pedagoguelaw1.PrngSwaps", spec := "prngSwaps", apart := false, narrowed := true }
def PrngSwapsUptoSaid : Prop := prngSwapsUptoRow.holds Try.pinned (OpenSpec.upto prngSwapsSpec)

/-- 'pedagoguelaw2.RoundForms', WHERE WHAT IT READS IS OF BULK AT MOST 1048576: true; the input reads as it did. -/
def roundFormsUptoRow : OpenClaim := { program := "ytofoilmepddmaaa", sum := "7d9202c32fa645b28695158f97091659eb3a6071a65875ed5ed0bde61fe9168b", func := "pedagogue/pedagoguelaw2.RoundForms", spec := "roundForms", apart := false, narrowed := true }
def RoundFormsUptoSaid : Prop := roundFormsUptoRow.holds Try.pinned (OpenSpec.upto roundFormsSpec)

/-- 'pedagoguelaw2.RoundChance', WHERE WHAT IT READS IS OF BULK AT MOST 1048576: true; the input reads as it did. -/
def roundChanceUptoRow : OpenClaim := { program := "ytofoilmepddmaaa", sum := "7d9202c32fa645b28695158f97091659eb3a6071a65875ed5ed0bde61fe9168b", func := "pedagogue/pedagoguelaw2.RoundChance", spec := "roundChance", apart := false, narrowed := true }
def RoundChanceUptoSaid : Prop := roundChanceUptoRow.holds Try.pinned (OpenSpec.upto roundChanceSpec)

/-- 'pedagoguelaw2.RoundNear', WHERE WHAT IT READS IS OF BULK AT MOST 1048576: true; the input reads as it did. -/
def roundNearUptoRow : OpenClaim := { program := "ytofoilmepddmaaa", sum := "7d9202c32fa645b28695158f97091659eb3a6071a65875ed5ed0bde61fe9168b", func := "pedagogue/pedagoguelaw2.RoundNear", spec := "roundNear", apart := false, narrowed := true }
def RoundNearUptoSaid : Prop := roundNearUptoRow.holds Try.pinned (OpenSpec.upto roundNearSpec)

/-- 'pedagoguelaw2.RoundBits', WHERE WHAT IT READS IS OF BULK AT MOST 1048576: true; the input reads as it did. -/
def roundBitsUptoRow : OpenClaim := { program := "ytofoilmepddmaaa", sum := "7d9202c32fa645b28695158f97091659eb3a6071a65875ed5ed0bde61fe9168b", func := "pedagogue/pedagoguelaw2.RoundBits", spec := "roundBits", apart := false, narrowed := true }
def RoundBitsUptoSaid : Prop := roundBitsUptoRow.holds Try.pinned (OpenSpec.upto roundBitsSpec)

end Rows
end Go.Proofs.Ytofoilmepddmaaa
