/-
  No cell of these rows narrows 'for every input' (looked for: loops, veiled, ifaces, maps, wideKeys, modest, calm, conditions, laid).
  DERIVED. THE GIVEN ROWS OF THIS SEAT. 12 by the template 'for every input the law returns true; each argument reads behind the call as it read before'; 0 by the template 'total and deterministic' (their statements: YtofoilmepddmaabTotals.lean).
  GIVEN WITH THE SEED: the statements are not yours to turn. If you find one false, say at which input.
  Laid BY PROGRAM, IN A SANDBOX (cutbox-rows.mjs): the forced cells as the released guide's own fill.sh prints them over the translation a6aca58b7c37daf8… (all of the seat's roots in one cut). By AI agents, Wed Nov 11 2026. No macro, syntax, notation, axiom, sorry.
-/
import Derived.Test.YtofoilmepddmaabChecked
import GoSem.Claim
import GoSem.ClaimJoined
import GoSem.ClaimMapViews
import Derived.JoinedTies
import Derived.KernelRfl
namespace Go.Proofs.Ytofoilmepddmaab
/- THE CELL 'sum', in the pinned program and in every row, IS THE sha256 OF THE DUMP (.gsa) THAT YtofoilmepddmaabProg.lean LOADS. Nothing in Lean hashes anything: it is a label: what it is worth is what the hold of that sum in a sandbox is worth. -/
noncomputable def Try.pinned : Pinned := { name := "ytofoilmepddmaab", sum := "a6aca58b7c37daf83917abf4dabdfd86647bbbb45248a1a07d1082b4c4fd9e8d", checked := Try.checked }
namespace Rows
def none {H : Type} : Left H := { results := [], args := [] }

/-- 'pedagoguelaw2.RoundAlign': WHATEVER THE INPUT: true; the input reads as it did. -/
def roundAlignSpec : ChangeSpec := { name := "roundAlign", fn := fun _ => fun
  | [d1, d2, d3] => { results := [.lit (.bool true)], args := [d1, d2, d3] }
  | _ => none }
def roundAlignRow : OpenClaim := { program := "ytofoilmepddmaab", sum := "a6aca58b7c37daf83917abf4dabdfd86647bbbb45248a1a07d1082b4c4fd9e8d", func := "pedagogue/pedagoguelaw2.RoundAlign", spec := "roundAlign", apart := false }
def RoundAlignSaid : Prop := roundAlignRow.holds Try.pinned (OpenSpec.ofChange roundAlignSpec)

/-- ITS FALSE NEIGHBOUR: 'it returns false'. Refute it at one input. -/
def roundAlignWrong : ChangeSpec := { name := "roundAlign", fn := fun _ => fun
  | [d1, d2, d3] => { results := [.lit (.bool false)], args := [d1, d2, d3] }
  | _ => none }
def RoundAlignWrongFalsely : Prop := roundAlignRow.holds Try.pinned (OpenSpec.ofChange roundAlignWrong)

/-- 'pedagoguelaw2.RoundRises': WHATEVER THE INPUT: true; the input reads as it did. -/
def roundRisesSpec : ChangeSpec := { name := "roundRises", fn := fun _ => fun
  | [d1, d2, d3, d4, d5] => { results := [.lit (.bool true)], args := [d1, d2, d3, d4, d5] }
  | _ => none }
def roundRisesRow : OpenClaim := { program := "ytofoilmepddmaab", sum := "a6aca58b7c37daf83917abf4dabdfd86647bbbb45248a1a07d1082b4c4fd9e8d", func := "pedagogue/pedagoguelaw2.RoundRises", spec := "roundRises", apart := false }
def RoundRisesSaid : Prop := roundRisesRow.holds Try.pinned (OpenSpec.ofChange roundRisesSpec)

/-- ITS FALSE NEIGHBOUR: 'it returns false'. Refute it at one input. -/
def roundRisesWrong : ChangeSpec := { name := "roundRises", fn := fun _ => fun
  | [d1, d2, d3, d4, d5] => { results := [.lit (.bool false)], args := [d1, d2, d3, d4, d5] }
  | _ => none }
def RoundRisesWrongFalsely : Prop := roundRisesRow.holds Try.pinned (OpenSpec.ofChange roundRisesWrong)

/-- 'pedagoguelaw2.RoundClamps': WHATEVER THE INPUT: true; the input reads as it did. -/
def roundClampsSpec : ChangeSpec := { name := "roundClamps", fn := fun _ => fun
  | [d1, d2, d3] => { results := [.lit (.bool true)], args := [d1, d2, d3] }
  | _ => none }
def roundClampsRow : OpenClaim := { program := "ytofoilmepddmaab", sum := "a6aca58b7c37daf83917abf4dabdfd86647bbbb45248a1a07d1082b4c4fd9e8d", func := "pedagogue/pedagoguelaw2.RoundClamps", spec := "roundClamps", apart := false }
def RoundClampsSaid : Prop := roundClampsRow.holds Try.pinned (OpenSpec.ofChange roundClampsSpec)

/-- ITS FALSE NEIGHBOUR: 'it returns false'. Refute it at one input. -/
def roundClampsWrong : ChangeSpec := { name := "roundClamps", fn := fun _ => fun
  | [d1, d2, d3] => { results := [.lit (.bool false)], args := [d1, d2, d3] }
  | _ => none }
def RoundClampsWrongFalsely : Prop := roundClampsRow.holds Try.pinned (OpenSpec.ofChange roundClampsWrong)

/-- 'pedagoguelaw2.RoundWhole': WHATEVER THE INPUT: true; the input reads as it did. -/
def roundWholeSpec : ChangeSpec := { name := "roundWhole", fn := fun _ => fun
  | [d1, d2, d3] => { results := [.lit (.bool true)], args := [d1, d2, d3] }
  | _ => none }
def roundWholeRow : OpenClaim := { program := "ytofoilmepddmaab", sum := "a6aca58b7c37daf83917abf4dabdfd86647bbbb45248a1a07d1082b4c4fd9e8d", func := "pedagogue/pedagoguelaw2.RoundWhole", spec := "roundWhole", apart := false }
def RoundWholeSaid : Prop := roundWholeRow.holds Try.pinned (OpenSpec.ofChange roundWholeSpec)

/-- ITS FALSE NEIGHBOUR: 'it returns false'. Refute it at one input. -/
def roundWholeWrong : ChangeSpec := { name := "roundWhole", fn := fun _ => fun
  | [d1, d2, d3] => { results := [.lit (.bool false)], args := [d1, d2, d3] }
  | _ => none }
def RoundWholeWrongFalsely : Prop := roundWholeRow.holds Try.pinned (OpenSpec.ofChange roundWholeWrong)

/-- 'pedagoguelaw3.OctetWrites': WHATEVER THE INPUT: true; the input reads as it did. -/
def octetWritesSpec : ChangeSpec := { name := "octetWrites", fn := fun _ => fun
  | [d] => { results := [.lit (.bool true)], args := [d] }
  | _ => none }
def octetWritesRow : OpenClaim := { program := "ytofoilmepddmaab", sum := "a6aca58b7c37daf83917abf4dabdfd86647bbbb45248a1a07d1082b4c4fd9e8d", func := "pedagogue/pedagoguelaw3.OctetWrites", spec := "octetWrites", apart := false }
def OctetWritesSaid : Prop := octetWritesRow.holds Try.pinned (OpenSpec.ofChange octetWritesSpec)

/-- ITS FALSE NEIGHBOUR: 'it returns false'. Refute it at one input. -/
def octetWritesWrong : ChangeSpec := { name := "octetWrites", fn := fun _ => fun
  | [d] => { results := [.lit (.bool false)], args := [d] }
  | _ => none }
def OctetWritesWrongFalsely : Prop := octetWritesRow.holds Try.pinned (OpenSpec.ofChange octetWritesWrong)

/-- 'pedagoguelaw3.OctetReads': WHATEVER THE INPUT: true; the input reads as it did. -/
def octetReadsSpec : ChangeSpec := { name := "octetReads", fn := fun _ => fun
  | [d1, d2] => { results := [.lit (.bool true)], args := [d1, d2] }
  | _ => none }
def octetReadsRow : OpenClaim := { program := "ytofoilmepddmaab", sum := "a6aca58b7c37daf83917abf4dabdfd86647bbbb45248a1a07d1082b4c4fd9e8d", func := "pedagogue/pedagoguelaw3.OctetReads", spec := "octetReads", apart := false }
def OctetReadsSaid : Prop := octetReadsRow.holds Try.pinned (OpenSpec.ofChange octetReadsSpec)

/-- ITS FALSE NEIGHBOUR: 'it returns false'. Refute it at one input. -/
def octetReadsWrong : ChangeSpec := { name := "octetReads", fn := fun _ => fun
  | [d1, d2] => { results := [.lit (.bool false)], args := [d1, d2] }
  | _ => none }
def OctetReadsWrongFalsely : Prop := octetReadsRow.holds Try.pinned (OpenSpec.ofChange octetReadsWrong)

/-- 'pedagoguelaw3.OctetNil': WHATEVER THE INPUT: true; the input reads as it did. -/
def octetNilSpec : ChangeSpec := { name := "octetNil", fn := fun _ => fun
  | [d1, d2] => { results := [.lit (.bool true)], args := [d1, d2] }
  | _ => none }
def octetNilRow : OpenClaim := { program := "ytofoilmepddmaab", sum := "a6aca58b7c37daf83917abf4dabdfd86647bbbb45248a1a07d1082b4c4fd9e8d", func := "pedagogue/pedagoguelaw3.OctetNil", spec := "octetNil", apart := false }
def OctetNilSaid : Prop := octetNilRow.holds Try.pinned (OpenSpec.ofChange octetNilSpec)

/-- ITS FALSE NEIGHBOUR: 'it returns false'. Refute it at one input. -/
def octetNilWrong : ChangeSpec := { name := "octetNil", fn := fun _ => fun
  | [d1, d2] => { results := [.lit (.bool false)], args := [d1, d2] }
  | _ => none }
def OctetNilWrongFalsely : Prop := octetNilRow.holds Try.pinned (OpenSpec.ofChange octetNilWrong)

/-- 'pedagoguelaw3.OctetBack': WHATEVER THE INPUT: true; the input reads as it did. -/
def octetBackSpec : ChangeSpec := { name := "octetBack", fn := fun _ => fun
  | [d] => { results := [.lit (.bool true)], args := [d] }
  | _ => none }
def octetBackRow : OpenClaim := { program := "ytofoilmepddmaab", sum := "a6aca58b7c37daf83917abf4dabdfd86647bbbb45248a1a07d1082b4c4fd9e8d", func := "pedagogue/pedagoguelaw3.OctetBack", spec := "octetBack", apart := false }
def OctetBackSaid : Prop := octetBackRow.holds Try.pinned (OpenSpec.ofChange octetBackSpec)

/-- ITS FALSE NEIGHBOUR: 'it returns false'. Refute it at one input. -/
def octetBackWrong : ChangeSpec := { name := "octetBack", fn := fun _ => fun
  | [d] => { results := [.lit (.bool false)], args := [d] }
  | _ => none }
def OctetBackWrongFalsely : Prop := octetBackRow.holds Try.pinned (OpenSpec.ofChange octetBackWrong)

/-- 'pedagoguelaw3.OctetStays': WHATEVER THE INPUT: true; the input reads as it did. -/
def octetStaysSpec : ChangeSpec := { name := "octetStays", fn := fun _ => fun
  | [d1, d2] => { results := [.lit (.bool true)], args := [d1, d2] }
  | _ => none }
def octetStaysRow : OpenClaim := { program := "ytofoilmepddmaab", sum := "a6aca58b7c37daf83917abf4dabdfd86647bbbb45248a1a07d1082b4c4fd9e8d", func := "pedagogue/pedagoguelaw3.OctetStays", spec := "octetStays", apart := false }
def OctetStaysSaid : Prop := octetStaysRow.holds Try.pinned (OpenSpec.ofChange octetStaysSpec)

/-- ITS FALSE NEIGHBOUR: 'it returns false'. Refute it at one input. -/
def octetStaysWrong : ChangeSpec := { name := "octetStays", fn := fun _ => fun
  | [d1, d2] => { results := [.lit (.bool false)], args := [d1, d2] }
  | _ => none }
def OctetStaysWrongFalsely : Prop := octetStaysRow.holds Try.pinned (OpenSpec.ofChange octetStaysWrong)

/-- 'pedagoguelaw3.OctetHalves': WHATEVER THE INPUT: true; the input reads as it did. -/
def octetHalvesSpec : ChangeSpec := { name := "octetHalves", fn := fun _ => fun
  | [d] => { results := [.lit (.bool true)], args := [d] }
  | _ => none }
def octetHalvesRow : OpenClaim := { program := "ytofoilmepddmaab", sum := "a6aca58b7c37daf83917abf4dabdfd86647bbbb45248a1a07d1082b4c4fd9e8d", func := "pedagogue/pedagoguelaw3.OctetHalves", spec := "octetHalves", apart := false }
def OctetHalvesSaid : Prop := octetHalvesRow.holds Try.pinned (OpenSpec.ofChange octetHalvesSpec)

/-- ITS FALSE NEIGHBOUR: 'it returns false'. Refute it at one input. -/
def octetHalvesWrong : ChangeSpec := { name := "octetHalves", fn := fun _ => fun
  | [d] => { results := [.lit (.bool false)], args := [d] }
  | _ => none }
def OctetHalvesWrongFalsely : Prop := octetHalvesRow.holds Try.pinned (OpenSpec.ofChange octetHalvesWrong)

/-- 'pedagoguelaw4.SumReckons': WHATEVER THE INPUT: true; the input reads as it did. -/
def sumReckonsSpec : ChangeSpec := { name := "sumReckons", fn := fun _ => fun
  | [d] => { results := [.lit (.bool true)], args := [d] }
  | _ => none }
def sumReckonsRow : OpenClaim := { program := "ytofoilmepddmaab", sum := "a6aca58b7c37daf83917abf4dabdfd86647bbbb45248a1a07d1082b4c4fd9e8d", func := "pedagogue/pedagoguelaw4.SumReckons", spec := "sumReckons", apart := false }
def SumReckonsSaid : Prop := sumReckonsRow.holds Try.pinned (OpenSpec.ofChange sumReckonsSpec)

/-- ITS FALSE NEIGHBOUR: 'it returns false'. Refute it at one input. -/
def sumReckonsWrong : ChangeSpec := { name := "sumReckons", fn := fun _ => fun
  | [d] => { results := [.lit (.bool false)], args := [d] }
  | _ => none }
def SumReckonsWrongFalsely : Prop := sumReckonsRow.holds Try.pinned (OpenSpec.ofChange sumReckonsWrong)

/-- 'pedagoguelaw4.SumTells': WHATEVER THE INPUT: true; the input reads as it did. -/
def sumTellsSpec : ChangeSpec := { name := "sumTells", fn := fun _ => fun
  | [d1, d2, d3] => { results := [.lit (.bool true)], args := [d1, d2, d3] }
  | _ => none }
def sumTellsRow : OpenClaim := { program := "ytofoilmepddmaab", sum := "a6aca58b7c37daf83917abf4dabdfd86647bbbb45248a1a07d1082b4c4fd9e8d", func := "pedagogue/pedagoguelaw4.SumTells", spec := "sumTells", apart := false }
def SumTellsSaid : Prop := sumTellsRow.holds Try.pinned (OpenSpec.ofChange sumTellsSpec)

/-- ITS FALSE NEIGHBOUR: 'it returns false'. Refute it at one input. -/
def sumTellsWrong : ChangeSpec := { name := "sumTells", fn := fun _ => fun
  | [d1, d2, d3] => { results := [.lit (.bool false)], args := [d1, d2, d3] }
  | _ => none }
def SumTellsWrongFalsely : Prop := sumTellsRow.holds Try.pinned (OpenSpec.ofChange sumTellsWrong)

/- THE SECOND FORM. 'bulk': how many values and letters a reading holds, each counted each time it is reached (what is shared counts as often as it is met; a slice's spare places count too). A statement '..UptoSaid' is the law's where the arguments, and the package variables that the reading takes, are together of bulk at most 1048576: NARROWER than '..Said'. Prove '..Said' where nothing that the law and all that it calls make is longer than what came in: it says more and counts as full. Else prove '..UptoSaid'. A law counts once. -/
mutual
def uptoBulk {H : Type} : DataW H → Nat
  | .lit (.string bytes) => bytes.length + 1
  | .lit _ => 1
  | .nil => 1
  | .ptr d => uptoBulk d + 1
  | .slice elems spare => uptoBulkAll elems + uptoBulkAll spare + 1
  | .agg parts => uptoBulkAll parts + 1
  | .iface _ d => uptoBulk d + 1
  | .map entries => uptoBulkEntries entries + 1
  | .held _ => 1
def uptoBulkAll {H : Type} : List (DataW H) → Nat
  | [] => 0
  | d :: r => uptoBulk d + uptoBulkAll r
def uptoBulkEntries {H : Type} : List (Lit × DataW H) → Nat
  | [] => 0
  | x :: r => uptoBulkEntry x + uptoBulkEntries r
def uptoBulkEntry {H : Type} : Lit × DataW H → Nat
  | (.string bytes, d) => bytes.length + uptoBulk d + 1
  | (_, d) => uptoBulk d + 1
 end
def uptoSmall : (H : Type) → List (DataW H) → Bool := fun _ ds => decide (uptoBulkAll ds ≤ 1048576)
def OpenSpec.upto (s : _root_.Go.ChangeSpec) : _root_.Go.OpenSpec := { _root_.Go.OpenSpec.ofChange s with cond := some uptoSmall }

/-- 'pedagoguelaw2.RoundAlign', WHERE WHAT IT READS IS OF BULK AT MOST 1048576: true; the input reads as it did. -/
def roundAlignUptoRow : OpenClaim := { program := "ytofoilmepddmaab", sum := "a6aca58b7c37daf83917abf4dabdfd86647bbbb45248a1a07d1082b4c4fd9e8d", func := "pedagogue/pedagoguelaw2.RoundAlign", spec := "roundAlign", apart := false, narrowed := true }
def RoundAlignUptoSaid : Prop := roundAlignUptoRow.holds Try.pinned (OpenSpec.upto roundAlignSpec)

/-- 'pedagoguelaw2.RoundRises', WHERE WHAT IT READS IS OF BULK AT MOST 1048576: true; the input reads as it did. -/
def roundRisesUptoRow : OpenClaim := { program := "ytofoilmepddmaab", sum := "a6aca58b7c37daf83917abf4dabdfd86647bbbb45248a1a07d1082b4c4fd9e8d", func := "pedagogue/pedagoguelaw2.RoundRises", spec := "roundRises", apart := false, narrowed := true }
def RoundRisesUptoSaid : Prop := roundRisesUptoRow.holds Try.pinned (OpenSpec.upto roundRisesSpec)

/-- 'pedagoguelaw2.RoundClamps', WHERE WHAT IT READS IS OF BULK AT MOST 1048576: true; the input reads as it did. -/
def roundClampsUptoRow : OpenClaim := { program := "ytofoilmepddmaab", sum := "a6aca58b7c37daf83917abf4dabdfd86647bbbb45248a1a07d1082b4c4fd9e8d", func := "pedagogue/pedagoguelaw2.RoundClamps", spec := "roundClamps", apart := false, narrowed := true }
def RoundClampsUptoSaid : Prop := roundClampsUptoRow.holds Try.pinned (OpenSpec.upto roundClampsSpec)

/-- 'pedagoguelaw2.RoundWhole', WHERE WHAT IT READS IS OF BULK AT MOST 1048576: true; the input reads as it did. -/
def roundWholeUptoRow : OpenClaim := { program := "ytofoilmepddmaab", sum := "a6aca58b7c37daf83917abf4dabdfd86647bbbb45248a1a07d1082b4c4fd9e8d", func := "pedagogue/pedagoguelaw2.RoundWhole", spec := "roundWhole", apart := false, narrowed := true }
def RoundWholeUptoSaid : Prop := roundWholeUptoRow.holds Try.pinned (OpenSpec.upto roundWholeSpec)

/-- 'pedagoguelaw3.OctetWrites', WHERE WHAT IT READS IS OF BULK AT MOST 1048576: true; the input reads as it did. -/
def octetWritesUptoRow : OpenClaim := { program := "ytofoilmepddmaab", sum := "a6aca58b7c37daf83917abf4dabdfd86647bbbb45248a1a07d1082b4c4fd9e8d", func := "pedagogue/pedagoguelaw3.OctetWrites", spec := "octetWrites", apart := false, narrowed := true }
def OctetWritesUptoSaid : Prop := octetWritesUptoRow.holds Try.pinned (OpenSpec.upto octetWritesSpec)

/-- 'pedagoguelaw3.OctetReads', WHERE WHAT IT READS IS OF BULK AT MOST 1048576: true; the input reads as it did. -/
def octetReadsUptoRow : OpenClaim := { program := "ytofoilmepddmaab", sum := "a6aca58b7c37daf83917abf4dabdfd86647bbbb45248a1a07d1082b4c4fd9e8d", func := "pedagogue/pedagoguelaw3.OctetReads", spec := "octetReads", apart := false, narrowed := true }
def OctetReadsUptoSaid : Prop := octetReadsUptoRow.holds Try.pinned (OpenSpec.upto octetReadsSpec)

/-- 'pedagoguelaw3.OctetNil', WHERE WHAT IT READS IS OF BULK AT MOST 1048576: true; the input reads as it did. -/
def octetNilUptoRow : OpenClaim := { program := "ytofoilmepddmaab", sum := "a6aca58b7c37daf83917abf4dabdfd86647bbbb45248a1a07d1082b4c4fd9e8d", func := "pedagogue/pedagoguelaw3.OctetNil", spec := "octetNil", apart := false, narrowed := true }
def OctetNilUptoSaid : Prop := octetNilUptoRow.holds Try.pinned (OpenSpec.upto octetNilSpec)

/-- 'pedagoguelaw3.OctetBack', WHERE WHAT IT READS IS OF BULK AT MOST 1048576: true; the input reads as it did. -/
def octetBackUptoRow : OpenClaim := { program := "ytofoilmepddmaab", sum := "a6aca58b7c37daf83917abf4dabdfd86647bbbb45248a1a07d1082b4c4fd9e8d", func := "pedagogue/pedagoguelaw3.OctetBack", spec := "octetBack", apart := false, narrowed := true }
def OctetBackUptoSaid : Prop := octetBackUptoRow.holds Try.pinned (OpenSpec.upto octetBackSpec)

/-- 'pedagoguelaw3.OctetStays', WHERE WHAT IT READS IS OF BULK AT MOST 1048576: true; the input reads as it did. -/
def octetStaysUptoRow : OpenClaim := { program := "ytofoilmepddmaab", sum := "a6aca58b7c37daf83917abf4dabdfd86647bbbb45248a1a07d1082b4c4fd9e8d", func := "pedagogue/pedagoguelaw3.OctetStays", spec := "octetStays", apart := false, narrowed := true }
def OctetStaysUptoSaid : Prop := octetStaysUptoRow.holds Try.pinned (OpenSpec.upto octetStaysSpec)

/-- 'pedagoguelaw3.OctetHalves', WHERE WHAT IT READS IS OF BULK AT MOST 1048576: true; the input reads as it did. -/
def octetHalvesUptoRow : OpenClaim := { program := "ytofoilmepddmaab", sum := "a6aca58b7c37daf83917abf4dabdfd86647bbbb45248a1a07d1082b4c4fd9e8d", func := "pedagogue/pedagoguelaw3.OctetHalves", spec := "octetHalves", apart := false, narrowed := true }
def OctetHalvesUptoSaid : Prop := octetHalvesUptoRow.holds Try.pinned (OpenSpec.upto octetHalvesSpec)

/-- 'pedagoguelaw4.SumReckons', WHERE WHAT IT READS IS OF BULK AT MOST 1048576: true; the input reads as it did. -/
def sumReckonsUptoRow : OpenClaim := { program := "ytofoilmepddmaab", sum := "a6aca58b7c37daf83917abf4dabdfd86647bbbb45248a1a07d1082b4c4fd9e8d", func := "pedagogue/pedagoguelaw4.SumReckons", spec := "sumReckons", apart := false, narrowed := true }
def SumReckonsUptoSaid : Prop := sumReckonsUptoRow.holds Try.pinned (OpenSpec.upto sumReckonsSpec)

/-- 'pedagoguelaw4.SumTells', WHERE WHAT IT READS IS OF BULK AT MOST 1048576: true; the input reads as it did. -/
def sumTellsUptoRow : OpenClaim := { program := "ytofoilmepddmaab", sum := "a6aca58b7c37daf83917abf4dabdfd86647bbbb45248a1a07d1082b4c4fd9e8d", func := "pedagogue/pedagoguelaw4.SumTells", spec := "sumTells", apart := false, narrowed := true }
def SumTellsUptoSaid : Prop := sumTellsUptoRow.holds Try.pinned (OpenSpec.upto sumTellsSpec)

end Rows
end Go.Proofs.Ytofoilmepddmaab
