/-
  NARROWER THAN 'FOR EVERY INPUT', by the rows' own cells (each row's printed sentence says how): FnDominates: laid · FnDominatorsOf: laid · FnLastDominator: laid · FnAlwaysReaches: laid · FnLoopOf: laid · FnDominatesThree: laid · FnFirstDominates: laid · FnReachesThree: laid.
  DERIVED. THE GIVEN ROWS OF THIS SEAT. 8 by the template 'for every input the law returns true; each argument reads behind the call as it read before'; 0 by the template 'total and deterministic' (their statements: YtfkhgdbnjcdlmaaGreatDoorTotals.lean).
  GIVEN WITH THE SEED: the statements are not yours to turn. If you find one false, say at which input.
  Laid BY PROGRAM, IN A SANDBOX (cutbox-rows.mjs): the forced cells as the released guide's own fill.sh prints them over the translation 0827010e8d600179… (all of the seat's roots in one cut). By AI agents, Wed Nov 11 2026. No macro, syntax, notation, axiom, sorry.
-/
import Derived.Test.YtfkhgdbnjcdlmaaGreatDoorChecked
import GoSem.Claim
import GoSem.ClaimJoined
import GoSem.ClaimMapViews
import Derived.JoinedTies
import Derived.KernelRfl
namespace Go.Proofs.YtfkhgdbnjcdlmaaGreatDoor
/- THE CELL 'sum', in the pinned program and in every row, IS THE sha256 OF THE DUMP (.gsa) THAT YtfkhgdbnjcdlmaaGreatDoorProg.lean LOADS. Nothing in Lean hashes anything: it is a label: what it is worth is what the hold of that sum in a sandbox is worth. -/
noncomputable def Tryz.pinned : Pinned := { name := "ytfkhgdbnjcdlmaagreatdoor", sum := "0827010e8d600179e744c35963e5157207d3f8e8b782baa1a64a6938887faa14", checked := Tryz.checked }
namespace Rows
def none {H : Type} : Left H := { results := [], args := [] }

/- WHAT THE LISTED PACKAGE-LEVEL VARIABLES READ AS WHEN THE CALL BEGINS. Each datum BY PROGRAM (the guide's laid-datum.mjs) off the statement by which the dump's own 'gosem.cut.vars' lays the variable. In a bare row this is a premise. The card (YtfkhgdbnjcdlmaaGreatDoorCards.lean) ties it to the program's text. -/
def laid_math_bits_deBruijn64tab {H : Type} : DataW H := .agg [.lit (.int .u8 0), .lit (.int .u8 1), .lit (.int .u8 56), .lit (.int .u8 2), .lit (.int .u8 57), .lit (.int .u8 49), .lit (.int .u8 28), .lit (.int .u8 3), .lit (.int .u8 61), .lit (.int .u8 58), .lit (.int .u8 42), .lit (.int .u8 50), .lit (.int .u8 38), .lit (.int .u8 29), .lit (.int .u8 17), .lit (.int .u8 4), .lit (.int .u8 62), .lit (.int .u8 47), .lit (.int .u8 59), .lit (.int .u8 36), .lit (.int .u8 45), .lit (.int .u8 43), .lit (.int .u8 51), .lit (.int .u8 22), .lit (.int .u8 53), .lit (.int .u8 39), .lit (.int .u8 33), .lit (.int .u8 30), .lit (.int .u8 24), .lit (.int .u8 18), .lit (.int .u8 12), .lit (.int .u8 5), .lit (.int .u8 63), .lit (.int .u8 55), .lit (.int .u8 48), .lit (.int .u8 27), .lit (.int .u8 60), .lit (.int .u8 41), .lit (.int .u8 37), .lit (.int .u8 16), .lit (.int .u8 46), .lit (.int .u8 35), .lit (.int .u8 44), .lit (.int .u8 21), .lit (.int .u8 52), .lit (.int .u8 32), .lit (.int .u8 23), .lit (.int .u8 11), .lit (.int .u8 54), .lit (.int .u8 26), .lit (.int .u8 40), .lit (.int .u8 15), .lit (.int .u8 34), .lit (.int .u8 20), .lit (.int .u8 31), .lit (.int .u8 10), .lit (.int .u8 25), .lit (.int .u8 14), .lit (.int .u8 19), .lit (.int .u8 9), .lit (.int .u8 13), .lit (.int .u8 8), .lit (.int .u8 7), .lit (.int .u8 6)]

/-- 'laws.FnDominates': WHATEVER THE INPUT: true; the input reads as it did. -/
def fnDominatesSpec : ChangeSpec := { name := "fnDominates", fn := fun _ => fun
  | [d1, d2] => { results := [.lit (.bool true)], args := [d1, d2] }
  | _ => none }
def fnDominatesRow : OpenClaim := { program := "ytfkhgdbnjcdlmaagreatdoor", sum := "0827010e8d600179e744c35963e5157207d3f8e8b782baa1a64a6938887faa14", func := "loop.example/borrowcheck/laws.FnDominates", spec := "fnDominates", unfollowed := true, recurses := true, named := ["math/bits.deBruijn64tab"], apart := false, laid := [("math/bits.deBruijn64tab", laid_math_bits_deBruijn64tab)] }
def FnDominatesSaid : Prop := fnDominatesRow.holds Tryz.pinned (OpenSpec.ofChange fnDominatesSpec)

/-- ITS FALSE NEIGHBOUR: 'it returns false'. Refute it at one input. -/
def fnDominatesWrong : ChangeSpec := { name := "fnDominates", fn := fun _ => fun
  | [d1, d2] => { results := [.lit (.bool false)], args := [d1, d2] }
  | _ => none }
def FnDominatesWrongFalsely : Prop := fnDominatesRow.holds Tryz.pinned (OpenSpec.ofChange fnDominatesWrong)

/-- 'laws.FnDominatorsOf': WHATEVER THE INPUT: true; the input reads as it did. -/
def fnDominatorsOfSpec : ChangeSpec := { name := "fnDominatorsOf", fn := fun _ => fun
  | [d] => { results := [.lit (.bool true)], args := [d] }
  | _ => none }
def fnDominatorsOfRow : OpenClaim := { program := "ytfkhgdbnjcdlmaagreatdoor", sum := "0827010e8d600179e744c35963e5157207d3f8e8b782baa1a64a6938887faa14", func := "loop.example/borrowcheck/laws.FnDominatorsOf", spec := "fnDominatorsOf", unfollowed := true, recurses := true, named := ["math/bits.deBruijn64tab"], apart := false, laid := [("math/bits.deBruijn64tab", laid_math_bits_deBruijn64tab)] }
def FnDominatorsOfSaid : Prop := fnDominatorsOfRow.holds Tryz.pinned (OpenSpec.ofChange fnDominatorsOfSpec)

/-- ITS FALSE NEIGHBOUR: 'it returns false'. Refute it at one input. -/
def fnDominatorsOfWrong : ChangeSpec := { name := "fnDominatorsOf", fn := fun _ => fun
  | [d] => { results := [.lit (.bool false)], args := [d] }
  | _ => none }
def FnDominatorsOfWrongFalsely : Prop := fnDominatorsOfRow.holds Tryz.pinned (OpenSpec.ofChange fnDominatorsOfWrong)

/-- 'laws.FnLastDominator': WHATEVER THE INPUT: true; the input reads as it did. -/
def fnLastDominatorSpec : ChangeSpec := { name := "fnLastDominator", fn := fun _ => fun
  | [d] => { results := [.lit (.bool true)], args := [d] }
  | _ => none }
def fnLastDominatorRow : OpenClaim := { program := "ytfkhgdbnjcdlmaagreatdoor", sum := "0827010e8d600179e744c35963e5157207d3f8e8b782baa1a64a6938887faa14", func := "loop.example/borrowcheck/laws.FnLastDominator", spec := "fnLastDominator", unfollowed := true, recurses := true, named := ["math/bits.deBruijn64tab"], apart := false, laid := [("math/bits.deBruijn64tab", laid_math_bits_deBruijn64tab)] }
def FnLastDominatorSaid : Prop := fnLastDominatorRow.holds Tryz.pinned (OpenSpec.ofChange fnLastDominatorSpec)

/-- ITS FALSE NEIGHBOUR: 'it returns false'. Refute it at one input. -/
def fnLastDominatorWrong : ChangeSpec := { name := "fnLastDominator", fn := fun _ => fun
  | [d] => { results := [.lit (.bool false)], args := [d] }
  | _ => none }
def FnLastDominatorWrongFalsely : Prop := fnLastDominatorRow.holds Tryz.pinned (OpenSpec.ofChange fnLastDominatorWrong)

/-- 'laws.FnAlwaysReaches': WHATEVER THE INPUT: true; the input reads as it did. -/
def fnAlwaysReachesSpec : ChangeSpec := { name := "fnAlwaysReaches", fn := fun _ => fun
  | [d1, d2] => { results := [.lit (.bool true)], args := [d1, d2] }
  | _ => none }
def fnAlwaysReachesRow : OpenClaim := { program := "ytfkhgdbnjcdlmaagreatdoor", sum := "0827010e8d600179e744c35963e5157207d3f8e8b782baa1a64a6938887faa14", func := "loop.example/borrowcheck/laws.FnAlwaysReaches", spec := "fnAlwaysReaches", unfollowed := true, recurses := true, named := ["math/bits.deBruijn64tab"], apart := false, laid := [("math/bits.deBruijn64tab", laid_math_bits_deBruijn64tab)] }
def FnAlwaysReachesSaid : Prop := fnAlwaysReachesRow.holds Tryz.pinned (OpenSpec.ofChange fnAlwaysReachesSpec)

/-- ITS FALSE NEIGHBOUR: 'it returns false'. Refute it at one input. -/
def fnAlwaysReachesWrong : ChangeSpec := { name := "fnAlwaysReaches", fn := fun _ => fun
  | [d1, d2] => { results := [.lit (.bool false)], args := [d1, d2] }
  | _ => none }
def FnAlwaysReachesWrongFalsely : Prop := fnAlwaysReachesRow.holds Tryz.pinned (OpenSpec.ofChange fnAlwaysReachesWrong)

/-- 'laws.FnLoopOf': WHATEVER THE INPUT: true; the input reads as it did. -/
def fnLoopOfSpec : ChangeSpec := { name := "fnLoopOf", fn := fun _ => fun
  | [d] => { results := [.lit (.bool true)], args := [d] }
  | _ => none }
def fnLoopOfRow : OpenClaim := { program := "ytfkhgdbnjcdlmaagreatdoor", sum := "0827010e8d600179e744c35963e5157207d3f8e8b782baa1a64a6938887faa14", func := "loop.example/borrowcheck/laws.FnLoopOf", spec := "fnLoopOf", unfollowed := true, recurses := true, named := ["math/bits.deBruijn64tab"], apart := false, laid := [("math/bits.deBruijn64tab", laid_math_bits_deBruijn64tab)] }
def FnLoopOfSaid : Prop := fnLoopOfRow.holds Tryz.pinned (OpenSpec.ofChange fnLoopOfSpec)

/-- ITS FALSE NEIGHBOUR: 'it returns false'. Refute it at one input. -/
def fnLoopOfWrong : ChangeSpec := { name := "fnLoopOf", fn := fun _ => fun
  | [d] => { results := [.lit (.bool false)], args := [d] }
  | _ => none }
def FnLoopOfWrongFalsely : Prop := fnLoopOfRow.holds Tryz.pinned (OpenSpec.ofChange fnLoopOfWrong)

/-- 'laws.FnDominatesThree': WHATEVER THE INPUT: true; the input reads as it did. -/
def fnDominatesThreeSpec : ChangeSpec := { name := "fnDominatesThree", fn := fun _ => fun
  | [d] => { results := [.lit (.bool true)], args := [d] }
  | _ => none }
def fnDominatesThreeRow : OpenClaim := { program := "ytfkhgdbnjcdlmaagreatdoor", sum := "0827010e8d600179e744c35963e5157207d3f8e8b782baa1a64a6938887faa14", func := "loop.example/borrowcheck/laws.FnDominatesThree", spec := "fnDominatesThree", unfollowed := true, recurses := true, named := ["math/bits.deBruijn64tab"], apart := false, laid := [("math/bits.deBruijn64tab", laid_math_bits_deBruijn64tab)] }
def FnDominatesThreeSaid : Prop := fnDominatesThreeRow.holds Tryz.pinned (OpenSpec.ofChange fnDominatesThreeSpec)

/-- ITS FALSE NEIGHBOUR: 'it returns false'. Refute it at one input. -/
def fnDominatesThreeWrong : ChangeSpec := { name := "fnDominatesThree", fn := fun _ => fun
  | [d] => { results := [.lit (.bool false)], args := [d] }
  | _ => none }
def FnDominatesThreeWrongFalsely : Prop := fnDominatesThreeRow.holds Tryz.pinned (OpenSpec.ofChange fnDominatesThreeWrong)

/-- 'laws.FnFirstDominates': WHATEVER THE INPUT: true; the input reads as it did. -/
def fnFirstDominatesSpec : ChangeSpec := { name := "fnFirstDominates", fn := fun _ => fun
  | [d] => { results := [.lit (.bool true)], args := [d] }
  | _ => none }
def fnFirstDominatesRow : OpenClaim := { program := "ytfkhgdbnjcdlmaagreatdoor", sum := "0827010e8d600179e744c35963e5157207d3f8e8b782baa1a64a6938887faa14", func := "loop.example/borrowcheck/laws.FnFirstDominates", spec := "fnFirstDominates", unfollowed := true, recurses := true, named := ["math/bits.deBruijn64tab"], apart := false, laid := [("math/bits.deBruijn64tab", laid_math_bits_deBruijn64tab)] }
def FnFirstDominatesSaid : Prop := fnFirstDominatesRow.holds Tryz.pinned (OpenSpec.ofChange fnFirstDominatesSpec)

/-- ITS FALSE NEIGHBOUR: 'it returns false'. Refute it at one input. -/
def fnFirstDominatesWrong : ChangeSpec := { name := "fnFirstDominates", fn := fun _ => fun
  | [d] => { results := [.lit (.bool false)], args := [d] }
  | _ => none }
def FnFirstDominatesWrongFalsely : Prop := fnFirstDominatesRow.holds Tryz.pinned (OpenSpec.ofChange fnFirstDominatesWrong)

/-- 'laws.FnReachesThree': WHATEVER THE INPUT: true; the input reads as it did. -/
def fnReachesThreeSpec : ChangeSpec := { name := "fnReachesThree", fn := fun _ => fun
  | [d] => { results := [.lit (.bool true)], args := [d] }
  | _ => none }
def fnReachesThreeRow : OpenClaim := { program := "ytfkhgdbnjcdlmaagreatdoor", sum := "0827010e8d600179e744c35963e5157207d3f8e8b782baa1a64a6938887faa14", func := "loop.example/borrowcheck/laws.FnReachesThree", spec := "fnReachesThree", unfollowed := true, recurses := true, named := ["math/bits.deBruijn64tab"], apart := false, laid := [("math/bits.deBruijn64tab", laid_math_bits_deBruijn64tab)] }
def FnReachesThreeSaid : Prop := fnReachesThreeRow.holds Tryz.pinned (OpenSpec.ofChange fnReachesThreeSpec)

/-- ITS FALSE NEIGHBOUR: 'it returns false'. Refute it at one input. -/
def fnReachesThreeWrong : ChangeSpec := { name := "fnReachesThree", fn := fun _ => fun
  | [d] => { results := [.lit (.bool false)], args := [d] }
  | _ => none }
def FnReachesThreeWrongFalsely : Prop := fnReachesThreeRow.holds Tryz.pinned (OpenSpec.ofChange fnReachesThreeWrong)

/- THE SECOND FORM. 'bulk': how many values and letters a reading holds, each counted each time it is reached (what is shared counts as often as it is met; a slice's spare places count too). A statement '..UptoSaid' is the law's where the arguments, and the package variables that the reading takes, are together of bulk at most 1048576: NARROWER than '..Said'. Prove '..Said' where nothing that the law and all that it calls make is longer than what came in: it says more and counts as full. Else prove '..UptoSaid'. A law counts once. -/
mutual
def uptoBulk {H : Type} : DataW H → Nat
  | .lit (.string bytes) => bytes.length + 1
  | .lit _ => 1
  | .nil => 1
  | .ptr d => uptoBulk d + 1
  | .slice elems spare => uptoBulkAll elems + uptoBulkAll spare + 1
  | .agg parts => uptoBulkAll parts + 1
  | .iface _ d => uptoBulk d + 1
  | .map entries => uptoBulkEntries entries + 1
  | .held _ => 1
def uptoBulkAll {H : Type} : List (DataW H) → Nat
  | [] => 0
  | d :: r => uptoBulk d + uptoBulkAll r
def uptoBulkEntries {H : Type} : List (Lit × DataW H) → Nat
  | [] => 0
  | x :: r => uptoBulkEntry x + uptoBulkEntries r
def uptoBulkEntry {H : Type} : Lit × DataW H → Nat
  | (.string bytes, d) => bytes.length + uptoBulk d + 1
  | (_, d) => uptoBulk d + 1
 end
def uptoSmall : (H : Type) → List (DataW H) → Bool := fun _ ds => decide (uptoBulkAll ds ≤ 1048576)
def OpenSpec.upto (s : _root_.Go.ChangeSpec) : _root_.Go.OpenSpec := { _root_.Go.OpenSpec.ofChange s with cond := some uptoSmall }

/-- 'laws.FnDominates', WHERE WHAT IT READS IS OF BULK AT MOST 1048576: true; the input reads as it did. -/
def fnDominatesUptoRow : OpenClaim := { program := "ytfkhgdbnjcdlmaagreatdoor", sum := "0827010e8d600179e744c35963e5157207d3f8e8b782baa1a64a6938887faa14", func := "loop.example/borrowcheck/laws.FnDominates", spec := "fnDominates", unfollowed := true, recurses := true, named := ["math/bits.deBruijn64tab"], apart := false, laid := [("math/bits.deBruijn64tab", laid_math_bits_deBruijn64tab)], narrowed := true }
def FnDominatesUptoSaid : Prop := fnDominatesUptoRow.holds Tryz.pinned (OpenSpec.upto fnDominatesSpec)

/-- 'laws.FnDominatorsOf', WHERE WHAT IT READS IS OF BULK AT MOST 1048576: true; the input reads as it did. -/
def fnDominatorsOfUptoRow : OpenClaim := { program := "ytfkhgdbnjcdlmaagreatdoor", sum := "0827010e8d600179e744c35963e5157207d3f8e8b782baa1a64a6938887faa14", func := "loop.example/borrowcheck/laws.FnDominatorsOf", spec := "fnDominatorsOf", unfollowed := true, recurses := true, named := ["math/bits.deBruijn64tab"], apart := false, laid := [("math/bits.deBruijn64tab", laid_math_bits_deBruijn64tab)], narrowed := true }
def FnDominatorsOfUptoSaid : Prop := fnDominatorsOfUptoRow.holds Tryz.pinned (OpenSpec.upto fnDominatorsOfSpec)

/-- 'laws.FnLastDominator', WHERE WHAT IT READS IS OF BULK AT MOST 1048576: true; the input reads as it did. -/
def fnLastDominatorUptoRow : OpenClaim := { program := "ytfkhgdbnjcdlmaagreatdoor", sum := "0827010e8d600179e744c35963e5157207d3f8e8b782baa1a64a6938887faa14", func := "loop.example/borrowcheck/laws.FnLastDominator", spec := "fnLastDominator", unfollowed := true, recurses := true, named := ["math/bits.deBruijn64tab"], apart := false, laid := [("math/bits.deBruijn64tab", laid_math_bits_deBruijn64tab)], narrowed := true }
def FnLastDominatorUptoSaid : Prop := fnLastDominatorUptoRow.holds Tryz.pinned (OpenSpec.upto fnLastDominatorSpec)

/-- 'laws.FnAlwaysReaches', WHERE WHAT IT READS IS OF BULK AT MOST 1048576: true; the input reads as it did. -/
def fnAlwaysReachesUptoRow : OpenClaim := { program := "ytfkhgdbnjcdlmaagreatdoor", sum := "0827010e8d600179e744c35963e5157207d3f8e8b782baa1a64a6938887faa14", func := "loop.example/borrowcheck/laws.FnAlwaysReaches", spec := "fnAlwaysReaches", unfollowed := true, recurses := true, named := ["math/bits.deBruijn64tab"], apart := false, laid := [("math/bits.deBruijn64tab", laid_math_bits_deBruijn64tab)], narrowed := true }
def FnAlwaysReachesUptoSaid : Prop := fnAlwaysReachesUptoRow.holds Tryz.pinned (OpenSpec.upto fnAlwaysReachesSpec)

/-- 'laws.FnLoopOf', WHERE WHAT IT READS IS OF BULK AT MOST 1048576: true; the input reads as it did. -/
def fnLoopOfUptoRow : OpenClaim := { program := "ytfkhgdbnjcdlmaagreatdoor", sum := "0827010e8d600179e744c35963e5157207d3f8e8b782baa1a64a6938887faa14", func := "loop.example/borrowcheck/laws.FnLoopOf", spec := "fnLoopOf", unfollowed := true, recurses := true, named := ["math/bits.deBruijn64tab"], apart := false, laid := [("math/bits.deBruijn64tab", laid_math_bits_deBruijn64tab)], narrowed := true }
def FnLoopOfUptoSaid : Prop := fnLoopOfUptoRow.holds Tryz.pinned (OpenSpec.upto fnLoopOfSpec)

/-- 'laws.FnDominatesThree', WHERE WHAT IT READS IS OF BULK AT MOST 1048576: true; the input reads as it did. -/
def fnDominatesThreeUptoRow : OpenClaim := { program := "ytfkhgdbnjcdlmaagreatdoor", sum := "0827010e8d600179e744c35963e5157207d3f8e8b782baa1a64a6938887faa14", func := "loop.example/borrowcheck/laws.FnDominatesThree", spec := "fnDominatesThree", unfollowed := true, recurses := true, named := ["math/bits.deBruijn64tab"], apart := false, laid := [("math/bits.deBruijn64tab", laid_math_bits_deBruijn64tab)], narrowed := true }
def FnDominatesThreeUptoSaid : Prop := fnDominatesThreeUptoRow.holds Tryz.pinned (OpenSpec.upto fnDominatesThreeSpec)

/-- 'laws.FnFirstDominates', WHERE WHAT IT READS IS OF BULK AT MOST 1048576: true; the input reads as it did. -/
def fnFirstDominatesUptoRow : OpenClaim := { program := "ytfkhgdbnjcdlmaagreatdoor", sum := "0827010e8d600179e744c35963e5157207d3f8e8b782baa1a64a6938887faa14", func := "loop.example/borrowcheck/laws.FnFirstDominates", spec := "fnFirstDominates", unfollowed := true, recurses := true, named := ["math/bits.deBruijn64tab"], apart := false, laid := [("math/bits.deBruijn64tab", laid_math_bits_deBruijn64tab)], narrowed := true }
def FnFirstDominatesUptoSaid : Prop := fnFirstDominatesUptoRow.holds Tryz.pinned (OpenSpec.upto fnFirstDominatesSpec)

/-- 'laws.FnReachesThree', WHERE WHAT IT READS IS OF BULK AT MOST 1048576: true; the input reads as it did. -/
def fnReachesThreeUptoRow : OpenClaim := { program := "ytfkhgdbnjcdlmaagreatdoor", sum := "0827010e8d600179e744c35963e5157207d3f8e8b782baa1a64a6938887faa14", func := "loop.example/borrowcheck/laws.FnReachesThree", spec := "fnReachesThree", unfollowed := true, recurses := true, named := ["math/bits.deBruijn64tab"], apart := false, laid := [("math/bits.deBruijn64tab", laid_math_bits_deBruijn64tab)], narrowed := true }
def FnReachesThreeUptoSaid : Prop := fnReachesThreeUptoRow.holds Tryz.pinned (OpenSpec.upto fnReachesThreeSpec)

end Rows
end Go.Proofs.YtfkhgdbnjcdlmaaGreatDoor
