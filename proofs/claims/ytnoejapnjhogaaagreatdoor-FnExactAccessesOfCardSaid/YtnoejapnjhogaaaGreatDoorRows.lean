/-
  NARROWER THAN 'FOR EVERY INPUT', by the rows' own cells (each row's printed sentence says how): FnExactCellsOf: loops, laid · FnExactMayAlias: loops, laid · FnExactNumbersOf: loops, laid · FnExactNumberOf: loops, laid · FnExactSettersOf: loops, laid · FnExactUsersOf: loops, laid · FnExactAccessesOf: loops, laid · FnExactConflictsAt: loops, laid.
  DERIVED. THE GIVEN ROWS OF THIS SEAT. 8 by the template 'for every input the law returns true; each argument reads behind the call as it read before'; 0 by the template 'total and deterministic' (their statements: YtnoejapnjhogaaaGreatDoorTotals.lean).
  GIVEN WITH THE SEED: the statements are not yours to turn. If you find one false, say at which input.
  Laid BY PROGRAM, IN A SANDBOX (cutbox-rows.mjs): the forced cells as the released guide's own fill.sh prints them over the translation 3a1e9ed6bcdf2a6b… (all of the seat's roots in one cut). By AI agents, Wed Nov 11 2026. No macro, syntax, notation, axiom, sorry.
-/
import Derived.Test.YtnoejapnjhogaaaGreatDoorChecked
import GoSem.Claim
import GoSem.ClaimJoined
import GoSem.ClaimMapViews
import Derived.JoinedTies
import Derived.KernelRfl
namespace Go.Proofs.YtnoejapnjhogaaaGreatDoor
/- THE CELL 'sum', in the pinned program and in every row, IS THE sha256 OF THE DUMP (.gsa) THAT YtnoejapnjhogaaaGreatDoorProg.lean LOADS. Nothing in Lean hashes anything: it is a label: what it is worth is what the hold of that sum in a sandbox is worth. -/
noncomputable def Tryz.pinned : Pinned := { name := "ytnoejapnjhogaaagreatdoor", sum := "3a1e9ed6bcdf2a6bb5cfc3a99a3e8170b9d5f960daaafc99becf5d8d30c6a8b5", checked := Tryz.checked }
namespace Rows
def none {H : Type} : Left H := { results := [], args := [] }

/- WHAT THE LISTED PACKAGE-LEVEL VARIABLES READ AS WHEN THE CALL BEGINS. Each datum BY PROGRAM (the guide's laid-datum.mjs) off the statement by which the dump's own 'gosem.cut.vars' lays the variable. In a bare row this is a premise. The card (YtnoejapnjhogaaaGreatDoorCards.lean) ties it to the program's text. -/
def laid_math_bits_deBruijn64tab {H : Type} : DataW H := .agg [.lit (.int .u8 0), .lit (.int .u8 1), .lit (.int .u8 56), .lit (.int .u8 2), .lit (.int .u8 57), .lit (.int .u8 49), .lit (.int .u8 28), .lit (.int .u8 3), .lit (.int .u8 61), .lit (.int .u8 58), .lit (.int .u8 42), .lit (.int .u8 50), .lit (.int .u8 38), .lit (.int .u8 29), .lit (.int .u8 17), .lit (.int .u8 4), .lit (.int .u8 62), .lit (.int .u8 47), .lit (.int .u8 59), .lit (.int .u8 36), .lit (.int .u8 45), .lit (.int .u8 43), .lit (.int .u8 51), .lit (.int .u8 22), .lit (.int .u8 53), .lit (.int .u8 39), .lit (.int .u8 33), .lit (.int .u8 30), .lit (.int .u8 24), .lit (.int .u8 18), .lit (.int .u8 12), .lit (.int .u8 5), .lit (.int .u8 63), .lit (.int .u8 55), .lit (.int .u8 48), .lit (.int .u8 27), .lit (.int .u8 60), .lit (.int .u8 41), .lit (.int .u8 37), .lit (.int .u8 16), .lit (.int .u8 46), .lit (.int .u8 35), .lit (.int .u8 44), .lit (.int .u8 21), .lit (.int .u8 52), .lit (.int .u8 32), .lit (.int .u8 23), .lit (.int .u8 11), .lit (.int .u8 54), .lit (.int .u8 26), .lit (.int .u8 40), .lit (.int .u8 15), .lit (.int .u8 34), .lit (.int .u8 20), .lit (.int .u8 31), .lit (.int .u8 10), .lit (.int .u8 25), .lit (.int .u8 14), .lit (.int .u8 19), .lit (.int .u8 9), .lit (.int .u8 13), .lit (.int .u8 8), .lit (.int .u8 7), .lit (.int .u8 6)]

/-- 'laws.FnExactCellsOf': WHATEVER THE INPUT: true; the input reads as it did. -/
def fnExactCellsOfSpec : ChangeSpec := { name := "fnExactCellsOf", fn := fun _ => fun
  | [d1, d2, d3] => { results := [.lit (.bool true)], args := [d1, d2, d3] }
  | _ => none }
def fnExactCellsOfRow : OpenClaim := { program := "ytnoejapnjhogaaagreatdoor", sum := "3a1e9ed6bcdf2a6bb5cfc3a99a3e8170b9d5f960daaafc99becf5d8d30c6a8b5", func := "loop.example/borrowcheck/laws.FnExactCellsOf", spec := "fnExactCellsOf", unfollowed := true, recurses := true, named := ["math/bits.deBruijn64tab"], loops := true, apart := false, laid := [("math/bits.deBruijn64tab", laid_math_bits_deBruijn64tab)] }
def FnExactCellsOfSaid : Prop := fnExactCellsOfRow.holds Tryz.pinned (OpenSpec.ofChange fnExactCellsOfSpec)

/-- ITS FALSE NEIGHBOUR: 'it returns false'. Refute it at one input. -/
def fnExactCellsOfWrong : ChangeSpec := { name := "fnExactCellsOf", fn := fun _ => fun
  | [d1, d2, d3] => { results := [.lit (.bool false)], args := [d1, d2, d3] }
  | _ => none }
def FnExactCellsOfWrongFalsely : Prop := fnExactCellsOfRow.holds Tryz.pinned (OpenSpec.ofChange fnExactCellsOfWrong)

/-- 'laws.FnExactMayAlias': WHATEVER THE INPUT: true; the input reads as it did. -/
def fnExactMayAliasSpec : ChangeSpec := { name := "fnExactMayAlias", fn := fun _ => fun
  | [d1, d2, d3, d4] => { results := [.lit (.bool true)], args := [d1, d2, d3, d4] }
  | _ => none }
def fnExactMayAliasRow : OpenClaim := { program := "ytnoejapnjhogaaagreatdoor", sum := "3a1e9ed6bcdf2a6bb5cfc3a99a3e8170b9d5f960daaafc99becf5d8d30c6a8b5", func := "loop.example/borrowcheck/laws.FnExactMayAlias", spec := "fnExactMayAlias", unfollowed := true, recurses := true, named := ["math/bits.deBruijn64tab"], loops := true, apart := false, laid := [("math/bits.deBruijn64tab", laid_math_bits_deBruijn64tab)] }
def FnExactMayAliasSaid : Prop := fnExactMayAliasRow.holds Tryz.pinned (OpenSpec.ofChange fnExactMayAliasSpec)

/-- ITS FALSE NEIGHBOUR: 'it returns false'. Refute it at one input. -/
def fnExactMayAliasWrong : ChangeSpec := { name := "fnExactMayAlias", fn := fun _ => fun
  | [d1, d2, d3, d4] => { results := [.lit (.bool false)], args := [d1, d2, d3, d4] }
  | _ => none }
def FnExactMayAliasWrongFalsely : Prop := fnExactMayAliasRow.holds Tryz.pinned (OpenSpec.ofChange fnExactMayAliasWrong)

/-- 'laws.FnExactNumbersOf': WHATEVER THE INPUT: true; the input reads as it did. -/
def fnExactNumbersOfSpec : ChangeSpec := { name := "fnExactNumbersOf", fn := fun _ => fun
  | [d1, d2, d3] => { results := [.lit (.bool true)], args := [d1, d2, d3] }
  | _ => none }
def fnExactNumbersOfRow : OpenClaim := { program := "ytnoejapnjhogaaagreatdoor", sum := "3a1e9ed6bcdf2a6bb5cfc3a99a3e8170b9d5f960daaafc99becf5d8d30c6a8b5", func := "loop.example/borrowcheck/laws.FnExactNumbersOf", spec := "fnExactNumbersOf", unfollowed := true, recurses := true, named := ["math/bits.deBruijn64tab"], loops := true, apart := false, laid := [("math/bits.deBruijn64tab", laid_math_bits_deBruijn64tab)] }
def FnExactNumbersOfSaid : Prop := fnExactNumbersOfRow.holds Tryz.pinned (OpenSpec.ofChange fnExactNumbersOfSpec)

/-- ITS FALSE NEIGHBOUR: 'it returns false'. Refute it at one input. -/
def fnExactNumbersOfWrong : ChangeSpec := { name := "fnExactNumbersOf", fn := fun _ => fun
  | [d1, d2, d3] => { results := [.lit (.bool false)], args := [d1, d2, d3] }
  | _ => none }
def FnExactNumbersOfWrongFalsely : Prop := fnExactNumbersOfRow.holds Tryz.pinned (OpenSpec.ofChange fnExactNumbersOfWrong)

/-- 'laws.FnExactNumberOf': WHATEVER THE INPUT: true; the input reads as it did. -/
def fnExactNumberOfSpec : ChangeSpec := { name := "fnExactNumberOf", fn := fun _ => fun
  | [d1, d2, d3] => { results := [.lit (.bool true)], args := [d1, d2, d3] }
  | _ => none }
def fnExactNumberOfRow : OpenClaim := { program := "ytnoejapnjhogaaagreatdoor", sum := "3a1e9ed6bcdf2a6bb5cfc3a99a3e8170b9d5f960daaafc99becf5d8d30c6a8b5", func := "loop.example/borrowcheck/laws.FnExactNumberOf", spec := "fnExactNumberOf", unfollowed := true, recurses := true, named := ["math/bits.deBruijn64tab"], loops := true, apart := false, laid := [("math/bits.deBruijn64tab", laid_math_bits_deBruijn64tab)] }
def FnExactNumberOfSaid : Prop := fnExactNumberOfRow.holds Tryz.pinned (OpenSpec.ofChange fnExactNumberOfSpec)

/-- ITS FALSE NEIGHBOUR: 'it returns false'. Refute it at one input. -/
def fnExactNumberOfWrong : ChangeSpec := { name := "fnExactNumberOf", fn := fun _ => fun
  | [d1, d2, d3] => { results := [.lit (.bool false)], args := [d1, d2, d3] }
  | _ => none }
def FnExactNumberOfWrongFalsely : Prop := fnExactNumberOfRow.holds Tryz.pinned (OpenSpec.ofChange fnExactNumberOfWrong)

/-- 'laws.FnExactSettersOf': WHATEVER THE INPUT: true; the input reads as it did. -/
def fnExactSettersOfSpec : ChangeSpec := { name := "fnExactSettersOf", fn := fun _ => fun
  | [d1, d2, d3] => { results := [.lit (.bool true)], args := [d1, d2, d3] }
  | _ => none }
def fnExactSettersOfRow : OpenClaim := { program := "ytnoejapnjhogaaagreatdoor", sum := "3a1e9ed6bcdf2a6bb5cfc3a99a3e8170b9d5f960daaafc99becf5d8d30c6a8b5", func := "loop.example/borrowcheck/laws.FnExactSettersOf", spec := "fnExactSettersOf", unfollowed := true, recurses := true, named := ["math/bits.deBruijn64tab"], loops := true, apart := false, laid := [("math/bits.deBruijn64tab", laid_math_bits_deBruijn64tab)] }
def FnExactSettersOfSaid : Prop := fnExactSettersOfRow.holds Tryz.pinned (OpenSpec.ofChange fnExactSettersOfSpec)

/-- ITS FALSE NEIGHBOUR: 'it returns false'. Refute it at one input. -/
def fnExactSettersOfWrong : ChangeSpec := { name := "fnExactSettersOf", fn := fun _ => fun
  | [d1, d2, d3] => { results := [.lit (.bool false)], args := [d1, d2, d3] }
  | _ => none }
def FnExactSettersOfWrongFalsely : Prop := fnExactSettersOfRow.holds Tryz.pinned (OpenSpec.ofChange fnExactSettersOfWrong)

/-- 'laws.FnExactUsersOf': WHATEVER THE INPUT: true; the input reads as it did. -/
def fnExactUsersOfSpec : ChangeSpec := { name := "fnExactUsersOf", fn := fun _ => fun
  | [d1, d2] => { results := [.lit (.bool true)], args := [d1, d2] }
  | _ => none }
def fnExactUsersOfRow : OpenClaim := { program := "ytnoejapnjhogaaagreatdoor", sum := "3a1e9ed6bcdf2a6bb5cfc3a99a3e8170b9d5f960daaafc99becf5d8d30c6a8b5", func := "loop.example/borrowcheck/laws.FnExactUsersOf", spec := "fnExactUsersOf", unfollowed := true, recurses := true, named := ["math/bits.deBruijn64tab"], loops := true, apart := false, laid := [("math/bits.deBruijn64tab", laid_math_bits_deBruijn64tab)] }
def FnExactUsersOfSaid : Prop := fnExactUsersOfRow.holds Tryz.pinned (OpenSpec.ofChange fnExactUsersOfSpec)

/-- ITS FALSE NEIGHBOUR: 'it returns false'. Refute it at one input. -/
def fnExactUsersOfWrong : ChangeSpec := { name := "fnExactUsersOf", fn := fun _ => fun
  | [d1, d2] => { results := [.lit (.bool false)], args := [d1, d2] }
  | _ => none }
def FnExactUsersOfWrongFalsely : Prop := fnExactUsersOfRow.holds Tryz.pinned (OpenSpec.ofChange fnExactUsersOfWrong)

/-- 'laws.FnExactAccessesOf': WHATEVER THE INPUT: true; the input reads as it did. -/
def fnExactAccessesOfSpec : ChangeSpec := { name := "fnExactAccessesOf", fn := fun _ => fun
  | [d1, d2] => { results := [.lit (.bool true)], args := [d1, d2] }
  | _ => none }
def fnExactAccessesOfRow : OpenClaim := { program := "ytnoejapnjhogaaagreatdoor", sum := "3a1e9ed6bcdf2a6bb5cfc3a99a3e8170b9d5f960daaafc99becf5d8d30c6a8b5", func := "loop.example/borrowcheck/laws.FnExactAccessesOf", spec := "fnExactAccessesOf", unfollowed := true, recurses := true, named := ["math/bits.deBruijn64tab"], loops := true, apart := false, laid := [("math/bits.deBruijn64tab", laid_math_bits_deBruijn64tab)] }
def FnExactAccessesOfSaid : Prop := fnExactAccessesOfRow.holds Tryz.pinned (OpenSpec.ofChange fnExactAccessesOfSpec)

/-- ITS FALSE NEIGHBOUR: 'it returns false'. Refute it at one input. -/
def fnExactAccessesOfWrong : ChangeSpec := { name := "fnExactAccessesOf", fn := fun _ => fun
  | [d1, d2] => { results := [.lit (.bool false)], args := [d1, d2] }
  | _ => none }
def FnExactAccessesOfWrongFalsely : Prop := fnExactAccessesOfRow.holds Tryz.pinned (OpenSpec.ofChange fnExactAccessesOfWrong)

/-- 'laws.FnExactConflictsAt': WHATEVER THE INPUT: true; the input reads as it did. -/
def fnExactConflictsAtSpec : ChangeSpec := { name := "fnExactConflictsAt", fn := fun _ => fun
  | [d1, d2] => { results := [.lit (.bool true)], args := [d1, d2] }
  | _ => none }
def fnExactConflictsAtRow : OpenClaim := { program := "ytnoejapnjhogaaagreatdoor", sum := "3a1e9ed6bcdf2a6bb5cfc3a99a3e8170b9d5f960daaafc99becf5d8d30c6a8b5", func := "loop.example/borrowcheck/laws.FnExactConflictsAt", spec := "fnExactConflictsAt", unfollowed := true, recurses := true, named := ["math/bits.deBruijn64tab"], loops := true, apart := false, laid := [("math/bits.deBruijn64tab", laid_math_bits_deBruijn64tab)] }
def FnExactConflictsAtSaid : Prop := fnExactConflictsAtRow.holds Tryz.pinned (OpenSpec.ofChange fnExactConflictsAtSpec)

/-- ITS FALSE NEIGHBOUR: 'it returns false'. Refute it at one input. -/
def fnExactConflictsAtWrong : ChangeSpec := { name := "fnExactConflictsAt", fn := fun _ => fun
  | [d1, d2] => { results := [.lit (.bool false)], args := [d1, d2] }
  | _ => none }
def FnExactConflictsAtWrongFalsely : Prop := fnExactConflictsAtRow.holds Tryz.pinned (OpenSpec.ofChange fnExactConflictsAtWrong)

/- THE SECOND FORM. 'bulk': how many values and letters a reading holds, each counted each time it is reached (what is shared counts as often as it is met; a slice's spare places count too). A statement '..UptoSaid' is the law's where the arguments, and the package variables that the reading takes, are together of bulk at most 1048576: NARROWER than '..Said'. Prove '..Said' where nothing that the law and all that it calls make is longer than what came in: it says more and counts as full. Else prove '..UptoSaid'. A law counts once. -/
mutual
def uptoBulk {H : Type} : DataW H → Nat
  | .lit (.string bytes) => bytes.length + 1
  | .lit _ => 1
  | .nil => 1
  | .ptr d => uptoBulk d + 1
  | .slice elems spare => uptoBulkAll elems + uptoBulkAll spare + 1
  | .agg parts => uptoBulkAll parts + 1
  | .iface _ d => uptoBulk d + 1
  | .map entries => uptoBulkEntries entries + 1
  | .held _ => 1
def uptoBulkAll {H : Type} : List (DataW H) → Nat
  | [] => 0
  | d :: r => uptoBulk d + uptoBulkAll r
def uptoBulkEntries {H : Type} : List (Lit × DataW H) → Nat
  | [] => 0
  | x :: r => uptoBulkEntry x + uptoBulkEntries r
def uptoBulkEntry {H : Type} : Lit × DataW H → Nat
  | (.string bytes, d) => bytes.length + uptoBulk d + 1
  | (_, d) => uptoBulk d + 1
 end
def uptoSmall : (H : Type) → List (DataW H) → Bool := fun _ ds => decide (uptoBulkAll ds ≤ 1048576)
def OpenSpec.upto (s : _root_.Go.ChangeSpec) : _root_.Go.OpenSpec := { _root_.Go.OpenSpec.ofChange s with cond := some uptoSmall }

/-- 'laws.FnExactCellsOf', WHERE WHAT IT READS IS OF BULK AT MOST 1048576: true; the input reads as it did. -/
def fnExactCellsOfUptoRow : OpenClaim := { program := "ytnoejapnjhogaaagreatdoor", sum := "3a1e9ed6bcdf2a6bb5cfc3a99a3e8170b9d5f960daaafc99becf5d8d30c6a8b5", func := "loop.example/borrowcheck/laws.FnExactCellsOf", spec := "fnExactCellsOf", unfollowed := true, recurses := true, named := ["math/bits.deBruijn64tab"], loops := true, apart := false, laid := [("math/bits.deBruijn64tab", laid_math_bits_deBruijn64tab)], narrowed := true }
def FnExactCellsOfUptoSaid : Prop := fnExactCellsOfUptoRow.holds Tryz.pinned (OpenSpec.upto fnExactCellsOfSpec)

/-- 'laws.FnExactMayAlias', WHERE WHAT IT READS IS OF BULK AT MOST 1048576: true; the input reads as it did. -/
def fnExactMayAliasUptoRow : OpenClaim := { program := "ytnoejapnjhogaaagreatdoor", sum := "3a1e9ed6bcdf2a6bb5cfc3a99a3e8170b9d5f960daaafc99becf5d8d30c6a8b5", func := "loop.example/borrowcheck/laws.FnExactMayAlias", spec := "fnExactMayAlias", unfollowed := true, recurses := true, named := ["math/bits.deBruijn64tab"], loops := true, apart := false, laid := [("math/bits.deBruijn64tab", laid_math_bits_deBruijn64tab)], narrowed := true }
def FnExactMayAliasUptoSaid : Prop := fnExactMayAliasUptoRow.holds Tryz.pinned (OpenSpec.upto fnExactMayAliasSpec)

/-- 'laws.FnExactNumbersOf', WHERE WHAT IT READS IS OF BULK AT MOST 1048576: true; the input reads as it did. -/
def fnExactNumbersOfUptoRow : OpenClaim := { program := "ytnoejapnjhogaaagreatdoor", sum := "3a1e9ed6bcdf2a6bb5cfc3a99a3e8170b9d5f960daaafc99becf5d8d30c6a8b5", func := "loop.example/borrowcheck/laws.FnExactNumbersOf", spec := "fnExactNumbersOf", unfollowed := true, recurses := true, named := ["math/bits.deBruijn64tab"], loops := true, apart := false, laid := [("math/bits.deBruijn64tab", laid_math_bits_deBruijn64tab)], narrowed := true }
def FnExactNumbersOfUptoSaid : Prop := fnExactNumbersOfUptoRow.holds Tryz.pinned (OpenSpec.upto fnExactNumbersOfSpec)

/-- 'laws.FnExactNumberOf', WHERE WHAT IT READS IS OF BULK AT MOST 1048576: true; the input reads as it did. -/
def fnExactNumberOfUptoRow : OpenClaim := { program := "ytnoejapnjhogaaagreatdoor", sum := "3a1e9ed6bcdf2a6bb5cfc3a99a3e8170b9d5f960daaafc99becf5d8d30c6a8b5", func := "loop.example/borrowcheck/laws.FnExactNumberOf", spec := "fnExactNumberOf", unfollowed := true, recurses := true, named := ["math/bits.deBruijn64tab"], loops := true, apart := false, laid := [("math/bits.deBruijn64tab", laid_math_bits_deBruijn64tab)], narrowed := true }
def FnExactNumberOfUptoSaid : Prop := fnExactNumberOfUptoRow.holds Tryz.pinned (OpenSpec.upto fnExactNumberOfSpec)

/-- 'laws.FnExactSettersOf', WHERE WHAT IT READS IS OF BULK AT MOST 1048576: true; the input reads as it did. -/
def fnExactSettersOfUptoRow : OpenClaim := { program := "ytnoejapnjhogaaagreatdoor", sum := "3a1e9ed6bcdf2a6bb5cfc3a99a3e8170b9d5f960daaafc99becf5d8d30c6a8b5", func := "loop.example/borrowcheck/laws.FnExactSettersOf", spec := "fnExactSettersOf", unfollowed := true, recurses := true, named := ["math/bits.deBruijn64tab"], loops := true, apart := false, laid := [("math/bits.deBruijn64tab", laid_math_bits_deBruijn64tab)], narrowed := true }
def FnExactSettersOfUptoSaid : Prop := fnExactSettersOfUptoRow.holds Tryz.pinned (OpenSpec.upto fnExactSettersOfSpec)

/-- 'laws.FnExactUsersOf', WHERE WHAT IT READS IS OF BULK AT MOST 1048576: true; the input reads as it did. -/
def fnExactUsersOfUptoRow : OpenClaim := { program := "ytnoejapnjhogaaagreatdoor", sum := "3a1e9ed6bcdf2a6bb5cfc3a99a3e8170b9d5f960daaafc99becf5d8d30c6a8b5", func := "loop.example/borrowcheck/laws.FnExactUsersOf", spec := "fnExactUsersOf", unfollowed := true, recurses := true, named := ["math/bits.deBruijn64tab"], loops := true, apart := false, laid := [("math/bits.deBruijn64tab", laid_math_bits_deBruijn64tab)], narrowed := true }
def FnExactUsersOfUptoSaid : Prop := fnExactUsersOfUptoRow.holds Tryz.pinned (OpenSpec.upto fnExactUsersOfSpec)

/-- 'laws.FnExactAccessesOf', WHERE WHAT IT READS IS OF BULK AT MOST 1048576: true; the input reads as it did. -/
def fnExactAccessesOfUptoRow : OpenClaim := { program := "ytnoejapnjhogaaagreatdoor", sum := "3a1e9ed6bcdf2a6bb5cfc3a99a3e8170b9d5f960daaafc99becf5d8d30c6a8b5", func := "loop.example/borrowcheck/laws.FnExactAccessesOf", spec := "fnExactAccessesOf", unfollowed := true, recurses := true, named := ["math/bits.deBruijn64tab"], loops := true, apart := false, laid := [("math/bits.deBruijn64tab", laid_math_bits_deBruijn64tab)], narrowed := true }
def FnExactAccessesOfUptoSaid : Prop := fnExactAccessesOfUptoRow.holds Tryz.pinned (OpenSpec.upto fnExactAccessesOfSpec)

/-- 'laws.FnExactConflictsAt', WHERE WHAT IT READS IS OF BULK AT MOST 1048576: true; the input reads as it did. -/
def fnExactConflictsAtUptoRow : OpenClaim := { program := "ytnoejapnjhogaaagreatdoor", sum := "3a1e9ed6bcdf2a6bb5cfc3a99a3e8170b9d5f960daaafc99becf5d8d30c6a8b5", func := "loop.example/borrowcheck/laws.FnExactConflictsAt", spec := "fnExactConflictsAt", unfollowed := true, recurses := true, named := ["math/bits.deBruijn64tab"], loops := true, apart := false, laid := [("math/bits.deBruijn64tab", laid_math_bits_deBruijn64tab)], narrowed := true }
def FnExactConflictsAtUptoSaid : Prop := fnExactConflictsAtUptoRow.holds Tryz.pinned (OpenSpec.upto fnExactConflictsAtSpec)

end Rows
end Go.Proofs.YtnoejapnjhogaaaGreatDoor
