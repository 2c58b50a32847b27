/-
  NARROWER THAN 'FOR EVERY INPUT', by the rows' own cells (each row's printed sentence says how): FnExactLoansIn: loops, laid · FnExactPlacedLoans: loops, laid · FnExactLiveLoans: loops, laid · FnExactAccessesOf: loops, laid · FnExactConflictsAt: loops, laid · FnExactCheckProgram: loops, laid · FnExactAccepts: loops, laid · FnExactCheckPlain: loops, laid · FnExactFirstIssue: loops, laid · FnExactFormatIssue: loops, laid · FnExactRepairProgram: loops, laid.
  DERIVED. THE GIVEN ROWS OF THIS SEAT. 11 by the template 'for every input the law returns true; each argument reads behind the call as it read before'; 0 by the template 'total and deterministic' (their statements: YtheiiifmdjikmaaGreatDoorTotals.lean).
  GIVEN WITH THE SEED: the statements are not yours to turn. If you find one false, say at which input.
  Laid BY PROGRAM, IN A SANDBOX (cutbox-rows.mjs): the forced cells as the released guide's own fill.sh prints them over the translation efd1b143f7ea8259… (all of the seat's roots in one cut). By AI agents, Wed Nov 11 2026. No macro, syntax, notation, axiom, sorry.
-/
import Derived.Test.YtheiiifmdjikmaaGreatDoorChecked
import GoSem.Claim
import GoSem.ClaimJoined
import GoSem.ClaimMapViews
import Derived.JoinedTies
import Derived.KernelRfl
namespace Go.Proofs.YtheiiifmdjikmaaGreatDoor
/- THE CELL 'sum', in the pinned program and in every row, IS THE sha256 OF THE DUMP (.gsa) THAT YtheiiifmdjikmaaGreatDoorProg.lean LOADS. Nothing in Lean hashes anything: it is a label: what it is worth is what the hold of that sum in a sandbox is worth. -/
noncomputable def Tryz.pinned : Pinned := { name := "ytheiiifmdjikmaagreatdoor", sum := "efd1b143f7ea8259cb1bcffd388c6be308aa11d16b8778402d7bf8aa90da691c", checked := Tryz.checked }
namespace Rows
def none {H : Type} : Left H := { results := [], args := [] }

/- WHAT THE LISTED PACKAGE-LEVEL VARIABLES READ AS WHEN THE CALL BEGINS. Each datum BY PROGRAM (the guide's laid-datum.mjs) off the statement by which the dump's own 'gosem.cut.vars' lays the variable. In a bare row this is a premise. The card (YtheiiifmdjikmaaGreatDoorCards.lean) ties it to the program's text. -/
def laid_math_bits_deBruijn64tab {H : Type} : DataW H := .agg [.lit (.int .u8 0), .lit (.int .u8 1), .lit (.int .u8 56), .lit (.int .u8 2), .lit (.int .u8 57), .lit (.int .u8 49), .lit (.int .u8 28), .lit (.int .u8 3), .lit (.int .u8 61), .lit (.int .u8 58), .lit (.int .u8 42), .lit (.int .u8 50), .lit (.int .u8 38), .lit (.int .u8 29), .lit (.int .u8 17), .lit (.int .u8 4), .lit (.int .u8 62), .lit (.int .u8 47), .lit (.int .u8 59), .lit (.int .u8 36), .lit (.int .u8 45), .lit (.int .u8 43), .lit (.int .u8 51), .lit (.int .u8 22), .lit (.int .u8 53), .lit (.int .u8 39), .lit (.int .u8 33), .lit (.int .u8 30), .lit (.int .u8 24), .lit (.int .u8 18), .lit (.int .u8 12), .lit (.int .u8 5), .lit (.int .u8 63), .lit (.int .u8 55), .lit (.int .u8 48), .lit (.int .u8 27), .lit (.int .u8 60), .lit (.int .u8 41), .lit (.int .u8 37), .lit (.int .u8 16), .lit (.int .u8 46), .lit (.int .u8 35), .lit (.int .u8 44), .lit (.int .u8 21), .lit (.int .u8 52), .lit (.int .u8 32), .lit (.int .u8 23), .lit (.int .u8 11), .lit (.int .u8 54), .lit (.int .u8 26), .lit (.int .u8 40), .lit (.int .u8 15), .lit (.int .u8 34), .lit (.int .u8 20), .lit (.int .u8 31), .lit (.int .u8 10), .lit (.int .u8 25), .lit (.int .u8 14), .lit (.int .u8 19), .lit (.int .u8 9), .lit (.int .u8 13), .lit (.int .u8 8), .lit (.int .u8 7), .lit (.int .u8 6)]
def laid_math_bits_deBruijn32tab {H : Type} : DataW H := .agg [.lit (.int .u8 0), .lit (.int .u8 1), .lit (.int .u8 28), .lit (.int .u8 2), .lit (.int .u8 29), .lit (.int .u8 14), .lit (.int .u8 24), .lit (.int .u8 3), .lit (.int .u8 30), .lit (.int .u8 22), .lit (.int .u8 20), .lit (.int .u8 15), .lit (.int .u8 25), .lit (.int .u8 17), .lit (.int .u8 4), .lit (.int .u8 8), .lit (.int .u8 31), .lit (.int .u8 27), .lit (.int .u8 13), .lit (.int .u8 23), .lit (.int .u8 21), .lit (.int .u8 19), .lit (.int .u8 16), .lit (.int .u8 7), .lit (.int .u8 26), .lit (.int .u8 12), .lit (.int .u8 18), .lit (.int .u8 6), .lit (.int .u8 11), .lit (.int .u8 5), .lit (.int .u8 10), .lit (.int .u8 9)]
def laid_internal_strconv_uint64pow10 {H : Type} : DataW H := .agg [.lit (.int .u64 1), .lit (.int .u64 10), .lit (.int .u64 100), .lit (.int .u64 1000), .lit (.int .u64 10000), .lit (.int .u64 100000), .lit (.int .u64 1000000), .lit (.int .u64 10000000), .lit (.int .u64 100000000), .lit (.int .u64 1000000000), .lit (.int .u64 10000000000), .lit (.int .u64 100000000000), .lit (.int .u64 1000000000000), .lit (.int .u64 10000000000000), .lit (.int .u64 100000000000000), .lit (.int .u64 1000000000000000), .lit (.int .u64 10000000000000000), .lit (.int .u64 100000000000000000), .lit (.int .u64 1000000000000000000), .lit (.int .u64 10000000000000000000)]

/-- 'laws.FnExactLoansIn': WHATEVER THE INPUT: true; the input reads as it did. -/
def fnExactLoansInSpec : ChangeSpec := { name := "fnExactLoansIn", fn := fun _ => fun
  | [d1, d2, d3] => { results := [.lit (.bool true)], args := [d1, d2, d3] }
  | _ => none }
def fnExactLoansInRow : OpenClaim := { program := "ytheiiifmdjikmaagreatdoor", sum := "efd1b143f7ea8259cb1bcffd388c6be308aa11d16b8778402d7bf8aa90da691c", func := "loop.example/borrowcheck/laws.FnExactLoansIn", spec := "fnExactLoansIn", unfollowed := true, recurses := true, named := ["math/bits.deBruijn64tab"], loops := true, apart := false, laid := [("math/bits.deBruijn64tab", laid_math_bits_deBruijn64tab)] }
def FnExactLoansInSaid : Prop := fnExactLoansInRow.holds Tryz.pinned (OpenSpec.ofChange fnExactLoansInSpec)

/-- ITS FALSE NEIGHBOUR: 'it returns false'. Refute it at one input. -/
def fnExactLoansInWrong : ChangeSpec := { name := "fnExactLoansIn", fn := fun _ => fun
  | [d1, d2, d3] => { results := [.lit (.bool false)], args := [d1, d2, d3] }
  | _ => none }
def FnExactLoansInWrongFalsely : Prop := fnExactLoansInRow.holds Tryz.pinned (OpenSpec.ofChange fnExactLoansInWrong)

/-- 'laws.FnExactPlacedLoans': WHATEVER THE INPUT: true; the input reads as it did. -/
def fnExactPlacedLoansSpec : ChangeSpec := { name := "fnExactPlacedLoans", fn := fun _ => fun
  | [d1, d2] => { results := [.lit (.bool true)], args := [d1, d2] }
  | _ => none }
def fnExactPlacedLoansRow : OpenClaim := { program := "ytheiiifmdjikmaagreatdoor", sum := "efd1b143f7ea8259cb1bcffd388c6be308aa11d16b8778402d7bf8aa90da691c", func := "loop.example/borrowcheck/laws.FnExactPlacedLoans", spec := "fnExactPlacedLoans", unfollowed := true, recurses := true, named := ["math/bits.deBruijn64tab"], loops := true, apart := false, laid := [("math/bits.deBruijn64tab", laid_math_bits_deBruijn64tab)] }
def FnExactPlacedLoansSaid : Prop := fnExactPlacedLoansRow.holds Tryz.pinned (OpenSpec.ofChange fnExactPlacedLoansSpec)

/-- ITS FALSE NEIGHBOUR: 'it returns false'. Refute it at one input. -/
def fnExactPlacedLoansWrong : ChangeSpec := { name := "fnExactPlacedLoans", fn := fun _ => fun
  | [d1, d2] => { results := [.lit (.bool false)], args := [d1, d2] }
  | _ => none }
def FnExactPlacedLoansWrongFalsely : Prop := fnExactPlacedLoansRow.holds Tryz.pinned (OpenSpec.ofChange fnExactPlacedLoansWrong)

/-- 'laws.FnExactLiveLoans': WHATEVER THE INPUT: true; the input reads as it did. -/
def fnExactLiveLoansSpec : ChangeSpec := { name := "fnExactLiveLoans", fn := fun _ => fun
  | [d1, d2] => { results := [.lit (.bool true)], args := [d1, d2] }
  | _ => none }
def fnExactLiveLoansRow : OpenClaim := { program := "ytheiiifmdjikmaagreatdoor", sum := "efd1b143f7ea8259cb1bcffd388c6be308aa11d16b8778402d7bf8aa90da691c", func := "loop.example/borrowcheck/laws.FnExactLiveLoans", spec := "fnExactLiveLoans", unfollowed := true, recurses := true, named := ["math/bits.deBruijn64tab"], loops := true, apart := false, laid := [("math/bits.deBruijn64tab", laid_math_bits_deBruijn64tab)] }
def FnExactLiveLoansSaid : Prop := fnExactLiveLoansRow.holds Tryz.pinned (OpenSpec.ofChange fnExactLiveLoansSpec)

/-- ITS FALSE NEIGHBOUR: 'it returns false'. Refute it at one input. -/
def fnExactLiveLoansWrong : ChangeSpec := { name := "fnExactLiveLoans", fn := fun _ => fun
  | [d1, d2] => { results := [.lit (.bool false)], args := [d1, d2] }
  | _ => none }
def FnExactLiveLoansWrongFalsely : Prop := fnExactLiveLoansRow.holds Tryz.pinned (OpenSpec.ofChange fnExactLiveLoansWrong)

/-- 'laws.FnExactAccessesOf': WHATEVER THE INPUT: true; the input reads as it did. -/
def fnExactAccessesOfSpec : ChangeSpec := { name := "fnExactAccessesOf", fn := fun _ => fun
  | [d1, d2] => { results := [.lit (.bool true)], args := [d1, d2] }
  | _ => none }
def fnExactAccessesOfRow : OpenClaim := { program := "ytheiiifmdjikmaagreatdoor", sum := "efd1b143f7ea8259cb1bcffd388c6be308aa11d16b8778402d7bf8aa90da691c", func := "loop.example/borrowcheck/laws.FnExactAccessesOf", spec := "fnExactAccessesOf", unfollowed := true, recurses := true, named := ["math/bits.deBruijn64tab"], loops := true, apart := false, laid := [("math/bits.deBruijn64tab", laid_math_bits_deBruijn64tab)] }
def FnExactAccessesOfSaid : Prop := fnExactAccessesOfRow.holds Tryz.pinned (OpenSpec.ofChange fnExactAccessesOfSpec)

/-- ITS FALSE NEIGHBOUR: 'it returns false'. Refute it at one input. -/
def fnExactAccessesOfWrong : ChangeSpec := { name := "fnExactAccessesOf", fn := fun _ => fun
  | [d1, d2] => { results := [.lit (.bool false)], args := [d1, d2] }
  | _ => none }
def FnExactAccessesOfWrongFalsely : Prop := fnExactAccessesOfRow.holds Tryz.pinned (OpenSpec.ofChange fnExactAccessesOfWrong)

/-- 'laws.FnExactConflictsAt': WHATEVER THE INPUT: true; the input reads as it did. -/
def fnExactConflictsAtSpec : ChangeSpec := { name := "fnExactConflictsAt", fn := fun _ => fun
  | [d1, d2] => { results := [.lit (.bool true)], args := [d1, d2] }
  | _ => none }
def fnExactConflictsAtRow : OpenClaim := { program := "ytheiiifmdjikmaagreatdoor", sum := "efd1b143f7ea8259cb1bcffd388c6be308aa11d16b8778402d7bf8aa90da691c", func := "loop.example/borrowcheck/laws.FnExactConflictsAt", spec := "fnExactConflictsAt", unfollowed := true, recurses := true, named := ["math/bits.deBruijn64tab"], loops := true, apart := false, laid := [("math/bits.deBruijn64tab", laid_math_bits_deBruijn64tab)] }
def FnExactConflictsAtSaid : Prop := fnExactConflictsAtRow.holds Tryz.pinned (OpenSpec.ofChange fnExactConflictsAtSpec)

/-- ITS FALSE NEIGHBOUR: 'it returns false'. Refute it at one input. -/
def fnExactConflictsAtWrong : ChangeSpec := { name := "fnExactConflictsAt", fn := fun _ => fun
  | [d1, d2] => { results := [.lit (.bool false)], args := [d1, d2] }
  | _ => none }
def FnExactConflictsAtWrongFalsely : Prop := fnExactConflictsAtRow.holds Tryz.pinned (OpenSpec.ofChange fnExactConflictsAtWrong)

/-- 'laws.FnExactCheckProgram': WHATEVER THE INPUT: true; the input reads as it did. -/
def fnExactCheckProgramSpec : ChangeSpec := { name := "fnExactCheckProgram", fn := fun _ => fun
  | [d] => { results := [.lit (.bool true)], args := [d] }
  | _ => none }
def fnExactCheckProgramRow : OpenClaim := { program := "ytheiiifmdjikmaagreatdoor", sum := "efd1b143f7ea8259cb1bcffd388c6be308aa11d16b8778402d7bf8aa90da691c", func := "loop.example/borrowcheck/laws.FnExactCheckProgram", spec := "fnExactCheckProgram", unfollowed := true, recurses := true, named := ["math/bits.deBruijn64tab"], loops := true, apart := false, laid := [("math/bits.deBruijn64tab", laid_math_bits_deBruijn64tab)] }
def FnExactCheckProgramSaid : Prop := fnExactCheckProgramRow.holds Tryz.pinned (OpenSpec.ofChange fnExactCheckProgramSpec)

/-- ITS FALSE NEIGHBOUR: 'it returns false'. Refute it at one input. -/
def fnExactCheckProgramWrong : ChangeSpec := { name := "fnExactCheckProgram", fn := fun _ => fun
  | [d] => { results := [.lit (.bool false)], args := [d] }
  | _ => none }
def FnExactCheckProgramWrongFalsely : Prop := fnExactCheckProgramRow.holds Tryz.pinned (OpenSpec.ofChange fnExactCheckProgramWrong)

/-- 'laws.FnExactAccepts': WHATEVER THE INPUT: true; the input reads as it did. -/
def fnExactAcceptsSpec : ChangeSpec := { name := "fnExactAccepts", fn := fun _ => fun
  | [d] => { results := [.lit (.bool true)], args := [d] }
  | _ => none }
def fnExactAcceptsRow : OpenClaim := { program := "ytheiiifmdjikmaagreatdoor", sum := "efd1b143f7ea8259cb1bcffd388c6be308aa11d16b8778402d7bf8aa90da691c", func := "loop.example/borrowcheck/laws.FnExactAccepts", spec := "fnExactAccepts", unfollowed := true, recurses := true, named := ["math/bits.deBruijn64tab"], loops := true, apart := false, laid := [("math/bits.deBruijn64tab", laid_math_bits_deBruijn64tab)] }
def FnExactAcceptsSaid : Prop := fnExactAcceptsRow.holds Tryz.pinned (OpenSpec.ofChange fnExactAcceptsSpec)

/-- ITS FALSE NEIGHBOUR: 'it returns false'. Refute it at one input. -/
def fnExactAcceptsWrong : ChangeSpec := { name := "fnExactAccepts", fn := fun _ => fun
  | [d] => { results := [.lit (.bool false)], args := [d] }
  | _ => none }
def FnExactAcceptsWrongFalsely : Prop := fnExactAcceptsRow.holds Tryz.pinned (OpenSpec.ofChange fnExactAcceptsWrong)

/-- 'laws.FnExactCheckPlain': WHATEVER THE INPUT: true; the input reads as it did. -/
def fnExactCheckPlainSpec : ChangeSpec := { name := "fnExactCheckPlain", fn := fun _ => fun
  | [d] => { results := [.lit (.bool true)], args := [d] }
  | _ => none }
def fnExactCheckPlainRow : OpenClaim := { program := "ytheiiifmdjikmaagreatdoor", sum := "efd1b143f7ea8259cb1bcffd388c6be308aa11d16b8778402d7bf8aa90da691c", func := "loop.example/borrowcheck/laws.FnExactCheckPlain", spec := "fnExactCheckPlain", unfollowed := true, recurses := true, named := ["math/bits.deBruijn64tab"], loops := true, apart := false, laid := [("math/bits.deBruijn64tab", laid_math_bits_deBruijn64tab)] }
def FnExactCheckPlainSaid : Prop := fnExactCheckPlainRow.holds Tryz.pinned (OpenSpec.ofChange fnExactCheckPlainSpec)

/-- ITS FALSE NEIGHBOUR: 'it returns false'. Refute it at one input. -/
def fnExactCheckPlainWrong : ChangeSpec := { name := "fnExactCheckPlain", fn := fun _ => fun
  | [d] => { results := [.lit (.bool false)], args := [d] }
  | _ => none }
def FnExactCheckPlainWrongFalsely : Prop := fnExactCheckPlainRow.holds Tryz.pinned (OpenSpec.ofChange fnExactCheckPlainWrong)

/-- 'laws.FnExactFirstIssue': WHATEVER THE INPUT: true; the input reads as it did. -/
def fnExactFirstIssueSpec : ChangeSpec := { name := "fnExactFirstIssue", fn := fun _ => fun
  | [d] => { results := [.lit (.bool true)], args := [d] }
  | _ => none }
def fnExactFirstIssueRow : OpenClaim := { program := "ytheiiifmdjikmaagreatdoor", sum := "efd1b143f7ea8259cb1bcffd388c6be308aa11d16b8778402d7bf8aa90da691c", func := "loop.example/borrowcheck/laws.FnExactFirstIssue", spec := "fnExactFirstIssue", unfollowed := true, recurses := true, named := ["math/bits.deBruijn64tab"], loops := true, apart := false, laid := [("math/bits.deBruijn64tab", laid_math_bits_deBruijn64tab)] }
def FnExactFirstIssueSaid : Prop := fnExactFirstIssueRow.holds Tryz.pinned (OpenSpec.ofChange fnExactFirstIssueSpec)

/-- ITS FALSE NEIGHBOUR: 'it returns false'. Refute it at one input. -/
def fnExactFirstIssueWrong : ChangeSpec := { name := "fnExactFirstIssue", fn := fun _ => fun
  | [d] => { results := [.lit (.bool false)], args := [d] }
  | _ => none }
def FnExactFirstIssueWrongFalsely : Prop := fnExactFirstIssueRow.holds Tryz.pinned (OpenSpec.ofChange fnExactFirstIssueWrong)

/-- 'laws.FnExactFormatIssue': WHATEVER THE INPUT: true; the input reads as it did. -/
def fnExactFormatIssueSpec : ChangeSpec := { name := "fnExactFormatIssue", fn := fun _ => fun
  | [d1, d2] => { results := [.lit (.bool true)], args := [d1, d2] }
  | _ => none }
def fnExactFormatIssueRow : OpenClaim := { program := "ytheiiifmdjikmaagreatdoor", sum := "efd1b143f7ea8259cb1bcffd388c6be308aa11d16b8778402d7bf8aa90da691c", func := "loop.example/borrowcheck/laws.FnExactFormatIssue", spec := "fnExactFormatIssue", unfollowed := true, recurses := true, named := ["math/bits.deBruijn64tab", "internal/strconv.uint64pow10", "math/bits.deBruijn32tab"], loops := true, apart := false, laid := [("math/bits.deBruijn32tab", laid_math_bits_deBruijn32tab), ("math/bits.deBruijn64tab", laid_math_bits_deBruijn64tab), ("internal/strconv.uint64pow10", laid_internal_strconv_uint64pow10)] }
def FnExactFormatIssueSaid : Prop := fnExactFormatIssueRow.holds Tryz.pinned (OpenSpec.ofChange fnExactFormatIssueSpec)

/-- ITS FALSE NEIGHBOUR: 'it returns false'. Refute it at one input. -/
def fnExactFormatIssueWrong : ChangeSpec := { name := "fnExactFormatIssue", fn := fun _ => fun
  | [d1, d2] => { results := [.lit (.bool false)], args := [d1, d2] }
  | _ => none }
def FnExactFormatIssueWrongFalsely : Prop := fnExactFormatIssueRow.holds Tryz.pinned (OpenSpec.ofChange fnExactFormatIssueWrong)

/-- 'laws.FnExactRepairProgram': WHATEVER THE INPUT: true; the input reads as it did. -/
def fnExactRepairProgramSpec : ChangeSpec := { name := "fnExactRepairProgram", fn := fun _ => fun
  | [d] => { results := [.lit (.bool true)], args := [d] }
  | _ => none }
def fnExactRepairProgramRow : OpenClaim := { program := "ytheiiifmdjikmaagreatdoor", sum := "efd1b143f7ea8259cb1bcffd388c6be308aa11d16b8778402d7bf8aa90da691c", func := "loop.example/borrowcheck/laws.FnExactRepairProgram", spec := "fnExactRepairProgram", unfollowed := true, recurses := true, named := ["math/bits.deBruijn64tab"], loops := true, apart := false, laid := [("math/bits.deBruijn64tab", laid_math_bits_deBruijn64tab)] }
def FnExactRepairProgramSaid : Prop := fnExactRepairProgramRow.holds Tryz.pinned (OpenSpec.ofChange fnExactRepairProgramSpec)

/-- ITS FALSE NEIGHBOUR: 'it returns false'. Refute it at one input. -/
def fnExactRepairProgramWrong : ChangeSpec := { name := "fnExactRepairProgram", fn := fun _ => fun
  | [d] => { results := [.lit (.bool false)], args := [d] }
  | _ => none }
def FnExactRepairProgramWrongFalsely : Prop := fnExactRepairProgramRow.holds Tryz.pinned (OpenSpec.ofChange fnExactRepairProgramWrong)

/- THE SECOND FORM. 'bulk': how many values and letters a reading holds, each counted each time it is reached (what is shared counts as often as it is met; a slice's spare places count too). A statement '..UptoSaid' is the law's where the arguments, and the package variables that the reading takes, are together of bulk at most 1048576: NARROWER than '..Said'. Prove '..Said' where nothing that the law and all that it calls make is longer than what came in: it says more and counts as full. Else prove '..UptoSaid'. A law counts once. -/
mutual
def uptoBulk {H : Type} : DataW H → Nat
  | .lit (.string bytes) => bytes.length + 1
  | .lit _ => 1
  | .nil => 1
  | .ptr d => uptoBulk d + 1
  | .slice elems spare => uptoBulkAll elems + uptoBulkAll spare + 1
  | .agg parts => uptoBulkAll parts + 1
  | .iface _ d => uptoBulk d + 1
  | .map entries => uptoBulkEntries entries + 1
  | .held _ => 1
def uptoBulkAll {H : Type} : List (DataW H) → Nat
  | [] => 0
  | d :: r => uptoBulk d + uptoBulkAll r
def uptoBulkEntries {H : Type} : List (Lit × DataW H) → Nat
  | [] => 0
  | x :: r => uptoBulkEntry x + uptoBulkEntries r
def uptoBulkEntry {H : Type} : Lit × DataW H → Nat
  | (.string bytes, d) => bytes.length + uptoBulk d + 1
  | (_, d) => uptoBulk d + 1
 end
def uptoSmall : (H : Type) → List (DataW H) → Bool := fun _ ds => decide (uptoBulkAll ds ≤ 1048576)
def OpenSpec.upto (s : _root_.Go.ChangeSpec) : _root_.Go.OpenSpec := { _root_.Go.OpenSpec.ofChange s with cond := some uptoSmall }

/-- 'laws.FnExactLoansIn', WHERE WHAT IT READS IS OF BULK AT MOST 1048576: true; the input reads as it did. -/
def fnExactLoansInUptoRow : OpenClaim := { program := "ytheiiifmdjikmaagreatdoor", sum := "efd1b143f7ea8259cb1bcffd388c6be308aa11d16b8778402d7bf8aa90da691c", func := "loop.example/borrowcheck/laws.FnExactLoansIn", spec := "fnExactLoansIn", unfollowed := true, recurses := true, named := ["math/bits.deBruijn64tab"], loops := true, apart := false, laid := [("math/bits.deBruijn64tab", laid_math_bits_deBruijn64tab)], narrowed := true }
def FnExactLoansInUptoSaid : Prop := fnExactLoansInUptoRow.holds Tryz.pinned (OpenSpec.upto fnExactLoansInSpec)

/-- 'laws.FnExactPlacedLoans', WHERE WHAT IT READS IS OF BULK AT MOST 1048576: true; the input reads as it did. -/
def fnExactPlacedLoansUptoRow : OpenClaim := { program := "ytheiiifmdjikmaagreatdoor", sum := "efd1b143f7ea8259cb1bcffd388c6be308aa11d16b8778402d7bf8aa90da691c", func := "loop.example/borrowcheck/laws.FnExactPlacedLoans", spec := "fnExactPlacedLoans", unfollowed := true, recurses := true, named := ["math/bits.deBruijn64tab"], loops := true, apart := false, laid := [("math/bits.deBruijn64tab", laid_math_bits_deBruijn64tab)], narrowed := true }
def FnExactPlacedLoansUptoSaid : Prop := fnExactPlacedLoansUptoRow.holds Tryz.pinned (OpenSpec.upto fnExactPlacedLoansSpec)

/-- 'laws.FnExactLiveLoans', WHERE WHAT IT READS IS OF BULK AT MOST 1048576: true; the input reads as it did. -/
def fnExactLiveLoansUptoRow : OpenClaim := { program := "ytheiiifmdjikmaagreatdoor", sum := "efd1b143f7ea8259cb1bcffd388c6be308aa11d16b8778402d7bf8aa90da691c", func := "loop.example/borrowcheck/laws.FnExactLiveLoans", spec := "fnExactLiveLoans", unfollowed := true, recurses := true, named := ["math/bits.deBruijn64tab"], loops := true, apart := false, laid := [("math/bits.deBruijn64tab", laid_math_bits_deBruijn64tab)], narrowed := true }
def FnExactLiveLoansUptoSaid : Prop := fnExactLiveLoansUptoRow.holds Tryz.pinned (OpenSpec.upto fnExactLiveLoansSpec)

/-- 'laws.FnExactAccessesOf', WHERE WHAT IT READS IS OF BULK AT MOST 1048576: true; the input reads as it did. -/
def fnExactAccessesOfUptoRow : OpenClaim := { program := "ytheiiifmdjikmaagreatdoor", sum := "efd1b143f7ea8259cb1bcffd388c6be308aa11d16b8778402d7bf8aa90da691c", func := "loop.example/borrowcheck/laws.FnExactAccessesOf", spec := "fnExactAccessesOf", unfollowed := true, recurses := true, named := ["math/bits.deBruijn64tab"], loops := true, apart := false, laid := [("math/bits.deBruijn64tab", laid_math_bits_deBruijn64tab)], narrowed := true }
def FnExactAccessesOfUptoSaid : Prop := fnExactAccessesOfUptoRow.holds Tryz.pinned (OpenSpec.upto fnExactAccessesOfSpec)

/-- 'laws.FnExactConflictsAt', WHERE WHAT IT READS IS OF BULK AT MOST 1048576: true; the input reads as it did. -/
def fnExactConflictsAtUptoRow : OpenClaim := { program := "ytheiiifmdjikmaagreatdoor", sum := "efd1b143f7ea8259cb1bcffd388c6be308aa11d16b8778402d7bf8aa90da691c", func := "loop.example/borrowcheck/laws.FnExactConflictsAt", spec := "fnExactConflictsAt", unfollowed := true, recurses := true, named := ["math/bits.deBruijn64tab"], loops := true, apart := false, laid := [("math/bits.deBruijn64tab", laid_math_bits_deBruijn64tab)], narrowed := true }
def FnExactConflictsAtUptoSaid : Prop := fnExactConflictsAtUptoRow.holds Tryz.pinned (OpenSpec.upto fnExactConflictsAtSpec)

/-- 'laws.FnExactCheckProgram', WHERE WHAT IT READS IS OF BULK AT MOST 1048576: true; the input reads as it did. -/
def fnExactCheckProgramUptoRow : OpenClaim := { program := "ytheiiifmdjikmaagreatdoor", sum := "efd1b143f7ea8259cb1bcffd388c6be308aa11d16b8778402d7bf8aa90da691c", func := "loop.example/borrowcheck/laws.FnExactCheckProgram", spec := "fnExactCheckProgram", unfollowed := true, recurses := true, named := ["math/bits.deBruijn64tab"], loops := true, apart := false, laid := [("math/bits.deBruijn64tab", laid_math_bits_deBruijn64tab)], narrowed := true }
def FnExactCheckProgramUptoSaid : Prop := fnExactCheckProgramUptoRow.holds Tryz.pinned (OpenSpec.upto fnExactCheckProgramSpec)

/-- 'laws.FnExactAccepts', WHERE WHAT IT READS IS OF BULK AT MOST 1048576: true; the input reads as it did. -/
def fnExactAcceptsUptoRow : OpenClaim := { program := "ytheiiifmdjikmaagreatdoor", sum := "efd1b143f7ea8259cb1bcffd388c6be308aa11d16b8778402d7bf8aa90da691c", func := "loop.example/borrowcheck/laws.FnExactAccepts", spec := "fnExactAccepts", unfollowed := true, recurses := true, named := ["math/bits.deBruijn64tab"], loops := true, apart := false, laid := [("math/bits.deBruijn64tab", laid_math_bits_deBruijn64tab)], narrowed := true }
def FnExactAcceptsUptoSaid : Prop := fnExactAcceptsUptoRow.holds Tryz.pinned (OpenSpec.upto fnExactAcceptsSpec)

/-- 'laws.FnExactCheckPlain', WHERE WHAT IT READS IS OF BULK AT MOST 1048576: true; the input reads as it did. -/
def fnExactCheckPlainUptoRow : OpenClaim := { program := "ytheiiifmdjikmaagreatdoor", sum := "efd1b143f7ea8259cb1bcffd388c6be308aa11d16b8778402d7bf8aa90da691c", func := "loop.example/borrowcheck/laws.FnExactCheckPlain", spec := "fnExactCheckPlain", unfollowed := true, recurses := true, named := ["math/bits.deBruijn64tab"], loops := true, apart := false, laid := [("math/bits.deBruijn64tab", laid_math_bits_deBruijn64tab)], narrowed := true }
def FnExactCheckPlainUptoSaid : Prop := fnExactCheckPlainUptoRow.holds Tryz.pinned (OpenSpec.upto fnExactCheckPlainSpec)

/-- 'laws.FnExactFirstIssue', WHERE WHAT IT READS IS OF BULK AT MOST 1048576: true; the input reads as it did. -/
def fnExactFirstIssueUptoRow : OpenClaim := { program := "ytheiiifmdjikmaagreatdoor", sum := "efd1b143f7ea8259cb1bcffd388c6be308aa11d16b8778402d7bf8aa90da691c", func := "loop.example/borrowcheck/laws.FnExactFirstIssue", spec := "fnExactFirstIssue", unfollowed := true, recurses := true, named := ["math/bits.deBruijn64tab"], loops := true, apart := false, laid := [("math/bits.deBruijn64tab", laid_math_bits_deBruijn64tab)], narrowed := true }
def FnExactFirstIssueUptoSaid : Prop := fnExactFirstIssueUptoRow.holds Tryz.pinned (OpenSpec.upto fnExactFirstIssueSpec)

/-- 'laws.FnExactFormatIssue', WHERE WHAT IT READS IS OF BULK AT MOST 1048576: true; the input reads as it did. -/
def fnExactFormatIssueUptoRow : OpenClaim := { program := "ytheiiifmdjikmaagreatdoor", sum := "efd1b143f7ea8259cb1bcffd388c6be308aa11d16b8778402d7bf8aa90da691c", func := "loop.example/borrowcheck/laws.FnExactFormatIssue", spec := "fnExactFormatIssue", unfollowed := true, recurses := true, named := ["math/bits.deBruijn64tab", "internal/strconv.uint64pow10", "math/bits.deBruijn32tab"], loops := true, apart := false, laid := [("math/bits.deBruijn32tab", laid_math_bits_deBruijn32tab), ("math/bits.deBruijn64tab", laid_math_bits_deBruijn64tab), ("internal/strconv.uint64pow10", laid_internal_strconv_uint64pow10)], narrowed := true }
def FnExactFormatIssueUptoSaid : Prop := fnExactFormatIssueUptoRow.holds Tryz.pinned (OpenSpec.upto fnExactFormatIssueSpec)

/-- 'laws.FnExactRepairProgram', WHERE WHAT IT READS IS OF BULK AT MOST 1048576: true; the input reads as it did. -/
def fnExactRepairProgramUptoRow : OpenClaim := { program := "ytheiiifmdjikmaagreatdoor", sum := "efd1b143f7ea8259cb1bcffd388c6be308aa11d16b8778402d7bf8aa90da691c", func := "loop.example/borrowcheck/laws.FnExactRepairProgram", spec := "fnExactRepairProgram", unfollowed := true, recurses := true, named := ["math/bits.deBruijn64tab"], loops := true, apart := false, laid := [("math/bits.deBruijn64tab", laid_math_bits_deBruijn64tab)], narrowed := true }
def FnExactRepairProgramUptoSaid : Prop := fnExactRepairProgramUptoRow.holds Tryz.pinned (OpenSpec.upto fnExactRepairProgramSpec)

end Rows
end Go.Proofs.YtheiiifmdjikmaaGreatDoor
