/-
  NARROWER THAN 'FOR EVERY INPUT', by the rows' own cells (each row's printed sentence says how): FnLoansOf: laid · FnLoansIn: laid · FnPlacedLoans: laid · FnOwnLoan: laid · FnLiveLoans: laid · FnFirstLoans: laid · FnConflictsAt: laid · FnAccessesOf: laid · FnSharedLoans: laid · FnReadAccess: laid.
  DERIVED. THE GIVEN ROWS OF THIS SEAT. 10 by the template 'for every input the law returns true; each argument reads behind the call as it read before'; 0 by the template 'total and deterministic' (their statements: YtopibompapopiaaGreatDoorTotals.lean).
  GIVEN WITH THE SEED: the statements are not yours to turn. If you find one false, say at which input.
  Laid BY PROGRAM, IN A SANDBOX (cutbox-rows.mjs): the forced cells as the released guide's own fill.sh prints them over the translation 718f61c27dbd4ac0… (all of the seat's roots in one cut). By AI agents, Wed Nov 11 2026. No macro, syntax, notation, axiom, sorry.
-/
import Derived.Test.YtopibompapopiaaGreatDoorChecked
import GoSem.Claim
import GoSem.ClaimJoined
import GoSem.ClaimMapViews
import Derived.JoinedTies
import Derived.KernelRfl
namespace Go.Proofs.YtopibompapopiaaGreatDoor
/- THE CELL 'sum', in the pinned program and in every row, IS THE sha256 OF THE DUMP (.gsa) THAT YtopibompapopiaaGreatDoorProg.lean LOADS. Nothing in Lean hashes anything: it is a label: what it is worth is what the hold of that sum in a sandbox is worth. -/
noncomputable def Tryz.pinned : Pinned := { name := "ytopibompapopiaagreatdoor", sum := "718f61c27dbd4ac002bd5ce46961cbee873064c9bbfae722f677f64a77bf0792", checked := Tryz.checked }
namespace Rows
def none {H : Type} : Left H := { results := [], args := [] }

/- WHAT THE LISTED PACKAGE-LEVEL VARIABLES READ AS WHEN THE CALL BEGINS. Each datum BY PROGRAM (the guide's laid-datum.mjs) off the statement by which the dump's own 'gosem.cut.vars' lays the variable. In a bare row this is a premise. The card (YtopibompapopiaaGreatDoorCards.lean) ties it to the program's text. -/
def laid_math_bits_deBruijn64tab {H : Type} : DataW H := .agg [.lit (.int .u8 0), .lit (.int .u8 1), .lit (.int .u8 56), .lit (.int .u8 2), .lit (.int .u8 57), .lit (.int .u8 49), .lit (.int .u8 28), .lit (.int .u8 3), .lit (.int .u8 61), .lit (.int .u8 58), .lit (.int .u8 42), .lit (.int .u8 50), .lit (.int .u8 38), .lit (.int .u8 29), .lit (.int .u8 17), .lit (.int .u8 4), .lit (.int .u8 62), .lit (.int .u8 47), .lit (.int .u8 59), .lit (.int .u8 36), .lit (.int .u8 45), .lit (.int .u8 43), .lit (.int .u8 51), .lit (.int .u8 22), .lit (.int .u8 53), .lit (.int .u8 39), .lit (.int .u8 33), .lit (.int .u8 30), .lit (.int .u8 24), .lit (.int .u8 18), .lit (.int .u8 12), .lit (.int .u8 5), .lit (.int .u8 63), .lit (.int .u8 55), .lit (.int .u8 48), .lit (.int .u8 27), .lit (.int .u8 60), .lit (.int .u8 41), .lit (.int .u8 37), .lit (.int .u8 16), .lit (.int .u8 46), .lit (.int .u8 35), .lit (.int .u8 44), .lit (.int .u8 21), .lit (.int .u8 52), .lit (.int .u8 32), .lit (.int .u8 23), .lit (.int .u8 11), .lit (.int .u8 54), .lit (.int .u8 26), .lit (.int .u8 40), .lit (.int .u8 15), .lit (.int .u8 34), .lit (.int .u8 20), .lit (.int .u8 31), .lit (.int .u8 10), .lit (.int .u8 25), .lit (.int .u8 14), .lit (.int .u8 19), .lit (.int .u8 9), .lit (.int .u8 13), .lit (.int .u8 8), .lit (.int .u8 7), .lit (.int .u8 6)]

/-- 'laws.FnLoansOf': WHATEVER THE INPUT: true; the input reads as it did. -/
def fnLoansOfSpec : ChangeSpec := { name := "fnLoansOf", fn := fun _ => fun
  | [d] => { results := [.lit (.bool true)], args := [d] }
  | _ => none }
def fnLoansOfRow : OpenClaim := { program := "ytopibompapopiaagreatdoor", sum := "718f61c27dbd4ac002bd5ce46961cbee873064c9bbfae722f677f64a77bf0792", func := "loop.example/borrowcheck/laws.FnLoansOf", spec := "fnLoansOf", unfollowed := true, recurses := true, named := ["math/bits.deBruijn64tab"], apart := false, laid := [("math/bits.deBruijn64tab", laid_math_bits_deBruijn64tab)] }
def FnLoansOfSaid : Prop := fnLoansOfRow.holds Tryz.pinned (OpenSpec.ofChange fnLoansOfSpec)

/-- ITS FALSE NEIGHBOUR: 'it returns false'. Refute it at one input. -/
def fnLoansOfWrong : ChangeSpec := { name := "fnLoansOf", fn := fun _ => fun
  | [d] => { results := [.lit (.bool false)], args := [d] }
  | _ => none }
def FnLoansOfWrongFalsely : Prop := fnLoansOfRow.holds Tryz.pinned (OpenSpec.ofChange fnLoansOfWrong)

/-- 'laws.FnLoansIn': WHATEVER THE INPUT: true; the input reads as it did. -/
def fnLoansInSpec : ChangeSpec := { name := "fnLoansIn", fn := fun _ => fun
  | [d] => { results := [.lit (.bool true)], args := [d] }
  | _ => none }
def fnLoansInRow : OpenClaim := { program := "ytopibompapopiaagreatdoor", sum := "718f61c27dbd4ac002bd5ce46961cbee873064c9bbfae722f677f64a77bf0792", func := "loop.example/borrowcheck/laws.FnLoansIn", spec := "fnLoansIn", unfollowed := true, recurses := true, named := ["math/bits.deBruijn64tab"], apart := false, laid := [("math/bits.deBruijn64tab", laid_math_bits_deBruijn64tab)] }
def FnLoansInSaid : Prop := fnLoansInRow.holds Tryz.pinned (OpenSpec.ofChange fnLoansInSpec)

/-- ITS FALSE NEIGHBOUR: 'it returns false'. Refute it at one input. -/
def fnLoansInWrong : ChangeSpec := { name := "fnLoansIn", fn := fun _ => fun
  | [d] => { results := [.lit (.bool false)], args := [d] }
  | _ => none }
def FnLoansInWrongFalsely : Prop := fnLoansInRow.holds Tryz.pinned (OpenSpec.ofChange fnLoansInWrong)

/-- 'laws.FnPlacedLoans': WHATEVER THE INPUT: true; the input reads as it did. -/
def fnPlacedLoansSpec : ChangeSpec := { name := "fnPlacedLoans", fn := fun _ => fun
  | [d] => { results := [.lit (.bool true)], args := [d] }
  | _ => none }
def fnPlacedLoansRow : OpenClaim := { program := "ytopibompapopiaagreatdoor", sum := "718f61c27dbd4ac002bd5ce46961cbee873064c9bbfae722f677f64a77bf0792", func := "loop.example/borrowcheck/laws.FnPlacedLoans", spec := "fnPlacedLoans", unfollowed := true, recurses := true, named := ["math/bits.deBruijn64tab"], apart := false, laid := [("math/bits.deBruijn64tab", laid_math_bits_deBruijn64tab)] }
def FnPlacedLoansSaid : Prop := fnPlacedLoansRow.holds Tryz.pinned (OpenSpec.ofChange fnPlacedLoansSpec)

/-- ITS FALSE NEIGHBOUR: 'it returns false'. Refute it at one input. -/
def fnPlacedLoansWrong : ChangeSpec := { name := "fnPlacedLoans", fn := fun _ => fun
  | [d] => { results := [.lit (.bool false)], args := [d] }
  | _ => none }
def FnPlacedLoansWrongFalsely : Prop := fnPlacedLoansRow.holds Tryz.pinned (OpenSpec.ofChange fnPlacedLoansWrong)

/-- 'laws.FnOwnLoan': WHATEVER THE INPUT: true; the input reads as it did. -/
def fnOwnLoanSpec : ChangeSpec := { name := "fnOwnLoan", fn := fun _ => fun
  | [d] => { results := [.lit (.bool true)], args := [d] }
  | _ => none }
def fnOwnLoanRow : OpenClaim := { program := "ytopibompapopiaagreatdoor", sum := "718f61c27dbd4ac002bd5ce46961cbee873064c9bbfae722f677f64a77bf0792", func := "loop.example/borrowcheck/laws.FnOwnLoan", spec := "fnOwnLoan", unfollowed := true, recurses := true, named := ["math/bits.deBruijn64tab"], apart := false, laid := [("math/bits.deBruijn64tab", laid_math_bits_deBruijn64tab)] }
def FnOwnLoanSaid : Prop := fnOwnLoanRow.holds Tryz.pinned (OpenSpec.ofChange fnOwnLoanSpec)

/-- ITS FALSE NEIGHBOUR: 'it returns false'. Refute it at one input. -/
def fnOwnLoanWrong : ChangeSpec := { name := "fnOwnLoan", fn := fun _ => fun
  | [d] => { results := [.lit (.bool false)], args := [d] }
  | _ => none }
def FnOwnLoanWrongFalsely : Prop := fnOwnLoanRow.holds Tryz.pinned (OpenSpec.ofChange fnOwnLoanWrong)

/-- 'laws.FnLiveLoans': WHATEVER THE INPUT: true; the input reads as it did. -/
def fnLiveLoansSpec : ChangeSpec := { name := "fnLiveLoans", fn := fun _ => fun
  | [d] => { results := [.lit (.bool true)], args := [d] }
  | _ => none }
def fnLiveLoansRow : OpenClaim := { program := "ytopibompapopiaagreatdoor", sum := "718f61c27dbd4ac002bd5ce46961cbee873064c9bbfae722f677f64a77bf0792", func := "loop.example/borrowcheck/laws.FnLiveLoans", spec := "fnLiveLoans", unfollowed := true, recurses := true, named := ["math/bits.deBruijn64tab"], apart := false, laid := [("math/bits.deBruijn64tab", laid_math_bits_deBruijn64tab)] }
def FnLiveLoansSaid : Prop := fnLiveLoansRow.holds Tryz.pinned (OpenSpec.ofChange fnLiveLoansSpec)

/-- ITS FALSE NEIGHBOUR: 'it returns false'. Refute it at one input. -/
def fnLiveLoansWrong : ChangeSpec := { name := "fnLiveLoans", fn := fun _ => fun
  | [d] => { results := [.lit (.bool false)], args := [d] }
  | _ => none }
def FnLiveLoansWrongFalsely : Prop := fnLiveLoansRow.holds Tryz.pinned (OpenSpec.ofChange fnLiveLoansWrong)

/-- 'laws.FnFirstLoans': WHATEVER THE INPUT: true; the input reads as it did. -/
def fnFirstLoansSpec : ChangeSpec := { name := "fnFirstLoans", fn := fun _ => fun
  | [d] => { results := [.lit (.bool true)], args := [d] }
  | _ => none }
def fnFirstLoansRow : OpenClaim := { program := "ytopibompapopiaagreatdoor", sum := "718f61c27dbd4ac002bd5ce46961cbee873064c9bbfae722f677f64a77bf0792", func := "loop.example/borrowcheck/laws.FnFirstLoans", spec := "fnFirstLoans", unfollowed := true, recurses := true, named := ["math/bits.deBruijn64tab"], apart := false, laid := [("math/bits.deBruijn64tab", laid_math_bits_deBruijn64tab)] }
def FnFirstLoansSaid : Prop := fnFirstLoansRow.holds Tryz.pinned (OpenSpec.ofChange fnFirstLoansSpec)

/-- ITS FALSE NEIGHBOUR: 'it returns false'. Refute it at one input. -/
def fnFirstLoansWrong : ChangeSpec := { name := "fnFirstLoans", fn := fun _ => fun
  | [d] => { results := [.lit (.bool false)], args := [d] }
  | _ => none }
def FnFirstLoansWrongFalsely : Prop := fnFirstLoansRow.holds Tryz.pinned (OpenSpec.ofChange fnFirstLoansWrong)

/-- 'laws.FnConflictsAt': WHATEVER THE INPUT: true; the input reads as it did. -/
def fnConflictsAtSpec : ChangeSpec := { name := "fnConflictsAt", fn := fun _ => fun
  | [d] => { results := [.lit (.bool true)], args := [d] }
  | _ => none }
def fnConflictsAtRow : OpenClaim := { program := "ytopibompapopiaagreatdoor", sum := "718f61c27dbd4ac002bd5ce46961cbee873064c9bbfae722f677f64a77bf0792", func := "loop.example/borrowcheck/laws.FnConflictsAt", spec := "fnConflictsAt", unfollowed := true, recurses := true, named := ["math/bits.deBruijn64tab"], apart := false, laid := [("math/bits.deBruijn64tab", laid_math_bits_deBruijn64tab)] }
def FnConflictsAtSaid : Prop := fnConflictsAtRow.holds Tryz.pinned (OpenSpec.ofChange fnConflictsAtSpec)

/-- ITS FALSE NEIGHBOUR: 'it returns false'. Refute it at one input. -/
def fnConflictsAtWrong : ChangeSpec := { name := "fnConflictsAt", fn := fun _ => fun
  | [d] => { results := [.lit (.bool false)], args := [d] }
  | _ => none }
def FnConflictsAtWrongFalsely : Prop := fnConflictsAtRow.holds Tryz.pinned (OpenSpec.ofChange fnConflictsAtWrong)

/-- 'laws.FnAccessesOf': WHATEVER THE INPUT: true; the input reads as it did. -/
def fnAccessesOfSpec : ChangeSpec := { name := "fnAccessesOf", fn := fun _ => fun
  | [d] => { results := [.lit (.bool true)], args := [d] }
  | _ => none }
def fnAccessesOfRow : OpenClaim := { program := "ytopibompapopiaagreatdoor", sum := "718f61c27dbd4ac002bd5ce46961cbee873064c9bbfae722f677f64a77bf0792", func := "loop.example/borrowcheck/laws.FnAccessesOf", spec := "fnAccessesOf", unfollowed := true, recurses := true, named := ["math/bits.deBruijn64tab"], apart := false, laid := [("math/bits.deBruijn64tab", laid_math_bits_deBruijn64tab)] }
def FnAccessesOfSaid : Prop := fnAccessesOfRow.holds Tryz.pinned (OpenSpec.ofChange fnAccessesOfSpec)

/-- ITS FALSE NEIGHBOUR: 'it returns false'. Refute it at one input. -/
def fnAccessesOfWrong : ChangeSpec := { name := "fnAccessesOf", fn := fun _ => fun
  | [d] => { results := [.lit (.bool false)], args := [d] }
  | _ => none }
def FnAccessesOfWrongFalsely : Prop := fnAccessesOfRow.holds Tryz.pinned (OpenSpec.ofChange fnAccessesOfWrong)

/-- 'laws.FnSharedLoans': WHATEVER THE INPUT: true; the input reads as it did. -/
def fnSharedLoansSpec : ChangeSpec := { name := "fnSharedLoans", fn := fun _ => fun
  | [d] => { results := [.lit (.bool true)], args := [d] }
  | _ => none }
def fnSharedLoansRow : OpenClaim := { program := "ytopibompapopiaagreatdoor", sum := "718f61c27dbd4ac002bd5ce46961cbee873064c9bbfae722f677f64a77bf0792", func := "loop.example/borrowcheck/laws.FnSharedLoans", spec := "fnSharedLoans", unfollowed := true, recurses := true, named := ["math/bits.deBruijn64tab"], apart := false, laid := [("math/bits.deBruijn64tab", laid_math_bits_deBruijn64tab)] }
def FnSharedLoansSaid : Prop := fnSharedLoansRow.holds Tryz.pinned (OpenSpec.ofChange fnSharedLoansSpec)

/-- ITS FALSE NEIGHBOUR: 'it returns false'. Refute it at one input. -/
def fnSharedLoansWrong : ChangeSpec := { name := "fnSharedLoans", fn := fun _ => fun
  | [d] => { results := [.lit (.bool false)], args := [d] }
  | _ => none }
def FnSharedLoansWrongFalsely : Prop := fnSharedLoansRow.holds Tryz.pinned (OpenSpec.ofChange fnSharedLoansWrong)

/-- 'laws.FnReadAccess': WHATEVER THE INPUT: true; the input reads as it did. -/
def fnReadAccessSpec : ChangeSpec := { name := "fnReadAccess", fn := fun _ => fun
  | [d] => { results := [.lit (.bool true)], args := [d] }
  | _ => none }
def fnReadAccessRow : OpenClaim := { program := "ytopibompapopiaagreatdoor", sum := "718f61c27dbd4ac002bd5ce46961cbee873064c9bbfae722f677f64a77bf0792", func := "loop.example/borrowcheck/laws.FnReadAccess", spec := "fnReadAccess", unfollowed := true, recurses := true, named := ["math/bits.deBruijn64tab"], apart := false, laid := [("math/bits.deBruijn64tab", laid_math_bits_deBruijn64tab)] }
def FnReadAccessSaid : Prop := fnReadAccessRow.holds Tryz.pinned (OpenSpec.ofChange fnReadAccessSpec)

/-- ITS FALSE NEIGHBOUR: 'it returns false'. Refute it at one input. -/
def fnReadAccessWrong : ChangeSpec := { name := "fnReadAccess", fn := fun _ => fun
  | [d] => { results := [.lit (.bool false)], args := [d] }
  | _ => none }
def FnReadAccessWrongFalsely : Prop := fnReadAccessRow.holds Tryz.pinned (OpenSpec.ofChange fnReadAccessWrong)

/- THE SECOND FORM. 'bulk': how many values and letters a reading holds, each counted each time it is reached (what is shared counts as often as it is met; a slice's spare places count too). A statement '..UptoSaid' is the law's where the arguments, and the package variables that the reading takes, are together of bulk at most 1048576: NARROWER than '..Said'. Prove '..Said' where nothing that the law and all that it calls make is longer than what came in: it says more and counts as full. Else prove '..UptoSaid'. A law counts once. -/
mutual
def uptoBulk {H : Type} : DataW H → Nat
  | .lit (.string bytes) => bytes.length + 1
  | .lit _ => 1
  | .nil => 1
  | .ptr d => uptoBulk d + 1
  | .slice elems spare => uptoBulkAll elems + uptoBulkAll spare + 1
  | .agg parts => uptoBulkAll parts + 1
  | .iface _ d => uptoBulk d + 1
  | .map entries => uptoBulkEntries entries + 1
  | .held _ => 1
def uptoBulkAll {H : Type} : List (DataW H) → Nat
  | [] => 0
  | d :: r => uptoBulk d + uptoBulkAll r
def uptoBulkEntries {H : Type} : List (Lit × DataW H) → Nat
  | [] => 0
  | x :: r => uptoBulkEntry x + uptoBulkEntries r
def uptoBulkEntry {H : Type} : Lit × DataW H → Nat
  | (.string bytes, d) => bytes.length + uptoBulk d + 1
  | (_, d) => uptoBulk d + 1
 end
def uptoSmall : (H : Type) → List (DataW H) → Bool := fun _ ds => decide (uptoBulkAll ds ≤ 1048576)
def OpenSpec.upto (s : _root_.Go.ChangeSpec) : _root_.Go.OpenSpec := { _root_.Go.OpenSpec.ofChange s with cond := some uptoSmall }

/-- 'laws.FnLoansOf', WHERE WHAT IT READS IS OF BULK AT MOST 1048576: true; the input reads as it did. -/
def fnLoansOfUptoRow : OpenClaim := { program := "ytopibompapopiaagreatdoor", sum := "718f61c27dbd4ac002bd5ce46961cbee873064c9bbfae722f677f64a77bf0792", func := "loop.example/borrowcheck/laws.FnLoansOf", spec := "fnLoansOf", unfollowed := true, recurses := true, named := ["math/bits.deBruijn64tab"], apart := false, laid := [("math/bits.deBruijn64tab", laid_math_bits_deBruijn64tab)], narrowed := true }
def FnLoansOfUptoSaid : Prop := fnLoansOfUptoRow.holds Tryz.pinned (OpenSpec.upto fnLoansOfSpec)

/-- 'laws.FnLoansIn', WHERE WHAT IT READS IS OF BULK AT MOST 1048576: true; the input reads as it did. -/
def fnLoansInUptoRow : OpenClaim := { program := "ytopibompapopiaagreatdoor", sum := "718f61c27dbd4ac002bd5ce46961cbee873064c9bbfae722f677f64a77bf0792", func := "loop.example/borrowcheck/laws.FnLoansIn", spec := "fnLoansIn", unfollowed := true, recurses := true, named := ["math/bits.deBruijn64tab"], apart := false, laid := [("math/bits.deBruijn64tab", laid_math_bits_deBruijn64tab)], narrowed := true }
def FnLoansInUptoSaid : Prop := fnLoansInUptoRow.holds Tryz.pinned (OpenSpec.upto fnLoansInSpec)

/-- 'laws.FnPlacedLoans', WHERE WHAT IT READS IS OF BULK AT MOST 1048576: true; the input reads as it did. -/
def fnPlacedLoansUptoRow : OpenClaim := { program := "ytopibompapopiaagreatdoor", sum := "718f61c27dbd4ac002bd5ce46961cbee873064c9bbfae722f677f64a77bf0792", func := "loop.example/borrowcheck/laws.FnPlacedLoans", spec := "fnPlacedLoans", unfollowed := true, recurses := true, named := ["math/bits.deBruijn64tab"], apart := false, laid := [("math/bits.deBruijn64tab", laid_math_bits_deBruijn64tab)], narrowed := true }
def FnPlacedLoansUptoSaid : Prop := fnPlacedLoansUptoRow.holds Tryz.pinned (OpenSpec.upto fnPlacedLoansSpec)

/-- 'laws.FnOwnLoan', WHERE WHAT IT READS IS OF BULK AT MOST 1048576: true; the input reads as it did. -/
def fnOwnLoanUptoRow : OpenClaim := { program := "ytopibompapopiaagreatdoor", sum := "718f61c27dbd4ac002bd5ce46961cbee873064c9bbfae722f677f64a77bf0792", func := "loop.example/borrowcheck/laws.FnOwnLoan", spec := "fnOwnLoan", unfollowed := true, recurses := true, named := ["math/bits.deBruijn64tab"], apart := false, laid := [("math/bits.deBruijn64tab", laid_math_bits_deBruijn64tab)], narrowed := true }
def FnOwnLoanUptoSaid : Prop := fnOwnLoanUptoRow.holds Tryz.pinned (OpenSpec.upto fnOwnLoanSpec)

/-- 'laws.FnLiveLoans', WHERE WHAT IT READS IS OF BULK AT MOST 1048576: true; the input reads as it did. -/
def fnLiveLoansUptoRow : OpenClaim := { program := "ytopibompapopiaagreatdoor", sum := "718f61c27dbd4ac002bd5ce46961cbee873064c9bbfae722f677f64a77bf0792", func := "loop.example/borrowcheck/laws.FnLiveLoans", spec := "fnLiveLoans", unfollowed := true, recurses := true, named := ["math/bits.deBruijn64tab"], apart := false, laid := [("math/bits.deBruijn64tab", laid_math_bits_deBruijn64tab)], narrowed := true }
def FnLiveLoansUptoSaid : Prop := fnLiveLoansUptoRow.holds Tryz.pinned (OpenSpec.upto fnLiveLoansSpec)

/-- 'laws.FnFirstLoans', WHERE WHAT IT READS IS OF BULK AT MOST 1048576: true; the input reads as it did. -/
def fnFirstLoansUptoRow : OpenClaim := { program := "ytopibompapopiaagreatdoor", sum := "718f61c27dbd4ac002bd5ce46961cbee873064c9bbfae722f677f64a77bf0792", func := "loop.example/borrowcheck/laws.FnFirstLoans", spec := "fnFirstLoans", unfollowed := true, recurses := true, named := ["math/bits.deBruijn64tab"], apart := false, laid := [("math/bits.deBruijn64tab", laid_math_bits_deBruijn64tab)], narrowed := true }
def FnFirstLoansUptoSaid : Prop := fnFirstLoansUptoRow.holds Tryz.pinned (OpenSpec.upto fnFirstLoansSpec)

/-- 'laws.FnConflictsAt', WHERE WHAT IT READS IS OF BULK AT MOST 1048576: true; the input reads as it did. -/
def fnConflictsAtUptoRow : OpenClaim := { program := "ytopibompapopiaagreatdoor", sum := "718f61c27dbd4ac002bd5ce46961cbee873064c9bbfae722f677f64a77bf0792", func := "loop.example/borrowcheck/laws.FnConflictsAt", spec := "fnConflictsAt", unfollowed := true, recurses := true, named := ["math/bits.deBruijn64tab"], apart := false, laid := [("math/bits.deBruijn64tab", laid_math_bits_deBruijn64tab)], narrowed := true }
def FnConflictsAtUptoSaid : Prop := fnConflictsAtUptoRow.holds Tryz.pinned (OpenSpec.upto fnConflictsAtSpec)

/-- 'laws.FnAccessesOf', WHERE WHAT IT READS IS OF BULK AT MOST 1048576: true; the input reads as it did. -/
def fnAccessesOfUptoRow : OpenClaim := { program := "ytopibompapopiaagreatdoor", sum := "718f61c27dbd4ac002bd5ce46961cbee873064c9bbfae722f677f64a77bf0792", func := "loop.example/borrowcheck/laws.FnAccessesOf", spec := "fnAccessesOf", unfollowed := true, recurses := true, named := ["math/bits.deBruijn64tab"], apart := false, laid := [("math/bits.deBruijn64tab", laid_math_bits_deBruijn64tab)], narrowed := true }
def FnAccessesOfUptoSaid : Prop := fnAccessesOfUptoRow.holds Tryz.pinned (OpenSpec.upto fnAccessesOfSpec)

/-- 'laws.FnSharedLoans', WHERE WHAT IT READS IS OF BULK AT MOST 1048576: true; the input reads as it did. -/
def fnSharedLoansUptoRow : OpenClaim := { program := "ytopibompapopiaagreatdoor", sum := "718f61c27dbd4ac002bd5ce46961cbee873064c9bbfae722f677f64a77bf0792", func := "loop.example/borrowcheck/laws.FnSharedLoans", spec := "fnSharedLoans", unfollowed := true, recurses := true, named := ["math/bits.deBruijn64tab"], apart := false, laid := [("math/bits.deBruijn64tab", laid_math_bits_deBruijn64tab)], narrowed := true }
def FnSharedLoansUptoSaid : Prop := fnSharedLoansUptoRow.holds Tryz.pinned (OpenSpec.upto fnSharedLoansSpec)

/-- 'laws.FnReadAccess', WHERE WHAT IT READS IS OF BULK AT MOST 1048576: true; the input reads as it did. -/
def fnReadAccessUptoRow : OpenClaim := { program := "ytopibompapopiaagreatdoor", sum := "718f61c27dbd4ac002bd5ce46961cbee873064c9bbfae722f677f64a77bf0792", func := "loop.example/borrowcheck/laws.FnReadAccess", spec := "fnReadAccess", unfollowed := true, recurses := true, named := ["math/bits.deBruijn64tab"], apart := false, laid := [("math/bits.deBruijn64tab", laid_math_bits_deBruijn64tab)], narrowed := true }
def FnReadAccessUptoSaid : Prop := fnReadAccessUptoRow.holds Tryz.pinned (OpenSpec.upto fnReadAccessSpec)

end Rows
end Go.Proofs.YtopibompapopiaaGreatDoor
