/-
  NARROWER THAN 'FOR EVERY INPUT', by the rows' own cells (each row's printed sentence says how): FnExactLoansOf: loops, laid · FnExactLoansIn: loops, laid · FnExactPlacedLoans: loops, laid · FnExactLiveLoans: loops, laid · FnExactAccessesOf: loops, laid · FnExactConflictsAt: loops, laid · FnLoansOf: laid · FnLoansIn: laid.
  DERIVED. THE GIVEN ROWS OF THIS SEAT. 8 by the template 'for every input the law returns true; each argument reads behind the call as it read before'; 0 by the template 'total and deterministic' (their statements: YtidjphifgemicaaGreatDoorTotals.lean).
  GIVEN WITH THE SEED: the statements are not yours to turn. If you find one false, say at which input.
  Laid BY PROGRAM, IN A SANDBOX (cutbox-rows.mjs): the forced cells as the released guide's own fill.sh prints them over the translation ed20ce0fcffe88b8… (all of the seat's roots in one cut). By AI agents, Wed Nov 11 2026. No macro, syntax, notation, axiom, sorry.
-/
import Derived.Test.YtidjphifgemicaaGreatDoorChecked
import GoSem.Claim
import GoSem.ClaimJoined
import GoSem.ClaimMapViews
import Derived.JoinedTies
import Derived.KernelRfl
namespace Go.Proofs.YtidjphifgemicaaGreatDoor
/- THE CELL 'sum', in the pinned program and in every row, IS THE sha256 OF THE DUMP (.gsa) THAT YtidjphifgemicaaGreatDoorProg.lean LOADS. Nothing in Lean hashes anything: it is a label: what it is worth is what the hold of that sum in a sandbox is worth. -/
noncomputable def Tryz.pinned : Pinned := { name := "ytidjphifgemicaagreatdoor", sum := "ed20ce0fcffe88b80a90339270fb75cf6fcbc3d52523e22b7c6160df75c7646e", checked := Tryz.checked }
namespace Rows
def none {H : Type} : Left H := { results := [], args := [] }

/- WHAT THE LISTED PACKAGE-LEVEL VARIABLES READ AS WHEN THE CALL BEGINS. Each datum BY PROGRAM (the guide's laid-datum.mjs) off the statement by which the dump's own 'gosem.cut.vars' lays the variable. In a bare row this is a premise. The card (YtidjphifgemicaaGreatDoorCards.lean) ties it to the program's text. -/
def laid_math_bits_deBruijn64tab {H : Type} : DataW H := .agg [.lit (.int .u8 0), .lit (.int .u8 1), .lit (.int .u8 56), .lit (.int .u8 2), .lit (.int .u8 57), .lit (.int .u8 49), .lit (.int .u8 28), .lit (.int .u8 3), .lit (.int .u8 61), .lit (.int .u8 58), .lit (.int .u8 42), .lit (.int .u8 50), .lit (.int .u8 38), .lit (.int .u8 29), .lit (.int .u8 17), .lit (.int .u8 4), .lit (.int .u8 62), .lit (.int .u8 47), .lit (.int .u8 59), .lit (.int .u8 36), .lit (.int .u8 45), .lit (.int .u8 43), .lit (.int .u8 51), .lit (.int .u8 22), .lit (.int .u8 53), .lit (.int .u8 39), .lit (.int .u8 33), .lit (.int .u8 30), .lit (.int .u8 24), .lit (.int .u8 18), .lit (.int .u8 12), .lit (.int .u8 5), .lit (.int .u8 63), .lit (.int .u8 55), .lit (.int .u8 48), .lit (.int .u8 27), .lit (.int .u8 60), .lit (.int .u8 41), .lit (.int .u8 37), .lit (.int .u8 16), .lit (.int .u8 46), .lit (.int .u8 35), .lit (.int .u8 44), .lit (.int .u8 21), .lit (.int .u8 52), .lit (.int .u8 32), .lit (.int .u8 23), .lit (.int .u8 11), .lit (.int .u8 54), .lit (.int .u8 26), .lit (.int .u8 40), .lit (.int .u8 15), .lit (.int .u8 34), .lit (.int .u8 20), .lit (.int .u8 31), .lit (.int .u8 10), .lit (.int .u8 25), .lit (.int .u8 14), .lit (.int .u8 19), .lit (.int .u8 9), .lit (.int .u8 13), .lit (.int .u8 8), .lit (.int .u8 7), .lit (.int .u8 6)]

/-- 'laws.FnExactLoansOf': WHATEVER THE INPUT: true; the input reads as it did. -/
def fnExactLoansOfSpec : ChangeSpec := { name := "fnExactLoansOf", fn := fun _ => fun
  | [d] => { results := [.lit (.bool true)], args := [d] }
  | _ => none }
def fnExactLoansOfRow : OpenClaim := { program := "ytidjphifgemicaagreatdoor", sum := "ed20ce0fcffe88b80a90339270fb75cf6fcbc3d52523e22b7c6160df75c7646e", func := "loop.example/borrowcheck/laws.FnExactLoansOf", spec := "fnExactLoansOf", unfollowed := true, recurses := true, named := ["math/bits.deBruijn64tab"], loops := true, apart := false, laid := [("math/bits.deBruijn64tab", laid_math_bits_deBruijn64tab)] }
def FnExactLoansOfSaid : Prop := fnExactLoansOfRow.holds Tryz.pinned (OpenSpec.ofChange fnExactLoansOfSpec)

/-- ITS FALSE NEIGHBOUR: 'it returns false'. Refute it at one input. -/
def fnExactLoansOfWrong : ChangeSpec := { name := "fnExactLoansOf", fn := fun _ => fun
  | [d] => { results := [.lit (.bool false)], args := [d] }
  | _ => none }
def FnExactLoansOfWrongFalsely : Prop := fnExactLoansOfRow.holds Tryz.pinned (OpenSpec.ofChange fnExactLoansOfWrong)

/-- 'laws.FnExactLoansIn': WHATEVER THE INPUT: true; the input reads as it did. -/
def fnExactLoansInSpec : ChangeSpec := { name := "fnExactLoansIn", fn := fun _ => fun
  | [d1, d2, d3] => { results := [.lit (.bool true)], args := [d1, d2, d3] }
  | _ => none }
def fnExactLoansInRow : OpenClaim := { program := "ytidjphifgemicaagreatdoor", sum := "ed20ce0fcffe88b80a90339270fb75cf6fcbc3d52523e22b7c6160df75c7646e", func := "loop.example/borrowcheck/laws.FnExactLoansIn", spec := "fnExactLoansIn", unfollowed := true, recurses := true, named := ["math/bits.deBruijn64tab"], loops := true, apart := false, laid := [("math/bits.deBruijn64tab", laid_math_bits_deBruijn64tab)] }
def FnExactLoansInSaid : Prop := fnExactLoansInRow.holds Tryz.pinned (OpenSpec.ofChange fnExactLoansInSpec)

/-- ITS FALSE NEIGHBOUR: 'it returns false'. Refute it at one input. -/
def fnExactLoansInWrong : ChangeSpec := { name := "fnExactLoansIn", fn := fun _ => fun
  | [d1, d2, d3] => { results := [.lit (.bool false)], args := [d1, d2, d3] }
  | _ => none }
def FnExactLoansInWrongFalsely : Prop := fnExactLoansInRow.holds Tryz.pinned (OpenSpec.ofChange fnExactLoansInWrong)

/-- 'laws.FnExactPlacedLoans': WHATEVER THE INPUT: true; the input reads as it did. -/
def fnExactPlacedLoansSpec : ChangeSpec := { name := "fnExactPlacedLoans", fn := fun _ => fun
  | [d1, d2] => { results := [.lit (.bool true)], args := [d1, d2] }
  | _ => none }
def fnExactPlacedLoansRow : OpenClaim := { program := "ytidjphifgemicaagreatdoor", sum := "ed20ce0fcffe88b80a90339270fb75cf6fcbc3d52523e22b7c6160df75c7646e", func := "loop.example/borrowcheck/laws.FnExactPlacedLoans", spec := "fnExactPlacedLoans", unfollowed := true, recurses := true, named := ["math/bits.deBruijn64tab"], loops := true, apart := false, laid := [("math/bits.deBruijn64tab", laid_math_bits_deBruijn64tab)] }
def FnExactPlacedLoansSaid : Prop := fnExactPlacedLoansRow.holds Tryz.pinned (OpenSpec.ofChange fnExactPlacedLoansSpec)

/-- ITS FALSE NEIGHBOUR: 'it returns false'. Refute it at one input. -/
def fnExactPlacedLoansWrong : ChangeSpec := { name := "fnExactPlacedLoans", fn := fun _ => fun
  | [d1, d2] => { results := [.lit (.bool false)], args := [d1, d2] }
  | _ => none }
def FnExactPlacedLoansWrongFalsely : Prop := fnExactPlacedLoansRow.holds Tryz.pinned (OpenSpec.ofChange fnExactPlacedLoansWrong)

/-- 'laws.FnExactLiveLoans': WHATEVER THE INPUT: true; the input reads as it did. -/
def fnExactLiveLoansSpec : ChangeSpec := { name := "fnExactLiveLoans", fn := fun _ => fun
  | [d1, d2] => { results := [.lit (.bool true)], args := [d1, d2] }
  | _ => none }
def fnExactLiveLoansRow : OpenClaim := { program := "ytidjphifgemicaagreatdoor", sum := "ed20ce0fcffe88b80a90339270fb75cf6fcbc3d52523e22b7c6160df75c7646e", func := "loop.example/borrowcheck/laws.FnExactLiveLoans", spec := "fnExactLiveLoans", unfollowed := true, recurses := true, named := ["math/bits.deBruijn64tab"], loops := true, apart := false, laid := [("math/bits.deBruijn64tab", laid_math_bits_deBruijn64tab)] }
def FnExactLiveLoansSaid : Prop := fnExactLiveLoansRow.holds Tryz.pinned (OpenSpec.ofChange fnExactLiveLoansSpec)

/-- ITS FALSE NEIGHBOUR: 'it returns false'. Refute it at one input. -/
def fnExactLiveLoansWrong : ChangeSpec := { name := "fnExactLiveLoans", fn := fun _ => fun
  | [d1, d2] => { results := [.lit (.bool false)], args := [d1, d2] }
  | _ => none }
def FnExactLiveLoansWrongFalsely : Prop := fnExactLiveLoansRow.holds Tryz.pinned (OpenSpec.ofChange fnExactLiveLoansWrong)

/-- 'laws.FnExactAccessesOf': WHATEVER THE INPUT: true; the input reads as it did. -/
def fnExactAccessesOfSpec : ChangeSpec := { name := "fnExactAccessesOf", fn := fun _ => fun
  | [d1, d2] => { results := [.lit (.bool true)], args := [d1, d2] }
  | _ => none }
def fnExactAccessesOfRow : OpenClaim := { program := "ytidjphifgemicaagreatdoor", sum := "ed20ce0fcffe88b80a90339270fb75cf6fcbc3d52523e22b7c6160df75c7646e", func := "loop.example/borrowcheck/laws.FnExactAccessesOf", spec := "fnExactAccessesOf", unfollowed := true, recurses := true, named := ["math/bits.deBruijn64tab"], loops := true, apart := false, laid := [("math/bits.deBruijn64tab", laid_math_bits_deBruijn64tab)] }
def FnExactAccessesOfSaid : Prop := fnExactAccessesOfRow.holds Tryz.pinned (OpenSpec.ofChange fnExactAccessesOfSpec)

/-- ITS FALSE NEIGHBOUR: 'it returns false'. Refute it at one input. -/
def fnExactAccessesOfWrong : ChangeSpec := { name := "fnExactAccessesOf", fn := fun _ => fun
  | [d1, d2] => { results := [.lit (.bool false)], args := [d1, d2] }
  | _ => none }
def FnExactAccessesOfWrongFalsely : Prop := fnExactAccessesOfRow.holds Tryz.pinned (OpenSpec.ofChange fnExactAccessesOfWrong)

/-- 'laws.FnExactConflictsAt': WHATEVER THE INPUT: true; the input reads as it did. -/
def fnExactConflictsAtSpec : ChangeSpec := { name := "fnExactConflictsAt", fn := fun _ => fun
  | [d1, d2] => { results := [.lit (.bool true)], args := [d1, d2] }
  | _ => none }
def fnExactConflictsAtRow : OpenClaim := { program := "ytidjphifgemicaagreatdoor", sum := "ed20ce0fcffe88b80a90339270fb75cf6fcbc3d52523e22b7c6160df75c7646e", func := "loop.example/borrowcheck/laws.FnExactConflictsAt", spec := "fnExactConflictsAt", unfollowed := true, recurses := true, named := ["math/bits.deBruijn64tab"], loops := true, apart := false, laid := [("math/bits.deBruijn64tab", laid_math_bits_deBruijn64tab)] }
def FnExactConflictsAtSaid : Prop := fnExactConflictsAtRow.holds Tryz.pinned (OpenSpec.ofChange fnExactConflictsAtSpec)

/-- ITS FALSE NEIGHBOUR: 'it returns false'. Refute it at one input. -/
def fnExactConflictsAtWrong : ChangeSpec := { name := "fnExactConflictsAt", fn := fun _ => fun
  | [d1, d2] => { results := [.lit (.bool false)], args := [d1, d2] }
  | _ => none }
def FnExactConflictsAtWrongFalsely : Prop := fnExactConflictsAtRow.holds Tryz.pinned (OpenSpec.ofChange fnExactConflictsAtWrong)

/-- 'laws.FnLoansOf': WHATEVER THE INPUT: true; the input reads as it did. -/
def fnLoansOfSpec : ChangeSpec := { name := "fnLoansOf", fn := fun _ => fun
  | [d] => { results := [.lit (.bool true)], args := [d] }
  | _ => none }
def fnLoansOfRow : OpenClaim := { program := "ytidjphifgemicaagreatdoor", sum := "ed20ce0fcffe88b80a90339270fb75cf6fcbc3d52523e22b7c6160df75c7646e", func := "loop.example/borrowcheck/laws.FnLoansOf", spec := "fnLoansOf", unfollowed := true, recurses := true, named := ["math/bits.deBruijn64tab"], apart := false, laid := [("math/bits.deBruijn64tab", laid_math_bits_deBruijn64tab)] }
def FnLoansOfSaid : Prop := fnLoansOfRow.holds Tryz.pinned (OpenSpec.ofChange fnLoansOfSpec)

/-- ITS FALSE NEIGHBOUR: 'it returns false'. Refute it at one input. -/
def fnLoansOfWrong : ChangeSpec := { name := "fnLoansOf", fn := fun _ => fun
  | [d] => { results := [.lit (.bool false)], args := [d] }
  | _ => none }
def FnLoansOfWrongFalsely : Prop := fnLoansOfRow.holds Tryz.pinned (OpenSpec.ofChange fnLoansOfWrong)

/-- 'laws.FnLoansIn': WHATEVER THE INPUT: true; the input reads as it did. -/
def fnLoansInSpec : ChangeSpec := { name := "fnLoansIn", fn := fun _ => fun
  | [d] => { results := [.lit (.bool true)], args := [d] }
  | _ => none }
def fnLoansInRow : OpenClaim := { program := "ytidjphifgemicaagreatdoor", sum := "ed20ce0fcffe88b80a90339270fb75cf6fcbc3d52523e22b7c6160df75c7646e", func := "loop.example/borrowcheck/laws.FnLoansIn", spec := "fnLoansIn", unfollowed := true, recurses := true, named := ["math/bits.deBruijn64tab"], apart := false, laid := [("math/bits.deBruijn64tab", laid_math_bits_deBruijn64tab)] }
def FnLoansInSaid : Prop := fnLoansInRow.holds Tryz.pinned (OpenSpec.ofChange fnLoansInSpec)

/-- ITS FALSE NEIGHBOUR: 'it returns false'. Refute it at one input. -/
def fnLoansInWrong : ChangeSpec := { name := "fnLoansIn", fn := fun _ => fun
  | [d] => { results := [.lit (.bool false)], args := [d] }
  | _ => none }
def FnLoansInWrongFalsely : Prop := fnLoansInRow.holds Tryz.pinned (OpenSpec.ofChange fnLoansInWrong)

/- THE SECOND FORM. 'bulk': how many values and letters a reading holds, each counted each time it is reached (what is shared counts as often as it is met; a slice's spare places count too). A statement '..UptoSaid' is the law's where the arguments, and the package variables that the reading takes, are together of bulk at most 1048576: NARROWER than '..Said'. Prove '..Said' where nothing that the law and all that it calls make is longer than what came in: it says more and counts as full. Else prove '..UptoSaid'. A law counts once. -/
mutual
def uptoBulk {H : Type} : DataW H → Nat
  | .lit (.string bytes) => bytes.length + 1
  | .lit _ => 1
  | .nil => 1
  | .ptr d => uptoBulk d + 1
  | .slice elems spare => uptoBulkAll elems + uptoBulkAll spare + 1
  | .agg parts => uptoBulkAll parts + 1
  | .iface _ d => uptoBulk d + 1
  | .map entries => uptoBulkEntries entries + 1
  | .held _ => 1
def uptoBulkAll {H : Type} : List (DataW H) → Nat
  | [] => 0
  | d :: r => uptoBulk d + uptoBulkAll r
def uptoBulkEntries {H : Type} : List (Lit × DataW H) → Nat
  | [] => 0
  | x :: r => uptoBulkEntry x + uptoBulkEntries r
def uptoBulkEntry {H : Type} : Lit × DataW H → Nat
  | (.string bytes, d) => bytes.length + uptoBulk d + 1
  | (_, d) => uptoBulk d + 1
 end
def uptoSmall : (H : Type) → List (DataW H) → Bool := fun _ ds => decide (uptoBulkAll ds ≤ 1048576)
def OpenSpec.upto (s : _root_.Go.ChangeSpec) : _root_.Go.OpenSpec := { _root_.Go.OpenSpec.ofChange s with cond := some uptoSmall }

/-- 'laws.FnExactLoansOf', WHERE WHAT IT READS IS OF BULK AT MOST 1048576: true; the input reads as it did. -/
def fnExactLoansOfUptoRow : OpenClaim := { program := "ytidjphifgemicaagreatdoor", sum := "ed20ce0fcffe88b80a90339270fb75cf6fcbc3d52523e22b7c6160df75c7646e", func := "loop.example/borrowcheck/laws.FnExactLoansOf", spec := "fnExactLoansOf", unfollowed := true, recurses := true, named := ["math/bits.deBruijn64tab"], loops := true, apart := false, laid := [("math/bits.deBruijn64tab", laid_math_bits_deBruijn64tab)], narrowed := true }
def FnExactLoansOfUptoSaid : Prop := fnExactLoansOfUptoRow.holds Tryz.pinned (OpenSpec.upto fnExactLoansOfSpec)

/-- 'laws.FnExactLoansIn', WHERE WHAT IT READS IS OF BULK AT MOST 1048576: true; the input reads as it did. -/
def fnExactLoansInUptoRow : OpenClaim := { program := "ytidjphifgemicaagreatdoor", sum := "ed20ce0fcffe88b80a90339270fb75cf6fcbc3d52523e22b7c6160df75c7646e", func := "loop.example/borrowcheck/laws.FnExactLoansIn", spec := "fnExactLoansIn", unfollowed := true, recurses := true, named := ["math/bits.deBruijn64tab"], loops := true, apart := false, laid := [("math/bits.deBruijn64tab", laid_math_bits_deBruijn64tab)], narrowed := true }
def FnExactLoansInUptoSaid : Prop := fnExactLoansInUptoRow.holds Tryz.pinned (OpenSpec.upto fnExactLoansInSpec)

/-- 'laws.FnExactPlacedLoans', WHERE WHAT IT READS IS OF BULK AT MOST 1048576: true; the input reads as it did. -/
def fnExactPlacedLoansUptoRow : OpenClaim := { program := "ytidjphifgemicaagreatdoor", sum := "ed20ce0fcffe88b80a90339270fb75cf6fcbc3d52523e22b7c6160df75c7646e", func := "loop.example/borrowcheck/laws.FnExactPlacedLoans", spec := "fnExactPlacedLoans", unfollowed := true, recurses := true, named := ["math/bits.deBruijn64tab"], loops := true, apart := false, laid := [("math/bits.deBruijn64tab", laid_math_bits_deBruijn64tab)], narrowed := true }
def FnExactPlacedLoansUptoSaid : Prop := fnExactPlacedLoansUptoRow.holds Tryz.pinned (OpenSpec.upto fnExactPlacedLoansSpec)

/-- 'laws.FnExactLiveLoans', WHERE WHAT IT READS IS OF BULK AT MOST 1048576: true; the input reads as it did. -/
def fnExactLiveLoansUptoRow : OpenClaim := { program := "ytidjphifgemicaagreatdoor", sum := "ed20ce0fcffe88b80a90339270fb75cf6fcbc3d52523e22b7c6160df75c7646e", func := "loop.example/borrowcheck/laws.FnExactLiveLoans", spec := "fnExactLiveLoans", unfollowed := true, recurses := true, named := ["math/bits.deBruijn64tab"], loops := true, apart := false, laid := [("math/bits.deBruijn64tab", laid_math_bits_deBruijn64tab)], narrowed := true }
def FnExactLiveLoansUptoSaid : Prop := fnExactLiveLoansUptoRow.holds Tryz.pinned (OpenSpec.upto fnExactLiveLoansSpec)

/-- 'laws.FnExactAccessesOf', WHERE WHAT IT READS IS OF BULK AT MOST 1048576: true; the input reads as it did. -/
def fnExactAccessesOfUptoRow : OpenClaim := { program := "ytidjphifgemicaagreatdoor", sum := "ed20ce0fcffe88b80a90339270fb75cf6fcbc3d52523e22b7c6160df75c7646e", func := "loop.example/borrowcheck/laws.FnExactAccessesOf", spec := "fnExactAccessesOf", unfollowed := true, recurses := true, named := ["math/bits.deBruijn64tab"], loops := true, apart := false, laid := [("math/bits.deBruijn64tab", laid_math_bits_deBruijn64tab)], narrowed := true }
def FnExactAccessesOfUptoSaid : Prop := fnExactAccessesOfUptoRow.holds Tryz.pinned (OpenSpec.upto fnExactAccessesOfSpec)

/-- 'laws.FnExactConflictsAt', WHERE WHAT IT READS IS OF BULK AT MOST 1048576: true; the input reads as it did. -/
def fnExactConflictsAtUptoRow : OpenClaim := { program := "ytidjphifgemicaagreatdoor", sum := "ed20ce0fcffe88b80a90339270fb75cf6fcbc3d52523e22b7c6160df75c7646e", func := "loop.example/borrowcheck/laws.FnExactConflictsAt", spec := "fnExactConflictsAt", unfollowed := true, recurses := true, named := ["math/bits.deBruijn64tab"], loops := true, apart := false, laid := [("math/bits.deBruijn64tab", laid_math_bits_deBruijn64tab)], narrowed := true }
def FnExactConflictsAtUptoSaid : Prop := fnExactConflictsAtUptoRow.holds Tryz.pinned (OpenSpec.upto fnExactConflictsAtSpec)

/-- 'laws.FnLoansOf', WHERE WHAT IT READS IS OF BULK AT MOST 1048576: true; the input reads as it did. -/
def fnLoansOfUptoRow : OpenClaim := { program := "ytidjphifgemicaagreatdoor", sum := "ed20ce0fcffe88b80a90339270fb75cf6fcbc3d52523e22b7c6160df75c7646e", func := "loop.example/borrowcheck/laws.FnLoansOf", spec := "fnLoansOf", unfollowed := true, recurses := true, named := ["math/bits.deBruijn64tab"], apart := false, laid := [("math/bits.deBruijn64tab", laid_math_bits_deBruijn64tab)], narrowed := true }
def FnLoansOfUptoSaid : Prop := fnLoansOfUptoRow.holds Tryz.pinned (OpenSpec.upto fnLoansOfSpec)

/-- 'laws.FnLoansIn', WHERE WHAT IT READS IS OF BULK AT MOST 1048576: true; the input reads as it did. -/
def fnLoansInUptoRow : OpenClaim := { program := "ytidjphifgemicaagreatdoor", sum := "ed20ce0fcffe88b80a90339270fb75cf6fcbc3d52523e22b7c6160df75c7646e", func := "loop.example/borrowcheck/laws.FnLoansIn", spec := "fnLoansIn", unfollowed := true, recurses := true, named := ["math/bits.deBruijn64tab"], apart := false, laid := [("math/bits.deBruijn64tab", laid_math_bits_deBruijn64tab)], narrowed := true }
def FnLoansInUptoSaid : Prop := fnLoansInUptoRow.holds Tryz.pinned (OpenSpec.upto fnLoansInSpec)

end Rows
end Go.Proofs.YtidjphifgemicaaGreatDoor
