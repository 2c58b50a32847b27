/-
  NARROWER THAN 'FOR EVERY INPUT', by the rows' own cells (each row's printed sentence says how): FnCellsOf: laid · FnMayAlias: laid · FnSettersOf: laid · FnUsersOf: laid · FnCellMakers: laid · FnCellsSet: laid · FnNumbersSet: laid · FnSetterOwn: laid · FnAliasLoan: laid.
  DERIVED. THE GIVEN ROWS OF THIS SEAT. 9 by the template 'for every input the law returns true; each argument reads behind the call as it read before'; 0 by the template 'total and deterministic' (their statements: YtofcdecpipgmjaaGreatDoorTotals.lean).
  GIVEN WITH THE SEED: the statements are not yours to turn. If you find one false, say at which input.
  Laid BY PROGRAM, IN A SANDBOX (cutbox-rows.mjs): the forced cells as the released guide's own fill.sh prints them over the translation e11c21a28021634b… (all of the seat's roots in one cut). By AI agents, Wed Nov 11 2026. No macro, syntax, notation, axiom, sorry.
-/
import Derived.Test.YtofcdecpipgmjaaGreatDoorChecked
import GoSem.Claim
import GoSem.ClaimJoined
import GoSem.ClaimMapViews
import Derived.JoinedTies
import Derived.KernelRfl
namespace Go.Proofs.YtofcdecpipgmjaaGreatDoor
/- THE CELL 'sum', in the pinned program and in every row, IS THE sha256 OF THE DUMP (.gsa) THAT YtofcdecpipgmjaaGreatDoorProg.lean LOADS. Nothing in Lean hashes anything: it is a label: what it is worth is what the hold of that sum in a sandbox is worth. -/
noncomputable def Tryz.pinned : Pinned := { name := "ytofcdecpipgmjaagreatdoor", sum := "e11c21a28021634b0f6039e9e2af1a5110c0c4faa10b2a41c9f81af6aa6f22fb", checked := Tryz.checked }
namespace Rows
def none {H : Type} : Left H := { results := [], args := [] }

/- WHAT THE LISTED PACKAGE-LEVEL VARIABLES READ AS WHEN THE CALL BEGINS. Each datum BY PROGRAM (the guide's laid-datum.mjs) off the statement by which the dump's own 'gosem.cut.vars' lays the variable. In a bare row this is a premise. The card (YtofcdecpipgmjaaGreatDoorCards.lean) ties it to the program's text. -/
def laid_math_bits_deBruijn64tab {H : Type} : DataW H := .agg [.lit (.int .u8 0), .lit (.int .u8 1), .lit (.int .u8 56), .lit (.int .u8 2), .lit (.int .u8 57), .lit (.int .u8 49), .lit (.int .u8 28), .lit (.int .u8 3), .lit (.int .u8 61), .lit (.int .u8 58), .lit (.int .u8 42), .lit (.int .u8 50), .lit (.int .u8 38), .lit (.int .u8 29), .lit (.int .u8 17), .lit (.int .u8 4), .lit (.int .u8 62), .lit (.int .u8 47), .lit (.int .u8 59), .lit (.int .u8 36), .lit (.int .u8 45), .lit (.int .u8 43), .lit (.int .u8 51), .lit (.int .u8 22), .lit (.int .u8 53), .lit (.int .u8 39), .lit (.int .u8 33), .lit (.int .u8 30), .lit (.int .u8 24), .lit (.int .u8 18), .lit (.int .u8 12), .lit (.int .u8 5), .lit (.int .u8 63), .lit (.int .u8 55), .lit (.int .u8 48), .lit (.int .u8 27), .lit (.int .u8 60), .lit (.int .u8 41), .lit (.int .u8 37), .lit (.int .u8 16), .lit (.int .u8 46), .lit (.int .u8 35), .lit (.int .u8 44), .lit (.int .u8 21), .lit (.int .u8 52), .lit (.int .u8 32), .lit (.int .u8 23), .lit (.int .u8 11), .lit (.int .u8 54), .lit (.int .u8 26), .lit (.int .u8 40), .lit (.int .u8 15), .lit (.int .u8 34), .lit (.int .u8 20), .lit (.int .u8 31), .lit (.int .u8 10), .lit (.int .u8 25), .lit (.int .u8 14), .lit (.int .u8 19), .lit (.int .u8 9), .lit (.int .u8 13), .lit (.int .u8 8), .lit (.int .u8 7), .lit (.int .u8 6)]

/-- 'laws.FnCellsOf': WHATEVER THE INPUT: true; the input reads as it did. -/
def fnCellsOfSpec : ChangeSpec := { name := "fnCellsOf", fn := fun _ => fun
  | [d1, d2] => { results := [.lit (.bool true)], args := [d1, d2] }
  | _ => none }
def fnCellsOfRow : OpenClaim := { program := "ytofcdecpipgmjaagreatdoor", sum := "e11c21a28021634b0f6039e9e2af1a5110c0c4faa10b2a41c9f81af6aa6f22fb", func := "loop.example/borrowcheck/laws.FnCellsOf", spec := "fnCellsOf", unfollowed := true, recurses := true, named := ["math/bits.deBruijn64tab"], apart := false, laid := [("math/bits.deBruijn64tab", laid_math_bits_deBruijn64tab)] }
def FnCellsOfSaid : Prop := fnCellsOfRow.holds Tryz.pinned (OpenSpec.ofChange fnCellsOfSpec)

/-- ITS FALSE NEIGHBOUR: 'it returns false'. Refute it at one input. -/
def fnCellsOfWrong : ChangeSpec := { name := "fnCellsOf", fn := fun _ => fun
  | [d1, d2] => { results := [.lit (.bool false)], args := [d1, d2] }
  | _ => none }
def FnCellsOfWrongFalsely : Prop := fnCellsOfRow.holds Tryz.pinned (OpenSpec.ofChange fnCellsOfWrong)

/-- 'laws.FnMayAlias': WHATEVER THE INPUT: true; the input reads as it did. -/
def fnMayAliasSpec : ChangeSpec := { name := "fnMayAlias", fn := fun _ => fun
  | [d] => { results := [.lit (.bool true)], args := [d] }
  | _ => none }
def fnMayAliasRow : OpenClaim := { program := "ytofcdecpipgmjaagreatdoor", sum := "e11c21a28021634b0f6039e9e2af1a5110c0c4faa10b2a41c9f81af6aa6f22fb", func := "loop.example/borrowcheck/laws.FnMayAlias", spec := "fnMayAlias", unfollowed := true, recurses := true, named := ["math/bits.deBruijn64tab"], apart := false, laid := [("math/bits.deBruijn64tab", laid_math_bits_deBruijn64tab)] }
def FnMayAliasSaid : Prop := fnMayAliasRow.holds Tryz.pinned (OpenSpec.ofChange fnMayAliasSpec)

/-- ITS FALSE NEIGHBOUR: 'it returns false'. Refute it at one input. -/
def fnMayAliasWrong : ChangeSpec := { name := "fnMayAlias", fn := fun _ => fun
  | [d] => { results := [.lit (.bool false)], args := [d] }
  | _ => none }
def FnMayAliasWrongFalsely : Prop := fnMayAliasRow.holds Tryz.pinned (OpenSpec.ofChange fnMayAliasWrong)

/-- 'laws.FnSettersOf': WHATEVER THE INPUT: true; the input reads as it did. -/
def fnSettersOfSpec : ChangeSpec := { name := "fnSettersOf", fn := fun _ => fun
  | [d] => { results := [.lit (.bool true)], args := [d] }
  | _ => none }
def fnSettersOfRow : OpenClaim := { program := "ytofcdecpipgmjaagreatdoor", sum := "e11c21a28021634b0f6039e9e2af1a5110c0c4faa10b2a41c9f81af6aa6f22fb", func := "loop.example/borrowcheck/laws.FnSettersOf", spec := "fnSettersOf", unfollowed := true, recurses := true, named := ["math/bits.deBruijn64tab"], apart := false, laid := [("math/bits.deBruijn64tab", laid_math_bits_deBruijn64tab)] }
def FnSettersOfSaid : Prop := fnSettersOfRow.holds Tryz.pinned (OpenSpec.ofChange fnSettersOfSpec)

/-- ITS FALSE NEIGHBOUR: 'it returns false'. Refute it at one input. -/
def fnSettersOfWrong : ChangeSpec := { name := "fnSettersOf", fn := fun _ => fun
  | [d] => { results := [.lit (.bool false)], args := [d] }
  | _ => none }
def FnSettersOfWrongFalsely : Prop := fnSettersOfRow.holds Tryz.pinned (OpenSpec.ofChange fnSettersOfWrong)

/-- 'laws.FnUsersOf': WHATEVER THE INPUT: true; the input reads as it did. -/
def fnUsersOfSpec : ChangeSpec := { name := "fnUsersOf", fn := fun _ => fun
  | [d] => { results := [.lit (.bool true)], args := [d] }
  | _ => none }
def fnUsersOfRow : OpenClaim := { program := "ytofcdecpipgmjaagreatdoor", sum := "e11c21a28021634b0f6039e9e2af1a5110c0c4faa10b2a41c9f81af6aa6f22fb", func := "loop.example/borrowcheck/laws.FnUsersOf", spec := "fnUsersOf", unfollowed := true, recurses := true, named := ["math/bits.deBruijn64tab"], apart := false, laid := [("math/bits.deBruijn64tab", laid_math_bits_deBruijn64tab)] }
def FnUsersOfSaid : Prop := fnUsersOfRow.holds Tryz.pinned (OpenSpec.ofChange fnUsersOfSpec)

/-- ITS FALSE NEIGHBOUR: 'it returns false'. Refute it at one input. -/
def fnUsersOfWrong : ChangeSpec := { name := "fnUsersOf", fn := fun _ => fun
  | [d] => { results := [.lit (.bool false)], args := [d] }
  | _ => none }
def FnUsersOfWrongFalsely : Prop := fnUsersOfRow.holds Tryz.pinned (OpenSpec.ofChange fnUsersOfWrong)

/-- 'laws.FnCellMakers': WHATEVER THE INPUT: true; the input reads as it did. -/
def fnCellMakersSpec : ChangeSpec := { name := "fnCellMakers", fn := fun _ => fun
  | [d] => { results := [.lit (.bool true)], args := [d] }
  | _ => none }
def fnCellMakersRow : OpenClaim := { program := "ytofcdecpipgmjaagreatdoor", sum := "e11c21a28021634b0f6039e9e2af1a5110c0c4faa10b2a41c9f81af6aa6f22fb", func := "loop.example/borrowcheck/laws.FnCellMakers", spec := "fnCellMakers", unfollowed := true, recurses := true, named := ["math/bits.deBruijn64tab"], apart := false, laid := [("math/bits.deBruijn64tab", laid_math_bits_deBruijn64tab)] }
def FnCellMakersSaid : Prop := fnCellMakersRow.holds Tryz.pinned (OpenSpec.ofChange fnCellMakersSpec)

/-- ITS FALSE NEIGHBOUR: 'it returns false'. Refute it at one input. -/
def fnCellMakersWrong : ChangeSpec := { name := "fnCellMakers", fn := fun _ => fun
  | [d] => { results := [.lit (.bool false)], args := [d] }
  | _ => none }
def FnCellMakersWrongFalsely : Prop := fnCellMakersRow.holds Tryz.pinned (OpenSpec.ofChange fnCellMakersWrong)

/-- 'laws.FnCellsSet': WHATEVER THE INPUT: true; the input reads as it did. -/
def fnCellsSetSpec : ChangeSpec := { name := "fnCellsSet", fn := fun _ => fun
  | [d] => { results := [.lit (.bool true)], args := [d] }
  | _ => none }
def fnCellsSetRow : OpenClaim := { program := "ytofcdecpipgmjaagreatdoor", sum := "e11c21a28021634b0f6039e9e2af1a5110c0c4faa10b2a41c9f81af6aa6f22fb", func := "loop.example/borrowcheck/laws.FnCellsSet", spec := "fnCellsSet", unfollowed := true, recurses := true, named := ["math/bits.deBruijn64tab"], apart := false, laid := [("math/bits.deBruijn64tab", laid_math_bits_deBruijn64tab)] }
def FnCellsSetSaid : Prop := fnCellsSetRow.holds Tryz.pinned (OpenSpec.ofChange fnCellsSetSpec)

/-- ITS FALSE NEIGHBOUR: 'it returns false'. Refute it at one input. -/
def fnCellsSetWrong : ChangeSpec := { name := "fnCellsSet", fn := fun _ => fun
  | [d] => { results := [.lit (.bool false)], args := [d] }
  | _ => none }
def FnCellsSetWrongFalsely : Prop := fnCellsSetRow.holds Tryz.pinned (OpenSpec.ofChange fnCellsSetWrong)

/-- 'laws.FnNumbersSet': WHATEVER THE INPUT: true; the input reads as it did. -/
def fnNumbersSetSpec : ChangeSpec := { name := "fnNumbersSet", fn := fun _ => fun
  | [d] => { results := [.lit (.bool true)], args := [d] }
  | _ => none }
def fnNumbersSetRow : OpenClaim := { program := "ytofcdecpipgmjaagreatdoor", sum := "e11c21a28021634b0f6039e9e2af1a5110c0c4faa10b2a41c9f81af6aa6f22fb", func := "loop.example/borrowcheck/laws.FnNumbersSet", spec := "fnNumbersSet", unfollowed := true, recurses := true, named := ["math/bits.deBruijn64tab"], apart := false, laid := [("math/bits.deBruijn64tab", laid_math_bits_deBruijn64tab)] }
def FnNumbersSetSaid : Prop := fnNumbersSetRow.holds Tryz.pinned (OpenSpec.ofChange fnNumbersSetSpec)

/-- ITS FALSE NEIGHBOUR: 'it returns false'. Refute it at one input. -/
def fnNumbersSetWrong : ChangeSpec := { name := "fnNumbersSet", fn := fun _ => fun
  | [d] => { results := [.lit (.bool false)], args := [d] }
  | _ => none }
def FnNumbersSetWrongFalsely : Prop := fnNumbersSetRow.holds Tryz.pinned (OpenSpec.ofChange fnNumbersSetWrong)

/-- 'laws.FnSetterOwn': WHATEVER THE INPUT: true; the input reads as it did. -/
def fnSetterOwnSpec : ChangeSpec := { name := "fnSetterOwn", fn := fun _ => fun
  | [d] => { results := [.lit (.bool true)], args := [d] }
  | _ => none }
def fnSetterOwnRow : OpenClaim := { program := "ytofcdecpipgmjaagreatdoor", sum := "e11c21a28021634b0f6039e9e2af1a5110c0c4faa10b2a41c9f81af6aa6f22fb", func := "loop.example/borrowcheck/laws.FnSetterOwn", spec := "fnSetterOwn", unfollowed := true, recurses := true, named := ["math/bits.deBruijn64tab"], apart := false, laid := [("math/bits.deBruijn64tab", laid_math_bits_deBruijn64tab)] }
def FnSetterOwnSaid : Prop := fnSetterOwnRow.holds Tryz.pinned (OpenSpec.ofChange fnSetterOwnSpec)

/-- ITS FALSE NEIGHBOUR: 'it returns false'. Refute it at one input. -/
def fnSetterOwnWrong : ChangeSpec := { name := "fnSetterOwn", fn := fun _ => fun
  | [d] => { results := [.lit (.bool false)], args := [d] }
  | _ => none }
def FnSetterOwnWrongFalsely : Prop := fnSetterOwnRow.holds Tryz.pinned (OpenSpec.ofChange fnSetterOwnWrong)

/-- 'laws.FnAliasLoan': WHATEVER THE INPUT: true; the input reads as it did. -/
def fnAliasLoanSpec : ChangeSpec := { name := "fnAliasLoan", fn := fun _ => fun
  | [d] => { results := [.lit (.bool true)], args := [d] }
  | _ => none }
def fnAliasLoanRow : OpenClaim := { program := "ytofcdecpipgmjaagreatdoor", sum := "e11c21a28021634b0f6039e9e2af1a5110c0c4faa10b2a41c9f81af6aa6f22fb", func := "loop.example/borrowcheck/laws.FnAliasLoan", spec := "fnAliasLoan", unfollowed := true, recurses := true, named := ["math/bits.deBruijn64tab"], apart := false, laid := [("math/bits.deBruijn64tab", laid_math_bits_deBruijn64tab)] }
def FnAliasLoanSaid : Prop := fnAliasLoanRow.holds Tryz.pinned (OpenSpec.ofChange fnAliasLoanSpec)

/-- ITS FALSE NEIGHBOUR: 'it returns false'. Refute it at one input. -/
def fnAliasLoanWrong : ChangeSpec := { name := "fnAliasLoan", fn := fun _ => fun
  | [d] => { results := [.lit (.bool false)], args := [d] }
  | _ => none }
def FnAliasLoanWrongFalsely : Prop := fnAliasLoanRow.holds Tryz.pinned (OpenSpec.ofChange fnAliasLoanWrong)

/- THE SECOND FORM. 'bulk': how many values and letters a reading holds, each counted each time it is reached (what is shared counts as often as it is met; a slice's spare places count too). A statement '..UptoSaid' is the law's where the arguments, and the package variables that the reading takes, are together of bulk at most 1048576: NARROWER than '..Said'. Prove '..Said' where nothing that the law and all that it calls make is longer than what came in: it says more and counts as full. Else prove '..UptoSaid'. A law counts once. -/
mutual
def uptoBulk {H : Type} : DataW H → Nat
  | .lit (.string bytes) => bytes.length + 1
  | .lit _ => 1
  | .nil => 1
  | .ptr d => uptoBulk d + 1
  | .slice elems spare => uptoBulkAll elems + uptoBulkAll spare + 1
  | .agg parts => uptoBulkAll parts + 1
  | .iface _ d => uptoBulk d + 1
  | .map entries => uptoBulkEntries entries + 1
  | .held _ => 1
def uptoBulkAll {H : Type} : List (DataW H) → Nat
  | [] => 0
  | d :: r => uptoBulk d + uptoBulkAll r
def uptoBulkEntries {H : Type} : List (Lit × DataW H) → Nat
  | [] => 0
  | x :: r => uptoBulkEntry x + uptoBulkEntries r
def uptoBulkEntry {H : Type} : Lit × DataW H → Nat
  | (.string bytes, d) => bytes.length + uptoBulk d + 1
  | (_, d) => uptoBulk d + 1
 end
def uptoSmall : (H : Type) → List (DataW H) → Bool := fun _ ds => decide (uptoBulkAll ds ≤ 1048576)
def OpenSpec.upto (s : _root_.Go.ChangeSpec) : _root_.Go.OpenSpec := { _root_.Go.OpenSpec.ofChange s with cond := some uptoSmall }

/-- 'laws.FnCellsOf', WHERE WHAT IT READS IS OF BULK AT MOST 1048576: true; the input reads as it did. -/
def fnCellsOfUptoRow : OpenClaim := { program := "ytofcdecpipgmjaagreatdoor", sum := "e11c21a28021634b0f6039e9e2af1a5110c0c4faa10b2a41c9f81af6aa6f22fb", func := "loop.example/borrowcheck/laws.FnCellsOf", spec := "fnCellsOf", unfollowed := true, recurses := true, named := ["math/bits.deBruijn64tab"], apart := false, laid := [("math/bits.deBruijn64tab", laid_math_bits_deBruijn64tab)], narrowed := true }
def FnCellsOfUptoSaid : Prop := fnCellsOfUptoRow.holds Tryz.pinned (OpenSpec.upto fnCellsOfSpec)

/-- 'laws.FnMayAlias', WHERE WHAT IT READS IS OF BULK AT MOST 1048576: true; the input reads as it did. -/
def fnMayAliasUptoRow : OpenClaim := { program := "ytofcdecpipgmjaagreatdoor", sum := "e11c21a28021634b0f6039e9e2af1a5110c0c4faa10b2a41c9f81af6aa6f22fb", func := "loop.example/borrowcheck/laws.FnMayAlias", spec := "fnMayAlias", unfollowed := true, recurses := true, named := ["math/bits.deBruijn64tab"], apart := false, laid := [("math/bits.deBruijn64tab", laid_math_bits_deBruijn64tab)], narrowed := true }
def FnMayAliasUptoSaid : Prop := fnMayAliasUptoRow.holds Tryz.pinned (OpenSpec.upto fnMayAliasSpec)

/-- 'laws.FnSettersOf', WHERE WHAT IT READS IS OF BULK AT MOST 1048576: true; the input reads as it did. -/
def fnSettersOfUptoRow : OpenClaim := { program := "ytofcdecpipgmjaagreatdoor", sum := "e11c21a28021634b0f6039e9e2af1a5110c0c4faa10b2a41c9f81af6aa6f22fb", func := "loop.example/borrowcheck/laws.FnSettersOf", spec := "fnSettersOf", unfollowed := true, recurses := true, named := ["math/bits.deBruijn64tab"], apart := false, laid := [("math/bits.deBruijn64tab", laid_math_bits_deBruijn64tab)], narrowed := true }
def FnSettersOfUptoSaid : Prop := fnSettersOfUptoRow.holds Tryz.pinned (OpenSpec.upto fnSettersOfSpec)

/-- 'laws.FnUsersOf', WHERE WHAT IT READS IS OF BULK AT MOST 1048576: true; the input reads as it did. -/
def fnUsersOfUptoRow : OpenClaim := { program := "ytofcdecpipgmjaagreatdoor", sum := "e11c21a28021634b0f6039e9e2af1a5110c0c4faa10b2a41c9f81af6aa6f22fb", func := "loop.example/borrowcheck/laws.FnUsersOf", spec := "fnUsersOf", unfollowed := true, recurses := true, named := ["math/bits.deBruijn64tab"], apart := false, laid := [("math/bits.deBruijn64tab", laid_math_bits_deBruijn64tab)], narrowed := true }
def FnUsersOfUptoSaid : Prop := fnUsersOfUptoRow.holds Tryz.pinned (OpenSpec.upto fnUsersOfSpec)

/-- 'laws.FnCellMakers', WHERE WHAT IT READS IS OF BULK AT MOST 1048576: true; the input reads as it did. -/
def fnCellMakersUptoRow : OpenClaim := { program := "ytofcdecpipgmjaagreatdoor", sum := "e11c21a28021634b0f6039e9e2af1a5110c0c4faa10b2a41c9f81af6aa6f22fb", func := "loop.example/borrowcheck/laws.FnCellMakers", spec := "fnCellMakers", unfollowed := true, recurses := true, named := ["math/bits.deBruijn64tab"], apart := false, laid := [("math/bits.deBruijn64tab", laid_math_bits_deBruijn64tab)], narrowed := true }
def FnCellMakersUptoSaid : Prop := fnCellMakersUptoRow.holds Tryz.pinned (OpenSpec.upto fnCellMakersSpec)

/-- 'laws.FnCellsSet', WHERE WHAT IT READS IS OF BULK AT MOST 1048576: true; the input reads as it did. -/
def fnCellsSetUptoRow : OpenClaim := { program := "ytofcdecpipgmjaagreatdoor", sum := "e11c21a28021634b0f6039e9e2af1a5110c0c4faa10b2a41c9f81af6aa6f22fb", func := "loop.example/borrowcheck/laws.FnCellsSet", spec := "fnCellsSet", unfollowed := true, recurses := true, named := ["math/bits.deBruijn64tab"], apart := false, laid := [("math/bits.deBruijn64tab", laid_math_bits_deBruijn64tab)], narrowed := true }
def FnCellsSetUptoSaid : Prop := fnCellsSetUptoRow.holds Tryz.pinned (OpenSpec.upto fnCellsSetSpec)

/-- 'laws.FnNumbersSet', WHERE WHAT IT READS IS OF BULK AT MOST 1048576: true; the input reads as it did. -/
def fnNumbersSetUptoRow : OpenClaim := { program := "ytofcdecpipgmjaagreatdoor", sum := "e11c21a28021634b0f6039e9e2af1a5110c0c4faa10b2a41c9f81af6aa6f22fb", func := "loop.example/borrowcheck/laws.FnNumbersSet", spec := "fnNumbersSet", unfollowed := true, recurses := true, named := ["math/bits.deBruijn64tab"], apart := false, laid := [("math/bits.deBruijn64tab", laid_math_bits_deBruijn64tab)], narrowed := true }
def FnNumbersSetUptoSaid : Prop := fnNumbersSetUptoRow.holds Tryz.pinned (OpenSpec.upto fnNumbersSetSpec)

/-- 'laws.FnSetterOwn', WHERE WHAT IT READS IS OF BULK AT MOST 1048576: true; the input reads as it did. -/
def fnSetterOwnUptoRow : OpenClaim := { program := "ytofcdecpipgmjaagreatdoor", sum := "e11c21a28021634b0f6039e9e2af1a5110c0c4faa10b2a41c9f81af6aa6f22fb", func := "loop.example/borrowcheck/laws.FnSetterOwn", spec := "fnSetterOwn", unfollowed := true, recurses := true, named := ["math/bits.deBruijn64tab"], apart := false, laid := [("math/bits.deBruijn64tab", laid_math_bits_deBruijn64tab)], narrowed := true }
def FnSetterOwnUptoSaid : Prop := fnSetterOwnUptoRow.holds Tryz.pinned (OpenSpec.upto fnSetterOwnSpec)

/-- 'laws.FnAliasLoan', WHERE WHAT IT READS IS OF BULK AT MOST 1048576: true; the input reads as it did. -/
def fnAliasLoanUptoRow : OpenClaim := { program := "ytofcdecpipgmjaagreatdoor", sum := "e11c21a28021634b0f6039e9e2af1a5110c0c4faa10b2a41c9f81af6aa6f22fb", func := "loop.example/borrowcheck/laws.FnAliasLoan", spec := "fnAliasLoan", unfollowed := true, recurses := true, named := ["math/bits.deBruijn64tab"], apart := false, laid := [("math/bits.deBruijn64tab", laid_math_bits_deBruijn64tab)], narrowed := true }
def FnAliasLoanUptoSaid : Prop := fnAliasLoanUptoRow.holds Tryz.pinned (OpenSpec.upto fnAliasLoanSpec)

end Rows
end Go.Proofs.YtofcdecpipgmjaaGreatDoor
