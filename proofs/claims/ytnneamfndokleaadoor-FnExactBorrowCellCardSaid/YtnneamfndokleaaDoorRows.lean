/-
  NARROWER THAN 'FOR EVERY INPUT', by the rows' own cells (each row's printed sentence says how): FnExactReadCell: ifaces, laid · FnExactWriteCell: ifaces, laid · FnExactShareCell: ifaces, laid · FnExactBorrowCell: ifaces, laid · FnExactFormatCells: laid.
  DERIVED. THE GIVEN ROWS OF THIS SEAT. 5 by the template 'for every input the law returns true; each argument reads behind the call as it read before'; 0 by the template 'total and deterministic' (their statements: YtnneamfndokleaaDoorTotals.lean).
  GIVEN WITH THE SEED: the statements are not yours to turn. If you find one false, say at which input.
  Laid BY PROGRAM, IN A SANDBOX (cutbox-rows.mjs): the forced cells as the released guide's own fill.sh prints them over the translation 1a57c4b96a157019… (all of the seat's roots in one cut). By AI agents, Wed Nov 11 2026. No macro, syntax, notation, axiom, sorry.
-/
import Derived.Test.YtnneamfndokleaaDoorChecked
import GoSem.Claim
import GoSem.ClaimJoined
import GoSem.ClaimMapViews
import Derived.JoinedTies
import Derived.KernelRfl
namespace Go.Proofs.YtnneamfndokleaaDoor
/- THE CELL 'sum', in the pinned program and in every row, IS THE sha256 OF THE DUMP (.gsa) THAT YtnneamfndokleaaDoorProg.lean LOADS. Nothing in Lean hashes anything: it is a label: what it is worth is what the hold of that sum in a sandbox is worth. -/
noncomputable def Tryd.pinned : Pinned := { name := "ytnneamfndokleaadoor", sum := "1a57c4b96a15701971c464d8eddf0417ca1895795c7817df7bf876ea99dec417", checked := Tryd.checked }
namespace Rows
def none {H : Type} : Left H := { results := [], args := [] }

/- WHAT THE LISTED PACKAGE-LEVEL VARIABLES READ AS WHEN THE CALL BEGINS. Each datum BY PROGRAM (the guide's laid-datum.mjs) off the statement by which the dump's own 'gosem.cut.vars' lays the variable. In a bare row this is a premise. The card (YtnneamfndokleaaDoorCards.lean) ties it to the program's text. -/
def laid_loop_example_borrowcheck_impl_errFreed {H : Type} : DataW H := .iface "*errors.errorString" (.ptr (.agg [.lit (.string [116, 104, 101, 32, 99, 101, 108, 108, 32, 105, 115, 32, 102, 114, 101, 101, 100])]))
def laid_loop_example_borrowcheck_impl_errLost {H : Type} : DataW H := .iface "*errors.errorString" (.ptr (.agg [.lit (.string [116, 104, 101, 32, 116, 97, 103, 32, 111, 102, 32, 116, 104, 101, 32, 112, 111, 105, 110, 116, 101, 114, 32, 105, 115, 32, 110, 111, 116, 32, 111, 110, 32, 116, 104, 101, 32, 115, 116, 97, 99, 107])]))
def laid_loop_example_borrowcheck_impl_errReadonly {H : Type} : DataW H := .iface "*errors.errorString" (.ptr (.agg [.lit (.string [116, 104, 101, 32, 112, 111, 105, 110, 116, 101, 114, 32, 105, 115, 32, 115, 104, 97, 114, 101, 100])]))
def laid_loop_example_borrowcheck_impl_errInvalid {H : Type} : DataW H := .iface "*errors.errorString" (.ptr (.agg [.lit (.string [116, 104, 101, 114, 101, 32, 105, 115, 32, 110, 111, 32, 115, 117, 99, 104, 32, 99, 101, 108, 108, 44, 32, 110, 117, 109, 98, 101, 114, 32, 111, 114, 32, 114, 111, 111, 109])]))
def laid_math_bits_deBruijn32tab {H : Type} : DataW H := .agg [.lit (.int .u8 0), .lit (.int .u8 1), .lit (.int .u8 28), .lit (.int .u8 2), .lit (.int .u8 29), .lit (.int .u8 14), .lit (.int .u8 24), .lit (.int .u8 3), .lit (.int .u8 30), .lit (.int .u8 22), .lit (.int .u8 20), .lit (.int .u8 15), .lit (.int .u8 25), .lit (.int .u8 17), .lit (.int .u8 4), .lit (.int .u8 8), .lit (.int .u8 31), .lit (.int .u8 27), .lit (.int .u8 13), .lit (.int .u8 23), .lit (.int .u8 21), .lit (.int .u8 19), .lit (.int .u8 16), .lit (.int .u8 7), .lit (.int .u8 26), .lit (.int .u8 12), .lit (.int .u8 18), .lit (.int .u8 6), .lit (.int .u8 11), .lit (.int .u8 5), .lit (.int .u8 10), .lit (.int .u8 9)]
def laid_math_bits_deBruijn64tab {H : Type} : DataW H := .agg [.lit (.int .u8 0), .lit (.int .u8 1), .lit (.int .u8 56), .lit (.int .u8 2), .lit (.int .u8 57), .lit (.int .u8 49), .lit (.int .u8 28), .lit (.int .u8 3), .lit (.int .u8 61), .lit (.int .u8 58), .lit (.int .u8 42), .lit (.int .u8 50), .lit (.int .u8 38), .lit (.int .u8 29), .lit (.int .u8 17), .lit (.int .u8 4), .lit (.int .u8 62), .lit (.int .u8 47), .lit (.int .u8 59), .lit (.int .u8 36), .lit (.int .u8 45), .lit (.int .u8 43), .lit (.int .u8 51), .lit (.int .u8 22), .lit (.int .u8 53), .lit (.int .u8 39), .lit (.int .u8 33), .lit (.int .u8 30), .lit (.int .u8 24), .lit (.int .u8 18), .lit (.int .u8 12), .lit (.int .u8 5), .lit (.int .u8 63), .lit (.int .u8 55), .lit (.int .u8 48), .lit (.int .u8 27), .lit (.int .u8 60), .lit (.int .u8 41), .lit (.int .u8 37), .lit (.int .u8 16), .lit (.int .u8 46), .lit (.int .u8 35), .lit (.int .u8 44), .lit (.int .u8 21), .lit (.int .u8 52), .lit (.int .u8 32), .lit (.int .u8 23), .lit (.int .u8 11), .lit (.int .u8 54), .lit (.int .u8 26), .lit (.int .u8 40), .lit (.int .u8 15), .lit (.int .u8 34), .lit (.int .u8 20), .lit (.int .u8 31), .lit (.int .u8 10), .lit (.int .u8 25), .lit (.int .u8 14), .lit (.int .u8 19), .lit (.int .u8 9), .lit (.int .u8 13), .lit (.int .u8 8), .lit (.int .u8 7), .lit (.int .u8 6)]
def laid_internal_strconv_uint64pow10 {H : Type} : DataW H := .agg [.lit (.int .u64 1), .lit (.int .u64 10), .lit (.int .u64 100), .lit (.int .u64 1000), .lit (.int .u64 10000), .lit (.int .u64 100000), .lit (.int .u64 1000000), .lit (.int .u64 10000000), .lit (.int .u64 100000000), .lit (.int .u64 1000000000), .lit (.int .u64 10000000000), .lit (.int .u64 100000000000), .lit (.int .u64 1000000000000), .lit (.int .u64 10000000000000), .lit (.int .u64 100000000000000), .lit (.int .u64 1000000000000000), .lit (.int .u64 10000000000000000), .lit (.int .u64 100000000000000000), .lit (.int .u64 1000000000000000000), .lit (.int .u64 10000000000000000000)]

/-- 'laws.FnExactReadCell': WHATEVER THE INPUT: true; the input reads as it did. -/
def fnExactReadCellSpec : ChangeSpec := { name := "fnExactReadCell", vars := ["loop.example/borrowcheck/impl.errFreed", "loop.example/borrowcheck/impl.errLost", "loop.example/borrowcheck/impl.errReadonly", "loop.example/borrowcheck/impl.errInvalid"], fn := fun _ => fun
  | [d1, d2, g1, g2, g3, g4] => { results := [.lit (.bool true)], args := [d1, d2], vars := [g1, g2, g3, g4] }
  | _ => none }
def fnExactReadCellRow : OpenClaim := { program := "ytnneamfndokleaadoor", sum := "1a57c4b96a15701971c464d8eddf0417ca1895795c7817df7bf876ea99dec417", func := "loop.example/borrowcheck/laws.FnExactReadCell", spec := "fnExactReadCell", inPlace := ["internal/reflectlite.TypeOf"], unfollowed := true, recurses := true, named := ["loop.example/borrowcheck/impl.errFreed", "loop.example/borrowcheck/impl.errLost", "loop.example/borrowcheck/impl.errReadonly", "loop.example/borrowcheck/impl.errInvalid"], ifaces := true, apart := false, laid := [("loop.example/borrowcheck/impl.errFreed", laid_loop_example_borrowcheck_impl_errFreed), ("loop.example/borrowcheck/impl.errLost", laid_loop_example_borrowcheck_impl_errLost), ("loop.example/borrowcheck/impl.errReadonly", laid_loop_example_borrowcheck_impl_errReadonly), ("loop.example/borrowcheck/impl.errInvalid", laid_loop_example_borrowcheck_impl_errInvalid)] }
def FnExactReadCellSaid : Prop := fnExactReadCellRow.holds Tryd.pinned (OpenSpec.ofChange fnExactReadCellSpec)

/-- ITS FALSE NEIGHBOUR: 'it returns false'. Refute it at one input. -/
def fnExactReadCellWrong : ChangeSpec := { name := "fnExactReadCell", vars := ["loop.example/borrowcheck/impl.errFreed", "loop.example/borrowcheck/impl.errLost", "loop.example/borrowcheck/impl.errReadonly", "loop.example/borrowcheck/impl.errInvalid"], fn := fun _ => fun
  | [d1, d2, g1, g2, g3, g4] => { results := [.lit (.bool false)], args := [d1, d2], vars := [g1, g2, g3, g4] }
  | _ => none }
def FnExactReadCellWrongFalsely : Prop := fnExactReadCellRow.holds Tryd.pinned (OpenSpec.ofChange fnExactReadCellWrong)

/-- 'laws.FnExactWriteCell': WHATEVER THE INPUT: true; the input reads as it did. -/
def fnExactWriteCellSpec : ChangeSpec := { name := "fnExactWriteCell", vars := ["loop.example/borrowcheck/impl.errInvalid", "loop.example/borrowcheck/impl.errReadonly", "loop.example/borrowcheck/impl.errFreed", "loop.example/borrowcheck/impl.errLost"], fn := fun _ => fun
  | [d1, d2, d3, g1, g2, g3, g4] => { results := [.lit (.bool true)], args := [d1, d2, d3], vars := [g1, g2, g3, g4] }
  | _ => none }
def fnExactWriteCellRow : OpenClaim := { program := "ytnneamfndokleaadoor", sum := "1a57c4b96a15701971c464d8eddf0417ca1895795c7817df7bf876ea99dec417", func := "loop.example/borrowcheck/laws.FnExactWriteCell", spec := "fnExactWriteCell", inPlace := ["internal/reflectlite.TypeOf"], unfollowed := true, recurses := true, named := ["loop.example/borrowcheck/impl.errInvalid", "loop.example/borrowcheck/impl.errReadonly", "loop.example/borrowcheck/impl.errFreed", "loop.example/borrowcheck/impl.errLost"], ifaces := true, apart := false, laid := [("loop.example/borrowcheck/impl.errFreed", laid_loop_example_borrowcheck_impl_errFreed), ("loop.example/borrowcheck/impl.errLost", laid_loop_example_borrowcheck_impl_errLost), ("loop.example/borrowcheck/impl.errReadonly", laid_loop_example_borrowcheck_impl_errReadonly), ("loop.example/borrowcheck/impl.errInvalid", laid_loop_example_borrowcheck_impl_errInvalid)] }
def FnExactWriteCellSaid : Prop := fnExactWriteCellRow.holds Tryd.pinned (OpenSpec.ofChange fnExactWriteCellSpec)

/-- ITS FALSE NEIGHBOUR: 'it returns false'. Refute it at one input. -/
def fnExactWriteCellWrong : ChangeSpec := { name := "fnExactWriteCell", vars := ["loop.example/borrowcheck/impl.errInvalid", "loop.example/borrowcheck/impl.errReadonly", "loop.example/borrowcheck/impl.errFreed", "loop.example/borrowcheck/impl.errLost"], fn := fun _ => fun
  | [d1, d2, d3, g1, g2, g3, g4] => { results := [.lit (.bool false)], args := [d1, d2, d3], vars := [g1, g2, g3, g4] }
  | _ => none }
def FnExactWriteCellWrongFalsely : Prop := fnExactWriteCellRow.holds Tryd.pinned (OpenSpec.ofChange fnExactWriteCellWrong)

/-- 'laws.FnExactShareCell': WHATEVER THE INPUT: true; the input reads as it did. -/
def fnExactShareCellSpec : ChangeSpec := { name := "fnExactShareCell", vars := ["loop.example/borrowcheck/impl.errFreed", "loop.example/borrowcheck/impl.errLost", "loop.example/borrowcheck/impl.errReadonly", "loop.example/borrowcheck/impl.errInvalid"], fn := fun _ => fun
  | [d1, d2, g1, g2, g3, g4] => { results := [.lit (.bool true)], args := [d1, d2], vars := [g1, g2, g3, g4] }
  | _ => none }
def fnExactShareCellRow : OpenClaim := { program := "ytnneamfndokleaadoor", sum := "1a57c4b96a15701971c464d8eddf0417ca1895795c7817df7bf876ea99dec417", func := "loop.example/borrowcheck/laws.FnExactShareCell", spec := "fnExactShareCell", inPlace := ["internal/reflectlite.TypeOf"], unfollowed := true, recurses := true, named := ["loop.example/borrowcheck/impl.errFreed", "loop.example/borrowcheck/impl.errLost", "loop.example/borrowcheck/impl.errReadonly", "loop.example/borrowcheck/impl.errInvalid"], ifaces := true, apart := false, laid := [("loop.example/borrowcheck/impl.errFreed", laid_loop_example_borrowcheck_impl_errFreed), ("loop.example/borrowcheck/impl.errLost", laid_loop_example_borrowcheck_impl_errLost), ("loop.example/borrowcheck/impl.errReadonly", laid_loop_example_borrowcheck_impl_errReadonly), ("loop.example/borrowcheck/impl.errInvalid", laid_loop_example_borrowcheck_impl_errInvalid)] }
def FnExactShareCellSaid : Prop := fnExactShareCellRow.holds Tryd.pinned (OpenSpec.ofChange fnExactShareCellSpec)

/-- ITS FALSE NEIGHBOUR: 'it returns false'. Refute it at one input. -/
def fnExactShareCellWrong : ChangeSpec := { name := "fnExactShareCell", vars := ["loop.example/borrowcheck/impl.errFreed", "loop.example/borrowcheck/impl.errLost", "loop.example/borrowcheck/impl.errReadonly", "loop.example/borrowcheck/impl.errInvalid"], fn := fun _ => fun
  | [d1, d2, g1, g2, g3, g4] => { results := [.lit (.bool false)], args := [d1, d2], vars := [g1, g2, g3, g4] }
  | _ => none }
def FnExactShareCellWrongFalsely : Prop := fnExactShareCellRow.holds Tryd.pinned (OpenSpec.ofChange fnExactShareCellWrong)

/-- 'laws.FnExactBorrowCell': WHATEVER THE INPUT: true; the input reads as it did. -/
def fnExactBorrowCellSpec : ChangeSpec := { name := "fnExactBorrowCell", vars := ["loop.example/borrowcheck/impl.errFreed", "loop.example/borrowcheck/impl.errLost", "loop.example/borrowcheck/impl.errReadonly", "loop.example/borrowcheck/impl.errInvalid"], fn := fun _ => fun
  | [d1, d2, g1, g2, g3, g4] => { results := [.lit (.bool true)], args := [d1, d2], vars := [g1, g2, g3, g4] }
  | _ => none }
def fnExactBorrowCellRow : OpenClaim := { program := "ytnneamfndokleaadoor", sum := "1a57c4b96a15701971c464d8eddf0417ca1895795c7817df7bf876ea99dec417", func := "loop.example/borrowcheck/laws.FnExactBorrowCell", spec := "fnExactBorrowCell", inPlace := ["internal/reflectlite.TypeOf"], unfollowed := true, recurses := true, named := ["loop.example/borrowcheck/impl.errFreed", "loop.example/borrowcheck/impl.errLost", "loop.example/borrowcheck/impl.errReadonly", "loop.example/borrowcheck/impl.errInvalid"], ifaces := true, apart := false, laid := [("loop.example/borrowcheck/impl.errFreed", laid_loop_example_borrowcheck_impl_errFreed), ("loop.example/borrowcheck/impl.errLost", laid_loop_example_borrowcheck_impl_errLost), ("loop.example/borrowcheck/impl.errReadonly", laid_loop_example_borrowcheck_impl_errReadonly), ("loop.example/borrowcheck/impl.errInvalid", laid_loop_example_borrowcheck_impl_errInvalid)] }
def FnExactBorrowCellSaid : Prop := fnExactBorrowCellRow.holds Tryd.pinned (OpenSpec.ofChange fnExactBorrowCellSpec)

/-- ITS FALSE NEIGHBOUR: 'it returns false'. Refute it at one input. -/
def fnExactBorrowCellWrong : ChangeSpec := { name := "fnExactBorrowCell", vars := ["loop.example/borrowcheck/impl.errFreed", "loop.example/borrowcheck/impl.errLost", "loop.example/borrowcheck/impl.errReadonly", "loop.example/borrowcheck/impl.errInvalid"], fn := fun _ => fun
  | [d1, d2, g1, g2, g3, g4] => { results := [.lit (.bool false)], args := [d1, d2], vars := [g1, g2, g3, g4] }
  | _ => none }
def FnExactBorrowCellWrongFalsely : Prop := fnExactBorrowCellRow.holds Tryd.pinned (OpenSpec.ofChange fnExactBorrowCellWrong)

/-- 'laws.FnExactFormatCells': WHATEVER THE INPUT: true; the input reads as it did. -/
def fnExactFormatCellsSpec : ChangeSpec := { name := "fnExactFormatCells", fn := fun _ => fun
  | [d] => { results := [.lit (.bool true)], args := [d] }
  | _ => none }
def fnExactFormatCellsRow : OpenClaim := { program := "ytnneamfndokleaadoor", sum := "1a57c4b96a15701971c464d8eddf0417ca1895795c7817df7bf876ea99dec417", func := "loop.example/borrowcheck/laws.FnExactFormatCells", spec := "fnExactFormatCells", inPlace := ["internal/abi.NoEscape"], unfollowed := true, recurses := true, named := ["internal/strconv.uint64pow10", "math/bits.deBruijn32tab", "math/bits.deBruijn64tab"], apart := false, laid := [("math/bits.deBruijn32tab", laid_math_bits_deBruijn32tab), ("math/bits.deBruijn64tab", laid_math_bits_deBruijn64tab), ("internal/strconv.uint64pow10", laid_internal_strconv_uint64pow10)] }
def FnExactFormatCellsSaid : Prop := fnExactFormatCellsRow.holds Tryd.pinned (OpenSpec.ofChange fnExactFormatCellsSpec)

/-- ITS FALSE NEIGHBOUR: 'it returns false'. Refute it at one input. -/
def fnExactFormatCellsWrong : ChangeSpec := { name := "fnExactFormatCells", fn := fun _ => fun
  | [d] => { results := [.lit (.bool false)], args := [d] }
  | _ => none }
def FnExactFormatCellsWrongFalsely : Prop := fnExactFormatCellsRow.holds Tryd.pinned (OpenSpec.ofChange fnExactFormatCellsWrong)

/- THE SECOND FORM. 'bulk': how many values and letters a reading holds, each counted each time it is reached (what is shared counts as often as it is met; a slice's spare places count too). A statement '..UptoSaid' is the law's where the arguments, and the package variables that the reading takes, are together of bulk at most 1048576: NARROWER than '..Said'. Prove '..Said' where nothing that the law and all that it calls make is longer than what came in: it says more and counts as full. Else prove '..UptoSaid'. A law counts once. -/
mutual
def uptoBulk {H : Type} : DataW H → Nat
  | .lit (.string bytes) => bytes.length + 1
  | .lit _ => 1
  | .nil => 1
  | .ptr d => uptoBulk d + 1
  | .slice elems spare => uptoBulkAll elems + uptoBulkAll spare + 1
  | .agg parts => uptoBulkAll parts + 1
  | .iface _ d => uptoBulk d + 1
  | .map entries => uptoBulkEntries entries + 1
  | .held _ => 1
def uptoBulkAll {H : Type} : List (DataW H) → Nat
  | [] => 0
  | d :: r => uptoBulk d + uptoBulkAll r
def uptoBulkEntries {H : Type} : List (Lit × DataW H) → Nat
  | [] => 0
  | x :: r => uptoBulkEntry x + uptoBulkEntries r
def uptoBulkEntry {H : Type} : Lit × DataW H → Nat
  | (.string bytes, d) => bytes.length + uptoBulk d + 1
  | (_, d) => uptoBulk d + 1
 end
def uptoSmall : (H : Type) → List (DataW H) → Bool := fun _ ds => decide (uptoBulkAll ds ≤ 1048576)
def OpenSpec.upto (s : _root_.Go.ChangeSpec) : _root_.Go.OpenSpec := { _root_.Go.OpenSpec.ofChange s with cond := some uptoSmall }

/-- 'laws.FnExactReadCell', WHERE WHAT IT READS IS OF BULK AT MOST 1048576: true; the input reads as it did. -/
def fnExactReadCellUptoRow : OpenClaim := { program := "ytnneamfndokleaadoor", sum := "1a57c4b96a15701971c464d8eddf0417ca1895795c7817df7bf876ea99dec417", func := "loop.example/borrowcheck/laws.FnExactReadCell", spec := "fnExactReadCell", inPlace := ["internal/reflectlite.TypeOf"], unfollowed := true, recurses := true, named := ["loop.example/borrowcheck/impl.errFreed", "loop.example/borrowcheck/impl.errLost", "loop.example/borrowcheck/impl.errReadonly", "loop.example/borrowcheck/impl.errInvalid"], ifaces := true, apart := false, laid := [("loop.example/borrowcheck/impl.errFreed", laid_loop_example_borrowcheck_impl_errFreed), ("loop.example/borrowcheck/impl.errLost", laid_loop_example_borrowcheck_impl_errLost), ("loop.example/borrowcheck/impl.errReadonly", laid_loop_example_borrowcheck_impl_errReadonly), ("loop.example/borrowcheck/impl.errInvalid", laid_loop_example_borrowcheck_impl_errInvalid)], narrowed := true }
def FnExactReadCellUptoSaid : Prop := fnExactReadCellUptoRow.holds Tryd.pinned (OpenSpec.upto fnExactReadCellSpec)

/-- 'laws.FnExactWriteCell', WHERE WHAT IT READS IS OF BULK AT MOST 1048576: true; the input reads as it did. -/
def fnExactWriteCellUptoRow : OpenClaim := { program := "ytnneamfndokleaadoor", sum := "1a57c4b96a15701971c464d8eddf0417ca1895795c7817df7bf876ea99dec417", func := "loop.example/borrowcheck/laws.FnExactWriteCell", spec := "fnExactWriteCell", inPlace := ["internal/reflectlite.TypeOf"], unfollowed := true, recurses := true, named := ["loop.example/borrowcheck/impl.errInvalid", "loop.example/borrowcheck/impl.errReadonly", "loop.example/borrowcheck/impl.errFreed", "loop.example/borrowcheck/impl.errLost"], ifaces := true, apart := false, laid := [("loop.example/borrowcheck/impl.errFreed", laid_loop_example_borrowcheck_impl_errFreed), ("loop.example/borrowcheck/impl.errLost", laid_loop_example_borrowcheck_impl_errLost), ("loop.example/borrowcheck/impl.errReadonly", laid_loop_example_borrowcheck_impl_errReadonly), ("loop.example/borrowcheck/impl.errInvalid", laid_loop_example_borrowcheck_impl_errInvalid)], narrowed := true }
def FnExactWriteCellUptoSaid : Prop := fnExactWriteCellUptoRow.holds Tryd.pinned (OpenSpec.upto fnExactWriteCellSpec)

/-- 'laws.FnExactShareCell', WHERE WHAT IT READS IS OF BULK AT MOST 1048576: true; the input reads as it did. -/
def fnExactShareCellUptoRow : OpenClaim := { program := "ytnneamfndokleaadoor", sum := "1a57c4b96a15701971c464d8eddf0417ca1895795c7817df7bf876ea99dec417", func := "loop.example/borrowcheck/laws.FnExactShareCell", spec := "fnExactShareCell", inPlace := ["internal/reflectlite.TypeOf"], unfollowed := true, recurses := true, named := ["loop.example/borrowcheck/impl.errFreed", "loop.example/borrowcheck/impl.errLost", "loop.example/borrowcheck/impl.errReadonly", "loop.example/borrowcheck/impl.errInvalid"], ifaces := true, apart := false, laid := [("loop.example/borrowcheck/impl.errFreed", laid_loop_example_borrowcheck_impl_errFreed), ("loop.example/borrowcheck/impl.errLost", laid_loop_example_borrowcheck_impl_errLost), ("loop.example/borrowcheck/impl.errReadonly", laid_loop_example_borrowcheck_impl_errReadonly), ("loop.example/borrowcheck/impl.errInvalid", laid_loop_example_borrowcheck_impl_errInvalid)], narrowed := true }
def FnExactShareCellUptoSaid : Prop := fnExactShareCellUptoRow.holds Tryd.pinned (OpenSpec.upto fnExactShareCellSpec)

/-- 'laws.FnExactBorrowCell', WHERE WHAT IT READS IS OF BULK AT MOST 1048576: true; the input reads as it did. -/
def fnExactBorrowCellUptoRow : OpenClaim := { program := "ytnneamfndokleaadoor", sum := "1a57c4b96a15701971c464d8eddf0417ca1895795c7817df7bf876ea99dec417", func := "loop.example/borrowcheck/laws.FnExactBorrowCell", spec := "fnExactBorrowCell", inPlace := ["internal/reflectlite.TypeOf"], unfollowed := true, recurses := true, named := ["loop.example/borrowcheck/impl.errFreed", "loop.example/borrowcheck/impl.errLost", "loop.example/borrowcheck/impl.errReadonly", "loop.example/borrowcheck/impl.errInvalid"], ifaces := true, apart := false, laid := [("loop.example/borrowcheck/impl.errFreed", laid_loop_example_borrowcheck_impl_errFreed), ("loop.example/borrowcheck/impl.errLost", laid_loop_example_borrowcheck_impl_errLost), ("loop.example/borrowcheck/impl.errReadonly", laid_loop_example_borrowcheck_impl_errReadonly), ("loop.example/borrowcheck/impl.errInvalid", laid_loop_example_borrowcheck_impl_errInvalid)], narrowed := true }
def FnExactBorrowCellUptoSaid : Prop := fnExactBorrowCellUptoRow.holds Tryd.pinned (OpenSpec.upto fnExactBorrowCellSpec)

/-- 'laws.FnExactFormatCells', WHERE WHAT IT READS IS OF BULK AT MOST 1048576: true; the input reads as it did. -/
def fnExactFormatCellsUptoRow : OpenClaim := { program := "ytnneamfndokleaadoor", sum := "1a57c4b96a15701971c464d8eddf0417ca1895795c7817df7bf876ea99dec417", func := "loop.example/borrowcheck/laws.FnExactFormatCells", spec := "fnExactFormatCells", inPlace := ["internal/abi.NoEscape"], unfollowed := true, recurses := true, named := ["internal/strconv.uint64pow10", "math/bits.deBruijn32tab", "math/bits.deBruijn64tab"], apart := false, laid := [("math/bits.deBruijn32tab", laid_math_bits_deBruijn32tab), ("math/bits.deBruijn64tab", laid_math_bits_deBruijn64tab), ("internal/strconv.uint64pow10", laid_internal_strconv_uint64pow10)], narrowed := true }
def FnExactFormatCellsUptoSaid : Prop := fnExactFormatCellsUptoRow.holds Tryd.pinned (OpenSpec.upto fnExactFormatCellsSpec)

end Rows
end Go.Proofs.YtnneamfndokleaaDoor
