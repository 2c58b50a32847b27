/-
  NARROWER THAN 'FOR EVERY INPUT', by the rows' own cells (each row's printed sentence says how): FnReadCell: ifaces, laid · FnWriteCell: ifaces, laid · FnShareCell: ifaces, laid · FnBorrowCell: ifaces, laid · FnFreeCell: ifaces, laid · FnNewCell: ifaces, laid · FnFormatCells: laid · FnReadTwice: ifaces, laid · FnBorrowTwice: ifaces, laid · FnOtherCells: ifaces, laid · FnOwnerStays: ifaces, laid · FnTagsGrow: ifaces, laid.
  DERIVED. THE GIVEN ROWS OF THIS SEAT. 12 by the template 'for every input the law returns true; each argument reads behind the call as it read before'; 0 by the template 'total and deterministic' (their statements: YtfkoobdlhdolbaaDoorTotals.lean).
  GIVEN WITH THE SEED: the statements are not yours to turn. If you find one false, say at which input.
  Laid BY PROGRAM, IN A SANDBOX (cutbox-rows.mjs): the forced cells as the released guide's own fill.sh prints them over the translation bd6c37409da40bdb… (all of the seat's roots in one cut). By AI agents, Wed Nov 11 2026. No macro, syntax, notation, axiom, sorry.
-/
import Derived.Test.YtfkoobdlhdolbaaDoorChecked
import GoSem.Claim
import GoSem.ClaimJoined
import GoSem.ClaimMapViews
import Derived.JoinedTies
import Derived.KernelRfl
namespace Go.Proofs.YtfkoobdlhdolbaaDoor
/- THE CELL 'sum', in the pinned program and in every row, IS THE sha256 OF THE DUMP (.gsa) THAT YtfkoobdlhdolbaaDoorProg.lean LOADS. Nothing in Lean hashes anything: it is a label: what it is worth is what the hold of that sum in a sandbox is worth. -/
noncomputable def Tryd.pinned : Pinned := { name := "ytfkoobdlhdolbaadoor", sum := "bd6c37409da40bdba0c4ce47ea9dde3feac2ef8c0e0bb6d3e205c6521f032495", checked := Tryd.checked }
namespace Rows
def none {H : Type} : Left H := { results := [], args := [] }

/- WHAT THE LISTED PACKAGE-LEVEL VARIABLES READ AS WHEN THE CALL BEGINS. Each datum BY PROGRAM (the guide's laid-datum.mjs) off the statement by which the dump's own 'gosem.cut.vars' lays the variable. In a bare row this is a premise. The card (YtfkoobdlhdolbaaDoorCards.lean) ties it to the program's text. -/
def laid_loop_example_borrowcheck_impl_errFreed {H : Type} : DataW H := .iface "*errors.errorString" (.ptr (.agg [.lit (.string [116, 104, 101, 32, 99, 101, 108, 108, 32, 105, 115, 32, 102, 114, 101, 101, 100])]))
def laid_loop_example_borrowcheck_impl_errLost {H : Type} : DataW H := .iface "*errors.errorString" (.ptr (.agg [.lit (.string [116, 104, 101, 32, 116, 97, 103, 32, 111, 102, 32, 116, 104, 101, 32, 112, 111, 105, 110, 116, 101, 114, 32, 105, 115, 32, 110, 111, 116, 32, 111, 110, 32, 116, 104, 101, 32, 115, 116, 97, 99, 107])]))
def laid_loop_example_borrowcheck_impl_errReadonly {H : Type} : DataW H := .iface "*errors.errorString" (.ptr (.agg [.lit (.string [116, 104, 101, 32, 112, 111, 105, 110, 116, 101, 114, 32, 105, 115, 32, 115, 104, 97, 114, 101, 100])]))
def laid_loop_example_borrowcheck_impl_errInvalid {H : Type} : DataW H := .iface "*errors.errorString" (.ptr (.agg [.lit (.string [116, 104, 101, 114, 101, 32, 105, 115, 32, 110, 111, 32, 115, 117, 99, 104, 32, 99, 101, 108, 108, 44, 32, 110, 117, 109, 98, 101, 114, 32, 111, 114, 32, 114, 111, 111, 109])]))
def laid_math_bits_deBruijn32tab {H : Type} : DataW H := .agg [.lit (.int .u8 0), .lit (.int .u8 1), .lit (.int .u8 28), .lit (.int .u8 2), .lit (.int .u8 29), .lit (.int .u8 14), .lit (.int .u8 24), .lit (.int .u8 3), .lit (.int .u8 30), .lit (.int .u8 22), .lit (.int .u8 20), .lit (.int .u8 15), .lit (.int .u8 25), .lit (.int .u8 17), .lit (.int .u8 4), .lit (.int .u8 8), .lit (.int .u8 31), .lit (.int .u8 27), .lit (.int .u8 13), .lit (.int .u8 23), .lit (.int .u8 21), .lit (.int .u8 19), .lit (.int .u8 16), .lit (.int .u8 7), .lit (.int .u8 26), .lit (.int .u8 12), .lit (.int .u8 18), .lit (.int .u8 6), .lit (.int .u8 11), .lit (.int .u8 5), .lit (.int .u8 10), .lit (.int .u8 9)]
def laid_math_bits_deBruijn64tab {H : Type} : DataW H := .agg [.lit (.int .u8 0), .lit (.int .u8 1), .lit (.int .u8 56), .lit (.int .u8 2), .lit (.int .u8 57), .lit (.int .u8 49), .lit (.int .u8 28), .lit (.int .u8 3), .lit (.int .u8 61), .lit (.int .u8 58), .lit (.int .u8 42), .lit (.int .u8 50), .lit (.int .u8 38), .lit (.int .u8 29), .lit (.int .u8 17), .lit (.int .u8 4), .lit (.int .u8 62), .lit (.int .u8 47), .lit (.int .u8 59), .lit (.int .u8 36), .lit (.int .u8 45), .lit (.int .u8 43), .lit (.int .u8 51), .lit (.int .u8 22), .lit (.int .u8 53), .lit (.int .u8 39), .lit (.int .u8 33), .lit (.int .u8 30), .lit (.int .u8 24), .lit (.int .u8 18), .lit (.int .u8 12), .lit (.int .u8 5), .lit (.int .u8 63), .lit (.int .u8 55), .lit (.int .u8 48), .lit (.int .u8 27), .lit (.int .u8 60), .lit (.int .u8 41), .lit (.int .u8 37), .lit (.int .u8 16), .lit (.int .u8 46), .lit (.int .u8 35), .lit (.int .u8 44), .lit (.int .u8 21), .lit (.int .u8 52), .lit (.int .u8 32), .lit (.int .u8 23), .lit (.int .u8 11), .lit (.int .u8 54), .lit (.int .u8 26), .lit (.int .u8 40), .lit (.int .u8 15), .lit (.int .u8 34), .lit (.int .u8 20), .lit (.int .u8 31), .lit (.int .u8 10), .lit (.int .u8 25), .lit (.int .u8 14), .lit (.int .u8 19), .lit (.int .u8 9), .lit (.int .u8 13), .lit (.int .u8 8), .lit (.int .u8 7), .lit (.int .u8 6)]
def laid_internal_strconv_uint64pow10 {H : Type} : DataW H := .agg [.lit (.int .u64 1), .lit (.int .u64 10), .lit (.int .u64 100), .lit (.int .u64 1000), .lit (.int .u64 10000), .lit (.int .u64 100000), .lit (.int .u64 1000000), .lit (.int .u64 10000000), .lit (.int .u64 100000000), .lit (.int .u64 1000000000), .lit (.int .u64 10000000000), .lit (.int .u64 100000000000), .lit (.int .u64 1000000000000), .lit (.int .u64 10000000000000), .lit (.int .u64 100000000000000), .lit (.int .u64 1000000000000000), .lit (.int .u64 10000000000000000), .lit (.int .u64 100000000000000000), .lit (.int .u64 1000000000000000000), .lit (.int .u64 10000000000000000000)]

/-- 'laws.FnReadCell': WHATEVER THE INPUT: true; the input reads as it did. -/
def fnReadCellSpec : ChangeSpec := { name := "fnReadCell", vars := ["loop.example/borrowcheck/impl.errFreed", "loop.example/borrowcheck/impl.errLost", "loop.example/borrowcheck/impl.errReadonly", "loop.example/borrowcheck/impl.errInvalid"], fn := fun _ => fun
  | [d, g1, g2, g3, g4] => { results := [.lit (.bool true)], args := [d], vars := [g1, g2, g3, g4] }
  | _ => none }
def fnReadCellRow : OpenClaim := { program := "ytfkoobdlhdolbaadoor", sum := "bd6c37409da40bdba0c4ce47ea9dde3feac2ef8c0e0bb6d3e205c6521f032495", func := "loop.example/borrowcheck/laws.FnReadCell", spec := "fnReadCell", inPlace := ["internal/reflectlite.TypeOf"], unfollowed := true, recurses := true, named := ["loop.example/borrowcheck/impl.errFreed", "loop.example/borrowcheck/impl.errLost", "loop.example/borrowcheck/impl.errReadonly", "loop.example/borrowcheck/impl.errInvalid"], ifaces := true, apart := false, laid := [("loop.example/borrowcheck/impl.errFreed", laid_loop_example_borrowcheck_impl_errFreed), ("loop.example/borrowcheck/impl.errLost", laid_loop_example_borrowcheck_impl_errLost), ("loop.example/borrowcheck/impl.errReadonly", laid_loop_example_borrowcheck_impl_errReadonly), ("loop.example/borrowcheck/impl.errInvalid", laid_loop_example_borrowcheck_impl_errInvalid)] }
def FnReadCellSaid : Prop := fnReadCellRow.holds Tryd.pinned (OpenSpec.ofChange fnReadCellSpec)

/-- ITS FALSE NEIGHBOUR: 'it returns false'. Refute it at one input. -/
def fnReadCellWrong : ChangeSpec := { name := "fnReadCell", vars := ["loop.example/borrowcheck/impl.errFreed", "loop.example/borrowcheck/impl.errLost", "loop.example/borrowcheck/impl.errReadonly", "loop.example/borrowcheck/impl.errInvalid"], fn := fun _ => fun
  | [d, g1, g2, g3, g4] => { results := [.lit (.bool false)], args := [d], vars := [g1, g2, g3, g4] }
  | _ => none }
def FnReadCellWrongFalsely : Prop := fnReadCellRow.holds Tryd.pinned (OpenSpec.ofChange fnReadCellWrong)

/-- 'laws.FnWriteCell': WHATEVER THE INPUT: true; the input reads as it did. -/
def fnWriteCellSpec : ChangeSpec := { name := "fnWriteCell", vars := ["loop.example/borrowcheck/impl.errInvalid", "loop.example/borrowcheck/impl.errReadonly", "loop.example/borrowcheck/impl.errFreed", "loop.example/borrowcheck/impl.errLost"], fn := fun _ => fun
  | [d, g1, g2, g3, g4] => { results := [.lit (.bool true)], args := [d], vars := [g1, g2, g3, g4] }
  | _ => none }
def fnWriteCellRow : OpenClaim := { program := "ytfkoobdlhdolbaadoor", sum := "bd6c37409da40bdba0c4ce47ea9dde3feac2ef8c0e0bb6d3e205c6521f032495", func := "loop.example/borrowcheck/laws.FnWriteCell", spec := "fnWriteCell", inPlace := ["internal/reflectlite.TypeOf"], unfollowed := true, recurses := true, named := ["loop.example/borrowcheck/impl.errInvalid", "loop.example/borrowcheck/impl.errReadonly", "loop.example/borrowcheck/impl.errFreed", "loop.example/borrowcheck/impl.errLost"], ifaces := true, apart := false, laid := [("loop.example/borrowcheck/impl.errFreed", laid_loop_example_borrowcheck_impl_errFreed), ("loop.example/borrowcheck/impl.errLost", laid_loop_example_borrowcheck_impl_errLost), ("loop.example/borrowcheck/impl.errReadonly", laid_loop_example_borrowcheck_impl_errReadonly), ("loop.example/borrowcheck/impl.errInvalid", laid_loop_example_borrowcheck_impl_errInvalid)] }
def FnWriteCellSaid : Prop := fnWriteCellRow.holds Tryd.pinned (OpenSpec.ofChange fnWriteCellSpec)

/-- ITS FALSE NEIGHBOUR: 'it returns false'. Refute it at one input. -/
def fnWriteCellWrong : ChangeSpec := { name := "fnWriteCell", vars := ["loop.example/borrowcheck/impl.errInvalid", "loop.example/borrowcheck/impl.errReadonly", "loop.example/borrowcheck/impl.errFreed", "loop.example/borrowcheck/impl.errLost"], fn := fun _ => fun
  | [d, g1, g2, g3, g4] => { results := [.lit (.bool false)], args := [d], vars := [g1, g2, g3, g4] }
  | _ => none }
def FnWriteCellWrongFalsely : Prop := fnWriteCellRow.holds Tryd.pinned (OpenSpec.ofChange fnWriteCellWrong)

/-- 'laws.FnShareCell': WHATEVER THE INPUT: true; the input reads as it did. -/
def fnShareCellSpec : ChangeSpec := { name := "fnShareCell", vars := ["loop.example/borrowcheck/impl.errFreed", "loop.example/borrowcheck/impl.errLost", "loop.example/borrowcheck/impl.errReadonly", "loop.example/borrowcheck/impl.errInvalid"], fn := fun _ => fun
  | [d, g1, g2, g3, g4] => { results := [.lit (.bool true)], args := [d], vars := [g1, g2, g3, g4] }
  | _ => none }
def fnShareCellRow : OpenClaim := { program := "ytfkoobdlhdolbaadoor", sum := "bd6c37409da40bdba0c4ce47ea9dde3feac2ef8c0e0bb6d3e205c6521f032495", func := "loop.example/borrowcheck/laws.FnShareCell", spec := "fnShareCell", inPlace := ["internal/reflectlite.TypeOf"], unfollowed := true, recurses := true, named := ["loop.example/borrowcheck/impl.errFreed", "loop.example/borrowcheck/impl.errLost", "loop.example/borrowcheck/impl.errReadonly", "loop.example/borrowcheck/impl.errInvalid"], ifaces := true, apart := false, laid := [("loop.example/borrowcheck/impl.errFreed", laid_loop_example_borrowcheck_impl_errFreed), ("loop.example/borrowcheck/impl.errLost", laid_loop_example_borrowcheck_impl_errLost), ("loop.example/borrowcheck/impl.errReadonly", laid_loop_example_borrowcheck_impl_errReadonly), ("loop.example/borrowcheck/impl.errInvalid", laid_loop_example_borrowcheck_impl_errInvalid)] }
def FnShareCellSaid : Prop := fnShareCellRow.holds Tryd.pinned (OpenSpec.ofChange fnShareCellSpec)

/-- ITS FALSE NEIGHBOUR: 'it returns false'. Refute it at one input. -/
def fnShareCellWrong : ChangeSpec := { name := "fnShareCell", vars := ["loop.example/borrowcheck/impl.errFreed", "loop.example/borrowcheck/impl.errLost", "loop.example/borrowcheck/impl.errReadonly", "loop.example/borrowcheck/impl.errInvalid"], fn := fun _ => fun
  | [d, g1, g2, g3, g4] => { results := [.lit (.bool false)], args := [d], vars := [g1, g2, g3, g4] }
  | _ => none }
def FnShareCellWrongFalsely : Prop := fnShareCellRow.holds Tryd.pinned (OpenSpec.ofChange fnShareCellWrong)

/-- 'laws.FnBorrowCell': WHATEVER THE INPUT: true; the input reads as it did. -/
def fnBorrowCellSpec : ChangeSpec := { name := "fnBorrowCell", vars := ["loop.example/borrowcheck/impl.errFreed", "loop.example/borrowcheck/impl.errLost", "loop.example/borrowcheck/impl.errReadonly", "loop.example/borrowcheck/impl.errInvalid"], fn := fun _ => fun
  | [d, g1, g2, g3, g4] => { results := [.lit (.bool true)], args := [d], vars := [g1, g2, g3, g4] }
  | _ => none }
def fnBorrowCellRow : OpenClaim := { program := "ytfkoobdlhdolbaadoor", sum := "bd6c37409da40bdba0c4ce47ea9dde3feac2ef8c0e0bb6d3e205c6521f032495", func := "loop.example/borrowcheck/laws.FnBorrowCell", spec := "fnBorrowCell", inPlace := ["internal/reflectlite.TypeOf"], unfollowed := true, recurses := true, named := ["loop.example/borrowcheck/impl.errFreed", "loop.example/borrowcheck/impl.errLost", "loop.example/borrowcheck/impl.errReadonly", "loop.example/borrowcheck/impl.errInvalid"], ifaces := true, apart := false, laid := [("loop.example/borrowcheck/impl.errFreed", laid_loop_example_borrowcheck_impl_errFreed), ("loop.example/borrowcheck/impl.errLost", laid_loop_example_borrowcheck_impl_errLost), ("loop.example/borrowcheck/impl.errReadonly", laid_loop_example_borrowcheck_impl_errReadonly), ("loop.example/borrowcheck/impl.errInvalid", laid_loop_example_borrowcheck_impl_errInvalid)] }
def FnBorrowCellSaid : Prop := fnBorrowCellRow.holds Tryd.pinned (OpenSpec.ofChange fnBorrowCellSpec)

/-- ITS FALSE NEIGHBOUR: 'it returns false'. Refute it at one input. -/
def fnBorrowCellWrong : ChangeSpec := { name := "fnBorrowCell", vars := ["loop.example/borrowcheck/impl.errFreed", "loop.example/borrowcheck/impl.errLost", "loop.example/borrowcheck/impl.errReadonly", "loop.example/borrowcheck/impl.errInvalid"], fn := fun _ => fun
  | [d, g1, g2, g3, g4] => { results := [.lit (.bool false)], args := [d], vars := [g1, g2, g3, g4] }
  | _ => none }
def FnBorrowCellWrongFalsely : Prop := fnBorrowCellRow.holds Tryd.pinned (OpenSpec.ofChange fnBorrowCellWrong)

/-- 'laws.FnFreeCell': WHATEVER THE INPUT: true; the input reads as it did. -/
def fnFreeCellSpec : ChangeSpec := { name := "fnFreeCell", vars := ["loop.example/borrowcheck/impl.errReadonly", "loop.example/borrowcheck/impl.errInvalid", "loop.example/borrowcheck/impl.errFreed", "loop.example/borrowcheck/impl.errLost"], fn := fun _ => fun
  | [d, g1, g2, g3, g4] => { results := [.lit (.bool true)], args := [d], vars := [g1, g2, g3, g4] }
  | _ => none }
def fnFreeCellRow : OpenClaim := { program := "ytfkoobdlhdolbaadoor", sum := "bd6c37409da40bdba0c4ce47ea9dde3feac2ef8c0e0bb6d3e205c6521f032495", func := "loop.example/borrowcheck/laws.FnFreeCell", spec := "fnFreeCell", inPlace := ["internal/reflectlite.TypeOf"], unfollowed := true, recurses := true, named := ["loop.example/borrowcheck/impl.errReadonly", "loop.example/borrowcheck/impl.errInvalid", "loop.example/borrowcheck/impl.errFreed", "loop.example/borrowcheck/impl.errLost"], ifaces := true, apart := false, laid := [("loop.example/borrowcheck/impl.errFreed", laid_loop_example_borrowcheck_impl_errFreed), ("loop.example/borrowcheck/impl.errLost", laid_loop_example_borrowcheck_impl_errLost), ("loop.example/borrowcheck/impl.errReadonly", laid_loop_example_borrowcheck_impl_errReadonly), ("loop.example/borrowcheck/impl.errInvalid", laid_loop_example_borrowcheck_impl_errInvalid)] }
def FnFreeCellSaid : Prop := fnFreeCellRow.holds Tryd.pinned (OpenSpec.ofChange fnFreeCellSpec)

/-- ITS FALSE NEIGHBOUR: 'it returns false'. Refute it at one input. -/
def fnFreeCellWrong : ChangeSpec := { name := "fnFreeCell", vars := ["loop.example/borrowcheck/impl.errReadonly", "loop.example/borrowcheck/impl.errInvalid", "loop.example/borrowcheck/impl.errFreed", "loop.example/borrowcheck/impl.errLost"], fn := fun _ => fun
  | [d, g1, g2, g3, g4] => { results := [.lit (.bool false)], args := [d], vars := [g1, g2, g3, g4] }
  | _ => none }
def FnFreeCellWrongFalsely : Prop := fnFreeCellRow.holds Tryd.pinned (OpenSpec.ofChange fnFreeCellWrong)

/-- 'laws.FnNewCell': WHATEVER THE INPUT: true; the input reads as it did. -/
def fnNewCellSpec : ChangeSpec := { name := "fnNewCell", vars := ["loop.example/borrowcheck/impl.errInvalid", "loop.example/borrowcheck/impl.errFreed", "loop.example/borrowcheck/impl.errLost", "loop.example/borrowcheck/impl.errReadonly"], fn := fun _ => fun
  | [d, g1, g2, g3, g4] => { results := [.lit (.bool true)], args := [d], vars := [g1, g2, g3, g4] }
  | _ => none }
def fnNewCellRow : OpenClaim := { program := "ytfkoobdlhdolbaadoor", sum := "bd6c37409da40bdba0c4ce47ea9dde3feac2ef8c0e0bb6d3e205c6521f032495", func := "loop.example/borrowcheck/laws.FnNewCell", spec := "fnNewCell", inPlace := ["internal/reflectlite.TypeOf"], unfollowed := true, recurses := true, named := ["loop.example/borrowcheck/impl.errInvalid", "loop.example/borrowcheck/impl.errFreed", "loop.example/borrowcheck/impl.errLost", "loop.example/borrowcheck/impl.errReadonly"], ifaces := true, apart := false, laid := [("loop.example/borrowcheck/impl.errFreed", laid_loop_example_borrowcheck_impl_errFreed), ("loop.example/borrowcheck/impl.errLost", laid_loop_example_borrowcheck_impl_errLost), ("loop.example/borrowcheck/impl.errReadonly", laid_loop_example_borrowcheck_impl_errReadonly), ("loop.example/borrowcheck/impl.errInvalid", laid_loop_example_borrowcheck_impl_errInvalid)] }
def FnNewCellSaid : Prop := fnNewCellRow.holds Tryd.pinned (OpenSpec.ofChange fnNewCellSpec)

/-- ITS FALSE NEIGHBOUR: 'it returns false'. Refute it at one input. -/
def fnNewCellWrong : ChangeSpec := { name := "fnNewCell", vars := ["loop.example/borrowcheck/impl.errInvalid", "loop.example/borrowcheck/impl.errFreed", "loop.example/borrowcheck/impl.errLost", "loop.example/borrowcheck/impl.errReadonly"], fn := fun _ => fun
  | [d, g1, g2, g3, g4] => { results := [.lit (.bool false)], args := [d], vars := [g1, g2, g3, g4] }
  | _ => none }
def FnNewCellWrongFalsely : Prop := fnNewCellRow.holds Tryd.pinned (OpenSpec.ofChange fnNewCellWrong)

/-- 'laws.FnFormatCells': WHATEVER THE INPUT: true; the input reads as it did. -/
def fnFormatCellsSpec : ChangeSpec := { name := "fnFormatCells", fn := fun _ => fun
  | [d] => { results := [.lit (.bool true)], args := [d] }
  | _ => none }
def fnFormatCellsRow : OpenClaim := { program := "ytfkoobdlhdolbaadoor", sum := "bd6c37409da40bdba0c4ce47ea9dde3feac2ef8c0e0bb6d3e205c6521f032495", func := "loop.example/borrowcheck/laws.FnFormatCells", spec := "fnFormatCells", inPlace := ["internal/abi.NoEscape"], unfollowed := true, recurses := true, named := ["internal/strconv.uint64pow10", "math/bits.deBruijn32tab", "math/bits.deBruijn64tab"], apart := false, laid := [("math/bits.deBruijn32tab", laid_math_bits_deBruijn32tab), ("math/bits.deBruijn64tab", laid_math_bits_deBruijn64tab), ("internal/strconv.uint64pow10", laid_internal_strconv_uint64pow10)] }
def FnFormatCellsSaid : Prop := fnFormatCellsRow.holds Tryd.pinned (OpenSpec.ofChange fnFormatCellsSpec)

/-- ITS FALSE NEIGHBOUR: 'it returns false'. Refute it at one input. -/
def fnFormatCellsWrong : ChangeSpec := { name := "fnFormatCells", fn := fun _ => fun
  | [d] => { results := [.lit (.bool false)], args := [d] }
  | _ => none }
def FnFormatCellsWrongFalsely : Prop := fnFormatCellsRow.holds Tryd.pinned (OpenSpec.ofChange fnFormatCellsWrong)

/-- 'laws.FnReadTwice': WHATEVER THE INPUT: true; the input reads as it did. -/
def fnReadTwiceSpec : ChangeSpec := { name := "fnReadTwice", vars := ["loop.example/borrowcheck/impl.errFreed", "loop.example/borrowcheck/impl.errLost", "loop.example/borrowcheck/impl.errReadonly", "loop.example/borrowcheck/impl.errInvalid"], fn := fun _ => fun
  | [d, g1, g2, g3, g4] => { results := [.lit (.bool true)], args := [d], vars := [g1, g2, g3, g4] }
  | _ => none }
def fnReadTwiceRow : OpenClaim := { program := "ytfkoobdlhdolbaadoor", sum := "bd6c37409da40bdba0c4ce47ea9dde3feac2ef8c0e0bb6d3e205c6521f032495", func := "loop.example/borrowcheck/laws.FnReadTwice", spec := "fnReadTwice", inPlace := ["internal/reflectlite.TypeOf"], unfollowed := true, recurses := true, named := ["loop.example/borrowcheck/impl.errFreed", "loop.example/borrowcheck/impl.errLost", "loop.example/borrowcheck/impl.errReadonly", "loop.example/borrowcheck/impl.errInvalid"], ifaces := true, apart := false, laid := [("loop.example/borrowcheck/impl.errFreed", laid_loop_example_borrowcheck_impl_errFreed), ("loop.example/borrowcheck/impl.errLost", laid_loop_example_borrowcheck_impl_errLost), ("loop.example/borrowcheck/impl.errReadonly", laid_loop_example_borrowcheck_impl_errReadonly), ("loop.example/borrowcheck/impl.errInvalid", laid_loop_example_borrowcheck_impl_errInvalid)] }
def FnReadTwiceSaid : Prop := fnReadTwiceRow.holds Tryd.pinned (OpenSpec.ofChange fnReadTwiceSpec)

/-- ITS FALSE NEIGHBOUR: 'it returns false'. Refute it at one input. -/
def fnReadTwiceWrong : ChangeSpec := { name := "fnReadTwice", vars := ["loop.example/borrowcheck/impl.errFreed", "loop.example/borrowcheck/impl.errLost", "loop.example/borrowcheck/impl.errReadonly", "loop.example/borrowcheck/impl.errInvalid"], fn := fun _ => fun
  | [d, g1, g2, g3, g4] => { results := [.lit (.bool false)], args := [d], vars := [g1, g2, g3, g4] }
  | _ => none }
def FnReadTwiceWrongFalsely : Prop := fnReadTwiceRow.holds Tryd.pinned (OpenSpec.ofChange fnReadTwiceWrong)

/-- 'laws.FnBorrowTwice': WHATEVER THE INPUT: true; the input reads as it did. -/
def fnBorrowTwiceSpec : ChangeSpec := { name := "fnBorrowTwice", vars := ["loop.example/borrowcheck/impl.errFreed", "loop.example/borrowcheck/impl.errLost", "loop.example/borrowcheck/impl.errReadonly", "loop.example/borrowcheck/impl.errInvalid"], fn := fun _ => fun
  | [d, g1, g2, g3, g4] => { results := [.lit (.bool true)], args := [d], vars := [g1, g2, g3, g4] }
  | _ => none }
def fnBorrowTwiceRow : OpenClaim := { program := "ytfkoobdlhdolbaadoor", sum := "bd6c37409da40bdba0c4ce47ea9dde3feac2ef8c0e0bb6d3e205c6521f032495", func := "loop.example/borrowcheck/laws.FnBorrowTwice", spec := "fnBorrowTwice", inPlace := ["internal/reflectlite.TypeOf"], unfollowed := true, recurses := true, named := ["loop.example/borrowcheck/impl.errFreed", "loop.example/borrowcheck/impl.errLost", "loop.example/borrowcheck/impl.errReadonly", "loop.example/borrowcheck/impl.errInvalid"], ifaces := true, apart := false, laid := [("loop.example/borrowcheck/impl.errFreed", laid_loop_example_borrowcheck_impl_errFreed), ("loop.example/borrowcheck/impl.errLost", laid_loop_example_borrowcheck_impl_errLost), ("loop.example/borrowcheck/impl.errReadonly", laid_loop_example_borrowcheck_impl_errReadonly), ("loop.example/borrowcheck/impl.errInvalid", laid_loop_example_borrowcheck_impl_errInvalid)] }
def FnBorrowTwiceSaid : Prop := fnBorrowTwiceRow.holds Tryd.pinned (OpenSpec.ofChange fnBorrowTwiceSpec)

/-- ITS FALSE NEIGHBOUR: 'it returns false'. Refute it at one input. -/
def fnBorrowTwiceWrong : ChangeSpec := { name := "fnBorrowTwice", vars := ["loop.example/borrowcheck/impl.errFreed", "loop.example/borrowcheck/impl.errLost", "loop.example/borrowcheck/impl.errReadonly", "loop.example/borrowcheck/impl.errInvalid"], fn := fun _ => fun
  | [d, g1, g2, g3, g4] => { results := [.lit (.bool false)], args := [d], vars := [g1, g2, g3, g4] }
  | _ => none }
def FnBorrowTwiceWrongFalsely : Prop := fnBorrowTwiceRow.holds Tryd.pinned (OpenSpec.ofChange fnBorrowTwiceWrong)

/-- 'laws.FnOtherCells': WHATEVER THE INPUT: true; the input reads as it did. -/
def fnOtherCellsSpec : ChangeSpec := { name := "fnOtherCells", vars := ["loop.example/borrowcheck/impl.errInvalid", "loop.example/borrowcheck/impl.errReadonly", "loop.example/borrowcheck/impl.errFreed", "loop.example/borrowcheck/impl.errLost"], fn := fun _ => fun
  | [d, g1, g2, g3, g4] => { results := [.lit (.bool true)], args := [d], vars := [g1, g2, g3, g4] }
  | _ => none }
def fnOtherCellsRow : OpenClaim := { program := "ytfkoobdlhdolbaadoor", sum := "bd6c37409da40bdba0c4ce47ea9dde3feac2ef8c0e0bb6d3e205c6521f032495", func := "loop.example/borrowcheck/laws.FnOtherCells", spec := "fnOtherCells", inPlace := ["internal/reflectlite.TypeOf"], unfollowed := true, recurses := true, named := ["loop.example/borrowcheck/impl.errInvalid", "loop.example/borrowcheck/impl.errReadonly", "loop.example/borrowcheck/impl.errFreed", "loop.example/borrowcheck/impl.errLost"], ifaces := true, apart := false, laid := [("loop.example/borrowcheck/impl.errFreed", laid_loop_example_borrowcheck_impl_errFreed), ("loop.example/borrowcheck/impl.errLost", laid_loop_example_borrowcheck_impl_errLost), ("loop.example/borrowcheck/impl.errReadonly", laid_loop_example_borrowcheck_impl_errReadonly), ("loop.example/borrowcheck/impl.errInvalid", laid_loop_example_borrowcheck_impl_errInvalid)] }
def FnOtherCellsSaid : Prop := fnOtherCellsRow.holds Tryd.pinned (OpenSpec.ofChange fnOtherCellsSpec)

/-- ITS FALSE NEIGHBOUR: 'it returns false'. Refute it at one input. -/
def fnOtherCellsWrong : ChangeSpec := { name := "fnOtherCells", vars := ["loop.example/borrowcheck/impl.errInvalid", "loop.example/borrowcheck/impl.errReadonly", "loop.example/borrowcheck/impl.errFreed", "loop.example/borrowcheck/impl.errLost"], fn := fun _ => fun
  | [d, g1, g2, g3, g4] => { results := [.lit (.bool false)], args := [d], vars := [g1, g2, g3, g4] }
  | _ => none }
def FnOtherCellsWrongFalsely : Prop := fnOtherCellsRow.holds Tryd.pinned (OpenSpec.ofChange fnOtherCellsWrong)

/-- 'laws.FnOwnerStays': WHATEVER THE INPUT: true; the input reads as it did. -/
def fnOwnerStaysSpec : ChangeSpec := { name := "fnOwnerStays", vars := ["loop.example/borrowcheck/impl.errFreed", "loop.example/borrowcheck/impl.errLost", "loop.example/borrowcheck/impl.errReadonly", "loop.example/borrowcheck/impl.errInvalid"], fn := fun _ => fun
  | [d, g1, g2, g3, g4] => { results := [.lit (.bool true)], args := [d], vars := [g1, g2, g3, g4] }
  | _ => none }
def fnOwnerStaysRow : OpenClaim := { program := "ytfkoobdlhdolbaadoor", sum := "bd6c37409da40bdba0c4ce47ea9dde3feac2ef8c0e0bb6d3e205c6521f032495", func := "loop.example/borrowcheck/laws.FnOwnerStays", spec := "fnOwnerStays", inPlace := ["internal/reflectlite.TypeOf"], unfollowed := true, recurses := true, named := ["loop.example/borrowcheck/impl.errFreed", "loop.example/borrowcheck/impl.errLost", "loop.example/borrowcheck/impl.errReadonly", "loop.example/borrowcheck/impl.errInvalid"], ifaces := true, apart := false, laid := [("loop.example/borrowcheck/impl.errFreed", laid_loop_example_borrowcheck_impl_errFreed), ("loop.example/borrowcheck/impl.errLost", laid_loop_example_borrowcheck_impl_errLost), ("loop.example/borrowcheck/impl.errReadonly", laid_loop_example_borrowcheck_impl_errReadonly), ("loop.example/borrowcheck/impl.errInvalid", laid_loop_example_borrowcheck_impl_errInvalid)] }
def FnOwnerStaysSaid : Prop := fnOwnerStaysRow.holds Tryd.pinned (OpenSpec.ofChange fnOwnerStaysSpec)

/-- ITS FALSE NEIGHBOUR: 'it returns false'. Refute it at one input. -/
def fnOwnerStaysWrong : ChangeSpec := { name := "fnOwnerStays", vars := ["loop.example/borrowcheck/impl.errFreed", "loop.example/borrowcheck/impl.errLost", "loop.example/borrowcheck/impl.errReadonly", "loop.example/borrowcheck/impl.errInvalid"], fn := fun _ => fun
  | [d, g1, g2, g3, g4] => { results := [.lit (.bool false)], args := [d], vars := [g1, g2, g3, g4] }
  | _ => none }
def FnOwnerStaysWrongFalsely : Prop := fnOwnerStaysRow.holds Tryd.pinned (OpenSpec.ofChange fnOwnerStaysWrong)

/-- 'laws.FnTagsGrow': WHATEVER THE INPUT: true; the input reads as it did. -/
def fnTagsGrowSpec : ChangeSpec := { name := "fnTagsGrow", vars := ["loop.example/borrowcheck/impl.errFreed", "loop.example/borrowcheck/impl.errLost", "loop.example/borrowcheck/impl.errReadonly", "loop.example/borrowcheck/impl.errInvalid"], fn := fun _ => fun
  | [d, g1, g2, g3, g4] => { results := [.lit (.bool true)], args := [d], vars := [g1, g2, g3, g4] }
  | _ => none }
def fnTagsGrowRow : OpenClaim := { program := "ytfkoobdlhdolbaadoor", sum := "bd6c37409da40bdba0c4ce47ea9dde3feac2ef8c0e0bb6d3e205c6521f032495", func := "loop.example/borrowcheck/laws.FnTagsGrow", spec := "fnTagsGrow", inPlace := ["internal/reflectlite.TypeOf"], unfollowed := true, recurses := true, named := ["loop.example/borrowcheck/impl.errFreed", "loop.example/borrowcheck/impl.errLost", "loop.example/borrowcheck/impl.errReadonly", "loop.example/borrowcheck/impl.errInvalid"], ifaces := true, apart := false, laid := [("loop.example/borrowcheck/impl.errFreed", laid_loop_example_borrowcheck_impl_errFreed), ("loop.example/borrowcheck/impl.errLost", laid_loop_example_borrowcheck_impl_errLost), ("loop.example/borrowcheck/impl.errReadonly", laid_loop_example_borrowcheck_impl_errReadonly), ("loop.example/borrowcheck/impl.errInvalid", laid_loop_example_borrowcheck_impl_errInvalid)] }
def FnTagsGrowSaid : Prop := fnTagsGrowRow.holds Tryd.pinned (OpenSpec.ofChange fnTagsGrowSpec)

/-- ITS FALSE NEIGHBOUR: 'it returns false'. Refute it at one input. -/
def fnTagsGrowWrong : ChangeSpec := { name := "fnTagsGrow", vars := ["loop.example/borrowcheck/impl.errFreed", "loop.example/borrowcheck/impl.errLost", "loop.example/borrowcheck/impl.errReadonly", "loop.example/borrowcheck/impl.errInvalid"], fn := fun _ => fun
  | [d, g1, g2, g3, g4] => { results := [.lit (.bool false)], args := [d], vars := [g1, g2, g3, g4] }
  | _ => none }
def FnTagsGrowWrongFalsely : Prop := fnTagsGrowRow.holds Tryd.pinned (OpenSpec.ofChange fnTagsGrowWrong)

/- THE SECOND FORM. 'bulk': how many values and letters a reading holds, each counted each time it is reached (what is shared counts as often as it is met; a slice's spare places count too). A statement '..UptoSaid' is the law's where the arguments, and the package variables that the reading takes, are together of bulk at most 1048576: NARROWER than '..Said'. Prove '..Said' where nothing that the law and all that it calls make is longer than what came in: it says more and counts as full. Else prove '..UptoSaid'. A law counts once. -/
mutual
def uptoBulk {H : Type} : DataW H → Nat
  | .lit (.string bytes) => bytes.length + 1
  | .lit _ => 1
  | .nil => 1
  | .ptr d => uptoBulk d + 1
  | .slice elems spare => uptoBulkAll elems + uptoBulkAll spare + 1
  | .agg parts => uptoBulkAll parts + 1
  | .iface _ d => uptoBulk d + 1
  | .map entries => uptoBulkEntries entries + 1
  | .held _ => 1
def uptoBulkAll {H : Type} : List (DataW H) → Nat
  | [] => 0
  | d :: r => uptoBulk d + uptoBulkAll r
def uptoBulkEntries {H : Type} : List (Lit × DataW H) → Nat
  | [] => 0
  | x :: r => uptoBulkEntry x + uptoBulkEntries r
def uptoBulkEntry {H : Type} : Lit × DataW H → Nat
  | (.string bytes, d) => bytes.length + uptoBulk d + 1
  | (_, d) => uptoBulk d + 1
 end
def uptoSmall : (H : Type) → List (DataW H) → Bool := fun _ ds => decide (uptoBulkAll ds ≤ 1048576)
def OpenSpec.upto (s : _root_.Go.ChangeSpec) : _root_.Go.OpenSpec := { _root_.Go.OpenSpec.ofChange s with cond := some uptoSmall }

/-- 'laws.FnReadCell', WHERE WHAT IT READS IS OF BULK AT MOST 1048576: true; the input reads as it did. -/
def fnReadCellUptoRow : OpenClaim := { program := "ytfkoobdlhdolbaadoor", sum := "bd6c37409da40bdba0c4ce47ea9dde3feac2ef8c0e0bb6d3e205c6521f032495", func := "loop.example/borrowcheck/laws.FnReadCell", spec := "fnReadCell", inPlace := ["internal/reflectlite.TypeOf"], unfollowed := true, recurses := true, named := ["loop.example/borrowcheck/impl.errFreed", "loop.example/borrowcheck/impl.errLost", "loop.example/borrowcheck/impl.errReadonly", "loop.example/borrowcheck/impl.errInvalid"], ifaces := true, apart := false, laid := [("loop.example/borrowcheck/impl.errFreed", laid_loop_example_borrowcheck_impl_errFreed), ("loop.example/borrowcheck/impl.errLost", laid_loop_example_borrowcheck_impl_errLost), ("loop.example/borrowcheck/impl.errReadonly", laid_loop_example_borrowcheck_impl_errReadonly), ("loop.example/borrowcheck/impl.errInvalid", laid_loop_example_borrowcheck_impl_errInvalid)], narrowed := true }
def FnReadCellUptoSaid : Prop := fnReadCellUptoRow.holds Tryd.pinned (OpenSpec.upto fnReadCellSpec)

/-- 'laws.FnWriteCell', WHERE WHAT IT READS IS OF BULK AT MOST 1048576: true; the input reads as it did. -/
def fnWriteCellUptoRow : OpenClaim := { program := "ytfkoobdlhdolbaadoor", sum := "bd6c37409da40bdba0c4ce47ea9dde3feac2ef8c0e0bb6d3e205c6521f032495", func := "loop.example/borrowcheck/laws.FnWriteCell", spec := "fnWriteCell", inPlace := ["internal/reflectlite.TypeOf"], unfollowed := true, recurses := true, named := ["loop.example/borrowcheck/impl.errInvalid", "loop.example/borrowcheck/impl.errReadonly", "loop.example/borrowcheck/impl.errFreed", "loop.example/borrowcheck/impl.errLost"], ifaces := true, apart := false, laid := [("loop.example/borrowcheck/impl.errFreed", laid_loop_example_borrowcheck_impl_errFreed), ("loop.example/borrowcheck/impl.errLost", laid_loop_example_borrowcheck_impl_errLost), ("loop.example/borrowcheck/impl.errReadonly", laid_loop_example_borrowcheck_impl_errReadonly), ("loop.example/borrowcheck/impl.errInvalid", laid_loop_example_borrowcheck_impl_errInvalid)], narrowed := true }
def FnWriteCellUptoSaid : Prop := fnWriteCellUptoRow.holds Tryd.pinned (OpenSpec.upto fnWriteCellSpec)

/-- 'laws.FnShareCell', WHERE WHAT IT READS IS OF BULK AT MOST 1048576: true; the input reads as it did. -/
def fnShareCellUptoRow : OpenClaim := { program := "ytfkoobdlhdolbaadoor", sum := "bd6c37409da40bdba0c4ce47ea9dde3feac2ef8c0e0bb6d3e205c6521f032495", func := "loop.example/borrowcheck/laws.FnShareCell", spec := "fnShareCell", inPlace := ["internal/reflectlite.TypeOf"], unfollowed := true, recurses := true, named := ["loop.example/borrowcheck/impl.errFreed", "loop.example/borrowcheck/impl.errLost", "loop.example/borrowcheck/impl.errReadonly", "loop.example/borrowcheck/impl.errInvalid"], ifaces := true, apart := false, laid := [("loop.example/borrowcheck/impl.errFreed", laid_loop_example_borrowcheck_impl_errFreed), ("loop.example/borrowcheck/impl.errLost", laid_loop_example_borrowcheck_impl_errLost), ("loop.example/borrowcheck/impl.errReadonly", laid_loop_example_borrowcheck_impl_errReadonly), ("loop.example/borrowcheck/impl.errInvalid", laid_loop_example_borrowcheck_impl_errInvalid)], narrowed := true }
def FnShareCellUptoSaid : Prop := fnShareCellUptoRow.holds Tryd.pinned (OpenSpec.upto fnShareCellSpec)

/-- 'laws.FnBorrowCell', WHERE WHAT IT READS IS OF BULK AT MOST 1048576: true; the input reads as it did. -/
def fnBorrowCellUptoRow : OpenClaim := { program := "ytfkoobdlhdolbaadoor", sum := "bd6c37409da40bdba0c4ce47ea9dde3feac2ef8c0e0bb6d3e205c6521f032495", func := "loop.example/borrowcheck/laws.FnBorrowCell", spec := "fnBorrowCell", inPlace := ["internal/reflectlite.TypeOf"], unfollowed := true, recurses := true, named := ["loop.example/borrowcheck/impl.errFreed", "loop.example/borrowcheck/impl.errLost", "loop.example/borrowcheck/impl.errReadonly", "loop.example/borrowcheck/impl.errInvalid"], ifaces := true, apart := false, laid := [("loop.example/borrowcheck/impl.errFreed", laid_loop_example_borrowcheck_impl_errFreed), ("loop.example/borrowcheck/impl.errLost", laid_loop_example_borrowcheck_impl_errLost), ("loop.example/borrowcheck/impl.errReadonly", laid_loop_example_borrowcheck_impl_errReadonly), ("loop.example/borrowcheck/impl.errInvalid", laid_loop_example_borrowcheck_impl_errInvalid)], narrowed := true }
def FnBorrowCellUptoSaid : Prop := fnBorrowCellUptoRow.holds Tryd.pinned (OpenSpec.upto fnBorrowCellSpec)

/-- 'laws.FnFreeCell', WHERE WHAT IT READS IS OF BULK AT MOST 1048576: true; the input reads as it did. -/
def fnFreeCellUptoRow : OpenClaim := { program := "ytfkoobdlhdolbaadoor", sum := "bd6c37409da40bdba0c4ce47ea9dde3feac2ef8c0e0bb6d3e205c6521f032495", func := "loop.example/borrowcheck/laws.FnFreeCell", spec := "fnFreeCell", inPlace := ["internal/reflectlite.TypeOf"], unfollowed := true, recurses := true, named := ["loop.example/borrowcheck/impl.errReadonly", "loop.example/borrowcheck/impl.errInvalid", "loop.example/borrowcheck/impl.errFreed", "loop.example/borrowcheck/impl.errLost"], ifaces := true, apart := false, laid := [("loop.example/borrowcheck/impl.errFreed", laid_loop_example_borrowcheck_impl_errFreed), ("loop.example/borrowcheck/impl.errLost", laid_loop_example_borrowcheck_impl_errLost), ("loop.example/borrowcheck/impl.errReadonly", laid_loop_example_borrowcheck_impl_errReadonly), ("loop.example/borrowcheck/impl.errInvalid", laid_loop_example_borrowcheck_impl_errInvalid)], narrowed := true }
def FnFreeCellUptoSaid : Prop := fnFreeCellUptoRow.holds Tryd.pinned (OpenSpec.upto fnFreeCellSpec)

/-- 'laws.FnNewCell', WHERE WHAT IT READS IS OF BULK AT MOST 1048576: true; the input reads as it did. -/
def fnNewCellUptoRow : OpenClaim := { program := "ytfkoobdlhdolbaadoor", sum := "bd6c37409da40bdba0c4ce47ea9dde3feac2ef8c0e0bb6d3e205c6521f032495", func := "loop.example/borrowcheck/laws.FnNewCell", spec := "fnNewCell", inPlace := ["internal/reflectlite.TypeOf"], unfollowed := true, recurses := true, named := ["loop.example/borrowcheck/impl.errInvalid", "loop.example/borrowcheck/impl.errFreed", "loop.example/borrowcheck/impl.errLost", "loop.example/borrowcheck/impl.errReadonly"], ifaces := true, apart := false, laid := [("loop.example/borrowcheck/impl.errFreed", laid_loop_example_borrowcheck_impl_errFreed), ("loop.example/borrowcheck/impl.errLost", laid_loop_example_borrowcheck_impl_errLost), ("loop.example/borrowcheck/impl.errReadonly", laid_loop_example_borrowcheck_impl_errReadonly), ("loop.example/borrowcheck/impl.errInvalid", laid_loop_example_borrowcheck_impl_errInvalid)], narrowed := true }
def FnNewCellUptoSaid : Prop := fnNewCellUptoRow.holds Tryd.pinned (OpenSpec.upto fnNewCellSpec)

/-- 'laws.FnFormatCells', WHERE WHAT IT READS IS OF BULK AT MOST 1048576: true; the input reads as it did. -/
def fnFormatCellsUptoRow : OpenClaim := { program := "ytfkoobdlhdolbaadoor", sum := "bd6c37409da40bdba0c4ce47ea9dde3feac2ef8c0e0bb6d3e205c6521f032495", func := "loop.example/borrowcheck/laws.FnFormatCells", spec := "fnFormatCells", inPlace := ["internal/abi.NoEscape"], unfollowed := true, recurses := true, named := ["internal/strconv.uint64pow10", "math/bits.deBruijn32tab", "math/bits.deBruijn64tab"], apart := false, laid := [("math/bits.deBruijn32tab", laid_math_bits_deBruijn32tab), ("math/bits.deBruijn64tab", laid_math_bits_deBruijn64tab), ("internal/strconv.uint64pow10", laid_internal_strconv_uint64pow10)], narrowed := true }
def FnFormatCellsUptoSaid : Prop := fnFormatCellsUptoRow.holds Tryd.pinned (OpenSpec.upto fnFormatCellsSpec)

/-- 'laws.FnReadTwice', WHERE WHAT IT READS IS OF BULK AT MOST 1048576: true; the input reads as it did. -/
def fnReadTwiceUptoRow : OpenClaim := { program := "ytfkoobdlhdolbaadoor", sum := "bd6c37409da40bdba0c4ce47ea9dde3feac2ef8c0e0bb6d3e205c6521f032495", func := "loop.example/borrowcheck/laws.FnReadTwice", spec := "fnReadTwice", inPlace := ["internal/reflectlite.TypeOf"], unfollowed := true, recurses := true, named := ["loop.example/borrowcheck/impl.errFreed", "loop.example/borrowcheck/impl.errLost", "loop.example/borrowcheck/impl.errReadonly", "loop.example/borrowcheck/impl.errInvalid"], ifaces := true, apart := false, laid := [("loop.example/borrowcheck/impl.errFreed", laid_loop_example_borrowcheck_impl_errFreed), ("loop.example/borrowcheck/impl.errLost", laid_loop_example_borrowcheck_impl_errLost), ("loop.example/borrowcheck/impl.errReadonly", laid_loop_example_borrowcheck_impl_errReadonly), ("loop.example/borrowcheck/impl.errInvalid", laid_loop_example_borrowcheck_impl_errInvalid)], narrowed := true }
def FnReadTwiceUptoSaid : Prop := fnReadTwiceUptoRow.holds Tryd.pinned (OpenSpec.upto fnReadTwiceSpec)

/-- 'laws.FnBorrowTwice', WHERE WHAT IT READS IS OF BULK AT MOST 1048576: true; the input reads as it did. -/
def fnBorrowTwiceUptoRow : OpenClaim := { program := "ytfkoobdlhdolbaadoor", sum := "bd6c37409da40bdba0c4ce47ea9dde3feac2ef8c0e0bb6d3e205c6521f032495", func := "loop.example/borrowcheck/laws.FnBorrowTwice", spec := "fnBorrowTwice", inPlace := ["internal/reflectlite.TypeOf"], unfollowed := true, recurses := true, named := ["loop.example/borrowcheck/impl.errFreed", "loop.example/borrowcheck/impl.errLost", "loop.example/borrowcheck/impl.errReadonly", "loop.example/borrowcheck/impl.errInvalid"], ifaces := true, apart := false, laid := [("loop.example/borrowcheck/impl.errFreed", laid_loop_example_borrowcheck_impl_errFreed), ("loop.example/borrowcheck/impl.errLost", laid_loop_example_borrowcheck_impl_errLost), ("loop.example/borrowcheck/impl.errReadonly", laid_loop_example_borrowcheck_impl_errReadonly), ("loop.example/borrowcheck/impl.errInvalid", laid_loop_example_borrowcheck_impl_errInvalid)], narrowed := true }
def FnBorrowTwiceUptoSaid : Prop := fnBorrowTwiceUptoRow.holds Tryd.pinned (OpenSpec.upto fnBorrowTwiceSpec)

/-- 'laws.FnOtherCells', WHERE WHAT IT READS IS OF BULK AT MOST 1048576: true; the input reads as it did. -/
def fnOtherCellsUptoRow : OpenClaim := { program := "ytfkoobdlhdolbaadoor", sum := "bd6c37409da40bdba0c4ce47ea9dde3feac2ef8c0e0bb6d3e205c6521f032495", func := "loop.example/borrowcheck/laws.FnOtherCells", spec := "fnOtherCells", inPlace := ["internal/reflectlite.TypeOf"], unfollowed := true, recurses := true, named := ["loop.example/borrowcheck/impl.errInvalid", "loop.example/borrowcheck/impl.errReadonly", "loop.example/borrowcheck/impl.errFreed", "loop.example/borrowcheck/impl.errLost"], ifaces := true, apart := false, laid := [("loop.example/borrowcheck/impl.errFreed", laid_loop_example_borrowcheck_impl_errFreed), ("loop.example/borrowcheck/impl.errLost", laid_loop_example_borrowcheck_impl_errLost), ("loop.example/borrowcheck/impl.errReadonly", laid_loop_example_borrowcheck_impl_errReadonly), ("loop.example/borrowcheck/impl.errInvalid", laid_loop_example_borrowcheck_impl_errInvalid)], narrowed := true }
def FnOtherCellsUptoSaid : Prop := fnOtherCellsUptoRow.holds Tryd.pinned (OpenSpec.upto fnOtherCellsSpec)

/-- 'laws.FnOwnerStays', WHERE WHAT IT READS IS OF BULK AT MOST 1048576: true; the input reads as it did. -/
def fnOwnerStaysUptoRow : OpenClaim := { program := "ytfkoobdlhdolbaadoor", sum := "bd6c37409da40bdba0c4ce47ea9dde3feac2ef8c0e0bb6d3e205c6521f032495", func := "loop.example/borrowcheck/laws.FnOwnerStays", spec := "fnOwnerStays", inPlace := ["internal/reflectlite.TypeOf"], unfollowed := true, recurses := true, named := ["loop.example/borrowcheck/impl.errFreed", "loop.example/borrowcheck/impl.errLost", "loop.example/borrowcheck/impl.errReadonly", "loop.example/borrowcheck/impl.errInvalid"], ifaces := true, apart := false, laid := [("loop.example/borrowcheck/impl.errFreed", laid_loop_example_borrowcheck_impl_errFreed), ("loop.example/borrowcheck/impl.errLost", laid_loop_example_borrowcheck_impl_errLost), ("loop.example/borrowcheck/impl.errReadonly", laid_loop_example_borrowcheck_impl_errReadonly), ("loop.example/borrowcheck/impl.errInvalid", laid_loop_example_borrowcheck_impl_errInvalid)], narrowed := true }
def FnOwnerStaysUptoSaid : Prop := fnOwnerStaysUptoRow.holds Tryd.pinned (OpenSpec.upto fnOwnerStaysSpec)

/-- 'laws.FnTagsGrow', WHERE WHAT IT READS IS OF BULK AT MOST 1048576: true; the input reads as it did. -/
def fnTagsGrowUptoRow : OpenClaim := { program := "ytfkoobdlhdolbaadoor", sum := "bd6c37409da40bdba0c4ce47ea9dde3feac2ef8c0e0bb6d3e205c6521f032495", func := "loop.example/borrowcheck/laws.FnTagsGrow", spec := "fnTagsGrow", inPlace := ["internal/reflectlite.TypeOf"], unfollowed := true, recurses := true, named := ["loop.example/borrowcheck/impl.errFreed", "loop.example/borrowcheck/impl.errLost", "loop.example/borrowcheck/impl.errReadonly", "loop.example/borrowcheck/impl.errInvalid"], ifaces := true, apart := false, laid := [("loop.example/borrowcheck/impl.errFreed", laid_loop_example_borrowcheck_impl_errFreed), ("loop.example/borrowcheck/impl.errLost", laid_loop_example_borrowcheck_impl_errLost), ("loop.example/borrowcheck/impl.errReadonly", laid_loop_example_borrowcheck_impl_errReadonly), ("loop.example/borrowcheck/impl.errInvalid", laid_loop_example_borrowcheck_impl_errInvalid)], narrowed := true }
def FnTagsGrowUptoSaid : Prop := fnTagsGrowUptoRow.holds Tryd.pinned (OpenSpec.upto fnTagsGrowSpec)

end Rows
end Go.Proofs.YtfkoobdlhdolbaaDoor
