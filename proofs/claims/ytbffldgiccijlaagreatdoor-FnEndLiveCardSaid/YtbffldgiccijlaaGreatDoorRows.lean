/-
  NARROWER THAN 'FOR EVERY INPUT', by the rows' own cells (each row's printed sentence says how): FnPathsFrom: laid · FnPathsTo: laid · FnUseOf: laid · FnSetAfter: laid · FnFirstSet: laid · FnEndLive: laid · FnUnsetFirst: laid · FnUnsetUses: laid · FnLiveStep: laid.
  DERIVED. THE GIVEN ROWS OF THIS SEAT. 9 by the template 'for every input the law returns true; each argument reads behind the call as it read before'; 0 by the template 'total and deterministic' (their statements: YtbffldgiccijlaaGreatDoorTotals.lean).
  GIVEN WITH THE SEED: the statements are not yours to turn. If you find one false, say at which input.
  Laid BY PROGRAM, IN A SANDBOX (cutbox-rows.mjs): the forced cells as the released guide's own fill.sh prints them over the translation 2a8c20fcb9e59d90… (all of the seat's roots in one cut). By AI agents, Wed Nov 11 2026. No macro, syntax, notation, axiom, sorry.
-/
import Derived.Test.YtbffldgiccijlaaGreatDoorChecked
import GoSem.Claim
import GoSem.ClaimJoined
import GoSem.ClaimMapViews
import Derived.JoinedTies
import Derived.KernelRfl
namespace Go.Proofs.YtbffldgiccijlaaGreatDoor
/- THE CELL 'sum', in the pinned program and in every row, IS THE sha256 OF THE DUMP (.gsa) THAT YtbffldgiccijlaaGreatDoorProg.lean LOADS. Nothing in Lean hashes anything: it is a label: what it is worth is what the hold of that sum in a sandbox is worth. -/
noncomputable def Tryz.pinned : Pinned := { name := "ytbffldgiccijlaagreatdoor", sum := "2a8c20fcb9e59d90c7c72c2614bcab086861b833e05236f0b8d778c55659db60", checked := Tryz.checked }
namespace Rows
def none {H : Type} : Left H := { results := [], args := [] }

/- WHAT THE LISTED PACKAGE-LEVEL VARIABLES READ AS WHEN THE CALL BEGINS. Each datum BY PROGRAM (the guide's laid-datum.mjs) off the statement by which the dump's own 'gosem.cut.vars' lays the variable. In a bare row this is a premise. The card (YtbffldgiccijlaaGreatDoorCards.lean) ties it to the program's text. -/
def laid_math_bits_deBruijn64tab {H : Type} : DataW H := .agg [.lit (.int .u8 0), .lit (.int .u8 1), .lit (.int .u8 56), .lit (.int .u8 2), .lit (.int .u8 57), .lit (.int .u8 49), .lit (.int .u8 28), .lit (.int .u8 3), .lit (.int .u8 61), .lit (.int .u8 58), .lit (.int .u8 42), .lit (.int .u8 50), .lit (.int .u8 38), .lit (.int .u8 29), .lit (.int .u8 17), .lit (.int .u8 4), .lit (.int .u8 62), .lit (.int .u8 47), .lit (.int .u8 59), .lit (.int .u8 36), .lit (.int .u8 45), .lit (.int .u8 43), .lit (.int .u8 51), .lit (.int .u8 22), .lit (.int .u8 53), .lit (.int .u8 39), .lit (.int .u8 33), .lit (.int .u8 30), .lit (.int .u8 24), .lit (.int .u8 18), .lit (.int .u8 12), .lit (.int .u8 5), .lit (.int .u8 63), .lit (.int .u8 55), .lit (.int .u8 48), .lit (.int .u8 27), .lit (.int .u8 60), .lit (.int .u8 41), .lit (.int .u8 37), .lit (.int .u8 16), .lit (.int .u8 46), .lit (.int .u8 35), .lit (.int .u8 44), .lit (.int .u8 21), .lit (.int .u8 52), .lit (.int .u8 32), .lit (.int .u8 23), .lit (.int .u8 11), .lit (.int .u8 54), .lit (.int .u8 26), .lit (.int .u8 40), .lit (.int .u8 15), .lit (.int .u8 34), .lit (.int .u8 20), .lit (.int .u8 31), .lit (.int .u8 10), .lit (.int .u8 25), .lit (.int .u8 14), .lit (.int .u8 19), .lit (.int .u8 9), .lit (.int .u8 13), .lit (.int .u8 8), .lit (.int .u8 7), .lit (.int .u8 6)]

/-- 'laws.FnPathsFrom': WHATEVER THE INPUT: true; the input reads as it did. -/
def fnPathsFromSpec : ChangeSpec := { name := "fnPathsFrom", fn := fun _ => fun
  | [d] => { results := [.lit (.bool true)], args := [d] }
  | _ => none }
def fnPathsFromRow : OpenClaim := { program := "ytbffldgiccijlaagreatdoor", sum := "2a8c20fcb9e59d90c7c72c2614bcab086861b833e05236f0b8d778c55659db60", func := "loop.example/borrowcheck/laws.FnPathsFrom", spec := "fnPathsFrom", unfollowed := true, recurses := true, named := ["math/bits.deBruijn64tab"], apart := false, laid := [("math/bits.deBruijn64tab", laid_math_bits_deBruijn64tab)] }
def FnPathsFromSaid : Prop := fnPathsFromRow.holds Tryz.pinned (OpenSpec.ofChange fnPathsFromSpec)

/-- ITS FALSE NEIGHBOUR: 'it returns false'. Refute it at one input. -/
def fnPathsFromWrong : ChangeSpec := { name := "fnPathsFrom", fn := fun _ => fun
  | [d] => { results := [.lit (.bool false)], args := [d] }
  | _ => none }
def FnPathsFromWrongFalsely : Prop := fnPathsFromRow.holds Tryz.pinned (OpenSpec.ofChange fnPathsFromWrong)

/-- 'laws.FnPathsTo': WHATEVER THE INPUT: true; the input reads as it did. -/
def fnPathsToSpec : ChangeSpec := { name := "fnPathsTo", fn := fun _ => fun
  | [d] => { results := [.lit (.bool true)], args := [d] }
  | _ => none }
def fnPathsToRow : OpenClaim := { program := "ytbffldgiccijlaagreatdoor", sum := "2a8c20fcb9e59d90c7c72c2614bcab086861b833e05236f0b8d778c55659db60", func := "loop.example/borrowcheck/laws.FnPathsTo", spec := "fnPathsTo", unfollowed := true, recurses := true, named := ["math/bits.deBruijn64tab"], apart := false, laid := [("math/bits.deBruijn64tab", laid_math_bits_deBruijn64tab)] }
def FnPathsToSaid : Prop := fnPathsToRow.holds Tryz.pinned (OpenSpec.ofChange fnPathsToSpec)

/-- ITS FALSE NEIGHBOUR: 'it returns false'. Refute it at one input. -/
def fnPathsToWrong : ChangeSpec := { name := "fnPathsTo", fn := fun _ => fun
  | [d] => { results := [.lit (.bool false)], args := [d] }
  | _ => none }
def FnPathsToWrongFalsely : Prop := fnPathsToRow.holds Tryz.pinned (OpenSpec.ofChange fnPathsToWrong)

/-- 'laws.FnUseOf': WHATEVER THE INPUT: true; the input reads as it did. -/
def fnUseOfSpec : ChangeSpec := { name := "fnUseOf", fn := fun _ => fun
  | [d] => { results := [.lit (.bool true)], args := [d] }
  | _ => none }
def fnUseOfRow : OpenClaim := { program := "ytbffldgiccijlaagreatdoor", sum := "2a8c20fcb9e59d90c7c72c2614bcab086861b833e05236f0b8d778c55659db60", func := "loop.example/borrowcheck/laws.FnUseOf", spec := "fnUseOf", unfollowed := true, recurses := true, named := ["math/bits.deBruijn64tab"], apart := false, laid := [("math/bits.deBruijn64tab", laid_math_bits_deBruijn64tab)] }
def FnUseOfSaid : Prop := fnUseOfRow.holds Tryz.pinned (OpenSpec.ofChange fnUseOfSpec)

/-- ITS FALSE NEIGHBOUR: 'it returns false'. Refute it at one input. -/
def fnUseOfWrong : ChangeSpec := { name := "fnUseOf", fn := fun _ => fun
  | [d] => { results := [.lit (.bool false)], args := [d] }
  | _ => none }
def FnUseOfWrongFalsely : Prop := fnUseOfRow.holds Tryz.pinned (OpenSpec.ofChange fnUseOfWrong)

/-- 'laws.FnSetAfter': WHATEVER THE INPUT: true; the input reads as it did. -/
def fnSetAfterSpec : ChangeSpec := { name := "fnSetAfter", fn := fun _ => fun
  | [d] => { results := [.lit (.bool true)], args := [d] }
  | _ => none }
def fnSetAfterRow : OpenClaim := { program := "ytbffldgiccijlaagreatdoor", sum := "2a8c20fcb9e59d90c7c72c2614bcab086861b833e05236f0b8d778c55659db60", func := "loop.example/borrowcheck/laws.FnSetAfter", spec := "fnSetAfter", unfollowed := true, recurses := true, named := ["math/bits.deBruijn64tab"], apart := false, laid := [("math/bits.deBruijn64tab", laid_math_bits_deBruijn64tab)] }
def FnSetAfterSaid : Prop := fnSetAfterRow.holds Tryz.pinned (OpenSpec.ofChange fnSetAfterSpec)

/-- ITS FALSE NEIGHBOUR: 'it returns false'. Refute it at one input. -/
def fnSetAfterWrong : ChangeSpec := { name := "fnSetAfter", fn := fun _ => fun
  | [d] => { results := [.lit (.bool false)], args := [d] }
  | _ => none }
def FnSetAfterWrongFalsely : Prop := fnSetAfterRow.holds Tryz.pinned (OpenSpec.ofChange fnSetAfterWrong)

/-- 'laws.FnFirstSet': WHATEVER THE INPUT: true; the input reads as it did. -/
def fnFirstSetSpec : ChangeSpec := { name := "fnFirstSet", fn := fun _ => fun
  | [d] => { results := [.lit (.bool true)], args := [d] }
  | _ => none }
def fnFirstSetRow : OpenClaim := { program := "ytbffldgiccijlaagreatdoor", sum := "2a8c20fcb9e59d90c7c72c2614bcab086861b833e05236f0b8d778c55659db60", func := "loop.example/borrowcheck/laws.FnFirstSet", spec := "fnFirstSet", unfollowed := true, recurses := true, named := ["math/bits.deBruijn64tab"], apart := false, laid := [("math/bits.deBruijn64tab", laid_math_bits_deBruijn64tab)] }
def FnFirstSetSaid : Prop := fnFirstSetRow.holds Tryz.pinned (OpenSpec.ofChange fnFirstSetSpec)

/-- ITS FALSE NEIGHBOUR: 'it returns false'. Refute it at one input. -/
def fnFirstSetWrong : ChangeSpec := { name := "fnFirstSet", fn := fun _ => fun
  | [d] => { results := [.lit (.bool false)], args := [d] }
  | _ => none }
def FnFirstSetWrongFalsely : Prop := fnFirstSetRow.holds Tryz.pinned (OpenSpec.ofChange fnFirstSetWrong)

/-- 'laws.FnEndLive': WHATEVER THE INPUT: true; the input reads as it did. -/
def fnEndLiveSpec : ChangeSpec := { name := "fnEndLive", fn := fun _ => fun
  | [d] => { results := [.lit (.bool true)], args := [d] }
  | _ => none }
def fnEndLiveRow : OpenClaim := { program := "ytbffldgiccijlaagreatdoor", sum := "2a8c20fcb9e59d90c7c72c2614bcab086861b833e05236f0b8d778c55659db60", func := "loop.example/borrowcheck/laws.FnEndLive", spec := "fnEndLive", unfollowed := true, recurses := true, named := ["math/bits.deBruijn64tab"], apart := false, laid := [("math/bits.deBruijn64tab", laid_math_bits_deBruijn64tab)] }
def FnEndLiveSaid : Prop := fnEndLiveRow.holds Tryz.pinned (OpenSpec.ofChange fnEndLiveSpec)

/-- ITS FALSE NEIGHBOUR: 'it returns false'. Refute it at one input. -/
def fnEndLiveWrong : ChangeSpec := { name := "fnEndLive", fn := fun _ => fun
  | [d] => { results := [.lit (.bool false)], args := [d] }
  | _ => none }
def FnEndLiveWrongFalsely : Prop := fnEndLiveRow.holds Tryz.pinned (OpenSpec.ofChange fnEndLiveWrong)

/-- 'laws.FnUnsetFirst': WHATEVER THE INPUT: true; the input reads as it did. -/
def fnUnsetFirstSpec : ChangeSpec := { name := "fnUnsetFirst", fn := fun _ => fun
  | [d] => { results := [.lit (.bool true)], args := [d] }
  | _ => none }
def fnUnsetFirstRow : OpenClaim := { program := "ytbffldgiccijlaagreatdoor", sum := "2a8c20fcb9e59d90c7c72c2614bcab086861b833e05236f0b8d778c55659db60", func := "loop.example/borrowcheck/laws.FnUnsetFirst", spec := "fnUnsetFirst", unfollowed := true, recurses := true, named := ["math/bits.deBruijn64tab"], apart := false, laid := [("math/bits.deBruijn64tab", laid_math_bits_deBruijn64tab)] }
def FnUnsetFirstSaid : Prop := fnUnsetFirstRow.holds Tryz.pinned (OpenSpec.ofChange fnUnsetFirstSpec)

/-- ITS FALSE NEIGHBOUR: 'it returns false'. Refute it at one input. -/
def fnUnsetFirstWrong : ChangeSpec := { name := "fnUnsetFirst", fn := fun _ => fun
  | [d] => { results := [.lit (.bool false)], args := [d] }
  | _ => none }
def FnUnsetFirstWrongFalsely : Prop := fnUnsetFirstRow.holds Tryz.pinned (OpenSpec.ofChange fnUnsetFirstWrong)

/-- 'laws.FnUnsetUses': WHATEVER THE INPUT: true; the input reads as it did. -/
def fnUnsetUsesSpec : ChangeSpec := { name := "fnUnsetUses", fn := fun _ => fun
  | [d] => { results := [.lit (.bool true)], args := [d] }
  | _ => none }
def fnUnsetUsesRow : OpenClaim := { program := "ytbffldgiccijlaagreatdoor", sum := "2a8c20fcb9e59d90c7c72c2614bcab086861b833e05236f0b8d778c55659db60", func := "loop.example/borrowcheck/laws.FnUnsetUses", spec := "fnUnsetUses", unfollowed := true, recurses := true, named := ["math/bits.deBruijn64tab"], apart := false, laid := [("math/bits.deBruijn64tab", laid_math_bits_deBruijn64tab)] }
def FnUnsetUsesSaid : Prop := fnUnsetUsesRow.holds Tryz.pinned (OpenSpec.ofChange fnUnsetUsesSpec)

/-- ITS FALSE NEIGHBOUR: 'it returns false'. Refute it at one input. -/
def fnUnsetUsesWrong : ChangeSpec := { name := "fnUnsetUses", fn := fun _ => fun
  | [d] => { results := [.lit (.bool false)], args := [d] }
  | _ => none }
def FnUnsetUsesWrongFalsely : Prop := fnUnsetUsesRow.holds Tryz.pinned (OpenSpec.ofChange fnUnsetUsesWrong)

/-- 'laws.FnLiveStep': WHATEVER THE INPUT: true; the input reads as it did. -/
def fnLiveStepSpec : ChangeSpec := { name := "fnLiveStep", fn := fun _ => fun
  | [d] => { results := [.lit (.bool true)], args := [d] }
  | _ => none }
def fnLiveStepRow : OpenClaim := { program := "ytbffldgiccijlaagreatdoor", sum := "2a8c20fcb9e59d90c7c72c2614bcab086861b833e05236f0b8d778c55659db60", func := "loop.example/borrowcheck/laws.FnLiveStep", spec := "fnLiveStep", unfollowed := true, recurses := true, named := ["math/bits.deBruijn64tab"], apart := false, laid := [("math/bits.deBruijn64tab", laid_math_bits_deBruijn64tab)] }
def FnLiveStepSaid : Prop := fnLiveStepRow.holds Tryz.pinned (OpenSpec.ofChange fnLiveStepSpec)

/-- ITS FALSE NEIGHBOUR: 'it returns false'. Refute it at one input. -/
def fnLiveStepWrong : ChangeSpec := { name := "fnLiveStep", fn := fun _ => fun
  | [d] => { results := [.lit (.bool false)], args := [d] }
  | _ => none }
def FnLiveStepWrongFalsely : Prop := fnLiveStepRow.holds Tryz.pinned (OpenSpec.ofChange fnLiveStepWrong)

/- THE SECOND FORM. 'bulk': how many values and letters a reading holds, each counted each time it is reached (what is shared counts as often as it is met; a slice's spare places count too). A statement '..UptoSaid' is the law's where the arguments, and the package variables that the reading takes, are together of bulk at most 1048576: NARROWER than '..Said'. Prove '..Said' where nothing that the law and all that it calls make is longer than what came in: it says more and counts as full. Else prove '..UptoSaid'. A law counts once. -/
mutual
def uptoBulk {H : Type} : DataW H → Nat
  | .lit (.string bytes) => bytes.length + 1
  | .lit _ => 1
  | .nil => 1
  | .ptr d => uptoBulk d + 1
  | .slice elems spare => uptoBulkAll elems + uptoBulkAll spare + 1
  | .agg parts => uptoBulkAll parts + 1
  | .iface _ d => uptoBulk d + 1
  | .map entries => uptoBulkEntries entries + 1
  | .held _ => 1
def uptoBulkAll {H : Type} : List (DataW H) → Nat
  | [] => 0
  | d :: r => uptoBulk d + uptoBulkAll r
def uptoBulkEntries {H : Type} : List (Lit × DataW H) → Nat
  | [] => 0
  | x :: r => uptoBulkEntry x + uptoBulkEntries r
def uptoBulkEntry {H : Type} : Lit × DataW H → Nat
  | (.string bytes, d) => bytes.length + uptoBulk d + 1
  | (_, d) => uptoBulk d + 1
 end
def uptoSmall : (H : Type) → List (DataW H) → Bool := fun _ ds => decide (uptoBulkAll ds ≤ 1048576)
def OpenSpec.upto (s : _root_.Go.ChangeSpec) : _root_.Go.OpenSpec := { _root_.Go.OpenSpec.ofChange s with cond := some uptoSmall }

/-- 'laws.FnPathsFrom', WHERE WHAT IT READS IS OF BULK AT MOST 1048576: true; the input reads as it did. -/
def fnPathsFromUptoRow : OpenClaim := { program := "ytbffldgiccijlaagreatdoor", sum := "2a8c20fcb9e59d90c7c72c2614bcab086861b833e05236f0b8d778c55659db60", func := "loop.example/borrowcheck/laws.FnPathsFrom", spec := "fnPathsFrom", unfollowed := true, recurses := true, named := ["math/bits.deBruijn64tab"], apart := false, laid := [("math/bits.deBruijn64tab", laid_math_bits_deBruijn64tab)], narrowed := true }
def FnPathsFromUptoSaid : Prop := fnPathsFromUptoRow.holds Tryz.pinned (OpenSpec.upto fnPathsFromSpec)

/-- 'laws.FnPathsTo', WHERE WHAT IT READS IS OF BULK AT MOST 1048576: true; the input reads as it did. -/
def fnPathsToUptoRow : OpenClaim := { program := "ytbffldgiccijlaagreatdoor", sum := "2a8c20fcb9e59d90c7c72c2614bcab086861b833e05236f0b8d778c55659db60", func := "loop.example/borrowcheck/laws.FnPathsTo", spec := "fnPathsTo", unfollowed := true, recurses := true, named := ["math/bits.deBruijn64tab"], apart := false, laid := [("math/bits.deBruijn64tab", laid_math_bits_deBruijn64tab)], narrowed := true }
def FnPathsToUptoSaid : Prop := fnPathsToUptoRow.holds Tryz.pinned (OpenSpec.upto fnPathsToSpec)

/-- 'laws.FnUseOf', WHERE WHAT IT READS IS OF BULK AT MOST 1048576: true; the input reads as it did. -/
def fnUseOfUptoRow : OpenClaim := { program := "ytbffldgiccijlaagreatdoor", sum := "2a8c20fcb9e59d90c7c72c2614bcab086861b833e05236f0b8d778c55659db60", func := "loop.example/borrowcheck/laws.FnUseOf", spec := "fnUseOf", unfollowed := true, recurses := true, named := ["math/bits.deBruijn64tab"], apart := false, laid := [("math/bits.deBruijn64tab", laid_math_bits_deBruijn64tab)], narrowed := true }
def FnUseOfUptoSaid : Prop := fnUseOfUptoRow.holds Tryz.pinned (OpenSpec.upto fnUseOfSpec)

/-- 'laws.FnSetAfter', WHERE WHAT IT READS IS OF BULK AT MOST 1048576: true; the input reads as it did. -/
def fnSetAfterUptoRow : OpenClaim := { program := "ytbffldgiccijlaagreatdoor", sum := "2a8c20fcb9e59d90c7c72c2614bcab086861b833e05236f0b8d778c55659db60", func := "loop.example/borrowcheck/laws.FnSetAfter", spec := "fnSetAfter", unfollowed := true, recurses := true, named := ["math/bits.deBruijn64tab"], apart := false, laid := [("math/bits.deBruijn64tab", laid_math_bits_deBruijn64tab)], narrowed := true }
def FnSetAfterUptoSaid : Prop := fnSetAfterUptoRow.holds Tryz.pinned (OpenSpec.upto fnSetAfterSpec)

/-- 'laws.FnFirstSet', WHERE WHAT IT READS IS OF BULK AT MOST 1048576: true; the input reads as it did. -/
def fnFirstSetUptoRow : OpenClaim := { program := "ytbffldgiccijlaagreatdoor", sum := "2a8c20fcb9e59d90c7c72c2614bcab086861b833e05236f0b8d778c55659db60", func := "loop.example/borrowcheck/laws.FnFirstSet", spec := "fnFirstSet", unfollowed := true, recurses := true, named := ["math/bits.deBruijn64tab"], apart := false, laid := [("math/bits.deBruijn64tab", laid_math_bits_deBruijn64tab)], narrowed := true }
def FnFirstSetUptoSaid : Prop := fnFirstSetUptoRow.holds Tryz.pinned (OpenSpec.upto fnFirstSetSpec)

/-- 'laws.FnEndLive', WHERE WHAT IT READS IS OF BULK AT MOST 1048576: true; the input reads as it did. -/
def fnEndLiveUptoRow : OpenClaim := { program := "ytbffldgiccijlaagreatdoor", sum := "2a8c20fcb9e59d90c7c72c2614bcab086861b833e05236f0b8d778c55659db60", func := "loop.example/borrowcheck/laws.FnEndLive", spec := "fnEndLive", unfollowed := true, recurses := true, named := ["math/bits.deBruijn64tab"], apart := false, laid := [("math/bits.deBruijn64tab", laid_math_bits_deBruijn64tab)], narrowed := true }
def FnEndLiveUptoSaid : Prop := fnEndLiveUptoRow.holds Tryz.pinned (OpenSpec.upto fnEndLiveSpec)

/-- 'laws.FnUnsetFirst', WHERE WHAT IT READS IS OF BULK AT MOST 1048576: true; the input reads as it did. -/
def fnUnsetFirstUptoRow : OpenClaim := { program := "ytbffldgiccijlaagreatdoor", sum := "2a8c20fcb9e59d90c7c72c2614bcab086861b833e05236f0b8d778c55659db60", func := "loop.example/borrowcheck/laws.FnUnsetFirst", spec := "fnUnsetFirst", unfollowed := true, recurses := true, named := ["math/bits.deBruijn64tab"], apart := false, laid := [("math/bits.deBruijn64tab", laid_math_bits_deBruijn64tab)], narrowed := true }
def FnUnsetFirstUptoSaid : Prop := fnUnsetFirstUptoRow.holds Tryz.pinned (OpenSpec.upto fnUnsetFirstSpec)

/-- 'laws.FnUnsetUses', WHERE WHAT IT READS IS OF BULK AT MOST 1048576: true; the input reads as it did. -/
def fnUnsetUsesUptoRow : OpenClaim := { program := "ytbffldgiccijlaagreatdoor", sum := "2a8c20fcb9e59d90c7c72c2614bcab086861b833e05236f0b8d778c55659db60", func := "loop.example/borrowcheck/laws.FnUnsetUses", spec := "fnUnsetUses", unfollowed := true, recurses := true, named := ["math/bits.deBruijn64tab"], apart := false, laid := [("math/bits.deBruijn64tab", laid_math_bits_deBruijn64tab)], narrowed := true }
def FnUnsetUsesUptoSaid : Prop := fnUnsetUsesUptoRow.holds Tryz.pinned (OpenSpec.upto fnUnsetUsesSpec)

/-- 'laws.FnLiveStep', WHERE WHAT IT READS IS OF BULK AT MOST 1048576: true; the input reads as it did. -/
def fnLiveStepUptoRow : OpenClaim := { program := "ytbffldgiccijlaagreatdoor", sum := "2a8c20fcb9e59d90c7c72c2614bcab086861b833e05236f0b8d778c55659db60", func := "loop.example/borrowcheck/laws.FnLiveStep", spec := "fnLiveStep", unfollowed := true, recurses := true, named := ["math/bits.deBruijn64tab"], apart := false, laid := [("math/bits.deBruijn64tab", laid_math_bits_deBruijn64tab)], narrowed := true }
def FnLiveStepUptoSaid : Prop := fnLiveStepUptoRow.holds Tryz.pinned (OpenSpec.upto fnLiveStepSpec)

end Rows
end Go.Proofs.YtbffldgiccijlaaGreatDoor
