/-
  NARROWER THAN 'FOR EVERY INPUT', by the rows' own cells (each row's printed sentence says how): FnExactShortWay: loops · FnExactWayChoices: loops.
  DERIVED. THE GIVEN ROWS OF THIS SEAT. 5 by the template 'for every input the law returns true; each argument reads behind the call as it read before'; 0 by the template 'total and deterministic' (their statements: YtlddoookojjleaaTotals.lean).
  GIVEN WITH THE SEED: the statements are not yours to turn. If you find one false, say at which input.
  Laid BY PROGRAM, IN A SANDBOX (cutbox-rows.mjs): the forced cells as the released guide's own fill.sh prints them over the translation dd16b64fe8e09f6a… (all of the seat's roots in one cut). By AI agents, Wed Nov 11 2026. No macro, syntax, notation, axiom, sorry.
-/
import Derived.Test.YtlddoookojjleaaChecked
import GoSem.Claim
import GoSem.ClaimJoined
import GoSem.ClaimMapViews
import Derived.JoinedTies
import Derived.KernelRfl
namespace Go.Proofs.Ytlddoookojjleaa
/- THE CELL 'sum', in the pinned program and in every row, IS THE sha256 OF THE DUMP (.gsa) THAT YtlddoookojjleaaProg.lean LOADS. Nothing in Lean hashes anything: it is a label: what it is worth is what the hold of that sum in a sandbox is worth. -/
noncomputable def Try.pinned : Pinned := { name := "ytlddoookojjleaa", sum := "dd16b64fe8e09f6a48ded7ec9754aa1a133b71ca3457cd6e8ccde86844e56ca3", checked := Try.checked }
namespace Rows
def none {H : Type} : Left H := { results := [], args := [] }

/-- 'laws.FnExactShortWay': WHATEVER THE INPUT: true; the input reads as it did. -/
def fnExactShortWaySpec : ChangeSpec := { name := "fnExactShortWay", fn := fun _ => fun
  | [d1, d2, d3] => { results := [.lit (.bool true)], args := [d1, d2, d3] }
  | _ => none }
def fnExactShortWayRow : OpenClaim := { program := "ytlddoookojjleaa", sum := "dd16b64fe8e09f6a48ded7ec9754aa1a133b71ca3457cd6e8ccde86844e56ca3", func := "loop.example/borrowcheck/laws.FnExactShortWay", spec := "fnExactShortWay", unfollowed := true, recurses := true, loops := true, apart := false }
def FnExactShortWaySaid : Prop := fnExactShortWayRow.holds Try.pinned (OpenSpec.ofChange fnExactShortWaySpec)

/-- ITS FALSE NEIGHBOUR: 'it returns false'. Refute it at one input. -/
def fnExactShortWayWrong : ChangeSpec := { name := "fnExactShortWay", fn := fun _ => fun
  | [d1, d2, d3] => { results := [.lit (.bool false)], args := [d1, d2, d3] }
  | _ => none }
def FnExactShortWayWrongFalsely : Prop := fnExactShortWayRow.holds Try.pinned (OpenSpec.ofChange fnExactShortWayWrong)

/-- 'laws.FnExactWayChoices': WHATEVER THE INPUT: true; the input reads as it did. -/
def fnExactWayChoicesSpec : ChangeSpec := { name := "fnExactWayChoices", fn := fun _ => fun
  | [d1, d2] => { results := [.lit (.bool true)], args := [d1, d2] }
  | _ => none }
def fnExactWayChoicesRow : OpenClaim := { program := "ytlddoookojjleaa", sum := "dd16b64fe8e09f6a48ded7ec9754aa1a133b71ca3457cd6e8ccde86844e56ca3", func := "loop.example/borrowcheck/laws.FnExactWayChoices", spec := "fnExactWayChoices", unfollowed := true, recurses := true, loops := true, apart := false }
def FnExactWayChoicesSaid : Prop := fnExactWayChoicesRow.holds Try.pinned (OpenSpec.ofChange fnExactWayChoicesSpec)

/-- ITS FALSE NEIGHBOUR: 'it returns false'. Refute it at one input. -/
def fnExactWayChoicesWrong : ChangeSpec := { name := "fnExactWayChoices", fn := fun _ => fun
  | [d1, d2] => { results := [.lit (.bool false)], args := [d1, d2] }
  | _ => none }
def FnExactWayChoicesWrongFalsely : Prop := fnExactWayChoicesRow.holds Try.pinned (OpenSpec.ofChange fnExactWayChoicesWrong)

/-- 'laws.FnShortestWay': WHATEVER THE INPUT: true; the input reads as it did. -/
def fnShortestWaySpec : ChangeSpec := { name := "fnShortestWay", fn := fun _ => fun
  | [d] => { results := [.lit (.bool true)], args := [d] }
  | _ => none }
def fnShortestWayRow : OpenClaim := { program := "ytlddoookojjleaa", sum := "dd16b64fe8e09f6a48ded7ec9754aa1a133b71ca3457cd6e8ccde86844e56ca3", func := "loop.example/borrowcheck/laws.FnShortestWay", spec := "fnShortestWay", unfollowed := true, recurses := true, apart := false }
def FnShortestWaySaid : Prop := fnShortestWayRow.holds Try.pinned (OpenSpec.ofChange fnShortestWaySpec)

/-- ITS FALSE NEIGHBOUR: 'it returns false'. Refute it at one input. -/
def fnShortestWayWrong : ChangeSpec := { name := "fnShortestWay", fn := fun _ => fun
  | [d] => { results := [.lit (.bool false)], args := [d] }
  | _ => none }
def FnShortestWayWrongFalsely : Prop := fnShortestWayRow.holds Try.pinned (OpenSpec.ofChange fnShortestWayWrong)

/-- 'laws.FnWayChoices': WHATEVER THE INPUT: true; the input reads as it did. -/
def fnWayChoicesSpec : ChangeSpec := { name := "fnWayChoices", fn := fun _ => fun
  | [d] => { results := [.lit (.bool true)], args := [d] }
  | _ => none }
def fnWayChoicesRow : OpenClaim := { program := "ytlddoookojjleaa", sum := "dd16b64fe8e09f6a48ded7ec9754aa1a133b71ca3457cd6e8ccde86844e56ca3", func := "loop.example/borrowcheck/laws.FnWayChoices", spec := "fnWayChoices", unfollowed := true, recurses := true, apart := false }
def FnWayChoicesSaid : Prop := fnWayChoicesRow.holds Try.pinned (OpenSpec.ofChange fnWayChoicesSpec)

/-- ITS FALSE NEIGHBOUR: 'it returns false'. Refute it at one input. -/
def fnWayChoicesWrong : ChangeSpec := { name := "fnWayChoices", fn := fun _ => fun
  | [d] => { results := [.lit (.bool false)], args := [d] }
  | _ => none }
def FnWayChoicesWrongFalsely : Prop := fnWayChoicesRow.holds Try.pinned (OpenSpec.ofChange fnWayChoicesWrong)

/-- 'laws.FnWayRun': WHATEVER THE INPUT: true; the input reads as it did. -/
def fnWayRunSpec : ChangeSpec := { name := "fnWayRun", fn := fun _ => fun
  | [d] => { results := [.lit (.bool true)], args := [d] }
  | _ => none }
def fnWayRunRow : OpenClaim := { program := "ytlddoookojjleaa", sum := "dd16b64fe8e09f6a48ded7ec9754aa1a133b71ca3457cd6e8ccde86844e56ca3", func := "loop.example/borrowcheck/laws.FnWayRun", spec := "fnWayRun", unfollowed := true, recurses := true, apart := false }
def FnWayRunSaid : Prop := fnWayRunRow.holds Try.pinned (OpenSpec.ofChange fnWayRunSpec)

/-- ITS FALSE NEIGHBOUR: 'it returns false'. Refute it at one input. -/
def fnWayRunWrong : ChangeSpec := { name := "fnWayRun", fn := fun _ => fun
  | [d] => { results := [.lit (.bool false)], args := [d] }
  | _ => none }
def FnWayRunWrongFalsely : Prop := fnWayRunRow.holds Try.pinned (OpenSpec.ofChange fnWayRunWrong)

/- THE SECOND FORM. 'bulk': how many values and letters a reading holds, each counted each time it is reached (what is shared counts as often as it is met; a slice's spare places count too). A statement '..UptoSaid' is the law's where the arguments, and the package variables that the reading takes, are together of bulk at most 1048576: NARROWER than '..Said'. Prove '..Said' where nothing that the law and all that it calls make is longer than what came in: it says more and counts as full. Else prove '..UptoSaid'. A law counts once. -/
mutual
def uptoBulk {H : Type} : DataW H → Nat
  | .lit (.string bytes) => bytes.length + 1
  | .lit _ => 1
  | .nil => 1
  | .ptr d => uptoBulk d + 1
  | .slice elems spare => uptoBulkAll elems + uptoBulkAll spare + 1
  | .agg parts => uptoBulkAll parts + 1
  | .iface _ d => uptoBulk d + 1
  | .map entries => uptoBulkEntries entries + 1
  | .held _ => 1
def uptoBulkAll {H : Type} : List (DataW H) → Nat
  | [] => 0
  | d :: r => uptoBulk d + uptoBulkAll r
def uptoBulkEntries {H : Type} : List (Lit × DataW H) → Nat
  | [] => 0
  | x :: r => uptoBulkEntry x + uptoBulkEntries r
def uptoBulkEntry {H : Type} : Lit × DataW H → Nat
  | (.string bytes, d) => bytes.length + uptoBulk d + 1
  | (_, d) => uptoBulk d + 1
 end
def uptoSmall : (H : Type) → List (DataW H) → Bool := fun _ ds => decide (uptoBulkAll ds ≤ 1048576)
def OpenSpec.upto (s : _root_.Go.ChangeSpec) : _root_.Go.OpenSpec := { _root_.Go.OpenSpec.ofChange s with cond := some uptoSmall }

/-- 'laws.FnExactShortWay', WHERE WHAT IT READS IS OF BULK AT MOST 1048576: true; the input reads as it did. -/
def fnExactShortWayUptoRow : OpenClaim := { program := "ytlddoookojjleaa", sum := "dd16b64fe8e09f6a48ded7ec9754aa1a133b71ca3457cd6e8ccde86844e56ca3", func := "loop.example/borrowcheck/laws.FnExactShortWay", spec := "fnExactShortWay", unfollowed := true, recurses := true, loops := true, apart := false, narrowed := true }
def FnExactShortWayUptoSaid : Prop := fnExactShortWayUptoRow.holds Try.pinned (OpenSpec.upto fnExactShortWaySpec)

/-- 'laws.FnExactWayChoices', WHERE WHAT IT READS IS OF BULK AT MOST 1048576: true; the input reads as it did. -/
def fnExactWayChoicesUptoRow : OpenClaim := { program := "ytlddoookojjleaa", sum := "dd16b64fe8e09f6a48ded7ec9754aa1a133b71ca3457cd6e8ccde86844e56ca3", func := "loop.example/borrowcheck/laws.FnExactWayChoices", spec := "fnExactWayChoices", unfollowed := true, recurses := true, loops := true, apart := false, narrowed := true }
def FnExactWayChoicesUptoSaid : Prop := fnExactWayChoicesUptoRow.holds Try.pinned (OpenSpec.upto fnExactWayChoicesSpec)

/-- 'laws.FnShortestWay', WHERE WHAT IT READS IS OF BULK AT MOST 1048576: true; the input reads as it did. -/
def fnShortestWayUptoRow : OpenClaim := { program := "ytlddoookojjleaa", sum := "dd16b64fe8e09f6a48ded7ec9754aa1a133b71ca3457cd6e8ccde86844e56ca3", func := "loop.example/borrowcheck/laws.FnShortestWay", spec := "fnShortestWay", unfollowed := true, recurses := true, apart := false, narrowed := true }
def FnShortestWayUptoSaid : Prop := fnShortestWayUptoRow.holds Try.pinned (OpenSpec.upto fnShortestWaySpec)

/-- 'laws.FnWayChoices', WHERE WHAT IT READS IS OF BULK AT MOST 1048576: true; the input reads as it did. -/
def fnWayChoicesUptoRow : OpenClaim := { program := "ytlddoookojjleaa", sum := "dd16b64fe8e09f6a48ded7ec9754aa1a133b71ca3457cd6e8ccde86844e56ca3", func := "loop.example/borrowcheck/laws.FnWayChoices", spec := "fnWayChoices", unfollowed := true, recurses := true, apart := false, narrowed := true }
def FnWayChoicesUptoSaid : Prop := fnWayChoicesUptoRow.holds Try.pinned (OpenSpec.upto fnWayChoicesSpec)

/-- 'laws.FnWayRun', WHERE WHAT IT READS IS OF BULK AT MOST 1048576: true; the input reads as it did. -/
def fnWayRunUptoRow : OpenClaim := { program := "ytlddoookojjleaa", sum := "dd16b64fe8e09f6a48ded7ec9754aa1a133b71ca3457cd6e8ccde86844e56ca3", func := "loop.example/borrowcheck/laws.FnWayRun", spec := "fnWayRun", unfollowed := true, recurses := true, apart := false, narrowed := true }
def FnWayRunUptoSaid : Prop := fnWayRunUptoRow.holds Try.pinned (OpenSpec.upto fnWayRunSpec)

end Rows
end Go.Proofs.Ytlddoookojjleaa
