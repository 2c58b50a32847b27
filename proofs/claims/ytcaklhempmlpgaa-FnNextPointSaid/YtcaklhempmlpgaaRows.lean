/-
  No cell of these rows narrows 'for every input' (looked for: loops, veiled, ifaces, maps, wideKeys, modest, calm, conditions, laid).
  DERIVED. THE GIVEN ROWS OF THIS SEAT. 5 by the template 'for every input the law returns true; each argument reads behind the call as it read before'; 0 by the template 'total and deterministic' (their statements: YtcaklhempmlpgaaTotals.lean).
  GIVEN WITH THE SEED: the statements are not yours to turn. If you find one false, say at which input.
  Laid BY PROGRAM, IN A SANDBOX (cutbox-rows.mjs): the forced cells as the released guide's own fill.sh prints them over the translation 255e0be4b819c5b6… (all of the seat's roots in one cut). By AI agents, Wed Nov 11 2026. No macro, syntax, notation, axiom, sorry.
-/
import Derived.Test.YtcaklhempmlpgaaChecked
import GoSem.Claim
import GoSem.ClaimJoined
import GoSem.ClaimMapViews
import Derived.JoinedTies
import Derived.KernelRfl
namespace Go.Proofs.Ytcaklhempmlpgaa
/- THE CELL 'sum', in the pinned program and in every row, IS THE sha256 OF THE DUMP (.gsa) THAT YtcaklhempmlpgaaProg.lean LOADS. Nothing in Lean hashes anything: it is a label: what it is worth is what the hold of that sum in a sandbox is worth. -/
noncomputable def Try.pinned : Pinned := { name := "ytcaklhempmlpgaa", sum := "255e0be4b819c5b6de8a7d570746778a60441e37b575cdedb789f68cebff5b92", checked := Try.checked }
namespace Rows
def none {H : Type} : Left H := { results := [], args := [] }

/-- 'laws.FnRunPath': WHATEVER THE INPUT: true; the input reads as it did. -/
def fnRunPathSpec : ChangeSpec := { name := "fnRunPath", fn := fun _ => fun
  | [d] => { results := [.lit (.bool true)], args := [d] }
  | _ => none }
def fnRunPathRow : OpenClaim := { program := "ytcaklhempmlpgaa", sum := "255e0be4b819c5b6de8a7d570746778a60441e37b575cdedb789f68cebff5b92", func := "loop.example/borrowcheck/laws.FnRunPath", spec := "fnRunPath", unfollowed := true, recurses := true, apart := false }
def FnRunPathSaid : Prop := fnRunPathRow.holds Try.pinned (OpenSpec.ofChange fnRunPathSpec)

/-- ITS FALSE NEIGHBOUR: 'it returns false'. Refute it at one input. -/
def fnRunPathWrong : ChangeSpec := { name := "fnRunPath", fn := fun _ => fun
  | [d] => { results := [.lit (.bool false)], args := [d] }
  | _ => none }
def FnRunPathWrongFalsely : Prop := fnRunPathRow.holds Try.pinned (OpenSpec.ofChange fnRunPathWrong)

/-- 'laws.FnRunLonger': WHATEVER THE INPUT: true; the input reads as it did. -/
def fnRunLongerSpec : ChangeSpec := { name := "fnRunLonger", fn := fun _ => fun
  | [d] => { results := [.lit (.bool true)], args := [d] }
  | _ => none }
def fnRunLongerRow : OpenClaim := { program := "ytcaklhempmlpgaa", sum := "255e0be4b819c5b6de8a7d570746778a60441e37b575cdedb789f68cebff5b92", func := "loop.example/borrowcheck/laws.FnRunLonger", spec := "fnRunLonger", unfollowed := true, recurses := true, apart := false }
def FnRunLongerSaid : Prop := fnRunLongerRow.holds Try.pinned (OpenSpec.ofChange fnRunLongerSpec)

/-- ITS FALSE NEIGHBOUR: 'it returns false'. Refute it at one input. -/
def fnRunLongerWrong : ChangeSpec := { name := "fnRunLonger", fn := fun _ => fun
  | [d] => { results := [.lit (.bool false)], args := [d] }
  | _ => none }
def FnRunLongerWrongFalsely : Prop := fnRunLongerRow.holds Try.pinned (OpenSpec.ofChange fnRunLongerWrong)

/-- 'laws.FnRunEven': WHATEVER THE INPUT: true; the input reads as it did. -/
def fnRunEvenSpec : ChangeSpec := { name := "fnRunEven", fn := fun _ => fun
  | [d] => { results := [.lit (.bool true)], args := [d] }
  | _ => none }
def fnRunEvenRow : OpenClaim := { program := "ytcaklhempmlpgaa", sum := "255e0be4b819c5b6de8a7d570746778a60441e37b575cdedb789f68cebff5b92", func := "loop.example/borrowcheck/laws.FnRunEven", spec := "fnRunEven", unfollowed := true, recurses := true, apart := false }
def FnRunEvenSaid : Prop := fnRunEvenRow.holds Try.pinned (OpenSpec.ofChange fnRunEvenSpec)

/-- ITS FALSE NEIGHBOUR: 'it returns false'. Refute it at one input. -/
def fnRunEvenWrong : ChangeSpec := { name := "fnRunEven", fn := fun _ => fun
  | [d] => { results := [.lit (.bool false)], args := [d] }
  | _ => none }
def FnRunEvenWrongFalsely : Prop := fnRunEvenRow.holds Try.pinned (OpenSpec.ofChange fnRunEvenWrong)

/-- 'laws.FnNextPoint': WHATEVER THE INPUT: true; the input reads as it did. -/
def fnNextPointSpec : ChangeSpec := { name := "fnNextPoint", fn := fun _ => fun
  | [d] => { results := [.lit (.bool true)], args := [d] }
  | _ => none }
def fnNextPointRow : OpenClaim := { program := "ytcaklhempmlpgaa", sum := "255e0be4b819c5b6de8a7d570746778a60441e37b575cdedb789f68cebff5b92", func := "loop.example/borrowcheck/laws.FnNextPoint", spec := "fnNextPoint", unfollowed := true, recurses := true, apart := false }
def FnNextPointSaid : Prop := fnNextPointRow.holds Try.pinned (OpenSpec.ofChange fnNextPointSpec)

/-- ITS FALSE NEIGHBOUR: 'it returns false'. Refute it at one input. -/
def fnNextPointWrong : ChangeSpec := { name := "fnNextPoint", fn := fun _ => fun
  | [d] => { results := [.lit (.bool false)], args := [d] }
  | _ => none }
def FnNextPointWrongFalsely : Prop := fnNextPointRow.holds Try.pinned (OpenSpec.ofChange fnNextPointWrong)

/-- 'laws.FnStmtWide': WHATEVER THE INPUT: true; the input reads as it did. -/
def fnStmtWideSpec : ChangeSpec := { name := "fnStmtWide", fn := fun _ => fun
  | [d] => { results := [.lit (.bool true)], args := [d] }
  | _ => none }
def fnStmtWideRow : OpenClaim := { program := "ytcaklhempmlpgaa", sum := "255e0be4b819c5b6de8a7d570746778a60441e37b575cdedb789f68cebff5b92", func := "loop.example/borrowcheck/laws.FnStmtWide", spec := "fnStmtWide", unfollowed := true, recurses := true, apart := false }
def FnStmtWideSaid : Prop := fnStmtWideRow.holds Try.pinned (OpenSpec.ofChange fnStmtWideSpec)

/-- ITS FALSE NEIGHBOUR: 'it returns false'. Refute it at one input. -/
def fnStmtWideWrong : ChangeSpec := { name := "fnStmtWide", fn := fun _ => fun
  | [d] => { results := [.lit (.bool false)], args := [d] }
  | _ => none }
def FnStmtWideWrongFalsely : Prop := fnStmtWideRow.holds Try.pinned (OpenSpec.ofChange fnStmtWideWrong)

/- THE SECOND FORM. 'bulk': how many values and letters a reading holds, each counted each time it is reached (what is shared counts as often as it is met; a slice's spare places count too). A statement '..UptoSaid' is the law's where the arguments, and the package variables that the reading takes, are together of bulk at most 1048576: NARROWER than '..Said'. Prove '..Said' where nothing that the law and all that it calls make is longer than what came in: it says more and counts as full. Else prove '..UptoSaid'. A law counts once. -/
mutual
def uptoBulk {H : Type} : DataW H → Nat
  | .lit (.string bytes) => bytes.length + 1
  | .lit _ => 1
  | .nil => 1
  | .ptr d => uptoBulk d + 1
  | .slice elems spare => uptoBulkAll elems + uptoBulkAll spare + 1
  | .agg parts => uptoBulkAll parts + 1
  | .iface _ d => uptoBulk d + 1
  | .map entries => uptoBulkEntries entries + 1
  | .held _ => 1
def uptoBulkAll {H : Type} : List (DataW H) → Nat
  | [] => 0
  | d :: r => uptoBulk d + uptoBulkAll r
def uptoBulkEntries {H : Type} : List (Lit × DataW H) → Nat
  | [] => 0
  | x :: r => uptoBulkEntry x + uptoBulkEntries r
def uptoBulkEntry {H : Type} : Lit × DataW H → Nat
  | (.string bytes, d) => bytes.length + uptoBulk d + 1
  | (_, d) => uptoBulk d + 1
 end
def uptoSmall : (H : Type) → List (DataW H) → Bool := fun _ ds => decide (uptoBulkAll ds ≤ 1048576)
def OpenSpec.upto (s : _root_.Go.ChangeSpec) : _root_.Go.OpenSpec := { _root_.Go.OpenSpec.ofChange s with cond := some uptoSmall }

/-- 'laws.FnRunPath', WHERE WHAT IT READS IS OF BULK AT MOST 1048576: true; the input reads as it did. -/
def fnRunPathUptoRow : OpenClaim := { program := "ytcaklhempmlpgaa", sum := "255e0be4b819c5b6de8a7d570746778a60441e37b575cdedb789f68cebff5b92", func := "loop.example/borrowcheck/laws.FnRunPath", spec := "fnRunPath", unfollowed := true, recurses := true, apart := false, narrowed := true }
def FnRunPathUptoSaid : Prop := fnRunPathUptoRow.holds Try.pinned (OpenSpec.upto fnRunPathSpec)

/-- 'laws.FnRunLonger', WHERE WHAT IT READS IS OF BULK AT MOST 1048576: true; the input reads as it did. -/
def fnRunLongerUptoRow : OpenClaim := { program := "ytcaklhempmlpgaa", sum := "255e0be4b819c5b6de8a7d570746778a60441e37b575cdedb789f68cebff5b92", func := "loop.example/borrowcheck/laws.FnRunLonger", spec := "fnRunLonger", unfollowed := true, recurses := true, apart := false, narrowed := true }
def FnRunLongerUptoSaid : Prop := fnRunLongerUptoRow.holds Try.pinned (OpenSpec.upto fnRunLongerSpec)

/-- 'laws.FnRunEven', WHERE WHAT IT READS IS OF BULK AT MOST 1048576: true; the input reads as it did. -/
def fnRunEvenUptoRow : OpenClaim := { program := "ytcaklhempmlpgaa", sum := "255e0be4b819c5b6de8a7d570746778a60441e37b575cdedb789f68cebff5b92", func := "loop.example/borrowcheck/laws.FnRunEven", spec := "fnRunEven", unfollowed := true, recurses := true, apart := false, narrowed := true }
def FnRunEvenUptoSaid : Prop := fnRunEvenUptoRow.holds Try.pinned (OpenSpec.upto fnRunEvenSpec)

/-- 'laws.FnNextPoint', WHERE WHAT IT READS IS OF BULK AT MOST 1048576: true; the input reads as it did. -/
def fnNextPointUptoRow : OpenClaim := { program := "ytcaklhempmlpgaa", sum := "255e0be4b819c5b6de8a7d570746778a60441e37b575cdedb789f68cebff5b92", func := "loop.example/borrowcheck/laws.FnNextPoint", spec := "fnNextPoint", unfollowed := true, recurses := true, apart := false, narrowed := true }
def FnNextPointUptoSaid : Prop := fnNextPointUptoRow.holds Try.pinned (OpenSpec.upto fnNextPointSpec)

/-- 'laws.FnStmtWide', WHERE WHAT IT READS IS OF BULK AT MOST 1048576: true; the input reads as it did. -/
def fnStmtWideUptoRow : OpenClaim := { program := "ytcaklhempmlpgaa", sum := "255e0be4b819c5b6de8a7d570746778a60441e37b575cdedb789f68cebff5b92", func := "loop.example/borrowcheck/laws.FnStmtWide", spec := "fnStmtWide", unfollowed := true, recurses := true, apart := false, narrowed := true }
def FnStmtWideUptoSaid : Prop := fnStmtWideUptoRow.holds Try.pinned (OpenSpec.upto fnStmtWideSpec)

end Rows
end Go.Proofs.Ytcaklhempmlpgaa
