/-
  NARROWER THAN 'FOR EVERY INPUT', by the rows' own cells (each row's printed sentence says how): FnExactAccepts: loops, laid · FnExactFirstIssue: loops, laid · FnExactCheckProgram: loops, laid · FnExactCheckPlain: loops, laid · FnExactUseAfter: loops, laid · FnExactWitnessOf: loops, laid.
  DERIVED. THE GIVEN ROWS OF THIS SEAT. 6 by the template 'for every input the law returns true; each argument reads behind the call as it read before'; 0 by the template 'total and deterministic' (their statements: YtedkkphogeealaaGreatDoorTotals.lean).
  GIVEN WITH THE SEED: the statements are not yours to turn. If you find one false, say at which input.
  Laid BY PROGRAM, IN A SANDBOX (cutbox-rows.mjs): the forced cells as the released guide's own fill.sh prints them over the translation 5c4434896ec55a41… (all of the seat's roots in one cut). By AI agents, Wed Nov 11 2026. No macro, syntax, notation, axiom, sorry.
-/
import Derived.Test.YtedkkphogeealaaGreatDoorChecked
import GoSem.Claim
import GoSem.ClaimJoined
import GoSem.ClaimMapViews
import Derived.JoinedTies
import Derived.KernelRfl
namespace Go.Proofs.YtedkkphogeealaaGreatDoor
/- THE CELL 'sum', in the pinned program and in every row, IS THE sha256 OF THE DUMP (.gsa) THAT YtedkkphogeealaaGreatDoorProg.lean LOADS. Nothing in Lean hashes anything: it is a label: what it is worth is what the hold of that sum in a sandbox is worth. -/
noncomputable def Tryz.pinned : Pinned := { name := "ytedkkphogeealaagreatdoor", sum := "5c4434896ec55a416dc8217ef45998e219720ea686f4e910770fda284ce7527d", checked := Tryz.checked }
namespace Rows
def none {H : Type} : Left H := { results := [], args := [] }

/- WHAT THE LISTED PACKAGE-LEVEL VARIABLES READ AS WHEN THE CALL BEGINS. Each datum BY PROGRAM (the guide's laid-datum.mjs) off the statement by which the dump's own 'gosem.cut.vars' lays the variable. In a bare row this is a premise. The card (YtedkkphogeealaaGreatDoorCards.lean) ties it to the program's text. -/
def laid_math_bits_deBruijn64tab {H : Type} : DataW H := .agg [.lit (.int .u8 0), .lit (.int .u8 1), .lit (.int .u8 56), .lit (.int .u8 2), .lit (.int .u8 57), .lit (.int .u8 49), .lit (.int .u8 28), .lit (.int .u8 3), .lit (.int .u8 61), .lit (.int .u8 58), .lit (.int .u8 42), .lit (.int .u8 50), .lit (.int .u8 38), .lit (.int .u8 29), .lit (.int .u8 17), .lit (.int .u8 4), .lit (.int .u8 62), .lit (.int .u8 47), .lit (.int .u8 59), .lit (.int .u8 36), .lit (.int .u8 45), .lit (.int .u8 43), .lit (.int .u8 51), .lit (.int .u8 22), .lit (.int .u8 53), .lit (.int .u8 39), .lit (.int .u8 33), .lit (.int .u8 30), .lit (.int .u8 24), .lit (.int .u8 18), .lit (.int .u8 12), .lit (.int .u8 5), .lit (.int .u8 63), .lit (.int .u8 55), .lit (.int .u8 48), .lit (.int .u8 27), .lit (.int .u8 60), .lit (.int .u8 41), .lit (.int .u8 37), .lit (.int .u8 16), .lit (.int .u8 46), .lit (.int .u8 35), .lit (.int .u8 44), .lit (.int .u8 21), .lit (.int .u8 52), .lit (.int .u8 32), .lit (.int .u8 23), .lit (.int .u8 11), .lit (.int .u8 54), .lit (.int .u8 26), .lit (.int .u8 40), .lit (.int .u8 15), .lit (.int .u8 34), .lit (.int .u8 20), .lit (.int .u8 31), .lit (.int .u8 10), .lit (.int .u8 25), .lit (.int .u8 14), .lit (.int .u8 19), .lit (.int .u8 9), .lit (.int .u8 13), .lit (.int .u8 8), .lit (.int .u8 7), .lit (.int .u8 6)]

/-- 'laws.FnExactAccepts': WHATEVER THE INPUT: true; the input reads as it did. -/
def fnExactAcceptsSpec : ChangeSpec := { name := "fnExactAccepts", fn := fun _ => fun
  | [d] => { results := [.lit (.bool true)], args := [d] }
  | _ => none }
def fnExactAcceptsRow : OpenClaim := { program := "ytedkkphogeealaagreatdoor", sum := "5c4434896ec55a416dc8217ef45998e219720ea686f4e910770fda284ce7527d", func := "loop.example/borrowcheck/laws.FnExactAccepts", spec := "fnExactAccepts", unfollowed := true, recurses := true, named := ["math/bits.deBruijn64tab"], loops := true, apart := false, laid := [("math/bits.deBruijn64tab", laid_math_bits_deBruijn64tab)] }
def FnExactAcceptsSaid : Prop := fnExactAcceptsRow.holds Tryz.pinned (OpenSpec.ofChange fnExactAcceptsSpec)

/-- ITS FALSE NEIGHBOUR: 'it returns false'. Refute it at one input. -/
def fnExactAcceptsWrong : ChangeSpec := { name := "fnExactAccepts", fn := fun _ => fun
  | [d] => { results := [.lit (.bool false)], args := [d] }
  | _ => none }
def FnExactAcceptsWrongFalsely : Prop := fnExactAcceptsRow.holds Tryz.pinned (OpenSpec.ofChange fnExactAcceptsWrong)

/-- 'laws.FnExactFirstIssue': WHATEVER THE INPUT: true; the input reads as it did. -/
def fnExactFirstIssueSpec : ChangeSpec := { name := "fnExactFirstIssue", fn := fun _ => fun
  | [d] => { results := [.lit (.bool true)], args := [d] }
  | _ => none }
def fnExactFirstIssueRow : OpenClaim := { program := "ytedkkphogeealaagreatdoor", sum := "5c4434896ec55a416dc8217ef45998e219720ea686f4e910770fda284ce7527d", func := "loop.example/borrowcheck/laws.FnExactFirstIssue", spec := "fnExactFirstIssue", unfollowed := true, recurses := true, named := ["math/bits.deBruijn64tab"], loops := true, apart := false, laid := [("math/bits.deBruijn64tab", laid_math_bits_deBruijn64tab)] }
def FnExactFirstIssueSaid : Prop := fnExactFirstIssueRow.holds Tryz.pinned (OpenSpec.ofChange fnExactFirstIssueSpec)

/-- ITS FALSE NEIGHBOUR: 'it returns false'. Refute it at one input. -/
def fnExactFirstIssueWrong : ChangeSpec := { name := "fnExactFirstIssue", fn := fun _ => fun
  | [d] => { results := [.lit (.bool false)], args := [d] }
  | _ => none }
def FnExactFirstIssueWrongFalsely : Prop := fnExactFirstIssueRow.holds Tryz.pinned (OpenSpec.ofChange fnExactFirstIssueWrong)

/-- 'laws.FnExactCheckProgram': WHATEVER THE INPUT: true; the input reads as it did. -/
def fnExactCheckProgramSpec : ChangeSpec := { name := "fnExactCheckProgram", fn := fun _ => fun
  | [d] => { results := [.lit (.bool true)], args := [d] }
  | _ => none }
def fnExactCheckProgramRow : OpenClaim := { program := "ytedkkphogeealaagreatdoor", sum := "5c4434896ec55a416dc8217ef45998e219720ea686f4e910770fda284ce7527d", func := "loop.example/borrowcheck/laws.FnExactCheckProgram", spec := "fnExactCheckProgram", unfollowed := true, recurses := true, named := ["math/bits.deBruijn64tab"], loops := true, apart := false, laid := [("math/bits.deBruijn64tab", laid_math_bits_deBruijn64tab)] }
def FnExactCheckProgramSaid : Prop := fnExactCheckProgramRow.holds Tryz.pinned (OpenSpec.ofChange fnExactCheckProgramSpec)

/-- ITS FALSE NEIGHBOUR: 'it returns false'. Refute it at one input. -/
def fnExactCheckProgramWrong : ChangeSpec := { name := "fnExactCheckProgram", fn := fun _ => fun
  | [d] => { results := [.lit (.bool false)], args := [d] }
  | _ => none }
def FnExactCheckProgramWrongFalsely : Prop := fnExactCheckProgramRow.holds Tryz.pinned (OpenSpec.ofChange fnExactCheckProgramWrong)

/-- 'laws.FnExactCheckPlain': WHATEVER THE INPUT: true; the input reads as it did. -/
def fnExactCheckPlainSpec : ChangeSpec := { name := "fnExactCheckPlain", fn := fun _ => fun
  | [d] => { results := [.lit (.bool true)], args := [d] }
  | _ => none }
def fnExactCheckPlainRow : OpenClaim := { program := "ytedkkphogeealaagreatdoor", sum := "5c4434896ec55a416dc8217ef45998e219720ea686f4e910770fda284ce7527d", func := "loop.example/borrowcheck/laws.FnExactCheckPlain", spec := "fnExactCheckPlain", unfollowed := true, recurses := true, named := ["math/bits.deBruijn64tab"], loops := true, apart := false, laid := [("math/bits.deBruijn64tab", laid_math_bits_deBruijn64tab)] }
def FnExactCheckPlainSaid : Prop := fnExactCheckPlainRow.holds Tryz.pinned (OpenSpec.ofChange fnExactCheckPlainSpec)

/-- ITS FALSE NEIGHBOUR: 'it returns false'. Refute it at one input. -/
def fnExactCheckPlainWrong : ChangeSpec := { name := "fnExactCheckPlain", fn := fun _ => fun
  | [d] => { results := [.lit (.bool false)], args := [d] }
  | _ => none }
def FnExactCheckPlainWrongFalsely : Prop := fnExactCheckPlainRow.holds Tryz.pinned (OpenSpec.ofChange fnExactCheckPlainWrong)

/-- 'laws.FnExactUseAfter': WHATEVER THE INPUT: true; the input reads as it did. -/
def fnExactUseAfterSpec : ChangeSpec := { name := "fnExactUseAfter", fn := fun _ => fun
  | [d1, d2, d3] => { results := [.lit (.bool true)], args := [d1, d2, d3] }
  | _ => none }
def fnExactUseAfterRow : OpenClaim := { program := "ytedkkphogeealaagreatdoor", sum := "5c4434896ec55a416dc8217ef45998e219720ea686f4e910770fda284ce7527d", func := "loop.example/borrowcheck/laws.FnExactUseAfter", spec := "fnExactUseAfter", unfollowed := true, recurses := true, named := ["math/bits.deBruijn64tab"], loops := true, apart := false, laid := [("math/bits.deBruijn64tab", laid_math_bits_deBruijn64tab)] }
def FnExactUseAfterSaid : Prop := fnExactUseAfterRow.holds Tryz.pinned (OpenSpec.ofChange fnExactUseAfterSpec)

/-- ITS FALSE NEIGHBOUR: 'it returns false'. Refute it at one input. -/
def fnExactUseAfterWrong : ChangeSpec := { name := "fnExactUseAfter", fn := fun _ => fun
  | [d1, d2, d3] => { results := [.lit (.bool false)], args := [d1, d2, d3] }
  | _ => none }
def FnExactUseAfterWrongFalsely : Prop := fnExactUseAfterRow.holds Tryz.pinned (OpenSpec.ofChange fnExactUseAfterWrong)

/-- 'laws.FnExactWitnessOf': WHATEVER THE INPUT: true; the input reads as it did. -/
def fnExactWitnessOfSpec : ChangeSpec := { name := "fnExactWitnessOf", fn := fun _ => fun
  | [d1, d2] => { results := [.lit (.bool true)], args := [d1, d2] }
  | _ => none }
def fnExactWitnessOfRow : OpenClaim := { program := "ytedkkphogeealaagreatdoor", sum := "5c4434896ec55a416dc8217ef45998e219720ea686f4e910770fda284ce7527d", func := "loop.example/borrowcheck/laws.FnExactWitnessOf", spec := "fnExactWitnessOf", unfollowed := true, recurses := true, named := ["math/bits.deBruijn64tab"], loops := true, apart := false, laid := [("math/bits.deBruijn64tab", laid_math_bits_deBruijn64tab)] }
def FnExactWitnessOfSaid : Prop := fnExactWitnessOfRow.holds Tryz.pinned (OpenSpec.ofChange fnExactWitnessOfSpec)

/-- ITS FALSE NEIGHBOUR: 'it returns false'. Refute it at one input. -/
def fnExactWitnessOfWrong : ChangeSpec := { name := "fnExactWitnessOf", fn := fun _ => fun
  | [d1, d2] => { results := [.lit (.bool false)], args := [d1, d2] }
  | _ => none }
def FnExactWitnessOfWrongFalsely : Prop := fnExactWitnessOfRow.holds Tryz.pinned (OpenSpec.ofChange fnExactWitnessOfWrong)

/- THE SECOND FORM. 'bulk': how many values and letters a reading holds, each counted each time it is reached (what is shared counts as often as it is met; a slice's spare places count too). A statement '..UptoSaid' is the law's where the arguments, and the package variables that the reading takes, are together of bulk at most 1048576: NARROWER than '..Said'. Prove '..Said' where nothing that the law and all that it calls make is longer than what came in: it says more and counts as full. Else prove '..UptoSaid'. A law counts once. -/
mutual
def uptoBulk {H : Type} : DataW H → Nat
  | .lit (.string bytes) => bytes.length + 1
  | .lit _ => 1
  | .nil => 1
  | .ptr d => uptoBulk d + 1
  | .slice elems spare => uptoBulkAll elems + uptoBulkAll spare + 1
  | .agg parts => uptoBulkAll parts + 1
  | .iface _ d => uptoBulk d + 1
  | .map entries => uptoBulkEntries entries + 1
  | .held _ => 1
def uptoBulkAll {H : Type} : List (DataW H) → Nat
  | [] => 0
  | d :: r => uptoBulk d + uptoBulkAll r
def uptoBulkEntries {H : Type} : List (Lit × DataW H) → Nat
  | [] => 0
  | x :: r => uptoBulkEntry x + uptoBulkEntries r
def uptoBulkEntry {H : Type} : Lit × DataW H → Nat
  | (.string bytes, d) => bytes.length + uptoBulk d + 1
  | (_, d) => uptoBulk d + 1
 end
def uptoSmall : (H : Type) → List (DataW H) → Bool := fun _ ds => decide (uptoBulkAll ds ≤ 1048576)
def OpenSpec.upto (s : _root_.Go.ChangeSpec) : _root_.Go.OpenSpec := { _root_.Go.OpenSpec.ofChange s with cond := some uptoSmall }

/-- 'laws.FnExactAccepts', WHERE WHAT IT READS IS OF BULK AT MOST 1048576: true; the input reads as it did. -/
def fnExactAcceptsUptoRow : OpenClaim := { program := "ytedkkphogeealaagreatdoor", sum := "5c4434896ec55a416dc8217ef45998e219720ea686f4e910770fda284ce7527d", func := "loop.example/borrowcheck/laws.FnExactAccepts", spec := "fnExactAccepts", unfollowed := true, recurses := true, named := ["math/bits.deBruijn64tab"], loops := true, apart := false, laid := [("math/bits.deBruijn64tab", laid_math_bits_deBruijn64tab)], narrowed := true }
def FnExactAcceptsUptoSaid : Prop := fnExactAcceptsUptoRow.holds Tryz.pinned (OpenSpec.upto fnExactAcceptsSpec)

/-- 'laws.FnExactFirstIssue', WHERE WHAT IT READS IS OF BULK AT MOST 1048576: true; the input reads as it did. -/
def fnExactFirstIssueUptoRow : OpenClaim := { program := "ytedkkphogeealaagreatdoor", sum := "5c4434896ec55a416dc8217ef45998e219720ea686f4e910770fda284ce7527d", func := "loop.example/borrowcheck/laws.FnExactFirstIssue", spec := "fnExactFirstIssue", unfollowed := true, recurses := true, named := ["math/bits.deBruijn64tab"], loops := true, apart := false, laid := [("math/bits.deBruijn64tab", laid_math_bits_deBruijn64tab)], narrowed := true }
def FnExactFirstIssueUptoSaid : Prop := fnExactFirstIssueUptoRow.holds Tryz.pinned (OpenSpec.upto fnExactFirstIssueSpec)

/-- 'laws.FnExactCheckProgram', WHERE WHAT IT READS IS OF BULK AT MOST 1048576: true; the input reads as it did. -/
def fnExactCheckProgramUptoRow : OpenClaim := { program := "ytedkkphogeealaagreatdoor", sum := "5c4434896ec55a416dc8217ef45998e219720ea686f4e910770fda284ce7527d", func := "loop.example/borrowcheck/laws.FnExactCheckProgram", spec := "fnExactCheckProgram", unfollowed := true, recurses := true, named := ["math/bits.deBruijn64tab"], loops := true, apart := false, laid := [("math/bits.deBruijn64tab", laid_math_bits_deBruijn64tab)], narrowed := true }
def FnExactCheckProgramUptoSaid : Prop := fnExactCheckProgramUptoRow.holds Tryz.pinned (OpenSpec.upto fnExactCheckProgramSpec)

/-- 'laws.FnExactCheckPlain', WHERE WHAT IT READS IS OF BULK AT MOST 1048576: true; the input reads as it did. -/
def fnExactCheckPlainUptoRow : OpenClaim := { program := "ytedkkphogeealaagreatdoor", sum := "5c4434896ec55a416dc8217ef45998e219720ea686f4e910770fda284ce7527d", func := "loop.example/borrowcheck/laws.FnExactCheckPlain", spec := "fnExactCheckPlain", unfollowed := true, recurses := true, named := ["math/bits.deBruijn64tab"], loops := true, apart := false, laid := [("math/bits.deBruijn64tab", laid_math_bits_deBruijn64tab)], narrowed := true }
def FnExactCheckPlainUptoSaid : Prop := fnExactCheckPlainUptoRow.holds Tryz.pinned (OpenSpec.upto fnExactCheckPlainSpec)

/-- 'laws.FnExactUseAfter', WHERE WHAT IT READS IS OF BULK AT MOST 1048576: true; the input reads as it did. -/
def fnExactUseAfterUptoRow : OpenClaim := { program := "ytedkkphogeealaagreatdoor", sum := "5c4434896ec55a416dc8217ef45998e219720ea686f4e910770fda284ce7527d", func := "loop.example/borrowcheck/laws.FnExactUseAfter", spec := "fnExactUseAfter", unfollowed := true, recurses := true, named := ["math/bits.deBruijn64tab"], loops := true, apart := false, laid := [("math/bits.deBruijn64tab", laid_math_bits_deBruijn64tab)], narrowed := true }
def FnExactUseAfterUptoSaid : Prop := fnExactUseAfterUptoRow.holds Tryz.pinned (OpenSpec.upto fnExactUseAfterSpec)

/-- 'laws.FnExactWitnessOf', WHERE WHAT IT READS IS OF BULK AT MOST 1048576: true; the input reads as it did. -/
def fnExactWitnessOfUptoRow : OpenClaim := { program := "ytedkkphogeealaagreatdoor", sum := "5c4434896ec55a416dc8217ef45998e219720ea686f4e910770fda284ce7527d", func := "loop.example/borrowcheck/laws.FnExactWitnessOf", spec := "fnExactWitnessOf", unfollowed := true, recurses := true, named := ["math/bits.deBruijn64tab"], loops := true, apart := false, laid := [("math/bits.deBruijn64tab", laid_math_bits_deBruijn64tab)], narrowed := true }
def FnExactWitnessOfUptoSaid : Prop := fnExactWitnessOfUptoRow.holds Tryz.pinned (OpenSpec.upto fnExactWitnessOfSpec)

end Rows
end Go.Proofs.YtedkkphogeealaaGreatDoor
