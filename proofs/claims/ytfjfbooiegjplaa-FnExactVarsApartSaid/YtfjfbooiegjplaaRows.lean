/-
  NARROWER THAN 'FOR EVERY INPUT', by the rows' own cells (each row's printed sentence says how): FnExactVarsOf: loops · FnExactVarsApart: loops · FnExactProgramSame: loops.
  DERIVED. THE GIVEN ROWS OF THIS SEAT. 6 by the template 'for every input the law returns true; each argument reads behind the call as it read before'; 0 by the template 'total and deterministic' (their statements: YtfjfbooiegjplaaTotals.lean).
  GIVEN WITH THE SEED: the statements are not yours to turn. If you find one false, say at which input.
  Laid BY PROGRAM, IN A SANDBOX (cutbox-rows.mjs): the forced cells as the released guide's own fill.sh prints them over the translation ef4539934b16ef66… (all of the seat's roots in one cut). By AI agents, Wed Nov 11 2026. No macro, syntax, notation, axiom, sorry.
-/
import Derived.Test.YtfjfbooiegjplaaChecked
import GoSem.Claim
import GoSem.ClaimJoined
import GoSem.ClaimMapViews
import Derived.JoinedTies
import Derived.KernelRfl
namespace Go.Proofs.Ytfjfbooiegjplaa
/- THE CELL 'sum', in the pinned program and in every row, IS THE sha256 OF THE DUMP (.gsa) THAT YtfjfbooiegjplaaProg.lean LOADS. Nothing in Lean hashes anything: it is a label: what it is worth is what the hold of that sum in a sandbox is worth. -/
noncomputable def Try.pinned : Pinned := { name := "ytfjfbooiegjplaa", sum := "ef4539934b16ef66d86db825e30b581fd48444b9e113f2936307caf425d5a36c", checked := Try.checked }
namespace Rows
def none {H : Type} : Left H := { results := [], args := [] }

/-- 'laws.FnExactVarsOf': WHATEVER THE INPUT: true; the input reads as it did. -/
def fnExactVarsOfSpec : ChangeSpec := { name := "fnExactVarsOf", fn := fun _ => fun
  | [d] => { results := [.lit (.bool true)], args := [d] }
  | _ => none }
def fnExactVarsOfRow : OpenClaim := { program := "ytfjfbooiegjplaa", sum := "ef4539934b16ef66d86db825e30b581fd48444b9e113f2936307caf425d5a36c", func := "loop.example/borrowcheck/laws.FnExactVarsOf", spec := "fnExactVarsOf", unfollowed := true, recurses := true, loops := true, plainKeys := false, apart := false }
def FnExactVarsOfSaid : Prop := fnExactVarsOfRow.holds Try.pinned (OpenSpec.ofChange fnExactVarsOfSpec)

/-- ITS FALSE NEIGHBOUR: 'it returns false'. Refute it at one input. -/
def fnExactVarsOfWrong : ChangeSpec := { name := "fnExactVarsOf", fn := fun _ => fun
  | [d] => { results := [.lit (.bool false)], args := [d] }
  | _ => none }
def FnExactVarsOfWrongFalsely : Prop := fnExactVarsOfRow.holds Try.pinned (OpenSpec.ofChange fnExactVarsOfWrong)

/-- 'laws.FnExactVarsApart': WHATEVER THE INPUT: true; the input reads as it did. -/
def fnExactVarsApartSpec : ChangeSpec := { name := "fnExactVarsApart", fn := fun _ => fun
  | [d1, d2] => { results := [.lit (.bool true)], args := [d1, d2] }
  | _ => none }
def fnExactVarsApartRow : OpenClaim := { program := "ytfjfbooiegjplaa", sum := "ef4539934b16ef66d86db825e30b581fd48444b9e113f2936307caf425d5a36c", func := "loop.example/borrowcheck/laws.FnExactVarsApart", spec := "fnExactVarsApart", unfollowed := true, recurses := true, loops := true, plainKeys := false, apart := false }
def FnExactVarsApartSaid : Prop := fnExactVarsApartRow.holds Try.pinned (OpenSpec.ofChange fnExactVarsApartSpec)

/-- ITS FALSE NEIGHBOUR: 'it returns false'. Refute it at one input. -/
def fnExactVarsApartWrong : ChangeSpec := { name := "fnExactVarsApart", fn := fun _ => fun
  | [d1, d2] => { results := [.lit (.bool false)], args := [d1, d2] }
  | _ => none }
def FnExactVarsApartWrongFalsely : Prop := fnExactVarsApartRow.holds Try.pinned (OpenSpec.ofChange fnExactVarsApartWrong)

/-- 'laws.FnVarsApart': WHATEVER THE INPUT: true; the input reads as it did. -/
def fnVarsApartSpec : ChangeSpec := { name := "fnVarsApart", fn := fun _ => fun
  | [d] => { results := [.lit (.bool true)], args := [d] }
  | _ => none }
def fnVarsApartRow : OpenClaim := { program := "ytfjfbooiegjplaa", sum := "ef4539934b16ef66d86db825e30b581fd48444b9e113f2936307caf425d5a36c", func := "loop.example/borrowcheck/laws.FnVarsApart", spec := "fnVarsApart", unfollowed := true, recurses := true, plainKeys := false, apart := false }
def FnVarsApartSaid : Prop := fnVarsApartRow.holds Try.pinned (OpenSpec.ofChange fnVarsApartSpec)

/-- ITS FALSE NEIGHBOUR: 'it returns false'. Refute it at one input. -/
def fnVarsApartWrong : ChangeSpec := { name := "fnVarsApart", fn := fun _ => fun
  | [d] => { results := [.lit (.bool false)], args := [d] }
  | _ => none }
def FnVarsApartWrongFalsely : Prop := fnVarsApartRow.holds Try.pinned (OpenSpec.ofChange fnVarsApartWrong)

/-- 'laws.FnVarsOf': WHATEVER THE INPUT: true; the input reads as it did. -/
def fnVarsOfSpec : ChangeSpec := { name := "fnVarsOf", fn := fun _ => fun
  | [d1, d2] => { results := [.lit (.bool true)], args := [d1, d2] }
  | _ => none }
def fnVarsOfRow : OpenClaim := { program := "ytfjfbooiegjplaa", sum := "ef4539934b16ef66d86db825e30b581fd48444b9e113f2936307caf425d5a36c", func := "loop.example/borrowcheck/laws.FnVarsOf", spec := "fnVarsOf", unfollowed := true, recurses := true, plainKeys := false, apart := false }
def FnVarsOfSaid : Prop := fnVarsOfRow.holds Try.pinned (OpenSpec.ofChange fnVarsOfSpec)

/-- ITS FALSE NEIGHBOUR: 'it returns false'. Refute it at one input. -/
def fnVarsOfWrong : ChangeSpec := { name := "fnVarsOf", fn := fun _ => fun
  | [d1, d2] => { results := [.lit (.bool false)], args := [d1, d2] }
  | _ => none }
def FnVarsOfWrongFalsely : Prop := fnVarsOfRow.holds Try.pinned (OpenSpec.ofChange fnVarsOfWrong)

/-- 'laws.FnVarsParts': WHATEVER THE INPUT: true; the input reads as it did. -/
def fnVarsPartsSpec : ChangeSpec := { name := "fnVarsParts", fn := fun _ => fun
  | [d] => { results := [.lit (.bool true)], args := [d] }
  | _ => none }
def fnVarsPartsRow : OpenClaim := { program := "ytfjfbooiegjplaa", sum := "ef4539934b16ef66d86db825e30b581fd48444b9e113f2936307caf425d5a36c", func := "loop.example/borrowcheck/laws.FnVarsParts", spec := "fnVarsParts", unfollowed := true, recurses := true, plainKeys := false, apart := false }
def FnVarsPartsSaid : Prop := fnVarsPartsRow.holds Try.pinned (OpenSpec.ofChange fnVarsPartsSpec)

/-- ITS FALSE NEIGHBOUR: 'it returns false'. Refute it at one input. -/
def fnVarsPartsWrong : ChangeSpec := { name := "fnVarsParts", fn := fun _ => fun
  | [d] => { results := [.lit (.bool false)], args := [d] }
  | _ => none }
def FnVarsPartsWrongFalsely : Prop := fnVarsPartsRow.holds Try.pinned (OpenSpec.ofChange fnVarsPartsWrong)

/-- 'laws.FnExactProgramSame': WHATEVER THE INPUT: true; the input reads as it did. -/
def fnExactProgramSameSpec : ChangeSpec := { name := "fnExactProgramSame", fn := fun _ => fun
  | [d1, d2] => { results := [.lit (.bool true)], args := [d1, d2] }
  | _ => none }
def fnExactProgramSameRow : OpenClaim := { program := "ytfjfbooiegjplaa", sum := "ef4539934b16ef66d86db825e30b581fd48444b9e113f2936307caf425d5a36c", func := "loop.example/borrowcheck/laws.FnExactProgramSame", spec := "fnExactProgramSame", recurses := true, loops := true, plainKeys := false, apart := false }
def FnExactProgramSameSaid : Prop := fnExactProgramSameRow.holds Try.pinned (OpenSpec.ofChange fnExactProgramSameSpec)

/-- ITS FALSE NEIGHBOUR: 'it returns false'. Refute it at one input. -/
def fnExactProgramSameWrong : ChangeSpec := { name := "fnExactProgramSame", fn := fun _ => fun
  | [d1, d2] => { results := [.lit (.bool false)], args := [d1, d2] }
  | _ => none }
def FnExactProgramSameWrongFalsely : Prop := fnExactProgramSameRow.holds Try.pinned (OpenSpec.ofChange fnExactProgramSameWrong)

/- THE SECOND FORM. 'bulk': how many values and letters a reading holds, each counted each time it is reached (what is shared counts as often as it is met; a slice's spare places count too). A statement '..UptoSaid' is the law's where the arguments, and the package variables that the reading takes, are together of bulk at most 1048576: NARROWER than '..Said'. Prove '..Said' where nothing that the law and all that it calls make is longer than what came in: it says more and counts as full. Else prove '..UptoSaid'. A law counts once. -/
mutual
def uptoBulk {H : Type} : DataW H → Nat
  | .lit (.string bytes) => bytes.length + 1
  | .lit _ => 1
  | .nil => 1
  | .ptr d => uptoBulk d + 1
  | .slice elems spare => uptoBulkAll elems + uptoBulkAll spare + 1
  | .agg parts => uptoBulkAll parts + 1
  | .iface _ d => uptoBulk d + 1
  | .map entries => uptoBulkEntries entries + 1
  | .held _ => 1
def uptoBulkAll {H : Type} : List (DataW H) → Nat
  | [] => 0
  | d :: r => uptoBulk d + uptoBulkAll r
def uptoBulkEntries {H : Type} : List (Lit × DataW H) → Nat
  | [] => 0
  | x :: r => uptoBulkEntry x + uptoBulkEntries r
def uptoBulkEntry {H : Type} : Lit × DataW H → Nat
  | (.string bytes, d) => bytes.length + uptoBulk d + 1
  | (_, d) => uptoBulk d + 1
 end
def uptoSmall : (H : Type) → List (DataW H) → Bool := fun _ ds => decide (uptoBulkAll ds ≤ 1048576)
def OpenSpec.upto (s : _root_.Go.ChangeSpec) : _root_.Go.OpenSpec := { _root_.Go.OpenSpec.ofChange s with cond := some uptoSmall }

/-- 'laws.FnExactVarsOf', WHERE WHAT IT READS IS OF BULK AT MOST 1048576: true; the input reads as it did. -/
def fnExactVarsOfUptoRow : OpenClaim := { program := "ytfjfbooiegjplaa", sum := "ef4539934b16ef66d86db825e30b581fd48444b9e113f2936307caf425d5a36c", func := "loop.example/borrowcheck/laws.FnExactVarsOf", spec := "fnExactVarsOf", unfollowed := true, recurses := true, loops := true, plainKeys := false, apart := false, narrowed := true }
def FnExactVarsOfUptoSaid : Prop := fnExactVarsOfUptoRow.holds Try.pinned (OpenSpec.upto fnExactVarsOfSpec)

/-- 'laws.FnExactVarsApart', WHERE WHAT IT READS IS OF BULK AT MOST 1048576: true; the input reads as it did. -/
def fnExactVarsApartUptoRow : OpenClaim := { program := "ytfjfbooiegjplaa", sum := "ef4539934b16ef66d86db825e30b581fd48444b9e113f2936307caf425d5a36c", func := "loop.example/borrowcheck/laws.FnExactVarsApart", spec := "fnExactVarsApart", unfollowed := true, recurses := true, loops := true, plainKeys := false, apart := false, narrowed := true }
def FnExactVarsApartUptoSaid : Prop := fnExactVarsApartUptoRow.holds Try.pinned (OpenSpec.upto fnExactVarsApartSpec)

/-- 'laws.FnVarsApart', WHERE WHAT IT READS IS OF BULK AT MOST 1048576: true; the input reads as it did. -/
def fnVarsApartUptoRow : OpenClaim := { program := "ytfjfbooiegjplaa", sum := "ef4539934b16ef66d86db825e30b581fd48444b9e113f2936307caf425d5a36c", func := "loop.example/borrowcheck/laws.FnVarsApart", spec := "fnVarsApart", unfollowed := true, recurses := true, plainKeys := false, apart := false, narrowed := true }
def FnVarsApartUptoSaid : Prop := fnVarsApartUptoRow.holds Try.pinned (OpenSpec.upto fnVarsApartSpec)

/-- 'laws.FnVarsOf', WHERE WHAT IT READS IS OF BULK AT MOST 1048576: true; the input reads as it did. -/
def fnVarsOfUptoRow : OpenClaim := { program := "ytfjfbooiegjplaa", sum := "ef4539934b16ef66d86db825e30b581fd48444b9e113f2936307caf425d5a36c", func := "loop.example/borrowcheck/laws.FnVarsOf", spec := "fnVarsOf", unfollowed := true, recurses := true, plainKeys := false, apart := false, narrowed := true }
def FnVarsOfUptoSaid : Prop := fnVarsOfUptoRow.holds Try.pinned (OpenSpec.upto fnVarsOfSpec)

/-- 'laws.FnVarsParts', WHERE WHAT IT READS IS OF BULK AT MOST 1048576: true; the input reads as it did. -/
def fnVarsPartsUptoRow : OpenClaim := { program := "ytfjfbooiegjplaa", sum := "ef4539934b16ef66d86db825e30b581fd48444b9e113f2936307caf425d5a36c", func := "loop.example/borrowcheck/laws.FnVarsParts", spec := "fnVarsParts", unfollowed := true, recurses := true, plainKeys := false, apart := false, narrowed := true }
def FnVarsPartsUptoSaid : Prop := fnVarsPartsUptoRow.holds Try.pinned (OpenSpec.upto fnVarsPartsSpec)

/-- 'laws.FnExactProgramSame', WHERE WHAT IT READS IS OF BULK AT MOST 1048576: true; the input reads as it did. -/
def fnExactProgramSameUptoRow : OpenClaim := { program := "ytfjfbooiegjplaa", sum := "ef4539934b16ef66d86db825e30b581fd48444b9e113f2936307caf425d5a36c", func := "loop.example/borrowcheck/laws.FnExactProgramSame", spec := "fnExactProgramSame", recurses := true, loops := true, plainKeys := false, apart := false, narrowed := true }
def FnExactProgramSameUptoSaid : Prop := fnExactProgramSameUptoRow.holds Try.pinned (OpenSpec.upto fnExactProgramSameSpec)

end Rows
end Go.Proofs.Ytfjfbooiegjplaa
