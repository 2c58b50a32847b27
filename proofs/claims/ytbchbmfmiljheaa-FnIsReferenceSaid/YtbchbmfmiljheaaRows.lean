/-
  NARROWER THAN 'FOR EVERY INPUT', by the rows' own cells (each row's printed sentence says how): FnExactStmtValid: loops · FnExactProgramValid: loops · FnExactProgramSame: loops · FnExactFormatProgram: loops · FnExactCountStmts: loops · FnExactVarsOf: loops.
  DERIVED. THE GIVEN ROWS OF THIS SEAT. 12 by the template 'for every input the law returns true; each argument reads behind the call as it read before'; 0 by the template 'total and deterministic' (their statements: YtbchbmfmiljheaaTotals.lean).
  GIVEN WITH THE SEED: the statements are not yours to turn. If you find one false, say at which input.
  Laid BY PROGRAM, IN A SANDBOX (cutbox-rows.mjs): the forced cells as the released guide's own fill.sh prints them over the translation 3f95da834f518b21… (all of the seat's roots in one cut). By AI agents, Wed Nov 11 2026. No macro, syntax, notation, axiom, sorry.
-/
import Derived.Test.YtbchbmfmiljheaaChecked
import GoSem.Claim
import GoSem.ClaimJoined
import GoSem.ClaimMapViews
import Derived.JoinedTies
import Derived.KernelRfl
namespace Go.Proofs.Ytbchbmfmiljheaa
/- THE CELL 'sum', in the pinned program and in every row, IS THE sha256 OF THE DUMP (.gsa) THAT YtbchbmfmiljheaaProg.lean LOADS. Nothing in Lean hashes anything: it is a label: what it is worth is what the hold of that sum in a sandbox is worth. -/
noncomputable def Try.pinned : Pinned := { name := "ytbchbmfmiljheaa", sum := "3f95da834f518b210aaad3c2bb0c9f5f1c0950d0e019197bb7dcf7c0a0379558", checked := Try.checked }
namespace Rows
def none {H : Type} : Left H := { results := [], args := [] }

/-- 'laws.FnVarsOf': WHATEVER THE INPUT: true; the input reads as it did. -/
def fnVarsOfSpec : ChangeSpec := { name := "fnVarsOf", fn := fun _ => fun
  | [d1, d2] => { results := [.lit (.bool true)], args := [d1, d2] }
  | _ => none }
def fnVarsOfRow : OpenClaim := { program := "ytbchbmfmiljheaa", sum := "3f95da834f518b210aaad3c2bb0c9f5f1c0950d0e019197bb7dcf7c0a0379558", func := "loop.example/borrowcheck/laws.FnVarsOf", spec := "fnVarsOf", unfollowed := true, recurses := true, plainKeys := false, apart := false }
def FnVarsOfSaid : Prop := fnVarsOfRow.holds Try.pinned (OpenSpec.ofChange fnVarsOfSpec)

/-- ITS FALSE NEIGHBOUR: 'it returns false'. Refute it at one input. -/
def fnVarsOfWrong : ChangeSpec := { name := "fnVarsOf", fn := fun _ => fun
  | [d1, d2] => { results := [.lit (.bool false)], args := [d1, d2] }
  | _ => none }
def FnVarsOfWrongFalsely : Prop := fnVarsOfRow.holds Try.pinned (OpenSpec.ofChange fnVarsOfWrong)

/-- 'laws.FnIsReference': WHATEVER THE INPUT: true; the input reads as it did. -/
def fnIsReferenceSpec : ChangeSpec := { name := "fnIsReference", fn := fun _ => fun
  | [d] => { results := [.lit (.bool true)], args := [d] }
  | _ => none }
def fnIsReferenceRow : OpenClaim := { program := "ytbchbmfmiljheaa", sum := "3f95da834f518b210aaad3c2bb0c9f5f1c0950d0e019197bb7dcf7c0a0379558", func := "loop.example/borrowcheck/laws.FnIsReference", spec := "fnIsReference", unfollowed := true, recurses := true, plainKeys := false, apart := false }
def FnIsReferenceSaid : Prop := fnIsReferenceRow.holds Try.pinned (OpenSpec.ofChange fnIsReferenceSpec)

/-- ITS FALSE NEIGHBOUR: 'it returns false'. Refute it at one input. -/
def fnIsReferenceWrong : ChangeSpec := { name := "fnIsReference", fn := fun _ => fun
  | [d] => { results := [.lit (.bool false)], args := [d] }
  | _ => none }
def FnIsReferenceWrongFalsely : Prop := fnIsReferenceRow.holds Try.pinned (OpenSpec.ofChange fnIsReferenceWrong)

/-- 'laws.FnStmtWide': WHATEVER THE INPUT: true; the input reads as it did. -/
def fnStmtWideSpec : ChangeSpec := { name := "fnStmtWide", fn := fun _ => fun
  | [d] => { results := [.lit (.bool true)], args := [d] }
  | _ => none }
def fnStmtWideRow : OpenClaim := { program := "ytbchbmfmiljheaa", sum := "3f95da834f518b210aaad3c2bb0c9f5f1c0950d0e019197bb7dcf7c0a0379558", func := "loop.example/borrowcheck/laws.FnStmtWide", spec := "fnStmtWide", unfollowed := true, recurses := true, plainKeys := false, apart := false }
def FnStmtWideSaid : Prop := fnStmtWideRow.holds Try.pinned (OpenSpec.ofChange fnStmtWideSpec)

/-- ITS FALSE NEIGHBOUR: 'it returns false'. Refute it at one input. -/
def fnStmtWideWrong : ChangeSpec := { name := "fnStmtWide", fn := fun _ => fun
  | [d] => { results := [.lit (.bool false)], args := [d] }
  | _ => none }
def FnStmtWideWrongFalsely : Prop := fnStmtWideRow.holds Try.pinned (OpenSpec.ofChange fnStmtWideWrong)

/-- 'laws.FnVarsParts': WHATEVER THE INPUT: true; the input reads as it did. -/
def fnVarsPartsSpec : ChangeSpec := { name := "fnVarsParts", fn := fun _ => fun
  | [d] => { results := [.lit (.bool true)], args := [d] }
  | _ => none }
def fnVarsPartsRow : OpenClaim := { program := "ytbchbmfmiljheaa", sum := "3f95da834f518b210aaad3c2bb0c9f5f1c0950d0e019197bb7dcf7c0a0379558", func := "loop.example/borrowcheck/laws.FnVarsParts", spec := "fnVarsParts", unfollowed := true, recurses := true, plainKeys := false, apart := false }
def FnVarsPartsSaid : Prop := fnVarsPartsRow.holds Try.pinned (OpenSpec.ofChange fnVarsPartsSpec)

/-- ITS FALSE NEIGHBOUR: 'it returns false'. Refute it at one input. -/
def fnVarsPartsWrong : ChangeSpec := { name := "fnVarsParts", fn := fun _ => fun
  | [d] => { results := [.lit (.bool false)], args := [d] }
  | _ => none }
def FnVarsPartsWrongFalsely : Prop := fnVarsPartsRow.holds Try.pinned (OpenSpec.ofChange fnVarsPartsWrong)

/-- 'laws.FnExactStmtValid': WHATEVER THE INPUT: true; the input reads as it did. -/
def fnExactStmtValidSpec : ChangeSpec := { name := "fnExactStmtValid", fn := fun _ => fun
  | [d1, d2] => { results := [.lit (.bool true)], args := [d1, d2] }
  | _ => none }
def fnExactStmtValidRow : OpenClaim := { program := "ytbchbmfmiljheaa", sum := "3f95da834f518b210aaad3c2bb0c9f5f1c0950d0e019197bb7dcf7c0a0379558", func := "loop.example/borrowcheck/laws.FnExactStmtValid", spec := "fnExactStmtValid", unfollowed := true, recurses := true, loops := true, plainKeys := false, apart := false }
def FnExactStmtValidSaid : Prop := fnExactStmtValidRow.holds Try.pinned (OpenSpec.ofChange fnExactStmtValidSpec)

/-- ITS FALSE NEIGHBOUR: 'it returns false'. Refute it at one input. -/
def fnExactStmtValidWrong : ChangeSpec := { name := "fnExactStmtValid", fn := fun _ => fun
  | [d1, d2] => { results := [.lit (.bool false)], args := [d1, d2] }
  | _ => none }
def FnExactStmtValidWrongFalsely : Prop := fnExactStmtValidRow.holds Try.pinned (OpenSpec.ofChange fnExactStmtValidWrong)

/-- 'laws.FnExactProgramValid': WHATEVER THE INPUT: true; the input reads as it did. -/
def fnExactProgramValidSpec : ChangeSpec := { name := "fnExactProgramValid", fn := fun _ => fun
  | [d] => { results := [.lit (.bool true)], args := [d] }
  | _ => none }
def fnExactProgramValidRow : OpenClaim := { program := "ytbchbmfmiljheaa", sum := "3f95da834f518b210aaad3c2bb0c9f5f1c0950d0e019197bb7dcf7c0a0379558", func := "loop.example/borrowcheck/laws.FnExactProgramValid", spec := "fnExactProgramValid", unfollowed := true, recurses := true, loops := true, plainKeys := false, apart := false }
def FnExactProgramValidSaid : Prop := fnExactProgramValidRow.holds Try.pinned (OpenSpec.ofChange fnExactProgramValidSpec)

/-- ITS FALSE NEIGHBOUR: 'it returns false'. Refute it at one input. -/
def fnExactProgramValidWrong : ChangeSpec := { name := "fnExactProgramValid", fn := fun _ => fun
  | [d] => { results := [.lit (.bool false)], args := [d] }
  | _ => none }
def FnExactProgramValidWrongFalsely : Prop := fnExactProgramValidRow.holds Try.pinned (OpenSpec.ofChange fnExactProgramValidWrong)

/-- 'laws.FnExactProgramSame': WHATEVER THE INPUT: true; the input reads as it did. -/
def fnExactProgramSameSpec : ChangeSpec := { name := "fnExactProgramSame", fn := fun _ => fun
  | [d1, d2] => { results := [.lit (.bool true)], args := [d1, d2] }
  | _ => none }
def fnExactProgramSameRow : OpenClaim := { program := "ytbchbmfmiljheaa", sum := "3f95da834f518b210aaad3c2bb0c9f5f1c0950d0e019197bb7dcf7c0a0379558", func := "loop.example/borrowcheck/laws.FnExactProgramSame", spec := "fnExactProgramSame", recurses := true, loops := true, plainKeys := false, apart := false }
def FnExactProgramSameSaid : Prop := fnExactProgramSameRow.holds Try.pinned (OpenSpec.ofChange fnExactProgramSameSpec)

/-- ITS FALSE NEIGHBOUR: 'it returns false'. Refute it at one input. -/
def fnExactProgramSameWrong : ChangeSpec := { name := "fnExactProgramSame", fn := fun _ => fun
  | [d1, d2] => { results := [.lit (.bool false)], args := [d1, d2] }
  | _ => none }
def FnExactProgramSameWrongFalsely : Prop := fnExactProgramSameRow.holds Try.pinned (OpenSpec.ofChange fnExactProgramSameWrong)

/-- 'laws.FnExactFormatProgram': WHATEVER THE INPUT: true; the input reads as it did. -/
def fnExactFormatProgramSpec : ChangeSpec := { name := "fnExactFormatProgram", fn := fun _ => fun
  | [d] => { results := [.lit (.bool true)], args := [d] }
  | _ => none }
def fnExactFormatProgramRow : OpenClaim := { program := "ytbchbmfmiljheaa", sum := "3f95da834f518b210aaad3c2bb0c9f5f1c0950d0e019197bb7dcf7c0a0379558", func := "loop.example/borrowcheck/laws.FnExactFormatProgram", spec := "fnExactFormatProgram", inPlace := ["internal/abi.NoEscape", "internal/bytealg.MakeNoZero"], unfollowed := true, recurses := true, loops := true, plainKeys := false, apart := false }
def FnExactFormatProgramSaid : Prop := fnExactFormatProgramRow.holds Try.pinned (OpenSpec.ofChange fnExactFormatProgramSpec)

/-- ITS FALSE NEIGHBOUR: 'it returns false'. Refute it at one input. -/
def fnExactFormatProgramWrong : ChangeSpec := { name := "fnExactFormatProgram", fn := fun _ => fun
  | [d] => { results := [.lit (.bool false)], args := [d] }
  | _ => none }
def FnExactFormatProgramWrongFalsely : Prop := fnExactFormatProgramRow.holds Try.pinned (OpenSpec.ofChange fnExactFormatProgramWrong)

/-- 'laws.FnExactParseProgram': WHATEVER THE INPUT: true; the input reads as it did. -/
def fnExactParseProgramSpec : ChangeSpec := { name := "fnExactParseProgram", fn := fun _ => fun
  | [d] => { results := [.lit (.bool true)], args := [d] }
  | _ => none }
def fnExactParseProgramRow : OpenClaim := { program := "ytbchbmfmiljheaa", sum := "3f95da834f518b210aaad3c2bb0c9f5f1c0950d0e019197bb7dcf7c0a0379558", func := "loop.example/borrowcheck/laws.FnExactParseProgram", spec := "fnExactParseProgram", inPlace := ["internal/bytealg.IndexByteString", "internal/bytealg.IndexString"], unfollowed := true, recurses := true, named := ["internal/bytealg.MaxLen"], plainKeys := false, apart := false }
def FnExactParseProgramSaid : Prop := fnExactParseProgramRow.holds Try.pinned (OpenSpec.ofChange fnExactParseProgramSpec)

/-- ITS FALSE NEIGHBOUR: 'it returns false'. Refute it at one input. -/
def fnExactParseProgramWrong : ChangeSpec := { name := "fnExactParseProgram", fn := fun _ => fun
  | [d] => { results := [.lit (.bool false)], args := [d] }
  | _ => none }
def FnExactParseProgramWrongFalsely : Prop := fnExactParseProgramRow.holds Try.pinned (OpenSpec.ofChange fnExactParseProgramWrong)

/-- 'laws.FnExactCountStmts': WHATEVER THE INPUT: true; the input reads as it did. -/
def fnExactCountStmtsSpec : ChangeSpec := { name := "fnExactCountStmts", fn := fun _ => fun
  | [d] => { results := [.lit (.bool true)], args := [d] }
  | _ => none }
def fnExactCountStmtsRow : OpenClaim := { program := "ytbchbmfmiljheaa", sum := "3f95da834f518b210aaad3c2bb0c9f5f1c0950d0e019197bb7dcf7c0a0379558", func := "loop.example/borrowcheck/laws.FnExactCountStmts", spec := "fnExactCountStmts", unfollowed := true, recurses := true, loops := true, plainKeys := false, apart := false }
def FnExactCountStmtsSaid : Prop := fnExactCountStmtsRow.holds Try.pinned (OpenSpec.ofChange fnExactCountStmtsSpec)

/-- ITS FALSE NEIGHBOUR: 'it returns false'. Refute it at one input. -/
def fnExactCountStmtsWrong : ChangeSpec := { name := "fnExactCountStmts", fn := fun _ => fun
  | [d] => { results := [.lit (.bool false)], args := [d] }
  | _ => none }
def FnExactCountStmtsWrongFalsely : Prop := fnExactCountStmtsRow.holds Try.pinned (OpenSpec.ofChange fnExactCountStmtsWrong)

/-- 'laws.FnExactVarsOf': WHATEVER THE INPUT: true; the input reads as it did. -/
def fnExactVarsOfSpec : ChangeSpec := { name := "fnExactVarsOf", fn := fun _ => fun
  | [d] => { results := [.lit (.bool true)], args := [d] }
  | _ => none }
def fnExactVarsOfRow : OpenClaim := { program := "ytbchbmfmiljheaa", sum := "3f95da834f518b210aaad3c2bb0c9f5f1c0950d0e019197bb7dcf7c0a0379558", func := "loop.example/borrowcheck/laws.FnExactVarsOf", spec := "fnExactVarsOf", unfollowed := true, recurses := true, loops := true, plainKeys := false, apart := false }
def FnExactVarsOfSaid : Prop := fnExactVarsOfRow.holds Try.pinned (OpenSpec.ofChange fnExactVarsOfSpec)

/-- ITS FALSE NEIGHBOUR: 'it returns false'. Refute it at one input. -/
def fnExactVarsOfWrong : ChangeSpec := { name := "fnExactVarsOf", fn := fun _ => fun
  | [d] => { results := [.lit (.bool false)], args := [d] }
  | _ => none }
def FnExactVarsOfWrongFalsely : Prop := fnExactVarsOfRow.holds Try.pinned (OpenSpec.ofChange fnExactVarsOfWrong)

/-- 'laws.FnExactIsReference': WHATEVER THE INPUT: true; the input reads as it did. -/
def fnExactIsReferenceSpec : ChangeSpec := { name := "fnExactIsReference", fn := fun _ => fun
  | [d] => { results := [.lit (.bool true)], args := [d] }
  | _ => none }
def fnExactIsReferenceRow : OpenClaim := { program := "ytbchbmfmiljheaa", sum := "3f95da834f518b210aaad3c2bb0c9f5f1c0950d0e019197bb7dcf7c0a0379558", func := "loop.example/borrowcheck/laws.FnExactIsReference", spec := "fnExactIsReference", plainKeys := false, apart := false }
def FnExactIsReferenceSaid : Prop := fnExactIsReferenceRow.holds Try.pinned (OpenSpec.ofChange fnExactIsReferenceSpec)

/-- ITS FALSE NEIGHBOUR: 'it returns false'. Refute it at one input. -/
def fnExactIsReferenceWrong : ChangeSpec := { name := "fnExactIsReference", fn := fun _ => fun
  | [d] => { results := [.lit (.bool false)], args := [d] }
  | _ => none }
def FnExactIsReferenceWrongFalsely : Prop := fnExactIsReferenceRow.holds Try.pinned (OpenSpec.ofChange fnExactIsReferenceWrong)

/- THE SECOND FORM. 'bulk': how many values and letters a reading holds, each counted each time it is reached (what is shared counts as often as it is met; a slice's spare places count too). A statement '..UptoSaid' is the law's where the arguments, and the package variables that the reading takes, are together of bulk at most 1048576: NARROWER than '..Said'. Prove '..Said' where nothing that the law and all that it calls make is longer than what came in: it says more and counts as full. Else prove '..UptoSaid'. A law counts once. -/
mutual
def uptoBulk {H : Type} : DataW H → Nat
  | .lit (.string bytes) => bytes.length + 1
  | .lit _ => 1
  | .nil => 1
  | .ptr d => uptoBulk d + 1
  | .slice elems spare => uptoBulkAll elems + uptoBulkAll spare + 1
  | .agg parts => uptoBulkAll parts + 1
  | .iface _ d => uptoBulk d + 1
  | .map entries => uptoBulkEntries entries + 1
  | .held _ => 1
def uptoBulkAll {H : Type} : List (DataW H) → Nat
  | [] => 0
  | d :: r => uptoBulk d + uptoBulkAll r
def uptoBulkEntries {H : Type} : List (Lit × DataW H) → Nat
  | [] => 0
  | x :: r => uptoBulkEntry x + uptoBulkEntries r
def uptoBulkEntry {H : Type} : Lit × DataW H → Nat
  | (.string bytes, d) => bytes.length + uptoBulk d + 1
  | (_, d) => uptoBulk d + 1
 end
def uptoSmall : (H : Type) → List (DataW H) → Bool := fun _ ds => decide (uptoBulkAll ds ≤ 1048576)
def OpenSpec.upto (s : _root_.Go.ChangeSpec) : _root_.Go.OpenSpec := { _root_.Go.OpenSpec.ofChange s with cond := some uptoSmall }

/-- 'laws.FnVarsOf', WHERE WHAT IT READS IS OF BULK AT MOST 1048576: true; the input reads as it did. -/
def fnVarsOfUptoRow : OpenClaim := { program := "ytbchbmfmiljheaa", sum := "3f95da834f518b210aaad3c2bb0c9f5f1c0950d0e019197bb7dcf7c0a0379558", func := "loop.example/borrowcheck/laws.FnVarsOf", spec := "fnVarsOf", unfollowed := true, recurses := true, plainKeys := false, apart := false, narrowed := true }
def FnVarsOfUptoSaid : Prop := fnVarsOfUptoRow.holds Try.pinned (OpenSpec.upto fnVarsOfSpec)

/-- 'laws.FnIsReference', WHERE WHAT IT READS IS OF BULK AT MOST 1048576: true; the input reads as it did. -/
def fnIsReferenceUptoRow : OpenClaim := { program := "ytbchbmfmiljheaa", sum := "3f95da834f518b210aaad3c2bb0c9f5f1c0950d0e019197bb7dcf7c0a0379558", func := "loop.example/borrowcheck/laws.FnIsReference", spec := "fnIsReference", unfollowed := true, recurses := true, plainKeys := false, apart := false, narrowed := true }
def FnIsReferenceUptoSaid : Prop := fnIsReferenceUptoRow.holds Try.pinned (OpenSpec.upto fnIsReferenceSpec)

/-- 'laws.FnStmtWide', WHERE WHAT IT READS IS OF BULK AT MOST 1048576: true; the input reads as it did. -/
def fnStmtWideUptoRow : OpenClaim := { program := "ytbchbmfmiljheaa", sum := "3f95da834f518b210aaad3c2bb0c9f5f1c0950d0e019197bb7dcf7c0a0379558", func := "loop.example/borrowcheck/laws.FnStmtWide", spec := "fnStmtWide", unfollowed := true, recurses := true, plainKeys := false, apart := false, narrowed := true }
def FnStmtWideUptoSaid : Prop := fnStmtWideUptoRow.holds Try.pinned (OpenSpec.upto fnStmtWideSpec)

/-- 'laws.FnVarsParts', WHERE WHAT IT READS IS OF BULK AT MOST 1048576: true; the input reads as it did. -/
def fnVarsPartsUptoRow : OpenClaim := { program := "ytbchbmfmiljheaa", sum := "3f95da834f518b210aaad3c2bb0c9f5f1c0950d0e019197bb7dcf7c0a0379558", func := "loop.example/borrowcheck/laws.FnVarsParts", spec := "fnVarsParts", unfollowed := true, recurses := true, plainKeys := false, apart := false, narrowed := true }
def FnVarsPartsUptoSaid : Prop := fnVarsPartsUptoRow.holds Try.pinned (OpenSpec.upto fnVarsPartsSpec)

/-- 'laws.FnExactStmtValid', WHERE WHAT IT READS IS OF BULK AT MOST 1048576: true; the input reads as it did. -/
def fnExactStmtValidUptoRow : OpenClaim := { program := "ytbchbmfmiljheaa", sum := "3f95da834f518b210aaad3c2bb0c9f5f1c0950d0e019197bb7dcf7c0a0379558", func := "loop.example/borrowcheck/laws.FnExactStmtValid", spec := "fnExactStmtValid", unfollowed := true, recurses := true, loops := true, plainKeys := false, apart := false, narrowed := true }
def FnExactStmtValidUptoSaid : Prop := fnExactStmtValidUptoRow.holds Try.pinned (OpenSpec.upto fnExactStmtValidSpec)

/-- 'laws.FnExactProgramValid', WHERE WHAT IT READS IS OF BULK AT MOST 1048576: true; the input reads as it did. -/
def fnExactProgramValidUptoRow : OpenClaim := { program := "ytbchbmfmiljheaa", sum := "3f95da834f518b210aaad3c2bb0c9f5f1c0950d0e019197bb7dcf7c0a0379558", func := "loop.example/borrowcheck/laws.FnExactProgramValid", spec := "fnExactProgramValid", unfollowed := true, recurses := true, loops := true, plainKeys := false, apart := false, narrowed := true }
def FnExactProgramValidUptoSaid : Prop := fnExactProgramValidUptoRow.holds Try.pinned (OpenSpec.upto fnExactProgramValidSpec)

/-- 'laws.FnExactProgramSame', WHERE WHAT IT READS IS OF BULK AT MOST 1048576: true; the input reads as it did. -/
def fnExactProgramSameUptoRow : OpenClaim := { program := "ytbchbmfmiljheaa", sum := "3f95da834f518b210aaad3c2bb0c9f5f1c0950d0e019197bb7dcf7c0a0379558", func := "loop.example/borrowcheck/laws.FnExactProgramSame", spec := "fnExactProgramSame", recurses := true, loops := true, plainKeys := false, apart := false, narrowed := true }
def FnExactProgramSameUptoSaid : Prop := fnExactProgramSameUptoRow.holds Try.pinned (OpenSpec.upto fnExactProgramSameSpec)

/-- 'laws.FnExactFormatProgram', WHERE WHAT IT READS IS OF BULK AT MOST 1048576: true; the input reads as it did. -/
def fnExactFormatProgramUptoRow : OpenClaim := { program := "ytbchbmfmiljheaa", sum := "3f95da834f518b210aaad3c2bb0c9f5f1c0950d0e019197bb7dcf7c0a0379558", func := "loop.example/borrowcheck/laws.FnExactFormatProgram", spec := "fnExactFormatProgram", inPlace := ["internal/abi.NoEscape", "internal/bytealg.MakeNoZero"], unfollowed := true, recurses := true, loops := true, plainKeys := false, apart := false, narrowed := true }
def FnExactFormatProgramUptoSaid : Prop := fnExactFormatProgramUptoRow.holds Try.pinned (OpenSpec.upto fnExactFormatProgramSpec)

/-- 'laws.FnExactParseProgram', WHERE WHAT IT READS IS OF BULK AT MOST 1048576: true; the input reads as it did. -/
def fnExactParseProgramUptoRow : OpenClaim := { program := "ytbchbmfmiljheaa", sum := "3f95da834f518b210aaad3c2bb0c9f5f1c0950d0e019197bb7dcf7c0a0379558", func := "loop.example/borrowcheck/laws.FnExactParseProgram", spec := "fnExactParseProgram", inPlace := ["internal/bytealg.IndexByteString", "internal/bytealg.IndexString"], unfollowed := true, recurses := true, named := ["internal/bytealg.MaxLen"], plainKeys := false, apart := false, narrowed := true }
def FnExactParseProgramUptoSaid : Prop := fnExactParseProgramUptoRow.holds Try.pinned (OpenSpec.upto fnExactParseProgramSpec)

/-- 'laws.FnExactCountStmts', WHERE WHAT IT READS IS OF BULK AT MOST 1048576: true; the input reads as it did. -/
def fnExactCountStmtsUptoRow : OpenClaim := { program := "ytbchbmfmiljheaa", sum := "3f95da834f518b210aaad3c2bb0c9f5f1c0950d0e019197bb7dcf7c0a0379558", func := "loop.example/borrowcheck/laws.FnExactCountStmts", spec := "fnExactCountStmts", unfollowed := true, recurses := true, loops := true, plainKeys := false, apart := false, narrowed := true }
def FnExactCountStmtsUptoSaid : Prop := fnExactCountStmtsUptoRow.holds Try.pinned (OpenSpec.upto fnExactCountStmtsSpec)

/-- 'laws.FnExactVarsOf', WHERE WHAT IT READS IS OF BULK AT MOST 1048576: true; the input reads as it did. -/
def fnExactVarsOfUptoRow : OpenClaim := { program := "ytbchbmfmiljheaa", sum := "3f95da834f518b210aaad3c2bb0c9f5f1c0950d0e019197bb7dcf7c0a0379558", func := "loop.example/borrowcheck/laws.FnExactVarsOf", spec := "fnExactVarsOf", unfollowed := true, recurses := true, loops := true, plainKeys := false, apart := false, narrowed := true }
def FnExactVarsOfUptoSaid : Prop := fnExactVarsOfUptoRow.holds Try.pinned (OpenSpec.upto fnExactVarsOfSpec)

/-- 'laws.FnExactIsReference', WHERE WHAT IT READS IS OF BULK AT MOST 1048576: true; the input reads as it did. -/
def fnExactIsReferenceUptoRow : OpenClaim := { program := "ytbchbmfmiljheaa", sum := "3f95da834f518b210aaad3c2bb0c9f5f1c0950d0e019197bb7dcf7c0a0379558", func := "loop.example/borrowcheck/laws.FnExactIsReference", spec := "fnExactIsReference", plainKeys := false, apart := false, narrowed := true }
def FnExactIsReferenceUptoSaid : Prop := fnExactIsReferenceUptoRow.holds Try.pinned (OpenSpec.upto fnExactIsReferenceSpec)

end Rows
end Go.Proofs.Ytbchbmfmiljheaa
