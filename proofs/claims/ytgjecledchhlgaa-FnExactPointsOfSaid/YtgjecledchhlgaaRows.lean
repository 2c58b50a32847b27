/-
  NARROWER THAN 'FOR EVERY INPUT', by the rows' own cells (each row's printed sentence says how): FnExactCountChoices: loops · FnExactPointsOf: loops · FnExactRunPath: loops · FnExactFormatProgram: loops · FnExactProgramSame: loops · FnExactVarsOf: loops.
  DERIVED. THE GIVEN ROWS OF THIS SEAT. 9 by the template 'for every input the law returns true; each argument reads behind the call as it read before'; 0 by the template 'total and deterministic' (their statements: YtgjecledchhlgaaTotals.lean).
  GIVEN WITH THE SEED: the statements are not yours to turn. If you find one false, say at which input.
  Laid BY PROGRAM, IN A SANDBOX (cutbox-rows.mjs): the forced cells as the released guide's own fill.sh prints them over the translation b3476c6c5c1f4a43… (all of the seat's roots in one cut). By AI agents, Wed Nov 11 2026. No macro, syntax, notation, axiom, sorry.
-/
import Derived.Test.YtgjecledchhlgaaChecked
import GoSem.Claim
import GoSem.ClaimJoined
import GoSem.ClaimMapViews
import Derived.JoinedTies
import Derived.KernelRfl
namespace Go.Proofs.Ytgjecledchhlgaa
/- THE CELL 'sum', in the pinned program and in every row, IS THE sha256 OF THE DUMP (.gsa) THAT YtgjecledchhlgaaProg.lean LOADS. Nothing in Lean hashes anything: it is a label: what it is worth is what the hold of that sum in a sandbox is worth. -/
noncomputable def Try.pinned : Pinned := { name := "ytgjecledchhlgaa", sum := "b3476c6c5c1f4a43fd23aaf0e20b510cded4af8bcf90153b141ec82d74221d02", checked := Try.checked }
namespace Rows
def none {H : Type} : Left H := { results := [], args := [] }

/-- 'laws.FnExactPointText': WHATEVER THE INPUT: true; the input reads as it did. -/
def fnExactPointTextSpec : ChangeSpec := { name := "fnExactPointText", fn := fun _ => fun
  | [d] => { results := [.lit (.bool true)], args := [d] }
  | _ => none }
def fnExactPointTextRow : OpenClaim := { program := "ytgjecledchhlgaa", sum := "b3476c6c5c1f4a43fd23aaf0e20b510cded4af8bcf90153b141ec82d74221d02", func := "loop.example/borrowcheck/laws.FnExactPointText", spec := "fnExactPointText", unfollowed := true, recurses := true, plainKeys := false, apart := false }
def FnExactPointTextSaid : Prop := fnExactPointTextRow.holds Try.pinned (OpenSpec.ofChange fnExactPointTextSpec)

/-- ITS FALSE NEIGHBOUR: 'it returns false'. Refute it at one input. -/
def fnExactPointTextWrong : ChangeSpec := { name := "fnExactPointText", fn := fun _ => fun
  | [d] => { results := [.lit (.bool false)], args := [d] }
  | _ => none }
def FnExactPointTextWrongFalsely : Prop := fnExactPointTextRow.holds Try.pinned (OpenSpec.ofChange fnExactPointTextWrong)

/-- 'laws.FnExactCountChoices': WHATEVER THE INPUT: true; the input reads as it did. -/
def fnExactCountChoicesSpec : ChangeSpec := { name := "fnExactCountChoices", fn := fun _ => fun
  | [d] => { results := [.lit (.bool true)], args := [d] }
  | _ => none }
def fnExactCountChoicesRow : OpenClaim := { program := "ytgjecledchhlgaa", sum := "b3476c6c5c1f4a43fd23aaf0e20b510cded4af8bcf90153b141ec82d74221d02", func := "loop.example/borrowcheck/laws.FnExactCountChoices", spec := "fnExactCountChoices", unfollowed := true, recurses := true, loops := true, plainKeys := false, apart := false }
def FnExactCountChoicesSaid : Prop := fnExactCountChoicesRow.holds Try.pinned (OpenSpec.ofChange fnExactCountChoicesSpec)

/-- ITS FALSE NEIGHBOUR: 'it returns false'. Refute it at one input. -/
def fnExactCountChoicesWrong : ChangeSpec := { name := "fnExactCountChoices", fn := fun _ => fun
  | [d] => { results := [.lit (.bool false)], args := [d] }
  | _ => none }
def FnExactCountChoicesWrongFalsely : Prop := fnExactCountChoicesRow.holds Try.pinned (OpenSpec.ofChange fnExactCountChoicesWrong)

/-- 'laws.FnExactPointsOf': WHATEVER THE INPUT: true; the input reads as it did. -/
def fnExactPointsOfSpec : ChangeSpec := { name := "fnExactPointsOf", fn := fun _ => fun
  | [d] => { results := [.lit (.bool true)], args := [d] }
  | _ => none }
def fnExactPointsOfRow : OpenClaim := { program := "ytgjecledchhlgaa", sum := "b3476c6c5c1f4a43fd23aaf0e20b510cded4af8bcf90153b141ec82d74221d02", func := "loop.example/borrowcheck/laws.FnExactPointsOf", spec := "fnExactPointsOf", unfollowed := true, recurses := true, loops := true, plainKeys := false, apart := false }
def FnExactPointsOfSaid : Prop := fnExactPointsOfRow.holds Try.pinned (OpenSpec.ofChange fnExactPointsOfSpec)

/-- ITS FALSE NEIGHBOUR: 'it returns false'. Refute it at one input. -/
def fnExactPointsOfWrong : ChangeSpec := { name := "fnExactPointsOf", fn := fun _ => fun
  | [d] => { results := [.lit (.bool false)], args := [d] }
  | _ => none }
def FnExactPointsOfWrongFalsely : Prop := fnExactPointsOfRow.holds Try.pinned (OpenSpec.ofChange fnExactPointsOfWrong)

/-- 'laws.FnExactRunPath': WHATEVER THE INPUT: true; the input reads as it did. -/
def fnExactRunPathSpec : ChangeSpec := { name := "fnExactRunPath", fn := fun _ => fun
  | [d1, d2, d3] => { results := [.lit (.bool true)], args := [d1, d2, d3] }
  | _ => none }
def fnExactRunPathRow : OpenClaim := { program := "ytgjecledchhlgaa", sum := "b3476c6c5c1f4a43fd23aaf0e20b510cded4af8bcf90153b141ec82d74221d02", func := "loop.example/borrowcheck/laws.FnExactRunPath", spec := "fnExactRunPath", unfollowed := true, recurses := true, loops := true, plainKeys := false, apart := false }
def FnExactRunPathSaid : Prop := fnExactRunPathRow.holds Try.pinned (OpenSpec.ofChange fnExactRunPathSpec)

/-- ITS FALSE NEIGHBOUR: 'it returns false'. Refute it at one input. -/
def fnExactRunPathWrong : ChangeSpec := { name := "fnExactRunPath", fn := fun _ => fun
  | [d1, d2, d3] => { results := [.lit (.bool false)], args := [d1, d2, d3] }
  | _ => none }
def FnExactRunPathWrongFalsely : Prop := fnExactRunPathRow.holds Try.pinned (OpenSpec.ofChange fnExactRunPathWrong)

/-- 'laws.FnExactFormatProgram': WHATEVER THE INPUT: true; the input reads as it did. -/
def fnExactFormatProgramSpec : ChangeSpec := { name := "fnExactFormatProgram", fn := fun _ => fun
  | [d] => { results := [.lit (.bool true)], args := [d] }
  | _ => none }
def fnExactFormatProgramRow : OpenClaim := { program := "ytgjecledchhlgaa", sum := "b3476c6c5c1f4a43fd23aaf0e20b510cded4af8bcf90153b141ec82d74221d02", func := "loop.example/borrowcheck/laws.FnExactFormatProgram", spec := "fnExactFormatProgram", inPlace := ["internal/abi.NoEscape", "internal/bytealg.MakeNoZero"], unfollowed := true, recurses := true, loops := true, plainKeys := false, apart := false }
def FnExactFormatProgramSaid : Prop := fnExactFormatProgramRow.holds Try.pinned (OpenSpec.ofChange fnExactFormatProgramSpec)

/-- ITS FALSE NEIGHBOUR: 'it returns false'. Refute it at one input. -/
def fnExactFormatProgramWrong : ChangeSpec := { name := "fnExactFormatProgram", fn := fun _ => fun
  | [d] => { results := [.lit (.bool false)], args := [d] }
  | _ => none }
def FnExactFormatProgramWrongFalsely : Prop := fnExactFormatProgramRow.holds Try.pinned (OpenSpec.ofChange fnExactFormatProgramWrong)

/-- 'laws.FnExactParseProgram': WHATEVER THE INPUT: true; the input reads as it did. -/
def fnExactParseProgramSpec : ChangeSpec := { name := "fnExactParseProgram", fn := fun _ => fun
  | [d] => { results := [.lit (.bool true)], args := [d] }
  | _ => none }
def fnExactParseProgramRow : OpenClaim := { program := "ytgjecledchhlgaa", sum := "b3476c6c5c1f4a43fd23aaf0e20b510cded4af8bcf90153b141ec82d74221d02", func := "loop.example/borrowcheck/laws.FnExactParseProgram", spec := "fnExactParseProgram", inPlace := ["internal/bytealg.IndexByteString", "internal/bytealg.IndexString"], unfollowed := true, recurses := true, named := ["internal/bytealg.MaxLen"], plainKeys := false, apart := false }
def FnExactParseProgramSaid : Prop := fnExactParseProgramRow.holds Try.pinned (OpenSpec.ofChange fnExactParseProgramSpec)

/-- ITS FALSE NEIGHBOUR: 'it returns false'. Refute it at one input. -/
def fnExactParseProgramWrong : ChangeSpec := { name := "fnExactParseProgram", fn := fun _ => fun
  | [d] => { results := [.lit (.bool false)], args := [d] }
  | _ => none }
def FnExactParseProgramWrongFalsely : Prop := fnExactParseProgramRow.holds Try.pinned (OpenSpec.ofChange fnExactParseProgramWrong)

/-- 'laws.FnExactProgramSame': WHATEVER THE INPUT: true; the input reads as it did. -/
def fnExactProgramSameSpec : ChangeSpec := { name := "fnExactProgramSame", fn := fun _ => fun
  | [d1, d2] => { results := [.lit (.bool true)], args := [d1, d2] }
  | _ => none }
def fnExactProgramSameRow : OpenClaim := { program := "ytgjecledchhlgaa", sum := "b3476c6c5c1f4a43fd23aaf0e20b510cded4af8bcf90153b141ec82d74221d02", func := "loop.example/borrowcheck/laws.FnExactProgramSame", spec := "fnExactProgramSame", recurses := true, loops := true, plainKeys := false, apart := false }
def FnExactProgramSameSaid : Prop := fnExactProgramSameRow.holds Try.pinned (OpenSpec.ofChange fnExactProgramSameSpec)

/-- ITS FALSE NEIGHBOUR: 'it returns false'. Refute it at one input. -/
def fnExactProgramSameWrong : ChangeSpec := { name := "fnExactProgramSame", fn := fun _ => fun
  | [d1, d2] => { results := [.lit (.bool false)], args := [d1, d2] }
  | _ => none }
def FnExactProgramSameWrongFalsely : Prop := fnExactProgramSameRow.holds Try.pinned (OpenSpec.ofChange fnExactProgramSameWrong)

/-- 'laws.FnExactVarsOf': WHATEVER THE INPUT: true; the input reads as it did. -/
def fnExactVarsOfSpec : ChangeSpec := { name := "fnExactVarsOf", fn := fun _ => fun
  | [d] => { results := [.lit (.bool true)], args := [d] }
  | _ => none }
def fnExactVarsOfRow : OpenClaim := { program := "ytgjecledchhlgaa", sum := "b3476c6c5c1f4a43fd23aaf0e20b510cded4af8bcf90153b141ec82d74221d02", func := "loop.example/borrowcheck/laws.FnExactVarsOf", spec := "fnExactVarsOf", unfollowed := true, recurses := true, loops := true, plainKeys := false, apart := false }
def FnExactVarsOfSaid : Prop := fnExactVarsOfRow.holds Try.pinned (OpenSpec.ofChange fnExactVarsOfSpec)

/-- ITS FALSE NEIGHBOUR: 'it returns false'. Refute it at one input. -/
def fnExactVarsOfWrong : ChangeSpec := { name := "fnExactVarsOf", fn := fun _ => fun
  | [d] => { results := [.lit (.bool false)], args := [d] }
  | _ => none }
def FnExactVarsOfWrongFalsely : Prop := fnExactVarsOfRow.holds Try.pinned (OpenSpec.ofChange fnExactVarsOfWrong)

/-- 'laws.FnNextPoint': WHATEVER THE INPUT: true; the input reads as it did. -/
def fnNextPointSpec : ChangeSpec := { name := "fnNextPoint", fn := fun _ => fun
  | [d] => { results := [.lit (.bool true)], args := [d] }
  | _ => none }
def fnNextPointRow : OpenClaim := { program := "ytgjecledchhlgaa", sum := "b3476c6c5c1f4a43fd23aaf0e20b510cded4af8bcf90153b141ec82d74221d02", func := "loop.example/borrowcheck/laws.FnNextPoint", spec := "fnNextPoint", unfollowed := true, recurses := true, plainKeys := false, apart := false }
def FnNextPointSaid : Prop := fnNextPointRow.holds Try.pinned (OpenSpec.ofChange fnNextPointSpec)

/-- ITS FALSE NEIGHBOUR: 'it returns false'. Refute it at one input. -/
def fnNextPointWrong : ChangeSpec := { name := "fnNextPoint", fn := fun _ => fun
  | [d] => { results := [.lit (.bool false)], args := [d] }
  | _ => none }
def FnNextPointWrongFalsely : Prop := fnNextPointRow.holds Try.pinned (OpenSpec.ofChange fnNextPointWrong)

/- THE SECOND FORM. 'bulk': how many values and letters a reading holds, each counted each time it is reached (what is shared counts as often as it is met; a slice's spare places count too). A statement '..UptoSaid' is the law's where the arguments, and the package variables that the reading takes, are together of bulk at most 1048576: NARROWER than '..Said'. Prove '..Said' where nothing that the law and all that it calls make is longer than what came in: it says more and counts as full. Else prove '..UptoSaid'. A law counts once. -/
mutual
def uptoBulk {H : Type} : DataW H → Nat
  | .lit (.string bytes) => bytes.length + 1
  | .lit _ => 1
  | .nil => 1
  | .ptr d => uptoBulk d + 1
  | .slice elems spare => uptoBulkAll elems + uptoBulkAll spare + 1
  | .agg parts => uptoBulkAll parts + 1
  | .iface _ d => uptoBulk d + 1
  | .map entries => uptoBulkEntries entries + 1
  | .held _ => 1
def uptoBulkAll {H : Type} : List (DataW H) → Nat
  | [] => 0
  | d :: r => uptoBulk d + uptoBulkAll r
def uptoBulkEntries {H : Type} : List (Lit × DataW H) → Nat
  | [] => 0
  | x :: r => uptoBulkEntry x + uptoBulkEntries r
def uptoBulkEntry {H : Type} : Lit × DataW H → Nat
  | (.string bytes, d) => bytes.length + uptoBulk d + 1
  | (_, d) => uptoBulk d + 1
 end
def uptoSmall : (H : Type) → List (DataW H) → Bool := fun _ ds => decide (uptoBulkAll ds ≤ 1048576)
def OpenSpec.upto (s : _root_.Go.ChangeSpec) : _root_.Go.OpenSpec := { _root_.Go.OpenSpec.ofChange s with cond := some uptoSmall }

/-- 'laws.FnExactPointText', WHERE WHAT IT READS IS OF BULK AT MOST 1048576: true; the input reads as it did. -/
def fnExactPointTextUptoRow : OpenClaim := { program := "ytgjecledchhlgaa", sum := "b3476c6c5c1f4a43fd23aaf0e20b510cded4af8bcf90153b141ec82d74221d02", func := "loop.example/borrowcheck/laws.FnExactPointText", spec := "fnExactPointText", unfollowed := true, recurses := true, plainKeys := false, apart := false, narrowed := true }
def FnExactPointTextUptoSaid : Prop := fnExactPointTextUptoRow.holds Try.pinned (OpenSpec.upto fnExactPointTextSpec)

/-- 'laws.FnExactCountChoices', WHERE WHAT IT READS IS OF BULK AT MOST 1048576: true; the input reads as it did. -/
def fnExactCountChoicesUptoRow : OpenClaim := { program := "ytgjecledchhlgaa", sum := "b3476c6c5c1f4a43fd23aaf0e20b510cded4af8bcf90153b141ec82d74221d02", func := "loop.example/borrowcheck/laws.FnExactCountChoices", spec := "fnExactCountChoices", unfollowed := true, recurses := true, loops := true, plainKeys := false, apart := false, narrowed := true }
def FnExactCountChoicesUptoSaid : Prop := fnExactCountChoicesUptoRow.holds Try.pinned (OpenSpec.upto fnExactCountChoicesSpec)

/-- 'laws.FnExactPointsOf', WHERE WHAT IT READS IS OF BULK AT MOST 1048576: true; the input reads as it did. -/
def fnExactPointsOfUptoRow : OpenClaim := { program := "ytgjecledchhlgaa", sum := "b3476c6c5c1f4a43fd23aaf0e20b510cded4af8bcf90153b141ec82d74221d02", func := "loop.example/borrowcheck/laws.FnExactPointsOf", spec := "fnExactPointsOf", unfollowed := true, recurses := true, loops := true, plainKeys := false, apart := false, narrowed := true }
def FnExactPointsOfUptoSaid : Prop := fnExactPointsOfUptoRow.holds Try.pinned (OpenSpec.upto fnExactPointsOfSpec)

/-- 'laws.FnExactRunPath', WHERE WHAT IT READS IS OF BULK AT MOST 1048576: true; the input reads as it did. -/
def fnExactRunPathUptoRow : OpenClaim := { program := "ytgjecledchhlgaa", sum := "b3476c6c5c1f4a43fd23aaf0e20b510cded4af8bcf90153b141ec82d74221d02", func := "loop.example/borrowcheck/laws.FnExactRunPath", spec := "fnExactRunPath", unfollowed := true, recurses := true, loops := true, plainKeys := false, apart := false, narrowed := true }
def FnExactRunPathUptoSaid : Prop := fnExactRunPathUptoRow.holds Try.pinned (OpenSpec.upto fnExactRunPathSpec)

/-- 'laws.FnExactFormatProgram', WHERE WHAT IT READS IS OF BULK AT MOST 1048576: true; the input reads as it did. -/
def fnExactFormatProgramUptoRow : OpenClaim := { program := "ytgjecledchhlgaa", sum := "b3476c6c5c1f4a43fd23aaf0e20b510cded4af8bcf90153b141ec82d74221d02", func := "loop.example/borrowcheck/laws.FnExactFormatProgram", spec := "fnExactFormatProgram", inPlace := ["internal/abi.NoEscape", "internal/bytealg.MakeNoZero"], unfollowed := true, recurses := true, loops := true, plainKeys := false, apart := false, narrowed := true }
def FnExactFormatProgramUptoSaid : Prop := fnExactFormatProgramUptoRow.holds Try.pinned (OpenSpec.upto fnExactFormatProgramSpec)

/-- 'laws.FnExactParseProgram', WHERE WHAT IT READS IS OF BULK AT MOST 1048576: true; the input reads as it did. -/
def fnExactParseProgramUptoRow : OpenClaim := { program := "ytgjecledchhlgaa", sum := "b3476c6c5c1f4a43fd23aaf0e20b510cded4af8bcf90153b141ec82d74221d02", func := "loop.example/borrowcheck/laws.FnExactParseProgram", spec := "fnExactParseProgram", inPlace := ["internal/bytealg.IndexByteString", "internal/bytealg.IndexString"], unfollowed := true, recurses := true, named := ["internal/bytealg.MaxLen"], plainKeys := false, apart := false, narrowed := true }
def FnExactParseProgramUptoSaid : Prop := fnExactParseProgramUptoRow.holds Try.pinned (OpenSpec.upto fnExactParseProgramSpec)

/-- 'laws.FnExactProgramSame', WHERE WHAT IT READS IS OF BULK AT MOST 1048576: true; the input reads as it did. -/
def fnExactProgramSameUptoRow : OpenClaim := { program := "ytgjecledchhlgaa", sum := "b3476c6c5c1f4a43fd23aaf0e20b510cded4af8bcf90153b141ec82d74221d02", func := "loop.example/borrowcheck/laws.FnExactProgramSame", spec := "fnExactProgramSame", recurses := true, loops := true, plainKeys := false, apart := false, narrowed := true }
def FnExactProgramSameUptoSaid : Prop := fnExactProgramSameUptoRow.holds Try.pinned (OpenSpec.upto fnExactProgramSameSpec)

/-- 'laws.FnExactVarsOf', WHERE WHAT IT READS IS OF BULK AT MOST 1048576: true; the input reads as it did. -/
def fnExactVarsOfUptoRow : OpenClaim := { program := "ytgjecledchhlgaa", sum := "b3476c6c5c1f4a43fd23aaf0e20b510cded4af8bcf90153b141ec82d74221d02", func := "loop.example/borrowcheck/laws.FnExactVarsOf", spec := "fnExactVarsOf", unfollowed := true, recurses := true, loops := true, plainKeys := false, apart := false, narrowed := true }
def FnExactVarsOfUptoSaid : Prop := fnExactVarsOfUptoRow.holds Try.pinned (OpenSpec.upto fnExactVarsOfSpec)

/-- 'laws.FnNextPoint', WHERE WHAT IT READS IS OF BULK AT MOST 1048576: true; the input reads as it did. -/
def fnNextPointUptoRow : OpenClaim := { program := "ytgjecledchhlgaa", sum := "b3476c6c5c1f4a43fd23aaf0e20b510cded4af8bcf90153b141ec82d74221d02", func := "loop.example/borrowcheck/laws.FnNextPoint", spec := "fnNextPoint", unfollowed := true, recurses := true, plainKeys := false, apart := false, narrowed := true }
def FnNextPointUptoSaid : Prop := fnNextPointUptoRow.holds Try.pinned (OpenSpec.upto fnNextPointSpec)

end Rows
end Go.Proofs.Ytgjecledchhlgaa
