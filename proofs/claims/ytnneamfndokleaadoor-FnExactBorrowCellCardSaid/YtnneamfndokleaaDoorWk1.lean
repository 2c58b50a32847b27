/-
  What the walks of the laws about cells carry along.
-/
import Derived.Test.YtnneamfndokleaaDoorCelC
import Derived.Test.YtnneamfndokleaaDoorCelK2
import Derived.Test.YtnneamfndokleaaDoorCelV
namespace Go.Proofs.YtnneamfndokleaaDoor
open Go.RowKit Go.Deep
set_option linter.unusedVariables false

theorem below_span_ {lo hi : Nat} {W w w' : World} (h : Below W.heap.size W w) (hs : Span lo hi w w') (hB : W.heap.size ≤ lo) : Below W.heap.size W w' :=
  h.trans (hs.below hB h.size)

abbrev PtrK (n : Nat) (x t : Int) (w : World) : Prop := w.cell? ⟨n, 0, none⟩ = some (.int .i64 x) ∧ w.cell? ⟨n, 1, none⟩ = some (.int .i64 t)

theorem ptrK_below {n : Nat} {x t : Int} {w w' : World} (h : PtrK n x t w) (hb : Below w.heap.size w w') : PtrK n x t w' :=
  ⟨(hb.cell (World.block_lt_of_cell? w _ h.1)).trans h.1, (hb.cell (World.block_lt_of_cell? w _ h.2)).trans h.2⟩

theorem tagSum_set {d d' : CellD} : ∀ {cs : List CellD} {i : Nat}, cs[i]? = some d → d'.tags.length ≤ d.tags.length → tagSum (cs.set i d') ≤ tagSum cs
  | [], i, h, _ => by simp at h
  | c :: cs, 0, h, hl => by
    simp at h
    subst h
    simp only [List.set_cons_zero, tagSum]
    omega
  | c :: cs, i + 1, h, hl => by
    simp only [List.set_cons_succ, tagSum]
    have := tagSum_set (cs := cs) (i := i) (by simpa using h) hl
    omega

end Go.Proofs.YtnneamfndokleaaDoor
