/-
  What the walks of the laws about pointers carry along.
-/
import Derived.Test.YtnneamfndokleaaDoorWk1
import Derived.Test.YtnneamfndokleaaDoorCelT
import Derived.Test.YtnneamfndokleaaDoorAd2
namespace Go.Proofs.YtnneamfndokleaaDoor
open Go.RowKit Go.Deep
set_option linter.unusedVariables false

theorem tagSum_set1 {d d' : CellD} : ∀ {cs : List CellD} {i : Nat}, cs[i]? = some d → d'.tags.length ≤ d.tags.length + 1 → tagSum (cs.set i d') ≤ tagSum cs + 1
  | [], i, h, _ => by simp at h
  | c :: cs, 0, h, hl => by
    simp at h
    subst h
    simp only [List.set_cons_zero, tagSum]
    omega
  | c :: cs, i + 1, h, hl => by
    simp only [List.set_cons_succ, tagSum]
    have := tagSum_set1 (cs := cs) (i := i) (by simpa using h) hl
    omega

theorem pushA_size {cs m : List CellD} {i : Nat} {d : CellD} {ts : List TagD} {u : Bool} {pr : Int × Int} {cd : Int} (hd : cs[i]? = some d) (ht : ts.length ≤ d.tags.length) (h : pushA cs i d ts u = (m, pr, cd)) (hl : cs.length + tagSum cs ≤ 1048576) : m.length + tagSum m ≤ 1048577 := by
  unfold pushA at h
  split at h
  · injection h with h _
    subst h
    have := tagSum_set1 (d' := { d with tags := ts ++ [⟨d.next, u⟩], next := d.next + 1 }) hd (by simp; omega)
    rw [List.length_set]
    omega
  · injection h with h _
    subst h
    omega

/-- What holds while a region makes an answer: what was stays, and the argument's two cells. -/
abbrev ShK (w0 : World) (n : Nat) (x t : Int) (w : World) : Prop := Below w0.heap.size w0 w ∧ w.cell? ⟨n, 0, none⟩ = some (.int .i64 x) ∧ w.cell? ⟨n, 1, none⟩ = some (.int .i64 t)

theorem shK_below {w0 : World} {n : Nat} {x t : Int} {w w' : World} (h : ShK w0 n x t w) (hb : Below w.heap.size w w') : ShK w0 n x t w' :=
  ⟨h.1.trans (hb.mono h.1.size), (hb.cell (World.block_lt_of_cell? w _ h.2.1)).trans h.2.1, (hb.cell (World.block_lt_of_cell? w _ h.2.2)).trans h.2.2⟩

theorem shK_alloc {w0 : World} {n : Nat} {x t : Int} {w : World} (h : ShK w0 n x t w) (o : Obj) : ShK w0 n x t (w.alloc o) := shK_below h ((Below.refl _ _).alloc (Nat.le_refl _) o)

theorem shK_drew {w0 : World} {n : Nat} {x t : Int} {w : World} (h : ShK w0 n x t w) : ShK w0 n x t w.drew := ⟨h.1.drew, h.2.1, h.2.2⟩

theorem shK_store {w0 : World} {n g : Nat} {x t : Int} {w : World} (hn : n < w0.heap.size) (h : ShK w0 n x t w) (hg : w0.heap.size ≤ g) (a b : Value) : ShK w0 n x t ((w.setCell ⟨g, 0, none⟩ a).setCell ⟨g, 1, none⟩ b) := by
  have k : ∀ (w : World) (o o' : Nat) (x : Value), (w.setCell ⟨g, o, none⟩ x).cell? ⟨n, o', none⟩ = w.cell? ⟨n, o', none⟩ := fun w o o' x => World.cell?_setCell_other _ _ _ _ (fun e => by have := congrArg Addr.block e; simp at this; omega)
  exact ⟨(h.1.setCell hg _).setCell hg _, by rw [k, k]; exact h.2.1, by rw [k, k]; exact h.2.2⟩

end Go.Proofs.YtnneamfndokleaaDoor
