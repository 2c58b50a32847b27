/-
  What a value owns, and cells in the midst of a row.
-/
import Derived.Test.YtfkoobdlhdolbaaDoorCelS0
namespace Go.Proofs.YtfkoobdlhdolbaaDoor
open Go.RowKit Go.Deep
set_option linter.unusedVariables false

theorem OneV.trans {v : Value} {a b c : World} (h : OneV v a b) (k : OneV v b c) : OneV v a c :=
  ⟨k.os.trans h.os, k.tape.trans h.tape, k.output.trans h.output, k.size.trans h.size, fun i hi => (k.block i hi).trans (h.block i hi)⟩

theorem RowT.cells2 {w : World} {B g n cap : Nat} {A C : List TagD} {p : TagD} (h : RowT w B (.slice (some ⟨g, 0, none⟩) n cap) (A ++ p :: C)) (hn : (A ++ p :: C).length = n) :
    w.cell? ⟨g, A.length * 2, none⟩ = some (.int .i64 p.id) ∧ w.cell? ⟨g, A.length * 2 + 1, none⟩ = some (.bool p.u) ∧ ∀ o, w.frozen? ⟨g, o, none⟩ = false := by
  subst hn
  have hp : (A ++ p :: C)[A.length]? = some p := by simp
  have hl : A.length * 2 + 1 < (A ++ p :: C).length * 2 := by simp; omega
  have h0 := (World.ownsRow.cellAt h (A.length * 2 + 0) (by omega)).trans (flat_get TagD.cells_length _ A.length 0 p hp (by omega))
  have h1 := (World.ownsRow.cellAt h (A.length * 2 + 1) hl).trans (flat_get TagD.cells_length _ A.length 1 p hp (by omega))
  exact ⟨h0, h1, fun o => World.ownsRow.frozenAt h o⟩

theorem RowU.cells4 {w : World} {B g n cap : Nat} {A C : List (CellD × Value)} {p : CellD × Value} (h : RowU w B (.slice (some ⟨g, 0, none⟩) n cap) (A ++ p :: C)) (hn : (A ++ p :: C).length = n) :
    w.cell? ⟨g, A.length * 4, none⟩ = some (.int .i64 p.1.val) ∧ w.cell? ⟨g, A.length * 4 + 1, none⟩ = some (.bool p.1.alive) ∧ w.cell? ⟨g, A.length * 4 + 2, none⟩ = some (.int .i64 p.1.next) ∧ w.cell? ⟨g, A.length * 4 + 3, none⟩ = some p.2 ∧
      (∀ o, w.frozen? ⟨g, o, none⟩ = false) ∧ RowT w B p.2 p.1.tags ∧ p.2.ownBlock ≠ some g := by
  subst hn
  have hp : (A ++ p :: C)[A.length]? = some p := by simp
  have hl : A.length * 4 + 3 < (A ++ p :: C).length * 4 := by simp; omega
  have hc : ∀ i, i < 4 → w.cell? ⟨g, A.length * 4 + i, none⟩ = (crow p)[i]? := fun i hi => (h.own.cellAt (A.length * 4 + i) (by omega)).trans (flat_get crow_length _ A.length i p hp hi)
  exact ⟨hc 0 (by omega), hc 1 (by omega), hc 2 (by omega), hc 3 (by omega), fun o => h.own.frozenAt o, h.tags A.length p hp, h.notTag rfl A.length p hp⟩

theorem Span.of_oneV {v : Value} {w w' : World} {lo hi : Nat} (h : OneV v w w') (hv : ∀ g, v.ownBlock = some g → lo ≤ g ∧ g < hi) : Span lo hi w w' :=
  ⟨h.os, h.tape, h.output, Nat.le_of_eq h.size.symm, fun k hk hd => h.block k fun e => by have := hv k e; omega⟩

theorem OneV.cell {v : Value} {w w' : World} (h : OneV v w w') (p : Addr) (hp : v.ownBlock ≠ some p.block) : w'.cell? p = w.cell? p := World.cell?_of_block (h.block _ hp)

end Go.Proofs.YtfkoobdlhdolbaaDoor
