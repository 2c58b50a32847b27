/-
  Rows that are made.
-/
import Derived.Test.YtfkoobdlhdolbaaDoorCelK0
namespace Go.Proofs.YtfkoobdlhdolbaaDoor
open Go.RowKit Go.Deep
set_option linter.unusedVariables false

theorem Tryd.infoTag : (Tryd.prog.info? 35).map (fun i => (i.zero, i.size, i.bytes)) = some (some (.agg #[.int .i64 0, .bool false]), 2, 16) := by kernel_rfl
theorem Tryd.infoCell : (Tryd.prog.info? 33).map (fun i => (i.zero, i.size, i.bytes)) = some (some (.agg #[.int .i64 0, .bool false, .int .i64 0, .slice none 0 0]), 4, 48) := by kernel_rfl

def zTag : TagD := ⟨0, false⟩
def zCell : CellD × Value := (⟨0, false, 0, []⟩, .slice none 0 0)

theorem made_flat {α : Type} {f : α → List Value} {s : Nat} (d : α) (hs : (f d).length = s) (hs0 : 0 < s) : ∀ n : Nat, (madeCells (f d).toArray (n * s)).toList = (List.replicate n d).flatMap f := by
  intro n
  apply List.ext_getElem?
  intro j
  have hfl : ((List.replicate n d).flatMap f).length = n * s := by
    induction n with
    | zero => simp
    | succ n ih => rw [List.replicate_succ, List.flatMap_cons, List.length_append, ih, hs, Nat.succ_mul, Nat.add_comm]
  by_cases hj : j < n * s
  · have e1 : j = (j / s) * s + j % s := by rw [Nat.mul_comm]; exact (Nat.div_add_mod j s).symm
    have hm : j % s < s := Nat.mod_lt _ hs0
    have hd : j / s < n := by
      rw [Nat.div_lt_iff_lt_mul hs0]
      exact hj
    have hr : ∀ (l : List α) (a b : Nat), (∀ x ∈ l, x = d) → a < l.length → b < s → (l.flatMap f)[a * s + b]? = (f d)[b]? := by
      intro l
      induction l with
      | nil => intro a b _ ha; simp at ha
      | cons x l ih =>
        intro a b hx ha hb
        have hxd : x = d := hx x (by simp)
        subst hxd
        rw [List.flatMap_cons]
        cases a with
        | zero => rw [Nat.zero_mul, Nat.zero_add, List.getElem?_append_left (by omega)]
        | succ a =>
          rw [List.getElem?_append_right (by rw [hs, Nat.succ_mul]; omega), hs, show (a + 1) * s + b - s = a * s + b from by rw [Nat.succ_mul]; omega]
          exact ih a b (fun y hy => hx y (by simp [hy])) (by simpa using ha) hb
    have h2 := hr (List.replicate n d) (j / s) (j % s) (fun x hx => (List.mem_replicate.1 hx).2) (by simpa using hd) hm
    rw [← e1] at h2
    rw [h2]
    simp [madeCells, hj, hs, hm]
  · rw [List.getElem?_eq_none (l := (List.replicate n d).flatMap f) (by rw [hfl]; omega)]
    exact List.getElem?_eq_none (by simp [madeCells]; omega)

theorem own_made {w : World} {B n s : Nat} {e : TypeId} {α : Type} {f : α → List Value} (d : α) (hs : (f d).length = s) (hs0 : 0 < s) (hB : B ≤ w.heap.size) (hm : n ≤ maxLen) (cs : Array Value) (hcs : cs = madeCells (f d).toArray (n * s)) :
    (w.alloc (.cells cs e)).ownsRow B e s (.slice (some ⟨w.heap.size, 0, none⟩) n n) n ((List.replicate n d).flatMap f) := by
  subst hcs
  have h := World.ownsRow_lit (base := B) (e := e) (size := s) w (madeCells (f d).toArray (n * s)) n hB hm (by simp [madeCells])
  rwa [made_flat d hs hs0] at h

theorem rep_step {α : Type} (z : α) {q k : Nat} (h : k < q) : List.replicate (q - k) z = z :: List.replicate (q - (k + 1)) z := by
  rw [show q - k = (q - (k + 1)) + 1 from by omega, List.replicate_succ]

theorem heap_set {w : World} {a : Addr} {u : Value} {k : Nat} (h : k ≠ a.block) : (w.setCell a u).heap[k]? = w.heap[k]? := Below.heap_setCell w a u k h

theorem zRow (w : World) (B n : Nat) (hB : B ≤ w.heap.size) (hm : n ≤ maxLen) :
    RowU (w.alloc (.cells (madeCells #[.int .i64 0, .bool false, .int .i64 0, .slice none 0 0] (n * 4)) 33)) B (.slice (some ⟨w.heap.size, 0, none⟩) n n) (List.replicate n zCell) := by
  refine ⟨?_, fun j p hp => ?_, fun i j p q a b hij hp hq ha hb => ?_⟩
  · have := own_made (w := w) (B := B) (n := n) (e := 33) (s := 4) (f := crow) zCell rfl (by omega) hB hm (madeCells #[.int .i64 0, .bool false, .int .i64 0, .slice none 0 0] (n * 4)) rfl
    simpa using this
  · have := List.mem_of_getElem? hp
    rw [(List.mem_replicate.1 this).2]
    exact World.ownsRow_nil _ _ _ _
  · have := List.mem_of_getElem? hp
    rw [(List.mem_replicate.1 this).2] at ha
    cases ha

end Go.Proofs.YtfkoobdlhdolbaaDoor
