/-
  The memory of the model's search forth: rows of flags, what is seen, a queue.
-/
import Derived.Test.YtbffldgiccijlaaGreatDoorZFlW
import Derived.Test.YtbffldgiccijlaaGreatDoorZMem
import Derived.Test.YtbffldgiccijlaaGreatDoorZL3J
import Derived.ArgAppend
namespace Go.Proofs.YtbffldgiccijlaaGreatDoor
open Go.RowKit Go.Deep
set_option linter.unusedVariables false

/-- A queue of numbers: a slice of a row, from some place on. -/
def QRow (w : World) (B : Nat) (v : Value) (W : List Nat) : Prop := ∃ g off cap cur, v = .slice (some ⟨g, off, none⟩) W.length cap ∧ B ≤ g ∧ w.heap[g]? = some (.cells cur 3 (0, 0)) ∧ W.length ≤ cap ∧ off + cap ≤ cur.size ∧ cap ≤ maxLen ∧ ∀ (i x : Nat), W[i]? = some x → cur[off + i]? = some (.int .i64 (x : Int))

theorem QRow.below {w w' : World} {B : Nat} {v : Value} {W : List Nat} (h : QRow w B v W) (hb : Below w.heap.size w w') : QRow w' B v W := by
  obtain ⟨g, off, cap, cur, h1, h2, h3, h4⟩ := h
  exact ⟨g, off, cap, cur, h1, h2, (hb.block g (heap_lt h3)).trans h3, h4⟩

theorem QRow.other {w : World} {B : Nat} {v : Value} {W : List Nat} (h : QRow w B v W) {b o : Nat} {x : Value} {cs : Array Value} {t : TypeId} (hb : w.heap[b]? = some (.cells cs t (0, 0))) (ht : t ≠ 3) : QRow (w.setCell ⟨b, o, none⟩ x) B v W := by
  obtain ⟨g, off, cap, cur, h1, h2, h3, h4⟩ := h
  refine ⟨g, off, cap, cur, h1, h2, (heap_setCell_other _ _ _ _ (fun e => ?_)).trans h3, h4⟩
  have e' : g = b := e
  rw [e', hb] at h3
  simp at h3
  exact ht h3.2

theorem QRow.tail {w : World} {B : Nat} {g off cap a : Nat} {V : List Nat} (h : QRow w B (.slice (some ⟨g, off, none⟩) (V.length + 1) cap) (a :: V)) :
    1 ≤ cap ∧ cap ≤ maxLen ∧ w.cell? ⟨g, off, none⟩ = some (.int .i64 (a : Int)) ∧ QRow w B (.slice (some (if cap = 1 then ⟨g, off, none⟩ else ⟨g, off + 1, none⟩)) V.length (cap - 1)) V := by
  obtain ⟨g', off', cap', cur, h1, h2, h3, h4, h5, h6, h7⟩ := h
  simp only [Value.slice.injEq, Option.some.injEq, Addr.mk.injEq, and_true, List.length_cons] at h1 h4
  obtain ⟨⟨rfl, rfl⟩, -, rfl⟩ := h1
  refine ⟨by omega, h6, (cell_of_block h3 _).trans (h7 0 a rfl), ?_⟩
  by_cases hc : cap = 1
  · rw [if_pos hc]
    refine ⟨g, off, _, cur, rfl, h2, h3, by omega, by omega, by omega, fun i x hx => ?_⟩
    have := (List.getElem?_eq_some_iff.mp hx).1
    omega
  · rw [if_neg hc]
    refine ⟨g, off + 1, _, cur, rfl, h2, h3, by omega, by omega, by omega, fun i x hx => ?_⟩
    have := h7 (i + 1) x (by simpa using hx)
    rw [← this]
    congr 1
    omega

theorem setCells_one (w : World) (b o : Nat) (x : Value) : w.setCells b o [x] = w.setCell ⟨b, o, none⟩ x := rfl

/-- One more in the queue. -/
theorem wpList_append_queue {ops : Array Oper} {rest : List Oper} {o : Oper} {a : Act} {w : World} {Q : Exit → Act → World → Prop} (hgd : o.guard = none) (s x : Operand)
    (ho : o.op = .call { callee := .builtin .append, args := #[s, x], argTypes := #[23, 23] }) (B : Nat) (v : Value) (W : List Nat) (hs : a.eval s = v) (hq : QRow w B v W) (ad : Addr) (c y : Nat)
    (hx : a.eval x = .slice (some ad) 1 c) (hy : w.cell? ad = some (.int .i64 (y : Int))) (hl : W.length ≤ 1000000) (hB : B ≤ w.heap.size)
    (h : ∀ v' w', QRow w' B v' (W ++ [y]) → w.grownBy w' v.ownBlock → wpList Tryz.prog ops Q rest (a.put o.dst v') w') : wpList Tryz.prog ops Q (o :: rest) a w := by
  obtain ⟨i0, hi, hz0, hz1, hz2⟩ := info_parts Tryz.infoInt
  obtain ⟨g, off, cap, cur, h1, h2, h3, h4, h5, h6, h7⟩ := hq
  subst h1
  have hol : ∀ (j : Nat) (u : Value), (W.map fun (z : Nat) => Value.int .i64 (z : Int))[j]? = some u → w.cell? ⟨g, off + j, none⟩ = some u := by
    intro j u hj
    rw [List.getElem?_map] at hj
    cases hw : W[j]? with
    | none => rw [hw] at hj; simp at hj
    | some z =>
      rw [hw] at hj
      rw [cell_of_block h3, h7 j z hw]
      simpa using hj
  refine wpList_append_arg w hgd s x 23 ho 3 i0 (.int .i64 0) 1 8 Tryz.underlying23 hi hz0 hz1 hz2 rfl (by decide) g off W.length cap (W.map fun (z : Nat) => Value.int .i64 (z : Int)) hs (by simp) hol
    ad 1 c [.int .i64 (y : Int)] hx rfl (fun j u hj => ?_) (fun u hu => ?_) (fun hr j hj => ?_) (by unfold maxLen; omega) (by omega) (fun hr => ?_) (fun hr v' w' h8 h9 => ?_)
  · have hj0 : j = 0 := by
      have := (List.getElem?_eq_some_iff.mp hj).1
      simpa using this
    subst hj0
    have e : ad.add 0 = ad := by cases ad; rfl
    rw [e, hy]
    simpa using hj
  · simp only [List.mem_cons, List.not_mem_nil, or_false] at hu
    subst hu
    rfl
  · simp at hj
    subst hj
    rw [cell_of_block h3]
    refine ⟨?_, frozen_of_row _ _ _ _ _ h3⟩
    rw [Option.isSome_iff_exists]
    exact ⟨_, Array.getElem?_eq_getElem (by omega)⟩
  · rw [setCells_one, Nat.mul_one]
    refine h _ _ ⟨g, off, cap, cur.setIfInBounds (off + W.length) (.int .i64 (y : Int)), by simp, h2, heap_setCell_same w g (off + W.length) cur _ _ h3, by simpa using hr, by simpa using h5, h6, fun i z hz => ?_⟩ ⟨rfl, rfl, rfl, by simp [World.setCell], fun k hk hne => heap_setCell_other _ _ _ _ (fun e => hne (by rw [e]; rfl))⟩
    rw [Array.getElem?_setIfInBounds]
    by_cases hi : i = W.length
    · subst hi
      rw [if_pos rfl, if_pos (by omega)]
      simp at hz
      rw [hz]
    · rw [if_neg (by omega)]
      refine h7 i z ?_
      have := (List.getElem?_eq_some_iff.mp hz).1
      rw [List.length_append] at this
      simp at this
      rw [List.getElem?_append_left (by omega)] at hz
      exact hz
  · rcases h8.2 with ⟨_, e⟩ | ⟨g', cap', cur', hv, hB', hg, hn, hm, hsz, htk⟩
    · omega
    · subst hv
      refine h _ w' ⟨g', 0, cap', cur', by simp, by omega, hg, by simpa using hn, by omega, hm, fun i z hz => ?_⟩ ⟨h9.os, h9.tape, h9.output, h9.size, fun k hk _ => h9.block k hk (by simp)⟩
      have hil := (List.getElem?_eq_some_iff.mp hz).1
      have e : (cur'.toList.take ((W.length + 1) * 1))[i]? = some (.int .i64 (z : Int)) := by
        rw [htk, show (W.map (fun (z : Nat) => Value.int .i64 (z : Int)) ++ [Value.int .i64 (y : Int)]) = (W ++ [y]).map (fun (z : Nat) => Value.int .i64 (z : Int)) by simp, List.getElem?_map, hz]
        rfl
      rw [List.getElem?_take] at e
      rw [List.length_append] at hil
      simp at hil
      rw [if_pos (by omega)] at e
      simpa using e

/-- The memory of the search: which points are seen, and the row of each of them. -/
structure FwM (R S n T : Nat) (w1 wr : World) (seen : Nat → Bool) (o : Nat → Nat → Bool) : Prop where
  rows : ∃ cur, wr.heap[R]? = some (.cells cur 62 (0, 0)) ∧ cur.size = n ∧ ∀ k, k < n → (seen k = false ∧ cur[k]? = some (.slice none 0 0)) ∨ (seen k = true ∧ ∃ F c, cur[k]? = some (.slice (some ⟨F, 0, none⟩) T c) ∧ T ≤ c ∧ c ≤ maxLen ∧ F ≠ S ∧ FlW wr F T (o k))
  flags : FlAt wr S n seen
  rfrom : w1.heap.size ≤ R
  sfrom : w1.heap.size ≤ S
  below : Below w1.heap.size w1 wr

theorem FwM.carry {R S n T : Nat} {w1 wr w' : World} {seen : Nat → Bool} {o : Nat → Nat → Bool} (h : FwM R S n T w1 wr seen o) (hb : Below w1.heap.size w1 w') (hk : ∀ (k : Nat) (cs : Array Value) (t : TypeId), wr.heap[k]? = some (Obj.cells cs t (0, 0)) → (t = 4 ∨ t = 62) → w'.heap[k]? = wr.heap[k]?) : FwM R S n T w1 w' seen o := by
  obtain ⟨cur, r1, r2, r3⟩ := h.rows
  obtain ⟨cs, s1, s2, s3⟩ := id h.flags
  refine ⟨⟨cur, (hk R _ _ r1 (.inr rfl)).trans r1, r2, fun k hk' => ?_⟩, ⟨cs, (hk S _ _ s1 (.inl rfl)).trans s1, s2, s3⟩, h.rfrom, h.sfrom, hb⟩
  rcases r3 k hk' with h1 | ⟨h1, F, c, h2, h3, h4, h5, h6⟩
  · exact .inl h1
  · obtain ⟨fs, f1, f2, f3⟩ := id h6
    exact .inr ⟨h1, F, c, h2, h3, h4, h5, fs, (hk F _ _ f1 (.inl rfl)).trans f1, f2, f3⟩

theorem FwM.keep {R S n T : Nat} {w1 wr w' : World} {seen : Nat → Bool} {o : Nat → Nat → Bool} (h : FwM R S n T w1 wr seen o) (hb : Below wr.heap.size wr w') : FwM R S n T w1 w' seen o :=
  h.carry (h.below.trans (hb.mono h.below.size)) fun k cs t hc _ => hb.block k (heap_lt hc)

theorem FwM.queue {R S n T B : Nat} {w1 wr w' : World} {seen : Nat → Bool} {o : Nat → Nat → Bool} {v : Value} {W : List Nat} (h : FwM R S n T w1 wr seen o) (hq : QRow wr B v W) (hB : w1.heap.size ≤ B) (hg : wr.grownBy w' v.ownBlock) : FwM R S n T w1 w' seen o := by
  obtain ⟨g, off, cap, cur, h1, h2, h3, h4⟩ := hq
  subst h1
  refine h.carry (h.below.grown hg h.below.size fun k hk => ?_) fun k cs t hc ht => hg.block k (heap_lt hc) fun e => ?_
  · have e : g = k := by simpa [Value.ownBlock] using hk
    omega
  · have e' : k = g := by simpa [Value.ownBlock] using e
    rw [e', h3] at hc
    simp at hc
    rcases ht with rfl | rfl
    · exact absurd hc.2 (by decide)
    · exact absurd hc.2 (by decide)

theorem QRow.lt {w : World} {B : Nat} {v : Value} {W : List Nat} (hq : QRow w B v W) : ∀ g, v.ownBlock = some g → B ≤ g ∧ g < w.heap.size := by
  obtain ⟨g, off, cap, cur, h1, h2, h3, h4⟩ := hq
  intro k hk
  rw [h1] at hk
  have e : g = k := by simpa [Value.ownBlock] using hk
  subst e
  exact ⟨h2, heap_lt h3⟩

theorem FlW.queue {w w' : World} {B F T : Nat} {fl : Nat → Bool} {v : Value} {W : List Nat} (h : FlW w F T fl) (hq : QRow w B v W) (hg : w.grownBy w' v.ownBlock) : FlW w' F T fl := by
  obtain ⟨g, off, cap, cur, h1, h2, h3, h4⟩ := hq
  subst h1
  obtain ⟨cs, c1, c2⟩ := h
  refine ⟨cs, (hg.block F (heap_lt c1) fun e => ?_).trans c1, c2⟩
  have e' : F = g := by simpa [Value.ownBlock] using e
  rw [e', h3] at c1
  simp at c1

/-- A point is seen, and has a new row. -/
theorem FwM.put {R S n T G c b : Nat} {w1 wr : World} {seen : Nat → Bool} {o : Nat → Nat → Bool} {z : Nat → Bool} (h : FwM R S n T w1 wr seen o) (hb : b < n) (hG : FlW wr G T z) (hGS : G ≠ S) (hc1 : T ≤ c) (hc2 : c ≤ maxLen) :
    FwM R S n T w1 ((wr.setCell ⟨S, b, none⟩ (.bool true)).setCell ⟨R, b, none⟩ (.slice (some ⟨G, 0, none⟩) T c)) (setR seen b true) (setR o b z) := by
  obtain ⟨cur, r1, r2, r3⟩ := h.rows
  have hRS : R ≠ S := fun e => by
    obtain ⟨cs, s1, _⟩ := id h.flags
    rw [← e, r1] at s1
    simp at s1
  have hot : ∀ F fl, FlW wr F T fl → F ≠ S → FlW ((wr.setCell ⟨S, b, none⟩ (.bool true)).setCell ⟨R, b, none⟩ (.slice (some ⟨G, 0, none⟩) T c)) F T fl := fun F fl hF hne => by
    refine (hF.keep (heap_setCell_other _ _ _ _ (fun e => hne e))).keep (heap_setCell_other _ _ _ _ (fun e => ?_))
    obtain ⟨fs, f1, _⟩ := hF
    have e' : F = R := e
    rw [e', r1] at f1
    simp at f1
  have hR1 : (wr.setCell ⟨S, b, none⟩ (.bool true)).heap[R]? = some (.cells cur 62 (0, 0)) := (heap_setCell_other _ _ _ _ (fun e => hRS e)).trans r1
  refine ⟨⟨_, heap_setCell_same _ R b cur _ _ hR1, by simpa using r2, fun k hk => ?_⟩, ?_, h.rfrom, h.sfrom, below_set (below_set h.below h.sfrom) h.rfrom⟩
  · rw [Array.getElem?_setIfInBounds]
    by_cases hkb : k = b
    · subst hkb
      rw [if_pos rfl, if_pos (by omega), setR_at, setR_at]
      exact .inr ⟨rfl, G, c, rfl, hc1, hc2, hGS, hot G z hG hGS⟩
    · rw [if_neg (fun e => hkb e.symm), setR_ne _ _ _ hkb, setR_ne _ _ _ hkb]
      rcases r3 k hk with h1 | ⟨h1, F, c', h2, h3, h4, h5, h6⟩
      · exact .inl h1
      · exact .inr ⟨h1, F, c', h2, h3, h4, h5, hot F _ h6 h5⟩
  · exact FlAt.keep (h.flags.put hb) (heap_setCell_other _ _ _ _ (fun e => hRS (show R = S from Eq.symm e)))

def isB (neg : Bool) : Option Value → Bool
  | some (.bool b) => b == neg
  | _ => false

def rowOff (neg : Bool) (w : World) (T : Nat) : Option Value → Nat
  | some (.slice (some a) _ _) => ((List.range T).filter fun j => isB neg (w.cell? ⟨a.block, j, none⟩)).length
  | _ => 0

/-- How much the search can still do, as memory says. -/
def fwOff (neg : Bool) (R S n T : Nat) (w : World) : Nat := sumTo (fun i => if isB true (w.cell? ⟨S, i, none⟩) then rowOff neg w T (w.cell? ⟨R, i, none⟩) else T + 1) n

theorem FwM.off {R S n T : Nat} {w1 wr : World} {seen : Nat → Bool} {o : Nat → Nat → Bool} (h : FwM R S n T w1 wr seen o) (neg : Bool) : fwOff neg R S n T wr = sumTo (fun i => wtR neg T (seen i) (o i)) n := by
  obtain ⟨cur, r1, r2, r3⟩ := h.rows
  unfold fwOff
  refine sumTo_congr fun i hi => ?_
  rw [h.flags.cell hi, cell_of_block r1]
  unfold wtR
  rcases r3 i hi with ⟨h1, h2⟩ | ⟨h1, F, c, h2, h3, h4, h5, h6⟩
  · rw [h1]
    simp [isB]
  · rw [h1, h2]
    simp only [isB, beq_self_eq_true, if_true, rowOff]
    unfold offR
    congr 1
    apply List.filter_congr
    intro v hv
    rw [h6.cell (List.mem_range.mp hv)]

end Go.Proofs.YtbffldgiccijlaaGreatDoor
