/-
  Rows of numbers that a call owns.
  Sets of numbers below 64: one more member, a question.
  Whether a number is in a set.
  Sets in memory; numbers that wait.
  The next points of points: plain.
-/
import Derived.Test.YtlddoookojjleaaZCopy0
import Derived.Shelf.Spec.TrailingZeros
import Derived.Deep.RegionWith
import Derived.Test.YtlddoookojjleaaZBase
namespace Go.Proofs.Ytlddoookojjleaa
open Go.RowKit Go.Deep
set_option linter.unusedVariables false

/-- A value is a row of numbers that the call owns. -/
def RowI (w : World) (B : Nat) (v : Value) (xs : List Int) : Prop := w.ownsRow B 3 1 v xs.length (xs.map (Value.int .i64))

theorem RowI.below {w w' : World} {B : Nat} {v : Value} {xs : List Int} (h : RowI w B v xs) (hb : Below w.heap.size w w') : RowI w' B v xs :=
  h.kept (row := none) ⟨hb.os, hb.tape, hb.output, hb.size, fun k hk _ => hb.block k hk⟩ (by cases hv : v.ownBlock <;> simp)

theorem RowI.own {w : World} {B : Nat} {v : Value} {xs : List Int} (h : RowI w B v xs) : w.ownsRow B 3 1 v xs.length (xs.map (Value.int .i64)) := h

theorem RowI.snoc {w : World} {B : Nat} {v : Value} {xs : List Int} {x : Int} (h : w.ownsRow B 3 1 v (xs.length + 1) (xs.map (Value.int .i64) ++ [.int .i64 x])) : RowI w B v (xs ++ [x]) := by
  unfold RowI
  rw [List.length_append, List.map_append]
  exact h

theorem RowI.slice {w : World} {B : Nat} {v : Value} {xs : List Int} (h : RowI w B v xs) : ∃ A c, v = .slice A xs.length c := by
  rcases h.2 with ⟨hv, h0⟩ | ⟨g, cap, cur, hv, _⟩
  · exact ⟨none, 0, by rw [hv, h0]⟩
  · exact ⟨_, _, hv⟩

theorem RowI.mono {w : World} {B B' : Nat} {v : Value} {xs : List Int} (h : RowI w B v xs) (hb : B' ≤ B) : RowI w B' v xs := by
  refine ⟨h.1, ?_⟩
  rcases h.2 with h | ⟨g, cap, cur, h1, h2, h3⟩
  · exact .inl h
  · exact .inr ⟨g, cap, cur, h1, Nat.le_trans hb h2, h3⟩

theorem news1 {w : World} {H : Nat} {cs : Array Value} {t : TypeId} {l : List Value} (hH : w.heap.size = H) (hl : l.toArray = cs) : ∀ j u, l[j]? = some u → (w.alloc (.cells cs t)).cell? ((⟨H, 0, none⟩ : Addr).add j) = some u := by
  subst hH hl
  intro j u hj
  rw [add_block, Nat.zero_add, cell_of_block (heap_alloc_new _ _)]
  simpa using hj

end Go.Proofs.Ytlddoookojjleaa

namespace Go.Proofs.Ytlddoookojjleaa
open Go.RowKit Go.Deep
set_option linter.unusedVariables false

theorem bits_or_u64_nat (a b : Nat) (ha : a < 18446744073709551616) (hb : b < 18446744073709551616) : bits .or .u64 (a : Int) (b : Int) = ((a ||| b : Nat) : Int) := by
  have hx : a ||| b < 2 ^ 64 := Nat.or_lt_two_pow (by omega) (by omega)
  have h1 : (BitVec.ofInt 64 (a : Int)).toNat = a := by
    rw [BitVec.ofInt_natCast, BitVec.toNat_ofNat]; exact Nat.mod_eq_of_lt (by omega)
  have h2 : (BitVec.ofInt 64 (b : Int)).toNat = b := by
    rw [BitVec.ofInt_natCast, BitVec.toNat_ofNat]; exact Nat.mod_eq_of_lt (by omega)
  show IntKind.u64.wrap ((BitVec.ofInt 64 (a : Int) ||| BitVec.ofInt 64 (b : Int)).toNat : Int) = _
  rw [BitVec.toNat_or, h1, h2, IntKind.wrap_u64]
  omega

/-- A set with one more member. -/
theorem with_any (x i : Nat) (hx : x < 18446744073709551616) (hi : i < 64) (w : World) :
    Calls Try.prog 56 #[.int .u64 x, .int .i64 i] w fun E w' => E = .returned (.int .u64 ((x ||| 2 ^ i : Nat) : Int)) ∧ Below w.heap.size w w' := by
  have hp : 2 ^ i < 18446744073709551616 := Nat.pow_lt_pow_right (by decide) hi (n := 64)
  have hor := bits_or_u64_nat x (2 ^ i) hx hp
  go_enter Try.func56, Try.ntmps56
  have hw : IntKind.u64.wrap ((2 : Int) ^ i) = ((2 ^ i : Nat) : Int) := by
    have e : ((2 ^ i : Nat) : Int) = (2 : Int) ^ i := by simp
    rw [IntKind.wrap_u64, ← e]
    generalize 2 ^ i = d at hp
    omega
  have hor2 : bits BinOp.or IntKind.u64 (x : Int) ((2 : Int) ^ i) = ((x ||| 2 ^ i : Nat) : Int) := by
    rw [← hor]
    simp
  go_wp2_with fail
  try first | rw [hor] | rw [hor2]
  go_ret
  exact ⟨rfl, by first | exact Below.refl _ _ | exact (Below.refl _ _).drew⟩

end Go.Proofs.Ytlddoookojjleaa

namespace Go.Proofs.Ytlddoookojjleaa
open Go.RowKit Go.Deep
set_option linter.unusedVariables false

theorem bits_and_u64 (a b : Nat) (ha : a < 18446744073709551616) (hb : b < 18446744073709551616) : bits .and .u64 (a : Int) (b : Int) = ((a &&& b : Nat) : Int) := bits_and_u64_nat a b ha hb

theorem shr_and_one (x i : Nat) : (x / 2 ^ i) &&& 1 = if x.testBit i = true then 1 else 0 := by
  have e : x.testBit i = decide ((x / 2 ^ i) % 2 = 1) := by
    rw [← Nat.testBit_zero, ← Nat.shiftRight_eq_div_pow, Nat.testBit_shiftRight]; simp
  rw [Nat.and_one_is_mod, e]
  by_cases h : (x / 2 ^ i) % 2 = 1
  · rw [h]; rfl
  · have : (x / 2 ^ i) % 2 = 0 := by omega
    rw [this]; rfl

set_option maxHeartbeats 1000000 in
/-- Whether a number is in a set. -/
theorem bitHas_any (x i : Nat) (hx : x < 18446744073709551616) (hi : i < 64) (w : World) :
    Calls Try.prog 55 #[.int .u64 x, .int .i64 i] w fun E w' => E = .returned (.bool (x.testBit i)) ∧ w' = w := by
  have hd : x / 2 ^ i < 18446744073709551616 := Nat.lt_of_le_of_lt (Nat.div_le_self _ _) hx
  have hk := bits_and_u64 (x / 2 ^ i) 1 hd (by decide)
  rw [shr_and_one] at hk
  have e : (((x / 2 ^ i : Nat)) : Int) = (x : Int) / 2 ^ i := by simp
  rw [e] at hk
  cases hb : x.testBit i
  · rw [hb] at hk
    have hk2 : bits .and .u64 ((x : Int) / 2 ^ i) 1 = 0 := by simpa using hk
    clear hk
    go_enter Try.func55, Try.ntmps55
    go_wp2_with (simp only [hk2])
    go_ret
    exact ⟨rfl, rfl⟩
  · rw [hb] at hk
    have hk2 : bits .and .u64 ((x : Int) / 2 ^ i) 1 = 1 := by simpa using hk
    clear hk
    go_enter Try.func55, Try.ntmps55
    go_wp2_with (simp only [hk2])
    go_ret
    exact ⟨rfl, rfl⟩

end Go.Proofs.Ytlddoookojjleaa

namespace Go.Proofs.Ytlddoookojjleaa
open Go.RowKit Go.Deep
set_option linter.unusedVariables false

/-- Sets in memory. -/
def SetsAt (w : World) (C : Nat) (sets : Nat → Nat) : Prop := ∀ k, k < 61 → w.cell? ⟨C, k, none⟩ = some (.int .u64 (sets k : Int))

theorem SetsAt.below {w w' : World} {B C : Nat} {sets : Nat → Nat} (h : SetsAt w C sets) (hC : C < B) (hb : Below B w w') : SetsAt w' C sets := by
  intro k hk
  rw [← h k hk]
  unfold World.cell?
  rw [hb.block C hC]

theorem bits_andNot_u64 (a b : Nat) (ha : a < 18446744073709551616) (hb : b < 18446744073709551616) : ∃ z : Nat, bits .andNot .u64 (a : Int) (b : Int) = (z : Int) ∧ z < 18446744073709551616 ∧ ∀ k, k < 64 → z.testBit k = (a.testBit k && !b.testBit k) := by
  have h1 : (BitVec.ofInt 64 (a : Int)).toNat = a := by
    rw [BitVec.ofInt_natCast, BitVec.toNat_ofNat]; exact Nat.mod_eq_of_lt (by omega)
  have h2 : (BitVec.ofInt 64 (b : Int)).toNat = b := by
    rw [BitVec.ofInt_natCast, BitVec.toNat_ofNat]; exact Nat.mod_eq_of_lt (by omega)
  refine ⟨(BitVec.ofInt 64 (a : Int) &&& ~~~ BitVec.ofInt 64 (b : Int)).toNat, ?_, (BitVec.ofInt 64 (a : Int) &&& ~~~ BitVec.ofInt 64 (b : Int)).isLt, fun k hk => ?_⟩
  · show IntKind.u64.wrap ((BitVec.ofInt 64 (a : Int) &&& ~~~ BitVec.ofInt 64 (b : Int)).toNat : Int) = _
    have := (BitVec.ofInt 64 (a : Int) &&& ~~~ BitVec.ofInt 64 (b : Int)).isLt
    rw [IntKind.wrap_u64]
    omega
  · rw [BitVec.testBit_toNat, BitVec.getLsbD_and, BitVec.getLsbD_not, ← BitVec.testBit_toNat, ← BitVec.testBit_toNat, h1, h2]
    simp [hk]

def lenW : Value → Nat
  | .slice _ n _ => n
  | _ => 0

/-- The numbers that wait. -/
def intsW (W : List Nat) : List Int := W.map fun (k : Nat) => (k : Int)

theorem intsW_snoc (W : List Nat) (b : Nat) : intsW (W ++ [b]) = intsW W ++ [(b : Int)] := by simp [intsW]

theorem intsW_length (W : List Nat) : (intsW W).length = W.length := by simp [intsW]

theorem intsW_append (W V : List Nat) : intsW (W ++ V) = intsW W ++ intsW V := by simp [intsW]

theorem snoc_of {W : List Nat} (h : W ≠ []) : ∃ V b, W = V ++ [b] := ⟨W.dropLast, W.getLast h, (List.dropLast_concat_getLast h).symm⟩

end Go.Proofs.Ytlddoookojjleaa

namespace Go.Proofs.Ytlddoookojjleaa
open Go.RowKit Go.Deep
set_option linter.unusedVariables false

/-- The next points of a point. -/
def nextN (ns : List Nd) (a : Nat) : List Nat := (nextP ns a).map Int.toNat

/-- A row of sets, nothing behind its end. -/
def clip (f : Nat → Nat) : Nat → Nat := fun k => if k < 61 then f k else 0

theorem mem_nextN {q : Nat} {ns : List Nd} (hD : PtsOk q ns) (hle : ns.length ≤ 61) (a b : Nat) : b ∈ nextN ns a ↔ Edge ns ns.length 0 a b := by
  unfold nextN
  rw [List.mem_map]
  constructor
  · rintro ⟨v, hv, rfl⟩
    by_cases haq : a < q
    · obtain ⟨d, h1, h2⟩ := hD.2.2 a haq
      rw [nextP_some h1] at hv
      have h0 := h2.le v hv
      obtain ⟨i, hi, hiv⟩ := List.mem_iff_getElem.mp hv
      refine ⟨d, i, h1, ?_, .inl (by have := hD.1; omega)⟩
      rw [List.getElem?_eq_getElem hi, hiv]
      congr 1
      omega
    · by_cases hq : a = q
      · subst hq
        rw [nextP_some hD.2.1] at hv
        cases hv
      · have : ns[a]? = none := List.getElem?_eq_none (by have := hD.1; omega)
        simp [nextP, this] at hv
  · rintro ⟨d, i, h1, h2, _⟩
    refine ⟨(b : Int), ?_, by simp⟩
    rw [nextP_some h1]
    exact List.mem_of_getElem? h2

theorem Edge.lt {q : Nat} {ns : List Nd} (hD : PtsOk q ns) (hle : ns.length ≤ 61) {a b : Nat} (h : Edge ns ns.length 0 a b) : a < 61 ∧ b < 61 := by
  obtain ⟨d, i, h1, h2, _⟩ := h
  have ha := (List.getElem?_eq_some_iff.mp h1).1
  refine ⟨by omega, ?_⟩
  have hq := hD.1
  by_cases haq : a < q
  · obtain ⟨d', h3, h4⟩ := hD.2.2 a haq
    rw [h1] at h3
    cases h3
    have := h4.le _ (List.mem_of_getElem? h2)
    omega
  · have : a = q := by omega
    subst this
    rw [hD.2.1] at h1
    cases h1
    simp at h2

theorem clip_ah {q : Nat} {ns : List Nd} {ah bk : Nat → Nat} (hD : PtsOk q ns) (hle : ns.length ≤ 61) (hS : Sets2 (Edge ns ns.length 0) ah bk) (a b : Nat) : b ∈ bitsOf (clip ah a) ↔ b ∈ nextN ns a := by
  rw [mem_nextN hD hle, mem_bitsOf]
  unfold clip
  constructor
  · rintro ⟨h1, h2⟩
    split at h2
    · exact (hS.ah a b (by omega) h1).mp h2
    · simp at h2
  · intro h
    have hl := h.lt hD hle
    rw [if_pos hl.1]
    exact ⟨by omega, (hS.ah a b (by omega) (by omega)).mpr h⟩

theorem clip_bk {q : Nat} {ns : List Nd} {ah bk : Nat → Nat} (hD : PtsOk q ns) (hle : ns.length ≤ 61) (hS : Sets2 (Edge ns ns.length 0) ah bk) (a b : Nat) : a ∈ bitsOf (clip bk b) ↔ b ∈ nextN ns a := by
  rw [mem_nextN hD hle, mem_bitsOf]
  unfold clip
  constructor
  · rintro ⟨h1, h2⟩
    split at h2
    · exact (hS.bk a b h1 (by omega)).mp h2
    · simp at h2
  · intro h
    have hl := h.lt hD hle
    rw [if_pos hl.2]
    exact ⟨by omega, (hS.bk a b (by omega) (by omega)).mpr h⟩

theorem clip_lt {f : Nat → Nat} (h : ∀ i, f i < 18446744073709551616) (k : Nat) : clip f k < 18446744073709551616 := by
  unfold clip
  split
  · exact h k
  · decide

theorem nextN_ints {q : Nat} {ns : List Nd} (hD : PtsOk q ns) {k : Nat} {d : Nd} (hd : ns[k]? = some d) : intsW (nextN ns k) = d.next ∧ ∀ x ∈ nextN ns k, x < ns.length := by
  have h0 : ∀ v ∈ d.next, 0 ≤ v ∧ v ≤ q := by
    have hk := (List.getElem?_eq_some_iff.mp hd).1
    have hq := hD.1
    by_cases hkq : k < q
    · obtain ⟨d', h1, h2⟩ := hD.2.2 k hkq
      rw [hd] at h1
      cases h1
      exact h2.le
    · have : k = q := by omega
      subst this
      rw [hD.2.1] at hd
      cases hd
      intro v hv
      cases hv
  unfold nextN
  rw [nextP_some hd]
  constructor
  · unfold intsW
    rw [List.map_map]
    conv => rhs; rw [← List.map_id d.next]
    apply List.map_congr_left
    intro v hv
    have := h0 v hv
    simp
    omega
  · intro x hx
    obtain ⟨v, hv, rfl⟩ := List.mem_map.mp hx
    have := h0 v hv
    have := hD.1
    omega

theorem nextN_two {q : Nat} {ns : List Nd} (hD : PtsOk q ns) {k : Nat} {d : Nd} (hd : ns[k]? = some d) : d.next.length ≤ 2 := by
  have hk := (List.getElem?_eq_some_iff.mp hd).1
  have hq := hD.1
  by_cases hkq : k < q
  · obtain ⟨d', h1, h2⟩ := hD.2.2 k hkq
    rw [hd] at h1
    cases h1
    exact h2.two
  · have : k = q := by omega
    subst this
    rw [hD.2.1] at hd
    cases hd
    simp

end Go.Proofs.Ytlddoookojjleaa
