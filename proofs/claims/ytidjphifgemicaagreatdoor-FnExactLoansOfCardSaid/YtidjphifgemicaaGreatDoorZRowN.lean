/-
  Rows of loan values: owned, read, compared, written over and read again.
-/
import Derived.Test.YtidjphifgemicaaGreatDoorZMem
import Derived.Test.YtidjphifgemicaaGreatDoorZMarks
import Derived.StillTailTactics
import Derived.Deep.MidRow
namespace Go.Proofs.YtidjphifgemicaaGreatDoor
open Go.RowKit Go.Deep
set_option linter.unusedVariables false

/-- A loan. -/
structure LoanD where
  p : Int
  u : Bool
  v : Int

def LoanD.cells (d : LoanD) : List Value := [.int .i64 d.p, .bool d.u, .int .i64 d.v]

theorem LoanD.cells_length (d : LoanD) : d.cells.length = 3 := rfl

theorem flatN_length : ∀ (l : List LoanD), (l.flatMap LoanD.cells).length = l.length * 3
  | [] => rfl
  | d :: l => by
    rw [List.flatMap_cons, List.length_append, flatN_length l, d.cells_length, List.length_cons]
    omega

theorem flatN_get : ∀ (l : List LoanD) (j i : Nat) (d : LoanD), l[j]? = some d → i < 3 → (l.flatMap LoanD.cells)[j * 3 + i]? = d.cells[i]?
  | [], j, i, d, h, _ => by simp at h
  | e :: l, 0, i, d, h, hi => by
    simp only [List.getElem?_cons_zero, Option.some.injEq] at h
    subst h
    rw [List.flatMap_cons, Nat.zero_mul, Nat.zero_add, List.getElem?_append_left (by rw [e.cells_length]; exact hi)]
  | e :: l, j + 1, i, d, h, hi => by
    rw [List.getElem?_cons_succ] at h
    rw [List.flatMap_cons, List.getElem?_append_right (by rw [e.cells_length]; omega), e.cells_length, show (j + 1) * 3 + i - 3 = j * 3 + i from by omega]
    exact flatN_get l j i d h hi

/-- A value is a row that the call owns. -/
def RowN (w : World) (B : Nat) (v : Value) (l : List LoanD) : Prop := w.ownsRow B 51 3 v l.length (l.flatMap LoanD.cells)

theorem RowN.below {w w' : World} {B : Nat} {v : Value} {l : List LoanD} (h : RowN w B v l) (hb : Below w.heap.size w w') : RowN w' B v l :=
  World.ownsRow.kept (row := none) h ⟨hb.os, hb.tape, hb.output, hb.size, fun k hk _ => hb.block k hk⟩ (by cases hv : v.ownBlock <;> simp)

theorem RowN.own {w : World} {B : Nat} {v : Value} {l : List LoanD} (h : RowN w B v l) : w.ownsRow B 51 3 v l.length (l.flatMap LoanD.cells) := h

theorem RowN.keep {w w' : World} {B : Nat} {v : Value} {l : List LoanD} (h : RowN w B v l) (hk : ∀ g, v.ownBlock = some g → w'.heap[g]? = w.heap[g]?) : RowN w' B v l := by
  refine ⟨h.1, ?_⟩
  rcases h.2 with h | ⟨g, cap, cur, h1, h2, h3, h4⟩
  · exact .inl h
  · exact .inr ⟨g, cap, cur, h1, h2, (hk g (by rw [h1]; rfl)).trans h3, h4⟩

theorem RowN.mono {w : World} {B B' : Nat} {v : Value} {l : List LoanD} (h : RowN w B v l) (hb : B' ≤ B) : RowN w B' v l := by
  refine ⟨h.1, ?_⟩
  rcases h.2 with h | ⟨g, cap, cur, e1, e2, e3⟩
  · exact .inl h
  · exact .inr ⟨g, cap, cur, e1, Nat.le_trans hb e2, e3⟩

theorem RowN.lt {w : World} {B : Nat} {v : Value} {l : List LoanD} (h : RowN w B v l) : ∀ g, v.ownBlock = some g → B ≤ g ∧ g < w.heap.size := World.ownsRow.lt h

theorem RowN.nil (w : World) (B : Nat) : RowN w B (.slice none 0 0) [] := World.ownsRow_nil w B 51 3

theorem RowN.slice {w : World} {B : Nat} {v : Value} {l : List LoanD} (h : RowN w B v l) : ∃ A c, v = .slice A l.length c := by
  rcases h.2 with ⟨e1, e2⟩ | ⟨g, cap, cur, e1, _⟩
  · exact ⟨none, 0, by rw [e1, e2]⟩
  · exact ⟨_, _, e1⟩

theorem RowN.snoc {w : World} {B : Nat} {v : Value} {l : List LoanD} {d : LoanD} (h : w.ownsRow B 51 3 v (l.length + 1) (l.flatMap LoanD.cells ++ [.int .i64 d.p, .bool d.u, .int .i64 d.v])) : RowN w B v (l ++ [d]) := by
  unfold RowN
  rw [List.length_append, List.flatMap_append]
  simpa [LoanD.cells] using h

/-- A value reads as a row. -/
def RdN (w : World) (v : Value) (l : List LoanD) : Prop :=
  ∃ A c, v = .slice A l.length c ∧ l.length ≤ c ∧ c ≤ maxLen ∧ (0 < l.length → ∃ g, A = some ⟨g, 0, none⟩ ∧ g < w.heap.size ∧ ∀ k d, l[k]? = some d →
    w.cell? ⟨g, k * 3, none⟩ = some (.int .i64 d.p) ∧ w.cell? ⟨g, k * 3 + 1, none⟩ = some (.bool d.u) ∧ w.cell? ⟨g, k * 3 + 2, none⟩ = some (.int .i64 d.v))

theorem RdN.below {w w' : World} {v : Value} {l : List LoanD} (h : RdN w v l) (hb : Below w.heap.size w w') : RdN w' v l := by
  obtain ⟨A, c, h1, h2, h3, h4⟩ := h
  refine ⟨A, c, h1, h2, h3, fun h0 => ?_⟩
  obtain ⟨g, h5, h6, h7⟩ := h4 h0
  refine ⟨g, h5, Nat.lt_of_lt_of_le h6 hb.size, fun k d hd => ?_⟩
  have hc := h7 k d hd
  exact ⟨(hb.cell h6).trans hc.1, (hb.cell h6).trans hc.2.1, (hb.cell h6).trans hc.2.2⟩

theorem RowN.reads {w : World} {B : Nat} {v : Value} {l : List LoanD} (h : RowN w B v l) : RdN w v l := by
  rcases h.2 with ⟨h1, h2⟩ | ⟨g, cap, cur, h1, h2, h3, h4, h5, h6, h7⟩
  · exact ⟨none, 0, by rw [h1, h2], by omega, by simp [maxLen], fun h => absurd h (by omega)⟩
  · refine ⟨_, _, h1, h4, h5, fun _ => ⟨g, rfl, heap_lt h3, fun k d hd => ?_⟩⟩
    have hc : ∀ i u, i < 3 → d.cells[i]? = some u → w.cell? ⟨g, k * 3 + i, none⟩ = some u := fun i u hi hu => by
      have := World.ownsRow.cells h (g := g) (by rw [h1]; rfl) (k * 3 + i) u (by rw [flatN_get l k i d hd hi]; exact hu)
      rwa [add_block, Nat.zero_add] at this
    exact ⟨hc 0 _ (by omega) rfl, hc 1 _ (by omega) rfl, hc 2 _ (by omega) rfl⟩

set_option maxHeartbeats 1000000 in
theorem eqLoan_any (d : LoanD) (w : World) : Calls Tryz.prog 53 #[.agg #[.int .i64 d.p, .bool d.u, .int .i64 d.v], .agg #[.int .i64 d.p, .bool d.u, .int .i64 d.v]] w fun e w' => e = .returned (.bool true) ∧ Below w.heap.size w w' := by
  have hbw : ∀ o1 o2 : Obj, Below w.heap.size w ((w.alloc o1).alloc o2) := fun o1 o2 => ((Below.refl w.heap.size w).alloc (Nat.le_refl _) o1).alloc (by simp) o2
  have hbw1 : ∀ o1 : Obj, Below w.heap.size w (w.alloc o1) := fun o1 => (Below.refl w.heap.size w).alloc (Nat.le_refl _) o1
  go_enter Tryz.func53, Tryz.ntmps53
  go_wp2_with fail
  go_ret
  exact ⟨rfl, by first | exact hbw _ _ | exact hbw1 _ | exact Below.refl _ _⟩

set_option maxRecDepth 100000 in
set_option maxHeartbeats 2000000 in
theorem eqLoanS_any (ns : List LoanD) (v v' : Value) (w : World) (hn : ns.length ≤ 10000000) (h : RdN w v ns) (h' : RdN w v' ns) :
    Calls Tryz.prog 15 #[v, v'] w fun e w' => e = .returned (.bool true) ∧ Below w.heap.size w w' := by
  obtain ⟨A, c, hv, hc1, hc2, -⟩ := id h
  obtain ⟨A', c', hv', hc1', hc2', -⟩ := id h'
  obtain ⟨q, hq⟩ : ∃ q, q = ns.length := ⟨_, rfl⟩
  rw [← hq] at hv hv' hc1 hc1' hn
  subst hv hv'
  unfold maxLen at hc2 hc2'
  have HN := Lib.hid hq
  have H := Lib.hid h
  have H' := Lib.hid h'
  clear hq h h'
  go_enter Tryz.func15, Tryz.ntmps15
  go_wp2_with fail
  go_loopw [5] (fun i wr => ∃ k : Nat, k ≤ q ∧ i = .int .i64 k ∧ Below w.heap.size w wr) (fun i _ => q - (intOf i).toNat)
  case atStart => exact ⟨0, Nat.zero_le _, rfl, Below.refl _ _⟩
  case round =>
    obtain ⟨k, hk, rfl, hb⟩ := hrel
    by_cases hlt : k < q
    · have hkd : k < ns.length := by rw [← HN.out]; exact hlt
      obtain ⟨A1, c1, e1, -, -, h4⟩ := H.out.below hb
      obtain ⟨A2, c2, e2, -, -, h4'⟩ := H'.out.below hb
      injection e1 with e1 e1m e1'
      subst e1 e1'
      injection e2 with e2 e2m e2'
      subst e2 e2'
      obtain ⟨g, rfl, hg, hc⟩ := h4 (by omega)
      obtain ⟨g', rfl, hg', hc'⟩ := h4' (by omega)
      obtain ⟨d, hd⟩ : ∃ d, ns[k]? = some d := ⟨ns[k], List.getElem?_eq_getElem hkd⟩
      have hcd := hc k d hd
      have hcd' := hc' k d hd
      clear hd hc hc'
      obtain ⟨x0, x1, x2⟩ := d
      obtain ⟨a0, a1, a2⟩ := hcd
      obtain ⟨b0, b1, b2⟩ := hcd'
      dsimp only at a0 b0 a1 b1 a2 b2
      clear h4 h4' e1m e2m
      go_wp2_with fail
      go_still_tail 8, (by kernel_rfl)
      change wpList _ _ _ _ _ wr.drew
      have hbd : Below w.heap.size w wr.drew := hb.drew
      have hE := eqLoan_any ⟨x0, x1, x2⟩ wr.drew
      dsimp only at hE
      have hbz := hbd.size
      clear hb a0 b0 a1 b1 a2 b2
      generalize wr.drew = w2 at *
      go_wp2_with fail
      refine hE.mono ?_
      rintro E w3 ⟨rfl, hb3⟩
      go_wp2_with fail
      go_roundw
      case rel => exact ⟨k + 1, by omega, by go_num, hbd.trans (hb3.mono hbz)⟩
      case measure => simp [intOf]; omega
    · have hk' : k = q := by omega
      subst hk'
      go_wp2_with fail
      go_ret
      exact ⟨rfl, hb⟩

/-- The flag that is written for a number. -/
def b3N (z : Int) : Bool := z % 3 == 0

/-- A row that holds what was written over it. -/
def MkN (w : World) (g n : Nat) (k : Int) : Prop := ∀ j : Nat, j < n → w.cell? ⟨g, j * 3, none⟩ = some (.int .i64 (k + 3 * j + 0)) ∧ w.cell? ⟨g, j * 3 + 1, none⟩ = some (.bool (b3N (k + 3 * j + 1))) ∧ w.cell? ⟨g, j * 3 + 2, none⟩ = some (.int .i64 (k + 3 * j + 2))

theorem markLoanS_nil (A : Option Addr) (c : Nat) (k : Int) (w : World) : Calls Tryz.prog 18 #[.slice A 0 c, .int .i64 k] w fun E w' => E = .returned (.int .i64 k) ∧ w = w' := by
  go_enter Tryz.func18, Tryz.ntmps18
  go_wp2_with fail
  go_loop [1, 5] (fun q i => q = .int .i64 k ∧ i = .int .i64 0) (fun _ _ => 0)
  case atStart => exact ⟨rfl, rfl⟩
  case round =>
    obtain ⟨rfl, rfl⟩ := hrel
    go_wp2_with fail
    go_ret
    exact ⟨rfl, rfl⟩

theorem heldLoanS_nil (A : Option Addr) (c : Nat) (k : Int) (w : World) : Calls Tryz.prog 19 #[.slice A 0 c, .int .i64 k] w fun E w' => E = .returned (.int .i64 k) ∧ w = w' := by
  go_enter Tryz.func19, Tryz.ntmps19
  go_wp2_with fail
  go_loop [1, 5] (fun q i => q = .int .i64 k ∧ i = .int .i64 0) (fun _ _ => 0)
  case atStart => exact ⟨rfl, rfl⟩
  case round =>
    obtain ⟨rfl, rfl⟩ := hrel
    go_wp2_with fail
    go_ret
    exact ⟨rfl, rfl⟩

theorem isSome_setN (a : World) (g o o' : Nat) (x : Value) (h : (a.cell? ⟨g, o', none⟩).isSome = true) : ((a.setCell ⟨g, o, none⟩ x).cell? ⟨g, o', none⟩).isSome = true :=
  World.isSome_setCells g [x] o a ⟨g, o', none⟩ h

/-- Only block g changed. -/
structure OneN (g : Nat) (w w' : World) : Prop where
  os : w'.os = w.os
  tape : w'.tape = w.tape
  output : w'.output = w.output
  size : w'.heap.size = w.heap.size
  block : ∀ k, k ≠ g → w'.heap[k]? = w.heap[k]?
  frozen : ∀ p : Addr, w'.frozen? p = w.frozen? p

theorem OneN.refl (g : Nat) (w : World) : OneN g w w := ⟨rfl, rfl, rfl, rfl, fun _ _ => rfl, fun _ => rfl⟩

theorem OneN.set {g : Nat} {a b : World} (h : OneN g a b) (o : Nat) (x : Value) : OneN g a (b.setCell ⟨g, o, none⟩ x) :=
  ⟨h.os, h.tape, h.output, by rw [← h.size]; simp [World.setCell], fun k hk => (heap_setCell_other _ _ _ _ (fun e => hk e)).trans (h.block k hk), fun p => by rw [World.frozen?_setCell]; exact h.frozen p⟩

set_option maxRecDepth 100000 in
set_option maxHeartbeats 4000000 in
theorem markLoanS_row (n c g : Nat) (k : Int) (w : World) (hn : n ≤ c) (hn2 : n ≤ 1000) (hc : c ≤ maxLen) (hk : 0 ≤ k) (hk2 : k ≤ 1000) (hcell : ∀ o, o < n * 3 → ∃ v, w.cell? ⟨g, o, none⟩ = some v) (hf : ∀ o, w.frozen? ⟨g, o, none⟩ = false) :
    Calls Tryz.prog 18 #[.slice (some ⟨g, 0, none⟩) n c, .int .i64 k] w fun E w' => E = .returned (.int .i64 (k + 3 * n)) ∧ OneN g w w' ∧ MkN w' g n k := by
  unfold maxLen at hc
  have HC := Lib.hid hcell
  clear hcell
  go_enter Tryz.func18, Tryz.ntmps18
  go_wp2_with fail
  go_loopw [1, 5] (fun q i wr => ∃ j : Nat, j ≤ n ∧ i = .int .i64 j ∧ q = .int .i64 (k + 3 * j) ∧ Hid (OneN g w wr) ∧ Hid (∀ o, o < n * 3 → ∃ v, wr.cell? ⟨g, o, none⟩ = some v) ∧ Hid (MkN wr g j k)) (fun _ i _ => n - (intOf i).toNat)
  case atStart => exact ⟨0, Nat.zero_le _, rfl, by simp, OneN.refl _ _, HC, fun i hi => absurd hi (by omega)⟩
  case round =>
    clear HC
    obtain ⟨j, hj, rfl, rfl, hO, HC, hmk⟩ := hrel
    by_cases hlt : j < n
    · obtain ⟨v0, h0⟩ := HC.out (j * 3) (by omega)
      obtain ⟨v1, h1⟩ := HC.out (j * 3 + 1) (by omega)
      obtain ⟨v2, h2⟩ := HC.out (j * 3 + 2) (by omega)
      have hfr : ∀ o, wr.frozen? ⟨g, o, none⟩ = false := fun o => (hO.out.frozen _).trans (hf o)
      have hfr0 := hfr (j * 3)
      have hfr1 := hfr (j * 3 + 1)
      have hfr2 := hfr (j * 3 + 2)
      have hz : ∀ x : Int, k + 3 * ((j : Nat) : Int) = x → x < 10000 ∧ 0 ≤ x := fun x hx => by omega
      have hO2 : Hid (OneN g w (((wr.setCell ⟨g, j * 3, none⟩ (.int .i64 (k + 3 * j))).setCell ⟨g, j * 3 + 1, none⟩ (.bool (b3N (k + 3 * j + 1)))).setCell ⟨g, j * 3 + 2, none⟩ (.int .i64 (k + 3 * j + 1 + 1)))) := (((hO.out.set (j * 3) (.int .i64 (k + 3 * j))).set (j * 3 + 1) (.bool (b3N (k + 3 * j + 1)))).set (j * 3 + 2) (.int .i64 (k + 3 * j + 1 + 1)))
      have HC2 : Hid (∀ o, o < n * 3 → ∃ v, (((wr.setCell ⟨g, j * 3, none⟩ (.int .i64 (k + 3 * j))).setCell ⟨g, j * 3 + 1, none⟩ (.bool (b3N (k + 3 * j + 1)))).setCell ⟨g, j * 3 + 2, none⟩ (.int .i64 (k + 3 * j + 1 + 1))).cell? ⟨g, o, none⟩ = some v) := fun o ho => by
        obtain ⟨v, hv⟩ := HC.out o ho
        have i0 : (wr.cell? ⟨g, o, none⟩).isSome = true := by rw [hv]; rfl
        have i1 := isSome_setN wr g (j * 3) o (.int .i64 (k + 3 * j)) i0
        have i2 := isSome_setN (wr.setCell ⟨g, j * 3, none⟩ (.int .i64 (k + 3 * j))) g (j * 3 + 1) o (.bool (b3N (k + 3 * j + 1))) i1
        have i3 := isSome_setN ((wr.setCell ⟨g, j * 3, none⟩ (.int .i64 (k + 3 * j))).setCell ⟨g, j * 3 + 1, none⟩ (.bool (b3N (k + 3 * j + 1)))) g (j * 3 + 2) o (.int .i64 (k + 3 * j + 1 + 1)) i2
        exact Option.isSome_iff_exists.mp i3
      have hmk2 : Hid (MkN (((wr.setCell ⟨g, j * 3, none⟩ (.int .i64 (k + 3 * j))).setCell ⟨g, j * 3 + 1, none⟩ (.bool (b3N (k + 3 * j + 1)))).setCell ⟨g, j * 3 + 2, none⟩ (.int .i64 (k + 3 * j + 1 + 1))) g (j + 1) k) := by
        intro i hi
        have e : ∀ (o o' : Nat) (x : Value) (a : World), o ≠ o' → (a.setCell ⟨g, o, none⟩ x).cell? ⟨g, o', none⟩ = a.cell? ⟨g, o', none⟩ := fun o o' x a h => World.cell?_setCell_other _ _ _ _ (fun e => by injection e with _ e; exact h e)
        by_cases hij : i = j
        · subst hij
          refine ⟨?_, ?_, ?_⟩
          · rw [e _ _ _ _ (by omega)]; rw [e _ _ _ _ (by omega)]; rw [World.cell?_setCell_same _ _ _ (u := v0) (by exact h0)]; try simp; try omega
          · rw [e _ _ _ _ (by omega)]; rw [World.cell?_setCell_same _ _ _ (u := v1) (by rw [e _ _ _ _ (by omega)]; exact h1)]; try simp; try omega
          ·  rw [World.cell?_setCell_same _ _ _ (u := v2) (by rw [e _ _ _ _ (by omega)]; rw [e _ _ _ _ (by omega)]; exact h2)]; try simp; try omega
        · have hm := hmk.out i (by omega)
          refine ⟨?_, ?_, ?_⟩
          · rw [e _ _ _ _ (by omega)]; rw [e _ _ _ _ (by omega)]; rw [e _ _ _ _ (by omega)]; exact hm.1
          · rw [e _ _ _ _ (by omega)]; rw [e _ _ _ _ (by omega)]; rw [e _ _ _ _ (by omega)]; exact hm.2.1
          · rw [e _ _ _ _ (by omega)]; rw [e _ _ _ _ (by omega)]; rw [e _ _ _ _ (by omega)]; exact hm.2.2
      unfold b3N at hO2 HC2 hmk2
      clear hmk HC hf hfr hO
      go_wp2_with fail
      go_roundw
      case rel => exact ⟨j + 1, by omega, by go_num, by first | go_num | (congr 1; omega), hO2, HC2, hmk2⟩
      case measure => simp [intOf]; omega
    · have hjn : j = n := by omega
      subst hjn
      go_wp2_with fail
      go_ret
      exact ⟨rfl, hO.out, hmk.out⟩

set_option maxRecDepth 100000 in
set_option maxHeartbeats 4000000 in
theorem heldLoanS_row (n c g : Nat) (k : Int) (w : World) (hn : n ≤ c) (hn2 : n ≤ 1000) (hc : c ≤ maxLen) (hk : 0 ≤ k) (hk2 : k ≤ 1000) (hgl : g < w.heap.size) (hcell : MkN w g n k) :
    Calls Tryz.prog 19 #[.slice (some ⟨g, 0, none⟩) n c, .int .i64 k] w fun E w' => E = .returned (.int .i64 (k + 3 * n)) ∧ Below w.heap.size w w' := by
  unfold maxLen at hc
  have HC := Lib.hid hcell
  clear hcell
  go_enter Tryz.func19, Tryz.ntmps19
  go_wp2_with fail
  go_loopw [1, 5] (fun q i wr => ∃ j : Nat, j ≤ n ∧ i = .int .i64 j ∧ q = .int .i64 (k + 3 * j) ∧ Hid (Below w.heap.size w wr)) (fun _ i _ => n - (intOf i).toNat)
  case atStart => exact ⟨0, Nat.zero_le _, rfl, by simp, Below.refl _ _⟩
  case round =>
    obtain ⟨j, hj, rfl, rfl, HB⟩ := hrel
    by_cases hlt : j < n
    · have hm := HC.out j hlt
      unfold b3N at hm
      obtain ⟨h0, h1, h2⟩ := hm
      have h0 := (HB.out.cell (p := ⟨g, j * 3, none⟩) hgl).trans h0
      have h1 := (HB.out.cell (p := ⟨g, j * 3 + 1, none⟩) hgl).trans h1
      have h2 := (HB.out.cell (p := ⟨g, j * 3 + 2, none⟩) hgl).trans h2
      go_wp2_with fail
      go_roundw
      case rel => exact ⟨j + 1, by omega, by go_num, by first | go_num | (congr 1; omega), HB⟩
      case measure => simp [intOf]; omega
    · have hjn : j = n := by omega
      subst hjn
      go_wp2_with fail
      go_ret
      exact ⟨rfl, HB.out⟩

/-- A row that was written over from k on. -/
def MarkedN (w : World) (v : Value) (n : Nat) (k : Int) : Prop :=
  (n = 0 ∧ ∃ A c, v = .slice A 0 c) ∨ ∃ g c, v = .slice (some ⟨g, 0, none⟩) n c ∧ n ≤ c ∧ c ≤ maxLen ∧ g < w.heap.size ∧ MkN w g n k

theorem MarkedN.below {w w' : World} {v : Value} {n : Nat} {k : Int} (h : MarkedN w v n k) (hb : Below w.heap.size w w') : MarkedN w' v n k := by
  rcases h with h | ⟨g, c, h1, h2, h3, h4, h5⟩
  · exact .inl h
  · refine .inr ⟨g, c, h1, h2, h3, Nat.lt_of_lt_of_le h4 hb.size, fun j hj => ?_⟩
    have hc := h5 j hj
    exact ⟨(hb.cell h4).trans hc.1, (hb.cell h4).trans hc.2.1, (hb.cell h4).trans hc.2.2⟩

theorem markLoanS_val (B : Nat) (v : Value) (l : List LoanD) (k : Int) (w : World) (h : RowN w B v l) (hn : l.length ≤ 1000) (hk : 0 ≤ k) (hk2 : k ≤ 1000) :
    Calls Tryz.prog 18 #[v, .int .i64 k] w fun E w' => E = .returned (.int .i64 (k + 3 * l.length)) ∧ MarkedN w' v l.length k ∧ Below B w w' := by
  rcases h.2 with ⟨hv, h0⟩ | ⟨g, cap, cur, hv, h2, h3, h4, h5, h6, h7⟩
  · subst hv
    refine (markLoanS_nil none 0 k w).mono ?_
    rintro E w' ⟨rfl, rfl⟩
    exact ⟨by rw [h0]; simp, .inl ⟨h0, none, 0, rfl⟩, Below.refl _ _⟩
  · have hcell : ∀ o, o < l.length * 3 → ∃ z, w.cell? ⟨g, o, none⟩ = some z := fun o ho => ⟨_, by
      rw [cell_of_block h3, Array.getElem?_eq_getElem (by rw [h6]; have := Nat.mul_le_mul_right 3 h4; omega)]⟩
    subst hv
    refine (markLoanS_row l.length cap g k w h4 hn h5 hk hk2 hcell (fun o => frozen_of_block h3 o)).mono ?_
    rintro E w' ⟨rfl, hM, hc⟩
    exact ⟨rfl, .inr ⟨g, cap, rfl, h4, h5, by rw [hM.size]; exact heap_lt h3, hc⟩, ⟨hM.os, hM.tape, hM.output, Nat.le_of_eq hM.size.symm, fun k hk => hM.block k (by omega)⟩⟩

theorem heldLoanS_val (v : Value) (n : Nat) (k : Int) (w : World) (h : MarkedN w v n k) (hn : n ≤ 1000) (hk : 0 ≤ k) (hk2 : k ≤ 1000) :
    Calls Tryz.prog 19 #[v, .int .i64 k] w fun E w' => E = .returned (.int .i64 (k + 3 * n)) ∧ Below w.heap.size w w' := by
  rcases h with ⟨h0, A, c, hv⟩ | ⟨g, c, hv, h2, h3, h4, h5⟩
  · subst hv h0
    refine (heldLoanS_nil A c k w).mono ?_
    rintro E w' ⟨rfl, rfl⟩
    exact ⟨by simp, Below.refl _ _⟩
  · subst hv
    exact heldLoanS_row n c g k w h2 hn h3 hk hk2 h4 h5

end Go.Proofs.YtidjphifgemicaaGreatDoor
