/-
  The model's draws, and its memories.
-/
import Derived.Test.YtfkoobdlhdolbaaDoorCelR
import Derived.Deep.QuietTactic
import Derived.BigQuiet
import Derived.IntWalk
import Derived.Test.YtfkoobdlhdolbaaDoorKB
import Derived.Test.YtfkoobdlhdolbaaDoorKA
import Derived.Test.YtfkoobdlhdolbaaDoorAccD
namespace Go.Proofs.YtfkoobdlhdolbaaDoor
open Go.RowKit Go.Deep
set_option linter.unusedVariables false

/-- A slice reads as bytes, in blocks below hi. -/
def ByteV (w : World) (hi n : Nat) (A : Option Addr) (c : Nat) : Prop :=
  n ≤ c ∧ c ≤ maxLen ∧ (0 < n → ∃ b, A = some b ∧ b.block < hi ∧ ∀ j, j < n → ∃ v : Int, w.cell? (b.add j) = some (.int .u8 v) ∧ 0 ≤ v ∧ v ≤ 255)

theorem ByteV.below {w w' : World} {hi hi' n : Nat} {A : Option Addr} {c : Nat} (h : ByteV w hi n A c) (hb : Below hi w w') (hhi : hi ≤ hi') : ByteV w' hi' n A c :=
  ⟨h.1, h.2.1, fun hn => by
    obtain ⟨b, rfl, hbb, hc⟩ := h.2.2 hn
    exact ⟨b, rfl, by omega, fun j hj => by
      obtain ⟨v, hv, h0, h1⟩ := hc j hj
      exact ⟨v, (hb.cell (by rw [block_add]; exact hbb)).trans hv, h0, h1⟩⟩⟩

/-- A source of draws in block R, of which at most P were taken. -/
def SrcV (w : World) (R P : Nat) : Prop := ∃ (n c : Nat) (A : Option Addr) (p : Nat), w.heap[R]? = some (.cells #[.slice A n c, .int .i64 (p : Int)] 105 (0, 0)) ∧ ByteV w R n A c ∧ p ≤ P

theorem SrcV.lt {w : World} {R P : Nat} (h : SrcV w R P) : R < w.heap.size := by
  obtain ⟨n, c, A, p, hR, _⟩ := h
  exact heap_lt hR

theorem SrcV.below {w w' : World} {R P : Nat} (h : SrcV w R P) (hb : Below w.heap.size w w') : SrcV w' R P := by
  have hl := h.lt
  obtain ⟨n, c, A, p, hR, hB, hp⟩ := h
  exact ⟨n, c, A, p, (hb.block R hl).trans hR, hB.below (hb.mono (by omega)) (Nat.le_refl _), hp⟩

theorem SrcV.more {w : World} {R P P' : Nat} (h : SrcV w R P) (hp : P ≤ P') : SrcV w R P' := by
  obtain ⟨n, c, A, p, hR, hB, hp'⟩ := h
  exact ⟨n, c, A, p, hR, hB, by omega⟩

/-- Another block changed. -/
theorem SrcV.one {w w' : World} {R P g : Nat} (h : SrcV w R P) (hO : One g w w') (hg : R < g) : SrcV w' R P := by
  obtain ⟨n, c, A, p, hR, hB, hp⟩ := h
  exact ⟨n, c, A, p, (hO.block R (by omega)).trans hR, hB.below (hO.below (by omega)) (Nat.le_refl _), hp⟩

theorem xor_small (x y : Nat) (hx : x < 2 ^ 40) (hy : y < 2 ^ 40) : bits BinOp.xor IntKind.i64 (x : Int) (y : Int) = ((x ^^^ y : Nat) : Int) := by
  have h : (BitVec.ofInt 64 (x : Int) ^^^ BitVec.ofInt 64 (y : Int)).toNat = x ^^^ y := by
    rw [BitVec.toNat_xor, BitVec.toNat_ofInt, BitVec.toNat_ofInt]
    have e1 : ((x : Int) % ((2 ^ 64 : Nat) : Int)).toNat = x := by omega
    have e2 : ((y : Int) % ((2 ^ 64 : Nat) : Int)).toNat = y := by omega
    rw [e1, e2]
  show IntKind.i64.wrap ((BitVec.ofInt 64 (x : Int) ^^^ BitVec.ofInt 64 (y : Int)).toNat : Int) = _
  rw [h]
  have := Nat.xor_lt_two_pow hx hy
  exact IntWalk.i64_in _ (by omega)

/-- What a draw leaves: a number below m, one more taken, and all but the source as it was. -/
def PickP (R P : Nat) (m : Int) (w : World) (E : Ending) (w' : World) : Prop := ∃ v : Nat, (v : Int) < m ∧ E = .returned (.int .i64 (v : Int)) ∧ SrcV w' R (P + 1) ∧ One R w w'

theorem src_next {w : World} {R P n c p : Nat} {A : Option Addr} (hR : w.heap[R]? = some (.cells #[.slice A n c, .int .i64 (p : Int)] 105 (0, 0))) (hB : ByteV w R n A c) (hp : p ≤ P) :
    SrcV (w.setCell ⟨R, 1, none⟩ (.int .i64 ((p : Int) + 1))) R (P + 1) ∧ One R w (w.setCell ⟨R, 1, none⟩ (.int .i64 ((p : Int) + 1))) := by
  have hO := (One.refl R w).set 1 (.int .i64 ((p : Int) + 1))
  refine ⟨⟨n, c, A, p + 1, ?_, hB.below (hO.below (Nat.le_refl _)) (Nat.le_refl _), by omega⟩, hO⟩
  have e : (((p + 1 : Nat) : Int)) = (p : Int) + 1 := by omega
  rw [e]
  simp [World.setCell, Array.getElem?_modify, hR]

set_option maxRecDepth 100000 in
set_option maxHeartbeats 2000000 in
theorem pick_any (R P : Nat) (m : Int) (w : World) (hm : 1 ≤ m) (hm2 : m ≤ 100000) (h : SrcV w R P) (hP : P ≤ 100000) :
    Calls Tryd.prog 72 #[.pointer (some ⟨R, 0, none⟩), .int .i64 m] w (PickP R P m w) := by
  obtain ⟨n, c, A, p, hR, hB, hp⟩ := h
  have hnc := hB.1
  have hcm := hB.2.1
  unfold maxLen at hcm
  have c0 : w.cell? ⟨R, 0, none⟩ = some (.slice A n c) := (cell_of_block hR 0).trans rfl
  have c1 : w.cell? ⟨R, 1, none⟩ = some (.int .i64 (p : Int)) := (cell_of_block hR 1).trans rfl
  have f1 := frozen_of_block hR 1
  obtain ⟨hsrc, hone⟩ := src_next hR hB hp
  have HS := Lib.hid hsrc
  have HO := Lib.hid hone
  have hw1 : IntKind.i64.wrap ((p : Int) + 1) = (p : Int) + 1 := IntWalk.i64_in _ (by omega)
  have hw2 : IntKind.i64.wrap ((p : Int) + 1 - 1) = (p : Int) := by rw [show (p : Int) + 1 - 1 = p by omega]; exact IntWalk.i64_in _ (by omega)
  have hw3 : IntKind.i64.wrap (p : Int) = (p : Int) := IntWalk.i64_in _ (by omega)
  have hm1 : decide (m < 1) = false := decide_eq_false (by omega)
  clear hsrc hone hR
  by_cases hn : n = 0
  · subst hn
    go_enter Tryd.func72, Tryd.ntmps72
    go_wp2_with fail
    go_ret
    exact ⟨0, by omega, rfl, HS.out, HO.out⟩
  · obtain ⟨b, rfl, hbb, hcell⟩ := hB.2.2 (by omega)
    have hn' : ((n : Int) == 0) = false := by simp; omega
    have hkeep : ∀ j, (w.setCell ⟨R, 1, none⟩ (.int .i64 ((p : Int) + 1))).cell? (b.add j) = w.cell? (b.add j) := fun j => World.cell?_setCell_other _ _ _ _ (fun e => by have := congrArg Addr.block e; rw [block_add] at this; simp at this; omega)
    by_cases hk : p < n
    · obtain ⟨v, hv, hv0, hv1⟩ := hcell p hk
      have hv' := (hkeep p).trans hv
      have t1 : decide ((p : Int) < (n : Int)) = true := decide_eq_true (by omega)
      have hmod0 : 0 ≤ v % m := Int.emod_nonneg _ (by omega)
      have hmod1 : v % m < m := Int.emod_lt_of_pos _ (by omega)
      clear hcell hv hkeep hB
      go_enter Tryd.func72, Tryd.ntmps72
      go_wp2_with fail
      go_ret
      exact ⟨(v % m).toNat, by omega, by rw [Int.toNat_of_nonneg hmod0]; rfl, HS.out, HO.out⟩
    · have t1 : decide ((p : Int) < (n : Int)) = false := decide_eq_false (by omega)
      obtain ⟨v1, h1, h10, h11⟩ := hcell (p % n) (Nat.mod_lt _ (by omega))
      obtain ⟨v2, h2, h20, h21⟩ := hcell ((p * 7 + 3) % n) (Nat.mod_lt _ (by omega))
      have h1' := (hkeep _).trans h1
      have h2' := (hkeep _).trans h2
      obtain ⟨j1, hj1⟩ : ∃ j, p % n = j := ⟨_, rfl⟩
      obtain ⟨j2, hj2⟩ : ∃ j, (p * 7 + 3) % n = j := ⟨_, rfl⟩
      obtain ⟨d, hd⟩ : ∃ d, p / n = d := ⟨_, rfl⟩
      have hdp : d ≤ p := by rw [← hd]; exact Nat.div_le_self _ _
      have hj1n : j1 < n := by rw [← hj1]; exact Nat.mod_lt _ (by omega)
      have hj2n : j2 < n := by rw [← hj2]; exact Nat.mod_lt _ (by omega)
      have e1 : (p : Int).tmod (n : Int) = (j1 : Int) := by rw [Int.tmod_eq_emod_of_nonneg (by omega), ← hj1]; simp
      have e2 : ((p : Int) * 7 + 3).tmod (n : Int) = (j2 : Int) := by rw [Int.tmod_eq_emod_of_nonneg (by omega), ← hj2]; simp
      have e3 : (p : Int).tdiv (n : Int) = (d : Int) := by rw [Int.tdiv_eq_ediv_of_nonneg (by omega), ← hd]; simp
      rw [hj1] at h1'
      rw [hj2] at h2'
      obtain ⟨u1, rfl⟩ : ∃ u : Nat, v1 = (u : Int) := ⟨v1.toNat, by omega⟩
      obtain ⟨u2, rfl⟩ : ∃ u : Nat, v2 = (u : Int) := ⟨v2.toNat, by omega⟩
      have hw7 : IntKind.i64.wrap ((p : Int) * 7) = (p : Int) * 7 := IntWalk.i64_in _ (by omega)
      have hw8 : IntKind.i64.wrap ((p : Int) * 7 + 3) = (p : Int) * 7 + 3 := IntWalk.i64_in _ (by omega)
      have hx1 : IntKind.i64.wrap ((u1 : Int) * 131) = (u1 : Int) * 131 := IntWalk.i64_in _ (by omega)
      have hx2 : IntKind.i64.wrap ((u2 : Int) * 1117) = (u2 : Int) * 1117 := IntWalk.i64_in _ (by omega)
      have hx3 : IntKind.i64.wrap ((u1 : Int) * 131 + (u2 : Int) * 1117) = (u1 : Int) * 131 + (u2 : Int) * 1117 := IntWalk.i64_in _ (by omega)
      have hx4 : IntKind.i64.wrap ((p : Int) * 29) = (p : Int) * 29 := IntWalk.i64_in _ (by omega)
      have hx5 : IntKind.i64.wrap ((u1 : Int) * 131 + (u2 : Int) * 1117 + (p : Int) * 29) = (u1 : Int) * 131 + (u2 : Int) * 1117 + (p : Int) * 29 := IntWalk.i64_in _ (by omega)
      have hx6 : IntKind.i64.wrap ((d : Int) * 53) = (d : Int) * 53 := IntWalk.i64_in _ (by omega)
      have hx7 : IntKind.i64.wrap ((u1 : Int) * 131 + (u2 : Int) * 1117 + (p : Int) * 29 + (d : Int) * 53) = (u1 : Int) * 131 + (u2 : Int) * 1117 + (p : Int) * 29 + (d : Int) * 53 := IntWalk.i64_in _ (by omega)
      have hy1 : IntKind.i64.wrap (u1 : Int) = (u1 : Int) := IntWalk.i64_in _ (by omega)
      have hy2 : IntKind.i64.wrap (u2 : Int) = (u2 : Int) := IntWalk.i64_in _ (by omega)
      obtain ⟨X, hX⟩ : ∃ X : Nat, (X : Int) = (u1 : Int) * 131 + (u2 : Int) * 1117 + (p : Int) * 29 + (d : Int) * 53 := ⟨u1 * 131 + u2 * 1117 + p * 29 + d * 53, by omega⟩
      have HX : Hid ((X : Int) = (u1 : Int) * 131 + (u2 : Int) * 1117 + (p : Int) * 29 + (d : Int) * 53 ∧ X < 2 ^ 40) := ⟨hX, by omega⟩
      clear hj1 hj2 hd hX h10 h11 h20 h21
      clear hcell h1 h2 hkeep hB
      go_enter Tryd.func72, Tryd.ntmps72
      go_wp2_with fail
      obtain ⟨mm, rfl⟩ : ∃ mm : Nat, m = (mm : Int) := ⟨m.toNat, by omega⟩
      have hXs := Nat.div_le_self X 64
      have g1 : (X : Int).tdiv 64 = ((X / 64 : Nat) : Int) := by rw [Int.tdiv_eq_ediv_of_nonneg (by omega)]; simp
      have g2 : bits BinOp.xor IntKind.i64 (X : Int) ((X / 64 : Nat) : Int) = ((X ^^^ (X / 64) : Nat) : Int) := xor_small _ _ HX.out.2 (by have := HX.out.2; omega)
      obtain ⟨D, hD⟩ : ∃ D, X / 64 = D := ⟨_, rfl⟩
      rw [hD] at g1 g2 hXs
      obtain ⟨Y, hY⟩ : ∃ Y, X ^^^ D = Y := ⟨_, rfl⟩
      rw [hY] at g2
      have g3 : (Y : Int).tmod (mm : Int) = ((Y % mm : Nat) : Int) := by rw [Int.tmod_eq_emod_of_nonneg (by omega)]; simp
      have g4 : Y % mm < mm := Nat.mod_lt _ (by omega)
      obtain ⟨Z, hZ⟩ : ∃ Z, Y % mm = Z := ⟨_, rfl⟩
      rw [hZ] at g3 g4
      have g5 : IntKind.i64.wrap (D : Int) = (D : Int) := IntWalk.i64_in _ (by have := HX.out.2; omega)
      clear hD hY hZ hXs
      go_quiet (fail)
      rw [← HX.out.1]
      go_wp2_with fail
      go_ret
      exact ⟨Z, by omega, rfl, HS.out, ⟨HO.out.os, HO.out.tape, HO.out.output, HO.out.size, HO.out.block, HO.out.frozen⟩⟩

def pcells (p : Int × Int) : List Value := [.int .i64 p.1, .int .i64 p.2]

theorem pcells_length (p : Int × Int) : (pcells p).length = 2 := rfl

/-- A value is a row of pointers that the call owns. -/
def RowPt (w : World) (B : Nat) (v : Value) (ps : List (Int × Int)) : Prop := w.ownsRow B 25 2 v ps.length (ps.flatMap pcells)

theorem RowPt.below {w w' : World} {B : Nat} {v : Value} {ps : List (Int × Int)} (h : RowPt w B v ps) (hb : Below w.heap.size w w') : RowPt w' B v ps := own_below h hb

theorem RowPt.one {w w' : World} {B g : Nat} {v : Value} {ps : List (Int × Int)} (h : RowPt w B v ps) (hO : One g w w') (hg : g < B) : RowPt w' B v ps := own_keep h fun k hk => hO.block k (by have := (h.lt k hk).1; omega)

theorem RowPt.form {w : World} {B : Nat} {v : Value} {ps : List (Int × Int)} (h : RowPt w B v ps) : ∃ A c, v = .slice A ps.length c ∧ ps.length ≤ c ∧ c ≤ maxLen := by
  obtain ⟨A, c, h1, h2, h3, _⟩ := own_form h
  exact ⟨A, c, h1, h2, h3⟩

theorem RowPt.elem {w : World} {B c : Nat} {A : Option Addr} {ps : List (Int × Int)} (h : RowPt w B (.slice A ps.length c) ps) {k : Nat} (hk : k < ps.length) :
    ∃ g x t, A = some ⟨g, 0, none⟩ ∧ B ≤ g ∧ g < w.heap.size ∧ w.cell? ⟨g, k * 2, none⟩ = some (.int .i64 x) ∧ w.cell? ⟨g, k * 2 + 1, none⟩ = some (.int .i64 t) := by
  obtain ⟨A', c', hv, _, _, hA⟩ := own_form h
  injection hv with e1 e2 e3
  subst e1 e3
  obtain ⟨g, rfl, hB, hg⟩ := hA (by omega)
  have hd : ps[k]? = some ps[k] := List.getElem?_eq_getElem hk
  have hc : ∀ i u, i < 2 → (pcells ps[k])[i]? = some u → w.cell? ⟨g, k * 2 + i, none⟩ = some u := fun i u hi hu => by
    have := World.ownsRow.cells h (g := g) rfl (k * 2 + i) u (by rw [flat_get pcells_length ps k i _ hd hi]; exact hu)
    rwa [add_block, Nat.zero_add] at this
  exact ⟨g, _, _, rfl, hB, hg, hc 0 _ (by omega) rfl, hc 1 _ (by omega) rfl⟩

theorem own_ptr {w : World} {B H : Nat} (a b : Int) (hH : w.heap.size = H) (hB : B ≤ H) : RowPt (w.alloc (.cells #[.int .i64 a, .int .i64 b] 25)) B (.slice (some ⟨H, 0, none⟩) 1 1) [(a, b)] := by
  subst hH
  exact World.ownsRow_lit (base := B) (e := 25) (size := 2) w #[.int .i64 a, .int .i64 b] 1 hB (by simp [maxLen]) rfl

theorem RowPt.snoc {w : World} {B n : Nat} {v : Value} {ps : List (Int × Int)} {a b : Int} (h : w.ownsRow B 25 2 v (n + 1) (ps.flatMap pcells ++ [.int .i64 a, .int .i64 b])) (hn : ps.length = n) : RowPt w B v (ps ++ [(a, b)]) := by
  subst hn
  unfold RowPt
  rw [List.length_append, List.flatMap_append]
  exact h

/-- A row of cells where another block changed. -/
theorem RowC.one {w w' : World} {B g : Nat} {v : Value} {cs : List CellD} (h : RowC w B v cs) (hO : One g w w') (hg : g < B) : RowC w' B v cs :=
  (h.cap.span (hO.span (Nat.le_refl g) (Nat.lt_succ_self g)) (.inl hg)).rowC

theorem Tryd.infoPtr : (Tryd.prog.info? 25).map (fun i => (i.zero, i.size, i.bytes)) = some (some (.agg #[.int .i64 0, .int .i64 0]), 2, 16) := by kernel_rfl

set_option maxRecDepth 100000 in
set_option maxHeartbeats 1000000 in
/-- One of a list of numbers. -/
theorem num_any (R P Q : Nat) (L : List Int) (w : World) (hQ : w.heap[Q]? = some (.cells (L.map (Value.int .i64)).toArray 3 (0, 0))) (hRQ : R < Q) (hL : 1 ≤ L.length) (hL2 : L.length ≤ 1000) (h : SrcV w R P) (hP : P ≤ 100000) :
    Calls Tryd.prog 51 #[.pointer (some ⟨R, 0, none⟩), .slice (some ⟨Q, 0, none⟩) L.length L.length] w fun E w' => ∃ v ∈ L, E = .returned (.int .i64 v) ∧ SrcV w' R (P + 1) ∧ One R w w' := by
  obtain ⟨n, hn⟩ : ∃ n, L.length = n := ⟨_, rfl⟩
  have HQ := Lib.hid hQ
  have HN := Lib.hid hn
  have HP := Lib.hid (pick_any R P (n : Int) w (by omega) (by omega) h hP)
  rw [hn] at hL hL2 ⊢
  clear hQ h hn
  go_enter Tryd.func51, Tryd.ntmps51
  go_wp2_with fail
  refine HP.out.mono ?_
  rintro E w1 ⟨v, hv, rfl, hs, ho⟩
  have hvn : v < n := by omega
  have hvL : v < L.length := by rw [HN.out]; exact hvn
  have hc : w1.cell? ⟨Q, v, none⟩ = some (.int .i64 L[v]) := by
    rw [cell_of_block ((ho.block Q (by omega)).trans HQ.out)]
    simp [hvL]
  have HS := Lib.hid hs
  have HO := Lib.hid ho
  obtain ⟨z, hz⟩ : ∃ z, L[v] = z := ⟨_, rfl⟩
  rw [hz] at hc
  have HZ : Hid (z ∈ L) := by rw [← hz]; exact List.getElem_mem hvL
  clear hs ho hz hvL
  go_wp2_with fail
  go_ret
  exact ⟨z, HZ.out, rfl, HS.out, HO.out⟩

/-- A row that another row's growth leaves alone. -/
theorem RowC.grown {w w' : World} {B : Nat} {v : Value} {cs : List CellD} {row : Option Nat} (h : RowC w B v cs) (hg : w.grownBy w' row) (hr : ∀ k, row = some k → k < B) : RowC w' B v cs := by
  obtain ⟨rs, h1, h2⟩ := h
  have hk : ∀ g, B ≤ g → g < w.heap.size → w'.heap[g]? = w.heap[g]? := fun g h3 h4 => hg.block g h4 (fun e => by have := hr g e.symm; omega)
  exact ⟨rs, h1, own_keep h2.own fun g hg' => hk g (h2.own.lt g hg').1 (h2.own.lt g hg').2, fun j p hp => own_keep (h2.tags j p hp) fun g hg' => hk g (World.ownsRow.lt (h2.tags j p hp) g hg').1 (World.ownsRow.lt (h2.tags j p hp) g hg').2, h2.apart⟩

theorem SrcV.grown {w w' : World} {R P : Nat} {row : Option Nat} (h : SrcV w R P) (hg : w.grownBy w' row) (hr : ∀ k, row = some k → R < k) : SrcV w' R P := by
  have hl := h.lt
  obtain ⟨n, c, A, p, hR, hB, hp⟩ := h
  exact ⟨n, c, A, p, (hg.block R hl (fun e => by have := hr R e.symm; omega)).trans hR, hB.below ((Below.refl R w).grown hg (by omega) (fun k hk => by have := hr k hk; omega)) (Nat.le_refl _), hp⟩

/-- What the draw leaves. -/
def DrawM (R P B : Nat) (w : World) (E : Ending) (w' : World) : Prop := ∃ (cs : List CellD) (ps : List (Int × Int)) (A A' : Option Addr) (c c' : Nat), E = .returned (.tuple #[.slice A cs.length c, .slice A' ps.length c']) ∧ RowC w' B (.slice A cs.length c) cs ∧ RowPt w' B (.slice A' ps.length c') ps ∧ MemOk cs ∧ 1 ≤ cs.length ∧ cs.length + tagSum cs ≤ 30 ∧ 1 ≤ ps.length ∧ ps.length ≤ 30 ∧ SrcV w' R (P + 40) ∧ Below R w w' ∧ B ≤ w'.heap.size

/-- What holds in the loop. -/
structure DrawL (R P B k : Nat) (cs : List CellD) (ps : List (Int × Int)) (m l : Value) (w wr : World) : Prop where
  row : RowC wr B m cs
  pts : RowPt wr B l ps
  ok : MemOk cs
  one : 1 ≤ cs.length
  sz : cs.length + tagSum cs ≤ 2 + 2 * (8 - k)
  pone : 1 ≤ ps.length
  psz : ps.length ≤ 9 - k
  src : SrcV wr R (P + 2 + 3 * (8 - k))
  bel : Below R w wr
  up : B ≤ wr.heap.size

set_option maxRecDepth 100000 in
set_option maxHeartbeats 8000000 in
theorem l6Draw_any (R P : Nat) (w : World) (h : SrcV w R P) (hP : P ≤ 10000) :
    Calls Tryd.prog 71 #[.pointer (some ⟨R, 0, none⟩)] w (DrawM R P w.heap.size w) := by
  have hRl := h.lt
  obtain ⟨i0, hi, hz0, hz1, hz2⟩ := info_parts Tryd.infoPtr
  have HI := Lib.hid hi
  have HZ0 := Lib.hid hz0
  have HZ1 := Lib.hid hz1
  have HZ2 := Lib.hid hz2
  have HPK := Lib.hid (pick_any R P 10 w (by omega) (by omega) h (by omega))
  clear hi hz0 hz1 hz2 h
  go_enter Tryd.func71, Tryd.ntmps71
  go_wp2_with fail
  refine HPK.out.mono ?_
  rintro E w1 ⟨v1, hv1, rfl, hs1, ho1⟩
  have hz1 := ho1.size
  have hb1 : Below R w w1 := ho1.below (Nat.le_refl _)
  have hN := specNewCell_any [] none 0 0 (v1 : Int) w1 (RowC.nil w1 0).reads (by simp [tagSum])
  rw [newA_eq memOk_nil (by omega) (by omega) (by simp)] at hN
  have HN := Lib.hid hN
  have HS1 := Lib.hid hs1
  have HB1 := Lib.hid hb1
  have HOK : Hid (CellOk ⟨(v1 : Int), true, 1, [⟨0, true⟩]⟩) := cellOk_new (by omega) (by omega)
  clear hN hs1 ho1 hb1
  go_wp2_with fail
  refine HN.out.mono ?_
  rintro E w2 ⟨A2, n2, c2, rfl, hr2, hb2⟩
  have hn2 := hr2.reads.len.1
  subst hn2
  have HR2 := Lib.hid hr2
  have HB2 := Lib.hid hb2
  clear hr2 hb2 HN HPK
  go_wp2_with fail
  have hba : Below w2.heap.size w2 (((w2.alloc (.cells #[.int .i64 0, .int .i64 0] 25)).alloc (.cells #[.int .i64 0, .int .i64 0] 25)).alloc (.cells #[.int .i64 4, .int .i64 2, .int .i64 6, .int .i64 8, .int .i64 1] 3)) := (((Below.refl _ _).alloc (Nat.le_refl _) _).alloc (by simp) _).alloc (by simp; omega) _
  have hs2 := HB2.out.size
  have hz3 : (((w2.alloc (.cells #[.int .i64 0, .int .i64 0] 25)).alloc (.cells #[.int .i64 0, .int .i64 0] 25)).alloc (.cells #[.int .i64 4, .int .i64 2, .int .i64 6, .int .i64 8, .int .i64 1] 3)).heap.size = w2.heap.size + 3 := by simp
  refine (num_any R (P + 1) _ [4, 2, 6, 8, 1] _ (three_2 w2 _ _ _) (by omega) (by decide) (by decide) ((HS1.out.below HB2.out).below hba) (by omega)).mono ?_
  rintro E w4 ⟨v4, hv4, rfl, hs4, ho4⟩
  have hz4 : w4.heap.size = w2.heap.size + 3 := ho4.size.trans hz3
  obtain ⟨k4, rfl, hk4⟩ : ∃ k : Nat, v4 = (k : Int) ∧ k ≤ 8 := by
    simp only [List.mem_cons, List.not_mem_nil, or_false] at hv4
    exact ⟨v4.toNat, by omega, by omega⟩
  have hrow4 : RowC w4 w.heap.size (.slice A2 1 c2) [⟨(v1 : Int), true, 1, [⟨0, true⟩]⟩] := ((HR2.out.below hba).mono (show w.heap.size ≤ w1.heap.size by omega)).one ho4 hRl
  have hpt4 : RowPt w4 w.heap.size (.slice (some ⟨w2.heap.size + 1, 0, none⟩) 1 1) [(0, 0)] := by
    have h5 : RowPt ((w2.alloc (.cells #[.int .i64 0, .int .i64 0] 25)).alloc (.cells #[.int .i64 0, .int .i64 0] 25)) w.heap.size (.slice (some ⟨w2.heap.size + 1, 0, none⟩) 1 1) [(0, 0)] := own_ptr 0 0 (by simp) (by omega)
    exact (h5.below ((Below.refl _ _).alloc (Nat.le_refl _) _)).one ho4 hRl
  have hbel4 : Below R w w4 := ((HB1.out.trans (HB2.out.mono (by omega))).trans (hba.mono (by omega))).trans (ho4.below (Nat.le_refl _))
  have HL4 : Hid (DrawL R P w.heap.size k4 [⟨(v1 : Int), true, 1, [⟨0, true⟩]⟩] [(0, 0)] (.slice A2 1 c2) (.slice (some ⟨w2.heap.size + 1, 0, none⟩) 1 1) w w4) :=
    ⟨hrow4, hpt4, memOk_snoc memOk_nil HOK.out (by simp), by simp, by simp [tagSum], by simp, by simp; omega, hs4.more (by omega), hbel4, by omega⟩
  clear hrow4 hpt4 hbel4 hs4 ho4 hba hs2 hz3 hz4 hv4 HS1 HB1 HR2 HB2 hz1
  go_wp2_with fail
  go_loopw [4, 7, 8] (fun m l i wr => ∃ (k : Nat) (cs : List CellD) (ps : List (Int × Int)) (A A' : Option Addr) (c c' : Nat), m = .slice A cs.length c ∧ l = .slice A' ps.length c' ∧ i = .int .i64 (k : Int) ∧ k ≤ 8 ∧ Hid (DrawL R P w.heap.size k cs ps (.slice A cs.length c) (.slice A' ps.length c') w wr)) (fun _ _ i _ => (intOf i).toNat)
  case atStart => exact ⟨k4, _, _, _, _, _, _, rfl, rfl, rfl, hk4, HL4⟩
  case round =>
    obtain ⟨k, cs, ps, A, A', c, c', rfl, rfl, rfl, hk8, HL⟩ := hrel
    by_cases hk0 : k = 0
    · subst hk0
      go_wp2_with fail
      go_ret2
      obtain ⟨g1, g2, g3, g4, g5, g6, g7, g8, g9, g10⟩ := HL.out
      exact ⟨cs, ps, _, _, _, _, rfl, g1, g2, g3, g4, by omega, g6, by omega, g8.more (by omega), g9, g10⟩
    · obtain ⟨I, hI⟩ : ∃ I : Int, (k : Int) = I := ⟨_, rfl⟩
      rw [hI]
      have HII := Lib.hid hI
      have ht0 : decide (0 < I) = true := decide_eq_true (by omega)
      have hwI : IntKind.i64.wrap (I - 1) = I - 1 := IntWalk.i64_in _ (by omega)
      obtain ⟨N, hN⟩ : ∃ N, ps.length = N := ⟨_, rfl⟩
      have hN1 : 1 ≤ N ∧ N ≤ 9 := by have := HL.out.pone; have := HL.out.psz; omega
      have HPK := Lib.hid (pick_any R _ (N : Int) wr (by omega) (by omega) HL.out.src (by omega))
      have HNN := Lib.hid hN
      rw [hN]
      clear hI hN
      go_wp2_with fail
      refine HPK.out.mono ?_
      rintro E w5 ⟨v5, hv5, rfl, hs5, ho5⟩
      have hv5N : v5 < N := by omega
      have hpt5 := HL.out.pts.one ho5 hRl
      have hrow5 := HL.out.row.one ho5 hRl
      have hbel5 := HL.out.bel.trans (ho5.below (Nat.le_refl _))
      have hup5 : w.heap.size ≤ w5.heap.size := by rw [ho5.size]; exact HL.out.up
      obtain ⟨gl, x, t, hA', hgl, hgl2, e0, e1⟩ := hpt5.elem (by rw [HNN.out]; exact hv5N)
      subst hA'
      rw [HNN.out] at hpt5
      have HPT5 := Lib.hid hpt5
      have HROW5 := Lib.hid hrow5
      have HBEL5 := Lib.hid hbel5
      have HSRC5 := Lib.hid hs5
      clear hs5 ho5 hpt5 hrow5 hbel5 HPK
      go_wp2_with fail
      have hb6 : Below w5.heap.size w5 (w5.alloc (.cells #[.int .i64 x, .int .i64 t] 25)) := (Below.refl _ _).alloc (Nat.le_refl _) _
      refine (pick_any R _ 6 _ (by omega) (by omega) (HSRC5.out.below hb6) (by omega)).mono ?_
      rintro E w7 ⟨u, hu, rfl, hs7, ho7⟩
      have hz7 : w7.heap.size = w5.heap.size + 1 := ho7.size.trans (by simp)
      have hrow7 := (HROW5.out.below hb6).one ho7 hRl
      have hpt7 := (HPT5.out.below hb6).one ho7 hRl
      have hbel7 := (HBEL5.out.trans (hb6.mono (by omega))).trans (ho7.below (Nat.le_refl _))
      have hy7 := (ho7.block w5.heap.size (by omega)).trans (heap_alloc_new w5 (.cells #[.int .i64 x, .int .i64 t] 25))
      have HROW7 := Lib.hid hrow7
      have HPT7 := Lib.hid hpt7
      have HBEL7 := Lib.hid hbel7
      have HSRC7 := Lib.hid hs7
      have hup7 : w.heap.size ≤ w7.heap.size := by omega
      have y0 := (cell_of_block hy7 0).trans (show _ = some (.int .i64 x) from rfl)
      have y1 := (cell_of_block hy7 1).trans (show _ = some (.int .i64 t) from rfl)
      have HLD := HL.out
      obtain ⟨-, -, hok, hone, hsz, hpone, hpsz, -, -, -⟩ := HLD
      have hlen : cs.length ≤ 18 := by omega
      have HOK7 := Lib.hid hok
      have hpn : ps.length = N := HNN.out
      have HPN := Lib.hid hpn
      have hkI : (k : Int) = I := HII.out
      have HKI := Lib.hid hkI
      have hone2 := Lib.hid hone
      have hsz2 := Lib.hid hsz
      have hpsz2 := Lib.hid hpsz
      have hpone2 := Lib.hid hpone
      clear hrow7 hpt7 hbel7 hs7 ho7 hy7 hb6 HROW5 HPT5 HBEL5 HSRC5 e0 e1 hok hpn hone hsz hpsz hpone hkI hgl hgl2 hv5 hv5N
      have hu6 : u = 0 ∨ u = 1 ∨ u = 2 ∨ u = 3 ∨ u = 4 ∨ u = 5 := by omega
      clear hu
      rcases hu6 with rfl | rfl | rfl | rfl | rfl | rfl
      · have hPK := Lib.hid (pick_any R _ 10 w7 (by omega) (by omega) HSRC7.out (by omega))
        go_wp2_with fail
        refine hPK.out.mono ?_
        rintro E w8 ⟨v8, hv8, rfl, hs8, ho8⟩
        have hz8 := ho8.size
        have hrow8 := HROW7.out.one ho8 hRl
        have HPT8 := Lib.hid (HPT7.out.one ho8 hRl)
        have HBEL8 := Lib.hid (HBEL7.out.trans (ho8.below (Nat.le_refl _)))
        have HSRC8 := Lib.hid hs8
        have hN := specNewCell_any cs A cs.length c (v8 : Int) w8 hrow8.reads (by have := hsz2.out; omega)
        rw [newA_eq HOK7.out (by omega) (by omega) (by omega)] at hN
        have HN := Lib.hid hN
        have HOK8 := Lib.hid (memOk_snoc HOK7.out (cellOk_new (v := (v8 : Int)) (by omega) (by omega)) (by omega))
        have HBA := Lib.hid (fun q (hq : (Value.slice (some ⟨gl, 0, none⟩) N c').ownBlock = some q) => World.ownsRow.lt HPT8.out q hq)
        clear hs8 ho8 hrow8 hN hPK y0 y1
        go_wp2_with fail
        refine HN.out.mono ?_
        rintro E w9 ⟨A9, n9, c9, rfl, hr9, hb9⟩
        have hn9 := hr9.reads.len.1
        have hz9 := hb9.size
        obtain ⟨m9, hm9⟩ : ∃ m9, cs ++ [(⟨(v8 : Int), true, 1, [⟨0, true⟩]⟩ : CellD)] = m9 := ⟨_, rfl⟩
        have hl9 : m9.length = cs.length + 1 ∧ tagSum m9 = tagSum cs + 1 := by rw [← hm9, tagSum_snoc]; simp
        rw [hm9] at hr9 HOK8 hn9
        have HL9 := Lib.hid hl9
        clear hl9
        subst hn9
        obtain ⟨LC, hLC⟩ : ∃ LC : Int, (cs.length : Int) = LC := ⟨_, rfl⟩
        have HR9 := Lib.hid hr9
        have HPT9 := Lib.hid (HPT8.out.below hb9)
        have HBEL9 := Lib.hid (HBEL8.out.trans (hb9.mono (by omega)))
        have HSRC9 := Lib.hid (HSRC8.out.below hb9)
        clear hr9 hb9 HN
        simp only [hLC]
        clear hLC hm9
        go_wp2_with (at_builtin; refine wpList_append_lies _ rfl _ _ 88 rfl w.heap.size 25 i0 (.agg #[.int .i64 0, .int .i64 0]) 2 16 Tryd.underlying88 HI.out HZ0.out HZ1.out HZ2.out rfl (by decide) _ _ _ rfl (World.ownsRow.alloc (World.ownsRow.alloc HPT9.out _) _) ⟨_, 0, none⟩ 1 1 [.int .i64 LC, .int .i64 0] rfl rfl ?ra11 ?ra12 (by decide) ?ra13 ?ra14 ?ra15 _ rfl ?_)
        try (case ra11 => exact news1 (by simp) rfl)
        try (case ra12 => intro u hu; simp only [List.mem_cons, List.not_mem_nil, or_false] at hu; rcases hu with rfl | rfl <;> rfl)
        try (case ra13 => have := HPN.out; unfold maxLen; omega)
        try (case ra14 => have := HPN.out; omega)
        try (case ra15 => simp; omega)
        intro g cap w' hown' hgr hat hlt'
        have hb3 : Below w9.heap.size w9 ((w9.alloc (.cells #[.int .i64 LC, .int .i64 0] 25)).alloc (.cells #[.int .i64 LC, .int .i64 0] 25)) := ((Below.refl _ _).alloc (Nat.le_refl _) _).alloc (by simp) _
        have hz3 : ((w9.alloc (.cells #[.int .i64 LC, .int .i64 0] 25)).alloc (.cells #[.int .i64 LC, .int .i64 0] 25)).heap.size = w9.heap.size + 2 := by simp
        have hrn := ((HR9.out.below hb3).grown hgr (fun q hq => (HBA.out q hq).2)).mono (show w.heap.size ≤ _ by omega)
        have hpn := RowPt.snoc (a := LC) (b := 0) (ps := ps) (by first | exact hown' | (have := hown'; rwa [← HPN.out] at this)) rfl
        have hsn := ((HSRC9.out).below hb3).grown hgr (fun q hq => by have := (HBA.out q hq).1; omega)
        have hbn := ((HBEL9.out).trans (hb3.mono (by omega))).grown hgr (by omega) (fun q hq => by have := (HBA.out q hq).1; omega)
        have hzn := hgr.size
        clear hown' hgr hat hb3
        have HLN : Hid (DrawL R P w.heap.size (k - 1) m9 (ps ++ [(LC, 0)]) (.slice A9 m9.length c9) (.slice (some ⟨g, 0, none⟩) (ps ++ [(LC, 0)]).length cap) w w') := by
          have q1 := hone2.out; have q2 := hsz2.out; have q3 := hpsz2.out; have q4 := hpone2.out; have q5 := HPN.out
          have q6 := HL9.out
          refine ⟨hrn, ?_, HOK8.out, by omega, by omega, by first | omega | (simp; done) | (simp; omega), by first | omega | (simp; done) | (simp; omega), SrcV.more hsn (by omega), hbn, ?_⟩
          · rw [List.length_append]; exact hpn
          · omega
        clear hrn hpn hsn hbn
        go_wp2_with fail
        go_roundw
        case rel => exact ⟨k - 1, _, _, _, _, _, _, rfl, by first | rfl | (have := HPN.out; simp [this]; done) | simp, by rw [show ((k - 1 : Nat) : Int) = I - 1 by have := HKI.out; omega], by omega, HLN⟩
        case measure => have := HKI.out; simp [intOf]; omega
      · obtain ⟨m8, ⟨p0, p1⟩, cd, hm8⟩ : ∃ m8 pr cd, shareA cs x t = (m8, pr, cd) := ⟨_, _, _, rfl⟩
        have hC := specShareCell_any cs A cs.length c x t w7 HROW7.out.reads (by have := hsz2.out; omega)
        have hsm := shareA_sum (cs := cs) (x := x) (t := t)
        have hok8 := shareA_ok (x := x) (t := t) HOK7.out
        rw [hm8] at hC hsm hok8
        have HC := Lib.hid hC
        have HSM := Lib.hid hsm
        have HOK8 := Lib.hid hok8
        have HBA := Lib.hid (fun q (hq : (Value.slice (some ⟨gl, 0, none⟩) N c').ownBlock = some q) => World.ownsRow.lt HPT7.out q hq)
        clear hC hsm hok8 hm8
        go_wp2_with fail
        refine HC.out.mono ?_
        rintro E w8 ⟨A8, n8, c8, rfl, hr8, hb8⟩
        have hn8 := hr8.reads.len.1
        subst hn8
        have hz8 := hb8.size
        have HR8 := Lib.hid hr8
        have HPT8 := Lib.hid (HPT7.out.below hb8)
        have HBEL8 := Lib.hid (HBEL7.out.trans (hb8.mono (by omega)))
        have HSRC8 := Lib.hid (HSRC7.out.below hb8)
        clear hr8 hb8 HC y0 y1
        by_cases hcd : cd = 0
        · subst hcd
          go_wp2_with (at_builtin; refine wpList_append_lies _ rfl _ _ 88 rfl w.heap.size 25 i0 (.agg #[.int .i64 0, .int .i64 0]) 2 16 Tryd.underlying88 HI.out HZ0.out HZ1.out HZ2.out rfl (by decide) _ _ _ rfl (World.ownsRow.alloc (World.ownsRow.alloc HPT8.out _) _) ⟨_, 0, none⟩ 1 1 [.int .i64 p0, .int .i64 p1] rfl rfl ?ra21 ?ra22 (by decide) ?ra23 ?ra24 ?ra25 _ rfl ?_)
          try (case ra21 => exact news1 (by simp) rfl)
          try (case ra22 => intro u hu; simp only [List.mem_cons, List.not_mem_nil, or_false] at hu; rcases hu with rfl | rfl <;> rfl)
          try (case ra23 => have := HPN.out; unfold maxLen; omega)
          try (case ra24 => have := HPN.out; omega)
          try (case ra25 => simp; omega)
          intro g cap w' hown' hgr hat hlt'
          have hb3 : Below w8.heap.size w8 ((w8.alloc (.cells #[.int .i64 p0, .int .i64 p1] 25)).alloc (.cells #[.int .i64 p0, .int .i64 p1] 25)) := ((Below.refl _ _).alloc (Nat.le_refl _) _).alloc (by simp) _
          have hz3 : ((w8.alloc (.cells #[.int .i64 p0, .int .i64 p1] 25)).alloc (.cells #[.int .i64 p0, .int .i64 p1] 25)).heap.size = w8.heap.size + 2 := by simp
          have hrn := ((HR8.out.below hb3).grown hgr (fun q hq => (HBA.out q hq).2)).mono (show w.heap.size ≤ _ by omega)
          have hpn := RowPt.snoc (a := p0) (b := p1) (ps := ps) (by first | exact hown' | (have := hown'; rwa [← HPN.out] at this)) rfl
          have hsn := ((HSRC8.out).below hb3).grown hgr (fun q hq => by have := (HBA.out q hq).1; omega)
          have hbn := ((HBEL8.out).trans (hb3.mono (by omega))).grown hgr (by omega) (fun q hq => by have := (HBA.out q hq).1; omega)
          have hzn := hgr.size
          clear hown' hgr hat hb3
          have HLN : Hid (DrawL R P w.heap.size (k - 1) m8 (ps ++ [(p0, p1)]) (.slice A8 m8.length c8) (.slice (some ⟨g, 0, none⟩) (ps ++ [(p0, p1)]).length cap) w w') := by
            have q1 := hone2.out; have q2 := hsz2.out; have q3 := hpsz2.out; have q4 := hpone2.out; have q5 := HPN.out
            have q6 := HSM.out
            try simp only at q6
            refine ⟨hrn, ?_, HOK8.out, by omega, by omega, by first | omega | (simp; done) | (simp; omega), by first | omega | (simp; done) | (simp; omega), SrcV.more hsn (by omega), hbn, ?_⟩
            · rw [List.length_append]; exact hpn
            · omega
          clear hrn hpn hsn hbn
          go_wp2_with fail
          go_roundw
          case rel => exact ⟨k - 1, _, _, _, _, _, _, rfl, by first | rfl | (have := HPN.out; simp [this]; done) | simp, by rw [show ((k - 1 : Nat) : Int) = I - 1 by have := HKI.out; omega], by omega, HLN⟩
          case measure => have := HKI.out; simp [intOf]; omega
        · have hcd2 : ((cd : Int) == 0) = false := by simpa using hcd
          have hrn := (HR8.out.below ((Below.refl w8.heap.size w8).alloc (Nat.le_refl _) (.cells #[.int .i64 p0, .int .i64 p1] 25))).mono (show w.heap.size ≤ w7.heap.size by omega)
          have hpn := HPT8.out.below ((Below.refl w8.heap.size w8).alloc (Nat.le_refl _) (.cells #[.int .i64 p0, .int .i64 p1] 25))
          have hsn := HSRC8.out.below ((Below.refl w8.heap.size w8).alloc (Nat.le_refl _) (.cells #[.int .i64 p0, .int .i64 p1] 25))
          have hbn := HBEL8.out.trans (((Below.refl w8.heap.size w8).alloc (Nat.le_refl _) (.cells #[.int .i64 p0, .int .i64 p1] 25)).mono (show R ≤ w8.heap.size by omega))
          have hzn : (w8.alloc (.cells #[.int .i64 p0, .int .i64 p1] 25)).heap.size = w8.heap.size + 1 := by simp
          have HLN : Hid (DrawL R P w.heap.size (k - 1) m8 (ps) (.slice A8 m8.length c8) (.slice (some ⟨gl, 0, none⟩) (ps).length c') w (w8.alloc (.cells #[.int .i64 p0, .int .i64 p1] 25))) := by
            have q1 := hone2.out; have q2 := hsz2.out; have q3 := hpsz2.out; have q4 := hpone2.out; have q5 := HPN.out
            have q6 := HSM.out
            try simp only at q6
            refine ⟨hrn, ?_, HOK8.out, by omega, by omega, by first | omega | (simp; done) | (simp; omega), by first | omega | (simp; done) | (simp; omega), SrcV.more hsn (by omega), hbn, ?_⟩
            · rw [HPN.out]; exact hpn
            · omega
          clear hrn hpn hsn hbn hcd
          go_wp2_with fail
          go_roundw
          case rel => exact ⟨k - 1, _, _, _, _, _, _, rfl, by first | rfl | (have := HPN.out; simp [this]; done) | simp, by rw [show ((k - 1 : Nat) : Int) = I - 1 by have := HKI.out; omega], by omega, HLN⟩
          case measure => have := HKI.out; simp [intOf]; omega
      · obtain ⟨m8, ⟨p0, p1⟩, cd, hm8⟩ : ∃ m8 pr cd, shareA cs x t = (m8, pr, cd) := ⟨_, _, _, rfl⟩
        have hC := specShareCell_any cs A cs.length c x t w7 HROW7.out.reads (by have := hsz2.out; omega)
        have hsm := shareA_sum (cs := cs) (x := x) (t := t)
        have hok8 := shareA_ok (x := x) (t := t) HOK7.out
        rw [hm8] at hC hsm hok8
        have HC := Lib.hid hC
        have HSM := Lib.hid hsm
        have HOK8 := Lib.hid hok8
        have HBA := Lib.hid (fun q (hq : (Value.slice (some ⟨gl, 0, none⟩) N c').ownBlock = some q) => World.ownsRow.lt HPT7.out q hq)
        clear hC hsm hok8 hm8
        go_wp2_with fail
        refine HC.out.mono ?_
        rintro E w8 ⟨A8, n8, c8, rfl, hr8, hb8⟩
        have hn8 := hr8.reads.len.1
        subst hn8
        have hz8 := hb8.size
        have HR8 := Lib.hid hr8
        have HPT8 := Lib.hid (HPT7.out.below hb8)
        have HBEL8 := Lib.hid (HBEL7.out.trans (hb8.mono (by omega)))
        have HSRC8 := Lib.hid (HSRC7.out.below hb8)
        clear hr8 hb8 HC y0 y1
        by_cases hcd : cd = 0
        · subst hcd
          go_wp2_with (at_builtin; refine wpList_append_lies _ rfl _ _ 88 rfl w.heap.size 25 i0 (.agg #[.int .i64 0, .int .i64 0]) 2 16 Tryd.underlying88 HI.out HZ0.out HZ1.out HZ2.out rfl (by decide) _ _ _ rfl (World.ownsRow.alloc (World.ownsRow.alloc HPT8.out _) _) ⟨_, 0, none⟩ 1 1 [.int .i64 p0, .int .i64 p1] rfl rfl ?ra31 ?ra32 (by decide) ?ra33 ?ra34 ?ra35 _ rfl ?_)
          try (case ra31 => exact news1 (by simp) rfl)
          try (case ra32 => intro u hu; simp only [List.mem_cons, List.not_mem_nil, or_false] at hu; rcases hu with rfl | rfl <;> rfl)
          try (case ra33 => have := HPN.out; unfold maxLen; omega)
          try (case ra34 => have := HPN.out; omega)
          try (case ra35 => simp; omega)
          intro g cap w' hown' hgr hat hlt'
          have hb3 : Below w8.heap.size w8 ((w8.alloc (.cells #[.int .i64 p0, .int .i64 p1] 25)).alloc (.cells #[.int .i64 p0, .int .i64 p1] 25)) := ((Below.refl _ _).alloc (Nat.le_refl _) _).alloc (by simp) _
          have hz3 : ((w8.alloc (.cells #[.int .i64 p0, .int .i64 p1] 25)).alloc (.cells #[.int .i64 p0, .int .i64 p1] 25)).heap.size = w8.heap.size + 2 := by simp
          have hrn := ((HR8.out.below hb3).grown hgr (fun q hq => (HBA.out q hq).2)).mono (show w.heap.size ≤ _ by omega)
          have hpn := RowPt.snoc (a := p0) (b := p1) (ps := ps) (by first | exact hown' | (have := hown'; rwa [← HPN.out] at this)) rfl
          have hsn := ((HSRC8.out).below hb3).grown hgr (fun q hq => by have := (HBA.out q hq).1; omega)
          have hbn := ((HBEL8.out).trans (hb3.mono (by omega))).grown hgr (by omega) (fun q hq => by have := (HBA.out q hq).1; omega)
          have hzn := hgr.size
          clear hown' hgr hat hb3
          have HLN : Hid (DrawL R P w.heap.size (k - 1) m8 (ps ++ [(p0, p1)]) (.slice A8 m8.length c8) (.slice (some ⟨g, 0, none⟩) (ps ++ [(p0, p1)]).length cap) w w') := by
            have q1 := hone2.out; have q2 := hsz2.out; have q3 := hpsz2.out; have q4 := hpone2.out; have q5 := HPN.out
            have q6 := HSM.out
            try simp only at q6
            refine ⟨hrn, ?_, HOK8.out, by omega, by omega, by first | omega | (simp; done) | (simp; omega), by first | omega | (simp; done) | (simp; omega), SrcV.more hsn (by omega), hbn, ?_⟩
            · rw [List.length_append]; exact hpn
            · omega
          clear hrn hpn hsn hbn
          go_wp2_with fail
          go_roundw
          case rel => exact ⟨k - 1, _, _, _, _, _, _, rfl, by first | rfl | (have := HPN.out; simp [this]; done) | simp, by rw [show ((k - 1 : Nat) : Int) = I - 1 by have := HKI.out; omega], by omega, HLN⟩
          case measure => have := HKI.out; simp [intOf]; omega
        · have hcd2 : ((cd : Int) == 0) = false := by simpa using hcd
          have hrn := (HR8.out.below ((Below.refl w8.heap.size w8).alloc (Nat.le_refl _) (.cells #[.int .i64 p0, .int .i64 p1] 25))).mono (show w.heap.size ≤ w7.heap.size by omega)
          have hpn := HPT8.out.below ((Below.refl w8.heap.size w8).alloc (Nat.le_refl _) (.cells #[.int .i64 p0, .int .i64 p1] 25))
          have hsn := HSRC8.out.below ((Below.refl w8.heap.size w8).alloc (Nat.le_refl _) (.cells #[.int .i64 p0, .int .i64 p1] 25))
          have hbn := HBEL8.out.trans (((Below.refl w8.heap.size w8).alloc (Nat.le_refl _) (.cells #[.int .i64 p0, .int .i64 p1] 25)).mono (show R ≤ w8.heap.size by omega))
          have hzn : (w8.alloc (.cells #[.int .i64 p0, .int .i64 p1] 25)).heap.size = w8.heap.size + 1 := by simp
          have HLN : Hid (DrawL R P w.heap.size (k - 1) m8 (ps) (.slice A8 m8.length c8) (.slice (some ⟨gl, 0, none⟩) (ps).length c') w (w8.alloc (.cells #[.int .i64 p0, .int .i64 p1] 25))) := by
            have q1 := hone2.out; have q2 := hsz2.out; have q3 := hpsz2.out; have q4 := hpone2.out; have q5 := HPN.out
            have q6 := HSM.out
            try simp only at q6
            refine ⟨hrn, ?_, HOK8.out, by omega, by omega, by first | omega | (simp; done) | (simp; omega), by first | omega | (simp; done) | (simp; omega), SrcV.more hsn (by omega), hbn, ?_⟩
            · rw [HPN.out]; exact hpn
            · omega
          clear hrn hpn hsn hbn hcd
          go_wp2_with fail
          go_roundw
          case rel => exact ⟨k - 1, _, _, _, _, _, _, rfl, by first | rfl | (have := HPN.out; simp [this]; done) | simp, by rw [show ((k - 1 : Nat) : Int) = I - 1 by have := HKI.out; omega], by omega, HLN⟩
          case measure => have := HKI.out; simp [intOf]; omega
      · obtain ⟨m8, ⟨p0, p1⟩, cd, hm8⟩ : ∃ m8 pr cd, borrowA cs x t = (m8, pr, cd) := ⟨_, _, _, rfl⟩
        have hC := specBorrowCell_any cs A cs.length c x t w7 HROW7.out.reads (by have := hsz2.out; omega)
        have hsm := borrowA_sum (cs := cs) (x := x) (t := t)
        have hok8 := borrowA_ok (x := x) (t := t) HOK7.out
        rw [hm8] at hC hsm hok8
        have HC := Lib.hid hC
        have HSM := Lib.hid hsm
        have HOK8 := Lib.hid hok8
        have HBA := Lib.hid (fun q (hq : (Value.slice (some ⟨gl, 0, none⟩) N c').ownBlock = some q) => World.ownsRow.lt HPT7.out q hq)
        clear hC hsm hok8 hm8
        go_wp2_with fail
        refine HC.out.mono ?_
        rintro E w8 ⟨A8, n8, c8, rfl, hr8, hb8⟩
        have hn8 := hr8.reads.len.1
        subst hn8
        have hz8 := hb8.size
        have HR8 := Lib.hid hr8
        have HPT8 := Lib.hid (HPT7.out.below hb8)
        have HBEL8 := Lib.hid (HBEL7.out.trans (hb8.mono (by omega)))
        have HSRC8 := Lib.hid (HSRC7.out.below hb8)
        clear hr8 hb8 HC y0 y1
        by_cases hcd : cd = 0
        · subst hcd
          go_wp2_with (at_builtin; refine wpList_append_lies _ rfl _ _ 88 rfl w.heap.size 25 i0 (.agg #[.int .i64 0, .int .i64 0]) 2 16 Tryd.underlying88 HI.out HZ0.out HZ1.out HZ2.out rfl (by decide) _ _ _ rfl (World.ownsRow.alloc (World.ownsRow.alloc HPT8.out _) _) ⟨_, 0, none⟩ 1 1 [.int .i64 p0, .int .i64 p1] rfl rfl ?ra41 ?ra42 (by decide) ?ra43 ?ra44 ?ra45 _ rfl ?_)
          try (case ra41 => exact news1 (by simp) rfl)
          try (case ra42 => intro u hu; simp only [List.mem_cons, List.not_mem_nil, or_false] at hu; rcases hu with rfl | rfl <;> rfl)
          try (case ra43 => have := HPN.out; unfold maxLen; omega)
          try (case ra44 => have := HPN.out; omega)
          try (case ra45 => simp; omega)
          intro g cap w' hown' hgr hat hlt'
          have hb3 : Below w8.heap.size w8 ((w8.alloc (.cells #[.int .i64 p0, .int .i64 p1] 25)).alloc (.cells #[.int .i64 p0, .int .i64 p1] 25)) := ((Below.refl _ _).alloc (Nat.le_refl _) _).alloc (by simp) _
          have hz3 : ((w8.alloc (.cells #[.int .i64 p0, .int .i64 p1] 25)).alloc (.cells #[.int .i64 p0, .int .i64 p1] 25)).heap.size = w8.heap.size + 2 := by simp
          have hrn := ((HR8.out.below hb3).grown hgr (fun q hq => (HBA.out q hq).2)).mono (show w.heap.size ≤ _ by omega)
          have hpn := RowPt.snoc (a := p0) (b := p1) (ps := ps) (by first | exact hown' | (have := hown'; rwa [← HPN.out] at this)) rfl
          have hsn := ((HSRC8.out).below hb3).grown hgr (fun q hq => by have := (HBA.out q hq).1; omega)
          have hbn := ((HBEL8.out).trans (hb3.mono (by omega))).grown hgr (by omega) (fun q hq => by have := (HBA.out q hq).1; omega)
          have hzn := hgr.size
          clear hown' hgr hat hb3
          have HLN : Hid (DrawL R P w.heap.size (k - 1) m8 (ps ++ [(p0, p1)]) (.slice A8 m8.length c8) (.slice (some ⟨g, 0, none⟩) (ps ++ [(p0, p1)]).length cap) w w') := by
            have q1 := hone2.out; have q2 := hsz2.out; have q3 := hpsz2.out; have q4 := hpone2.out; have q5 := HPN.out
            have q6 := HSM.out
            try simp only at q6
            refine ⟨hrn, ?_, HOK8.out, by omega, by omega, by first | omega | (simp; done) | (simp; omega), by first | omega | (simp; done) | (simp; omega), SrcV.more hsn (by omega), hbn, ?_⟩
            · rw [List.length_append]; exact hpn
            · omega
          clear hrn hpn hsn hbn
          go_wp2_with fail
          go_roundw
          case rel => exact ⟨k - 1, _, _, _, _, _, _, rfl, by first | rfl | (have := HPN.out; simp [this]; done) | simp, by rw [show ((k - 1 : Nat) : Int) = I - 1 by have := HKI.out; omega], by omega, HLN⟩
          case measure => have := HKI.out; simp [intOf]; omega
        · have hcd2 : ((cd : Int) == 0) = false := by simpa using hcd
          have hrn := (HR8.out.below ((Below.refl w8.heap.size w8).alloc (Nat.le_refl _) (.cells #[.int .i64 p0, .int .i64 p1] 25))).mono (show w.heap.size ≤ w7.heap.size by omega)
          have hpn := HPT8.out.below ((Below.refl w8.heap.size w8).alloc (Nat.le_refl _) (.cells #[.int .i64 p0, .int .i64 p1] 25))
          have hsn := HSRC8.out.below ((Below.refl w8.heap.size w8).alloc (Nat.le_refl _) (.cells #[.int .i64 p0, .int .i64 p1] 25))
          have hbn := HBEL8.out.trans (((Below.refl w8.heap.size w8).alloc (Nat.le_refl _) (.cells #[.int .i64 p0, .int .i64 p1] 25)).mono (show R ≤ w8.heap.size by omega))
          have hzn : (w8.alloc (.cells #[.int .i64 p0, .int .i64 p1] 25)).heap.size = w8.heap.size + 1 := by simp
          have HLN : Hid (DrawL R P w.heap.size (k - 1) m8 (ps) (.slice A8 m8.length c8) (.slice (some ⟨gl, 0, none⟩) (ps).length c') w (w8.alloc (.cells #[.int .i64 p0, .int .i64 p1] 25))) := by
            have q1 := hone2.out; have q2 := hsz2.out; have q3 := hpsz2.out; have q4 := hpone2.out; have q5 := HPN.out
            have q6 := HSM.out
            try simp only at q6
            refine ⟨hrn, ?_, HOK8.out, by omega, by omega, by first | omega | (simp; done) | (simp; omega), by first | omega | (simp; done) | (simp; omega), SrcV.more hsn (by omega), hbn, ?_⟩
            · rw [HPN.out]; exact hpn
            · omega
          clear hrn hpn hsn hbn hcd
          go_wp2_with fail
          go_roundw
          case rel => exact ⟨k - 1, _, _, _, _, _, _, rfl, by first | rfl | (have := HPN.out; simp [this]; done) | simp, by rw [show ((k - 1 : Nat) : Int) = I - 1 by have := HKI.out; omega], by omega, HLN⟩
          case measure => have := HKI.out; simp [intOf]; omega
      · obtain ⟨m8, ⟨p0, p1⟩, cd, hm8⟩ : ∃ m8 pr cd, borrowA cs x t = (m8, pr, cd) := ⟨_, _, _, rfl⟩
        have hC := specBorrowCell_any cs A cs.length c x t w7 HROW7.out.reads (by have := hsz2.out; omega)
        have hsm := borrowA_sum (cs := cs) (x := x) (t := t)
        have hok8 := borrowA_ok (x := x) (t := t) HOK7.out
        rw [hm8] at hC hsm hok8
        have HC := Lib.hid hC
        have HSM := Lib.hid hsm
        have HOK8 := Lib.hid hok8
        have HBA := Lib.hid (fun q (hq : (Value.slice (some ⟨gl, 0, none⟩) N c').ownBlock = some q) => World.ownsRow.lt HPT7.out q hq)
        clear hC hsm hok8 hm8
        go_wp2_with fail
        refine HC.out.mono ?_
        rintro E w8 ⟨A8, n8, c8, rfl, hr8, hb8⟩
        have hn8 := hr8.reads.len.1
        subst hn8
        have hz8 := hb8.size
        have HR8 := Lib.hid hr8
        have HPT8 := Lib.hid (HPT7.out.below hb8)
        have HBEL8 := Lib.hid (HBEL7.out.trans (hb8.mono (by omega)))
        have HSRC8 := Lib.hid (HSRC7.out.below hb8)
        clear hr8 hb8 HC y0 y1
        by_cases hcd : cd = 0
        · subst hcd
          go_wp2_with (at_builtin; refine wpList_append_lies _ rfl _ _ 88 rfl w.heap.size 25 i0 (.agg #[.int .i64 0, .int .i64 0]) 2 16 Tryd.underlying88 HI.out HZ0.out HZ1.out HZ2.out rfl (by decide) _ _ _ rfl (World.ownsRow.alloc (World.ownsRow.alloc HPT8.out _) _) ⟨_, 0, none⟩ 1 1 [.int .i64 p0, .int .i64 p1] rfl rfl ?ra51 ?ra52 (by decide) ?ra53 ?ra54 ?ra55 _ rfl ?_)
          try (case ra51 => exact news1 (by simp) rfl)
          try (case ra52 => intro u hu; simp only [List.mem_cons, List.not_mem_nil, or_false] at hu; rcases hu with rfl | rfl <;> rfl)
          try (case ra53 => have := HPN.out; unfold maxLen; omega)
          try (case ra54 => have := HPN.out; omega)
          try (case ra55 => simp; omega)
          intro g cap w' hown' hgr hat hlt'
          have hb3 : Below w8.heap.size w8 ((w8.alloc (.cells #[.int .i64 p0, .int .i64 p1] 25)).alloc (.cells #[.int .i64 p0, .int .i64 p1] 25)) := ((Below.refl _ _).alloc (Nat.le_refl _) _).alloc (by simp) _
          have hz3 : ((w8.alloc (.cells #[.int .i64 p0, .int .i64 p1] 25)).alloc (.cells #[.int .i64 p0, .int .i64 p1] 25)).heap.size = w8.heap.size + 2 := by simp
          have hrn := ((HR8.out.below hb3).grown hgr (fun q hq => (HBA.out q hq).2)).mono (show w.heap.size ≤ _ by omega)
          have hpn := RowPt.snoc (a := p0) (b := p1) (ps := ps) (by first | exact hown' | (have := hown'; rwa [← HPN.out] at this)) rfl
          have hsn := ((HSRC8.out).below hb3).grown hgr (fun q hq => by have := (HBA.out q hq).1; omega)
          have hbn := ((HBEL8.out).trans (hb3.mono (by omega))).grown hgr (by omega) (fun q hq => by have := (HBA.out q hq).1; omega)
          have hzn := hgr.size
          clear hown' hgr hat hb3
          have HLN : Hid (DrawL R P w.heap.size (k - 1) m8 (ps ++ [(p0, p1)]) (.slice A8 m8.length c8) (.slice (some ⟨g, 0, none⟩) (ps ++ [(p0, p1)]).length cap) w w') := by
            have q1 := hone2.out; have q2 := hsz2.out; have q3 := hpsz2.out; have q4 := hpone2.out; have q5 := HPN.out
            have q6 := HSM.out
            try simp only at q6
            refine ⟨hrn, ?_, HOK8.out, by omega, by omega, by first | omega | (simp; done) | (simp; omega), by first | omega | (simp; done) | (simp; omega), SrcV.more hsn (by omega), hbn, ?_⟩
            · rw [List.length_append]; exact hpn
            · omega
          clear hrn hpn hsn hbn
          go_wp2_with fail
          go_roundw
          case rel => exact ⟨k - 1, _, _, _, _, _, _, rfl, by first | rfl | (have := HPN.out; simp [this]; done) | simp, by rw [show ((k - 1 : Nat) : Int) = I - 1 by have := HKI.out; omega], by omega, HLN⟩
          case measure => have := HKI.out; simp [intOf]; omega
        · have hcd2 : ((cd : Int) == 0) = false := by simpa using hcd
          have hrn := (HR8.out.below ((Below.refl w8.heap.size w8).alloc (Nat.le_refl _) (.cells #[.int .i64 p0, .int .i64 p1] 25))).mono (show w.heap.size ≤ w7.heap.size by omega)
          have hpn := HPT8.out.below ((Below.refl w8.heap.size w8).alloc (Nat.le_refl _) (.cells #[.int .i64 p0, .int .i64 p1] 25))
          have hsn := HSRC8.out.below ((Below.refl w8.heap.size w8).alloc (Nat.le_refl _) (.cells #[.int .i64 p0, .int .i64 p1] 25))
          have hbn := HBEL8.out.trans (((Below.refl w8.heap.size w8).alloc (Nat.le_refl _) (.cells #[.int .i64 p0, .int .i64 p1] 25)).mono (show R ≤ w8.heap.size by omega))
          have hzn : (w8.alloc (.cells #[.int .i64 p0, .int .i64 p1] 25)).heap.size = w8.heap.size + 1 := by simp
          have HLN : Hid (DrawL R P w.heap.size (k - 1) m8 (ps) (.slice A8 m8.length c8) (.slice (some ⟨gl, 0, none⟩) (ps).length c') w (w8.alloc (.cells #[.int .i64 p0, .int .i64 p1] 25))) := by
            have q1 := hone2.out; have q2 := hsz2.out; have q3 := hpsz2.out; have q4 := hpone2.out; have q5 := HPN.out
            have q6 := HSM.out
            try simp only at q6
            refine ⟨hrn, ?_, HOK8.out, by omega, by omega, by first | omega | (simp; done) | (simp; omega), by first | omega | (simp; done) | (simp; omega), SrcV.more hsn (by omega), hbn, ?_⟩
            · rw [HPN.out]; exact hpn
            · omega
          clear hrn hpn hsn hbn hcd
          go_wp2_with fail
          go_roundw
          case rel => exact ⟨k - 1, _, _, _, _, _, _, rfl, by first | rfl | (have := HPN.out; simp [this]; done) | simp, by rw [show ((k - 1 : Nat) : Int) = I - 1 by have := HKI.out; omega], by omega, HLN⟩
          case measure => have := HKI.out; simp [intOf]; omega
      · have hPK := Lib.hid (pick_any R _ 3 w7 (by omega) (by omega) HSRC7.out (by omega))
        have z0 : ∀ w8 : World, One R w7 w8 → w8.cell? ⟨w5.heap.size, 0, none⟩ = some (.int .i64 x) ∧ w8.cell? ⟨w5.heap.size, 1, none⟩ = some (.int .i64 t) := fun w8 ho => ⟨(World.cell?_of_block (ho.block w5.heap.size (by omega))).trans y0, (World.cell?_of_block (ho.block w5.heap.size (by omega))).trans y1⟩
        have Z0 := Lib.hid z0
        clear z0 y0 y1
        go_wp2_with fail
        refine hPK.out.mono ?_
        rintro E w8 ⟨v8, hv8, rfl, hs8, ho8⟩
        have hz8 := ho8.size
        have HROW8 := Lib.hid (HROW7.out.one ho8 hRl)
        have HPT8 := Lib.hid (HPT7.out.one ho8 hRl)
        have HBEL8 := Lib.hid (HBEL7.out.trans (ho8.below (Nat.le_refl _)))
        have HSRC8 := Lib.hid hs8
        obtain ⟨y0, y1⟩ := Z0.out w8 ho8
        clear hs8 ho8 hPK Z0
        by_cases hv0 : v8 = 0
        · subst hv0
          have hC := specFreeCell_any cs A cs.length c x t w8 HROW8.out.reads (by have := hsz2.out; omega)
          obtain ⟨m9, cd, hm9⟩ : ∃ m9 cd, freeA cs x t = (m9, cd) := ⟨_, _, rfl⟩
          have hsm := freeA_sum (cs := cs) (x := x) (t := t)
          have hok8 := freeA_ok (x := x) (t := t) HOK7.out
          rw [hm9] at hC hsm hok8
          have HC := Lib.hid hC
          have HSM := Lib.hid hsm
          have HOK8 := Lib.hid hok8
          clear hC hsm hok8 hm9
          go_wp2_with fail
          refine HC.out.mono ?_
          rintro E w9 ⟨A9, n9, c9, rfl, hr9, hb9⟩
          have hn9 := hr9.reads.len.1
          subst hn9
          have hz9 := hb9.size
          have hrn := hr9.mono (show w.heap.size ≤ w8.heap.size by omega)
          have hpn := HPT8.out.below hb9
          have hsn := HSRC8.out.below hb9
          have hbn := HBEL8.out.trans (hb9.mono (show R ≤ w8.heap.size by omega))
          have HLN : Hid (DrawL R P w.heap.size (k - 1) m9 (ps) (.slice A9 m9.length c9) (.slice (some ⟨gl, 0, none⟩) (ps).length c') w w9) := by
            have q1 := hone2.out; have q2 := hsz2.out; have q3 := hpsz2.out; have q4 := hpone2.out; have q5 := HPN.out
            have q6 := HSM.out
            try simp only at q6
            refine ⟨hrn, ?_, HOK8.out, by omega, by omega, by first | omega | (simp; done) | (simp; omega), by first | omega | (simp; done) | (simp; omega), SrcV.more hsn (by omega), hbn, ?_⟩
            · rw [HPN.out]; exact hpn
            · omega
          clear hrn hpn hsn hbn hr9 hb9 y0 y1 HC
          go_wp2_with fail
          go_roundw
          case rel => exact ⟨k - 1, _, _, _, _, _, _, rfl, by first | rfl | (have := HPN.out; simp [this]; done) | simp, by rw [show ((k - 1 : Nat) : Int) = I - 1 by have := HKI.out; omega], by omega, HLN⟩
          case measure => have := HKI.out; simp [intOf]; omega
        · have hv1 : (((v8 : Nat) : Int) == 0) = false := by simp; omega
          have HLN : Hid (DrawL R P w.heap.size (k - 1) cs (ps) (.slice A cs.length c) (.slice (some ⟨gl, 0, none⟩) (ps).length c') w w8) := by
            have q1 := hone2.out; have q2 := hsz2.out; have q3 := hpsz2.out; have q4 := hpone2.out; have q5 := HPN.out
            refine ⟨HROW8.out, ?_, HOK7.out, by omega, by omega, by first | omega | (simp; done) | (simp; omega), by first | omega | (simp; done) | (simp; omega), SrcV.more HSRC8.out (by omega), HBEL8.out, ?_⟩
            · rw [HPN.out]; exact HPT8.out
            · omega
          clear y0 y1 hv0
          go_wp2_with fail
          go_roundw
          case rel => exact ⟨k - 1, _, _, _, _, _, _, rfl, by first | rfl | (have := HPN.out; simp [this]; done) | simp, by rw [show ((k - 1 : Nat) : Int) = I - 1 by have := HKI.out; omega], by omega, HLN⟩
          case measure => have := HKI.out; simp [intOf]; omega

end Go.Proofs.YtfkoobdlhdolbaaDoor
