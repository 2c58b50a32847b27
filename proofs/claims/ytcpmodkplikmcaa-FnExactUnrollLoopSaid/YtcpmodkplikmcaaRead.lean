/-
  The laws' arguments read as programs: lists of integers and lists of statements.
-/
import Derived.Test.YtcpmodkplikmcaaRows
import Derived.Test.YtcpmodkplikmcaaData
import Derived.WalkKit
import Derived.ProofKit
import Derived.OpenShut
import Derived.Lib.SmallJoins
namespace Go.Proofs.Ytcpmodkplikmcaa
open Go.ChangeShapes Go.WideShapes Go.ChangeAt Go.RowKit Go.Deep Go.Joins

theorem Try.cellsIntR : Try.prog.cellsOf 3 = 1 := by kernel_rfl
theorem Try.cellsIntsR : Try.prog.cellsOf 22 = 1 := by kernel_rfl
theorem Try.cellsStmtsR : Try.prog.cellsOf 23 = 1 := by kernel_rfl
theorem Try.cellsStmtR : Try.prog.cellsOf 98 = 6 := by kernel_rfl
theorem Try.cellsProgR : Try.prog.cellsOf 25 = 2 := by kernel_rfl

section
variable {H : Type} {enc : TypeId × Value → H} {W : World} {spare : Nat → Bool} {held : Bool}

theorem block_lt {a : Addr} {v : Value} (h : W.cell? a = some v) : a.block < W.heap.size := World.block_lt_of_cell? W a h

theorem read_ints {fuel : Nat} {v : Value} {x : DataW H × List MemPlace} (h : DataW.trod enc Try.prog W 0 spare held fuel 22 [v] = some x) :
    ∃ (ts : List Int) (A : Option Addr) (c : Nat), v = .slice A ts.length c ∧ IntsV W 0 W.heap.size ts A c := by
  rcases DataW.trod_slice Try.underlying22 h with ⟨hcs, _⟩ | ⟨a, len, cap, elems, rest, n, _, hcs, _, _, hl, hm, hlen, hel, _⟩
  · injection hcs with hcs _
    exact ⟨[], none, 0, hcs, by simp, by simp [maxLen], fun h => absurd h (by simp)⟩
  · injection hcs with hcs _
    have hex : ∀ i, i < len → ∃ z : Int, W.cell? (a.add i) = some (.int .i64 z) := by
      intro i hi
      have h1 := hel i hi
      rw [Try.cellsIntR, Nat.mul_one, List.getElem?_eq_getElem (by omega)] at h1
      obtain ⟨cs', hc, ht⟩ := Option.bind_eq_some_iff.1 h1
      obtain ⟨_, _, hat⟩ := World.cells?_some hc
      obtain ⟨z, rfl, _, _⟩ := DataW.trod_int Try.underlying3 ht
      exact ⟨z, by simpa [Addr.add] using hat 0 (by omega)⟩
    obtain ⟨f, hf⟩ := choose_lt hex
    refine ⟨(List.range len).map f, some a, cap, by simpa using hcs, by simpa using hl, hm, fun h0 => ⟨a, rfl, Nat.zero_le _, ?_, fun j u hu => ?_⟩⟩
    · have h0' : 0 < len := by simpa using h0
      have := block_lt (hf 0 h0')
      rwa [block_add] at this
    · have hj : j < len := by
        have := (List.getElem?_eq_some_iff.1 hu).1
        simpa using this
      rw [List.getElem?_map, List.getElem?_range hj] at hu
      injection hu with hu
      rw [hf j hj, hu]

/-- The statement that lies at an address. -/
def ElemAt (W : World) (a : Addr) (op x y n : Int) (t e : Sts) : Prop :=
  (W.cell? a = some (.int .i64 op) ∧ W.cell? (a.add 1) = some (.int .i64 x) ∧ W.cell? (a.add 2) = some (.int .i64 y) ∧ W.cell? (a.add 3) = some (.int .i64 n)) ∧
    (∃ A c, W.cell? (a.add 4) = some (.slice A t.len c) ∧ RepV W 0 W.heap.size t A c) ∧ (∃ A c, W.cell? (a.add 5) = some (.slice A e.len c) ∧ RepV W 0 W.heap.size e A c)

theorem rep_of_elems (a : Addr) (len : Nat) (h : ∀ i, i < len → ∃ op x y n t e, ElemAt W (a.add (i * 6)) op x y n t e) : ∀ j, j ≤ len → ∃ s : Sts, s.len = j ∧ Rep W 0 W.heap.size s (a.add ((len - j) * 6)) := by
  intro j
  induction j with
  | zero => intro _; exact ⟨.nil, rfl, trivial⟩
  | succ j ih =>
    intro hj
    obtain ⟨s, hs, hR⟩ := ih (by omega)
    obtain ⟨op, x, y, n, t, e, ⟨h0, h1, h2, h3⟩, ⟨A, c, h4, r4⟩, ⟨A', c', h5, r5⟩⟩ := h (len - (j + 1)) (by omega)
    refine ⟨.cons op x y n t e s, by simp [Sts.len, hs], ⟨h0, h1, h2, h3⟩, ⟨A, c, h4, r4.1, r4.2.1, r4.2.2⟩, ⟨A', c', h5, r5.1, r5.2.1, r5.2.2⟩, ?_⟩
    rw [add_add, show (len - (j + 1)) * 6 + 6 = (len - j) * 6 by omega]
    exact hR

theorem list6 {α : Type} {l : List α} (h : l.length = 6) : ∃ a b c d e f, l = [a, b, c, d, e, f] := by
  match l, h with
  | [a, b, c, d, e, f], _ => exact ⟨a, b, c, d, e, f, rfl⟩

set_option maxRecDepth 100000 in
theorem read_stmt {fuel : Nat} {cs : List Value} {x : DataW H × List MemPlace} (h : DataW.trod enc Try.prog W 0 spare held fuel 98 cs = some x)
    (ih : ∀ m, m < fuel → ∀ (v : Value) (x : DataW H × List MemPlace), DataW.trod enc Try.prog W 0 spare held m 23 [v] = some x → ∃ (s : Sts) (A : Option Addr) (c : Nat), v = .slice A s.len c ∧ RepV W 0 W.heap.size s A c) :
    ∃ op x y n t e At ct Ae ce, cs = [.int .i64 op, .int .i64 x, .int .i64 y, .int .i64 n, .slice At t.len ct, .slice Ae e.len ce] ∧ RepV W 0 W.heap.size t At ct ∧ RepV W 0 W.heap.size e Ae ce := by
  obtain ⟨ys, n', hn', _, hlen, hyl, hf⟩ := DataW.trod_struct Try.underlying98 h
  rw [Try.cellsStmtR] at hlen
  obtain ⟨c0, c1, c2, c3, c4, c5, rfl⟩ := list6 hlen
  have g0 : DataW.trod enc Try.prog W 0 spare held n' 3 (([c0, c1, c2, c3, c4, c5].drop 0).take (Try.prog.cellsOf 3)) = ys[0]? := hf 0 _ rfl
  have g1 : DataW.trod enc Try.prog W 0 spare held n' 3 (([c0, c1, c2, c3, c4, c5].drop 1).take (Try.prog.cellsOf 3)) = ys[1]? := hf 1 _ rfl
  have g2 : DataW.trod enc Try.prog W 0 spare held n' 3 (([c0, c1, c2, c3, c4, c5].drop 2).take (Try.prog.cellsOf 3)) = ys[2]? := hf 2 _ rfl
  have g3 : DataW.trod enc Try.prog W 0 spare held n' 3 (([c0, c1, c2, c3, c4, c5].drop 3).take (Try.prog.cellsOf 3)) = ys[3]? := hf 3 _ rfl
  have g4 : DataW.trod enc Try.prog W 0 spare held n' 23 (([c0, c1, c2, c3, c4, c5].drop 4).take (Try.prog.cellsOf 23)) = ys[4]? := hf 4 _ rfl
  have g5 : DataW.trod enc Try.prog W 0 spare held n' 23 (([c0, c1, c2, c3, c4, c5].drop 5).take (Try.prog.cellsOf 23)) = ys[5]? := hf 5 _ rfl
  have hys : ys.length = 6 := hyl
  rw [List.getElem?_eq_getElem (by omega)] at g0 g1 g2 g3 g4 g5
  simp only [Try.cellsIntR, Try.cellsStmtsR, List.drop_succ_cons, List.drop_zero, List.take_succ_cons, List.take_zero] at g0 g1 g2 g3 g4 g5
  obtain ⟨op, e0, _, _⟩ := DataW.trod_int Try.underlying3 g0
  obtain ⟨x, e1, _, _⟩ := DataW.trod_int Try.underlying3 g1
  obtain ⟨y, e2, _, _⟩ := DataW.trod_int Try.underlying3 g2
  obtain ⟨n, e3, _, _⟩ := DataW.trod_int Try.underlying3 g3
  obtain ⟨t, At, ct, e4, r4⟩ := ih n' (by omega) _ _ g4
  obtain ⟨e, Ae, ce, e5, r5⟩ := ih n' (by omega) _ _ g5
  injection e0 with e0 _
  injection e1 with e1 _
  injection e2 with e2 _
  injection e3 with e3 _
  exact ⟨op, x, y, n, t, e, At, ct, Ae, ce, by rw [e0, e1, e2, e3, e4, e5], r4, r5⟩

theorem read_stmts (fuel : Nat) : ∀ (v : Value) (x : DataW H × List MemPlace), DataW.trod enc Try.prog W 0 spare held fuel 23 [v] = some x → ∃ (s : Sts) (A : Option Addr) (c : Nat), v = .slice A s.len c ∧ RepV W 0 W.heap.size s A c := by
  induction fuel using Nat.strongRecOn with
  | ind fuel IH =>
    intro v x h
    rcases DataW.trod_slice Try.underlying23 h with ⟨hcs, _⟩ | ⟨a, len, cap, elems, rest, n, hn, hcs, _, _, hl, hm, hlen, hel, _⟩
    · injection hcs with hcs _
      exact ⟨.nil, none, 0, hcs, by simp [Sts.len], by simp [maxLen], fun h => absurd h (by simp [Sts.len])⟩
    · injection hcs with hcs _
      have hex : ∀ i, i < len → ∃ op x y n t e, ElemAt W (a.add (i * 6)) op x y n t e := by
        intro i hi
        have h1 := hel i hi
        rw [Try.cellsStmtR, List.getElem?_eq_getElem (by omega)] at h1
        obtain ⟨cs', hc, ht⟩ := Option.bind_eq_some_iff.1 h1
        obtain ⟨_, _, hat⟩ := World.cells?_some hc
        obtain ⟨op, x, y, n', t, e, At, ct, Ae, ce, rfl, r4, r5⟩ := read_stmt ht (fun m hm => IH m (by omega))
        exact ⟨op, x, y, n', t, e, ⟨by simpa [Addr.add] using hat 0 (by omega), by simpa using hat 1 (by omega), by simpa using hat 2 (by omega), by simpa using hat 3 (by omega)⟩,
          ⟨At, ct, by simpa using hat 4 (by omega), r4⟩, ⟨Ae, ce, by simpa using hat 5 (by omega), r5⟩⟩
      obtain ⟨s, hs, hR⟩ := rep_of_elems a len hex len (Nat.le_refl _)
      rw [Nat.sub_self, Nat.zero_mul] at hR
      subst hs
      refine ⟨s, some a, cap, hcs, hl, hm, fun h0 => ⟨a, rfl, Nat.zero_le _, ?_, by simpa [Addr.add] using hR⟩⟩
      obtain ⟨_, _, _, _, _, _, hE⟩ := hex 0 h0
      have := block_lt hE.1.1
      rwa [block_add] at this

end
end Go.Proofs.Ytcpmodkplikmcaa
