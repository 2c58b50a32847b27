/-
  The laws' arguments read as memories.
-/
import Derived.Test.YtnneamfndokleaaDoorCelR
import Derived.WalkKit
import Derived.ProofKit
import Derived.OpenShut
import Derived.Lib.SmallJoins
namespace Go.Proofs.YtnneamfndokleaaDoor
open Go.ChangeShapes Go.WideShapes Go.ChangeAt Go.RowKit Go.Deep Go.Joins

theorem Tryd.cellsIntR : Tryd.prog.cellsOf 3 = 1 := by kernel_rfl
theorem Tryd.cellsBoolR : Tryd.prog.cellsOf 4 = 1 := by kernel_rfl
theorem Tryd.cellsTagsR : Tryd.prog.cellsOf 44 = 1 := by kernel_rfl
theorem Tryd.cellsTagR : Tryd.prog.cellsOf 105 = 2 := by kernel_rfl
theorem Tryd.cellsCellR : Tryd.prog.cellsOf 46 = 4 := by kernel_rfl

theorem choose_list {α : Type} [Inhabited α] {n : Nat} {p : Nat → α → Prop} (h : ∀ i, i < n → ∃ x, p i x) : ∃ l : List α, l.length = n ∧ ∀ i x, l[i]? = some x → p i x := by
  obtain ⟨f, hf⟩ := choose_lt h
  refine ⟨(List.range n).map f, by simp, fun i x hx => ?_⟩
  have hi : i < n := by
    have := (List.getElem?_eq_some_iff.1 hx).1
    simpa using this
  rw [List.getElem?_map, List.getElem?_range hi] at hx
  injection hx with hx
  subst hx
  exact hf i hi

instance : Inhabited TagD := ⟨⟨0, false⟩⟩
instance : Inhabited CellD := ⟨⟨0, false, 0, []⟩⟩

section
variable {H : Type} {enc : TypeId × Value → H} {W : World} {spare : Nat → Bool} {held : Bool}

theorem blk_lt {a : Addr} {v : Value} (h : W.cell? a = some v) : a.block < W.heap.size := World.block_lt_of_cell? W a h

theorem list2 {α : Type} {l : List α} (h : l.length = 2) : ∃ a b, l = [a, b] := by
  match l, h with
  | [a, b], _ => exact ⟨a, b, rfl⟩

theorem list4 {α : Type} {l : List α} (h : l.length = 4) : ∃ a b c d, l = [a, b, c, d] := by
  match l, h with
  | [a, b, c, d], _ => exact ⟨a, b, c, d, rfl⟩

theorem add_two (b : Addr) (k o : Nat) (h : 0 < o) : (b.add k).add o = ⟨(b.add k).block, (b.add k).off + o, none⟩ := by
  conv => lhs; unfold Addr.add
  rw [if_neg (by omega)]
  rfl

set_option maxRecDepth 100000 in
theorem read_tag {fuel : Nat} {cs : List Value} {x : DataW H × List MemPlace} (h : DataW.trod enc Tryd.prog W 0 spare held fuel 105 cs = some x) :
    ∃ id u, cs = [.int .i64 id, .bool u] := by
  obtain ⟨ys, n', hn', _, hlen, hyl, hf⟩ := DataW.trod_struct Tryd.underlying105 h
  rw [Tryd.cellsTagR] at hlen
  obtain ⟨c0, c1, rfl⟩ := list2 hlen
  have g0 : DataW.trod enc Tryd.prog W 0 spare held n' 3 (([c0, c1].drop 0).take (Tryd.prog.cellsOf 3)) = ys[0]? := hf 0 _ rfl
  have g1 : DataW.trod enc Tryd.prog W 0 spare held n' 4 (([c0, c1].drop 1).take (Tryd.prog.cellsOf 4)) = ys[1]? := hf 1 _ rfl
  have hys : ys.length = 2 := hyl
  rw [List.getElem?_eq_getElem (by omega)] at g0 g1
  simp only [Tryd.cellsIntR, Tryd.cellsBoolR, List.drop_succ_cons, List.drop_zero, List.take_succ_cons, List.take_zero] at g0 g1
  obtain ⟨id, e0, _, _⟩ := DataW.trod_int Tryd.underlying3 g0
  obtain ⟨u, e1, _⟩ := DataW.trod_bool Tryd.underlying4 g1
  injection e0 with e0 _
  injection e1 with e1 _
  exact ⟨id, u, by rw [e0, e1]⟩

theorem read_tags {fuel : Nat} {v : Value} {x : DataW H × List MemPlace} (h : DataW.trod enc Tryd.prog W 0 spare held fuel 44 [v] = some x) : ∃ ts : List TagD, RdT W v ts := by
  rcases DataW.trod_slice Tryd.underlying44 h with ⟨hcs, _⟩ | ⟨a, len, cap, elems, rest, n, hn, hcs, _, _, hl, hm, hlen, hel, _⟩
  · injection hcs with hcs _
    exact ⟨[], none, 0, hcs, by simp, by simp [maxLen], fun h => absurd h (by simp)⟩
  · injection hcs with hcs _
    have hex : ∀ i, i < len → ∃ d : TagD, W.cell? (a.add (i * 2)) = some (.int .i64 d.id) ∧ W.cell? ⟨(a.add (i * 2)).block, (a.add (i * 2)).off + 1, none⟩ = some (.bool d.u) := by
      intro i hi
      have h1 := hel i hi
      rw [Tryd.cellsTagR, List.getElem?_eq_getElem (by omega)] at h1
      obtain ⟨cs', hc, ht⟩ := Option.bind_eq_some_iff.1 h1
      obtain ⟨_, _, hat⟩ := World.cells?_some hc
      obtain ⟨id, u, rfl⟩ := read_tag ht
      have k1 := hat 1 (by omega)
      rw [add_two _ _ _ (by omega)] at k1
      exact ⟨⟨id, u⟩, by simpa [Addr.add] using hat 0 (by omega), by simpa using k1⟩
    obtain ⟨l, hll, hp⟩ := choose_list hex
    subst hll
    refine ⟨l, some a, cap, hcs, hl, hm, fun h0 => ⟨a, rfl, ?_, fun k d hd => hp k d hd⟩⟩
    have := blk_lt (hp 0 _ (List.getElem?_eq_getElem h0)).1
    rwa [block_add] at this

theorem read_cell {fuel : Nat} {cs : List Value} {x : DataW H × List MemPlace} (h : DataW.trod enc Tryd.prog W 0 spare held fuel 46 cs = some x) :
    ∃ val al nx u ts, cs = [.int .i64 val, .bool al, .int .i64 nx, u] ∧ RdT W u ts := by
  obtain ⟨ys, n', hn', _, hlen, hyl, hf⟩ := DataW.trod_struct Tryd.underlying46 h
  rw [Tryd.cellsCellR] at hlen
  obtain ⟨c0, c1, c2, c3, rfl⟩ := list4 hlen
  have g0 : DataW.trod enc Tryd.prog W 0 spare held n' 3 (([c0, c1, c2, c3].drop 0).take (Tryd.prog.cellsOf 3)) = ys[0]? := hf 0 _ rfl
  have g1 : DataW.trod enc Tryd.prog W 0 spare held n' 4 (([c0, c1, c2, c3].drop 1).take (Tryd.prog.cellsOf 4)) = ys[1]? := hf 1 _ rfl
  have g2 : DataW.trod enc Tryd.prog W 0 spare held n' 3 (([c0, c1, c2, c3].drop 2).take (Tryd.prog.cellsOf 3)) = ys[2]? := hf 2 _ rfl
  have g3 : DataW.trod enc Tryd.prog W 0 spare held n' 44 (([c0, c1, c2, c3].drop 3).take (Tryd.prog.cellsOf 44)) = ys[3]? := hf 3 _ rfl
  have hys : ys.length = 4 := hyl
  rw [List.getElem?_eq_getElem (by omega)] at g0 g1 g2 g3
  simp only [Tryd.cellsIntR, Tryd.cellsBoolR, Tryd.cellsTagsR, List.drop_succ_cons, List.drop_zero, List.take_succ_cons, List.take_zero] at g0 g1 g2 g3
  obtain ⟨val, e0, _, _⟩ := DataW.trod_int Tryd.underlying3 g0
  obtain ⟨al, e1, _⟩ := DataW.trod_bool Tryd.underlying4 g1
  obtain ⟨nx, e2, _, _⟩ := DataW.trod_int Tryd.underlying3 g2
  obtain ⟨ts, hts⟩ := read_tags g3
  injection e0 with e0 _
  injection e1 with e1 _
  injection e2 with e2 _
  exact ⟨val, al, nx, c3, ts, by rw [e0, e1, e2], hts⟩

theorem read_mem {fuel : Nat} {v : Value} {x : DataW H × List MemPlace} (h : DataW.trod enc Tryd.prog W 0 spare held fuel 22 [v] = some x) : ∃ cs : List CellD, RdC W v cs := by
  rcases DataW.trod_slice Tryd.underlying22 h with ⟨hcs, _⟩ | ⟨a, len, cap, elems, rest, n, hn, hcs, _, _, hl, hm, hlen, hel, _⟩
  · injection hcs with hcs _
    exact ⟨[], none, 0, hcs, by simp, by simp [maxLen], fun h => absurd h (by simp)⟩
  · injection hcs with hcs _
    have hex : ∀ i, i < len → ∃ d : CellD, ∃ u, (W.cell? (a.add (i * 4)) = some (.int .i64 d.val) ∧ W.cell? ⟨(a.add (i * 4)).block, (a.add (i * 4)).off + 1, none⟩ = some (.bool d.alive) ∧
        W.cell? ⟨(a.add (i * 4)).block, (a.add (i * 4)).off + 2, none⟩ = some (.int .i64 d.next) ∧ W.cell? ⟨(a.add (i * 4)).block, (a.add (i * 4)).off + 3, none⟩ = some u) ∧ RdT W u d.tags := by
      intro i hi
      have h1 := hel i hi
      rw [Tryd.cellsCellR, List.getElem?_eq_getElem (by omega)] at h1
      obtain ⟨cs', hc, ht⟩ := Option.bind_eq_some_iff.1 h1
      obtain ⟨_, _, hat⟩ := World.cells?_some hc
      obtain ⟨val, al, nx, u, ts, rfl, hts⟩ := read_cell ht
      have k1 := hat 1 (by omega)
      have k2 := hat 2 (by omega)
      have k3 := hat 3 (by omega)
      rw [add_two _ _ _ (by omega)] at k1 k2 k3
      exact ⟨⟨val, al, nx, ts⟩, u, ⟨by simpa [Addr.add] using hat 0 (by omega), by simpa using k1, by simpa using k2, by simpa using k3⟩, hts⟩
    obtain ⟨l, hll, hp⟩ := choose_list hex
    subst hll
    refine ⟨l, some a, cap, hcs, hl, hm, fun h0 => ⟨a, rfl, ?_, fun k d hd => hp k d hd⟩⟩
    obtain ⟨u, h9, _⟩ := hp 0 _ (List.getElem?_eq_getElem h0)
    have := blk_lt h9.1
    rwa [block_add] at this

end
end Go.Proofs.YtnneamfndokleaaDoor
