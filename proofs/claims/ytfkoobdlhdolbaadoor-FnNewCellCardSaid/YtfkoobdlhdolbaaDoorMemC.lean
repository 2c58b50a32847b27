/-
  Copies of the program's own memories, and memories with another place.
-/
import Derived.Test.YtfkoobdlhdolbaaDoorMem
import Derived.Lib.SliceRun
namespace Go.Proofs.YtfkoobdlhdolbaaDoor
open Go.RowKit Go.Deep
set_option linter.unusedVariables false

theorem addr_add4 (b : Addr) (k i : Nat) (hi : 0 < i) : b.add (k * 4 + i) = ⟨(b.add (k * 4)).block, (b.add (k * 4)).off + i, none⟩ := addr_add b (k * 4) i hi

/-- The rows of a memory that is read. -/
theorem RdM.rows {w : World} {b : Addr} {n c : Nat} {cs : List CellD} (h : RdM w (.slice (some b) n c) cs) :
    ∃ rs : List (CellD × Option Addr), rs.map Prod.fst = cs ∧ (∀ j u, (rs.flatMap prow)[j]? = some u → w.cell? (b.add j) = some u) ∧ ∀ (j : Nat) (p : CellD × Option Addr), rs[j]? = some p → Stk w w.heap.size p.1.tags.reverse p.2 := by
  have hex : ∀ k, k < cs.length → ∃ p : CellD × Option Addr, cs[k]? = some p.1 ∧ (w.cell? (b.add (k * 4)) = some (.int .i64 p.1.val) ∧ w.cell? ⟨(b.add (k * 4)).block, (b.add (k * 4)).off + 1, none⟩ = some (.bool p.1.alive) ∧
      w.cell? ⟨(b.add (k * 4)).block, (b.add (k * 4)).off + 2, none⟩ = some (.int .i64 p.1.next) ∧ w.cell? ⟨(b.add (k * 4)).block, (b.add (k * 4)).off + 3, none⟩ = some (.pointer p.2)) ∧ Stk w w.heap.size p.1.tags.reverse p.2 := by
    intro k hk
    obtain ⟨b', p, hb, _, hc, hs⟩ := h.elem (List.getElem?_eq_getElem hk)
    injection hb with hb
    subst hb
    exact ⟨(cs[k], p), List.getElem?_eq_getElem hk, hc, hs⟩
  have hch : ∃ f : Nat → CellD × Option Addr, ∀ k, k < cs.length → cs[k]? = some (f k).1 ∧ (w.cell? (b.add (k * 4)) = some (.int .i64 (f k).1.val) ∧ w.cell? ⟨(b.add (k * 4)).block, (b.add (k * 4)).off + 1, none⟩ = some (.bool (f k).1.alive) ∧
      w.cell? ⟨(b.add (k * 4)).block, (b.add (k * 4)).off + 2, none⟩ = some (.int .i64 (f k).1.next) ∧ w.cell? ⟨(b.add (k * 4)).block, (b.add (k * 4)).off + 3, none⟩ = some (.pointer (f k).2)) ∧ Stk w w.heap.size (f k).1.tags.reverse (f k).2 := by
    refine ⟨fun k => if hk : k < cs.length then Classical.choose (hex k hk) else (⟨0, false, 0, []⟩, none), fun k hk => ?_⟩
    simp only [hk, dif_pos]
    exact Classical.choose_spec (hex k hk)
  obtain ⟨f, hf⟩ := hch
  have hget : ∀ j p, ((List.range cs.length).map f)[j]? = some p → j < cs.length ∧ p = f j := by
    intro j p hp
    have hj : j < cs.length := by
      have := (List.getElem?_eq_some_iff.1 hp).1
      simpa using this
    rw [List.getElem?_map, List.getElem?_range hj] at hp
    injection hp with hp
    exact ⟨hj, hp.symm⟩
  refine ⟨(List.range cs.length).map f, ?_, fun j u hu => ?_, fun j p hp => ?_⟩
  · apply List.ext_getElem?
    intro k
    rw [List.getElem?_map]
    by_cases hk : k < cs.length
    · rw [List.getElem?_map, List.getElem?_range hk, (hf k hk).1]
      rfl
    · rw [List.getElem?_eq_none (l := cs) (by omega), List.getElem?_eq_none (by simp; omega)]
      rfl
  · have hl := flat_len prow_length ((List.range cs.length).map f)
    have hj := (List.getElem?_eq_some_iff.1 hu).1
    rw [hl, List.length_map, List.length_range] at hj
    have hk : j / 4 < cs.length := by omega
    obtain ⟨_, ⟨c0, c1, c2, c3⟩, _⟩ := hf (j / 4) hk
    have hg := flat_get prow_length ((List.range cs.length).map f) (j / 4) (j % 4) (f (j / 4)) (by rw [List.getElem?_map, List.getElem?_range hk]; rfl) (by omega)
    have he : j / 4 * 4 + j % 4 = j := by omega
    rw [he, hu] at hg
    have h4 : j % 4 = 0 ∨ j % 4 = 1 ∨ j % 4 = 2 ∨ j % 4 = 3 := by omega
    rcases h4 with e | e | e | e
    · rw [e] at hg he
      simp [prow] at hg
      rw [← he, Nat.add_zero, hg]
      exact c0
    · rw [e] at hg he
      simp [prow] at hg
      rw [← he, addr_add4 _ _ _ (by omega), hg]
      exact c1
    · rw [e] at hg he
      simp [prow] at hg
      rw [← he, addr_add4 _ _ _ (by omega), hg]
      exact c2
    · rw [e] at hg he
      simp [prow] at hg
      rw [← he, addr_add4 _ _ _ (by omega), hg]
      exact c3
  · obtain ⟨hj, rfl⟩ := hget j p hp
    exact (hf j hj).2.2

theorem run_append_places (w : World) (B H : Nat) (b : Addr) (n c : Nat) (cs : List CellD) (hH : w.heap.size = H + 1) (hown : w.ownsRow B 96 4 (.slice (some ⟨H, 0, none⟩) 0 0) 0 []) (hu : RdM w (.slice (some b) n c) cs) (hl : n ≤ 2000000) (hB : B ≤ w.heap.size) :
    ∃ v' w', (Builtin.append_ #[56, 56] 56 #[.slice (some ⟨H, 0, none⟩) 0 0, .slice (some b) n c]).run Tryd.prog w = .ok v' w' ∧ RowM w' B v' cs ∧ w.grownBy w' (some H) := by
  obtain ⟨i0, hi, hz0, hz1, hz2⟩ := info_parts Tryd.infoPlace
  obtain ⟨hn, h1, h2⟩ := hu.len
  obtain ⟨rs, hrs, hnews, hst⟩ := hu.rows
  have hrl : rs.length = n := by rw [hn, ← hrs, List.length_map]
  obtain ⟨v', w', hr, k1, k2, _, k4⟩ := run_append_own_at (P := Tryd.prog) w B 56 56 96 i0 (.agg #[.int .i64 0, .bool false, .int .i64 0, .pointer none]) 4 32 Tryd.underlying56 hi hz0 hz1 hz2 rfl (by decide) (.slice (some ⟨H, 0, none⟩) 0 0) 0 [] hown b n c (rs.flatMap prow)
    (by rw [flat_len prow_length, hrl]) hnews (fun u hu => by
      obtain ⟨t, _, ht⟩ := List.mem_flatMap.1 hu
      simp [prow] at ht
      rcases ht with rfl | rfl | rfl | rfl <;> rfl) (by unfold maxLen; omega) (by omega) hB
  have hk : ∀ (ts : List TagD) (hi : Nat) (q : Option Addr), hi ≤ w.heap.size → Stk w hi ts q → Stk w' hi ts q := by
    intro ts
    induction ts with
    | nil => intro hi q _ h; exact h
    | cons t ts ih =>
      intro hi q hh ⟨g, pb, e1, e2, e3, e4⟩
      refine ⟨g, pb, e1, e2, ?_, ih g pb (by omega) e4⟩
      rw [k2.block g (by omega) ?_]
      · exact e3
      · intro e
        obtain ⟨cur, hc⟩ := ownBlock_row hown g e.symm
        rw [e3] at hc
        injection hc with hc
        injection hc with _ hc _
        exact absurd hc (by decide)
  refine ⟨v', w', hr, ⟨rs, hrs, ?_, fun j p hp => (hk _ _ _ (Nat.le_refl _) (hst j p hp)).mono k2.size⟩, k2⟩
  rw [hrl]
  rw [Nat.zero_add, List.nil_append] at k1
  exact k1

theorem wpList_append_places {w : World} {ops : Array Oper} {rest : List Oper} {o : Oper} {a : Act} {Q : Exit → Act → World → Prop} (hgd : o.guard = none) (s x : Operand)
    (ho : o.op = .call { callee := .builtin .append, args := #[s, x], argTypes := #[56, 56] }) (hty : o.type = 56) (B H : Nat) (b : Addr) (n c : Nat) (cs : List CellD)
    (hs : a.eval s = .slice (some ⟨H, 0, none⟩) 0 0) (hx : a.eval x = .slice (some b) n c) (hH : w.heap.size = H + 1) (hown : w.ownsRow B 96 4 (.slice (some ⟨H, 0, none⟩) 0 0) 0 []) (hu : RdM w (.slice (some b) n c) cs) (hl : n ≤ 2000000) (hB : B ≤ w.heap.size)
    (h : ∀ v' w', RowM w' B v' cs → w.grownBy w' (some H) → wpList Tryd.prog ops Q rest (a.put o.dst v') w') : wpList Tryd.prog ops Q (o :: rest) a w := by
  obtain ⟨v', w', hr, h2, h3⟩ := run_append_places w B H b n c cs hH hown hu hl hB
  refine wpList_plain hgd fun _ hK => ?_
  unfold Oper.wp execOp
  simp only [ho, hty, resolve, invoke, builtin, Sem.run_bind, Sem.run_pure, Result.andThen_ok, List.map_toArray, List.map_cons, List.map_nil, hs, hx, hr]
  exact hK _ _ (h v' w' h2 h3)

theorem RdM.nil {w : World} {n c : Nat} {cs : List CellD} (h : RdM w (.slice none n c) cs) : cs = [] := by
  obtain ⟨A', c', h1, h2, h3, h4⟩ := h
  injection h1 with e1 e2 e3
  subst e1
  cases cs with
  | nil => rfl
  | cons d cs =>
    obtain ⟨b, hb, _⟩ := h4 (by simp)
    cases hb

set_option maxRecDepth 100000 in
set_option maxHeartbeats 4000000 in
theorem clone_any (cs : List CellD) (A : Option Addr) (q c : Nat) (w : World) (h : RdM w (.slice A q c) cs) (hl : q ≤ 1048600) :
    Calls Tryd.prog 86 #[.slice A q c] w fun E w' => ∃ v, E = .returned v ∧ RowM w' w.heap.size v cs ∧ Below w.heap.size w w' := by
  have H := Lib.hid h
  cases A with
  | none =>
    have hcs := h.nil
    have HCS := Lib.hid hcs
    have hE := Lib.run_eql_slice_nil (P := Tryd.prog) w 56 96 none q c 0 0 Tryd.underlying56
    clear h hcs
    go_enter Tryd.func86, Tryd.ntmps86
    go_wp2_with fail
    go_ret
    exact ⟨_, rfl, by rw [HCS.out]; exact ⟨[], rfl, World.ownsRow_nil _ _ _ _, fun j p hp => by simp at hp⟩, Below.refl _ _⟩
  | some b =>
    have hbo : Below w.heap.size w (w.alloc (.cells #[] 96)) := (Below.refl _ _).alloc (Nat.le_refl _) _
    have HBO := Lib.hid hbo
    have hE := Lib.run_eql_slice_nil (P := Tryd.prog) w 56 96 (some b) q c 0 0 Tryd.underlying56
    clear h hbo
    go_enter Tryd.func86, Tryd.ntmps86
    go_wp2_with (at_builtin; refine wpList_append_places rfl _ _ rfl rfl w.heap.size w.heap.size b q c cs rfl rfl ?rH ?rown ?rrd ?rl ?rB ?_)
    case rH => simp
    case rown => exact own_empty rfl (Nat.le_refl _)
    case rrd => exact H.out.below HBO.out
    case rl => omega
    case rB => simp
    intro v' w' hM hg
    have hbf : Below w.heap.size w w' := HBO.out.grown hg (by simp) (fun k hk => by injection hk with hk; omega)
    have HM := Lib.hid hM
    clear hM hg
    go_wp2_with fail
    go_ret
    exact ⟨v', rfl, HM.out, hbf⟩

set_option maxRecDepth 100000 in
set_option maxHeartbeats 4000000 in
theorem with_any (cs : List CellD) (A : Option Addr) (q c i : Nat) (d : CellD) (p : Option Addr) (w : World) (h : RdM w (.slice A q c) cs) (hl : q ≤ 1048600) (hi : i < q) (hs : Stk w w.heap.size d.tags.reverse p) :
    Calls Tryd.prog 76 #[.slice A q c, .int .i64 (i : Int), .agg #[.int .i64 d.val, .bool d.alive, .int .i64 d.next, .pointer p]] w fun E w' => ∃ v, E = .returned v ∧ RowM w' w.heap.size v (cs.set i d) ∧ Below w.heap.size w w' := by
  have hbo : Below w.heap.size w (w.alloc (.cells #[.int .i64 d.val, .bool d.alive, .int .i64 d.next, .pointer p] 96)) := (Below.refl _ _).alloc (Nat.le_refl _) _
  have hX := heap_alloc_new w (.cells #[.int .i64 d.val, .bool d.alive, .int .i64 d.next, .pointer p] 96)
  have hz : (w.alloc (.cells #[.int .i64 d.val, .bool d.alive, .int .i64 d.next, .pointer p] 96)).heap.size = w.heap.size + 1 := by simp
  have H := Lib.hid h
  have HBO := Lib.hid hbo
  have HX := Lib.hid hX
  have HZ := Lib.hid hz
  have HS := Lib.hid hs
  have HN := Lib.hid h.len.1
  clear h hbo hX hz hs
  go_enter Tryd.func76, Tryd.ntmps76
  go_wp2_with fail
  refine (clone_any cs A q c _ (H.out.below HBO.out) hl).mono ?_
  rintro E w1 ⟨v, rfl, hM, hb1⟩
  rw [HZ.out] at hM hb1
  have hX1 := (hb1.block w.heap.size (by omega)).trans HX.out
  have hbb := HBO.out.trans (hb1.mono (by omega))
  have hz1 := hb1.size
  rw [HZ.out] at hz1
  have x0 : w1.cell? ⟨w.heap.size, 0, none⟩ = some (.int .i64 d.val) := (cell_of_block hX1 0).trans rfl
  have x1 : w1.cell? ⟨w.heap.size, 1, none⟩ = some (.bool d.alive) := (cell_of_block hX1 1).trans rfl
  have x2 : w1.cell? ⟨w.heap.size, 2, none⟩ = some (.int .i64 d.next) := (cell_of_block hX1 2).trans rfl
  have x3 : w1.cell? ⟨w.heap.size, 3, none⟩ = some (.pointer p) := (cell_of_block hX1 3).trans rfl
  obtain ⟨rs, hrs, hP⟩ := hM
  have hrl : rs.length = q := by
    have := congrArg List.length hrs
    rw [List.length_map] at this
    rw [this]
    exact HN.out.symm
  obtain ⟨A1, c1, hv, hn1, hn2, hA1⟩ := own_form hP.own
  rw [hrl] at hv hn1 hA1
  obtain ⟨g, rfl, hgb, hgl⟩ := hA1 (by omega)
  subst hv
  unfold maxLen at hn2
  have hri : i < rs.length := by omega
  have hsp : rs = rs.take i ++ rs[i] :: rs.drop (i + 1) := by
    conv => lhs; rw [← List.take_append_drop i rs]
    rw [List.drop_eq_getElem_cons hri]
  obtain ⟨X, hX⟩ : ∃ X, X = rs.take i := ⟨_, rfl⟩
  obtain ⟨Y, hY⟩ : ∃ Y, Y = rs.drop (i + 1) := ⟨_, rfl⟩
  obtain ⟨r, hr⟩ : ∃ r, r = rs[i] := ⟨_, rfl⟩
  rw [← hX, ← hY, ← hr] at hsp
  have hXl : X.length = i := by rw [hX]; simp; omega
  rw [hsp] at hP
  have hlen : (X ++ r :: Y).length = q := by rw [← hsp]; exact hrl
  have hput := RowP.put4 (q := (d, p)) hP hlen ((HS.out.below hbb (Nat.le_refl _)).mono (by omega))
  rw [hXl] at hput
  have hown := hP.own
  rw [hlen] at hown
  have hcell : ∀ j, j < 4 → w1.cell? ⟨g, i * 4 + j, none⟩ = (prow r)[j]? := by
    intro j hj
    have hlt : i * 4 + j < q * 4 := by omega
    have h1 := hown.cellAt (i * 4 + j) hlt
    rw [h1]
    exact flat_get prow_length _ i j r (by rw [← hXl]; simp) hj
  have c0 : w1.cell? ⟨g, i * 4, none⟩ = some (.int .i64 r.1.val) := hcell 0 (by omega)
  have c1' : w1.cell? ⟨g, i * 4 + 1, none⟩ = some (.bool r.1.alive) := hcell 1 (by omega)
  have c2 : w1.cell? ⟨g, i * 4 + 2, none⟩ = some (.int .i64 r.1.next) := hcell 2 (by omega)
  have c3 : w1.cell? ⟨g, i * 4 + 3, none⟩ = some (.pointer r.2) := hcell 3 (by omega)
  have f0 := hown.frozenAt (i * 4)
  have f1 := hown.frozenAt (i * 4 + 1)
  have f2 := hown.frozenAt (i * 4 + 2)
  have f3 := hown.frozenAt (i * 4 + 3)
  have hmap : (X ++ (d, p) :: Y).map Prod.fst = cs.set i d := by
    rw [← hrs, hsp, List.map_append, List.map_cons, List.map_append, List.map_cons, List.set_append_right _ _ (by simp; omega)]
    simp [hXl]
  have HF := Lib.hid (show RowM _ (w.heap.size + 1) (.slice (some ⟨g, 0, none⟩) q c1) (cs.set i d) from ⟨_, hmap, hput⟩)
  clear hown hP hput hcell hmap hsp hX hY hr hrs hrl hlen hXl hri hb1 hX1
  go_wp2_with fail
  go_ret
  exact ⟨_, rfl, HF.out.mono (by omega), (((hbb.setCell (by show w.heap.size ≤ g; omega) _).setCell (by show w.heap.size ≤ g; omega) _).setCell (by show w.heap.size ≤ g; omega) _).setCell (by show w.heap.size ≤ g; omega) _⟩

end Go.Proofs.YtfkoobdlhdolbaaDoor
