/-
  Reading a cell, by the model.
-/
import Derived.Test.YtfkoobdlhdolbaaDoorCelO
import Derived.Test.YtfkoobdlhdolbaaDoorCelP
import Derived.Test.YtfkoobdlhdolbaaDoorCelRd
import Derived.Deep.RegionHeld3
namespace Go.Proofs.YtfkoobdlhdolbaaDoor
open Go.RowKit Go.Deep
set_option linter.unusedVariables false

/-- A memory and two numbers. -/
def Post3 (m : List CellD) (r e : Int) (w : World) (E : Ending) (w' : World) : Prop := ∃ A n c, E = .returned (.tuple #[.slice A n c, .int .i64 r, .int .i64 e]) ∧ RowC w' w.heap.size (.slice A n c) m ∧ Below w.heap.size w w'

/-- A memory and a number. -/
def Post2 (m : List CellD) (e : Int) (w : World) (E : Ending) (w' : World) : Prop := ∃ A n c, E = .returned (.tuple #[.slice A n c, .int .i64 e]) ∧ RowC w' w.heap.size (.slice A n c) m ∧ Below w.heap.size w w'

/-- What a cell holds. -/
def held (w : World) (p : Addr) : Value := (w.cell? p).getD (.bool false)

/-- Nothing that was there has turned but one cell of one block. -/
structure SameBut (g o : Nat) (w w' : World) : Prop where
  os : w'.os = w.os
  tape : w'.tape = w.tape
  output : w'.output = w.output
  size : w.heap.size ≤ w'.heap.size
  lt : g < w.heap.size
  block : ∀ k, k < w.heap.size → k ≠ g → w'.heap[k]? = w.heap[k]?
  row : ∀ x, (w'.setCell ⟨g, o, none⟩ x).heap[g]? = (w.setCell ⟨g, o, none⟩ x).heap[g]?

theorem SameBut.refl {g o : Nat} {w : World} (h : g < w.heap.size) : SameBut g o w w.drew := ⟨rfl, rfl, rfl, Nat.le_refl _, h, fun _ _ _ => rfl, fun _ => rfl⟩

theorem setCell_same_block {w w' : World} {g o : Nat} {x : Value} (h : w'.heap[g]? = w.heap[g]?) : (w'.setCell ⟨g, o, none⟩ x).heap[g]? = (w.setCell ⟨g, o, none⟩ x).heap[g]? := by
  simp [World.setCell, Array.getElem?_modify, h]

theorem SameBut.below {g o : Nat} {w w' w'' : World} (h : SameBut g o w w') (hb : Below w'.heap.size w' w'') : SameBut g o w w'' :=
  ⟨hb.os.trans h.os, hb.tape.trans h.tape, hb.output.trans h.output, Nat.le_trans h.size hb.size, h.lt, fun k hk hg => (hb.block k (Nat.lt_of_lt_of_le hk h.size)).trans (h.block k hk hg),
    fun x => (setCell_same_block (hb.block g (Nat.lt_of_lt_of_le h.lt h.size))).trans (h.row x)⟩

theorem SameBut.store {g o : Nat} {w w' : World} (h : SameBut g o w w') (v : Value) : SameBut g o w (w'.setCell ⟨g, o, none⟩ v) :=
  ⟨h.os, h.tape, h.output, by simpa [World.setCell] using h.size, h.lt, fun k hk hg => (heap_set (by exact hg)).trans (h.block k hk hg), fun x => by
    rw [← h.row x]
    simp only [World.setCell, Array.getElem?_modify, if_true]
    cases w'.heap[g]? with
    | none => rfl
    | some b => cases b <;> simp⟩

/-- Behind the store: what was there, and the row with its new cell. -/
theorem SameBut.after {g o : Nat} {w w' : World} (h : SameBut g o w w') (x : Value) : ∀ k, k < w.heap.size → (w'.setCell ⟨g, o, none⟩ x).heap[k]? = (w.setCell ⟨g, o, none⟩ x).heap[k]? := by
  intro k hk
  by_cases e : k = g
  · subst e
    exact h.row x
  · rw [heap_set (by exact e), heap_set (by exact e)]
    exact h.block k hk e

theorem same_call {g o : Nat} {w1 wo w' : World} {p1 p2 : Addr} {u1 u2 : Value} (h : SameBut g o w1 wo ∧ wo.cell? p1 = some u1 ∧ wo.cell? p2 = some u2 ∧ wo.cell? ⟨g, o, none⟩ = some (held wo ⟨g, o, none⟩) ∧ wo.frozen? ⟨g, o, none⟩ = false)
    (hb : Below wo.heap.size wo w') : SameBut g o w1 w' ∧ w'.cell? p1 = some u1 ∧ w'.cell? p2 = some u2 ∧ w'.cell? ⟨g, o, none⟩ = some (held w' ⟨g, o, none⟩) ∧ w'.frozen? ⟨g, o, none⟩ = false := by
  obtain ⟨h1, h2, h3, h4, h5⟩ := h
  have hg : g < wo.heap.size := Nat.lt_of_lt_of_le h1.lt h1.size
  have k1 := World.block_lt_of_cell? wo _ h2
  have k2 := World.block_lt_of_cell? wo _ h3
  have h4' := (hb.cell (p := ⟨g, o, none⟩) hg).trans h4
  exact ⟨h1.below hb, (hb.cell k1).trans h2, (hb.cell k2).trans h3, by unfold held; rw [h4']; rfl, (hb.frozen (p := ⟨g, o, none⟩) hg).trans h5⟩

theorem same_store {g o : Nat} {w1 wo : World} {p1 p2 : Addr} {u1 u2 : Value} (h : SameBut g o w1 wo ∧ wo.cell? p1 = some u1 ∧ wo.cell? p2 = some u2 ∧ wo.cell? ⟨g, o, none⟩ = some (held wo ⟨g, o, none⟩) ∧ wo.frozen? ⟨g, o, none⟩ = false)
    (n1 : p1.block ≠ g) (n2 : p2.block ≠ g) (v : Value) : SameBut g o w1 (wo.setCell ⟨g, o, none⟩ v) ∧ (wo.setCell ⟨g, o, none⟩ v).cell? p1 = some u1 ∧ (wo.setCell ⟨g, o, none⟩ v).cell? p2 = some u2 ∧
      (wo.setCell ⟨g, o, none⟩ v).cell? ⟨g, o, none⟩ = some (held (wo.setCell ⟨g, o, none⟩ v) ⟨g, o, none⟩) ∧ (wo.setCell ⟨g, o, none⟩ v).frozen? ⟨g, o, none⟩ = false := by
  obtain ⟨h1, h2, h3, h4, h5⟩ := h
  have e : (wo.setCell ⟨g, o, none⟩ v).cell? ⟨g, o, none⟩ = some v := World.cell?_setCell_same _ _ _ h4
  exact ⟨h1.store v, (World.cell?_setCell_other _ _ _ _ (fun e => n1 (by rw [← e]))).trans h2, (World.cell?_setCell_other _ _ _ _ (fun e => n2 (by rw [← e]))).trans h3, by unfold held; rw [e]; rfl, by rw [World.frozen?_setCell]; exact h5⟩

theorem mem_split {cs : List CellD} {rs : List (CellD × Value)} {i : Nat} {d : CellD} (h : rs.map Prod.fst = cs) (hd : cs[i]? = some d) : ∃ A C u, rs = A ++ (d, u) :: C ∧ A.length = i ∧ ∀ d', (A ++ (d', u) :: C).map Prod.fst = cs.set i d' := by
  subst h
  rw [List.getElem?_map] at hd
  obtain ⟨p, hp, rfl⟩ := Option.map_eq_some_iff.1 hd
  have hi := (List.getElem?_eq_some_iff.1 hp).1
  refine ⟨rs.take i, rs.drop (i + 1), p.2, ?_, by simp; omega, fun d' => ?_⟩
  · have := List.getElem_cons_drop hi
    rw [← (List.getElem?_eq_some_iff.1 hp).2]
    conv => lhs; rw [← List.take_append_drop i rs]
    rw [List.drop_eq_getElem_cons hi]
  · rw [List.map_append, List.map_cons, List.set_eq_take_append_cons_drop, if_pos (by simpa using hi), List.map_take, List.map_drop]

/-- Other stacks, and more, in the place of one cell: what the list reads then. -/
theorem map_mid {A C : List (CellD × Value)} {p : CellD × Value} {d : CellD} {u : Value} {cs : List CellD} {i : Nat} (h : (A ++ p :: C).map Prod.fst = cs) (hi : A.length = i) : (A ++ (d, u) :: C).map Prod.fst = cs.set i d := by
  subst h hi
  rw [List.map_append, List.map_cons, List.map_append, List.map_cons, List.set_append_right _ _ (by simp)]
  simp

set_option maxRecDepth 100000 in
set_option maxHeartbeats 4000000 in
theorem specReadCell_err (cs : List CellD) (A : Option Addr) (q c : Nat) (pc pt e : Int) (w : World) (h : RdC w (.slice A q c) cs) (hl : cs.length + tagSum cs ≤ 1048600) (hh : hit cs pc pt = .error e) :
    Calls Tryd.prog 17 #[.slice A q c, .agg #[.int .i64 pc, .int .i64 pt]] w (Post3 cs 0 e w) := by
  have H := Lib.hid h
  have hbw : ∀ o, Below w.heap.size w (w.alloc o) := fun o => (Below.refl w.heap.size w).alloc (Nat.le_refl _) o
  have HBW := Lib.hid hbw
  have hX := heap_alloc_new w (.cells #[.int .i64 pc, .int .i64 pt] 25)
  have hz : (w.alloc (.cells #[.int .i64 pc, .int .i64 pt] 25)).heap.size = w.heap.size + 1 := by simp
  have HX := Lib.hid hX
  have HZ := Lib.hid hz
  have HH := Lib.hid hh
  have he0 := (l6Place_err cs A q c pc pt e w h hh).2
  clear h hbw hX hz hh
  go_enter Tryd.func17, Tryd.ntmps17
  go_wp2_with fail
  refine (l6Copy_any cs A q c _ (H.out.below (HBW.out _)) hl).mono ?_
  rintro E w1 ⟨v1, rfl, hR1, hb1⟩
  rw [HZ.out] at hR1 hb1
  have hXw := (hb1.block w.heap.size (by omega)).trans HX.out
  have x0 : w1.cell? ⟨w.heap.size, 0, none⟩ = some (.int .i64 pc) := (cell_of_block hXw 0).trans rfl
  have x1 : w1.cell? ⟨w.heap.size, 1, none⟩ = some (.int .i64 pt) := (cell_of_block hXw 1).trans rfl
  have hbb : Below w.heap.size w w1 := (HBW.out _).trans (hb1.mono (by omega))
  have HR1 := Lib.hid (hR1.mono (show w.heap.size ≤ w.heap.size + 1 by omega))
  obtain ⟨A1, c1, hv1, -⟩ := hR1.form
  obtain ⟨n1, hn1⟩ : ∃ n1, n1 = cs.length := ⟨_, rfl⟩
  rw [← hn1] at hv1
  subst hv1
  clear hXw hb1 hR1 hn1
  go_wp2_with fail
  refine (l6Place_err cs A q c pc pt e _ (H.out.below hbb) HH.out).1.mono ?_
  rintro E w2 ⟨rfl, hb2⟩
  have HR2 := Lib.hid (HR1.out.below hb2)
  have hbb2 := hbb.trans (hb2.mono hbb.size)
  clear hb2
  go_wp2_with fail
  exact bodyPost_ret (v := .tuple #[.slice A1 n1 c1, .int .i64 0, .int .i64 e]) (by simp [results, Tryd.results17, go_sem]) rfl ⟨A1, n1, c1, rfl, HR2.out, hbb2⟩

set_option maxRecDepth 100000 in
set_option maxHeartbeats 4000000 in
theorem specReadCell_ok (cs : List CellD) (A : Option Addr) (q c : Nat) (pc pt : Int) (i k : Nat) (d : CellD) (w : World) (h : RdC w (.slice A q c) cs) (hl : cs.length + tagSum cs ≤ 1048600) (hh : hit cs pc pt = .ok (i, k, d)) :
    Calls Tryd.prog 17 #[.slice A q c, .agg #[.int .i64 pc, .int .i64 pt]] w (Post3 (cs.set i { d with tags := readT d.tags k }) d.val 0 w) := by
  have H := Lib.hid h
  have hbw : ∀ o, Below w.heap.size w (w.alloc o) := fun o => (Below.refl w.heap.size w).alloc (Nat.le_refl _) o
  have HBW := Lib.hid hbw
  have hX := heap_alloc_new w (.cells #[.int .i64 pc, .int .i64 pt] 25)
  have hz : (w.alloc (.cells #[.int .i64 pc, .int .i64 pt] 25)).heap.size = w.heap.size + 1 := by simp
  have HX := Lib.hid hX
  have HZ := Lib.hid hz
  have HH := Lib.hid hh
  obtain ⟨hm, hc, hd, hal, hk⟩ := hit_ok hh
  obtain ⟨hq, hc1, hc2⟩ := h.len
  have hiq : i < q := by rw [hq]; exact (List.getElem?_eq_some_iff.1 hd).1
  have hdok := (memB_out hm).2 i d hd
  have hkl := tagAt_lt hk
  have hlm := hdok.lenM
  have HD := Lib.hid hd
  have HN := Lib.hid hq
  unfold maxLen at hc2
  subst hc
  clear h hbw hX hz hh hm hd hk hdok hq hal
  go_enter Tryd.func17, Tryd.ntmps17
  go_wp2_with fail
  refine (l6Copy_any cs A q c _ (H.out.below (HBW.out _)) hl).mono ?_
  rintro E w1 ⟨v1, rfl, hR1, hb1⟩
  rw [HZ.out] at hR1 hb1
  have HX1 := Lib.hid ((hb1.block w.heap.size (by omega)).trans HX.out)
  have x0 : w1.cell? ⟨w.heap.size, 0, none⟩ = some (.int .i64 (i : Int)) := (cell_of_block HX1.out 0).trans rfl
  have x1 : w1.cell? ⟨w.heap.size, 1, none⟩ = some (.int .i64 pt) := (cell_of_block HX1.out 1).trans rfl
  have hbb : Below w.heap.size w w1 := (HBW.out _).trans (hb1.mono (by omega))
  have hs1 := hb1.size
  rw [HZ.out] at hs1
  have HR1 := Lib.hid hR1
  obtain ⟨A1, c1, hv1, hn1, hn2⟩ := hR1.form
  rw [← HN.out] at hv1 hn1
  unfold maxLen at hn2
  subst hv1
  clear hb1 hR1
  go_wp2_with fail
  refine (l6Place_ok cs A q c i pt i k d _ (H.out.below hbb) HH.out).mono ?_
  rintro E w2 ⟨rfl, hb2⟩
  have HX2 := Lib.hid ((hb2.block w.heap.size (by omega)).trans HX1.out)
  have y0 : w2.cell? ⟨w.heap.size, 0, none⟩ = some (.int .i64 (i : Int)) := (cell_of_block HX2.out 0).trans rfl
  have hbb2 := hbb.trans (hb2.mono hbb.size)
  have hs2 := hb2.size
  have HR2 := Lib.hid (HR1.out.below hb2)
  clear hb2 x0 x1
  obtain ⟨rs, hrs, hU⟩ := HR2.out
  obtain ⟨Ar, Cr, u, hsp, hArl, -⟩ := mem_split hrs HD.out
  subst hsp
  have hlen : (Ar ++ (d, u) :: Cr).length = q := by
    have := congrArg List.length hrs
    rw [List.length_map] at this
    rw [this]
    exact HN.out.symm
  obtain ⟨g, cap, eg, hg1, hg2⟩ : ∃ g cap, Value.slice A1 q c1 = .slice (some ⟨g, 0, none⟩) q cap ∧ w.heap.size + 1 ≤ g ∧ g < w2.heap.size := by
    obtain ⟨A', c', e1, _, _, e2⟩ := own_form hU.own
    rw [hlen] at e1 e2
    obtain ⟨g, rfl, h1, h2⟩ := e2 (by omega)
    exact ⟨g, c', e1, h1, h2⟩
  injection eg with eg1 _ eg2
  subst eg1 eg2
  obtain ⟨s0, s1, s2, s3, sf, hT0, hng⟩ := hU.cells4 hlen
  rw [hArl] at s3
  have sf3 := sf (i * 4 + 3)
  obtain ⟨b, Au, cu, rfl, hbk, ⟨a0, a1, a2, a3⟩, hTd⟩ := H.out.at_ HD.out
  have hTk : Hid (∀ k, (Value.slice Au d.tags.length cu).ownBlock = some k → k < w.heap.size) := by
    intro k hk
    obtain ⟨b', id', u', hb', hbb', _⟩ := hTd.elem (k := 0) (by omega)
    subst hb'
    have : b'.block = k := by simpa [Value.ownBlock] using hk
    omega
  replace hTd := hTd.below hbb2
  replace a3 := (hbb2.cell (p := ⟨(b.add (i * 4)).block, (b.add (i * 4)).off + 3, none⟩) (by show (b.add (i * 4)).block < _; rw [block_add]; exact hbk)).trans a3
  have a0' : Hid (w2.cell? (b.add (i * 4)) = some (.int .i64 d.val)) := (hbb2.cell (p := b.add (i * 4)) (by rw [block_add]; exact hbk)).trans a0
  have HTd := Lib.hid hTd
  have HU := Lib.hid hU
  have HLEN := Lib.hid hlen
  have HRS := Lib.hid hrs
  have HAL := Lib.hid hArl
  have hgn1 : w.heap.size ≠ g := by omega
  have hgn2 : (b.add (i * 4)).block ≠ g := by rw [block_add]; omega
  clear hU hlen hrs hArl hTd s0 s1 s2 sf hT0 a0 a1 a2 HR1 HR2
  go_wp2_with fail
  have sh : w2.cell? ⟨g, i * 4 + 3, none⟩ = some (held w2 ⟨g, i * 4 + 3, none⟩) := by unfold held; rw [s3]; rfl
  clear s3
  go_region_held3 (fun w' => SameBut g (i * 4 + 3) w2 w' ∧ w'.cell? ⟨w.heap.size, 0, none⟩ = some (.int .i64 (i : Int)) ∧ w'.cell? ⟨(b.add (i * 4)).block, (b.add (i * 4)).off + 3, none⟩ = some (.slice Au d.tags.length cu) ∧ w'.cell? ⟨g, i * 4 + 3, none⟩ = some (held w' ⟨g, i * 4 + 3, none⟩) ∧ w'.frozen? ⟨g, i * 4 + 3, none⟩ = false)
    (first | exact ⟨SameBut.refl hg2, y0, a3, sh, sf3⟩ | exact hS3 | exact same_store hS3 hgn1 hgn2 _)
    ((go_at_call 47; refine (l6Read_any d.tags Au d.tags.length cu k _ ?_ ?_ ?_).mono ?_; (have hbx := And.left ‹SameBut g (i * 4 + 3) w2 _ ∧ _›; exact HTd.out.keep hbx.size fun k hk => hbx.block k (by have := hTk.out k hk; omega) (by have := hTk.out k hk; omega)); (exact hkl); (omega); rintro E w' ⟨v2, rfl, hR3, hbn⟩; obtain ⟨A2, c2, hv2, -, -, -⟩ := own_form hR3; subst hv2; have hS3 := same_call ‹SameBut g (i * 4 + 3) w2 _ ∧ _› hbn))
  obtain ⟨hsb, z0, -, -, -⟩ := ‹SameBut g (i * 4 + 3) w2 (World.setCell w' _ _) ∧ _›
  have hbw' : Below w2.heap.size w2 w' := ((Below.refl w2.heap.size w2).drew).trans hbn
  obtain ⟨hUf, hOf⟩ := (HU.out.below hbw').putStack HLEN.out (own_mono hR3 (by show w.heap.size + 1 ≤ w2.heap.size; omega)) (fun j r a hj hr ha e => by
    have e1 := (World.ownsRow.lt (HU.out.tags j r hr) a ha).2
    have e2 : w2.heap.size ≤ a := (World.ownsRow.lt hR3 a e).1
    omega)
  rw [HAL.out] at hUf hOf
  have HF : Hid (RowC (w'.setCell ⟨g, i * 4 + 3, none⟩ (.slice A2 (readT d.tags k).length c2)) w.heap.size (.slice (some ⟨g, 0, none⟩) q c1) (cs.set i { d with tags := readT d.tags k })) :=
    RowC.mono ⟨_, map_mid HRS.out HAL.out, hUf⟩ (by omega)
  have hbf : Below w.heap.size w (w'.setCell ⟨g, i * 4 + 3, none⟩ (.slice A2 (readT d.tags k).length c2)) := (hbb2.trans (hbw'.mono hbb2.size)).setCell (by show w.heap.size ≤ g; omega) _
  have z1 : (w'.setCell ⟨g, i * 4 + 3, none⟩ (.slice A2 (readT d.tags k).length c2)).cell? (b.add (i * 4)) = some (.int .i64 d.val) :=
    (World.cell?_setCell_other _ _ _ _ (fun e => hgn2 (by rw [← e]))).trans ((hbw'.cell (World.block_lt_of_cell? w2 _ a0'.out)).trans a0'.out)
  clear hUf hOf hsb hS3 hR3 hbn sh sf3 y0 a3 ‹SameBut g (i * 4 + 3) w2 (World.setCell w' _ _) ∧ _› hbw'
  generalize w'.setCell ⟨g, i * 4 + 3, none⟩ (.slice A2 (readT d.tags k).length c2) = w3 at *
  go_wp2_with fail
  go_quiet (fail)
  go_wp2_with fail
  exact bodyPost_ret (v := .tuple #[.slice (some ⟨g, 0, none⟩) q c1, .int .i64 d.val, .int .i64 0]) (by simp [results, Tryd.results17, go_sem]) rfl ⟨_, _, _, rfl, HF.out.below (below_drewN (Below.refl _ _) _), below_drewN hbf _⟩

end Go.Proofs.YtfkoobdlhdolbaaDoor
