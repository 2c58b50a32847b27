/-
  The program's own memories: rows of places with persistent stacks.
-/
import Derived.Test.YtfkoobdlhdolbaaDoorStk
import Derived.Test.YtfkoobdlhdolbaaDoorCelQ
namespace Go.Proofs.YtfkoobdlhdolbaaDoor
open Go.RowKit Go.Deep
set_option linter.unusedVariables false

theorem Tryd.infoPlace : (Tryd.prog.info? 96).map (fun i => (i.zero, i.size, i.bytes)) = some (some (.agg #[.int .i64 0, .bool false, .int .i64 0, .pointer none]), 4, 32) := by kernel_rfl

/-- The cells of memory of a place. -/
def prow (p : CellD × Option Addr) : List Value := [.int .i64 p.1.val, .bool p.1.alive, .int .i64 p.1.next, .pointer p.2]

theorem prow_length (p : CellD × Option Addr) : (prow p).length = 4 := rfl

/-- A value reads as a memory of the program's own. -/
def RdM (w : World) (v : Value) (cs : List CellD) : Prop :=
  ∃ A c, v = .slice A cs.length c ∧ cs.length ≤ c ∧ c ≤ maxLen ∧ (0 < cs.length → ∃ b, A = some b ∧ b.block < w.heap.size ∧ ∀ k d, cs[k]? = some d → ∃ p,
    (w.cell? (b.add (k * 4)) = some (.int .i64 d.val) ∧ w.cell? ⟨(b.add (k * 4)).block, (b.add (k * 4)).off + 1, none⟩ = some (.bool d.alive) ∧ w.cell? ⟨(b.add (k * 4)).block, (b.add (k * 4)).off + 2, none⟩ = some (.int .i64 d.next) ∧
      w.cell? ⟨(b.add (k * 4)).block, (b.add (k * 4)).off + 3, none⟩ = some (.pointer p)) ∧ Stk w w.heap.size d.tags.reverse p)

theorem RdM.below {w w' : World} {v : Value} {cs : List CellD} (h : RdM w v cs) (hb : Below w.heap.size w w') : RdM w' v cs := by
  obtain ⟨A, c, h1, h2, h3, h4⟩ := h
  refine ⟨A, c, h1, h2, h3, fun h0 => ?_⟩
  obtain ⟨b, h5, h6, h7⟩ := h4 h0
  have hk : ∀ (k o : Nat), w'.cell? ⟨(b.add (k * 4)).block, o, none⟩ = w.cell? ⟨(b.add (k * 4)).block, o, none⟩ := fun k o => hb.cell (by show (b.add (k * 4)).block < _; rw [block_add]; exact h6)
  refine ⟨b, h5, Nat.lt_of_lt_of_le h6 hb.size, fun k d hd => ?_⟩
  obtain ⟨u, ⟨c0, c1, c2, c3⟩, ht⟩ := h7 k d hd
  exact ⟨u, ⟨(hb.cell (by rw [block_add]; exact h6)).trans c0, (hk k _).trans c1, (hk k _).trans c2, (hk k _).trans c3⟩, (ht.below hb (Nat.le_refl _)).mono hb.size⟩

theorem RdM.len {w : World} {A : Option Addr} {n c : Nat} {cs : List CellD} (h : RdM w (.slice A n c) cs) : n = cs.length ∧ n ≤ c ∧ c ≤ maxLen := by
  obtain ⟨A', c', h1, h2, h3, h4⟩ := h
  injection h1 with e1 e2 e3
  subst e2 e3
  exact ⟨rfl, h2, h3⟩

theorem RdM.elem {w : World} {A : Option Addr} {n c : Nat} {cs : List CellD} (h : RdM w (.slice A n c) cs) {k : Nat} {d : CellD} (hd : cs[k]? = some d) :
    ∃ b p, A = some b ∧ b.block < w.heap.size ∧ (w.cell? (b.add (k * 4)) = some (.int .i64 d.val) ∧ w.cell? ⟨(b.add (k * 4)).block, (b.add (k * 4)).off + 1, none⟩ = some (.bool d.alive) ∧ w.cell? ⟨(b.add (k * 4)).block, (b.add (k * 4)).off + 2, none⟩ = some (.int .i64 d.next) ∧
      w.cell? ⟨(b.add (k * 4)).block, (b.add (k * 4)).off + 3, none⟩ = some (.pointer p)) ∧ Stk w w.heap.size d.tags.reverse p := by
  obtain ⟨A', c', h1, h2, h3, h4⟩ := h
  have hk := (List.getElem?_eq_some_iff.1 hd).1
  obtain ⟨b, h5, h6, h7⟩ := h4 (by omega)
  injection h1 with e1 e2 e3
  subst e1
  obtain ⟨p, hc, hs⟩ := h7 k d hd
  exact ⟨b, p, h5, h6, hc, hs⟩

/-- A value is a row of places that the call owns. -/
structure RowP (w : World) (B : Nat) (v : Value) (rs : List (CellD × Option Addr)) : Prop where
  own : w.ownsRow B 96 4 v rs.length (rs.flatMap prow)
  stk : ∀ (j : Nat) (p : CellD × Option Addr), rs[j]? = some p → Stk w w.heap.size p.1.tags.reverse p.2

theorem RowP.below {w w' : World} {B : Nat} {v : Value} {rs : List (CellD × Option Addr)} (h : RowP w B v rs) (hb : Below w.heap.size w w') : RowP w' B v rs :=
  ⟨own_below h.own hb, fun j p hp => ((h.stk j p hp).below hb (Nat.le_refl _)).mono hb.size⟩

theorem RowP.mono {w : World} {B B' : Nat} {v : Value} {rs : List (CellD × Option Addr)} (h : RowP w B v rs) (hb : B' ≤ B) : RowP w B' v rs := ⟨own_mono h.own hb, h.stk⟩

/-- A value is a memory of the program's own, in a row that the call made. -/
def RowM (w : World) (B : Nat) (v : Value) (cs : List CellD) : Prop := ∃ rs, rs.map Prod.fst = cs ∧ RowP w B v rs

theorem RowM.below {w w' : World} {B : Nat} {v : Value} {cs : List CellD} (h : RowM w B v cs) (hb : Below w.heap.size w w') : RowM w' B v cs := by
  obtain ⟨rs, h1, h2⟩ := h
  exact ⟨rs, h1, h2.below hb⟩

theorem RowM.mono {w : World} {B B' : Nat} {v : Value} {cs : List CellD} (h : RowM w B v cs) (hb : B' ≤ B) : RowM w B' v cs := by
  obtain ⟨rs, h1, h2⟩ := h
  exact ⟨rs, h1, h2.mono hb⟩

theorem RowP.reads {w : World} {B : Nat} {v : Value} {rs : List (CellD × Option Addr)} (h : RowP w B v rs) : RdM w v (rs.map Prod.fst) := by
  obtain ⟨A, c, hv, hc1, hc2, hA⟩ := own_form h.own
  refine ⟨A, c, by rw [List.length_map]; exact hv, by rw [List.length_map]; exact hc1, hc2, fun h0 => ?_⟩
  rw [List.length_map] at h0
  obtain ⟨g, rfl, hB, hg⟩ := hA h0
  refine ⟨_, rfl, hg, fun k d hd => ?_⟩
  rw [List.getElem?_map] at hd
  obtain ⟨p, hp, rfl⟩ := Option.map_eq_some_iff.1 hd
  have hc : ∀ i u, i < 4 → (prow p)[i]? = some u → w.cell? ⟨g, k * 4 + i, none⟩ = some u := fun i u hi hu => by
    have := World.ownsRow.cells h.own (g := g) (by rw [hv]; rfl) (k * 4 + i) u (by rw [flat_get prow_length rs k i p hp hi]; exact hu)
    rwa [add_block, Nat.zero_add] at this
  rw [add_block, Nat.zero_add]
  exact ⟨p.2, ⟨hc 0 _ (by omega) rfl, hc 1 _ (by omega) rfl, hc 2 _ (by omega) rfl, hc 3 _ (by omega) rfl⟩, h.stk k p hp⟩

theorem RowM.reads {w : World} {B : Nat} {v : Value} {cs : List CellD} (h : RowM w B v cs) : RdM w v cs := by
  obtain ⟨rs, rfl, h2⟩ := h
  exact h2.reads

/-- A place more. -/
theorem RowP.snoc {w w' : World} {B : Nat} {v v' : Value} {rs : List (CellD × Option Addr)} {p : CellD × Option Addr} (h : RowP w B v rs) (hs : Stk w w.heap.size p.1.tags.reverse p.2) (hg : w.grownBy w' v.ownBlock)
    (ho : w'.ownsRow B 96 4 v' (rs.length + 1) (rs.flatMap prow ++ [.int .i64 p.1.val, .bool p.1.alive, .int .i64 p.1.next, .pointer p.2])) : RowP w' B v' (rs ++ [p]) := by
  have hk : ∀ (ts : List TagD) (hi : Nat) (q : Option Addr), hi ≤ w.heap.size → Stk w hi ts q → Stk w' hi ts q := by
    intro ts
    induction ts with
    | nil => intro hi q _ h; exact h
    | cons t ts ih =>
      intro hi q hh ⟨g, pb, h1, h2, h3, h4⟩
      refine ⟨g, pb, h1, h2, ?_, ih g pb (by omega) h4⟩
      rw [hg.block g (by omega) ?_]
      · exact h3
      · intro e
        obtain ⟨cur, hc⟩ := ownBlock_row h.own g e.symm
        rw [h3] at hc
        injection hc with hc
        injection hc with _ hc _
        exact absurd hc (by decide)
  refine ⟨by rw [List.length_append, List.flatMap_append]; exact ho, fun j q hq => ?_⟩
  rcases Nat.lt_or_ge j rs.length with hj | hj
  · rw [List.getElem?_append_left hj] at hq
    exact (hk _ _ _ (Nat.le_refl _) (h.stk j q hq)).mono hg.size
  · rw [List.getElem?_append_right hj] at hq
    have hj' : j = rs.length := by
      have := (List.getElem?_eq_some_iff.1 hq).1
      simp at this
      omega
    subst hj'
    simp at hq
    subst hq
    exact (hk _ _ _ (Nat.le_refl _) hs).mono hg.size

/-- A store of another place. -/
theorem RowP.put4 {w : World} {B g n cap : Nat} {A C : List (CellD × Option Addr)} {p q : CellD × Option Addr} (h : RowP w B (.slice (some ⟨g, 0, none⟩) n cap) (A ++ p :: C)) (hn : (A ++ p :: C).length = n) (hs : Stk w w.heap.size q.1.tags.reverse q.2) :
    RowP ((((w.setCell ⟨g, A.length * 4, none⟩ (.int .i64 q.1.val)).setCell ⟨g, A.length * 4 + 1, none⟩ (.bool q.1.alive)).setCell ⟨g, A.length * 4 + 2, none⟩ (.int .i64 q.1.next)).setCell ⟨g, A.length * 4 + 3, none⟩ (.pointer q.2)) B (.slice (some ⟨g, 0, none⟩) n cap) (A ++ q :: C) := by
  have hO := ((((One.refl g w).set (A.length * 4) (.int .i64 q.1.val)).set (A.length * 4 + 1) (.bool q.1.alive)).set (A.length * 4 + 2) (.int .i64 q.1.next)).set (A.length * 4 + 3) (.pointer q.2)
  have h1 := World.ownsRow.stored' h.own hn (A.length * 4 + 0) (.int .i64 q.1.val)
  rw [flat_mid, flat_set prow_length A C p (prow p) 0 _ (prow_length p) (by omega)] at h1
  have h2 := (h1.stored (A.length * 4 + 1) (.bool q.1.alive)).1
  rw [flat_set prow_length A C p _ 1 _ (by simp [prow]) (by omega)] at h2
  have h3 := (h2.stored (A.length * 4 + 2) (.int .i64 q.1.next)).1
  rw [flat_set prow_length A C p _ 2 _ (by simp [prow]) (by omega)] at h3
  have h4 := (h3.stored (A.length * 4 + 3) (.pointer q.2)).1
  rw [flat_set prow_length A C p _ 3 _ (by simp [prow]) (by omega)] at h4
  obtain ⟨cur, hcur⟩ := ownBlock_row h.own g rfl
  have hk : ∀ (ts : List TagD) (hi : Nat) (x : Option Addr), Stk w hi ts x → Stk ((((w.setCell ⟨g, A.length * 4, none⟩ (.int .i64 q.1.val)).setCell ⟨g, A.length * 4 + 1, none⟩ (.bool q.1.alive)).setCell ⟨g, A.length * 4 + 2, none⟩ (.int .i64 q.1.next)).setCell ⟨g, A.length * 4 + 3, none⟩ (.pointer q.2)) hi ts x := by
    intro ts
    induction ts with
    | nil => intro hi x h; exact h
    | cons t ts ih =>
      intro hi x ⟨g', pb, e1, e2, e3, e4⟩
      refine ⟨g', pb, e1, e2, (hO.block g' fun e => ?_).trans e3, ih g' pb e4⟩
      subst e
      rw [e3] at hcur
      injection hcur with hcur
      injection hcur with _ hcur _
      exact absurd hcur (by decide)
  have hl : (A ++ q :: C).length = n := by rw [← hn]; simp
  refine ⟨by rw [hl, flat_mid]; simpa [prow] using h4, fun j r hr => ?_⟩
  have hz := hO.size
  rw [hz]
  rcases mid_get (p := p) hr with ⟨_, rfl⟩ | ⟨_, hr'⟩
  · exact hk _ _ _ hs
  · exact hk _ _ _ (h.stk j r hr')

theorem held4 {w1 w' : World} {p1 p2 p3 p4 : Addr} {u1 u2 u3 u4 : Value} (h : w1.cell? p1 = some u1 ∧ w1.cell? p2 = some u2 ∧ w1.cell? p3 = some u3 ∧ w1.cell? p4 = some u4) (hb : Below w1.heap.size w1 w') :
    w'.cell? p1 = some u1 ∧ w'.cell? p2 = some u2 ∧ w'.cell? p3 = some u3 ∧ w'.cell? p4 = some u4 := by
  obtain ⟨h1, h2, h3, h4⟩ := h
  exact ⟨(hb.cell (World.block_lt_of_cell? _ _ h1)).trans h1, (hb.cell (World.block_lt_of_cell? _ _ h2)).trans h2, (hb.cell (World.block_lt_of_cell? _ _ h3)).trans h3, (hb.cell (World.block_lt_of_cell? _ _ h4)).trans h4⟩

theorem far4 {w1 w' : World} {p1 p2 p3 p4 : Addr} {u1 u2 u3 u4 : Value} {row : Option Nat} (h : w1.cell? p1 = some u1 ∧ w1.cell? p2 = some u2 ∧ w1.cell? p3 = some u3 ∧ w1.cell? p4 = some u4) (hg : w1.grownBy w' row) (n1 : some p1.block ≠ row) (n2 : some p2.block ≠ row) (n3 : some p3.block ≠ row) (n4 : some p4.block ≠ row) :
    w'.cell? p1 = some u1 ∧ w'.cell? p2 = some u2 ∧ w'.cell? p3 = some u3 ∧ w'.cell? p4 = some u4 := by
  obtain ⟨h1, h2, h3, h4⟩ := h
  exact ⟨(hg.cell_far _ (World.block_lt_of_cell? _ _ h1) n1).trans h1, (hg.cell_far _ (World.block_lt_of_cell? _ _ h2) n2).trans h2, (hg.cell_far _ (World.block_lt_of_cell? _ _ h3) n3).trans h3, (hg.cell_far _ (World.block_lt_of_cell? _ _ h4) n4).trans h4⟩

set_option maxRecDepth 100000 in
set_option maxHeartbeats 8000000 in
theorem memoryOf_any (cs : List CellD) (A : Option Addr) (q c : Nat) (w : World) (h : RdC w (.slice A q c) cs) (hl : cs.length + tagSum cs ≤ 1048600) :
    Calls Tryd.prog 62 #[.slice A q c] w fun E w' => ∃ v, E = .returned v ∧ RowM w' w.heap.size v cs ∧ Below w.heap.size w w' := by
  obtain ⟨hq, hc1, hc2⟩ := h.len
  unfold maxLen at hc2
  have HN := Lib.hid hq
  have H := Lib.hid h
  have HL := Lib.hid hl
  have hql : q ≤ 1048600 := by omega
  obtain ⟨i0, hi, hzz0, hzz1, hzz2⟩ := info_parts Tryd.infoPlace
  have HI := Lib.hid hi
  have HZ0 := Lib.hid hzz0
  have HZ1 := Lib.hid hzz1
  have HZ2 := Lib.hid hzz2
  clear hi hzz0 hzz1 hzz2 hq h hl
  go_enter Tryd.func62, Tryd.ntmps62
  go_wp2_with fail
  go_loopw [3, 8] (fun o i wr => ∃ k : Nat, i = .int .i64 k ∧ k ≤ q ∧ Hid (∃ rs, rs.map Prod.fst = cs.take k ∧ RowP wr w.heap.size o rs) ∧ Below w.heap.size w wr) (fun _ i _ => q - (intOf i).toNat)
  case atStart => exact ⟨0, rfl, Nat.zero_le _, ⟨[], rfl, World.ownsRow_nil _ _ _ _, fun j p hp => by simp at hp⟩, Below.refl _ _⟩
  case round =>
    obtain ⟨k, rfl, hk, HR, hb⟩ := hrel
    have hbz := hb.size
    by_cases hlt : k < q
    · obtain ⟨b, val, al, nx, ts, Au, cu, rfl, hbb, hd, ⟨a0, a1, a2, a3⟩, hT, t1, t2⟩ := (H.out.below hb).elem (k := k) (by rw [← HN.out]; exact hlt)
      have HD := Lib.hid hd
      have htl : ts.length ≤ 1048600 := by
        have h9 := tagSum_take_le cs (k + 1)
        rw [take_snoc hd, tagSum_snoc] at h9
        have := HL.out
        simp only at h9
        omega
      obtain ⟨rs, hrs, hU⟩ := HR.out
      have hrl : rs.length = k := by
        have h9 := congrArg List.length hrs
        have := HN.out
        simp at h9
        omega
      obtain ⟨Ao, co, hvo, -, -, -⟩ := own_form hU.own
      rw [hrl] at hvo
      subst hvo
      have HRS := Lib.hid hrs
      have HRL := Lib.hid hrl
      have hbx : Below wr.heap.size wr (wr.alloc (.cells #[.int .i64 val, .bool al, .int .i64 nx, .slice Au ts.length cu] 33)) := (Below.refl _ _).alloc (Nat.le_refl _) _
      have HT := Lib.hid (hT.below hbx)
      have HU := Lib.hid (hU.below hbx)
      have HBX := Lib.hid hbx
      have hXn := heap_alloc_new wr (.cells #[.int .i64 val, .bool al, .int .i64 nx, .slice Au ts.length cu] 33)
      have HX := Lib.hid hXn
      have hltx : wr.heap.size < (wr.alloc (.cells #[.int .i64 val, .bool al, .int .i64 nx, .slice Au ts.length cu] 33)).heap.size := by simp
      have HOWN : Hid (wr.ownsRow w.heap.size 96 4 (.slice Ao k co) k (rs.flatMap prow)) := by
        have := hU.own
        rw [hrl] at this
        exact this
      have HOWN := Lib.hid (own_below HOWN.out hbx)
      have hOBw : ¬ some wr.heap.size = (Value.slice Ao k co).ownBlock := fun e => by have := (hU.own.lt wr.heap.size e.symm).2; omega
      have HOB := Lib.hid (fun g (hg : (Value.slice Ao k co).ownBlock = some g) => hU.own.lt g hg)
      clear hd hT hU hrs hrl HR hbx hXn
      go_wp2_with fail
      have y0 := (cell_of_block HX.out 0).trans (show _ = some (.int .i64 val) from rfl)
      have y1 := (cell_of_block HX.out 1).trans (show _ = some (.bool al) from rfl)
      have y2 := (cell_of_block HX.out 2).trans (show _ = some (.int .i64 nx) from rfl)
      have y3 := (cell_of_block HX.out 3).trans (show _ = some (.slice Au ts.length cu) from rfl)
      obtain ⟨W1, hW1⟩ : ∃ W1, wr.alloc (.cells #[.int .i64 val, .bool al, .int .i64 nx, .slice Au ts.length cu] 33) = W1 := ⟨_, rfl⟩
      rw [hW1] at HT HU HBX HX HOWN hltx y0 y1 y2 y3 ⊢
      clear hW1
      go_region_held3 (fun w' => w'.cell? ⟨wr.heap.size, 0, none⟩ = some (.int .i64 val) ∧ w'.cell? ⟨wr.heap.size, 1, none⟩ = some (.bool al) ∧ w'.cell? ⟨wr.heap.size, 2, none⟩ = some (.int .i64 nx) ∧ w'.cell? ⟨wr.heap.size, 3, none⟩ = some (.slice Au ts.length cu))
        (first | exact ⟨y0, y1, y2, y3⟩ | exact hS1 | exact held4 hS1 ((Below.refl _ _).alloc (Nat.le_refl _) _) | exact hS2)
        (first
          | (go_at_call 85; refine (stackOf_any ts Au ts.length cu _ ?_ htl).mono ?_; (exact HT.out.below (Below.refl _ _).drew); rintro E w' ⟨p, rfl, hst, hbn⟩; have hS1 := held4 (show W1.drew.cell? ⟨wr.heap.size, 0, none⟩ = some (.int .i64 val) ∧ W1.drew.cell? ⟨wr.heap.size, 1, none⟩ = some (.bool al) ∧ W1.drew.cell? ⟨wr.heap.size, 2, none⟩ = some (.int .i64 nx) ∧ W1.drew.cell? ⟨wr.heap.size, 3, none⟩ = some (.slice Au ts.length cu) from ⟨y0, y1, y2, y3⟩) hbn)
          | (refine step_append_lies _ (by rfl) _ _ _ (by rfl) w.heap.size 96 i0 (.agg #[.int .i64 0, .bool false, .int .i64 0, .pointer none]) 4 32 Tryd.underlying56 HI.out HZ0.out HZ1.out HZ2.out rfl (by decide) (.slice Ao k co) k (rs.flatMap prow) (by rfl) ?_ ⟨w'.heap.size, 0, none⟩ 1 1 [.int .i64 val, .bool al, .int .i64 nx, .pointer p] (by rfl) (by rfl) ?_ ?_ (by decide) ?_ ?_ ?_ (w'.heap.size + 1) ?_ ?_;
             (exact own_below HOWN.out ((((Below.refl W1.heap.size W1).drew).trans hbn).alloc (show W1.heap.size ≤ w'.heap.size from hbn.size) _)); (exact World.news_of_block (cs := #[.int .i64 val, .bool al, .int .i64 nx, .pointer p]) (heap_alloc_new w' _)); (intro u hu; simp only [List.mem_cons, List.not_mem_nil, or_false] at hu; rcases hu with rfl | rfl | rfl | rfl <;> rfl); (unfold maxLen; omega); (omega); (show w.heap.size ≤ (World.alloc w' _).heap.size; have h8 : W1.heap.size ≤ w'.heap.size := hbn.size; have h9 := HBX.out.size; rw [World.size_alloc]; omega); (simp);
             intro g cap w3 hown3 hgr3 hat3 hlt3; have hS2 := far4 (held4 hS1 (((Below.refl w'.heap.size w').alloc (Nat.le_refl _) (.cells #[.int .i64 val, .bool al, .int .i64 nx, .pointer p] 96)))) hgr3 (fun e => hOBw e) (fun e => hOBw e) (fun e => hOBw e) (fun e => hOBw e)))
      have hbf : Below w.heap.size w w3 := (((hb.trans ((HBX.out.mono hbz).trans (((Below.refl W1.heap.size W1).drew.trans hbn).mono (by have := HBX.out.size; omega)))).alloc (by have h8 : W1.heap.size ≤ w'.heap.size := hbn.size; have h9 := HBX.out.size; omega) _).grown hgr3 (by have h8 : W1.heap.size ≤ w'.heap.size := hbn.size; have h9 := HBX.out.size; rw [World.size_alloc]; omega) (fun g hg => (HOB.out g hg).1))
      have hUn : RowP (w'.alloc (.cells #[.int .i64 val, .bool al, .int .i64 nx, .pointer p] 96)) w.heap.size (.slice Ao k co) rs := (HU.out.below (((Below.refl W1.heap.size W1).drew).trans hbn)).below ((Below.refl _ _).alloc (Nat.le_refl _) _)
      have hsn : Stk (w'.alloc (.cells #[.int .i64 val, .bool al, .int .i64 nx, .pointer p] 96)) (w'.alloc (.cells #[.int .i64 val, .bool al, .int .i64 nx, .pointer p] 96)).heap.size ts.reverse p := (hst.below ((Below.refl w'.heap.size w').alloc (Nat.le_refl _) _) (Nat.le_refl _)).mono (by simp)
      have hfin := RowP.snoc (p := (⟨val, al, nx, ts⟩, p)) hUn hsn hgr3 (by rw [HRL.out]; exact hown3)
      have HF : Hid (∃ rs, rs.map Prod.fst = cs.take (k + 1) ∧ RowP w3 w.heap.size (.slice (some ⟨g, 0, none⟩) (k + 1) cap) rs) := ⟨rs ++ [(⟨val, al, nx, ts⟩, p)], by rw [take_snoc HD.out, List.map_append, HRS.out]; rfl, hfin⟩
      clear hfin hUn hsn hS1 hS2 hown3 hgr3 hat3 hst hbn y0 y1 y2 y3
      go_wp2_with fail
      refine ⟨⟨k + 1, by simp, by omega, HF, hbf⟩, ?_⟩
      simp only [intOf]
      omega
    · have hke : k = q := by omega
      subst hke
      obtain ⟨rs, hrs, hU⟩ := HR.out
      have HC := Lib.hid (show RowM wr w.heap.size _ cs from ⟨rs, by rw [hrs, HN.out, List.take_length], hU⟩)
      clear hrs hU
      go_wp2_with fail
      go_ret
      exact ⟨_, rfl, HC.out, hb⟩

end Go.Proofs.YtfkoobdlhdolbaaDoor
