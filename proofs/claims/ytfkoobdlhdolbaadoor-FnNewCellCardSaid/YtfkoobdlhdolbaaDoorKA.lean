/-
  The model's accesses over the pure ones.
-/
import Derived.Test.YtfkoobdlhdolbaaDoorCelX
import Derived.IntWalk
import Derived.Test.YtfkoobdlhdolbaaDoorCelP
import Derived.Test.YtfkoobdlhdolbaaDoorCelQ
import Derived.Test.YtfkoobdlhdolbaaDoorCelRd
import Derived.Test.YtfkoobdlhdolbaaDoorCelS0
import Derived.Test.YtfkoobdlhdolbaaDoorCelM0
namespace Go.Proofs.YtfkoobdlhdolbaaDoor
open Go.RowKit Go.Deep
set_option linter.unusedVariables false

set_option maxRecDepth 100000 in
set_option maxHeartbeats 4000000 in
theorem l6Write_err (cs : List CellD) (A : Option Addr) (q c : Nat) (pc pt e : Int) (w : World) (h : RdC w (.slice A q c) cs) (hl : cs.length + tagSum cs ≤ 1048600) (hh : hit cs pc pt = .error e) :
    Calls Tryd.prog 55 #[.slice A q c, .agg #[.int .i64 pc, .int .i64 pt]] w (Post2 cs e w) := by
  have H := Lib.hid h
  have hbw : ∀ o, Below w.heap.size w (w.alloc o) := fun o => (Below.refl w.heap.size w).alloc (Nat.le_refl _) o
  have HBW := Lib.hid hbw
  have hX := heap_alloc_new w (.cells #[.int .i64 pc, .int .i64 pt] 25)
  have hz : (w.alloc (.cells #[.int .i64 pc, .int .i64 pt] 25)).heap.size = w.heap.size + 1 := by simp
  have HX := Lib.hid hX
  have HZ := Lib.hid hz
  have HH := Lib.hid hh
  have he0 := (l6Place_err cs A q c pc pt e w h hh).2
  clear h hbw hX hz hh
  go_enter Tryd.func55, Tryd.ntmps55
  go_wp2_with fail
  refine (l6Copy_any cs A q c _ (H.out.below (HBW.out _)) hl).mono ?_
  rintro E w1 ⟨v1, rfl, hR1, hb1⟩
  rw [HZ.out] at hR1 hb1
  have hXw := (hb1.block w.heap.size (by omega)).trans HX.out
  have x0 : w1.cell? ⟨w.heap.size, 0, none⟩ = some (.int .i64 pc) := (cell_of_block hXw 0).trans rfl
  have x1 : w1.cell? ⟨w.heap.size, 1, none⟩ = some (.int .i64 pt) := (cell_of_block hXw 1).trans rfl
  have hbb : Below w.heap.size w w1 := (HBW.out _).trans (hb1.mono (by omega))
  have HR1 := Lib.hid (hR1.mono (show w.heap.size ≤ w.heap.size + 1 by omega))
  obtain ⟨A1, c1, hv1, -⟩ := hR1.form
  obtain ⟨n1, hn1⟩ : ∃ n1, n1 = cs.length := ⟨_, rfl⟩
  rw [← hn1] at hv1
  subst hv1
  clear hXw hb1 hR1 hn1
  go_wp2_with fail
  refine (l6Place_err cs A q c pc pt e _ (H.out.below hbb) HH.out).1.mono ?_
  rintro E w2 ⟨rfl, hb2⟩
  have HR2 := Lib.hid (HR1.out.below hb2)
  have hbb2 := hbb.trans (hb2.mono hbb.size)
  clear hb2
  go_wp2_with fail
  go_ret2
  exact ⟨A1, n1, c1, rfl, HR2.out, hbb2⟩

set_option maxRecDepth 100000 in
set_option maxHeartbeats 4000000 in
theorem l6Write_ok (cs : List CellD) (A : Option Addr) (q c : Nat) (pc pt : Int) (i k : Nat) (d : CellD) (w : World) (h : RdC w (.slice A q c) cs) (hl : cs.length + tagSum cs ≤ 1048600) (hh : hit cs pc pt = .ok (i, k, d)) (hu : uAt d.tags k = true) :
    Calls Tryd.prog 55 #[.slice A q c, .agg #[.int .i64 pc, .int .i64 pt]] w (Post2 (cs.set i { d with tags := d.tags.take (k + 1) }) 0 w) := by
  have H := Lib.hid h
  have hbw : ∀ o, Below w.heap.size w (w.alloc o) := fun o => (Below.refl w.heap.size w).alloc (Nat.le_refl _) o
  have HBW := Lib.hid hbw
  have hX := heap_alloc_new w (.cells #[.int .i64 pc, .int .i64 pt] 25)
  have hz : (w.alloc (.cells #[.int .i64 pc, .int .i64 pt] 25)).heap.size = w.heap.size + 1 := by simp
  have HX := Lib.hid hX
  have HZ := Lib.hid hz
  have HH := Lib.hid hh
  obtain ⟨hm, hc, hd, hal, hk⟩ := hit_ok hh
  obtain ⟨hq, hc1, hc2⟩ := h.len
  have hiq : i < q := by rw [hq]; exact (List.getElem?_eq_some_iff.1 hd).1
  have hdok := (memB_out hm).2 i d hd
  have hkl := tagAt_lt hk
  have hlm := hdok.lenM
  have HD := Lib.hid hd
  have HN := Lib.hid hq
  unfold maxLen at hc2
  subst hc
  clear h hbw hX hz hh hm hd hk hdok hq hal
  go_enter Tryd.func55, Tryd.ntmps55
  go_wp2_with fail
  refine (l6Copy_any cs A q c _ (H.out.below (HBW.out _)) hl).mono ?_
  rintro E w1 ⟨v1, rfl, hR1, hb1⟩
  rw [HZ.out] at hR1 hb1
  have HX1 := Lib.hid ((hb1.block w.heap.size (by omega)).trans HX.out)
  have x0 : w1.cell? ⟨w.heap.size, 0, none⟩ = some (.int .i64 (i : Int)) := (cell_of_block HX1.out 0).trans rfl
  have x1 : w1.cell? ⟨w.heap.size, 1, none⟩ = some (.int .i64 pt) := (cell_of_block HX1.out 1).trans rfl
  have hbb : Below w.heap.size w w1 := (HBW.out _).trans (hb1.mono (by omega))
  have hs1 := hb1.size
  rw [HZ.out] at hs1
  have HR1 := Lib.hid hR1
  obtain ⟨A1, c1, hv1, hn1, hn2⟩ := hR1.form
  rw [← HN.out] at hv1 hn1
  unfold maxLen at hn2
  subst hv1
  clear hb1 hR1
  go_wp2_with fail
  refine (l6Place_ok cs A q c i pt i k d _ (H.out.below hbb) HH.out).mono ?_
  rintro E w2 ⟨rfl, hb2⟩
  have HX2 := Lib.hid ((hb2.block w.heap.size (by omega)).trans HX1.out)
  have y0 : w2.cell? ⟨w.heap.size, 0, none⟩ = some (.int .i64 (i : Int)) := (cell_of_block HX2.out 0).trans rfl
  have hbb2 := hbb.trans (hb2.mono hbb.size)
  have hs2 := hb2.size
  have HR2 := Lib.hid (HR1.out.below hb2)
  clear hb2 x0 x1
  obtain ⟨rs, hrs, hU⟩ := HR2.out
  obtain ⟨Ar, Cr, u, hsp, hArl, -⟩ := mem_split hrs HD.out
  subst hsp
  have hlen : (Ar ++ (d, u) :: Cr).length = q := by
    have := congrArg List.length hrs
    rw [List.length_map] at this
    rw [this]
    exact HN.out.symm
  obtain ⟨g, cap, eg, hg1, hg2⟩ : ∃ g cap, Value.slice A1 q c1 = .slice (some ⟨g, 0, none⟩) q cap ∧ w.heap.size + 1 ≤ g ∧ g < w2.heap.size := by
    obtain ⟨A', c', e1, _, _, e2⟩ := own_form hU.own
    rw [hlen] at e1 e2
    obtain ⟨g, rfl, h1, h2⟩ := e2 (by omega)
    exact ⟨g, c', e1, h1, h2⟩
  injection eg with eg1 _ eg2
  subst eg1 eg2
  obtain ⟨s0, s1, s2, s3, sf, hT0, hng⟩ := hU.cells4 hlen
  rw [hArl] at s3
  have sf3 := sf (i * 4 + 3)
  obtain ⟨b, Au, cu, rfl, hbk, ⟨a0, a1, a2, a3⟩, hTd⟩ := H.out.at_ HD.out
  have hTk : Hid (∀ k, (Value.slice Au d.tags.length cu).ownBlock = some k → k < w.heap.size) := by
    intro k hk
    obtain ⟨b', id', u', hb', hbb', _⟩ := hTd.elem (k := 0) (by omega)
    subst hb'
    have : b'.block = k := by simpa [Value.ownBlock] using hk
    omega
  replace hTd := hTd.below hbb2
  replace a3 := (hbb2.cell (p := ⟨(b.add (i * 4)).block, (b.add (i * 4)).off + 3, none⟩) (by show (b.add (i * 4)).block < _; rw [block_add]; exact hbk)).trans a3
  have a0' : Hid (w2.cell? (b.add (i * 4)) = some (.int .i64 d.val)) := (hbb2.cell (p := b.add (i * 4)) (by rw [block_add]; exact hbk)).trans a0
  obtain ⟨bt, tid, tu, hAu, hbt, htk, d0, d1⟩ := hTd.elem hkl
  subst hAu
  have htu : tu = true := by
    unfold uAt at hu
    rw [htk] at hu
    exact hu
  subst htu
  have hcu1 : d.tags.length ≤ cu := hTd.len.2.1
  have hcu2 : cu ≤ maxLen := hTd.len.2.2
  unfold maxLen at hcu2
  have HTd := Lib.hid hTd
  clear htk hu d0 hbt
  have HU := Lib.hid hU
  have HLEN := Lib.hid hlen
  have HRS := Lib.hid hrs
  have HAL := Lib.hid hArl
  have hgn1 : w.heap.size ≠ g := by omega
  have hgn2 : (b.add (i * 4)).block ≠ g := by rw [block_add]; omega
  clear hU hlen hrs hArl hTd s0 s1 s2 sf hT0 a0 a1 a2 HR1 HR2
  go_wp2_with fail
  obtain ⟨tk, htk⟩ : ∃ tk, tk = d.tags.take (k + 1) := ⟨_, rfl⟩
  have hRk : RdT w2 (.slice (some bt) (k + 1) cu) tk := by rw [htk]; exact HTd.out.take (by omega)
  have hlk : tk.length ≤ 1000 := by rw [htk, List.length_take]; omega
  have HTK := Lib.hid htk
  have HRK := Lib.hid hRk
  clear htk hRk
  have hw1 : IntKind.i64.wrap ((k : Int) + 1) = (k : Int) + 1 := IntWalk.i64_in _ (by omega)
  have hw2 : (0 : Int) ≤ (k : Int) + 1 := by omega
  have hw4 : (k : Int) + 1 ≤ (cu : Int) := by omega
  have hw5 : (k : Int) + 1 ≤ (d.tags.length : Int) := by omega
  have hw3 : ((k : Int) + 1).toNat = k + 1 := by omega
  have sh : w2.cell? ⟨g, i * 4 + 3, none⟩ = some (held w2 ⟨g, i * 4 + 3, none⟩) := by unfold held; rw [s3]; rfl
  clear s3
  go_region_held3 (fun w' => SameBut g (i * 4 + 3) w2 w' ∧ w'.cell? ⟨w.heap.size, 0, none⟩ = some (.int .i64 (i : Int)) ∧ w'.cell? ⟨(b.add (i * 4)).block, (b.add (i * 4)).off + 3, none⟩ = some (.slice (some bt) d.tags.length cu) ∧ w'.cell? ⟨g, i * 4 + 3, none⟩ = some (held w' ⟨g, i * 4 + 3, none⟩) ∧ w'.frozen? ⟨g, i * 4 + 3, none⟩ = false)
    (first | exact ⟨SameBut.refl hg2, y0, a3, sh, sf3⟩ | exact hS3 | exact same_store hS3 hgn1 hgn2 _ | exact same_call ‹SameBut g (i * 4 + 3) w2 _ ∧ _› ((Below.refl _ _).alloc (Nat.le_refl _) _))
    ((refine step_append_tags (by rfl) _ _ (by rfl) (by rfl) w2.heap.size (.slice (some ⟨w2.heap.size, 0, none⟩) 0 0) [] (.slice (some bt) (k + 1) cu) tk (by rfl) (by rfl) ?_ ?_ ?_ ?_ ?_; (exact own_empty rfl (Nat.le_refl _)); (exact HRK.out.below (((Below.refl w2.heap.size w2).alloc (Nat.le_refl _) _).drew)); (simp; omega); (simp); intro v2 w' hR3 hg3 hv3; (try rw [List.nil_append] at hR3); obtain ⟨A2, c2, hv2, -, -, -⟩ := own_form hR3; subst hv2;
      have hbn : Below w2.heap.size w2 w' := (((Below.refl w2.heap.size w2).alloc (Nat.le_refl _) _).drew).grown hg3 (by simp) (fun g hg => by simp [Value.ownBlock] at hg; omega); have hS3 := same_call (show SameBut g (i * 4 + 3) w2 w2.drew ∧ w2.drew.cell? ⟨w.heap.size, 0, none⟩ = some (.int .i64 (i : Int)) ∧ w2.drew.cell? ⟨(b.add (i * 4)).block, (b.add (i * 4)).off + 3, none⟩ = some (.slice (some bt) d.tags.length cu) ∧ w2.drew.cell? ⟨g, i * 4 + 3, none⟩ = some (held w2.drew ⟨g, i * 4 + 3, none⟩) ∧ w2.drew.frozen? ⟨g, i * 4 + 3, none⟩ = false from ⟨SameBut.refl hg2, y0, a3, sh, sf3⟩) (show Below w2.drew.heap.size w2.drew w' from ⟨hbn.os, hbn.tape, hbn.output, hbn.size, hbn.block⟩)))
  have hbw' := hbn
  obtain ⟨hUf, hOf⟩ := (HU.out.below hbw').putStack HLEN.out (own_mono hR3 (by show w.heap.size + 1 ≤ w2.heap.size; omega)) (fun j r a hj hr ha e => by
    have e1 := (World.ownsRow.lt (HU.out.tags j r hr) a ha).2
    have e2 : w2.heap.size ≤ a := (World.ownsRow.lt hR3 a e).1
    omega)
  rw [HAL.out] at hUf hOf
  have HF : Hid (RowC (w'.setCell ⟨g, i * 4 + 3, none⟩ (.slice A2 tk.length c2)) w.heap.size (.slice (some ⟨g, 0, none⟩) q c1) (cs.set i { d with tags := d.tags.take (k + 1) })) :=
    RowC.mono ⟨_, by rw [← HTK.out]; exact map_mid HRS.out HAL.out, hUf⟩ (by omega)
  have hbf : Below w.heap.size w (w'.setCell ⟨g, i * 4 + 3, none⟩ (.slice A2 tk.length c2)) := (hbb2.trans (hbw'.mono hbb2.size)).setCell (by show w.heap.size ≤ g; omega) _
  clear hUf hOf hS3 hR3 hbn sh sf3 y0 a3 ‹SameBut g (i * 4 + 3) w2 (World.setCell w' _ _) ∧ _› hbw' hg3 hv3
  generalize w'.setCell ⟨g, i * 4 + 3, none⟩ (.slice A2 tk.length c2) = w3 at *
  go_wp2_with fail
  go_ret2
  exact ⟨_, _, _, rfl, HF.out, hbf⟩

set_option maxRecDepth 100000 in
set_option maxHeartbeats 4000000 in
theorem l6Write_ro (cs : List CellD) (A : Option Addr) (q c : Nat) (pc pt : Int) (i k : Nat) (d : CellD) (w : World) (h : RdC w (.slice A q c) cs) (hl : cs.length + tagSum cs ≤ 1048600) (hh : hit cs pc pt = .ok (i, k, d)) (hu : uAt d.tags k = false) :
    Calls Tryd.prog 55 #[.slice A q c, .agg #[.int .i64 pc, .int .i64 pt]] w (Post2 cs 3 w) := by
  have H := Lib.hid h
  have hbw : ∀ o, Below w.heap.size w (w.alloc o) := fun o => (Below.refl w.heap.size w).alloc (Nat.le_refl _) o
  have HBW := Lib.hid hbw
  have hX := heap_alloc_new w (.cells #[.int .i64 pc, .int .i64 pt] 25)
  have hz : (w.alloc (.cells #[.int .i64 pc, .int .i64 pt] 25)).heap.size = w.heap.size + 1 := by simp
  have HX := Lib.hid hX
  have HZ := Lib.hid hz
  have HH := Lib.hid hh
  obtain ⟨hm, hc, hd, hal, hk⟩ := hit_ok hh
  obtain ⟨hq, hc1, hc2⟩ := h.len
  have hiq : i < q := by rw [hq]; exact (List.getElem?_eq_some_iff.1 hd).1
  have hdok := (memB_out hm).2 i d hd
  have hkl := tagAt_lt hk
  have hlm := hdok.lenM
  have HD := Lib.hid hd
  have HN := Lib.hid hq
  unfold maxLen at hc2
  subst hc
  clear h hbw hX hz hh hm hd hk hdok hq hal
  go_enter Tryd.func55, Tryd.ntmps55
  go_wp2_with fail
  refine (l6Copy_any cs A q c _ (H.out.below (HBW.out _)) hl).mono ?_
  rintro E w1 ⟨v1, rfl, hR1, hb1⟩
  rw [HZ.out] at hR1 hb1
  have HX1 := Lib.hid ((hb1.block w.heap.size (by omega)).trans HX.out)
  have x0 : w1.cell? ⟨w.heap.size, 0, none⟩ = some (.int .i64 (i : Int)) := (cell_of_block HX1.out 0).trans rfl
  have x1 : w1.cell? ⟨w.heap.size, 1, none⟩ = some (.int .i64 pt) := (cell_of_block HX1.out 1).trans rfl
  have hbb : Below w.heap.size w w1 := (HBW.out _).trans (hb1.mono (by omega))
  have hs1 := hb1.size
  rw [HZ.out] at hs1
  have HR1 := Lib.hid hR1
  obtain ⟨A1, c1, hv1, hn1, hn2⟩ := hR1.form
  rw [← HN.out] at hv1 hn1
  unfold maxLen at hn2
  subst hv1
  clear hb1 hR1
  go_wp2_with fail
  refine (l6Place_ok cs A q c i pt i k d _ (H.out.below hbb) HH.out).mono ?_
  rintro E w2 ⟨rfl, hb2⟩
  have HX2 := Lib.hid ((hb2.block w.heap.size (by omega)).trans HX1.out)
  have y0 : w2.cell? ⟨w.heap.size, 0, none⟩ = some (.int .i64 (i : Int)) := (cell_of_block HX2.out 0).trans rfl
  have hbb2 := hbb.trans (hb2.mono hbb.size)
  have hs2 := hb2.size
  have HR2 := Lib.hid (HR1.out.below hb2)
  clear hb2 x0 x1
  obtain ⟨b, Au, cu, rfl, hbk, ⟨a0, a1, a2, a3⟩, hTd⟩ := H.out.at_ HD.out
  replace hTd := hTd.below hbb2
  replace a3 := (hbb2.cell (p := ⟨(b.add (i * 4)).block, (b.add (i * 4)).off + 3, none⟩) (by show (b.add (i * 4)).block < _; rw [block_add]; exact hbk)).trans a3
  obtain ⟨bt, tid, tu, hAu, hbt, htk, d0, d1⟩ := hTd.elem hkl
  subst hAu
  have htu : tu = false := by
    unfold uAt at hu
    rw [htk] at hu
    exact hu
  subst htu
  have HR2' := Lib.hid (HR2.out.mono (show w.heap.size ≤ w.heap.size + 1 by omega))
  clear HR1 HR2 hTd a0 a1 a2 htk hu d0 hbt
  go_wp2_with fail
  go_ret2
  exact ⟨_, _, _, rfl, HR2'.out, hbb2⟩

theorem list_set_set {α : Type} (l : List α) (i : Nat) (a b : α) : (l.set i a).set i b = l.set i b := by simp

/-- A memory, a pointer and a number. -/
def Post4 (lo : Nat) (m : List CellD) (p : Int × Int) (e : Int) (w : World) (E : Ending) (w' : World) : Prop := ∃ A n c, E = .returned (.tuple #[.slice A n c, .agg #[.int .i64 p.1, .int .i64 p.2], .int .i64 e]) ∧ RowC w' lo (.slice A n c) m ∧ Below lo w w'

set_option maxRecDepth 100000 in
set_option maxHeartbeats 4000000 in
theorem l6Push_full (cs bs : List CellD) (A Ab : Option Addr) (q c qb cb i lo : Nat) (d : CellD) (u : Bool) (w : World) (hR : RowC w lo (.slice A q c) cs) (hlo : lo ≤ w.heap.size) (hd : cs[i]? = some d) (h1 : d.tags.length ≤ 200) (h2 : 1 ≤ d.next) (h3 : d.next ≤ 1000) (hB : RdC w (.slice Ab qb cb) bs) (hl : bs.length + tagSum bs ≤ 1048600) (hf : ¬ (d.tags.length < 200 ∧ d.next < 1000)) :
    Calls Tryd.prog 58 #[.slice A q c, .slice Ab qb cb, .int .i64 (i : Int), .bool u] w (Post4 lo bs (0, 0) 4 w) := by
  have hbo : ∀ o, Below w.heap.size w (w.alloc o) := fun o => (Below.refl w.heap.size w).alloc (Nat.le_refl _) o
  have HBO := Lib.hid hbo
  have HB := Lib.hid hB
  obtain ⟨g, Au, cu, rfl, hat⟩ := hR.at_ hd
  have hin : i < q := by rw [hat.len]; exact (List.getElem?_eq_some_iff.1 hd).1
  have hmx := hat.max
  have hcp := hat.cap
  unfold maxLen at hmx
  have m0 : ∀ o, (w.alloc o).cell? ⟨g, i * 4, none⟩ = some (.int .i64 d.val) := fun o => ((hbo o).cell (p := ⟨g, i * 4, none⟩) hat.lt).trans hat.c0
  have m1 : ∀ o, (w.alloc o).cell? ⟨g, i * 4 + 1, none⟩ = some (.bool d.alive) := fun o => ((hbo o).cell (p := ⟨g, i * 4 + 1, none⟩) hat.lt).trans hat.c1
  have m2 : ∀ o, (w.alloc o).cell? ⟨g, i * 4 + 2, none⟩ = some (.int .i64 d.next) := fun o => ((hbo o).cell (p := ⟨g, i * 4 + 2, none⟩) hat.lt).trans hat.c2
  have m3 : ∀ o, (w.alloc o).cell? ⟨g, i * 4 + 3, none⟩ = some (.slice Au d.tags.length cu) := fun o => ((hbo o).cell (p := ⟨g, i * 4 + 3, none⟩) hat.lt).trans hat.c3
  obtain ⟨L, hL⟩ : ∃ L, L = d.tags.length := ⟨_, rfl⟩
  rw [← hL] at h1 hf m3
  obtain ⟨nx, hnx⟩ : ∃ nx, nx = d.next := ⟨_, rfl⟩
  rw [← hnx] at h2 h3 hf m2
  clear hR hB hd hat hbo hL hnx
  have hbx : ∀ (o1 o2 : Obj), Below w.heap.size w ((w.alloc o1).alloc o2) := fun o1 o2 => (HBO.out o1).alloc (by simp) o2
  have HBX := Lib.hid hbx
  have hcpy := l6Copy_any bs Ab qb cb _ (HB.out.below (hbx (.cells #[.int .i64 0, .int .i64 0] 25) (.cells #[.int .i64 d.val, .bool d.alive, .int .i64 nx, .slice Au L cu] 33))) hl
  obtain ⟨q1, q2, q3⟩ := heap2 w (.cells #[.int .i64 0, .int .i64 0] 25) (.cells #[.int .i64 d.val, .bool d.alive, .int .i64 nx, .slice Au L cu] 33)
  have HC := Lib.hid hcpy
  have HQ1 := Lib.hid q1
  have HQ3 := Lib.hid q3
  clear hbx hcpy q1 q2 q3
  by_cases h200 : L = 200
  · have t1 : ((L : Int) == 200) = true := by simp; omega
    clear hf h200
    go_enter Tryd.func58, Tryd.ntmps58
    go_wp2_with fail
    refine HC.out.mono ?_
    rintro E w1 ⟨v1, rfl, hR1, hb1⟩
    obtain ⟨A1, c1, hv1, -⟩ := hR1.form
    subst hv1
    rw [HQ3.out] at hR1 hb1
    have hX := (hb1.block w.heap.size (by omega)).trans HQ1.out
    have x0 : w1.cell? ⟨w.heap.size, 0, none⟩ = some (.int .i64 0) := (cell_of_block hX 0).trans rfl
    have x1 : w1.cell? ⟨w.heap.size, 1, none⟩ = some (.int .i64 0) := (cell_of_block hX 1).trans rfl
    have f0 := frozen_of_block hX 0
    have f1 := frozen_of_block hX 1
    have HR1 := Lib.hid (hR1.mono (show lo ≤ w.heap.size + 2 by omega))
    have hbb : Below w.heap.size w w1 := (HBX.out _ _).trans (hb1.mono (by omega))
    have hz1 := hb1.size
    rw [HQ3.out] at hz1
    have HR1k := Lib.hid hR1
    clear hR1 hb1 hX
    go_wp2_with fail
    refine bodyPost_ret (v := .tuple #[.slice A1 bs.length c1, .agg #[.int .i64 0, .int .i64 0], .int .i64 4]) (by simp [results, Tryd.results58, go_sem, x0, x1]) rfl ⟨_, _, _, rfl, ((HR1k.out.setLow (by omega)).setLow (by omega)).mono (by omega), ?_⟩
    exact ((hbb.setCell (Nat.le_refl _) _).setCell (Nat.le_refl _) _).mono hlo
  · have t1 : ((L : Int) == 200) = false := by simp; omega
    have t2 : ((nx : Int) == 1000) = true := by simp; omega
    clear hf h200
    go_enter Tryd.func58, Tryd.ntmps58
    go_wp2_with fail
    refine HC.out.mono ?_
    rintro E w1 ⟨v1, rfl, hR1, hb1⟩
    obtain ⟨A1, c1, hv1, -⟩ := hR1.form
    subst hv1
    rw [HQ3.out] at hR1 hb1
    have hX := (hb1.block w.heap.size (by omega)).trans HQ1.out
    have x0 : w1.cell? ⟨w.heap.size, 0, none⟩ = some (.int .i64 0) := (cell_of_block hX 0).trans rfl
    have x1 : w1.cell? ⟨w.heap.size, 1, none⟩ = some (.int .i64 0) := (cell_of_block hX 1).trans rfl
    have f0 := frozen_of_block hX 0
    have f1 := frozen_of_block hX 1
    have HR1 := Lib.hid (hR1.mono (show lo ≤ w.heap.size + 2 by omega))
    have hbb : Below w.heap.size w w1 := (HBX.out _ _).trans (hb1.mono (by omega))
    have hz1 := hb1.size
    rw [HQ3.out] at hz1
    have HR1k := Lib.hid hR1
    clear hR1 hb1 hX
    go_wp2_with fail
    refine bodyPost_ret (v := .tuple #[.slice A1 bs.length c1, .agg #[.int .i64 0, .int .i64 0], .int .i64 4]) (by simp [results, Tryd.results58, go_sem, x0, x1]) rfl ⟨_, _, _, rfl, ((HR1k.out.setLow (by omega)).setLow (by omega)).mono (by omega), ?_⟩
    exact ((hbb.setCell (Nat.le_refl _) _).setCell (Nat.le_refl _) _).mono hlo

set_option maxRecDepth 100000 in
set_option maxHeartbeats 4000000 in
theorem l6Push_ok (cs : List CellD) (A Ab : Option Addr) (q c qb cb i lo : Nat) (d : CellD) (u : Bool) (w : World) (hR : RowC w lo (.slice A q c) cs) (hlo : lo ≤ w.heap.size) (hd : cs[i]? = some d) (h2 : 1 ≤ d.next) (hf : d.tags.length < 200 ∧ d.next < 1000) :
    Calls Tryd.prog 58 #[.slice A q c, .slice Ab qb cb, .int .i64 (i : Int), .bool u] w (Post4 lo (cs.set i { d with tags := d.tags ++ [⟨d.next, u⟩], next := d.next + 1 }) (i, d.next) 0 w) := by
  have hbo : ∀ o, Below w.heap.size w (w.alloc o) := fun o => (Below.refl w.heap.size w).alloc (Nat.le_refl _) o
  have HBO := Lib.hid hbo
  have hR0 := hR
  obtain ⟨g, Au, cu, rfl, hat⟩ := hR.at_ hd
  have hin : i < q := by rw [hat.len]; exact (List.getElem?_eq_some_iff.1 hd).1
  have hmx := hat.max
  have hcp := hat.cap
  have hgl := hat.lt
  have hgb := hat.bg
  unfold maxLen at hmx
  have m0 : ∀ o, (w.alloc o).cell? ⟨g, i * 4, none⟩ = some (.int .i64 d.val) := fun o => ((hbo o).cell (p := ⟨g, i * 4, none⟩) hat.lt).trans hat.c0
  have m1 : ∀ o, (w.alloc o).cell? ⟨g, i * 4 + 1, none⟩ = some (.bool d.alive) := fun o => ((hbo o).cell (p := ⟨g, i * 4 + 1, none⟩) hat.lt).trans hat.c1
  have m2 : ∀ o, (w.alloc o).cell? ⟨g, i * 4 + 2, none⟩ = some (.int .i64 d.next) := fun o => ((hbo o).cell (p := ⟨g, i * 4 + 2, none⟩) hat.lt).trans hat.c2
  have m3 : ∀ o, (w.alloc o).cell? ⟨g, i * 4 + 3, none⟩ = some (.slice Au d.tags.length cu) := fun o => ((hbo o).cell (p := ⟨g, i * 4 + 3, none⟩) hat.lt).trans hat.c3
  obtain ⟨ts, hts⟩ : ∃ ts, ts = d.tags := ⟨_, rfl⟩
  obtain ⟨L, hL⟩ : ∃ L, L = ts.length := ⟨_, rfl⟩
  obtain ⟨nx, hnx⟩ : ∃ nx, nx = d.next := ⟨_, rfl⟩
  have hT := hat.tags
  rw [← hts] at hf m3 hT
  rw [← hL] at m3 hf hT
  rw [← hnx] at hf h2 m2
  have HTS := Lib.hid hts
  have HL := Lib.hid hL
  have HNX := Lib.hid hnx
  have HT := Lib.hid hT
  have HR0 := Lib.hid hR0
  have HD := Lib.hid hd
  obtain ⟨hf1, hf2⟩ := hf
  have t1 : ((L : Int) == 200) = false := by simp; omega
  have t2 : ((nx : Int) == 1000) = false := by simp; omega
  clear hR hR0 hd hat hbo hL hnx hts hT
  obtain ⟨q1, -, q3⟩ := heap2 w (.cells #[.int .i64 0, .int .i64 0] 25) (.cells #[.int .i64 d.val, .bool d.alive, .int .i64 nx, .slice Au L cu] 33)
  have hbx := (HBO.out (.cells #[.int .i64 0, .int .i64 0] 25)).alloc (by simp) (.cells #[.int .i64 d.val, .bool d.alive, .int .i64 nx, .slice Au L cu] 33)
  have HQ1 := Lib.hid q1
  have HQ3 := Lib.hid q3
  have HBX := Lib.hid hbx
  clear q1 q3 hbx
  go_enter Tryd.func58, Tryd.ntmps58
  go_wp2_with (at_builtin; refine wpList_append_tags rfl _ _ rfl rfl lo (.slice Au L cu) ts (.slice (some ⟨w.heap.size + 1 + 1, 0, none⟩) 1 1) [⟨nx, u⟩] rfl rfl ?rown ?rrd ?rl ?rB ?_)
  case rown => exact own_below (own_below HT.out HBX.out) ((Below.refl _ _).alloc (Nat.le_refl _) _)
  case rrd => exact tag_row nx u (by simp)
  case rl => rw [← HL.out]; simp; omega
  case rB => simp; omega
  intro v' w3 hR3 hg3 hv3
  generalize htl : ts ++ [(⟨nx, u⟩ : TagD)] = tl at hR3
  have HTL := Lib.hid htl
  clear htl
  obtain ⟨A', c', rfl, -, -, -⟩ := own_form hR3
  obtain ⟨W2, hW2⟩ : ∃ W2, W2 = ((w.alloc (.cells #[.int .i64 0, .int .i64 0] 25)).alloc (.cells #[.int .i64 d.val, .bool d.alive, .int .i64 nx, .slice Au L cu] 33)).alloc (.cells #[.int .i64 nx, .bool u] 35) := ⟨_, rfl⟩
  rw [← hW2] at hg3
  have hbW : Below w.heap.size w W2 := by rw [hW2]; exact HBX.out.alloc (by simp; omega) _
  have hzW : W2.heap.size = w.heap.size + 3 := by rw [hW2]; simp
  have hX2 : W2.heap[w.heap.size]? = some (.cells #[.int .i64 0, .int .i64 0] 25 (0, 0)) := by
    rw [hW2]
    exact (Below.heap_alloc _ _ _ (by simp; omega)).trans HQ1.out
  have hm3 : W2.cell? ⟨g, i * 4 + 3, none⟩ = some (.slice Au L cu) := (hbW.cell (p := ⟨g, i * 4 + 3, none⟩) hgl).trans ((HBO.out default |>.cell (p := ⟨g, i * 4 + 3, none⟩) hgl).symm.trans (m3 default))
  obtain ⟨g2, Au2, cu2, eg, hat2⟩ := (HR0.out.below hbW).at_ HD.out
  injection eg with eg
  injection eg with eg
  subst eg
  have heq := hat2.c3.symm.trans hm3
  injection heq with heq
  injection heq with ea el ec
  subst ea ec
  have hAu : ∀ k, (Value.slice Au2 L cu2).ownBlock = some k → k < w.heap.size := fun k hk => (World.ownsRow.lt HT.out k hk).2
  have hC3 := hat2.grow w3 (.slice A' tl.length c') tl (by rw [el]; exact hg3) hR3 (by
    rcases hv3 with e | e
    · exact .inl (by rw [el]; exact e)
    · exact .inr (by rw [e, hzW]))
  have hX3 := (hg3.block w.heap.size (by omega) (fun e => by have := hAu w.heap.size e.symm; omega)).trans hX2
  have y3 : w3.cell? ⟨g, i * 4 + 3, none⟩ = some (.slice Au2 L cu2) := (World.cell?_of_block (hg3.block g (by omega) fun e => by
    have h9 := ownBlock_row HT.out g e.symm
    obtain ⟨rs, _, hU⟩ := HR0.out
    obtain ⟨cur, hc⟩ := ownBlock_row hU.own g rfl
    obtain ⟨cur', hc'⟩ := h9
    rw [hc] at hc'
    injection hc' with hc'
    injection hc' with _ hc' _
    exact absurd hc' (by decide))).trans hm3
  have yf : ∀ o, w3.frozen? ⟨g, o, none⟩ = false := fun o => (World.frozen?_of_block (hg3.block g (by omega) fun e => by
    have h9 := ownBlock_row HT.out g e.symm
    obtain ⟨rs, _, hU⟩ := HR0.out
    obtain ⟨cur, hc⟩ := ownBlock_row hU.own g rfl
    obtain ⟨cur', hc'⟩ := h9
    rw [hc] at hc'
    injection hc' with hc'
    injection hc' with _ hc' _
    exact absurd hc' (by decide))).trans (hat2.fz o)
  obtain ⟨g4, Au4, cu4, eg4, hat4⟩ := hC3.at_ (i := i) (d := { d with tags := tl }) (by rw [List.getElem?_set_self (List.getElem?_eq_some_iff.1 HD.out).1])
  injection eg4 with eg4
  injection eg4 with eg4
  subst eg4
  have hC4 := hat4.put2 (nx + 1)
  rw [list_set_set] at hC4
  have z2 := hat4.c2
  rw [show (({ d with tags := tl } : CellD)).next = nx from HNX.out.symm] at z2
  have y3f := yf (i * 4 + 3)
  have y2f := hat4.fz (i * 4 + 2)
  have hX4 : ((w3.setCell ⟨g, i * 4 + 3, none⟩ (.slice A' tl.length c')).setCell ⟨g, i * 4 + 2, none⟩ (.int .i64 (nx + 1))).heap[w.heap.size]? = some (.cells #[.int .i64 0, .int .i64 0] 25 (0, 0)) :=
    (heap_set (by show w.heap.size ≠ g; omega)).trans ((heap_set (by show w.heap.size ≠ g; omega)).trans hX3)
  have b3 : Below lo w w3 := ((hbW.mono hlo).grown hg3 (by omega) (fun k hk => (World.ownsRow.lt HT.out k hk).1))
  have b4 : Below lo w ((w3.setCell ⟨g, i * 4 + 3, none⟩ (.slice A' tl.length c')).setCell ⟨g, i * 4 + 2, none⟩ (.int .i64 (nx + 1))) := (b3.setCell hgb _).setCell hgb _
  have x0 : ((w3.setCell ⟨g, i * 4 + 3, none⟩ (.slice A' tl.length c')).setCell ⟨g, i * 4 + 2, none⟩ (.int .i64 (nx + 1))).cell? ⟨w.heap.size, 0, none⟩ = some (.int .i64 0) := (cell_of_block hX4 0).trans rfl
  have x1 : ((w3.setCell ⟨g, i * 4 + 3, none⟩ (.slice A' tl.length c')).setCell ⟨g, i * 4 + 2, none⟩ (.int .i64 (nx + 1))).cell? ⟨w.heap.size, 1, none⟩ = some (.int .i64 0) := (cell_of_block hX4 1).trans rfl
  have f0 := frozen_of_block hX4 0
  have f1 := frozen_of_block hX4 1
  have HC4 : Hid (RowC ((w3.setCell ⟨g, i * 4 + 3, none⟩ (.slice A' tl.length c')).setCell ⟨g, i * 4 + 2, none⟩ (.int .i64 (nx + 1))) lo (.slice (some ⟨g, 0, none⟩) q c) (cs.set i { d with tags := d.tags ++ [⟨d.next, u⟩], next := d.next + 1 })) := by
    rw [← HTS.out, ← HNX.out, HTL.out]
    exact hC4
  have HX4 := Lib.hid hX4
  have HB4 := Lib.hid b4
  clear hg3 hR3 hv3 hC3 hC4 hat4 hat2 hX3 hX4 yf b3 b4 hX2 hAu hm3 m0 m1 m2 m3 hbW hzW el hW2
  go_wp2_with fail
  refine bodyPost_ret (v := .tuple #[.slice (some ⟨g, 0, none⟩) q c, .agg #[.int .i64 (i : Int), .int .i64 nx], .int .i64 0]) (by simp [results, Tryd.results58, go_sem, x0, x1]) rfl ⟨_, _, _, by rw [HNX.out], ?_, ?_⟩
  · refine RowC.setType (RowC.setType HC4.out HX4.out (by decide) (by decide)) (block_set HX4.out 0 _) (by decide) (by decide)
  · exact (HB4.out.setCell (by show lo ≤ w.heap.size; exact hlo) _).setCell (by show lo ≤ w.heap.size; exact hlo) _

/-- What l6Write answers, in one. -/
theorem l6Write_any (cs : List CellD) (A : Option Addr) (q c : Nat) (pc pt : Int) (w : World) (h : RdC w (.slice A q c) cs) (hl : cs.length + tagSum cs ≤ 1048600) :
    (∀ e, hitW cs pc pt = .error e → e ≠ 0 ∧ Calls Tryd.prog 55 #[.slice A q c, .agg #[.int .i64 pc, .int .i64 pt]] w (Post2 cs e w)) ∧
    (∀ i k d, hitW cs pc pt = .ok (i, k, d) → Calls Tryd.prog 55 #[.slice A q c, .agg #[.int .i64 pc, .int .i64 pt]] w (Post2 (cs.set i { d with tags := d.tags.take (k + 1) }) 0 w)) := by
  refine ⟨fun e he => ?_, fun i k d hk => ?_⟩
  · rcases hitW_error he with h1 | ⟨rfl, i, k, d, h1, hu⟩
    · exact ⟨(l6Place_err cs A q c pc pt e w h h1).2, l6Write_err cs A q c pc pt e w h hl h1⟩
    · exact ⟨by decide, l6Write_ro cs A q c pc pt i k d w h hl h1 hu⟩
  · obtain ⟨h1, hu⟩ := hitW_ok hk
    exact l6Write_ok cs A q c pc pt i k d w h hl h1 hu

set_option maxRecDepth 100000 in
set_option maxHeartbeats 4000000 in
theorem specWriteCell_any (cs : List CellD) (A : Option Addr) (q c : Nat) (pc pt v : Int) (w : World) (h : RdC w (.slice A q c) cs) (hl : cs.length + tagSum cs ≤ 1048600) :
    Calls Tryd.prog 22 #[.slice A q c, .agg #[.int .i64 pc, .int .i64 pt], .int .i64 v] w (Post2 (writeA cs pc pt v).1 (writeA cs pc pt v).2 w) := by
  have H := Lib.hid h
  have hbw : ∀ o, Below w.heap.size w (w.alloc o) := fun o => (Below.refl w.heap.size w).alloc (Nat.le_refl _) o
  have HBW := Lib.hid hbw
  have hX := heap_alloc_new w (.cells #[.int .i64 pc, .int .i64 pt] 25)
  have hz : (w.alloc (.cells #[.int .i64 pc, .int .i64 pt] 25)).heap.size = w.heap.size + 1 := by simp
  have HX := Lib.hid hX
  have HZ := Lib.hid hz
  have hWr := l6Write_any cs A q c pc pt _ (h.below (hbw (.cells #[.int .i64 pc, .int .i64 pt] 25))) hl
  clear h hbw hX hz
  by_cases hv : 0 ≤ v ∧ v ≤ 9
  · have t1 : decide (v < 0) = false := decide_eq_false (by omega)
    have t2 : decide (9 < v) = false := decide_eq_false (by omega)
    cases hh : hitW cs pc pt with
    | error e =>
      have hA : writeA cs pc pt v = (cs, e) := by unfold writeA; rw [if_pos hv, hh]
      rw [hA]
      obtain ⟨he0, hcall⟩ := hWr.1 e hh
      have he1 : ((e : Int) == 0) = false := by simpa using he0
      have HC := Lib.hid hcall
      clear hWr hcall hA hh hv
      go_enter Tryd.func22, Tryd.ntmps22
      go_wp2_with fail
      refine HC.out.mono ?_
      rintro E w1 ⟨A1, n1, c1, rfl, hR1, hb1⟩
      rw [HZ.out] at hR1 hb1
      have HR1 := Lib.hid (hR1.mono (show w.heap.size ≤ w.heap.size + 1 by omega))
      have hbb : Below w.heap.size w w1 := (HBW.out _).trans (hb1.mono (by omega))
      clear hR1 hb1
      go_wp2_with fail
      go_ret2
      exact ⟨A1, n1, c1, rfl, HR1.out, hbb⟩
    | ok r =>
      obtain ⟨i, k, d⟩ := r
      have hA : writeA cs pc pt v = (cs.set i { d with val := v, tags := d.tags.take (k + 1) }, 0) := by unfold writeA; rw [if_pos hv, hh]
      rw [hA]
      have hcall := hWr.2 i k d hh
      obtain ⟨hm, hc, hd, -, -⟩ := hit_ok (hitW_ok hh).1
      have hil := (List.getElem?_eq_some_iff.1 hd).1
      subst hc
      have HC := Lib.hid hcall
      have HD := Lib.hid hd
      clear hWr hcall hA hh hv hm hd
      go_enter Tryd.func22, Tryd.ntmps22
      go_wp2_with fail
      refine HC.out.mono ?_
      rintro E w1 ⟨A1, n1, c1, rfl, hR1, hb1⟩
      rw [HZ.out] at hR1 hb1
      obtain ⟨g, Au, cu, rfl, hat⟩ := (hR1.mono (show w.heap.size ≤ w.heap.size + 1 by omega)).at_ (i := i) (d := { d with tags := d.tags.take (k + 1) }) (by rw [List.getElem?_set_self hil])
      have hbb : Below w.heap.size w w1 := (HBW.out _).trans (hb1.mono (by omega))
      have hXw := (hb1.block w.heap.size (by omega)).trans HX.out
      have x0 : w1.cell? ⟨w.heap.size, 0, none⟩ = some (.int .i64 (i : Int)) := (cell_of_block hXw 0).trans rfl
      have hin : i < n1 := by rw [hat.len]; simpa using hil
      have hmx := hat.max
      have hcp := hat.cap
      unfold maxLen at hmx
      have k0 := hat.c0
      have kf := hat.fz (i * 4)
      have HP := Lib.hid (hat.put0 v)
      have hgb := hat.bg
      clear hR1 hb1 hXw hat
      go_wp2_with fail
      go_ret2
      refine ⟨_, n1, c1, rfl, ?_, hbb.setCell hgb _⟩
      have := HP.out
      rw [list_set_set] at this
      exact this
  · have hA : writeA cs pc pt v = (cs, 4) := by unfold writeA; rw [if_neg hv]
    rw [hA]
    clear hA hWr
    by_cases h0 : v < 0
    · have t1 : decide (v < 0) = true := decide_eq_true h0
      go_enter Tryd.func22, Tryd.ntmps22
      go_wp2_with fail
      refine (l6Copy_any cs A q c _ (H.out.below (HBW.out _)) hl).mono ?_
      rintro E w1 ⟨v1, rfl, hR1, hb1⟩
      rw [HZ.out] at hR1 hb1
      obtain ⟨A1, c1, hv1, -⟩ := hR1.form
      subst hv1
      have HR1 := Lib.hid (hR1.mono (show w.heap.size ≤ w.heap.size + 1 by omega))
      have hbb : Below w.heap.size w w1 := (HBW.out _).trans (hb1.mono (by omega))
      clear hR1 hb1
      go_wp2_with fail
      go_ret2
      exact ⟨_, _, _, rfl, HR1.out, hbb⟩
    · have t1 : decide (v < 0) = false := decide_eq_false h0
      have t2 : decide (9 < v) = true := decide_eq_true (by omega)
      go_enter Tryd.func22, Tryd.ntmps22
      go_wp2_with fail
      refine (l6Copy_any cs A q c _ (H.out.below (HBW.out _)) hl).mono ?_
      rintro E w1 ⟨v1, rfl, hR1, hb1⟩
      rw [HZ.out] at hR1 hb1
      obtain ⟨A1, c1, hv1, -⟩ := hR1.form
      subst hv1
      have HR1 := Lib.hid (hR1.mono (show w.heap.size ≤ w.heap.size + 1 by omega))
      have hbb : Below w.heap.size w w1 := (HBW.out _).trans (hb1.mono (by omega))
      clear hR1 hb1
      go_wp2_with fail
      go_ret2
      exact ⟨_, _, _, rfl, HR1.out, hbb⟩

theorem tagSum_set {d d' : CellD} : ∀ {cs : List CellD} {i : Nat}, cs[i]? = some d → d'.tags.length ≤ d.tags.length → tagSum (cs.set i d') ≤ tagSum cs
  | [], i, h, _ => by simp at h
  | c :: cs, 0, h, hl => by
    simp at h
    subst h
    simp only [List.set_cons_zero, tagSum]
    omega
  | c :: cs, i + 1, h, hl => by
    simp only [List.set_cons_succ, tagSum]
    have := tagSum_set (cs := cs) (i := i) (by simpa using h) hl
    omega

theorem tagSum_set1 {d d' : CellD} : ∀ {cs : List CellD} {i : Nat}, cs[i]? = some d → d'.tags.length ≤ d.tags.length + 1 → tagSum (cs.set i d') ≤ tagSum cs + 1
  | [], i, h, _ => by simp at h
  | c :: cs, 0, h, hl => by
    simp at h
    subst h
    simp only [List.set_cons_zero, tagSum]
    omega
  | c :: cs, i + 1, h, hl => by
    simp only [List.set_cons_succ, tagSum]
    have := tagSum_set1 (cs := cs) (i := i) (by simpa using h) hl
    omega

theorem pushA_size {cs m : List CellD} {i : Nat} {d : CellD} {ts : List TagD} {u : Bool} {pr : Int × Int} {cd : Int} (hd : cs[i]? = some d) (ht : ts.length ≤ d.tags.length) (h : pushA cs i d ts u = (m, pr, cd)) (hl : cs.length + tagSum cs ≤ 1048576) : m.length + tagSum m ≤ 1048577 := by
  unfold pushA at h
  split at h
  · injection h with h _
    subst h
    have := tagSum_set1 (d' := { d with tags := ts ++ [⟨d.next, u⟩], next := d.next + 1 }) hd (by simp; omega)
    rw [List.length_set]
    omega
  · injection h with h _
    subst h
    omega

theorem pushA_sum {cs : List CellD} {i : Nat} {d : CellD} {ts : List TagD} {u : Bool} (hd : cs[i]? = some d) (ht : ts.length ≤ d.tags.length) : (pushA cs i d ts u).1.length = cs.length ∧ tagSum (pushA cs i d ts u).1 ≤ tagSum cs + 1 := by
  unfold pushA
  split
  · exact ⟨by rw [List.length_set], tagSum_set1 hd (by simp; omega)⟩
  · exact ⟨rfl, by simp⟩

theorem readT_len (ts : List TagD) (k : Nat) : (readT ts k).length ≤ ts.length := by
  unfold readT
  have h1 := List.length_filter_le (fun t : TagD => !t.u) (ts.drop (k + 1))
  simp at h1 ⊢
  omega

theorem shareA_sum {cs : List CellD} {x t : Int} : (shareA cs x t).1.length = cs.length ∧ tagSum (shareA cs x t).1 ≤ tagSum cs + 1 := by
  unfold shareA
  split
  · exact ⟨rfl, by simp⟩
  · rename_i i k d he
    obtain ⟨_, _, hd, _, _⟩ := hit_ok he
    exact pushA_sum hd (readT_len _ _)

theorem borrowA_sum {cs : List CellD} {x t : Int} : (borrowA cs x t).1.length = cs.length ∧ tagSum (borrowA cs x t).1 ≤ tagSum cs + 1 := by
  unfold borrowA
  split
  · exact ⟨rfl, by simp⟩
  · rename_i i k d he
    obtain ⟨h1, _⟩ := hitW_ok he
    obtain ⟨_, _, hd, _, _⟩ := hit_ok h1
    exact pushA_sum hd (by simp; omega)

theorem freeA_sum {cs : List CellD} {x t : Int} : (freeA cs x t).1.length = cs.length ∧ tagSum (freeA cs x t).1 ≤ tagSum cs := by
  unfold freeA
  split
  · exact ⟨rfl, by simp⟩
  · rename_i i k d he
    obtain ⟨h1, _⟩ := hitW_ok he
    obtain ⟨_, _, hd, _, _⟩ := hit_ok h1
    exact ⟨by rw [List.length_set], tagSum_set hd (by simp; omega)⟩

theorem readA_sum {cs : List CellD} {x t : Int} : (readA cs x t).1.length = cs.length ∧ tagSum (readA cs x t).1 ≤ tagSum cs := by
  unfold readA
  split
  · exact ⟨rfl, by simp⟩
  · rename_i i k d he
    obtain ⟨_, _, hd, _, _⟩ := hit_ok he
    exact ⟨by rw [List.length_set], tagSum_set hd (readT_len _ _)⟩

theorem writeA_sum {cs : List CellD} {x t v : Int} : (writeA cs x t v).1.length = cs.length ∧ tagSum (writeA cs x t v).1 ≤ tagSum cs := by
  unfold writeA
  split
  · split
    · exact ⟨rfl, by simp⟩
    · rename_i i k d he
      obtain ⟨h1, _⟩ := hitW_ok he
      obtain ⟨_, _, hd, _, _⟩ := hit_ok h1
      exact ⟨by rw [List.length_set], tagSum_set hd (by simp; omega)⟩
  · exact ⟨rfl, by simp⟩

set_option maxRecDepth 100000 in
set_option maxHeartbeats 4000000 in
theorem specShareCell_any (cs : List CellD) (A : Option Addr) (q c : Nat) (pc pt : Int) (w : World) (h : RdC w (.slice A q c) cs) (hl : cs.length + tagSum cs ≤ 1048600) :
    Calls Tryd.prog 25 #[.slice A q c, .agg #[.int .i64 pc, .int .i64 pt]] w (Post4 w.heap.size (shareA cs pc pt).1 (shareA cs pc pt).2.1 (shareA cs pc pt).2.2 w) := by
  have H := Lib.hid h
  obtain ⟨q1, q2, q3⟩ := heap2 w (.cells #[.int .i64 pc, .int .i64 pt] 25) (.cells #[.int .i64 0, .int .i64 0] 25)
  have hb0 : Below w.heap.size w ((w.alloc (.cells #[.int .i64 pc, .int .i64 pt] 25)).alloc (.cells #[.int .i64 0, .int .i64 0] 25)) := ((Below.refl w.heap.size w).alloc (Nat.le_refl _) _).alloc (by simp) _
  have HQ1 := Lib.hid q1
  have HQ2 := Lib.hid q2
  have HQ3 := Lib.hid q3
  have HB0 := Lib.hid hb0
  have HR := H.out.below hb0
  cases hh : hit cs pc pt with
  | error e =>
    have hA : shareA cs pc pt = (cs, (0, 0), e) := by unfold shareA; rw [hh]
    rw [hA]
    have he0 := (l6Place_err cs A q c pc pt e w h hh).2
    have hcall := specReadCell_err cs A q c pc pt e _ HR hl hh
    have he1 : ((e : Int) != 0) = true := by simpa using he0
    have HC := Lib.hid hcall
    clear h q1 q2 q3 hb0 HR hcall hA hh
    go_enter Tryd.func25, Tryd.ntmps25
    go_wp2_with fail
    refine HC.out.mono ?_
    rintro E w1 ⟨A1, n1, c1, rfl, hR1, hb1⟩
    rw [HQ3.out] at hR1 hb1
    have hX1 := (hb1.block w.heap.size (by omega)).trans HQ1.out
    have hX2 := (hb1.block (w.heap.size + 1) (by omega)).trans HQ2.out
    have hz1 := hb1.size
    rw [HQ3.out] at hz1
    have hbb : Below w.heap.size w w1 := HB0.out.trans (hb1.mono (by omega))
    have x0 : w1.cell? ⟨w.heap.size + 1, 0, none⟩ = some (.int .i64 0) := (cell_of_block hX2 0).trans rfl
    have x1 : w1.cell? ⟨w.heap.size + 1, 1, none⟩ = some (.int .i64 0) := (cell_of_block hX2 1).trans rfl
    have f0 := frozen_of_block hX2 0
    have f1 := frozen_of_block hX2 1
    have HR1 := Lib.hid hR1
    clear hR1 hb1 hX1 hX2
    go_wp2_with fail
    refine bodyPost_ret (v := .tuple #[.slice A1 n1 c1, .agg #[.int .i64 0, .int .i64 0], .int .i64 e]) (by simp [results, Tryd.results25, go_sem, x0, x1]) rfl ⟨_, _, _, rfl, ((HR1.out.setLow (by omega)).setLow (by omega)).mono (by omega), ?_⟩
    exact (hbb.setCell (by simp) _).setCell (by simp) _
  | ok r =>
    obtain ⟨i, k, d⟩ := r
    have hcall := specReadCell_ok cs A q c pc pt i k d _ HR hl hh
    obtain ⟨hm, hc, hd, -, hk⟩ := hit_ok hh
    have hil := (List.getElem?_eq_some_iff.1 hd).1
    have hok := (memB_out hm).2 i d hd
    have hlm := hok.lenM
    have hn1 := hok.next1
    have hnM := hok.nextM
    have htl : (readT d.tags k).length ≤ 200 := by have := readT_len d.tags k; omega
    subst hc
    have hd2 : (cs.set i { d with tags := readT d.tags k })[i]? = some { d with tags := readT d.tags k } := by rw [List.getElem?_set_self hil]
    have HD2 := Lib.hid hd2
    have HC := Lib.hid hcall
    by_cases hfull : (readT d.tags k).length < 200 ∧ d.next < 1000
    · have hA : shareA cs i pt = (cs.set i { d with tags := readT d.tags k ++ [⟨d.next, false⟩], next := d.next + 1 }, ((i : Int), d.next), 0) := by unfold shareA; rw [hh]; show pushA cs i d (readT d.tags k) false = _; unfold pushA; rw [if_pos hfull]
      rw [hA]
      have HF := Lib.hid hfull
      clear h q1 q2 q3 hb0 HR hcall hA hh hok hm hd hk hd2 hfull
      go_enter Tryd.func25, Tryd.ntmps25
      go_wp2_with fail
      refine HC.out.mono ?_
      rintro E w1 ⟨A1, n1, c1, rfl, hR1, hb1⟩
      rw [HQ3.out] at hR1 hb1
      have hX1 := (hb1.block w.heap.size (by omega)).trans HQ1.out
      have hX2 := (hb1.block (w.heap.size + 1) (by omega)).trans HQ2.out
      have hz1 := hb1.size
      rw [HQ3.out] at hz1
      have hbb : Below w.heap.size w w1 := HB0.out.trans (hb1.mono (by omega))
      have y0 : w1.cell? ⟨w.heap.size, 0, none⟩ = some (.int .i64 (i : Int)) := (cell_of_block hX1 0).trans rfl
      have hP := l6Push_ok _ A1 A n1 c1 q c i (w.heap.size + 2) _ false w1 hR1 (by omega) HD2.out hn1 HF.out
      rw [list_set_set] at hP
      have HP := Lib.hid hP
      have HX2 := Lib.hid hX2
      clear hR1 hb1 hX1 hX2 hP
      go_wp2_with fail
      refine HP.out.mono ?_
      rintro E w2 ⟨A2, n2, c2, rfl, hR2, hb2⟩
      have hX3 := (hb2.block (w.heap.size + 1) (by omega)).trans HX2.out
      have x0 : w2.cell? ⟨w.heap.size + 1, 0, none⟩ = some (.int .i64 0) := (cell_of_block hX3 0).trans rfl
      have x1 : w2.cell? ⟨w.heap.size + 1, 1, none⟩ = some (.int .i64 0) := (cell_of_block hX3 1).trans rfl
      have f0 := frozen_of_block hX3 0
      have f1 := frozen_of_block hX3 1
      have HR2 := Lib.hid hR2
      have hbb2 : Below w.heap.size w w2 := hbb.trans (hb2.mono (by omega))
      clear hR2 hb2 hX3
      go_wp2_with fail
      refine bodyPost_ret (v := .tuple #[.slice A2 n2 c2, .agg #[.int .i64 (i : Int), .int .i64 d.next], .int .i64 0]) (by simp [results, Tryd.results25, go_sem, x0, x1]) rfl ⟨_, _, _, rfl, ((HR2.out.setLow (by omega)).setLow (by omega)).mono (by omega), ?_⟩
      exact (hbb2.setCell (by simp) _).setCell (by simp) _
    · have hA : shareA cs i pt = (cs, (0, 0), 4) := by unfold shareA; rw [hh]; show pushA cs i d (readT d.tags k) false = _; unfold pushA; rw [if_neg hfull]
      rw [hA]
      have HF := Lib.hid hfull
      have HL := Lib.hid hl
      clear h q1 q2 q3 hb0 HR hcall hA hh hok hm hd hk hd2 hfull
      go_enter Tryd.func25, Tryd.ntmps25
      go_wp2_with fail
      refine HC.out.mono ?_
      rintro E w1 ⟨A1, n1, c1, rfl, hR1, hb1⟩
      rw [HQ3.out] at hR1 hb1
      have hX1 := (hb1.block w.heap.size (by omega)).trans HQ1.out
      have hX2 := (hb1.block (w.heap.size + 1) (by omega)).trans HQ2.out
      have hz1 := hb1.size
      rw [HQ3.out] at hz1
      have hbb : Below w.heap.size w w1 := HB0.out.trans (hb1.mono (by omega))
      have y0 : w1.cell? ⟨w.heap.size, 0, none⟩ = some (.int .i64 (i : Int)) := (cell_of_block hX1 0).trans rfl
      have hP := l6Push_full _ cs A1 A n1 c1 q c i (w.heap.size + 2) _ false w1 hR1 (by omega) HD2.out htl hn1 hnM (H.out.below hbb) HL.out HF.out
      have HP := Lib.hid hP
      have HX2 := Lib.hid hX2
      clear hR1 hb1 hX1 hX2 hP
      go_wp2_with fail
      refine HP.out.mono ?_
      rintro E w2 ⟨A2, n2, c2, rfl, hR2, hb2⟩
      have hX3 := (hb2.block (w.heap.size + 1) (by omega)).trans HX2.out
      have x0 : w2.cell? ⟨w.heap.size + 1, 0, none⟩ = some (.int .i64 0) := (cell_of_block hX3 0).trans rfl
      have x1 : w2.cell? ⟨w.heap.size + 1, 1, none⟩ = some (.int .i64 0) := (cell_of_block hX3 1).trans rfl
      have f0 := frozen_of_block hX3 0
      have f1 := frozen_of_block hX3 1
      have HR2 := Lib.hid hR2
      have hbb2 : Below w.heap.size w w2 := hbb.trans (hb2.mono (by omega))
      clear hR2 hb2 hX3
      go_wp2_with fail
      refine bodyPost_ret (v := .tuple #[.slice A2 n2 c2, .agg #[.int .i64 0, .int .i64 0], .int .i64 4]) (by simp [results, Tryd.results25, go_sem, x0, x1]) rfl ⟨_, _, _, rfl, ((HR2.out.setLow (by omega)).setLow (by omega)).mono (by omega), ?_⟩
      exact (hbb2.setCell (by simp) _).setCell (by simp) _

set_option maxRecDepth 100000 in
set_option maxHeartbeats 4000000 in
theorem specBorrowCell_any (cs : List CellD) (A : Option Addr) (q c : Nat) (pc pt : Int) (w : World) (h : RdC w (.slice A q c) cs) (hl : cs.length + tagSum cs ≤ 1048600) :
    Calls Tryd.prog 28 #[.slice A q c, .agg #[.int .i64 pc, .int .i64 pt]] w (Post4 w.heap.size (borrowA cs pc pt).1 (borrowA cs pc pt).2.1 (borrowA cs pc pt).2.2 w) := by
  have H := Lib.hid h
  obtain ⟨q1, q2, q3⟩ := heap2 w (.cells #[.int .i64 pc, .int .i64 pt] 25) (.cells #[.int .i64 0, .int .i64 0] 25)
  have hb0 : Below w.heap.size w ((w.alloc (.cells #[.int .i64 pc, .int .i64 pt] 25)).alloc (.cells #[.int .i64 0, .int .i64 0] 25)) := ((Below.refl w.heap.size w).alloc (Nat.le_refl _) _).alloc (by simp) _
  have HQ1 := Lib.hid q1
  have HQ2 := Lib.hid q2
  have HQ3 := Lib.hid q3
  have HB0 := Lib.hid hb0
  have HR := H.out.below hb0
  cases hh : hitW cs pc pt with
  | error e =>
    have hA : borrowA cs pc pt = (cs, (0, 0), e) := by unfold borrowA; rw [hh]
    rw [hA]
    have he0 := ((l6Write_any cs A q c pc pt w h hl).1 e hh).1
    have hcall := ((l6Write_any cs A q c pc pt _ HR hl).1 e hh).2
    have he1 : ((e : Int) != 0) = true := by simpa using he0
    have HC := Lib.hid hcall
    clear h q1 q2 q3 hb0 HR hcall hA hh
    go_enter Tryd.func28, Tryd.ntmps28
    go_wp2_with fail
    refine HC.out.mono ?_
    rintro E w1 ⟨A1, n1, c1, rfl, hR1, hb1⟩
    rw [HQ3.out] at hR1 hb1
    have hX1 := (hb1.block w.heap.size (by omega)).trans HQ1.out
    have hX2 := (hb1.block (w.heap.size + 1) (by omega)).trans HQ2.out
    have hz1 := hb1.size
    rw [HQ3.out] at hz1
    have hbb : Below w.heap.size w w1 := HB0.out.trans (hb1.mono (by omega))
    have x0 : w1.cell? ⟨w.heap.size + 1, 0, none⟩ = some (.int .i64 0) := (cell_of_block hX2 0).trans rfl
    have x1 : w1.cell? ⟨w.heap.size + 1, 1, none⟩ = some (.int .i64 0) := (cell_of_block hX2 1).trans rfl
    have f0 := frozen_of_block hX2 0
    have f1 := frozen_of_block hX2 1
    have HR1 := Lib.hid hR1
    clear hR1 hb1 hX1 hX2
    go_wp2_with fail
    refine bodyPost_ret (v := .tuple #[.slice A1 n1 c1, .agg #[.int .i64 0, .int .i64 0], .int .i64 e]) (by simp [results, Tryd.results28, go_sem, x0, x1]) rfl ⟨_, _, _, rfl, ((HR1.out.setLow (by omega)).setLow (by omega)).mono (by omega), ?_⟩
    exact (hbb.setCell (by simp) _).setCell (by simp) _
  | ok r =>
    obtain ⟨i, k, d⟩ := r
    have hcall := (l6Write_any cs A q c pc pt _ HR hl).2 i k d hh
    obtain ⟨hm, hc, hd, -, hk⟩ := hit_ok (hitW_ok hh).1
    have hil := (List.getElem?_eq_some_iff.1 hd).1
    have hok := (memB_out hm).2 i d hd
    have hlm := hok.lenM
    have hn1 := hok.next1
    have hnM := hok.nextM
    have htl : (d.tags.take (k + 1)).length ≤ 200 := by rw [List.length_take]; omega
    subst hc
    have hd2 : (cs.set i { d with tags := d.tags.take (k + 1) })[i]? = some { d with tags := d.tags.take (k + 1) } := by rw [List.getElem?_set_self hil]
    have HD2 := Lib.hid hd2
    have HC := Lib.hid hcall
    by_cases hfull : (d.tags.take (k + 1)).length < 200 ∧ d.next < 1000
    · have hA : borrowA cs i pt = (cs.set i { d with tags := d.tags.take (k + 1) ++ [⟨d.next, true⟩], next := d.next + 1 }, ((i : Int), d.next), 0) := by unfold borrowA; rw [hh]; show pushA cs i d (d.tags.take (k + 1)) true = _; unfold pushA; rw [if_pos hfull]
      rw [hA]
      have HF := Lib.hid hfull
      clear h q1 q2 q3 hb0 HR hcall hA hh hok hm hd hk hd2 hfull
      go_enter Tryd.func28, Tryd.ntmps28
      go_wp2_with fail
      refine HC.out.mono ?_
      rintro E w1 ⟨A1, n1, c1, rfl, hR1, hb1⟩
      rw [HQ3.out] at hR1 hb1
      have hX1 := (hb1.block w.heap.size (by omega)).trans HQ1.out
      have hX2 := (hb1.block (w.heap.size + 1) (by omega)).trans HQ2.out
      have hz1 := hb1.size
      rw [HQ3.out] at hz1
      have hbb : Below w.heap.size w w1 := HB0.out.trans (hb1.mono (by omega))
      have y0 : w1.cell? ⟨w.heap.size, 0, none⟩ = some (.int .i64 (i : Int)) := (cell_of_block hX1 0).trans rfl
      have hP := l6Push_ok _ A1 A n1 c1 q c i (w.heap.size + 2) _ true w1 hR1 (by omega) HD2.out hn1 HF.out
      rw [list_set_set] at hP
      have HP := Lib.hid hP
      have HX2 := Lib.hid hX2
      clear hR1 hb1 hX1 hX2 hP
      go_wp2_with fail
      refine HP.out.mono ?_
      rintro E w2 ⟨A2, n2, c2, rfl, hR2, hb2⟩
      have hX3 := (hb2.block (w.heap.size + 1) (by omega)).trans HX2.out
      have x0 : w2.cell? ⟨w.heap.size + 1, 0, none⟩ = some (.int .i64 0) := (cell_of_block hX3 0).trans rfl
      have x1 : w2.cell? ⟨w.heap.size + 1, 1, none⟩ = some (.int .i64 0) := (cell_of_block hX3 1).trans rfl
      have f0 := frozen_of_block hX3 0
      have f1 := frozen_of_block hX3 1
      have HR2 := Lib.hid hR2
      have hbb2 : Below w.heap.size w w2 := hbb.trans (hb2.mono (by omega))
      clear hR2 hb2 hX3
      go_wp2_with fail
      refine bodyPost_ret (v := .tuple #[.slice A2 n2 c2, .agg #[.int .i64 (i : Int), .int .i64 d.next], .int .i64 0]) (by simp [results, Tryd.results28, go_sem, x0, x1]) rfl ⟨_, _, _, rfl, ((HR2.out.setLow (by omega)).setLow (by omega)).mono (by omega), ?_⟩
      exact (hbb2.setCell (by simp) _).setCell (by simp) _
    · have hA : borrowA cs i pt = (cs, (0, 0), 4) := by unfold borrowA; rw [hh]; show pushA cs i d (d.tags.take (k + 1)) true = _; unfold pushA; rw [if_neg hfull]
      rw [hA]
      have HF := Lib.hid hfull
      have HL := Lib.hid hl
      clear h q1 q2 q3 hb0 HR hcall hA hh hok hm hd hk hd2 hfull
      go_enter Tryd.func28, Tryd.ntmps28
      go_wp2_with fail
      refine HC.out.mono ?_
      rintro E w1 ⟨A1, n1, c1, rfl, hR1, hb1⟩
      rw [HQ3.out] at hR1 hb1
      have hX1 := (hb1.block w.heap.size (by omega)).trans HQ1.out
      have hX2 := (hb1.block (w.heap.size + 1) (by omega)).trans HQ2.out
      have hz1 := hb1.size
      rw [HQ3.out] at hz1
      have hbb : Below w.heap.size w w1 := HB0.out.trans (hb1.mono (by omega))
      have y0 : w1.cell? ⟨w.heap.size, 0, none⟩ = some (.int .i64 (i : Int)) := (cell_of_block hX1 0).trans rfl
      have hP := l6Push_full _ cs A1 A n1 c1 q c i (w.heap.size + 2) _ true w1 hR1 (by omega) HD2.out htl hn1 hnM (H.out.below hbb) HL.out HF.out
      have HP := Lib.hid hP
      have HX2 := Lib.hid hX2
      clear hR1 hb1 hX1 hX2 hP
      go_wp2_with fail
      refine HP.out.mono ?_
      rintro E w2 ⟨A2, n2, c2, rfl, hR2, hb2⟩
      have hX3 := (hb2.block (w.heap.size + 1) (by omega)).trans HX2.out
      have x0 : w2.cell? ⟨w.heap.size + 1, 0, none⟩ = some (.int .i64 0) := (cell_of_block hX3 0).trans rfl
      have x1 : w2.cell? ⟨w.heap.size + 1, 1, none⟩ = some (.int .i64 0) := (cell_of_block hX3 1).trans rfl
      have f0 := frozen_of_block hX3 0
      have f1 := frozen_of_block hX3 1
      have HR2 := Lib.hid hR2
      have hbb2 : Below w.heap.size w w2 := hbb.trans (hb2.mono (by omega))
      clear hR2 hb2 hX3
      go_wp2_with fail
      refine bodyPost_ret (v := .tuple #[.slice A2 n2 c2, .agg #[.int .i64 0, .int .i64 0], .int .i64 4]) (by simp [results, Tryd.results28, go_sem, x0, x1]) rfl ⟨_, _, _, rfl, ((HR2.out.setLow (by omega)).setLow (by omega)).mono (by omega), ?_⟩
      exact (hbb2.setCell (by simp) _).setCell (by simp) _

set_option maxRecDepth 100000 in
set_option maxHeartbeats 4000000 in
theorem specNewCell_any (cs : List CellD) (A : Option Addr) (q c : Nat) (v : Int) (w : World) (h : RdC w (.slice A q c) cs) (hl : cs.length + tagSum cs ≤ 1048600) :
    Calls Tryd.prog 35 #[.slice A q c, .int .i64 v] w (Post5 (newA cs v).1 (newA cs v).2.1 (newA cs v).2.2 w) := by
  obtain ⟨hq, hc1, hc2⟩ := h.len
  unfold maxLen at hc2
  have hbo : ∀ o, Below w.heap.size w (w.alloc o) := fun o => (Below.refl w.heap.size w).alloc (Nat.le_refl _) o
  have HBO := Lib.hid hbo
  have hX := heap_alloc_new w (.cells #[.int .i64 0, .int .i64 0] 25)
  have hz : (w.alloc (.cells #[.int .i64 0, .int .i64 0] 25)).heap.size = w.heap.size + 1 := by simp
  have HX := Lib.hid hX
  have HZ := Lib.hid hz
  have H := Lib.hid h
  have hval := specCellsValid_any cs A q c _ (h.below (hbo (.cells #[.int .i64 0, .int .i64 0] 25)))
  have HN := Lib.hid hq
  have bad : ∀ (hA : newA cs v = ([], (0, 0), false)), Hid (newA cs v = ([], (0, 0), false)) := fun h => h
  have HBAD := Lib.hid bad
  clear hbo hX hz h bad
  by_cases hgood : memB cs = true ∧ 0 ≤ v ∧ v ≤ 9 ∧ cs.length < 200
  · have hA : newA cs v = (cs ++ [⟨v, true, 1, [⟨0, true⟩]⟩], ((cs.length : Int), (0 : Int)), true) := by unfold newA; rw [if_pos hgood]
    rw [hA]
    obtain ⟨g1, g2, g3, g4⟩ := hgood
    rw [← hq] at g4
    rw [g1] at hval
    have HV := Lib.hid hval
    have t1 : decide (v < 0) = false := decide_eq_false (by omega)
    have t2 : decide (9 < v) = false := decide_eq_false (by omega)
    have t3 : ((q : Int) == 200) = false := by simp; omega
    obtain ⟨i0, hi, hzz0, hzz1, hzz2⟩ := info_parts Tryd.infoCell
    have HI := Lib.hid hi
    have HZ0 := Lib.hid hzz0
    have HZ1 := Lib.hid hzz1
    have HZ2 := Lib.hid hzz2
    clear hA hval g1 hq hi hzz0 hzz1 hzz2
    go_enter Tryd.func35, Tryd.ntmps35
    go_wp2_with fail
    refine HV.out.mono ?_
    rintro E w1 ⟨rfl, hb1⟩
    rw [HZ.out] at hb1
    have hX1 := (hb1.block w.heap.size (by omega)).trans HX.out
    have hbb : Below w.heap.size w w1 := (HBO.out _).trans (hb1.mono (by omega))
    have hz1 := hb1.size
    rw [HZ.out] at hz1
    have HX1 := Lib.hid hX1
    clear hb1 hX1
    go_wp2_with fail
    refine (l6Copy_any cs A q c w1 (H.out.below hbb) hl).mono ?_
    rintro E w2 ⟨v1, rfl, hR2, hb2⟩
    have hX2 := (hb2.block w.heap.size (by omega)).trans HX1.out
    have hbb2 := hbb.trans (hb2.mono hbb.size)
    have hz2 := hb2.size
    obtain ⟨rs, hrs, hU⟩ := hR2
    obtain ⟨A1, c1, hv1, hn1, hn2, -⟩ := own_form hU.own
    have hrl : rs.length = q := by
      have h9 := congrArg List.length hrs
      rw [List.length_map] at h9
      rw [h9]
      exact HN.out.symm
    rw [hrl] at hv1 hn1
    subst hv1
    have HU := Lib.hid hU
    have HRS := Lib.hid hrs
    have HRL := Lib.hid hrl
    have HX2 := Lib.hid hX2
    have HB2 := Lib.hid hb2
    unfold maxLen at hn2
    clear hU hrs hrl hb2 hX2
    go_wp2_with (at_builtin; refine wpList_append_lies _ rfl _ _ 23 rfl w1.heap.size 33 i0 (.agg #[.int .i64 0, .bool false, .int .i64 0, .slice none 0 0]) 4 48 Tryd.underlying23 HI.out HZ0.out HZ1.out HZ2.out rfl (by decide) _ _ _ rfl ((HU.out.own.alloc _).alloc _) ⟨_, 0, none⟩ 1 1 [.int .i64 v, .bool true, .int .i64 1, .slice (some ⟨w2.heap.size, 0, none⟩) 1 1] rfl rfl ?ra1 ?ra2 (by decide) ?ra3 ?ra4 ?ra5 _ rfl ?_)
    try (case ra1 => exact news1 (by simp) rfl)
    try (case ra2 => intro u hu; simp only [List.mem_cons, List.not_mem_nil, or_false] at hu; rcases hu with rfl | rfl | rfl | rfl <;> rfl)
    try (case ra3 => unfold maxLen; have := HRL.out; omega)
    try (case ra4 => have := HRL.out; omega)
    try (case ra5 => simp; omega)
    intro g cap w' hown' hgr hat hlt'
    obtain ⟨W3, hW3⟩ : ∃ W3, W3 = (w2.alloc (.cells #[.int .i64 0, .bool true] 35)).alloc (.cells #[.int .i64 v, .bool true, .int .i64 1, .slice (some ⟨w2.heap.size, 0, none⟩) 1 1] 33) := ⟨_, rfl⟩
    rw [← hW3] at hgr
    have hb3 : Below w2.heap.size w2 W3 := by rw [hW3]; exact ((Below.refl _ _).alloc (Nat.le_refl _) _).alloc (by simp) _
    have hT3 : RowT W3 w2.heap.size (.slice (some ⟨w2.heap.size, 0, none⟩) 1 1) [⟨0, true⟩] := by
      rw [hW3]
      exact own_below (own_tag 0 true rfl (Nat.le_refl _)) ((Below.refl _ _).alloc (Nat.le_refl _) _)
    have hfin := RowU.snoc (p := (⟨v, true, 1, [⟨0, true⟩]⟩, .slice (some ⟨w2.heap.size, 0, none⟩) 1 1)) (HU.out.below hb3) (own_mono hT3 hz2) (fun j r a hr ha e => by
      have e1 := (World.ownsRow.lt (HU.out.tags j r hr) a ha).2
      have e2 := (World.ownsRow.lt hT3 a e).1
      omega) hgr hown'
    have hz3 := hb3.size
    have hX' := (hgr.block w.heap.size (by omega) (fun e => by have := (HU.out.own.lt w.heap.size e.symm).1; omega)).trans ((hb3.block w.heap.size (by omega)).trans HX2.out)
    have hbw : Below w.heap.size w w' := ((hbb2.trans (hb3.mono hbb2.size)).grown hgr (by omega) (fun k hk => by have := (HU.out.own.lt k hk).1; omega))
    have x0 : w'.cell? ⟨w.heap.size, 0, none⟩ = some (.int .i64 0) := (cell_of_block hX' 0).trans rfl
    have x1 : w'.cell? ⟨w.heap.size, 1, none⟩ = some (.int .i64 0) := (cell_of_block hX' 1).trans rfl
    have f0 := frozen_of_block hX' 0
    have f1 := frozen_of_block hX' 1
    have hrow : RowC w' w1.heap.size (.slice (some ⟨g, 0, none⟩) (q + 1) cap) (cs ++ [⟨v, true, 1, [⟨0, true⟩]⟩]) := by
      refine ⟨_, ?_, by rw [← HRL.out]; exact hfin⟩
      rw [List.map_append, HRS.out]
      rfl
    have HROW := Lib.hid hrow
    have HRL2 := Lib.hid (show rs.length + 1 = q + 1 by rw [HRL.out])
    clear hfin hX' hb3 hT3 hgr hown' hat hz3 hrow hW3
    rw [HRL2.out]
    go_wp2_with fail
    refine bodyPost_ret (v := .tuple #[.slice (some ⟨g, 0, none⟩) (q + 1) cap, .agg #[.int .i64 (q : Int), .int .i64 0], .bool true]) (by simp [results, Tryd.results35, go_sem, x0, x1]) rfl ⟨_, _, _, by rw [HN.out], ((HROW.out.setLow (by omega)).setLow (by omega)).mono (by omega), ?_⟩
    exact (hbw.setCell (Nat.le_refl _) _).setCell (Nat.le_refl _) _
  · have hA : newA cs v = ([], (0, 0), false) := by unfold newA; rw [if_neg hgood]
    rw [hA]
    clear hA
    have hfin : ∀ w1, Below (w.heap.size + 1) (w.alloc (.cells #[.int .i64 0, .int .i64 0] 25)) w1 → Hid (Below w.heap.size w w1 ∧ w1.heap[w.heap.size]? = some (.cells #[.int .i64 0, .int .i64 0] 25 (0, 0)) ∧ w.heap.size + 1 ≤ w1.heap.size) := fun w1 hb1 => by
      have := hb1.size
      rw [HZ.out] at this
      exact ⟨(HBO.out _).trans (hb1.mono (by omega)), (hb1.block w.heap.size (by omega)).trans HX.out, this⟩
    have HFIN := Lib.hid hfin
    clear hfin
    rw [← hq] at hgood
    cases hB : memB cs with
    | false =>
      rw [hB] at hval
      have HV := Lib.hid hval
      clear hval hB hgood hq
      go_enter Tryd.func35, Tryd.ntmps35
      go_wp2_with fail
      refine HV.out.mono ?_
      rintro E w1 ⟨rfl, hb1⟩
      rw [HZ.out] at hb1
      obtain ⟨hbb, hX1, hz1⟩ := (HFIN.out w1 hb1).out
      have hX2 : ∀ o, (w1.alloc o).heap[w.heap.size]? = some (.cells #[.int .i64 0, .int .i64 0] 25 (0, 0)) := fun o => (Below.heap_alloc _ _ _ (by omega)).trans hX1
      have x0 : ∀ o, (w1.alloc o).cell? ⟨w.heap.size, 0, none⟩ = some (.int .i64 0) := fun o => (cell_of_block (hX2 o) 0).trans rfl
      have x1 : ∀ o, (w1.alloc o).cell? ⟨w.heap.size, 1, none⟩ = some (.int .i64 0) := fun o => (cell_of_block (hX2 o) 1).trans rfl
      have f0 : ∀ o, (w1.alloc o).frozen? ⟨w.heap.size, 0, none⟩ = false := fun o => frozen_of_block (hX2 o) 0
      have f1 : ∀ o, (w1.alloc o).frozen? ⟨w.heap.size, 1, none⟩ = false := fun o => frozen_of_block (hX2 o) 1
      have HE := Lib.hid (RowC.empty (w := w1) rfl (Nat.le_refl _))
      clear hb1 hX1 hX2
      go_wp2_with fail
      refine bodyPost_ret (v := .tuple #[.slice (some ⟨w1.heap.size, 0, none⟩) 0 0, .agg #[.int .i64 0, .int .i64 0], .bool false]) (by simp [results, Tryd.results35, go_sem, x0, x1]) rfl ⟨_, _, _, rfl, ?_, ?_⟩
      · exact ((HE.out.setLow (by omega)).setLow (by omega)).mono (by omega)
      · exact ((hbb.alloc (by omega) _).setCell (Nat.le_refl _) _).setCell (Nat.le_refl _) _
    | true =>
      rw [hB] at hval hgood
      have HV := Lib.hid hval
      by_cases h0 : v < 0
      · have t1 : decide (v < 0) = true := decide_eq_true h0
        clear hval hB hgood hq
        go_enter Tryd.func35, Tryd.ntmps35
        go_wp2_with fail
        refine HV.out.mono ?_
        rintro E w1 ⟨rfl, hb1⟩
        rw [HZ.out] at hb1
        obtain ⟨hbb, hX1, hz1⟩ := (HFIN.out w1 hb1).out
        have hX2 : ∀ o, (w1.alloc o).heap[w.heap.size]? = some (.cells #[.int .i64 0, .int .i64 0] 25 (0, 0)) := fun o => (Below.heap_alloc _ _ _ (by omega)).trans hX1
        have x0 : ∀ o, (w1.alloc o).cell? ⟨w.heap.size, 0, none⟩ = some (.int .i64 0) := fun o => (cell_of_block (hX2 o) 0).trans rfl
        have x1 : ∀ o, (w1.alloc o).cell? ⟨w.heap.size, 1, none⟩ = some (.int .i64 0) := fun o => (cell_of_block (hX2 o) 1).trans rfl
        have f0 : ∀ o, (w1.alloc o).frozen? ⟨w.heap.size, 0, none⟩ = false := fun o => frozen_of_block (hX2 o) 0
        have f1 : ∀ o, (w1.alloc o).frozen? ⟨w.heap.size, 1, none⟩ = false := fun o => frozen_of_block (hX2 o) 1
        have HE := Lib.hid (RowC.empty (w := w1) rfl (Nat.le_refl _))
        clear hb1 hX1 hX2
        go_wp2_with fail
        refine bodyPost_ret (v := .tuple #[.slice (some ⟨w1.heap.size, 0, none⟩) 0 0, .agg #[.int .i64 0, .int .i64 0], .bool false]) (by simp [results, Tryd.results35, go_sem, x0, x1]) rfl ⟨_, _, _, rfl, ?_, ?_⟩
        · exact ((HE.out.setLow (by omega)).setLow (by omega)).mono (by omega)
        · exact ((hbb.alloc (by omega) _).setCell (Nat.le_refl _) _).setCell (Nat.le_refl _) _
      · have t1 : decide (v < 0) = false := decide_eq_false h0
        by_cases h9 : 9 < v
        · have t2 : decide (9 < v) = true := decide_eq_true h9
          clear hval hB hgood hq
          go_enter Tryd.func35, Tryd.ntmps35
          go_wp2_with fail
          refine HV.out.mono ?_
          rintro E w1 ⟨rfl, hb1⟩
          rw [HZ.out] at hb1
          obtain ⟨hbb, hX1, hz1⟩ := (HFIN.out w1 hb1).out
          have hX2 : ∀ o, (w1.alloc o).heap[w.heap.size]? = some (.cells #[.int .i64 0, .int .i64 0] 25 (0, 0)) := fun o => (Below.heap_alloc _ _ _ (by omega)).trans hX1
          have x0 : ∀ o, (w1.alloc o).cell? ⟨w.heap.size, 0, none⟩ = some (.int .i64 0) := fun o => (cell_of_block (hX2 o) 0).trans rfl
          have x1 : ∀ o, (w1.alloc o).cell? ⟨w.heap.size, 1, none⟩ = some (.int .i64 0) := fun o => (cell_of_block (hX2 o) 1).trans rfl
          have f0 : ∀ o, (w1.alloc o).frozen? ⟨w.heap.size, 0, none⟩ = false := fun o => frozen_of_block (hX2 o) 0
          have f1 : ∀ o, (w1.alloc o).frozen? ⟨w.heap.size, 1, none⟩ = false := fun o => frozen_of_block (hX2 o) 1
          have HE := Lib.hid (RowC.empty (w := w1) rfl (Nat.le_refl _))
          clear hb1 hX1 hX2
          go_wp2_with fail
          refine bodyPost_ret (v := .tuple #[.slice (some ⟨w1.heap.size, 0, none⟩) 0 0, .agg #[.int .i64 0, .int .i64 0], .bool false]) (by simp [results, Tryd.results35, go_sem, x0, x1]) rfl ⟨_, _, _, rfl, ?_, ?_⟩
          · exact ((HE.out.setLow (by omega)).setLow (by omega)).mono (by omega)
          · exact ((hbb.alloc (by omega) _).setCell (Nat.le_refl _) _).setCell (Nat.le_refl _) _
        · have t2 : decide (9 < v) = false := decide_eq_false h9
          have hq200 : q = 200 := by
            have h8 := (memB_out hB).1
            rw [← hq] at h8
            rcases Nat.lt_or_ge q 200 with h | h
            · exact absurd ⟨rfl, by omega, by omega, h⟩ hgood
            · omega
          have t3 : ((q : Int) == 200) = true := by simp; omega
          clear hval hB hgood hq hq200
          go_enter Tryd.func35, Tryd.ntmps35
          go_wp2_with fail
          refine HV.out.mono ?_
          rintro E w1 ⟨rfl, hb1⟩
          rw [HZ.out] at hb1
          obtain ⟨hbb, hX1, hz1⟩ := (HFIN.out w1 hb1).out
          have hX2 : ∀ o, (w1.alloc o).heap[w.heap.size]? = some (.cells #[.int .i64 0, .int .i64 0] 25 (0, 0)) := fun o => (Below.heap_alloc _ _ _ (by omega)).trans hX1
          have x0 : ∀ o, (w1.alloc o).cell? ⟨w.heap.size, 0, none⟩ = some (.int .i64 0) := fun o => (cell_of_block (hX2 o) 0).trans rfl
          have x1 : ∀ o, (w1.alloc o).cell? ⟨w.heap.size, 1, none⟩ = some (.int .i64 0) := fun o => (cell_of_block (hX2 o) 1).trans rfl
          have f0 : ∀ o, (w1.alloc o).frozen? ⟨w.heap.size, 0, none⟩ = false := fun o => frozen_of_block (hX2 o) 0
          have f1 : ∀ o, (w1.alloc o).frozen? ⟨w.heap.size, 1, none⟩ = false := fun o => frozen_of_block (hX2 o) 1
          have HE := Lib.hid (RowC.empty (w := w1) rfl (Nat.le_refl _))
          clear hb1 hX1 hX2
          go_wp2_with fail
          refine bodyPost_ret (v := .tuple #[.slice (some ⟨w1.heap.size, 0, none⟩) 0 0, .agg #[.int .i64 0, .int .i64 0], .bool false]) (by simp [results, Tryd.results35, go_sem, x0, x1]) rfl ⟨_, _, _, rfl, ?_, ?_⟩
          · exact ((HE.out.setLow (by omega)).setLow (by omega)).mono (by omega)
          · exact ((hbb.alloc (by omega) _).setCell (Nat.le_refl _) _).setCell (Nat.le_refl _) _

set_option maxRecDepth 100000 in
set_option maxHeartbeats 4000000 in
theorem specFreeCell_any (cs : List CellD) (A : Option Addr) (q c : Nat) (pc pt : Int) (w : World) (h : RdC w (.slice A q c) cs) (hl : cs.length + tagSum cs ≤ 1048600) :
    Calls Tryd.prog 31 #[.slice A q c, .agg #[.int .i64 pc, .int .i64 pt]] w (Post2 (freeA cs pc pt).1 (freeA cs pc pt).2 w) := by
  have H := Lib.hid h
  have hbw : ∀ o, Below w.heap.size w (w.alloc o) := fun o => (Below.refl w.heap.size w).alloc (Nat.le_refl _) o
  have HBW := Lib.hid hbw
  have hX := heap_alloc_new w (.cells #[.int .i64 pc, .int .i64 pt] 25)
  have hz : (w.alloc (.cells #[.int .i64 pc, .int .i64 pt] 25)).heap.size = w.heap.size + 1 := by simp
  have HX := Lib.hid hX
  have HZ := Lib.hid hz
  have hWr := l6Write_any cs A q c pc pt _ (h.below (hbw (.cells #[.int .i64 pc, .int .i64 pt] 25))) hl
  clear h hbw hX hz
  cases hh : hitW cs pc pt with
  | error e =>
    have hA : freeA cs pc pt = (cs, e) := by unfold freeA; rw [hh]
    rw [hA]
    obtain ⟨he0, hcall⟩ := hWr.1 e hh
    have he1 : ((e : Int) == 0) = false := by simpa using he0
    have HC := Lib.hid hcall
    clear hWr hcall hA hh
    go_enter Tryd.func31, Tryd.ntmps31
    go_wp2_with fail
    refine HC.out.mono ?_
    rintro E w1 ⟨A1, n1, c1, rfl, hR1, hb1⟩
    rw [HZ.out] at hR1 hb1
    have HR1 := Lib.hid (hR1.mono (show w.heap.size ≤ w.heap.size + 1 by omega))
    have hbb : Below w.heap.size w w1 := (HBW.out _).trans (hb1.mono (by omega))
    clear hR1 hb1
    go_wp2_with fail
    go_ret2
    exact ⟨A1, n1, c1, rfl, HR1.out, hbb⟩
  | ok r =>
    obtain ⟨i, k, d⟩ := r
    have hA : freeA cs pc pt = (cs.set i { d with alive := false, tags := d.tags.take (k + 1) }, 0) := by unfold freeA; rw [hh]
    rw [hA]
    have hcall := hWr.2 i k d hh
    obtain ⟨hm, hc, hd, -, -⟩ := hit_ok (hitW_ok hh).1
    have hil := (List.getElem?_eq_some_iff.1 hd).1
    subst hc
    have HC := Lib.hid hcall
    have HD := Lib.hid hd
    clear hWr hcall hA hh hm hd
    go_enter Tryd.func31, Tryd.ntmps31
    go_wp2_with fail
    refine HC.out.mono ?_
    rintro E w1 ⟨A1, n1, c1, rfl, hR1, hb1⟩
    rw [HZ.out] at hR1 hb1
    obtain ⟨g, Au, cu, rfl, hat⟩ := (hR1.mono (show w.heap.size ≤ w.heap.size + 1 by omega)).at_ (i := i) (d := { d with tags := d.tags.take (k + 1) }) (by rw [List.getElem?_set_self hil])
    have hbb : Below w.heap.size w w1 := (HBW.out _).trans (hb1.mono (by omega))
    have hXw := (hb1.block w.heap.size (by omega)).trans HX.out
    have x0 : w1.cell? ⟨w.heap.size, 0, none⟩ = some (.int .i64 (i : Int)) := (cell_of_block hXw 0).trans rfl
    have hin : i < n1 := by rw [hat.len]; simpa using hil
    have hmx := hat.max
    have hcp := hat.cap
    unfold maxLen at hmx
    have k0 := hat.c1
    have kf := hat.fz (i * 4 + 1)
    have HP := Lib.hid (hat.put1 false)
    have hgb := hat.bg
    clear hR1 hb1 hXw hat
    go_wp2_with fail
    go_ret2
    refine ⟨_, n1, c1, rfl, ?_, hbb.setCell hgb _⟩
    have := HP.out
    rw [list_set_set] at this
    exact this

end Go.Proofs.YtfkoobdlhdolbaaDoor
