/-
  Writing a cell, by the model.
-/
import Derived.Test.YtnneamfndokleaaDoorCelX
import Derived.IntWalk
namespace Go.Proofs.YtnneamfndokleaaDoor
open Go.RowKit Go.Deep
set_option linter.unusedVariables false

set_option maxRecDepth 100000 in
set_option maxHeartbeats 4000000 in
theorem l6Write_err (cs : List CellD) (A : Option Addr) (q c : Nat) (pc pt e : Int) (w : World) (h : RdC w (.slice A q c) cs) (hl : cs.length + tagSum cs ≤ 1048600) (hh : hit cs pc pt = .error e) :
    Calls Tryd.prog 35 #[.slice A q c, .agg #[.int .i64 pc, .int .i64 pt]] w (Post2 cs e w) := by
  have H := Lib.hid h
  have hbw : ∀ o, Below w.heap.size w (w.alloc o) := fun o => (Below.refl w.heap.size w).alloc (Nat.le_refl _) o
  have HBW := Lib.hid hbw
  have hX := heap_alloc_new w (.cells #[.int .i64 pc, .int .i64 pt] 30)
  have hz : (w.alloc (.cells #[.int .i64 pc, .int .i64 pt] 30)).heap.size = w.heap.size + 1 := by simp
  have HX := Lib.hid hX
  have HZ := Lib.hid hz
  have HH := Lib.hid hh
  have he0 := (l6Place_err cs A q c pc pt e w h hh).2
  clear h hbw hX hz hh
  go_enter Tryd.func35, Tryd.ntmps35
  go_wp2_with fail
  refine (l6Copy_any cs A q c _ (H.out.below (HBW.out _)) hl).mono ?_
  rintro E w1 ⟨v1, rfl, hR1, hb1⟩
  rw [HZ.out] at hR1 hb1
  have hXw := (hb1.block w.heap.size (by omega)).trans HX.out
  have x0 : w1.cell? ⟨w.heap.size, 0, none⟩ = some (.int .i64 pc) := (cell_of_block hXw 0).trans rfl
  have x1 : w1.cell? ⟨w.heap.size, 1, none⟩ = some (.int .i64 pt) := (cell_of_block hXw 1).trans rfl
  have hbb : Below w.heap.size w w1 := (HBW.out _).trans (hb1.mono (by omega))
  have HR1 := Lib.hid (hR1.mono (show w.heap.size ≤ w.heap.size + 1 by omega))
  obtain ⟨A1, c1, hv1, -⟩ := hR1.form
  obtain ⟨n1, hn1⟩ : ∃ n1, n1 = cs.length := ⟨_, rfl⟩
  rw [← hn1] at hv1
  subst hv1
  clear hXw hb1 hR1 hn1
  go_wp2_with fail
  refine (l6Place_err cs A q c pc pt e _ (H.out.below hbb) HH.out).1.mono ?_
  rintro E w2 ⟨rfl, hb2⟩
  have HR2 := Lib.hid (HR1.out.below hb2)
  have hbb2 := hbb.trans (hb2.mono hbb.size)
  clear hb2
  go_wp2_with fail
  go_ret2
  exact ⟨A1, n1, c1, rfl, HR2.out, hbb2⟩

set_option maxRecDepth 100000 in
set_option maxHeartbeats 4000000 in
theorem l6Write_ok (cs : List CellD) (A : Option Addr) (q c : Nat) (pc pt : Int) (i k : Nat) (d : CellD) (w : World) (h : RdC w (.slice A q c) cs) (hl : cs.length + tagSum cs ≤ 1048600) (hh : hit cs pc pt = .ok (i, k, d)) (hu : uAt d.tags k = true) :
    Calls Tryd.prog 35 #[.slice A q c, .agg #[.int .i64 pc, .int .i64 pt]] w (Post2 (cs.set i { d with tags := d.tags.take (k + 1) }) 0 w) := by
  have H := Lib.hid h
  have hbw : ∀ o, Below w.heap.size w (w.alloc o) := fun o => (Below.refl w.heap.size w).alloc (Nat.le_refl _) o
  have HBW := Lib.hid hbw
  have hX := heap_alloc_new w (.cells #[.int .i64 pc, .int .i64 pt] 30)
  have hz : (w.alloc (.cells #[.int .i64 pc, .int .i64 pt] 30)).heap.size = w.heap.size + 1 := by simp
  have HX := Lib.hid hX
  have HZ := Lib.hid hz
  have HH := Lib.hid hh
  obtain ⟨hm, hc, hd, hal, hk⟩ := hit_ok hh
  obtain ⟨hq, hc1, hc2⟩ := h.len
  have hiq : i < q := by rw [hq]; exact (List.getElem?_eq_some_iff.1 hd).1
  have hdok := (memB_out hm).2 i d hd
  have hkl := tagAt_lt hk
  have hlm := hdok.lenM
  have HD := Lib.hid hd
  have HN := Lib.hid hq
  unfold maxLen at hc2
  subst hc
  clear h hbw hX hz hh hm hd hk hdok hq hal
  go_enter Tryd.func35, Tryd.ntmps35
  go_wp2_with fail
  refine (l6Copy_any cs A q c _ (H.out.below (HBW.out _)) hl).mono ?_
  rintro E w1 ⟨v1, rfl, hR1, hb1⟩
  rw [HZ.out] at hR1 hb1
  have HX1 := Lib.hid ((hb1.block w.heap.size (by omega)).trans HX.out)
  have x0 : w1.cell? ⟨w.heap.size, 0, none⟩ = some (.int .i64 (i : Int)) := (cell_of_block HX1.out 0).trans rfl
  have x1 : w1.cell? ⟨w.heap.size, 1, none⟩ = some (.int .i64 pt) := (cell_of_block HX1.out 1).trans rfl
  have hbb : Below w.heap.size w w1 := (HBW.out _).trans (hb1.mono (by omega))
  have hs1 := hb1.size
  rw [HZ.out] at hs1
  have HR1 := Lib.hid hR1
  obtain ⟨A1, c1, hv1, hn1, hn2⟩ := hR1.form
  rw [← HN.out] at hv1 hn1
  unfold maxLen at hn2
  subst hv1
  clear hb1 hR1
  go_wp2_with fail
  refine (l6Place_ok cs A q c i pt i k d _ (H.out.below hbb) HH.out).mono ?_
  rintro E w2 ⟨rfl, hb2⟩
  have HX2 := Lib.hid ((hb2.block w.heap.size (by omega)).trans HX1.out)
  have y0 : w2.cell? ⟨w.heap.size, 0, none⟩ = some (.int .i64 (i : Int)) := (cell_of_block HX2.out 0).trans rfl
  have hbb2 := hbb.trans (hb2.mono hbb.size)
  have hs2 := hb2.size
  have HR2 := Lib.hid (HR1.out.below hb2)
  clear hb2 x0 x1
  obtain ⟨rs, hrs, hU⟩ := HR2.out
  obtain ⟨Ar, Cr, u, hsp, hArl, -⟩ := mem_split hrs HD.out
  subst hsp
  have hlen : (Ar ++ (d, u) :: Cr).length = q := by
    have := congrArg List.length hrs
    rw [List.length_map] at this
    rw [this]
    exact HN.out.symm
  obtain ⟨g, cap, eg, hg1, hg2⟩ : ∃ g cap, Value.slice A1 q c1 = .slice (some ⟨g, 0, none⟩) q cap ∧ w.heap.size + 1 ≤ g ∧ g < w2.heap.size := by
    obtain ⟨A', c', e1, _, _, e2⟩ := own_form hU.own
    rw [hlen] at e1 e2
    obtain ⟨g, rfl, h1, h2⟩ := e2 (by omega)
    exact ⟨g, c', e1, h1, h2⟩
  injection eg with eg1 _ eg2
  subst eg1 eg2
  obtain ⟨s0, s1, s2, s3, sf, hT0, hng⟩ := hU.cells4 hlen
  rw [hArl] at s3
  have sf3 := sf (i * 4 + 3)
  obtain ⟨b, Au, cu, rfl, hbk, ⟨a0, a1, a2, a3⟩, hTd⟩ := H.out.at_ HD.out
  have hTk : Hid (∀ k, (Value.slice Au d.tags.length cu).ownBlock = some k → k < w.heap.size) := by
    intro k hk
    obtain ⟨b', id', u', hb', hbb', _⟩ := hTd.elem (k := 0) (by omega)
    subst hb'
    have : b'.block = k := by simpa [Value.ownBlock] using hk
    omega
  replace hTd := hTd.below hbb2
  replace a3 := (hbb2.cell (p := ⟨(b.add (i * 4)).block, (b.add (i * 4)).off + 3, none⟩) (by show (b.add (i * 4)).block < _; rw [block_add]; exact hbk)).trans a3
  have a0' : Hid (w2.cell? (b.add (i * 4)) = some (.int .i64 d.val)) := (hbb2.cell (p := b.add (i * 4)) (by rw [block_add]; exact hbk)).trans a0
  obtain ⟨bt, tid, tu, hAu, hbt, htk, d0, d1⟩ := hTd.elem hkl
  subst hAu
  have htu : tu = true := by
    unfold uAt at hu
    rw [htk] at hu
    exact hu
  subst htu
  have hcu1 : d.tags.length ≤ cu := hTd.len.2.1
  have hcu2 : cu ≤ maxLen := hTd.len.2.2
  unfold maxLen at hcu2
  have HTd := Lib.hid hTd
  clear htk hu d0 hbt
  have HU := Lib.hid hU
  have HLEN := Lib.hid hlen
  have HRS := Lib.hid hrs
  have HAL := Lib.hid hArl
  have hgn1 : w.heap.size ≠ g := by omega
  have hgn2 : (b.add (i * 4)).block ≠ g := by rw [block_add]; omega
  clear hU hlen hrs hArl hTd s0 s1 s2 sf hT0 a0 a1 a2 HR1 HR2
  go_wp2_with fail
  obtain ⟨tk, htk⟩ : ∃ tk, tk = d.tags.take (k + 1) := ⟨_, rfl⟩
  have hRk : RdT w2 (.slice (some bt) (k + 1) cu) tk := by rw [htk]; exact HTd.out.take (by omega)
  have hlk : tk.length ≤ 1000 := by rw [htk, List.length_take]; omega
  have HTK := Lib.hid htk
  have HRK := Lib.hid hRk
  clear htk hRk
  have hw1 : IntKind.i64.wrap ((k : Int) + 1) = (k : Int) + 1 := IntWalk.i64_in _ (by omega)
  have hw2 : (0 : Int) ≤ (k : Int) + 1 := by omega
  have hw4 : (k : Int) + 1 ≤ (cu : Int) := by omega
  have hw5 : (k : Int) + 1 ≤ (d.tags.length : Int) := by omega
  have hw3 : ((k : Int) + 1).toNat = k + 1 := by omega
  have sh : w2.cell? ⟨g, i * 4 + 3, none⟩ = some (held w2 ⟨g, i * 4 + 3, none⟩) := by unfold held; rw [s3]; rfl
  clear s3
  go_region_held3 (fun w' => SameBut g (i * 4 + 3) w2 w' ∧ w'.cell? ⟨w.heap.size, 0, none⟩ = some (.int .i64 (i : Int)) ∧ w'.cell? ⟨(b.add (i * 4)).block, (b.add (i * 4)).off + 3, none⟩ = some (.slice (some bt) d.tags.length cu) ∧ w'.cell? ⟨g, i * 4 + 3, none⟩ = some (held w' ⟨g, i * 4 + 3, none⟩) ∧ w'.frozen? ⟨g, i * 4 + 3, none⟩ = false)
    (first | exact ⟨SameBut.refl hg2, y0, a3, sh, sf3⟩ | exact hS3 | exact same_store hS3 hgn1 hgn2 _ | exact same_call ‹SameBut g (i * 4 + 3) w2 _ ∧ _› ((Below.refl _ _).alloc (Nat.le_refl _) _))
    ((refine step_append_tags (by rfl) _ _ (by rfl) (by rfl) w2.heap.size (.slice (some ⟨w2.heap.size, 0, none⟩) 0 0) [] (.slice (some bt) (k + 1) cu) tk (by rfl) (by rfl) ?_ ?_ ?_ ?_ ?_; (exact own_empty rfl (Nat.le_refl _)); (exact HRK.out.below (((Below.refl w2.heap.size w2).alloc (Nat.le_refl _) _).drew)); (simp; omega); (simp); intro v2 w' hR3 hg3 hv3; (try rw [List.nil_append] at hR3); obtain ⟨A2, c2, hv2, -, -, -⟩ := own_form hR3; subst hv2;
      have hbn : Below w2.heap.size w2 w' := (((Below.refl w2.heap.size w2).alloc (Nat.le_refl _) _).drew).grown hg3 (by simp) (fun g hg => by simp [Value.ownBlock] at hg; omega); have hS3 := same_call (show SameBut g (i * 4 + 3) w2 w2.drew ∧ w2.drew.cell? ⟨w.heap.size, 0, none⟩ = some (.int .i64 (i : Int)) ∧ w2.drew.cell? ⟨(b.add (i * 4)).block, (b.add (i * 4)).off + 3, none⟩ = some (.slice (some bt) d.tags.length cu) ∧ w2.drew.cell? ⟨g, i * 4 + 3, none⟩ = some (held w2.drew ⟨g, i * 4 + 3, none⟩) ∧ w2.drew.frozen? ⟨g, i * 4 + 3, none⟩ = false from ⟨SameBut.refl hg2, y0, a3, sh, sf3⟩) (show Below w2.drew.heap.size w2.drew w' from ⟨hbn.os, hbn.tape, hbn.output, hbn.size, hbn.block⟩)))
  have hbw' := hbn
  obtain ⟨hUf, hOf⟩ := (HU.out.below hbw').putStack HLEN.out (own_mono hR3 (by show w.heap.size + 1 ≤ w2.heap.size; omega)) (fun j r a hj hr ha e => by
    have e1 := (World.ownsRow.lt (HU.out.tags j r hr) a ha).2
    have e2 : w2.heap.size ≤ a := (World.ownsRow.lt hR3 a e).1
    omega)
  rw [HAL.out] at hUf hOf
  have HF : Hid (RowC (w'.setCell ⟨g, i * 4 + 3, none⟩ (.slice A2 tk.length c2)) w.heap.size (.slice (some ⟨g, 0, none⟩) q c1) (cs.set i { d with tags := d.tags.take (k + 1) })) :=
    RowC.mono ⟨_, by rw [← HTK.out]; exact map_mid HRS.out HAL.out, hUf⟩ (by omega)
  have hbf : Below w.heap.size w (w'.setCell ⟨g, i * 4 + 3, none⟩ (.slice A2 tk.length c2)) := (hbb2.trans (hbw'.mono hbb2.size)).setCell (by show w.heap.size ≤ g; omega) _
  clear hUf hOf hS3 hR3 hbn sh sf3 y0 a3 ‹SameBut g (i * 4 + 3) w2 (World.setCell w' _ _) ∧ _› hbw' hg3 hv3
  generalize w'.setCell ⟨g, i * 4 + 3, none⟩ (.slice A2 tk.length c2) = w3 at *
  go_wp2_with fail
  go_ret2
  exact ⟨_, _, _, rfl, HF.out, hbf⟩

set_option maxRecDepth 100000 in
set_option maxHeartbeats 4000000 in
theorem l6Write_ro (cs : List CellD) (A : Option Addr) (q c : Nat) (pc pt : Int) (i k : Nat) (d : CellD) (w : World) (h : RdC w (.slice A q c) cs) (hl : cs.length + tagSum cs ≤ 1048600) (hh : hit cs pc pt = .ok (i, k, d)) (hu : uAt d.tags k = false) :
    Calls Tryd.prog 35 #[.slice A q c, .agg #[.int .i64 pc, .int .i64 pt]] w (Post2 cs 3 w) := by
  have H := Lib.hid h
  have hbw : ∀ o, Below w.heap.size w (w.alloc o) := fun o => (Below.refl w.heap.size w).alloc (Nat.le_refl _) o
  have HBW := Lib.hid hbw
  have hX := heap_alloc_new w (.cells #[.int .i64 pc, .int .i64 pt] 30)
  have hz : (w.alloc (.cells #[.int .i64 pc, .int .i64 pt] 30)).heap.size = w.heap.size + 1 := by simp
  have HX := Lib.hid hX
  have HZ := Lib.hid hz
  have HH := Lib.hid hh
  obtain ⟨hm, hc, hd, hal, hk⟩ := hit_ok hh
  obtain ⟨hq, hc1, hc2⟩ := h.len
  have hiq : i < q := by rw [hq]; exact (List.getElem?_eq_some_iff.1 hd).1
  have hdok := (memB_out hm).2 i d hd
  have hkl := tagAt_lt hk
  have hlm := hdok.lenM
  have HD := Lib.hid hd
  have HN := Lib.hid hq
  unfold maxLen at hc2
  subst hc
  clear h hbw hX hz hh hm hd hk hdok hq hal
  go_enter Tryd.func35, Tryd.ntmps35
  go_wp2_with fail
  refine (l6Copy_any cs A q c _ (H.out.below (HBW.out _)) hl).mono ?_
  rintro E w1 ⟨v1, rfl, hR1, hb1⟩
  rw [HZ.out] at hR1 hb1
  have HX1 := Lib.hid ((hb1.block w.heap.size (by omega)).trans HX.out)
  have x0 : w1.cell? ⟨w.heap.size, 0, none⟩ = some (.int .i64 (i : Int)) := (cell_of_block HX1.out 0).trans rfl
  have x1 : w1.cell? ⟨w.heap.size, 1, none⟩ = some (.int .i64 pt) := (cell_of_block HX1.out 1).trans rfl
  have hbb : Below w.heap.size w w1 := (HBW.out _).trans (hb1.mono (by omega))
  have hs1 := hb1.size
  rw [HZ.out] at hs1
  have HR1 := Lib.hid hR1
  obtain ⟨A1, c1, hv1, hn1, hn2⟩ := hR1.form
  rw [← HN.out] at hv1 hn1
  unfold maxLen at hn2
  subst hv1
  clear hb1 hR1
  go_wp2_with fail
  refine (l6Place_ok cs A q c i pt i k d _ (H.out.below hbb) HH.out).mono ?_
  rintro E w2 ⟨rfl, hb2⟩
  have HX2 := Lib.hid ((hb2.block w.heap.size (by omega)).trans HX1.out)
  have y0 : w2.cell? ⟨w.heap.size, 0, none⟩ = some (.int .i64 (i : Int)) := (cell_of_block HX2.out 0).trans rfl
  have hbb2 := hbb.trans (hb2.mono hbb.size)
  have hs2 := hb2.size
  have HR2 := Lib.hid (HR1.out.below hb2)
  clear hb2 x0 x1
  obtain ⟨b, Au, cu, rfl, hbk, ⟨a0, a1, a2, a3⟩, hTd⟩ := H.out.at_ HD.out
  replace hTd := hTd.below hbb2
  replace a3 := (hbb2.cell (p := ⟨(b.add (i * 4)).block, (b.add (i * 4)).off + 3, none⟩) (by show (b.add (i * 4)).block < _; rw [block_add]; exact hbk)).trans a3
  obtain ⟨bt, tid, tu, hAu, hbt, htk, d0, d1⟩ := hTd.elem hkl
  subst hAu
  have htu : tu = false := by
    unfold uAt at hu
    rw [htk] at hu
    exact hu
  subst htu
  have HR2' := Lib.hid (HR2.out.mono (show w.heap.size ≤ w.heap.size + 1 by omega))
  clear HR1 HR2 hTd a0 a1 a2 htk hu d0 hbt
  go_wp2_with fail
  go_ret2
  exact ⟨_, _, _, rfl, HR2'.out, hbb2⟩

end Go.Proofs.YtnneamfndokleaaDoor
