/-
  New tags, by the model.
-/
import Derived.Test.YtnneamfndokleaaDoorCelP
import Derived.Test.YtnneamfndokleaaDoorCelQ
import Derived.Test.YtnneamfndokleaaDoorCelRd
namespace Go.Proofs.YtnneamfndokleaaDoor
open Go.RowKit Go.Deep
set_option linter.unusedVariables false

theorem list_set_set {α : Type} (l : List α) (i : Nat) (a b : α) : (l.set i a).set i b = l.set i b := by simp

/-- A memory, a pointer and a number. -/
def Post4 (lo : Nat) (m : List CellD) (p : Int × Int) (e : Int) (w : World) (E : Ending) (w' : World) : Prop := ∃ A n c, E = .returned (.tuple #[.slice A n c, .agg #[.int .i64 p.1, .int .i64 p.2], .int .i64 e]) ∧ RowC w' lo (.slice A n c) m ∧ Below lo w w'

set_option maxRecDepth 100000 in
set_option maxHeartbeats 4000000 in
theorem l6Push_full (cs bs : List CellD) (A Ab : Option Addr) (q c qb cb i lo : Nat) (d : CellD) (u : Bool) (w : World) (hR : RowC w lo (.slice A q c) cs) (hlo : lo ≤ w.heap.size) (hd : cs[i]? = some d) (h1 : d.tags.length ≤ 200) (h2 : 1 ≤ d.next) (h3 : d.next ≤ 1000) (hB : RdC w (.slice Ab qb cb) bs) (hl : bs.length + tagSum bs ≤ 1048600) (hf : ¬ (d.tags.length < 200 ∧ d.next < 1000)) :
    Calls Tryd.prog 39 #[.slice A q c, .slice Ab qb cb, .int .i64 (i : Int), .bool u] w (Post4 lo bs (0, 0) 4 w) := by
  have hbo : ∀ o, Below w.heap.size w (w.alloc o) := fun o => (Below.refl w.heap.size w).alloc (Nat.le_refl _) o
  have HBO := Lib.hid hbo
  have HB := Lib.hid hB
  obtain ⟨g, Au, cu, rfl, hat⟩ := hR.at_ hd
  have hin : i < q := by rw [hat.len]; exact (List.getElem?_eq_some_iff.1 hd).1
  have hmx := hat.max
  have hcp := hat.cap
  unfold maxLen at hmx
  have m0 : ∀ o, (w.alloc o).cell? ⟨g, i * 4, none⟩ = some (.int .i64 d.val) := fun o => ((hbo o).cell (p := ⟨g, i * 4, none⟩) hat.lt).trans hat.c0
  have m1 : ∀ o, (w.alloc o).cell? ⟨g, i * 4 + 1, none⟩ = some (.bool d.alive) := fun o => ((hbo o).cell (p := ⟨g, i * 4 + 1, none⟩) hat.lt).trans hat.c1
  have m2 : ∀ o, (w.alloc o).cell? ⟨g, i * 4 + 2, none⟩ = some (.int .i64 d.next) := fun o => ((hbo o).cell (p := ⟨g, i * 4 + 2, none⟩) hat.lt).trans hat.c2
  have m3 : ∀ o, (w.alloc o).cell? ⟨g, i * 4 + 3, none⟩ = some (.slice Au d.tags.length cu) := fun o => ((hbo o).cell (p := ⟨g, i * 4 + 3, none⟩) hat.lt).trans hat.c3
  obtain ⟨L, hL⟩ : ∃ L, L = d.tags.length := ⟨_, rfl⟩
  rw [← hL] at h1 hf m3
  obtain ⟨nx, hnx⟩ : ∃ nx, nx = d.next := ⟨_, rfl⟩
  rw [← hnx] at h2 h3 hf m2
  clear hR hB hd hat hbo hL hnx
  have hbx : ∀ (o1 o2 : Obj), Below w.heap.size w ((w.alloc o1).alloc o2) := fun o1 o2 => (HBO.out o1).alloc (by simp) o2
  have HBX := Lib.hid hbx
  have hcpy := l6Copy_any bs Ab qb cb _ (HB.out.below (hbx (.cells #[.int .i64 0, .int .i64 0] 30) (.cells #[.int .i64 d.val, .bool d.alive, .int .i64 nx, .slice Au L cu] 53))) hl
  obtain ⟨q1, q2, q3⟩ := heap2 w (.cells #[.int .i64 0, .int .i64 0] 30) (.cells #[.int .i64 d.val, .bool d.alive, .int .i64 nx, .slice Au L cu] 53)
  have HC := Lib.hid hcpy
  have HQ1 := Lib.hid q1
  have HQ3 := Lib.hid q3
  clear hbx hcpy q1 q2 q3
  by_cases h200 : L = 200
  · have t1 : ((L : Int) == 200) = true := by simp; omega
    clear hf h200
    go_enter Tryd.func39, Tryd.ntmps39
    go_wp2_with fail
    refine HC.out.mono ?_
    rintro E w1 ⟨v1, rfl, hR1, hb1⟩
    obtain ⟨A1, c1, hv1, -⟩ := hR1.form
    subst hv1
    rw [HQ3.out] at hR1 hb1
    have hX := (hb1.block w.heap.size (by omega)).trans HQ1.out
    have x0 : w1.cell? ⟨w.heap.size, 0, none⟩ = some (.int .i64 0) := (cell_of_block hX 0).trans rfl
    have x1 : w1.cell? ⟨w.heap.size, 1, none⟩ = some (.int .i64 0) := (cell_of_block hX 1).trans rfl
    have f0 := frozen_of_block hX 0
    have f1 := frozen_of_block hX 1
    have HR1 := Lib.hid (hR1.mono (show lo ≤ w.heap.size + 2 by omega))
    have hbb : Below w.heap.size w w1 := (HBX.out _ _).trans (hb1.mono (by omega))
    have hz1 := hb1.size
    rw [HQ3.out] at hz1
    have HR1k := Lib.hid hR1
    clear hR1 hb1 hX
    go_wp2_with fail
    refine bodyPost_ret (v := .tuple #[.slice A1 bs.length c1, .agg #[.int .i64 0, .int .i64 0], .int .i64 4]) (by simp [results, Tryd.results39, go_sem, x0, x1]) rfl ⟨_, _, _, rfl, ((HR1k.out.setLow (by omega)).setLow (by omega)).mono (by omega), ?_⟩
    exact ((hbb.setCell (Nat.le_refl _) _).setCell (Nat.le_refl _) _).mono hlo
  · have t1 : ((L : Int) == 200) = false := by simp; omega
    have t2 : ((nx : Int) == 1000) = true := by simp; omega
    clear hf h200
    go_enter Tryd.func39, Tryd.ntmps39
    go_wp2_with fail
    refine HC.out.mono ?_
    rintro E w1 ⟨v1, rfl, hR1, hb1⟩
    obtain ⟨A1, c1, hv1, -⟩ := hR1.form
    subst hv1
    rw [HQ3.out] at hR1 hb1
    have hX := (hb1.block w.heap.size (by omega)).trans HQ1.out
    have x0 : w1.cell? ⟨w.heap.size, 0, none⟩ = some (.int .i64 0) := (cell_of_block hX 0).trans rfl
    have x1 : w1.cell? ⟨w.heap.size, 1, none⟩ = some (.int .i64 0) := (cell_of_block hX 1).trans rfl
    have f0 := frozen_of_block hX 0
    have f1 := frozen_of_block hX 1
    have HR1 := Lib.hid (hR1.mono (show lo ≤ w.heap.size + 2 by omega))
    have hbb : Below w.heap.size w w1 := (HBX.out _ _).trans (hb1.mono (by omega))
    have hz1 := hb1.size
    rw [HQ3.out] at hz1
    have HR1k := Lib.hid hR1
    clear hR1 hb1 hX
    go_wp2_with fail
    refine bodyPost_ret (v := .tuple #[.slice A1 bs.length c1, .agg #[.int .i64 0, .int .i64 0], .int .i64 4]) (by simp [results, Tryd.results39, go_sem, x0, x1]) rfl ⟨_, _, _, rfl, ((HR1k.out.setLow (by omega)).setLow (by omega)).mono (by omega), ?_⟩
    exact ((hbb.setCell (Nat.le_refl _) _).setCell (Nat.le_refl _) _).mono hlo

set_option maxRecDepth 100000 in
set_option maxHeartbeats 4000000 in
theorem l6Push_ok (cs : List CellD) (A Ab : Option Addr) (q c qb cb i lo : Nat) (d : CellD) (u : Bool) (w : World) (hR : RowC w lo (.slice A q c) cs) (hlo : lo ≤ w.heap.size) (hd : cs[i]? = some d) (h2 : 1 ≤ d.next) (hf : d.tags.length < 200 ∧ d.next < 1000) :
    Calls Tryd.prog 39 #[.slice A q c, .slice Ab qb cb, .int .i64 (i : Int), .bool u] w (Post4 lo (cs.set i { d with tags := d.tags ++ [⟨d.next, u⟩], next := d.next + 1 }) (i, d.next) 0 w) := by
  have hbo : ∀ o, Below w.heap.size w (w.alloc o) := fun o => (Below.refl w.heap.size w).alloc (Nat.le_refl _) o
  have HBO := Lib.hid hbo
  have hR0 := hR
  obtain ⟨g, Au, cu, rfl, hat⟩ := hR.at_ hd
  have hin : i < q := by rw [hat.len]; exact (List.getElem?_eq_some_iff.1 hd).1
  have hmx := hat.max
  have hcp := hat.cap
  have hgl := hat.lt
  have hgb := hat.bg
  unfold maxLen at hmx
  have m0 : ∀ o, (w.alloc o).cell? ⟨g, i * 4, none⟩ = some (.int .i64 d.val) := fun o => ((hbo o).cell (p := ⟨g, i * 4, none⟩) hat.lt).trans hat.c0
  have m1 : ∀ o, (w.alloc o).cell? ⟨g, i * 4 + 1, none⟩ = some (.bool d.alive) := fun o => ((hbo o).cell (p := ⟨g, i * 4 + 1, none⟩) hat.lt).trans hat.c1
  have m2 : ∀ o, (w.alloc o).cell? ⟨g, i * 4 + 2, none⟩ = some (.int .i64 d.next) := fun o => ((hbo o).cell (p := ⟨g, i * 4 + 2, none⟩) hat.lt).trans hat.c2
  have m3 : ∀ o, (w.alloc o).cell? ⟨g, i * 4 + 3, none⟩ = some (.slice Au d.tags.length cu) := fun o => ((hbo o).cell (p := ⟨g, i * 4 + 3, none⟩) hat.lt).trans hat.c3
  obtain ⟨ts, hts⟩ : ∃ ts, ts = d.tags := ⟨_, rfl⟩
  obtain ⟨L, hL⟩ : ∃ L, L = ts.length := ⟨_, rfl⟩
  obtain ⟨nx, hnx⟩ : ∃ nx, nx = d.next := ⟨_, rfl⟩
  have hT := hat.tags
  rw [← hts] at hf m3 hT
  rw [← hL] at m3 hf hT
  rw [← hnx] at hf h2 m2
  have HTS := Lib.hid hts
  have HL := Lib.hid hL
  have HNX := Lib.hid hnx
  have HT := Lib.hid hT
  have HR0 := Lib.hid hR0
  have HD := Lib.hid hd
  obtain ⟨hf1, hf2⟩ := hf
  have t1 : ((L : Int) == 200) = false := by simp; omega
  have t2 : ((nx : Int) == 1000) = false := by simp; omega
  clear hR hR0 hd hat hbo hL hnx hts hT
  obtain ⟨q1, -, q3⟩ := heap2 w (.cells #[.int .i64 0, .int .i64 0] 30) (.cells #[.int .i64 d.val, .bool d.alive, .int .i64 nx, .slice Au L cu] 53)
  have hbx := (HBO.out (.cells #[.int .i64 0, .int .i64 0] 30)).alloc (by simp) (.cells #[.int .i64 d.val, .bool d.alive, .int .i64 nx, .slice Au L cu] 53)
  have HQ1 := Lib.hid q1
  have HQ3 := Lib.hid q3
  have HBX := Lib.hid hbx
  clear q1 q3 hbx
  go_enter Tryd.func39, Tryd.ntmps39
  go_wp2_with (at_builtin; refine wpList_append_tags rfl _ _ rfl rfl lo (.slice Au L cu) ts (.slice (some ⟨w.heap.size + 1 + 1, 0, none⟩) 1 1) [⟨nx, u⟩] rfl rfl ?rown ?rrd ?rl ?rB ?_)
  case rown => exact own_below (own_below HT.out HBX.out) ((Below.refl _ _).alloc (Nat.le_refl _) _)
  case rrd => exact tag_row nx u (by simp)
  case rl => rw [← HL.out]; simp; omega
  case rB => simp; omega
  intro v' w3 hR3 hg3 hv3
  generalize htl : ts ++ [(⟨nx, u⟩ : TagD)] = tl at hR3
  have HTL := Lib.hid htl
  clear htl
  obtain ⟨A', c', rfl, -, -, -⟩ := own_form hR3
  obtain ⟨W2, hW2⟩ : ∃ W2, W2 = ((w.alloc (.cells #[.int .i64 0, .int .i64 0] 30)).alloc (.cells #[.int .i64 d.val, .bool d.alive, .int .i64 nx, .slice Au L cu] 53)).alloc (.cells #[.int .i64 nx, .bool u] 84) := ⟨_, rfl⟩
  rw [← hW2] at hg3
  have hbW : Below w.heap.size w W2 := by rw [hW2]; exact HBX.out.alloc (by simp; omega) _
  have hzW : W2.heap.size = w.heap.size + 3 := by rw [hW2]; simp
  have hX2 : W2.heap[w.heap.size]? = some (.cells #[.int .i64 0, .int .i64 0] 30 (0, 0)) := by
    rw [hW2]
    exact (Below.heap_alloc _ _ _ (by simp; omega)).trans HQ1.out
  have hm3 : W2.cell? ⟨g, i * 4 + 3, none⟩ = some (.slice Au L cu) := (hbW.cell (p := ⟨g, i * 4 + 3, none⟩) hgl).trans ((HBO.out default |>.cell (p := ⟨g, i * 4 + 3, none⟩) hgl).symm.trans (m3 default))
  obtain ⟨g2, Au2, cu2, eg, hat2⟩ := (HR0.out.below hbW).at_ HD.out
  injection eg with eg
  injection eg with eg
  subst eg
  have heq := hat2.c3.symm.trans hm3
  injection heq with heq
  injection heq with ea el ec
  subst ea ec
  have hAu : ∀ k, (Value.slice Au2 L cu2).ownBlock = some k → k < w.heap.size := fun k hk => (World.ownsRow.lt HT.out k hk).2
  have hC3 := hat2.grow w3 (.slice A' tl.length c') tl (by rw [el]; exact hg3) hR3 (by
    rcases hv3 with e | e
    · exact .inl (by rw [el]; exact e)
    · exact .inr (by rw [e, hzW]))
  have hX3 := (hg3.block w.heap.size (by omega) (fun e => by have := hAu w.heap.size e.symm; omega)).trans hX2
  have y3 : w3.cell? ⟨g, i * 4 + 3, none⟩ = some (.slice Au2 L cu2) := (World.cell?_of_block (hg3.block g (by omega) fun e => by
    have h9 := ownBlock_row HT.out g e.symm
    obtain ⟨rs, _, hU⟩ := HR0.out
    obtain ⟨cur, hc⟩ := ownBlock_row hU.own g rfl
    obtain ⟨cur', hc'⟩ := h9
    rw [hc] at hc'
    injection hc' with hc'
    injection hc' with _ hc' _
    exact absurd hc' (by decide))).trans hm3
  have yf : ∀ o, w3.frozen? ⟨g, o, none⟩ = false := fun o => (World.frozen?_of_block (hg3.block g (by omega) fun e => by
    have h9 := ownBlock_row HT.out g e.symm
    obtain ⟨rs, _, hU⟩ := HR0.out
    obtain ⟨cur, hc⟩ := ownBlock_row hU.own g rfl
    obtain ⟨cur', hc'⟩ := h9
    rw [hc] at hc'
    injection hc' with hc'
    injection hc' with _ hc' _
    exact absurd hc' (by decide))).trans (hat2.fz o)
  obtain ⟨g4, Au4, cu4, eg4, hat4⟩ := hC3.at_ (i := i) (d := { d with tags := tl }) (by rw [List.getElem?_set_self (List.getElem?_eq_some_iff.1 HD.out).1])
  injection eg4 with eg4
  injection eg4 with eg4
  subst eg4
  have hC4 := hat4.put2 (nx + 1)
  rw [list_set_set] at hC4
  have z2 := hat4.c2
  rw [show (({ d with tags := tl } : CellD)).next = nx from HNX.out.symm] at z2
  have y3f := yf (i * 4 + 3)
  have y2f := hat4.fz (i * 4 + 2)
  have hX4 : ((w3.setCell ⟨g, i * 4 + 3, none⟩ (.slice A' tl.length c')).setCell ⟨g, i * 4 + 2, none⟩ (.int .i64 (nx + 1))).heap[w.heap.size]? = some (.cells #[.int .i64 0, .int .i64 0] 30 (0, 0)) :=
    (heap_set (by show w.heap.size ≠ g; omega)).trans ((heap_set (by show w.heap.size ≠ g; omega)).trans hX3)
  have b3 : Below lo w w3 := ((hbW.mono hlo).grown hg3 (by omega) (fun k hk => (World.ownsRow.lt HT.out k hk).1))
  have b4 : Below lo w ((w3.setCell ⟨g, i * 4 + 3, none⟩ (.slice A' tl.length c')).setCell ⟨g, i * 4 + 2, none⟩ (.int .i64 (nx + 1))) := (b3.setCell hgb _).setCell hgb _
  have x0 : ((w3.setCell ⟨g, i * 4 + 3, none⟩ (.slice A' tl.length c')).setCell ⟨g, i * 4 + 2, none⟩ (.int .i64 (nx + 1))).cell? ⟨w.heap.size, 0, none⟩ = some (.int .i64 0) := (cell_of_block hX4 0).trans rfl
  have x1 : ((w3.setCell ⟨g, i * 4 + 3, none⟩ (.slice A' tl.length c')).setCell ⟨g, i * 4 + 2, none⟩ (.int .i64 (nx + 1))).cell? ⟨w.heap.size, 1, none⟩ = some (.int .i64 0) := (cell_of_block hX4 1).trans rfl
  have f0 := frozen_of_block hX4 0
  have f1 := frozen_of_block hX4 1
  have HC4 : Hid (RowC ((w3.setCell ⟨g, i * 4 + 3, none⟩ (.slice A' tl.length c')).setCell ⟨g, i * 4 + 2, none⟩ (.int .i64 (nx + 1))) lo (.slice (some ⟨g, 0, none⟩) q c) (cs.set i { d with tags := d.tags ++ [⟨d.next, u⟩], next := d.next + 1 })) := by
    rw [← HTS.out, ← HNX.out, HTL.out]
    exact hC4
  have HX4 := Lib.hid hX4
  have HB4 := Lib.hid b4
  clear hg3 hR3 hv3 hC3 hC4 hat4 hat2 hX3 hX4 yf b3 b4 hX2 hAu hm3 m0 m1 m2 m3 hbW hzW el hW2
  go_wp2_with fail
  refine bodyPost_ret (v := .tuple #[.slice (some ⟨g, 0, none⟩) q c, .agg #[.int .i64 (i : Int), .int .i64 nx], .int .i64 0]) (by simp [results, Tryd.results39, go_sem, x0, x1]) rfl ⟨_, _, _, by rw [HNX.out], ?_, ?_⟩
  · refine RowC.setType (RowC.setType HC4.out HX4.out (by decide) (by decide)) (block_set HX4.out 0 _) (by decide) (by decide)
  · exact (HB4.out.setCell (by show lo ≤ w.heap.size; exact hlo) _).setCell (by show lo ≤ w.heap.size; exact hlo) _

end Go.Proofs.YtnneamfndokleaaDoor
