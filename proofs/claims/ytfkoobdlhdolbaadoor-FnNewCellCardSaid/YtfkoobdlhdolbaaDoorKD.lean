/-
  The model's draw of a memory and a pointer.
-/
import Derived.Test.YtfkoobdlhdolbaaDoorKC
import Derived.Test.YtfkoobdlhdolbaaDoorCelP
import Derived.Deep.RegionLaw
namespace Go.Proofs.YtfkoobdlhdolbaaDoor
open Go.RowKit Go.Deep
set_option linter.unusedVariables false

theorem RowT.one {w w' : World} {B g : Nat} {v : Value} {ts : List TagD} (h : RowT w B v ts) (hO : One g w w') (hg : g < B) : RowT w' B v ts := own_keep h fun k hk => hO.block k (by have := (World.ownsRow.lt h k hk).1; omega)

abbrev MutK (p : Addr) (u : Value) (w : World) : Prop := w.cell? p = some u ∧ w.frozen? p = false

theorem mutK_below {p : Addr} {u : Value} {w w' : World} (h : MutK p u w) (hb : Below w.heap.size w w') : MutK p u w' :=
  ⟨(hb.cell (World.block_lt_of_cell? w _ h.1)).trans h.1, (hb.frozen (World.block_lt_of_cell? w _ h.1)).trans h.2⟩

theorem mutK_one {p : Addr} {u : Value} {w w' : World} {g : Nat} (h : MutK p u w) (ho : One g w w') (hg : p.block ≠ g) : MutK p u w' :=
  ⟨(World.cell?_of_block (ho.block p.block hg)).trans h.1, (ho.frozen p).trans h.2⟩

theorem mutK_far {p : Addr} {u : Value} {w w' : World} {row : Option Nat} (h : MutK p u w) (hg : w.grownBy w' row) (hn : some p.block ≠ row) : MutK p u w' :=
  ⟨(hg.cell_far _ (World.block_lt_of_cell? w _ h.1) hn).trans h.1, by
    unfold World.frozen?
    rw [hg.block p.block (World.block_lt_of_cell? w _ h.1) hn]
    exact h.2⟩

theorem RowC.at2 {w : World} {B n c i : Nat} {A : Option Addr} {cs : List CellD} {d : CellD} (h : RowC w B (.slice A n c) cs) (hd : cs[i]? = some d) : ∃ g Au cu, A = some ⟨g, 0, none⟩ ∧ CellAt w B g n c i cs d Au cu ∧ some g ≠ (Value.slice Au d.tags.length cu).ownBlock := by
  obtain ⟨rs, hrs, hU⟩ := h
  obtain ⟨Ar, Cr, u, rfl, hl⟩ := mem_mid hrs hd
  have hlen : (Ar ++ (d, u) :: Cr).length = cs.length := by rw [← hrs, List.length_map]
  obtain ⟨A', c', e1, k1, k2, e2⟩ := own_form hU.own
  injection e1 with e3 e4 e5
  subst e3 e5
  have hn : n = cs.length := by omega
  obtain ⟨g, rfl, h1, h2⟩ := e2 (by simp; omega)
  have hlen2 : (Ar ++ (d, u) :: Cr).length = n := by omega
  obtain ⟨s0, s1, s2, s3, sf, hT, hng⟩ := hU.cells4 hlen2
  obtain ⟨Au, cu, eu, _, _, _⟩ := own_form hT
  simp only at eu
  subst eu
  have hp0 : ∀ x, _ := fun x => (hU.put hlen2 { d with val := x } 0 (.int .i64 x) (by omega) rfl rfl).1
  have hp1 : ∀ x, _ := fun x => (hU.put hlen2 { d with alive := x } 1 (.bool x) (by omega) rfl rfl).1
  have hp2 : ∀ x, _ := fun x => (hU.put hlen2 { d with next := x } 2 (.int .i64 x) (by omega) rfl rfl).1
  have hp3 := fun (w' : World) (v' : Value) (ts : List TagD) a b c => hU.regrow (w' := w') (v' := v') (ts := ts) hlen2 a b c
  rw [hl] at s0 s1 s2 s3 hp0 hp1 hp2 hp3
  exact ⟨g, Au, cu, rfl, ⟨h1, h2, hn, by omega, k2, s0, s1, s2, s3, sf, hT, fun x => ⟨_, mid_set hrs hl, hp0 x⟩, fun x => ⟨_, mid_set hrs hl, hp1 x⟩, fun x => ⟨_, mid_set hrs hl, hp2 x⟩, fun w' v' ts a b c => ⟨_, mid_set hrs hl, hp3 w' v' ts a b c⟩⟩, fun e => hng e.symm⟩

theorem tags_le {cs : List CellD} {i : Nat} {d : CellD} (h : cs[i]? = some d) : d.tags.length ≤ tagSum cs := by
  have h9 := tagSum_take_le cs (i + 1)
  rw [take_snoc h, tagSum_snoc] at h9
  omega

theorem own_one_ {w w' : World} {B size n g : Nat} {e : TypeId} {v : Value} {xs : List Value} (h : w.ownsRow B e size v n xs) (hO : One g w w') (hg : g < B) : w'.ownsRow B e size v n xs := own_keep h fun k hk => hO.block k (by have := (World.ownsRow.lt h k hk).1; omega)

theorem RowT.below_ {w w' : World} {B : Nat} {v : Value} {ts : List TagD} (h : RowT w B v ts) (hb : Below w.heap.size w w') : RowT w' B v ts := own_below h hb

/-- Of what was, block R changed at most. -/
structure But (R : Nat) (w w' : World) : Prop where
  os : w'.os = w.os
  tape : w'.tape = w.tape
  output : w'.output = w.output
  size : w.heap.size ≤ w'.heap.size
  block : ∀ k, k < w.heap.size → k ≠ R → w'.heap[k]? = w.heap[k]?

theorem But.trans {R : Nat} {a b c : World} (h : But R a b) (k : But R b c) : But R a c :=
  ⟨k.os.trans h.os, k.tape.trans h.tape, k.output.trans h.output, Nat.le_trans h.size k.size, fun i hi hn => (k.block i (Nat.lt_of_lt_of_le hi h.size) hn).trans (h.block i hi hn)⟩

theorem But.of_below {R B : Nat} {a b : World} (h : Below B a b) (hB : a.heap.size ≤ B) : But R a b := ⟨h.os, h.tape, h.output, h.size, fun k hk _ => h.block k (by omega)⟩

theorem But.of_one {R : Nat} {a b : World} (h : One R a b) : But R a b := ⟨h.os, h.tape, h.output, Nat.le_of_eq h.size.symm, fun k _ hn => h.block k hn⟩

theorem But.drew {R : Nat} {a b : World} (h : But R a b) : But R a b.drew := ⟨h.os, h.tape, h.output, h.size, h.block⟩

theorem But.setCell {R : Nat} {a b : World} (h : But R a b) {g o : Nat} (hg : a.heap.size ≤ g) (x : Value) : But R a (b.setCell ⟨g, o, none⟩ x) :=
  ⟨h.os, h.tape, h.output, by simpa [World.setCell] using h.size, fun k hk hn => (Below.heap_setCell b ⟨g, o, none⟩ x k (by show k ≠ g; omega)).trans (h.block k hk hn)⟩

theorem But.grown {R : Nat} {a b c : World} {row : Option Nat} (h : But R a b) (hg : b.grownBy c row) (hr : ∀ k, row = some k → a.heap.size ≤ k) : But R a c :=
  ⟨hg.os.trans h.os, hg.tape.trans h.tape, hg.output.trans h.output, Nat.le_trans h.size hg.size, fun k hk hn => (hg.block k (Nat.lt_of_lt_of_le hk h.size) (fun e => by have := hr k e.symm; omega)).trans (h.block k hk hn)⟩

theorem But.below {R : Nat} {a b : World} (h : But R a b) (hR : R ≤ a.heap.size) : Below R a b := ⟨h.os, h.tape, h.output, h.size, fun k hk => h.block k (by omega) (by omega)⟩

/-- What bending leaves. -/
def MutP (R P : Nat) (cs : List CellD) (w : World) (E : Ending) (w' : World) : Prop := ∃ (cs' : List CellD) (A : Option Addr) (c : Nat), E = .returned (.slice A cs'.length c) ∧ RowC w' w.heap.size (.slice A cs'.length c) cs' ∧ cs'.length = cs.length ∧ tagSum cs' ≤ tagSum cs + 1 ∧ SrcV w' R (P + 3) ∧ But R w w'

set_option maxRecDepth 100000 in
set_option maxHeartbeats 400000 in
theorem l6Mutate_any (R P : Nat) (cs : List CellD) (A : Option Addr) (q c : Nat) (w : World) (h : SrcV w R P) (hP : P ≤ 10000) (hm : RdC w (.slice A q c) cs) (h1 : 1 ≤ cs.length) (hsz : cs.length + tagSum cs ≤ 1000) :
    Calls Tryd.prog 73 #[.pointer (some ⟨R, 0, none⟩), .slice A q c] w (MutP R P cs w) := by
  have hRl := h.lt
  obtain ⟨i0, hi, hz0, hz1, hz2⟩ := info_parts Tryd.infoTag
  have HI := Lib.hid hi
  have HZ0 := Lib.hid hz0
  have HZ1 := Lib.hid hz1
  have HZ2 := Lib.hid hz2
  have HC := Lib.hid (l6Copy_any cs A q c w hm (by omega))
  have HSRC := Lib.hid h
  clear hi hz0 hz1 hz2 h hm
  go_enter Tryd.func73, Tryd.ntmps73
  go_wp2_with fail
  refine HC.out.mono ?_
  rintro E w1 ⟨v1, rfl, hr1, hb1⟩
  obtain ⟨A1, c1, rfl, hc1, hc2⟩ := hr1.form
  have hz1 := hb1.size
  obtain ⟨N, hN⟩ : ∃ N, cs.length = N := ⟨_, rfl⟩
  have HN := Lib.hid hN
  have hpk := pick_any R P (N : Int) w1 (by omega) (by omega) (HSRC.out.below hb1) (by omega)
  rw [hN] at hr1 h1 hsz hc1 ⊢
  have HPK := Lib.hid hpk
  have HR1 := Lib.hid hr1
  have HB1 := Lib.hid hb1
  clear hN hpk hr1 hb1 HC
  go_wp2_with fail
  refine HPK.out.mono ?_
  rintro E w2 ⟨k, hk, rfl, hs2, ho2⟩
  have hkN : k < N := by omega
  have hr2 := HR1.out.one ho2 hRl
  have hb2 := (But.of_below HB1.out (Nat.le_refl _)).trans (But.of_one ho2)
  have hz2 := Nat.le_of_eq ho2.size
  have hz2' := Nat.le_of_eq ho2.size.symm
  have HPK2 := Lib.hid (pick_any R (P + 1) 24 w2 (by omega) (by omega) hs2 (by omega))
  have HR2 := Lib.hid hr2
  have HB2 := Lib.hid hb2
  clear hs2 ho2 hr2 hb2 HPK HR1 HB1 HSRC hk
  go_wp2_with fail
  refine HPK2.out.mono ?_
  rintro E w3 ⟨u, hu, rfl, hs3, ho3⟩
  have hr3 := HR2.out.one ho3 hRl
  have hb3 := HB2.out.trans (But.of_one ho3)
  have hz3 := Nat.le_of_eq ho3.size
  have hz3' := Nat.le_of_eq ho3.size.symm
  obtain ⟨d, hd⟩ : ∃ d, cs[k]? = some d := ⟨cs[k]'(by rw [HN.out]; exact hkN), List.getElem?_eq_getElem _⟩
  have HD := Lib.hid hd
  obtain ⟨g, Au, cu, rfl, hat, hng⟩ := hr3.at2 hd
  have HNG := Lib.hid hng
  have HS3 := Lib.hid hs3
  have HB3 := Lib.hid hb3
  have HR3 := Lib.hid hr3
  have hmx := hat.max
  have hcp := hat.cap
  unfold maxLen at hmx hc2
  have HAT := Lib.hid hat
  have hset : ∀ d' : CellD, d'.tags.length ≤ d.tags.length + 1 → (cs.set k d').length = N ∧ tagSum (cs.set k d') ≤ tagSum cs + 1 := fun d' h => ⟨by rw [List.length_set]; exact HN.out, tagSum_set1 HD.out h⟩
  have HSET := Lib.hid hset
  clear hs3 ho3 hr3 hb3 hd hat hset hng HPK2 HR2 HB2
  have hu6 : u = 0 ∨ u = 1 ∨ u = 2 ∨ u = 3 ∨ u = 4 ∨ 5 ≤ u := by omega
  rcases hu6 with rfl | rfl | rfl | rfl | rfl | hu5
  · have hba := (Below.refl w3.heap.size w3).alloc (Nat.le_refl _) (.cells #[.int .i64 10, .int .i64 (-1), .int .i64 3] 3)
    have hna := heap_alloc_new w3 (.cells #[.int .i64 10, .int .i64 (-1), .int .i64 3] 3)
    have hNM := num_any R (P + 1 + 1) w3.heap.size [10, -1, 3] (w3.alloc (.cells #[.int .i64 10, .int .i64 (-1), .int .i64 3] 3)) hna (by omega) (by decide) (by decide) (HS3.out.below hba) (by omega)
    have HNM := Lib.hid hNM
    have HBA := Lib.hid hba
    clear hNM hna hba
    go_wp2_with fail
    refine HNM.out.mono ?_
    rintro E w4 ⟨v4, -, rfl, hs4, ho4⟩
    have hr4 := (HR3.out.below HBA.out).one ho4 hRl
    obtain ⟨g4, Au4, cu4, e4, hat4⟩ := hr4.at_ HD.out
    injection e4 with e4
    injection e4 with e4
    subst e4
    have k0 := hat4.c0
    have kf := hat4.fz (k * 4)
    have HP := Lib.hid (hat4.put0 v4)
    have hgb := hat4.bg
    have hbb := (HB3.out.trans (But.of_below HBA.out (Nat.le_refl _))).trans (But.of_one ho4)
    have HSF := Lib.hid (hs4.one (((One.refl g w4).set (k * 4) (.int .i64 v4))) (by omega))
    have HBB := Lib.hid (hbb.setCell (g := g) (o := k * 4) (by omega) (.int .i64 v4))
    clear hat4 hs4 ho4 hr4 hbb HNM
    go_wp2_with fail
    go_ret
    have q1 := HSET.out { d with val := v4 } (by simp)
    exact ⟨_, _, c1, by rw [q1.1]; rfl, by rw [q1.1]; exact HP.out, by rw [q1.1, HN.out], q1.2, HSF.out.more (by omega), HBB.out⟩
  · have hba := (Below.refl w3.heap.size w3).alloc (Nat.le_refl _) (.cells #[] 35)
    have k0 := (hba.cell (p := ⟨g, k * 4 + 3, none⟩) HAT.out.lt).trans HAT.out.c3
    have kf := (hba.frozen (p := ⟨g, k * 4 + 3, none⟩) HAT.out.lt).trans (HAT.out.fz (k * 4 + 3))
    have HP := Lib.hid (HAT.out.grow (w3.alloc (.cells #[] 35)) (.slice (some ⟨w3.heap.size, 0, none⟩) 0 0) [] (World.grownBy_alloc w3 _ _) (own_empty rfl (by omega)) (.inr rfl))
    have hsw := World.setCell_alloc_past (w := w3) (.cells #[] 35) g (k * 4 + 3) (.slice (some ⟨w3.heap.size, 0, none⟩) 0 0) HAT.out.lt
    rw [hsw] at HP
    have hgb := HAT.out.bg
    have hgl := HAT.out.lt
    have HSF := Lib.hid ((HS3.out.below hba).one (((One.refl g _).set (k * 4 + 3) (.slice (some ⟨w3.heap.size, 0, none⟩) 0 0))) (by omega))
    have HBB := Lib.hid ((HB3.out.trans (But.of_below hba (Nat.le_refl _))).setCell (g := g) (o := k * 4 + 3) (by omega) (.slice (some ⟨w3.heap.size, 0, none⟩) 0 0))
    rw [hsw] at HSF HBB
    clear hba hsw
    go_wp2_with fail
    go_ret
    have q1 := HSET.out { d with tags := [] } (by simp)
    exact ⟨_, _, c1, by rw [q1.1]; rfl, by rw [q1.1]; exact HP.out, by rw [q1.1, HN.out], q1.2, HSF.out.more (by omega), HBB.out⟩
  · obtain ⟨L, hL⟩ : ∃ L, d.tags.length = L := ⟨_, rfl⟩
    have hk0 : MutK ⟨g, k * 4 + 3, none⟩ (.slice Au L cu) w3 := ⟨by rw [← hL]; exact HAT.out.c3, HAT.out.fz _⟩
    have htg : RowT w3 w.heap.size (.slice Au L cu) d.tags := by rw [← hL]; exact HAT.out.tags
    have hLb : L ≤ 1000 := by have := tags_le HD.out; omega
    have hgb := HAT.out.bg
    have hgl := HAT.out.lt
    have hnb : some g ≠ (Value.slice Au L cu).ownBlock := by have := HNG.out; rwa [hL] at this
    have HTG : Hid (w3.ownsRow w.heap.size 35 2 (.slice Au L cu) L (d.tags.flatMap TagD.cells)) := by show World.ownsRow _ _ _ _ _ _ _; unfold RowT at htg; rwa [hL] at htg
    have HNB := Lib.hid hnb
    have HLL := Lib.hid hL
    have hgR : g ≠ R := by omega
    clear htg hnb hL
    go_upto_region 9 with fail
    refine wp_region_held_drew (S := fun _ => True) (by kernel_rfl) trivial (fun hHeld => ?_)
    have HK := Lib.hid (show MutK ⟨g, k * 4 + 3, none⟩ (.slice Au L cu) w3.drew from hk0)
    replace HTG := Lib.hid (own_below HTG.out ((Below.refl w3.heap.size w3).drew))
    have HROW := Lib.hid (HR3.out.below ((Below.refl w3.heap.size w3).drew))
    have HSR := Lib.hid (HS3.out.below ((Below.refl w3.heap.size w3).drew))
    have HBEL := Lib.hid HB3.out.drew
    have hzd : w3.heap.size ≤ w3.drew.heap.size := Nat.le_refl _
    have hzd2 : w3.drew.heap.size ≤ w3.heap.size := Nat.le_refl _
    clear hk0
    generalize w3.drew = wd at *
    refine wpAnyH_take (i := 0) (oi := ⟨_, _, _, _, _, _⟩) (v := .slice (some ⟨g, 0, none⟩) N c1) rfl (by kernel_rfl) (by kernel_rfl) (by kernel_rfl) (fun _ _ _ h => h) (Or.inl ⟨by rfl, fun w hSw => by go_simp⟩) hHeld ?_
    try simp only [Act.put, List.setIfInBounds_toArray, List.set_cons_zero, List.set_cons_succ]
    refine wpAnyH_take (i := 1) (oi := ⟨_, _, _, _, _, _⟩) (v := .int .i64 (k : Int)) rfl (by kernel_rfl) (by kernel_rfl) (by kernel_rfl) (fun _ _ _ h => h) (Or.inl ⟨by rfl, fun w hSw => by go_simp⟩) hHeld ?_
    try simp only [Act.put, List.setIfInBounds_toArray, List.set_cons_zero, List.set_cons_succ]
    refine wpAnyH_take (i := 2) (oi := ⟨_, _, _, _, _, _⟩) (v := .slice (some ⟨g, 0, none⟩) N c1) rfl (by kernel_rfl) (by kernel_rfl) (by kernel_rfl) (fun _ _ _ h => h) (Or.inl ⟨by rfl, fun w hSw => by go_simp⟩) hHeld ?_
    try simp only [Act.put, List.setIfInBounds_toArray, List.set_cons_zero, List.set_cons_succ]
    refine wpAnyH_take (i := 3) (oi := ⟨_, _, _, _, _, _⟩) (v := .int .i64 (k : Int)) rfl (by kernel_rfl) (by kernel_rfl) (by kernel_rfl) (fun _ _ _ h => h) (Or.inl ⟨by rfl, fun w hSw => by go_simp⟩) hHeld ?_
    try simp only [Act.put, List.setIfInBounds_toArray, List.set_cons_zero, List.set_cons_succ]
    refine wpAnyH_take (i := 4) (oi := ⟨_, _, _, _, _, _⟩) (v := .pointer (some ⟨g, k * 4, none⟩)) rfl (by kernel_rfl) (by kernel_rfl) (by kernel_rfl) (fun _ _ _ h => h) (Or.inl ⟨by rfl, fun w hSw => by go_simp⟩) hHeld ?_
    try simp only [Act.put, List.setIfInBounds_toArray, List.set_cons_zero, List.set_cons_succ]
    refine wpAnyH_take (i := 5) (oi := ⟨_, _, _, _, _, _⟩) (v := .pointer (some ⟨g, k * 4 + 3, none⟩)) rfl (by kernel_rfl) (by kernel_rfl) (by kernel_rfl) (fun _ _ _ h => h) (Or.inl ⟨by rfl, fun w hSw => by go_simp⟩) hHeld ?_
    try simp only [Act.put, List.setIfInBounds_toArray, List.set_cons_zero, List.set_cons_succ]
    refine wpAnyH_take (i := 7) (oi := ⟨_, _, _, _, _, _⟩) (v := .pointer (some ⟨R, 0, none⟩)) rfl (by kernel_rfl) (by kernel_rfl) (by kernel_rfl) (fun _ _ _ h => h) (Or.inl ⟨by rfl, fun w hSw => by go_simp⟩) hHeld ?_
    try simp only [Act.put, List.setIfInBounds_toArray, List.set_cons_zero, List.set_cons_succ]
    refine wpAnyH_ready (rs := [6, 8]) (by kernel_rfl) (by simp) ?_
    refine AllReadyH.cons (o := ⟨_, _, _, _, _, _⟩) rfl (fun K hK => ?_) ?_
    · skip
      have h9 := HK.out.1
      go_simp
      refine hK.out _ _ trivial (fun hHeld => ?_)
      clear hK K h9
      refine wpAnyH_ready (rs := [8]) (by kernel_rfl) (by simp) ?_
      refine AllReadyH.cons (o := ⟨_, _, _, _, _, _⟩) rfl (fun K hK => ?_) AllReadyH.nil
      go_simp
      have hna := heap_alloc_new wd (.cells #[.int .i64 0, .int .i64 (-1), .int .i64 9, .int .i64 1001] 3)
      have hbo := (Below.refl wd.heap.size wd).alloc (Nat.le_refl _) (.cells #[.int .i64 0, .int .i64 (-1), .int .i64 9, .int .i64 1001] 3)
      have hzo := Nat.le_of_eq (show (wd.alloc (.cells #[.int .i64 0, .int .i64 (-1), .int .i64 9, .int .i64 1001] 3)).heap.size = wd.heap.size + 1 by simp)
      have hzo2 := Nat.le_of_eq (show wd.heap.size + 1 = (wd.alloc (.cells #[.int .i64 0, .int .i64 (-1), .int .i64 9, .int .i64 1001] 3)).heap.size by simp)
      refine hK.out _ _ trivial (fun hHeld => ?_)
      replace HK := Lib.hid (mutK_below HK.out hbo)
      replace HTG := Lib.hid (own_below HTG.out hbo)
      replace HROW := Lib.hid (HROW.out.below hbo)
      replace HSR := Lib.hid (HSR.out.below hbo)
      replace HBEL := Lib.hid (HBEL.out.trans (But.of_below hbo (Nat.le_refl _)))
      obtain ⟨wa, hwa⟩ : ∃ z, wd.alloc (.cells #[.int .i64 0, .int .i64 (-1), .int .i64 9, .int .i64 1001] 3) = z := ⟨_, rfl⟩
      rw [hwa] at hna hzo hzo2 HK HTG HROW HSR HBEL ⊢
      have HNA := Lib.hid hna
      clear hna hbo hwa hK K
      refine wpAnyH_ready (rs := [9]) (by kernel_rfl) (by simp) ?_
      refine AllReadyH.cons (o := ⟨_, _, _, _, _, _⟩) rfl (fun K hK => ?_) AllReadyH.nil
      go_simp
      have hNM : Calls Tryd.prog 51 #[.pointer (some ⟨R, 0, none⟩), .slice (some ⟨wd.heap.size, 0, none⟩) 4 4] wa _ := num_any R (P + 1 + 1) wd.heap.size [0, -1, 9, 1001] wa HNA.out (by omega) (by decide) (by decide) HSR.out (by omega)
      refine hNM.mono ?_
      rintro E w5 ⟨v5, -, rfl, hs5, ho5⟩
      clear hNM
      have hz5 := Nat.le_of_eq ho5.size.symm
      have hz5b := Nat.le_of_eq ho5.size
      refine hK.out _ _ trivial (fun hHeld => ?_)
      replace HK := Lib.hid (mutK_one HK.out ho5 hgR)
      replace HTG := Lib.hid (own_one_ HTG.out ho5 hRl)
      replace HROW := Lib.hid (HROW.out.one ho5 hRl)
      replace HBEL := Lib.hid (HBEL.out.trans (But.of_one ho5))
      replace HSR := Lib.hid hs5
      clear hs5 ho5 hK K HNA
      refine wpAnyH_take (i := 10) (oi := ⟨_, _, _, _, _, _⟩) (v := .agg #[.int .i64 v5, .bool false]) rfl (by kernel_rfl) (by kernel_rfl) (by kernel_rfl) (fun _ _ _ h => h) (Or.inl ⟨by rfl, fun w hSw => by go_simp⟩) hHeld ?_
      try simp only [Act.put, List.setIfInBounds_toArray, List.set_cons_zero, List.set_cons_succ]
      refine wpAnyH_ready (rs := [11]) (by kernel_rfl) (by simp) ?_
      refine AllReadyH.cons (o := ⟨_, _, _, _, _, _⟩) rfl (fun K hK => ?_) AllReadyH.nil
      go_simp
      have hnb := heap_alloc_new w5 (.cells #[.int .i64 v5, .bool false] 35)
      have hbo := (Below.refl w5.heap.size w5).alloc (Nat.le_refl _) (.cells #[.int .i64 v5, .bool false] 35)
      have hzo3 := Nat.le_of_eq (show (w5.alloc (.cells #[.int .i64 v5, .bool false] 35)).heap.size = w5.heap.size + 1 by simp)
      have hzo4 := Nat.le_of_eq (show w5.heap.size + 1 = (w5.alloc (.cells #[.int .i64 v5, .bool false] 35)).heap.size by simp)
      refine hK.out _ _ trivial (fun hHeld => ?_)
      replace HK := Lib.hid (mutK_below HK.out hbo)
      replace HTG := Lib.hid (own_below HTG.out hbo)
      replace HROW := Lib.hid (HROW.out.below hbo)
      replace HSR := Lib.hid (HSR.out.below hbo)
      replace HBEL := Lib.hid (HBEL.out.trans (But.of_below hbo (Nat.le_refl _)))
      obtain ⟨wb, hwb⟩ : ∃ z, w5.alloc (.cells #[.int .i64 v5, .bool false] 35) = z := ⟨_, rfl⟩
      rw [hwb] at hnb hzo3 hzo4 HK HTG HROW HSR HBEL ⊢
      have HNEW := Lib.hid hnb
      clear hnb hbo hwb hK K
      refine wpAnyH_ready (rs := [12]) (by kernel_rfl) (by simp) ?_
      refine AllReadyH.cons (o := ⟨_, _, _, _, _, _⟩) rfl (fun K hK => ?_) AllReadyH.nil
      refine step_append_lies _ rfl _ _ _ rfl w.heap.size 35 i0 (.agg #[.int .i64 0, .bool false]) 2 16 Tryd.underlying31 HI.out HZ0.out HZ1.out HZ2.out rfl (by decide) (.slice Au L cu) L (d.tags.flatMap TagD.cells) rfl HTG.out ⟨w5.heap.size, 0, none⟩ 1 1 [.int .i64 v5, .bool false] rfl rfl (World.news_of_block (cs := #[.int .i64 v5, .bool false]) HNEW.out) (by intro u9 hu9; simp only [List.mem_cons, List.not_mem_nil, or_false] at hu9; rcases hu9 with rfl | rfl <;> rfl) (by decide) (by unfold maxLen; omega) (by omega) (by omega) _ rfl ?_
      intro g5 cap w6 hown6 hgr6 hat6 hlt6
      refine hK.out _ _ trivial (fun hHeld => ?_)
      have HOWN6 := Lib.hid hown6
      have HGR6 := Lib.hid hgr6
      have HAT6 := Lib.hid hat6
      have hz6 := hgr6.size
      clear hown6 hgr6 hat6 hlt6 hK K
      refine wpAnyH_take (i := 13) (oi := ⟨_, _, _, _, _, _⟩) (v := .pointer (some ⟨g, k * 4, none⟩)) rfl (by kernel_rfl) (by kernel_rfl) (by kernel_rfl) (fun _ _ _ h => h) (Or.inl ⟨by rfl, fun w hSw => by go_simp⟩) hHeld ?_
      try simp only [Act.put, List.setIfInBounds_toArray, List.set_cons_zero, List.set_cons_succ]
      refine wpAnyH_take (i := 14) (oi := ⟨_, _, _, _, _, _⟩) (v := .pointer (some ⟨g, k * 4 + 3, none⟩)) rfl (by kernel_rfl) (by kernel_rfl) (by kernel_rfl) (fun _ _ _ h => h) (Or.inl ⟨by rfl, fun w hSw => by go_simp⟩) hHeld ?_
      try simp only [Act.put, List.setIfInBounds_toArray, List.set_cons_zero, List.set_cons_succ]
      refine wpAnyH_ready (rs := [15]) (by kernel_rfl) (by simp) ?_
      refine AllReadyH.cons (o := ⟨_, _, _, _, _, _⟩) rfl (fun K hK => ?_) AllReadyH.nil
      have hK6 := mutK_far HK.out HGR6.out HNB.out
      obtain ⟨k0, kf⟩ := hK6
      go_simp
      refine hK.out _ _ trivial (fun hHeld => ?_)
      clear hK K k0 kf
      refine wpAnyH_done (by kernel_rfl) ?_ _
      have hro : ∀ q, (Value.slice Au L cu).ownBlock = some q → w.heap.size ≤ q := fun q hq => (World.ownsRow.lt HTG.out q hq).1
      obtain ⟨g2, Au2, cu2, e2, hat2, -⟩ := HROW.out.at2 HD.out
      injection e2 with e2
      injection e2 with e2
      subst e2
      have hc3 := hat2.c3.symm.trans HK.out.1
      rw [HLL.out] at hc3
      injection hc3 with hc3
      injection hc3 with e3 _ e4
      subst e3 e4
      have hrt : RowT w6 w.heap.size (.slice (some ⟨g5, 0, none⟩) (L + 1) cap) (d.tags ++ [⟨v5, false⟩]) := by unfold RowT; rw [List.length_append, List.flatMap_append, HLL.out]; exact HOWN6.out
      have hP := hat2.grow w6 (.slice (some ⟨g5, 0, none⟩) (L + 1) cap) (d.tags ++ [⟨v5, false⟩]) (by rw [HLL.out]; exact HGR6.out) hrt (by rw [HLL.out]; exact HAT6.out.elim (fun h => .inl h.symm) (fun h => .inr (congrArg some h)))
      have hsf := ((HSR.out.grown HGR6.out (fun q hq => by have := hro q hq; omega)).one ((One.refl g w6).set (k * 4 + 3) (.slice (some ⟨g5, 0, none⟩) (L + 1) cap)) (by omega))
      have hbf := (HBEL.out.grown HGR6.out hro).setCell (g := g) (o := k * 4 + 3) (by omega) (.slice (some ⟨g5, 0, none⟩) (L + 1) cap)
      have HP := Lib.hid hP
      have HSF := Lib.hid hsf
      have HBF := Lib.hid hbf
      clear hP hsf hbf hrt hat2 hro hHeld
      generalize w6.setCell ⟨g, k * 4 + 3, none⟩ (.slice (some ⟨g5, 0, none⟩) (L + 1) cap) = w7 at *
      go_wp2_with fail
      go_ret
      have q1 := HSET.out { d with tags := d.tags ++ [⟨v5, false⟩] } (by simp)
      exact ⟨_, _, c1, by rw [q1.1]; rfl, by rw [q1.1]; exact HP.out, by rw [q1.1, HN.out], q1.2, HSF.out.more (by omega), HBF.out⟩
    refine AllReadyH.cons (o := ⟨_, _, _, _, _, _⟩) rfl (fun K hK => ?_) AllReadyH.nil
    go_simp
    have hna := heap_alloc_new wd (.cells #[.int .i64 0, .int .i64 (-1), .int .i64 9, .int .i64 1001] 3)
    have hbo := (Below.refl wd.heap.size wd).alloc (Nat.le_refl _) (.cells #[.int .i64 0, .int .i64 (-1), .int .i64 9, .int .i64 1001] 3)
    have hzo := Nat.le_of_eq (show (wd.alloc (.cells #[.int .i64 0, .int .i64 (-1), .int .i64 9, .int .i64 1001] 3)).heap.size = wd.heap.size + 1 by simp)
    have hzo2 := Nat.le_of_eq (show wd.heap.size + 1 = (wd.alloc (.cells #[.int .i64 0, .int .i64 (-1), .int .i64 9, .int .i64 1001] 3)).heap.size by simp)
    refine hK.out _ _ trivial (fun hHeld => ?_)
    replace HK := Lib.hid (mutK_below HK.out hbo)
    replace HTG := Lib.hid (own_below HTG.out hbo)
    replace HROW := Lib.hid (HROW.out.below hbo)
    replace HSR := Lib.hid (HSR.out.below hbo)
    replace HBEL := Lib.hid (HBEL.out.trans (But.of_below hbo (Nat.le_refl _)))
    obtain ⟨wa, hwa⟩ : ∃ z, wd.alloc (.cells #[.int .i64 0, .int .i64 (-1), .int .i64 9, .int .i64 1001] 3) = z := ⟨_, rfl⟩
    rw [hwa] at hna hzo hzo2 HK HTG HROW HSR HBEL ⊢
    have HNA := Lib.hid hna
    clear hna hbo hwa hK K
    refine wpAnyH_ready (rs := [6, 9]) (by kernel_rfl) (by simp) ?_
    refine AllReadyH.cons (o := ⟨_, _, _, _, _, _⟩) rfl (fun K hK => ?_) ?_
    · skip
      have h9 := HK.out.1
      go_simp
      refine hK.out _ _ trivial (fun hHeld => ?_)
      clear hK K h9
      refine wpAnyH_ready (rs := [9]) (by kernel_rfl) (by simp) ?_
      refine AllReadyH.cons (o := ⟨_, _, _, _, _, _⟩) rfl (fun K hK => ?_) AllReadyH.nil
      go_simp
      have hNM : Calls Tryd.prog 51 #[.pointer (some ⟨R, 0, none⟩), .slice (some ⟨wd.heap.size, 0, none⟩) 4 4] wa _ := num_any R (P + 1 + 1) wd.heap.size [0, -1, 9, 1001] wa HNA.out (by omega) (by decide) (by decide) HSR.out (by omega)
      refine hNM.mono ?_
      rintro E w5 ⟨v5, -, rfl, hs5, ho5⟩
      clear hNM
      have hz5 := Nat.le_of_eq ho5.size.symm
      have hz5b := Nat.le_of_eq ho5.size
      refine hK.out _ _ trivial (fun hHeld => ?_)
      replace HK := Lib.hid (mutK_one HK.out ho5 hgR)
      replace HTG := Lib.hid (own_one_ HTG.out ho5 hRl)
      replace HROW := Lib.hid (HROW.out.one ho5 hRl)
      replace HBEL := Lib.hid (HBEL.out.trans (But.of_one ho5))
      replace HSR := Lib.hid hs5
      clear hs5 ho5 hK K HNA
      refine wpAnyH_take (i := 10) (oi := ⟨_, _, _, _, _, _⟩) (v := .agg #[.int .i64 v5, .bool false]) rfl (by kernel_rfl) (by kernel_rfl) (by kernel_rfl) (fun _ _ _ h => h) (Or.inl ⟨by rfl, fun w hSw => by go_simp⟩) hHeld ?_
      try simp only [Act.put, List.setIfInBounds_toArray, List.set_cons_zero, List.set_cons_succ]
      refine wpAnyH_ready (rs := [11]) (by kernel_rfl) (by simp) ?_
      refine AllReadyH.cons (o := ⟨_, _, _, _, _, _⟩) rfl (fun K hK => ?_) AllReadyH.nil
      go_simp
      have hnb := heap_alloc_new w5 (.cells #[.int .i64 v5, .bool false] 35)
      have hbo := (Below.refl w5.heap.size w5).alloc (Nat.le_refl _) (.cells #[.int .i64 v5, .bool false] 35)
      have hzo3 := Nat.le_of_eq (show (w5.alloc (.cells #[.int .i64 v5, .bool false] 35)).heap.size = w5.heap.size + 1 by simp)
      have hzo4 := Nat.le_of_eq (show w5.heap.size + 1 = (w5.alloc (.cells #[.int .i64 v5, .bool false] 35)).heap.size by simp)
      refine hK.out _ _ trivial (fun hHeld => ?_)
      replace HK := Lib.hid (mutK_below HK.out hbo)
      replace HTG := Lib.hid (own_below HTG.out hbo)
      replace HROW := Lib.hid (HROW.out.below hbo)
      replace HSR := Lib.hid (HSR.out.below hbo)
      replace HBEL := Lib.hid (HBEL.out.trans (But.of_below hbo (Nat.le_refl _)))
      obtain ⟨wb, hwb⟩ : ∃ z, w5.alloc (.cells #[.int .i64 v5, .bool false] 35) = z := ⟨_, rfl⟩
      rw [hwb] at hnb hzo3 hzo4 HK HTG HROW HSR HBEL ⊢
      have HNEW := Lib.hid hnb
      clear hnb hbo hwb hK K
      refine wpAnyH_ready (rs := [12]) (by kernel_rfl) (by simp) ?_
      refine AllReadyH.cons (o := ⟨_, _, _, _, _, _⟩) rfl (fun K hK => ?_) AllReadyH.nil
      refine step_append_lies _ rfl _ _ _ rfl w.heap.size 35 i0 (.agg #[.int .i64 0, .bool false]) 2 16 Tryd.underlying31 HI.out HZ0.out HZ1.out HZ2.out rfl (by decide) (.slice Au L cu) L (d.tags.flatMap TagD.cells) rfl HTG.out ⟨w5.heap.size, 0, none⟩ 1 1 [.int .i64 v5, .bool false] rfl rfl (World.news_of_block (cs := #[.int .i64 v5, .bool false]) HNEW.out) (by intro u9 hu9; simp only [List.mem_cons, List.not_mem_nil, or_false] at hu9; rcases hu9 with rfl | rfl <;> rfl) (by decide) (by unfold maxLen; omega) (by omega) (by omega) _ rfl ?_
      intro g5 cap w6 hown6 hgr6 hat6 hlt6
      refine hK.out _ _ trivial (fun hHeld => ?_)
      have HOWN6 := Lib.hid hown6
      have HGR6 := Lib.hid hgr6
      have HAT6 := Lib.hid hat6
      have hz6 := hgr6.size
      clear hown6 hgr6 hat6 hlt6 hK K
      refine wpAnyH_take (i := 13) (oi := ⟨_, _, _, _, _, _⟩) (v := .pointer (some ⟨g, k * 4, none⟩)) rfl (by kernel_rfl) (by kernel_rfl) (by kernel_rfl) (fun _ _ _ h => h) (Or.inl ⟨by rfl, fun w hSw => by go_simp⟩) hHeld ?_
      try simp only [Act.put, List.setIfInBounds_toArray, List.set_cons_zero, List.set_cons_succ]
      refine wpAnyH_take (i := 14) (oi := ⟨_, _, _, _, _, _⟩) (v := .pointer (some ⟨g, k * 4 + 3, none⟩)) rfl (by kernel_rfl) (by kernel_rfl) (by kernel_rfl) (fun _ _ _ h => h) (Or.inl ⟨by rfl, fun w hSw => by go_simp⟩) hHeld ?_
      try simp only [Act.put, List.setIfInBounds_toArray, List.set_cons_zero, List.set_cons_succ]
      refine wpAnyH_ready (rs := [15]) (by kernel_rfl) (by simp) ?_
      refine AllReadyH.cons (o := ⟨_, _, _, _, _, _⟩) rfl (fun K hK => ?_) AllReadyH.nil
      have hK6 := mutK_far HK.out HGR6.out HNB.out
      obtain ⟨k0, kf⟩ := hK6
      go_simp
      refine hK.out _ _ trivial (fun hHeld => ?_)
      clear hK K k0 kf
      refine wpAnyH_done (by kernel_rfl) ?_ _
      have hro : ∀ q, (Value.slice Au L cu).ownBlock = some q → w.heap.size ≤ q := fun q hq => (World.ownsRow.lt HTG.out q hq).1
      obtain ⟨g2, Au2, cu2, e2, hat2, -⟩ := HROW.out.at2 HD.out
      injection e2 with e2
      injection e2 with e2
      subst e2
      have hc3 := hat2.c3.symm.trans HK.out.1
      rw [HLL.out] at hc3
      injection hc3 with hc3
      injection hc3 with e3 _ e4
      subst e3 e4
      have hrt : RowT w6 w.heap.size (.slice (some ⟨g5, 0, none⟩) (L + 1) cap) (d.tags ++ [⟨v5, false⟩]) := by unfold RowT; rw [List.length_append, List.flatMap_append, HLL.out]; exact HOWN6.out
      have hP := hat2.grow w6 (.slice (some ⟨g5, 0, none⟩) (L + 1) cap) (d.tags ++ [⟨v5, false⟩]) (by rw [HLL.out]; exact HGR6.out) hrt (by rw [HLL.out]; exact HAT6.out.elim (fun h => .inl h.symm) (fun h => .inr (congrArg some h)))
      have hsf := ((HSR.out.grown HGR6.out (fun q hq => by have := hro q hq; omega)).one ((One.refl g w6).set (k * 4 + 3) (.slice (some ⟨g5, 0, none⟩) (L + 1) cap)) (by omega))
      have hbf := (HBEL.out.grown HGR6.out hro).setCell (g := g) (o := k * 4 + 3) (by omega) (.slice (some ⟨g5, 0, none⟩) (L + 1) cap)
      have HP := Lib.hid hP
      have HSF := Lib.hid hsf
      have HBF := Lib.hid hbf
      clear hP hsf hbf hrt hat2 hro hHeld
      generalize w6.setCell ⟨g, k * 4 + 3, none⟩ (.slice (some ⟨g5, 0, none⟩) (L + 1) cap) = w7 at *
      go_wp2_with fail
      go_ret
      have q1 := HSET.out { d with tags := d.tags ++ [⟨v5, false⟩] } (by simp)
      exact ⟨_, _, c1, by rw [q1.1]; rfl, by rw [q1.1]; exact HP.out, by rw [q1.1, HN.out], q1.2, HSF.out.more (by omega), HBF.out⟩
    refine AllReadyH.cons (o := ⟨_, _, _, _, _, _⟩) rfl (fun K hK => ?_) AllReadyH.nil
    go_simp
    have hNM : Calls Tryd.prog 51 #[.pointer (some ⟨R, 0, none⟩), .slice (some ⟨wd.heap.size, 0, none⟩) 4 4] wa _ := num_any R (P + 1 + 1) wd.heap.size [0, -1, 9, 1001] wa HNA.out (by omega) (by decide) (by decide) HSR.out (by omega)
    refine hNM.mono ?_
    rintro E w5 ⟨v5, -, rfl, hs5, ho5⟩
    clear hNM
    have hz5 := Nat.le_of_eq ho5.size.symm
    have hz5b := Nat.le_of_eq ho5.size
    refine hK.out _ _ trivial (fun hHeld => ?_)
    replace HK := Lib.hid (mutK_one HK.out ho5 hgR)
    replace HTG := Lib.hid (own_one_ HTG.out ho5 hRl)
    replace HROW := Lib.hid (HROW.out.one ho5 hRl)
    replace HBEL := Lib.hid (HBEL.out.trans (But.of_one ho5))
    replace HSR := Lib.hid hs5
    clear hs5 ho5 hK K HNA
    refine wpAnyH_take (i := 10) (oi := ⟨_, _, _, _, _, _⟩) (v := .agg #[.int .i64 v5, .bool false]) rfl (by kernel_rfl) (by kernel_rfl) (by kernel_rfl) (fun _ _ _ h => h) (Or.inl ⟨by rfl, fun w hSw => by go_simp⟩) hHeld ?_
    try simp only [Act.put, List.setIfInBounds_toArray, List.set_cons_zero, List.set_cons_succ]
    refine wpAnyH_ready (rs := [6, 11]) (by kernel_rfl) (by simp) ?_
    refine AllReadyH.cons (o := ⟨_, _, _, _, _, _⟩) rfl (fun K hK => ?_) ?_
    · skip
      have h9 := HK.out.1
      go_simp
      refine hK.out _ _ trivial (fun hHeld => ?_)
      clear hK K h9
      refine wpAnyH_ready (rs := [11]) (by kernel_rfl) (by simp) ?_
      refine AllReadyH.cons (o := ⟨_, _, _, _, _, _⟩) rfl (fun K hK => ?_) AllReadyH.nil
      go_simp
      have hnb := heap_alloc_new w5 (.cells #[.int .i64 v5, .bool false] 35)
      have hbo := (Below.refl w5.heap.size w5).alloc (Nat.le_refl _) (.cells #[.int .i64 v5, .bool false] 35)
      have hzo3 := Nat.le_of_eq (show (w5.alloc (.cells #[.int .i64 v5, .bool false] 35)).heap.size = w5.heap.size + 1 by simp)
      have hzo4 := Nat.le_of_eq (show w5.heap.size + 1 = (w5.alloc (.cells #[.int .i64 v5, .bool false] 35)).heap.size by simp)
      refine hK.out _ _ trivial (fun hHeld => ?_)
      replace HK := Lib.hid (mutK_below HK.out hbo)
      replace HTG := Lib.hid (own_below HTG.out hbo)
      replace HROW := Lib.hid (HROW.out.below hbo)
      replace HSR := Lib.hid (HSR.out.below hbo)
      replace HBEL := Lib.hid (HBEL.out.trans (But.of_below hbo (Nat.le_refl _)))
      obtain ⟨wb, hwb⟩ : ∃ z, w5.alloc (.cells #[.int .i64 v5, .bool false] 35) = z := ⟨_, rfl⟩
      rw [hwb] at hnb hzo3 hzo4 HK HTG HROW HSR HBEL ⊢
      have HNEW := Lib.hid hnb
      clear hnb hbo hwb hK K
      refine wpAnyH_ready (rs := [12]) (by kernel_rfl) (by simp) ?_
      refine AllReadyH.cons (o := ⟨_, _, _, _, _, _⟩) rfl (fun K hK => ?_) AllReadyH.nil
      refine step_append_lies _ rfl _ _ _ rfl w.heap.size 35 i0 (.agg #[.int .i64 0, .bool false]) 2 16 Tryd.underlying31 HI.out HZ0.out HZ1.out HZ2.out rfl (by decide) (.slice Au L cu) L (d.tags.flatMap TagD.cells) rfl HTG.out ⟨w5.heap.size, 0, none⟩ 1 1 [.int .i64 v5, .bool false] rfl rfl (World.news_of_block (cs := #[.int .i64 v5, .bool false]) HNEW.out) (by intro u9 hu9; simp only [List.mem_cons, List.not_mem_nil, or_false] at hu9; rcases hu9 with rfl | rfl <;> rfl) (by decide) (by unfold maxLen; omega) (by omega) (by omega) _ rfl ?_
      intro g5 cap w6 hown6 hgr6 hat6 hlt6
      refine hK.out _ _ trivial (fun hHeld => ?_)
      have HOWN6 := Lib.hid hown6
      have HGR6 := Lib.hid hgr6
      have HAT6 := Lib.hid hat6
      have hz6 := hgr6.size
      clear hown6 hgr6 hat6 hlt6 hK K
      refine wpAnyH_take (i := 13) (oi := ⟨_, _, _, _, _, _⟩) (v := .pointer (some ⟨g, k * 4, none⟩)) rfl (by kernel_rfl) (by kernel_rfl) (by kernel_rfl) (fun _ _ _ h => h) (Or.inl ⟨by rfl, fun w hSw => by go_simp⟩) hHeld ?_
      try simp only [Act.put, List.setIfInBounds_toArray, List.set_cons_zero, List.set_cons_succ]
      refine wpAnyH_take (i := 14) (oi := ⟨_, _, _, _, _, _⟩) (v := .pointer (some ⟨g, k * 4 + 3, none⟩)) rfl (by kernel_rfl) (by kernel_rfl) (by kernel_rfl) (fun _ _ _ h => h) (Or.inl ⟨by rfl, fun w hSw => by go_simp⟩) hHeld ?_
      try simp only [Act.put, List.setIfInBounds_toArray, List.set_cons_zero, List.set_cons_succ]
      refine wpAnyH_ready (rs := [15]) (by kernel_rfl) (by simp) ?_
      refine AllReadyH.cons (o := ⟨_, _, _, _, _, _⟩) rfl (fun K hK => ?_) AllReadyH.nil
      have hK6 := mutK_far HK.out HGR6.out HNB.out
      obtain ⟨k0, kf⟩ := hK6
      go_simp
      refine hK.out _ _ trivial (fun hHeld => ?_)
      clear hK K k0 kf
      refine wpAnyH_done (by kernel_rfl) ?_ _
      have hro : ∀ q, (Value.slice Au L cu).ownBlock = some q → w.heap.size ≤ q := fun q hq => (World.ownsRow.lt HTG.out q hq).1
      obtain ⟨g2, Au2, cu2, e2, hat2, -⟩ := HROW.out.at2 HD.out
      injection e2 with e2
      injection e2 with e2
      subst e2
      have hc3 := hat2.c3.symm.trans HK.out.1
      rw [HLL.out] at hc3
      injection hc3 with hc3
      injection hc3 with e3 _ e4
      subst e3 e4
      have hrt : RowT w6 w.heap.size (.slice (some ⟨g5, 0, none⟩) (L + 1) cap) (d.tags ++ [⟨v5, false⟩]) := by unfold RowT; rw [List.length_append, List.flatMap_append, HLL.out]; exact HOWN6.out
      have hP := hat2.grow w6 (.slice (some ⟨g5, 0, none⟩) (L + 1) cap) (d.tags ++ [⟨v5, false⟩]) (by rw [HLL.out]; exact HGR6.out) hrt (by rw [HLL.out]; exact HAT6.out.elim (fun h => .inl h.symm) (fun h => .inr (congrArg some h)))
      have hsf := ((HSR.out.grown HGR6.out (fun q hq => by have := hro q hq; omega)).one ((One.refl g w6).set (k * 4 + 3) (.slice (some ⟨g5, 0, none⟩) (L + 1) cap)) (by omega))
      have hbf := (HBEL.out.grown HGR6.out hro).setCell (g := g) (o := k * 4 + 3) (by omega) (.slice (some ⟨g5, 0, none⟩) (L + 1) cap)
      have HP := Lib.hid hP
      have HSF := Lib.hid hsf
      have HBF := Lib.hid hbf
      clear hP hsf hbf hrt hat2 hro hHeld
      generalize w6.setCell ⟨g, k * 4 + 3, none⟩ (.slice (some ⟨g5, 0, none⟩) (L + 1) cap) = w7 at *
      go_wp2_with fail
      go_ret
      have q1 := HSET.out { d with tags := d.tags ++ [⟨v5, false⟩] } (by simp)
      exact ⟨_, _, c1, by rw [q1.1]; rfl, by rw [q1.1]; exact HP.out, by rw [q1.1, HN.out], q1.2, HSF.out.more (by omega), HBF.out⟩
    refine AllReadyH.cons (o := ⟨_, _, _, _, _, _⟩) rfl (fun K hK => ?_) AllReadyH.nil
    go_simp
    have hnb := heap_alloc_new w5 (.cells #[.int .i64 v5, .bool false] 35)
    have hbo := (Below.refl w5.heap.size w5).alloc (Nat.le_refl _) (.cells #[.int .i64 v5, .bool false] 35)
    have hzo3 := Nat.le_of_eq (show (w5.alloc (.cells #[.int .i64 v5, .bool false] 35)).heap.size = w5.heap.size + 1 by simp)
    have hzo4 := Nat.le_of_eq (show w5.heap.size + 1 = (w5.alloc (.cells #[.int .i64 v5, .bool false] 35)).heap.size by simp)
    refine hK.out _ _ trivial (fun hHeld => ?_)
    replace HK := Lib.hid (mutK_below HK.out hbo)
    replace HTG := Lib.hid (own_below HTG.out hbo)
    replace HROW := Lib.hid (HROW.out.below hbo)
    replace HSR := Lib.hid (HSR.out.below hbo)
    replace HBEL := Lib.hid (HBEL.out.trans (But.of_below hbo (Nat.le_refl _)))
    obtain ⟨wb, hwb⟩ : ∃ z, w5.alloc (.cells #[.int .i64 v5, .bool false] 35) = z := ⟨_, rfl⟩
    rw [hwb] at hnb hzo3 hzo4 HK HTG HROW HSR HBEL ⊢
    have HNEW := Lib.hid hnb
    clear hnb hbo hwb hK K
    refine wpAnyH_ready (rs := [6]) (by kernel_rfl) (by simp) ?_
    refine AllReadyH.cons (o := ⟨_, _, _, _, _, _⟩) rfl (fun K hK => ?_) AllReadyH.nil
    have h9 := HK.out.1
    go_simp
    refine hK.out _ _ trivial (fun hHeld => ?_)
    clear hK K h9
    refine wpAnyH_ready (rs := [12]) (by kernel_rfl) (by simp) ?_
    refine AllReadyH.cons (o := ⟨_, _, _, _, _, _⟩) rfl (fun K hK => ?_) AllReadyH.nil
    refine step_append_lies _ rfl _ _ _ rfl w.heap.size 35 i0 (.agg #[.int .i64 0, .bool false]) 2 16 Tryd.underlying31 HI.out HZ0.out HZ1.out HZ2.out rfl (by decide) (.slice Au L cu) L (d.tags.flatMap TagD.cells) rfl HTG.out ⟨w5.heap.size, 0, none⟩ 1 1 [.int .i64 v5, .bool false] rfl rfl (World.news_of_block (cs := #[.int .i64 v5, .bool false]) HNEW.out) (by intro u9 hu9; simp only [List.mem_cons, List.not_mem_nil, or_false] at hu9; rcases hu9 with rfl | rfl <;> rfl) (by decide) (by unfold maxLen; omega) (by omega) (by omega) _ rfl ?_
    intro g5 cap w6 hown6 hgr6 hat6 hlt6
    refine hK.out _ _ trivial (fun hHeld => ?_)
    have HOWN6 := Lib.hid hown6
    have HGR6 := Lib.hid hgr6
    have HAT6 := Lib.hid hat6
    have hz6 := hgr6.size
    clear hown6 hgr6 hat6 hlt6 hK K
    refine wpAnyH_take (i := 13) (oi := ⟨_, _, _, _, _, _⟩) (v := .pointer (some ⟨g, k * 4, none⟩)) rfl (by kernel_rfl) (by kernel_rfl) (by kernel_rfl) (fun _ _ _ h => h) (Or.inl ⟨by rfl, fun w hSw => by go_simp⟩) hHeld ?_
    try simp only [Act.put, List.setIfInBounds_toArray, List.set_cons_zero, List.set_cons_succ]
    refine wpAnyH_take (i := 14) (oi := ⟨_, _, _, _, _, _⟩) (v := .pointer (some ⟨g, k * 4 + 3, none⟩)) rfl (by kernel_rfl) (by kernel_rfl) (by kernel_rfl) (fun _ _ _ h => h) (Or.inl ⟨by rfl, fun w hSw => by go_simp⟩) hHeld ?_
    try simp only [Act.put, List.setIfInBounds_toArray, List.set_cons_zero, List.set_cons_succ]
    refine wpAnyH_ready (rs := [15]) (by kernel_rfl) (by simp) ?_
    refine AllReadyH.cons (o := ⟨_, _, _, _, _, _⟩) rfl (fun K hK => ?_) AllReadyH.nil
    have hK6 := mutK_far HK.out HGR6.out HNB.out
    obtain ⟨k0, kf⟩ := hK6
    go_simp
    refine hK.out _ _ trivial (fun hHeld => ?_)
    clear hK K k0 kf
    refine wpAnyH_done (by kernel_rfl) ?_ _
    have hro : ∀ q, (Value.slice Au L cu).ownBlock = some q → w.heap.size ≤ q := fun q hq => (World.ownsRow.lt HTG.out q hq).1
    obtain ⟨g2, Au2, cu2, e2, hat2, -⟩ := HROW.out.at2 HD.out
    injection e2 with e2
    injection e2 with e2
    subst e2
    have hc3 := hat2.c3.symm.trans HK.out.1
    rw [HLL.out] at hc3
    injection hc3 with hc3
    injection hc3 with e3 _ e4
    subst e3 e4
    have hrt : RowT w6 w.heap.size (.slice (some ⟨g5, 0, none⟩) (L + 1) cap) (d.tags ++ [⟨v5, false⟩]) := by unfold RowT; rw [List.length_append, List.flatMap_append, HLL.out]; exact HOWN6.out
    have hP := hat2.grow w6 (.slice (some ⟨g5, 0, none⟩) (L + 1) cap) (d.tags ++ [⟨v5, false⟩]) (by rw [HLL.out]; exact HGR6.out) hrt (by rw [HLL.out]; exact HAT6.out.elim (fun h => .inl h.symm) (fun h => .inr (congrArg some h)))
    have hsf := ((HSR.out.grown HGR6.out (fun q hq => by have := hro q hq; omega)).one ((One.refl g w6).set (k * 4 + 3) (.slice (some ⟨g5, 0, none⟩) (L + 1) cap)) (by omega))
    have hbf := (HBEL.out.grown HGR6.out hro).setCell (g := g) (o := k * 4 + 3) (by omega) (.slice (some ⟨g5, 0, none⟩) (L + 1) cap)
    have HP := Lib.hid hP
    have HSF := Lib.hid hsf
    have HBF := Lib.hid hbf
    clear hP hsf hbf hrt hat2 hro hHeld
    generalize w6.setCell ⟨g, k * 4 + 3, none⟩ (.slice (some ⟨g5, 0, none⟩) (L + 1) cap) = w7 at *
    go_wp2_with fail
    go_ret
    have q1 := HSET.out { d with tags := d.tags ++ [⟨v5, false⟩] } (by simp)
    exact ⟨_, _, c1, by rw [q1.1]; rfl, by rw [q1.1]; exact HP.out, by rw [q1.1, HN.out], q1.2, HSF.out.more (by omega), HBF.out⟩
  · have k0 := HAT.out.c1
    have kf := HAT.out.fz (k * 4 + 1)
    have HP := Lib.hid (HAT.out.put1 (!d.alive))
    have hgb := HAT.out.bg
    have HSF := Lib.hid (HS3.out.one (((One.refl g w3).set (k * 4 + 1) (.bool (!d.alive)))) (by omega))
    have HBB := Lib.hid (HB3.out.setCell (g := g) (o := k * 4 + 1) (by omega) (.bool (!d.alive)))
    go_wp2_with fail
    go_ret
    have q1 := HSET.out { d with alive := !d.alive } (by simp)
    exact ⟨_, _, c1, by rw [q1.1]; rfl, by rw [q1.1]; exact HP.out, by rw [q1.1, HN.out], q1.2, HSF.out.more (by omega), HBB.out⟩
  · have hba := (Below.refl w3.heap.size w3).alloc (Nat.le_refl _) (.cells #[.int .i64 0, .int .i64 1, .int .i64 1000, .int .i64 1001] 3)
    have hna := heap_alloc_new w3 (.cells #[.int .i64 0, .int .i64 1, .int .i64 1000, .int .i64 1001] 3)
    have hNM := num_any R (P + 1 + 1) w3.heap.size [0, 1, 1000, 1001] (w3.alloc (.cells #[.int .i64 0, .int .i64 1, .int .i64 1000, .int .i64 1001] 3)) hna (by omega) (by decide) (by decide) (HS3.out.below hba) (by omega)
    have HNM := Lib.hid hNM
    have HBA := Lib.hid hba
    clear hNM hna hba
    go_wp2_with fail
    refine HNM.out.mono ?_
    rintro E w4 ⟨v4, -, rfl, hs4, ho4⟩
    have hr4 := (HR3.out.below HBA.out).one ho4 hRl
    obtain ⟨g4, Au4, cu4, e4, hat4⟩ := hr4.at_ HD.out
    injection e4 with e4
    injection e4 with e4
    subst e4
    have k0 := hat4.c2
    have kf := hat4.fz (k * 4 + 2)
    have HP := Lib.hid (hat4.put2 v4)
    have hgb := hat4.bg
    have hbb := (HB3.out.trans (But.of_below HBA.out (Nat.le_refl _))).trans (But.of_one ho4)
    have HSF := Lib.hid (hs4.one (((One.refl g w4).set (k * 4 + 2) (.int .i64 v4))) (by omega))
    have HBB := Lib.hid (hbb.setCell (g := g) (o := k * 4 + 2) (by omega) (.int .i64 v4))
    clear hat4 hs4 ho4 hr4 hbb HNM
    go_wp2_with fail
    go_ret
    have q1 := HSET.out { d with next := v4 } (by simp)
    exact ⟨_, _, c1, by rw [q1.1]; rfl, by rw [q1.1]; exact HP.out, by rw [q1.1, HN.out], q1.2, HSF.out.more (by omega), HBB.out⟩
  · have t0 : (((u : Nat) : Int) == 0) = false := by simp; omega
    have t1 : (((u : Nat) : Int) == 1) = false := by simp; omega
    have t2 : (((u : Nat) : Int) == 2) = false := by simp; omega
    have t3 : (((u : Nat) : Int) == 3) = false := by simp; omega
    have t4 : (((u : Nat) : Int) == 4) = false := by simp; omega
    go_wp2_with fail
    go_ret
    exact ⟨cs, _, c1, by rw [HN.out]; rfl, by rw [HN.out]; exact HR3.out, rfl, by omega, HS3.out.more (by omega), HB3.out⟩

/-- A new source of draws: its block is the last one. -/
def OpenP (w : World) (E : Ending) (w' : World) : Prop := E = .returned (.pointer (some ⟨w.heap.size, 0, none⟩)) ∧ SrcV w' w.heap.size 0 ∧ Below w.heap.size w w'

set_option maxRecDepth 100000 in
set_option maxHeartbeats 400000 in
theorem l17Open_any (n c : Nat) (A : Option Addr) (w : World) (hB : ByteV w w.heap.size n A c) :
    Calls Tryd.prog 50 #[.slice A n c] w (OpenP w) := by
  have hnc := hB.1
  have hcm := hB.2.1
  unfold maxLen at hcm
  by_cases hn : n ≤ 2000
  · have hb := (Below.refl w.heap.size w).alloc (Nat.le_refl _) (.cells #[.slice A n c, .int .i64 0] 105)
    have hp : OpenP w (.returned (.pointer (some ⟨w.heap.size, 0, none⟩))) (w.alloc (.cells #[.slice A n c, .int .i64 0] 105)) := ⟨rfl, ⟨n, c, A, 0, heap_alloc_new w _, hB.below hb (Nat.le_refl _), Nat.le_refl _⟩, hb⟩
    have HP := Lib.hid hp
    clear hb hp hB
    go_enter Tryd.func50, Tryd.ntmps50
    go_wp2_with fail
    go_ret
    exact HP.out
  · have hn2 : 2000 < n := by omega
    have hB2 : ByteV w w.heap.size 2000 A c := ⟨by omega, hB.2.1, fun _ => by
      obtain ⟨b, rfl, hbb, hc⟩ := hB.2.2 (by omega)
      exact ⟨b, rfl, hbb, fun j hj => hc j (by omega)⟩⟩
    have hb := (Below.refl w.heap.size w).alloc (Nat.le_refl _) (.cells #[.slice A 2000 c, .int .i64 0] 105)
    have hp : OpenP w (.returned (.pointer (some ⟨w.heap.size, 0, none⟩))) (w.alloc (.cells #[.slice A 2000 c, .int .i64 0] 105)) := ⟨rfl, ⟨2000, c, A, 0, heap_alloc_new w _, hB2.below hb (Nat.le_refl _), Nat.le_refl _⟩, hb⟩
    have HP := Lib.hid hp
    clear hb hp hB hB2
    go_enter Tryd.func50, Tryd.ntmps50
    go_wp2_with fail
    go_ret
    exact HP.out

/-- What the draw leaves: some memory and some pointer. -/
def CaseP (w : World) (E : Ending) (w' : World) : Prop := ∃ (cs : List CellD) (A : Option Addr) (c : Nat) (x t : Int), E = .returned (.tuple #[.slice A cs.length c, .agg #[.int .i64 x, .int .i64 t]]) ∧ RowC w' w.heap.size (.slice A cs.length c) cs ∧ cs.length + tagSum cs ≤ 40 ∧ Below w.heap.size w w'

theorem pairK_but {n m R : Nat} {a0 a1 : Value} {w w' : World} (h : PairK n m a0 a1 w) (hb : But R w w') (hn : n ≠ R) (hm : m ≠ R) : PairK n m a0 a1 w' := by
  obtain ⟨h1, h2, h3, h4, h5, h6⟩ := h
  have e : ∀ {a : Addr} {u}, w.cell? a = some u → a.block ≠ R → w'.cell? a = w.cell? a := fun k hn => World.cell?_of_block (hb.block _ (World.block_lt_of_cell? w _ k) hn)
  have f : ∀ {a : Addr} {u}, w.cell? a = some u → a.block ≠ R → w'.frozen? a = w.frozen? a := fun {a u} k hn => by unfold World.frozen?; rw [hb.block a.block (World.block_lt_of_cell? w _ k) hn]
  exact ⟨(e h1 hm).trans h1, (e h2 hm).trans h2, held_cell (e h3 hn) h3, held_cell (e h4 hn) h4, (f h3 hn).trans h5, (f h4 hn).trans h6⟩

set_option maxRecDepth 100000 in
set_option maxHeartbeats 600000 in
theorem l6Case_any (n c : Nat) (A : Option Addr) (w : World) (hB : ByteV w w.heap.size n A c) :
    Calls Tryd.prog 42 #[.slice A n c] w (CaseP w) := by
  have hb0 := (Below.refl w.heap.size w).alloc (Nat.le_refl _) (.cells #[.int .i64 0, .int .i64 0] 25)
  have hX0 := heap_alloc_new w (.cells #[.int .i64 0, .int .i64 0] 25)
  have hz0 := Nat.le_of_eq (show (w.alloc (.cells #[.int .i64 0, .int .i64 0] 25)).heap.size = w.heap.size + 1 by simp)
  have hz0b := Nat.le_of_eq (show w.heap.size + 1 = (w.alloc (.cells #[.int .i64 0, .int .i64 0] 25)).heap.size by simp)
  obtain ⟨w0, hw0⟩ : ∃ z, w.alloc (.cells #[.int .i64 0, .int .i64 0] 25) = z := ⟨_, rfl⟩
  have hop := l17Open_any n c A (w.alloc (.cells #[.int .i64 0, .int .i64 0] 25)) (hB.below hb0 (by simp))
  have HOP := Lib.hid hop
  have HW0 := Lib.hid hw0
  rw [hw0] at hb0 hX0 hz0 hz0b
  have HB0 := Lib.hid hb0
  have HX0 := Lib.hid hX0
  clear hb0 hX0 hop hw0 hB
  go_enter Tryd.func42, Tryd.ntmps42
  go_wp2_with fail
  refine HOP.out.mono ?_
  rw [HW0.out]
  rintro E w1 ⟨rfl, hs1, hb1⟩
  obtain ⟨R, hR⟩ : ∃ R, w0.heap.size = R := ⟨_, rfl⟩
  rw [hR] at hs1 hb1 ⊢
  have hR1 : R = w.heap.size + 1 := by omega
  have HRR := Lib.hid hR1
  have HDR := Lib.hid (l6Draw_any R 0 w1 hs1 (by omega))
  have hRl := hs1.lt
  have HB1 := Lib.hid (HB0.out.trans (hb1.mono (by omega)))
  have HX1 := Lib.hid ((hb1.block w.heap.size (by omega)).trans HX0.out)
  have hz1 := hb1.size
  clear hs1 hb1 hR hR1 HB0 HX0 HOP
  go_wp2_with fail
  refine HDR.out.mono ?_
  rintro E w2 ⟨cs, ps, A2, A2', c2, c2', rfl, hr2, hp2, -, h12, hsz2, hp12, hp22, hs2, hb2, hup2⟩
  have hRRa := Nat.le_of_eq HRR.out
  have hRRb := Nat.le_of_eq HRR.out.symm
  have HX2 := Lib.hid ((hb2.block w.heap.size (by omega)).trans HX1.out)
  have HB2 := Lib.hid (HB1.out.trans (hb2.mono (by omega)))
  obtain ⟨N, hN⟩ : ∃ N, ps.length = N := ⟨_, rfl⟩
  have HN := Lib.hid hN
  have HPK := Lib.hid (pick_any R _ (N : Int) w2 (by omega) (by omega) hs2 (by omega))
  have HR2 := Lib.hid hr2
  have HPT2 := Lib.hid hp2
  rw [hN]
  clear hr2 hp2 hs2 hb2 hN HB1 HX1 HDR
  go_wp2_with fail
  refine HPK.out.mono ?_
  rintro E w3 ⟨v3, hv3, rfl, hs3, ho3⟩
  have hz3 := Nat.le_of_eq ho3.size
  have hz3b := Nat.le_of_eq ho3.size.symm
  have hpt3 := HPT2.out.one ho3 (by omega)
  obtain ⟨gl, x, t, hA', hgl, hgl2, e0, e1⟩ := hpt3.elem (k := v3) (by have := HN.out; omega)
  subst hA'
  have hbo := (Below.refl w3.heap.size w3).alloc (Nat.le_refl _) (.cells #[.int .i64 x, .int .i64 t] 25)
  have HR3 := Lib.hid ((HR2.out.one ho3 (by omega)).below hbo)
  have HX3 := Lib.hid ((hbo.block w.heap.size (by omega)).trans ((ho3.block w.heap.size (by omega)).trans HX2.out))
  have HB3 := Lib.hid ((HB2.out.trans (ho3.below (by omega))).trans (hbo.mono (by omega)))
  have hPK4 := pick_any R _ 12 (w3.alloc (.cells #[.int .i64 x, .int .i64 t] 25)) (by omega) (by omega) (hs3.below hbo) (by omega)
  have HPK4 := Lib.hid hPK4
  have hy := heap_alloc_new w3 (.cells #[.int .i64 x, .int .i64 t] 25)
  have HY := Lib.hid hy
  have hzz := Nat.le_of_eq (show (w3.alloc (.cells #[.int .i64 x, .int .i64 t] 25)).heap.size = w3.heap.size + 1 by simp)
  have hzzb := Nat.le_of_eq (show w3.heap.size + 1 = (w3.alloc (.cells #[.int .i64 x, .int .i64 t] 25)).heap.size by simp)
  clear hs3 ho3 hpt3 hbo hPK4 hy HPK HR2 HPT2 HX2 HB2 hgl hgl2
  go_wp2_with fail
  refine HPK4.out.mono ?_
  rintro E w4 ⟨v4, hv4, rfl, hs4, ho4⟩
  have hz4 := Nat.le_of_eq ho4.size
  have hz4b := Nat.le_of_eq ho4.size.symm
  have HR4 := Lib.hid (HR3.out.one ho4 (by omega))
  have HX4 := Lib.hid ((ho4.block w.heap.size (by omega)).trans HX3.out)
  have HY4 := Lib.hid ((ho4.block w3.heap.size (by omega)).trans HY.out)
  have HB4 := Lib.hid (HB3.out.trans (ho4.below (by omega)))
  have HS4 := Lib.hid hs4
  clear hs4 ho4 HPK4 HR3 HX3 HY HB3 e0 e1
  have hc4 : v4 = 0 ∨ v4 = 1 ∨ 2 ≤ v4 := by omega
  rcases hc4 with rfl | rfl | hv42
  · have hba := (Below.refl w4.heap.size w4).alloc (Nat.le_refl _) (.cells #[.int .i64 0, .int .i64 9, .int .i64 (-1)] 3)
    have hNM : Calls Tryd.prog 51 #[.pointer (some ⟨R, 0, none⟩), .slice (some ⟨w4.heap.size, 0, none⟩) 3 3] (w4.alloc (.cells #[.int .i64 0, .int .i64 9, .int .i64 (-1)] 3)) _ := num_any R _ w4.heap.size [0, 9, -1] (w4.alloc (.cells #[.int .i64 0, .int .i64 9, .int .i64 (-1)] 3)) (heap_alloc_new w4 _) (by omega) (by decide) (by decide) (HS4.out.below hba) (by omega)
    have HNM := Lib.hid hNM
    have HBA := Lib.hid hba
    have hzb := Nat.le_of_eq (show (w4.alloc (.cells #[.int .i64 0, .int .i64 9, .int .i64 (-1)] 3)).heap.size = w4.heap.size + 1 by simp)
    have hzb2 := Nat.le_of_eq (show w4.heap.size + 1 = (w4.alloc (.cells #[.int .i64 0, .int .i64 9, .int .i64 (-1)] 3)).heap.size by simp)
    clear hNM hba
    go_wp2_with fail
    refine HNM.out.mono ?_
    rintro E w5 ⟨v5, -, rfl, hs5, ho5⟩
    have hz5 := Nat.le_of_eq ho5.size
    have hz5b := Nat.le_of_eq ho5.size.symm
    have hx5 := (ho5.block w.heap.size (by omega)).trans ((HBA.out.block w.heap.size (by omega)).trans HX4.out)
    have hy5 := (ho5.block w3.heap.size (by omega)).trans ((HBA.out.block w3.heap.size (by omega)).trans HY4.out)
    have k0 := (cell_of_block hy5 1).trans (show _ = some (.int .i64 t) from rfl)
    have kf := frozen_of_block hy5 1
    have hr5 := ((HR4.out.below HBA.out).one ho5 (by omega)).setType (o := 1) (x := .int .i64 v5) hy5 (by decide) (by decide)
    have hy6 := set_keeps hy5 1 (.int .i64 v5)
    have hx6 := (heap_set (a := ⟨w3.heap.size, 1, none⟩) (u := .int .i64 v5) (show w.heap.size ≠ w3.heap.size by omega)).trans hx5
    have hs6 := hs5.one ((One.refl w3.heap.size w5).set 1 (.int .i64 v5)) (by omega)
    have hb6 := ((HB4.out.trans (HBA.out.mono (by omega))).trans (ho5.below (by omega))).setCell (p := ⟨w3.heap.size, 1, none⟩) (by show w.heap.size ≤ w3.heap.size; omega) (.int .i64 v5)
    have hz6 := Nat.le_of_eq (show (w5.setCell ⟨w3.heap.size, 1, none⟩ (.int .i64 v5)).heap.size = w5.heap.size by simp [World.setCell])
    have hz6b := Nat.le_of_eq (show w5.heap.size = (w5.setCell ⟨w3.heap.size, 1, none⟩ (.int .i64 v5)).heap.size by simp [World.setCell])
    have HR5 := Lib.hid hr5
    have HY6 := Lib.hid hy6
    have HX6 := Lib.hid hx6
    have HS6 := Lib.hid hs6
    have HB6 := Lib.hid hb6
    clear hr5 hy6 hx6 hs6 hb6 hy5 hx5 hs5 ho5 HNM
    go_upto_region 9 with fail
    obtain ⟨w6, hw6⟩ : ∃ z, w5.setCell ⟨w3.heap.size, 1, none⟩ (.int .i64 v5) = z := ⟨_, rfl⟩
    rw [hw6] at HR5 HY6 HX6 HS6 HB6 hz6 hz6b ⊢
    clear hw6 k0 kf
    have HY7 : Hid (w6.heap[w3.heap.size]? = some (.cells #[.int .i64 x, .int .i64 v5] 25 (0, 0))) := HY6.out
    go_upto_region 9 with fail
    have q0 := (cell_of_block HX6.out 0).trans (show _ = some (.int .i64 0) from rfl)
    have q1 := (cell_of_block HX6.out 1).trans (show _ = some (.int .i64 0) from rfl)
    have hP0 : PairK w.heap.size w3.heap.size (.int .i64 x) (.int .i64 v5) w6 := ⟨(cell_of_block HY7.out 0).trans rfl, (cell_of_block HY7.out 1).trans rfl, by unfold held; rw [q0]; rfl, by unfold held; rw [q1]; rfl, frozen_of_block HX6.out 0, frozen_of_block HX6.out 1⟩
    have hP1 : PairK w.heap.size w3.heap.size (.int .i64 x) (.int .i64 v5) w6.drew := hP0
    have hnm : ¬ w.heap.size = w3.heap.size := by omega
    have hnR : w.heap.size ≠ R := by omega
    have hmR : w3.heap.size ≠ R := by omega
    have hMU := l6Mutate_any R _ cs A2 cs.length c2 w6.drew (HS6.out.below ((Below.refl w6.heap.size w6).drew)) (by omega) (HR5.out.below ((Below.refl w6.heap.size w6).drew)).reads h12 (by omega)
    have HMU := Lib.hid hMU
    clear hMU q0 q1
    go_region_held3 (PairK w.heap.size w3.heap.size (.int .i64 x) (.int .i64 v5))
      (first | with_reducible exact hP1 | with_reducible exact hS1 | with_reducible exact pairK_store hnm hS1 _ _)
      ((go_at_call 73; refine HMU.out.mono ?_; rintro E w' ⟨cs', A', c', rfl, hr', hl', ht', hs', hb'⟩; have HLN := Lib.hid hl'; clear hl'; have hS1 := pairK_but hP1 hb' hnR hmR))
    have hbx : Below w.heap.size w w' := HB6.out.trans (((But.drew (a := w6) (b := w6) (But.of_below (Below.refl w6.heap.size w6) (Nat.le_refl _))).trans hb').below (by omega) |>.mono (by omega))
    have hX' := (hb'.block w.heap.size (by show w.heap.size < w6.heap.size; omega) hnR).trans (show w6.drew.heap[w.heap.size]? = _ from HX6.out)
    obtain ⟨e0, e1⟩ := ptr_store hX' (.int .i64 x) (.int .i64 v5)
    have hw' := hb'.size
    have HRF := Lib.hid (((hr'.setLow (o := 0) (x := .int .i64 x) (show w.heap.size < w6.drew.heap.size by show w.heap.size < w6.heap.size; omega)).setLow (o := 1) (x := .int .i64 v5) (show w.heap.size < w6.drew.heap.size by show w.heap.size < w6.heap.size; omega)).mono (show w.heap.size ≤ w6.drew.heap.size by show w.heap.size ≤ w6.heap.size; omega))
    have hbf : Below w.heap.size w ((w'.setCell ⟨w.heap.size, 0, none⟩ (.int .i64 x)).setCell ⟨w.heap.size, 1, none⟩ (.int .i64 v5)) := (hbx.setCell (Nat.le_refl _) _).setCell (Nat.le_refl _) _
    clear ‹PairK _ _ _ _ ((w'.setCell _ _).setCell _ _)› hS1 hP0 hP1 hr' hbx hX' hb' hs' HMU hw'
    generalize (w'.setCell ⟨w.heap.size, 0, none⟩ (.int .i64 x)).setCell ⟨w.heap.size, 1, none⟩ (.int .i64 v5) = wf at *
    go_wp2_with fail
    exact bodyPost_ret (v := .tuple #[.slice A' cs'.length c', .agg #[.int .i64 x, .int .i64 v5]]) (by simp [results, Tryd.results42, go_sem, e0, e1]) rfl ⟨cs', A', c', x, v5, rfl, by first | exact HRF.out | exact HRF.out.below (Below.refl _ _).drew, by have := HLN.out; omega, by first | exact hbf | exact hbf.drew⟩
  · have hba := (Below.refl w4.heap.size w4).alloc (Nat.le_refl _) (.cells #[.int .i64 0, .int .i64 9, .int .i64 (-1)] 3)
    have hNM : Calls Tryd.prog 51 #[.pointer (some ⟨R, 0, none⟩), .slice (some ⟨w4.heap.size, 0, none⟩) 3 3] (w4.alloc (.cells #[.int .i64 0, .int .i64 9, .int .i64 (-1)] 3)) _ := num_any R _ w4.heap.size [0, 9, -1] (w4.alloc (.cells #[.int .i64 0, .int .i64 9, .int .i64 (-1)] 3)) (heap_alloc_new w4 _) (by omega) (by decide) (by decide) (HS4.out.below hba) (by omega)
    have HNM := Lib.hid hNM
    have HBA := Lib.hid hba
    have hzb := Nat.le_of_eq (show (w4.alloc (.cells #[.int .i64 0, .int .i64 9, .int .i64 (-1)] 3)).heap.size = w4.heap.size + 1 by simp)
    have hzb2 := Nat.le_of_eq (show w4.heap.size + 1 = (w4.alloc (.cells #[.int .i64 0, .int .i64 9, .int .i64 (-1)] 3)).heap.size by simp)
    clear hNM hba
    go_wp2_with fail
    refine HNM.out.mono ?_
    rintro E w5 ⟨v5, -, rfl, hs5, ho5⟩
    have hz5 := Nat.le_of_eq ho5.size
    have hz5b := Nat.le_of_eq ho5.size.symm
    have hx5 := (ho5.block w.heap.size (by omega)).trans ((HBA.out.block w.heap.size (by omega)).trans HX4.out)
    have hy5 := (ho5.block w3.heap.size (by omega)).trans ((HBA.out.block w3.heap.size (by omega)).trans HY4.out)
    have k0 := (cell_of_block hy5 0).trans (show _ = some (.int .i64 x) from rfl)
    have kf := frozen_of_block hy5 0
    have hr5 := ((HR4.out.below HBA.out).one ho5 (by omega)).setType (o := 0) (x := .int .i64 v5) hy5 (by decide) (by decide)
    have hy6 := set_keeps hy5 0 (.int .i64 v5)
    have hx6 := (heap_set (a := ⟨w3.heap.size, 0, none⟩) (u := .int .i64 v5) (show w.heap.size ≠ w3.heap.size by omega)).trans hx5
    have hs6 := hs5.one ((One.refl w3.heap.size w5).set 0 (.int .i64 v5)) (by omega)
    have hb6 := ((HB4.out.trans (HBA.out.mono (by omega))).trans (ho5.below (by omega))).setCell (p := ⟨w3.heap.size, 0, none⟩) (by show w.heap.size ≤ w3.heap.size; omega) (.int .i64 v5)
    have hz6 := Nat.le_of_eq (show (w5.setCell ⟨w3.heap.size, 0, none⟩ (.int .i64 v5)).heap.size = w5.heap.size by simp [World.setCell])
    have hz6b := Nat.le_of_eq (show w5.heap.size = (w5.setCell ⟨w3.heap.size, 0, none⟩ (.int .i64 v5)).heap.size by simp [World.setCell])
    have HR5 := Lib.hid hr5
    have HY6 := Lib.hid hy6
    have HX6 := Lib.hid hx6
    have HS6 := Lib.hid hs6
    have HB6 := Lib.hid hb6
    clear hr5 hy6 hx6 hs6 hb6 hy5 hx5 hs5 ho5 HNM
    go_upto_region 9 with fail
    obtain ⟨w6, hw6⟩ : ∃ z, w5.setCell ⟨w3.heap.size, 0, none⟩ (.int .i64 v5) = z := ⟨_, rfl⟩
    rw [hw6] at HR5 HY6 HX6 HS6 HB6 hz6 hz6b ⊢
    clear hw6 k0 kf
    have HY7 : Hid (w6.heap[w3.heap.size]? = some (.cells #[.int .i64 v5, .int .i64 t] 25 (0, 0))) := HY6.out
    go_upto_region 9 with fail
    have q0 := (cell_of_block HX6.out 0).trans (show _ = some (.int .i64 0) from rfl)
    have q1 := (cell_of_block HX6.out 1).trans (show _ = some (.int .i64 0) from rfl)
    have hP0 : PairK w.heap.size w3.heap.size (.int .i64 v5) (.int .i64 t) w6 := ⟨(cell_of_block HY7.out 0).trans rfl, (cell_of_block HY7.out 1).trans rfl, by unfold held; rw [q0]; rfl, by unfold held; rw [q1]; rfl, frozen_of_block HX6.out 0, frozen_of_block HX6.out 1⟩
    have hP1 : PairK w.heap.size w3.heap.size (.int .i64 v5) (.int .i64 t) w6.drew := hP0
    have hnm : ¬ w.heap.size = w3.heap.size := by omega
    have hnR : w.heap.size ≠ R := by omega
    have hmR : w3.heap.size ≠ R := by omega
    have hMU := l6Mutate_any R _ cs A2 cs.length c2 w6.drew (HS6.out.below ((Below.refl w6.heap.size w6).drew)) (by omega) (HR5.out.below ((Below.refl w6.heap.size w6).drew)).reads h12 (by omega)
    have HMU := Lib.hid hMU
    clear hMU q0 q1
    go_region_held3 (PairK w.heap.size w3.heap.size (.int .i64 v5) (.int .i64 t))
      (first | with_reducible exact hP1 | with_reducible exact hS1 | with_reducible exact pairK_store hnm hS1 _ _)
      ((go_at_call 73; refine HMU.out.mono ?_; rintro E w' ⟨cs', A', c', rfl, hr', hl', ht', hs', hb'⟩; have HLN := Lib.hid hl'; clear hl'; have hS1 := pairK_but hP1 hb' hnR hmR))
    have hbx : Below w.heap.size w w' := HB6.out.trans (((But.drew (a := w6) (b := w6) (But.of_below (Below.refl w6.heap.size w6) (Nat.le_refl _))).trans hb').below (by omega) |>.mono (by omega))
    have hX' := (hb'.block w.heap.size (by show w.heap.size < w6.heap.size; omega) hnR).trans (show w6.drew.heap[w.heap.size]? = _ from HX6.out)
    obtain ⟨e0, e1⟩ := ptr_store hX' (.int .i64 v5) (.int .i64 t)
    have hw' := hb'.size
    have HRF := Lib.hid (((hr'.setLow (o := 0) (x := .int .i64 v5) (show w.heap.size < w6.drew.heap.size by show w.heap.size < w6.heap.size; omega)).setLow (o := 1) (x := .int .i64 t) (show w.heap.size < w6.drew.heap.size by show w.heap.size < w6.heap.size; omega)).mono (show w.heap.size ≤ w6.drew.heap.size by show w.heap.size ≤ w6.heap.size; omega))
    have hbf : Below w.heap.size w ((w'.setCell ⟨w.heap.size, 0, none⟩ (.int .i64 v5)).setCell ⟨w.heap.size, 1, none⟩ (.int .i64 t)) := (hbx.setCell (Nat.le_refl _) _).setCell (Nat.le_refl _) _
    clear ‹PairK _ _ _ _ ((w'.setCell _ _).setCell _ _)› hS1 hP0 hP1 hr' hbx hX' hb' hs' HMU hw'
    generalize (w'.setCell ⟨w.heap.size, 0, none⟩ (.int .i64 v5)).setCell ⟨w.heap.size, 1, none⟩ (.int .i64 t) = wf at *
    go_wp2_with fail
    exact bodyPost_ret (v := .tuple #[.slice A' cs'.length c', .agg #[.int .i64 v5, .int .i64 t]]) (by simp [results, Tryd.results42, go_sem, e0, e1]) rfl ⟨cs', A', c', v5, t, rfl, by first | exact HRF.out | exact HRF.out.below (Below.refl _ _).drew, by have := HLN.out; omega, by first | exact hbf | exact hbf.drew⟩
  · have t0 : (((v4 : Nat) : Int) == 0) = false := by simp; omega
    have t1 : (((v4 : Nat) : Int) == 1) = false := by simp; omega
    go_upto_region 9 with fail
    have q0 := (cell_of_block HX4.out 0).trans (show _ = some (.int .i64 0) from rfl)
    have q1 := (cell_of_block HX4.out 1).trans (show _ = some (.int .i64 0) from rfl)
    have hP0 : PairK w.heap.size w3.heap.size (.int .i64 x) (.int .i64 t) w4 := ⟨(cell_of_block HY4.out 0).trans rfl, (cell_of_block HY4.out 1).trans rfl, by unfold held; rw [q0]; rfl, by unfold held; rw [q1]; rfl, frozen_of_block HX4.out 0, frozen_of_block HX4.out 1⟩
    have hP1 : PairK w.heap.size w3.heap.size (.int .i64 x) (.int .i64 t) w4.drew := hP0
    have hnm : ¬ w.heap.size = w3.heap.size := by omega
    have hnR : w.heap.size ≠ R := by omega
    have hmR : w3.heap.size ≠ R := by omega
    have hMU := l6Mutate_any R _ cs A2 cs.length c2 w4.drew (HS4.out.below ((Below.refl w4.heap.size w4).drew)) (by omega) (HR4.out.below ((Below.refl w4.heap.size w4).drew)).reads h12 (by omega)
    have HMU := Lib.hid hMU
    clear hMU q0 q1
    go_region_held3 (PairK w.heap.size w3.heap.size (.int .i64 x) (.int .i64 t))
      (first | with_reducible exact hP1 | with_reducible exact hS1 | with_reducible exact pairK_store hnm hS1 _ _)
      ((go_at_call 73; refine HMU.out.mono ?_; rintro E w' ⟨cs', A', c', rfl, hr', hl', ht', hs', hb'⟩; have HLN := Lib.hid hl'; clear hl'; have hS1 := pairK_but hP1 hb' hnR hmR))
    have hbx : Below w.heap.size w w' := HB4.out.trans (((But.drew (a := w4) (b := w4) (But.of_below (Below.refl w4.heap.size w4) (Nat.le_refl _))).trans hb').below (by omega) |>.mono (by omega))
    have hX' := (hb'.block w.heap.size (by show w.heap.size < w4.heap.size; omega) hnR).trans (show w4.drew.heap[w.heap.size]? = _ from HX4.out)
    obtain ⟨e0, e1⟩ := ptr_store hX' (.int .i64 x) (.int .i64 t)
    have hw' := hb'.size
    have HRF := Lib.hid (((hr'.setLow (o := 0) (x := .int .i64 x) (show w.heap.size < w4.drew.heap.size by show w.heap.size < w4.heap.size; omega)).setLow (o := 1) (x := .int .i64 t) (show w.heap.size < w4.drew.heap.size by show w.heap.size < w4.heap.size; omega)).mono (show w.heap.size ≤ w4.drew.heap.size by show w.heap.size ≤ w4.heap.size; omega))
    have hbf : Below w.heap.size w ((w'.setCell ⟨w.heap.size, 0, none⟩ (.int .i64 x)).setCell ⟨w.heap.size, 1, none⟩ (.int .i64 t)) := (hbx.setCell (Nat.le_refl _) _).setCell (Nat.le_refl _) _
    clear ‹PairK _ _ _ _ ((w'.setCell _ _).setCell _ _)› hS1 hP0 hP1 hr' hbx hX' hb' hs' HMU hw'
    generalize (w'.setCell ⟨w.heap.size, 0, none⟩ (.int .i64 x)).setCell ⟨w.heap.size, 1, none⟩ (.int .i64 t) = wf at *
    go_wp2_with fail
    exact bodyPost_ret (v := .tuple #[.slice A' cs'.length c', .agg #[.int .i64 x, .int .i64 t]]) (by simp [results, Tryd.results42, go_sem, e0, e1]) rfl ⟨cs', A', c', x, t, rfl, by first | exact HRF.out | exact HRF.out.below (Below.refl _ _).drew, by have := HLN.out; omega, by first | exact hbf | exact hbf.drew⟩

set_option maxRecDepth 100000 in
set_option maxHeartbeats 400000 in
theorem drawShareCell_any (n c : Nat) (A : Option Addr) (w : World) (hB : ByteV w w.heap.size n A c) :
    Calls Tryd.prog 23 #[.slice A n c] w (CaseP w) := by
  have hb0 := (Below.refl w.heap.size w).alloc (Nat.le_refl _) (.cells #[.int .i64 0, .int .i64 0] 25)
  have hX0 := heap_alloc_new w (.cells #[.int .i64 0, .int .i64 0] 25)
  have hz := Nat.le_of_eq (show w.heap.size + 1 = (w.alloc (.cells #[.int .i64 0, .int .i64 0] 25)).heap.size by simp)
  have HC := Lib.hid (l6Case_any n c A _ (hB.below hb0 (by simp)))
  have HB0 := Lib.hid hb0
  have HX0 := Lib.hid hX0
  clear hb0 hX0 hB
  go_enter Tryd.func23, Tryd.ntmps23
  go_wp2_with fail
  refine HC.out.mono ?_
  rintro E w1 ⟨cs, A1, c1, x, t, rfl, hr, hsz, hb⟩
  have hX1 := (hb.block w.heap.size (by omega)).trans HX0.out
  have x0 := (cell_of_block hX1 0).trans (show _ = some (.int .i64 0) from rfl)
  have x1 := (cell_of_block hX1 1).trans (show _ = some (.int .i64 0) from rfl)
  have f0 := frozen_of_block hX1 0
  have f1 := frozen_of_block hX1 1
  obtain ⟨e0, e1⟩ := ptr_store hX1 (.int .i64 x) (.int .i64 t)
  have HRF := Lib.hid (((hr.setLow (o := 0) (x := .int .i64 x) (show w.heap.size < _ by omega)).setLow (o := 1) (x := .int .i64 t) (show w.heap.size < _ by omega)).mono (show w.heap.size ≤ _ by omega))
  have HBF := Lib.hid (((HB0.out.trans (hb.mono (by omega))).setCell (p := ⟨w.heap.size, 0, none⟩) (Nat.le_refl _) (.int .i64 x)).setCell (p := ⟨w.heap.size, 1, none⟩) (Nat.le_refl _) (.int .i64 t))
  clear hr hb hX1 HC
  go_wp2_with fail
  exact bodyPost_ret (v := .tuple #[.slice A1 cs.length c1, .agg #[.int .i64 x, .int .i64 t]]) (by simp [results, Tryd.results23, go_sem, e0, e1]) rfl ⟨cs, A1, c1, x, t, rfl, HRF.out, hsz, HBF.out⟩

set_option maxRecDepth 100000 in
set_option maxHeartbeats 400000 in
theorem drawBorrowCell_any (n c : Nat) (A : Option Addr) (w : World) (hB : ByteV w w.heap.size n A c) :
    Calls Tryd.prog 26 #[.slice A n c] w (CaseP w) := by
  have hb0 := (Below.refl w.heap.size w).alloc (Nat.le_refl _) (.cells #[.int .i64 0, .int .i64 0] 25)
  have hX0 := heap_alloc_new w (.cells #[.int .i64 0, .int .i64 0] 25)
  have hz := Nat.le_of_eq (show w.heap.size + 1 = (w.alloc (.cells #[.int .i64 0, .int .i64 0] 25)).heap.size by simp)
  have HC := Lib.hid (l6Case_any n c A _ (hB.below hb0 (by simp)))
  have HB0 := Lib.hid hb0
  have HX0 := Lib.hid hX0
  clear hb0 hX0 hB
  go_enter Tryd.func26, Tryd.ntmps26
  go_wp2_with fail
  refine HC.out.mono ?_
  rintro E w1 ⟨cs, A1, c1, x, t, rfl, hr, hsz, hb⟩
  have hX1 := (hb.block w.heap.size (by omega)).trans HX0.out
  have x0 := (cell_of_block hX1 0).trans (show _ = some (.int .i64 0) from rfl)
  have x1 := (cell_of_block hX1 1).trans (show _ = some (.int .i64 0) from rfl)
  have f0 := frozen_of_block hX1 0
  have f1 := frozen_of_block hX1 1
  obtain ⟨e0, e1⟩ := ptr_store hX1 (.int .i64 x) (.int .i64 t)
  have HRF := Lib.hid (((hr.setLow (o := 0) (x := .int .i64 x) (show w.heap.size < _ by omega)).setLow (o := 1) (x := .int .i64 t) (show w.heap.size < _ by omega)).mono (show w.heap.size ≤ _ by omega))
  have HBF := Lib.hid (((HB0.out.trans (hb.mono (by omega))).setCell (p := ⟨w.heap.size, 0, none⟩) (Nat.le_refl _) (.int .i64 x)).setCell (p := ⟨w.heap.size, 1, none⟩) (Nat.le_refl _) (.int .i64 t))
  clear hr hb hX1 HC
  go_wp2_with fail
  exact bodyPost_ret (v := .tuple #[.slice A1 cs.length c1, .agg #[.int .i64 x, .int .i64 t]]) (by simp [results, Tryd.results26, go_sem, e0, e1]) rfl ⟨cs, A1, c1, x, t, rfl, HRF.out, hsz, HBF.out⟩

set_option maxRecDepth 100000 in
set_option maxHeartbeats 400000 in
theorem drawReadCell_any (n c : Nat) (A : Option Addr) (w : World) (hB : ByteV w w.heap.size n A c) :
    Calls Tryd.prog 15 #[.slice A n c] w (CaseP w) := by
  have hb0 := (Below.refl w.heap.size w).alloc (Nat.le_refl _) (.cells #[.int .i64 0, .int .i64 0] 25)
  have hX0 := heap_alloc_new w (.cells #[.int .i64 0, .int .i64 0] 25)
  have hz := Nat.le_of_eq (show w.heap.size + 1 = (w.alloc (.cells #[.int .i64 0, .int .i64 0] 25)).heap.size by simp)
  have HC := Lib.hid (l6Case_any n c A _ (hB.below hb0 (by simp)))
  have HB0 := Lib.hid hb0
  have HX0 := Lib.hid hX0
  clear hb0 hX0 hB
  go_enter Tryd.func15, Tryd.ntmps15
  go_wp2_with fail
  refine HC.out.mono ?_
  rintro E w1 ⟨cs, A1, c1, x, t, rfl, hr, hsz, hb⟩
  have hX1 := (hb.block w.heap.size (by omega)).trans HX0.out
  have x0 := (cell_of_block hX1 0).trans (show _ = some (.int .i64 0) from rfl)
  have x1 := (cell_of_block hX1 1).trans (show _ = some (.int .i64 0) from rfl)
  have f0 := frozen_of_block hX1 0
  have f1 := frozen_of_block hX1 1
  obtain ⟨e0, e1⟩ := ptr_store hX1 (.int .i64 x) (.int .i64 t)
  have HRF := Lib.hid (((hr.setLow (o := 0) (x := .int .i64 x) (show w.heap.size < _ by omega)).setLow (o := 1) (x := .int .i64 t) (show w.heap.size < _ by omega)).mono (show w.heap.size ≤ _ by omega))
  have HBF := Lib.hid (((HB0.out.trans (hb.mono (by omega))).setCell (p := ⟨w.heap.size, 0, none⟩) (Nat.le_refl _) (.int .i64 x)).setCell (p := ⟨w.heap.size, 1, none⟩) (Nat.le_refl _) (.int .i64 t))
  clear hr hb hX1 HC
  go_wp2_with fail
  exact bodyPost_ret (v := .tuple #[.slice A1 cs.length c1, .agg #[.int .i64 x, .int .i64 t]]) (by simp [results, Tryd.results15, go_sem, e0, e1]) rfl ⟨cs, A1, c1, x, t, rfl, HRF.out, hsz, HBF.out⟩

set_option maxRecDepth 100000 in
set_option maxHeartbeats 400000 in
theorem drawFreeCell_any (n c : Nat) (A : Option Addr) (w : World) (hB : ByteV w w.heap.size n A c) :
    Calls Tryd.prog 29 #[.slice A n c] w (CaseP w) := by
  have hb0 := (Below.refl w.heap.size w).alloc (Nat.le_refl _) (.cells #[.int .i64 0, .int .i64 0] 25)
  have hX0 := heap_alloc_new w (.cells #[.int .i64 0, .int .i64 0] 25)
  have hz := Nat.le_of_eq (show w.heap.size + 1 = (w.alloc (.cells #[.int .i64 0, .int .i64 0] 25)).heap.size by simp)
  have HC := Lib.hid (l6Case_any n c A _ (hB.below hb0 (by simp)))
  have HB0 := Lib.hid hb0
  have HX0 := Lib.hid hX0
  clear hb0 hX0 hB
  go_enter Tryd.func29, Tryd.ntmps29
  go_wp2_with fail
  refine HC.out.mono ?_
  rintro E w1 ⟨cs, A1, c1, x, t, rfl, hr, hsz, hb⟩
  have hX1 := (hb.block w.heap.size (by omega)).trans HX0.out
  have x0 := (cell_of_block hX1 0).trans (show _ = some (.int .i64 0) from rfl)
  have x1 := (cell_of_block hX1 1).trans (show _ = some (.int .i64 0) from rfl)
  have f0 := frozen_of_block hX1 0
  have f1 := frozen_of_block hX1 1
  obtain ⟨e0, e1⟩ := ptr_store hX1 (.int .i64 x) (.int .i64 t)
  have HRF := Lib.hid (((hr.setLow (o := 0) (x := .int .i64 x) (show w.heap.size < _ by omega)).setLow (o := 1) (x := .int .i64 t) (show w.heap.size < _ by omega)).mono (show w.heap.size ≤ _ by omega))
  have HBF := Lib.hid (((HB0.out.trans (hb.mono (by omega))).setCell (p := ⟨w.heap.size, 0, none⟩) (Nat.le_refl _) (.int .i64 x)).setCell (p := ⟨w.heap.size, 1, none⟩) (Nat.le_refl _) (.int .i64 t))
  clear hr hb hX1 HC
  go_wp2_with fail
  exact bodyPost_ret (v := .tuple #[.slice A1 cs.length c1, .agg #[.int .i64 x, .int .i64 t]]) (by simp [results, Tryd.results29, go_sem, e0, e1]) rfl ⟨cs, A1, c1, x, t, rfl, HRF.out, hsz, HBF.out⟩

end Go.Proofs.YtfkoobdlhdolbaaDoor
