/-
  Rows of points, and the program's PointsOf (for seats without the library's side of points).
-/
import Derived.Test.YtlddoookojjleaaGreatDoorZL2Xb
import Derived.Test.YtlddoookojjleaaGreatDoorZCC0
import Derived.Test.YtlddoookojjleaaGreatDoorZStmtY
import Derived.Test.YtlddoookojjleaaGreatDoorZPtsX
import Derived.Test.YtlddoookojjleaaGreatDoorZMem
import Derived.Test.YtlddoookojjleaaGreatDoorZBase
import Derived.Test.YtlddoookojjleaaGreatDoorZDwA
import Derived.StillTailTactics
namespace Go.Proofs.YtlddoookojjleaaGreatDoor
open Go.RowKit Go.Deep
set_option linter.unusedVariables false

/-- A value reads as a row of points. -/
def PtsV (w : World) (v : Value) (ns : List Nd) : Prop :=
  ∃ A c, v = .slice A ns.length c ∧ ns.length ≤ c ∧ c ≤ maxLen ∧ (0 < ns.length → ∃ g, A = some ⟨g, 0, none⟩ ∧ g < w.heap.size ∧ ∀ k d, ns[k]? = some d →
    ∃ Au cu, (w.cell? ⟨g, k * 5, none⟩ = some (.int .i64 d.op) ∧ w.cell? ⟨g, k * 5 + 1, none⟩ = some (.int .i64 d.x) ∧ w.cell? ⟨g, k * 5 + 2, none⟩ = some (.int .i64 d.y) ∧ w.cell? ⟨g, k * 5 + 3, none⟩ = some (.int .i64 d.n) ∧ w.cell? ⟨g, k * 5 + 4, none⟩ = some (.slice Au d.next.length cu)) ∧ IntsV w 0 w.heap.size d.next Au cu)

theorem PtsV.below {w w' : World} {v : Value} {ns : List Nd} (h : PtsV w v ns) (hb : Below w.heap.size w w') : PtsV w' v ns := by
  obtain ⟨A, c, h1, h2, h3, h4⟩ := h
  refine ⟨A, c, h1, h2, h3, fun h0 => ?_⟩
  obtain ⟨g, h5, h6, h7⟩ := h4 h0
  refine ⟨g, h5, Nat.lt_of_lt_of_le h6 hb.size, fun k d hd => ?_⟩
  obtain ⟨Au, cu, ⟨c0, c1, c2, c3, c4⟩, hI⟩ := h7 k d hd
  exact ⟨Au, cu, ⟨(hb.cell h6).trans c0, (hb.cell h6).trans c1, (hb.cell h6).trans c2, (hb.cell h6).trans c3, (hb.cell h6).trans c4⟩, hI.below hb hb.size⟩

theorem NextV.ints {w : World} {B : Nat} {u : Value} {next : List Int} (h : NextV w B u next) (hm : next.length ≤ maxLen) : ∃ A c, u = .slice A next.length c ∧ IntsV w 0 w.heap.size next A c := by
  rcases h with ⟨h1, h2⟩ | ⟨g, h1, h2, h3⟩
  · subst h1
    exact ⟨none, 0, h2, by simp, by simp [maxLen], fun h => absurd h (by simp)⟩
  · refine ⟨_, _, h1, Nat.le_refl _, hm, fun h0 => ⟨_, rfl, Nat.zero_le _, heap_lt h3, fun j v hv => ?_⟩⟩
    rw [add_block, Nat.zero_add, cell_of_block h3]
    simp [hv]

theorem PRow.reads {w : World} {B : Nat} {v : Value} {ns : List Nd} (h : PRow w B v ns) (hm : ∀ d ∈ ns, d.next.length ≤ maxLen) : PtsV w v ns := by
  by_cases h0 : 0 < ns.length
  · obtain ⟨g, cap, hv, hB, hg, hn, hc⟩ := h.form h0
    subst hv
    refine ⟨_, _, rfl, hn, hc, fun _ => ⟨g, rfl, hg, fun k d hd => ?_⟩⟩
    obtain ⟨u, ⟨c0, c1, c2, c3, c4⟩, hx⟩ := h.cells hd
    obtain ⟨A, c, hu, hI⟩ := hx.ints (hm d (List.mem_of_getElem? hd))
    subst hu
    exact ⟨A, c, ⟨c0, c1, c2, c3, c4⟩, hI⟩
  · obtain ⟨A, c, hv⟩ := h.slice
    obtain ⟨xs, ho, _⟩ := h
    rcases ho.2 with ⟨h1, _⟩ | ⟨g, cap, cur, h1, h2, h3, h4, h5, _⟩
    · exact ⟨none, 0, by rw [h1]; simp; omega, by omega, by simp [maxLen], fun h => absurd h h0⟩
    · exact ⟨_, _, h1, h4, h5, fun h => absurd h h0⟩

/-- A value is a row of points that the call owns, each list of next points in a row of its own, one behind the other. -/
def PRowJ (w : World) (B : Nat) (v : Value) (ns : List Nd) (us : List Value) : Prop :=
  us.length = ns.length ∧ (∃ xs, w.ownsRow B 37 5 v ns.length xs ∧ ∀ j d u, ns[j]? = some d → us[j]? = some u →
    (xs[5 * j]? = some (.int .i64 d.op) ∧ xs[5 * j + 1]? = some (.int .i64 d.x) ∧ xs[5 * j + 2]? = some (.int .i64 d.y) ∧ xs[5 * j + 3]? = some (.int .i64 d.n) ∧ xs[5 * j + 4]? = some u) ∧ RowI w B u d.next) ∧
  ∀ (i j : Nat) (ui uj : Value) (a b : Nat), i < j → us[i]? = some ui → us[j]? = some uj → ui.ownBlock = some a → uj.ownBlock = some b → a < b

theorem RowI.grown {w w' : World} {B B' size n : Nat} {v u : Value} {xs : List Value} {next : List Int} (h : RowI w B u next) (ho : w.ownsRow B' 37 size v n xs) (hg : w.grownBy w' v.ownBlock) : RowI w' B u next := by
  refine h.keep fun g hgu => hg.block g (h.lt g hgu).2 fun e => ?_
  obtain ⟨cur, hc⟩ := ownBlock_row ho g e.symm
  obtain ⟨cur', hc'⟩ := ownBlock_row (RowI.own h) g hgu
  rw [hc] at hc'
  injection hc' with hc'
  injection hc' with _ hc' _
  exact absurd hc' (by decide)

theorem PRowJ.lt {w : World} {B : Nat} {v : Value} {ns : List Nd} {us : List Value} (h : PRowJ w B v ns us) : ∀ (i : Nat) (ui : Value) (a : Nat), us[i]? = some ui → ui.ownBlock = some a → a < w.heap.size := by
  intro i ui a hi ha
  obtain ⟨h1, ⟨xs, ho, hc⟩, h3⟩ := h
  have hl := (List.getElem?_eq_some_iff.1 hi).1
  exact ((hc i _ ui (List.getElem?_eq_getElem (by omega)) hi).2.lt a ha).2

theorem PRowJ.below {w w' : World} {B : Nat} {v : Value} {ns : List Nd} {us : List Value} (h : PRowJ w B v ns us) (hb : Below w.heap.size w w') : PRowJ w' B v ns us := by
  obtain ⟨h1, ⟨xs, ho, hc⟩, h3⟩ := h
  exact ⟨h1, ⟨xs, ho.kept (below_grown hb) (by cases hv : v.ownBlock <;> simp), fun j d u hd hu => ⟨(hc j d u hd hu).1, (hc j d u hd hu).2.below hb⟩⟩, h3⟩

theorem PRowJ.mono {w : World} {B B' : Nat} {v : Value} {ns : List Nd} {us : List Value} (h : PRowJ w B v ns us) (hb : B' ≤ B) : PRowJ w B' v ns us := by
  obtain ⟨h1, ⟨xs, ho, hc⟩, h3⟩ := h
  refine ⟨h1, ⟨xs, ⟨ho.1, ?_⟩, fun j d u hd hu => ⟨(hc j d u hd hu).1, (hc j d u hd hu).2.mono hb⟩⟩, h3⟩
  rcases ho.2 with h | ⟨g, cap, cur, e1, e2, e3⟩
  · exact .inl h
  · exact .inr ⟨g, cap, cur, e1, Nat.le_trans hb e2, e3⟩

theorem PRowJ.snoc {w w' : World} {B : Nat} {v u : Value} {ns : List Nd} {us : List Value} {d : Nd} (h : PRowJ w B v ns us) (xs : List Value) (ho : w.ownsRow B 37 5 v ns.length xs) (hu : RowI w B u d.next)
    (hord : ∀ (i : Nat) (ui : Value) (a b : Nat), us[i]? = some ui → ui.ownBlock = some a → u.ownBlock = some b → a < b)
    (hg : w.grownBy w' v.ownBlock) {v' : Value} (ho' : w'.ownsRow B 37 5 v' (ns.length + 1) (xs ++ [.int .i64 d.op, .int .i64 d.x, .int .i64 d.y, .int .i64 d.n, u])) : PRowJ w' B v' (ns ++ [d]) (us ++ [u]) := by
  obtain ⟨h1, ⟨xs', ho2, hc⟩, h3⟩ := h
  have hxx : xs' = xs := by
    rcases ho.2 with ⟨e1, e2⟩ | ⟨g1, c1, cur1, e1, _, f1, _, _, _, t1⟩
    · have a1 := ho.1
      have a2 := ho2.1
      rw [e2] at a1 a2
      have b1 : xs = [] := List.eq_nil_of_length_eq_zero (by simpa using a1)
      have b2 : xs' = [] := List.eq_nil_of_length_eq_zero (by simpa using a2)
      rw [b1, b2]
    · rcases ho2.2 with ⟨e2, e3⟩ | ⟨g2, c2, cur2, e2, _, f2, _, _, _, t2⟩
      · rw [e1] at e2
        cases e2
      · rw [e1] at e2
        injection e2 with e2 _ _
        injection e2 with e2
        injection e2 with e2 _ _
        subst e2
        rw [f1] at f2
        injection f2 with f2
        injection f2 with f2 _ _
        subst f2
        rw [← t1, ← t2]
  subst hxx
  have hl : xs'.length = ns.length * 5 := ho.1
  refine ⟨by simp [h1], ⟨_, by rw [List.length_append]; exact ho', fun k e x he hx => ?_⟩, fun i j ui uj a b hij hi hj ha hb => ?_⟩
  · rcases Nat.lt_or_ge k ns.length with hk | hk
    · rw [List.getElem?_append_left hk] at he
      rw [List.getElem?_append_left (by omega)] at hx
      obtain ⟨⟨c0, c1, c2, c3, c4⟩, hn⟩ := hc k e x he hx
      refine ⟨⟨?_, ?_, ?_, ?_, ?_⟩, hn.grown ho hg⟩
      all_goals rw [List.getElem?_append_left (by omega)]
      · exact c0
      · exact c1
      · exact c2
      · exact c3
      · exact c4
    · rw [List.getElem?_append_right hk] at he
      have hk' : k = ns.length := by
        have := (List.getElem?_eq_some_iff.1 he).1
        simp at this
        omega
      subst hk'
      simp at he
      subst he
      rw [List.getElem?_append_right (by omega), h1, Nat.sub_self] at hx
      simp at hx
      subst hx
      refine ⟨⟨?_, ?_, ?_, ?_, ?_⟩, hu.grown ho hg⟩
      all_goals rw [List.getElem?_append_right (by omega)]
      · rw [show 5 * ns.length - xs'.length = 0 by omega]; rfl
      · rw [show 5 * ns.length + 1 - xs'.length = 1 by omega]; rfl
      · rw [show 5 * ns.length + 2 - xs'.length = 2 by omega]; rfl
      · rw [show 5 * ns.length + 3 - xs'.length = 3 by omega]; rfl
      · rw [show 5 * ns.length + 4 - xs'.length = 4 by omega]; rfl
  · rcases Nat.lt_or_ge j us.length with hj1 | hj1
    · rw [List.getElem?_append_left hj1] at hj
      rw [List.getElem?_append_left (by omega)] at hi
      exact h3 i j ui uj a b hij hi hj ha hb
    · rw [List.getElem?_append_right hj1] at hj
      have hj' : j = us.length := by
        have := (List.getElem?_eq_some_iff.1 hj).1
        simp at this
        omega
      subst hj'
      rw [Nat.sub_self] at hj
      simp at hj
      subst hj
      rw [List.getElem?_append_left hij] at hi
      exact hord i ui a b hi ha hb

set_option maxRecDepth 100000 in
set_option maxHeartbeats 4000000 in
theorem implPoints_loop (ts : List Int) (s : Sts) (At As : Option Addr) (ct cs : Nat) (w : World) (h1 : validB ts s = true) (hT : IntsV w 0 w.heap.size ts At ct) (hR : RepV w 0 w.heap.size s As cs) :
    Calls Tryz.prog 10 #[.agg #[.slice At ts.length ct, .slice As s.len cs]] w fun E w' => ∃ v us, E = .returned v ∧ PRowJ w' w.heap.size v (progPts s) us ∧ Below w.heap.size w w' := by
  have hb0 := (Below.refl w.heap.size w).alloc (Nat.le_refl _) (.cells #[.slice At ts.length ct, .slice As s.len cs] 26)
  have hT1 : IntsV (w.alloc (.cells #[.slice At ts.length ct, .slice As s.len cs] 26)) 0 (w.alloc (.cells #[.slice At ts.length ct, .slice As s.len cs] 26)).heap.size ts At ct := hT.below hb0 (by simp)
  have hR1 : RepV (w.alloc (.cells #[.slice At ts.length ct, .slice As s.len cs] 26)) 0 (w.alloc (.cells #[.slice At ts.length ct, .slice As s.len cs] 26)).heap.size s As cs := hR.below hb0 (by simp)
  have hz0 : (w.alloc (.cells #[.slice At ts.length ct, .slice As s.len cs] 26)).heap.size = w.heap.size + 1 := by simp
  have hS := graphOf_yes ts s At As ct cs _ h1 hT1 hR1
  have hq0 : (progPts s).length ≤ 61 := by
    have := s.npts_le
    have := valid_size h1
    rw [progPts_len]
    omega
  generalize progPts s = ds at hS hq0 ⊢
  obtain ⟨q, hq⟩ : ∃ q, q = ds.length := ⟨_, rfl⟩
  rw [← hq] at hq0
  have HN : Hid (ds.length = q) := hq.symm
  have HZ := Lib.hid hz0
  obtain ⟨i0, hi, hzz0, hzz1, hzz2⟩ := info_parts Tryz.infoPoint
  have HI := Lib.hid hi
  have HZ0 := Lib.hid hzz0
  have HZ1 := Lib.hid hzz1
  have HZ2 := Lib.hid hzz2
  obtain ⟨j0, hj, hyy0, hyy1, hyy2⟩ := info_parts Tryz.infoInt
  have HJ := Lib.hid hj
  have HY0 := Lib.hid hyy0
  have HY1 := Lib.hid hyy1
  have HY2 := Lib.hid hyy2
  clear hq h1 hz0 hi hzz0 hzz1 hzz2 hj hyy0 hyy1 hyy2
  go_enter Tryz.func10, Tryz.ntmps10
  go_wp2_with fail
  refine hS.mono ?_
  rintro E w1 ⟨C, rfl, hC, hG, hb1⟩
  rw [HZ.out] at hC hb1
  have hb : Below w.heap.size w w1 := hb0.trans (hb1.mono (by omega))
  have hzb := hb.size
  have hcnt := hG.count
  rw [HN.out] at hcnt
  have HG := Lib.hid hG
  have hCl := hG.lt
  have hst : Hid (PRowJ w1 w1.heap.size (.slice none 0 0) (ds.take 0) []) := ⟨rfl, ⟨[], World.ownsRow_nil w1 w1.heap.size 37 5, fun j d u hd => by simp at hd⟩, fun i j ui uj a b _ hi => by simp at hi⟩
  clear hG hb1 hT1 hR1 hS
  go_wp2_with fail
  go_loopw [5, 20] (fun v i wr => ∃ (k : Nat) (us : List Value), k ≤ q ∧ i = .int .i64 k ∧ Hid (PRowJ wr w1.heap.size v (ds.take k) us) ∧ Below w1.heap.size w1 wr) (fun _ i _ => q - (intOf i).toNat)
  case atStart => exact ⟨0, [], Nat.zero_le _, rfl, hst, Below.refl _ _⟩
  case round =>
    clear hst
    obtain ⟨k, us, hk, rfl, hrow, hbr⟩ := hrel
    have hzr := hbr.size
    by_cases hlt : k < q
    · have hkd : k < ds.length := by rw [HN.out]; exact hlt
      have hGr : Gr C wr ds := HG.out.kept (hbr.block C hCl)
      obtain ⟨n6, n45, n2, n0, n1, n2', n3⟩ := hGr.node (List.getElem?_eq_getElem hkd)
      obtain ⟨x4, n4⟩ := hGr.int_ (j := k * 7 + 4) (by omega)
      obtain ⟨x5, n5⟩ := hGr.int_ (j := k * 7 + 5) (by omega)
      have htake : ds.take (k + 1) = ds.take k ++ [ds[k]] := by rw [List.take_add_one, List.getElem?_eq_getElem hkd]; rfl
      have hno := nextOf_any C k ds[k]
      have hdk := List.getElem?_eq_getElem hkd
      generalize ds[k] = d at *
      obtain ⟨op, x, y, nn, nx⟩ := d
      simp only at n6 n45 n2 n0 n1 n2' n3
      have hbox := (Below.refl wr.heap.size wr).alloc (Nat.le_refl _) (.cells #[.int .i64 op, .int .i64 x, .int .i64 y, .int .i64 nn, .int .i64 x4, .int .i64 x5, .int .i64 nx.length] 57)
      have hno2 := hno ds (wr.alloc (.cells #[.int .i64 op, .int .i64 x, .int .i64 y, .int .i64 nn, .int .i64 x4, .int .i64 x5, .int .i64 nx.length] 57)) (hGr.alloc _) hdk
      have hxb := heap_alloc_new wr (.cells #[.int .i64 op, .int .i64 x, .int .i64 y, .int .i64 nn, .int .i64 x4, .int .i64 x5, .int .i64 nx.length] 57)
      have HXB := Lib.hid hxb
      have hzx : (wr.alloc (.cells #[.int .i64 op, .int .i64 x, .int .i64 y, .int .i64 nn, .int .i64 x4, .int .i64 x5, .int .i64 nx.length] 57)).heap.size = wr.heap.size + 1 := by simp
      have HZX := Lib.hid hzx
      have HTK := Lib.hid htake
      have HGR := Lib.hid hGr
      have HDK := Lib.hid hdk
      clear hno n45 htake hdk hxb hzx hGr
      go_wp2_with fail
      refine hno2.mono ?_
      rintro E w2 ⟨rfl, hb2⟩
      rw [HZX.out] at hb2
      have hs2 := hb2.size
      rw [HZX.out] at hs2
      have hbx2 : Below wr.heap.size wr w2 := hbox.trans (hb2.mono (by omega))
      have hCr : C < wr.heap.size := by omega
      have HB2 := Lib.hid ((hb2.block wr.heap.size (by omega)).trans HXB.out)
      have hcells : ∀ j u, (nx.map (Value.int .i64))[j]? = some u → w2.cell? ((⟨C, k * 7 + 4, none⟩ : Addr).add j) = some u := by
        intro j u hj
        rw [List.getElem?_map] at hj
        obtain ⟨v, hv, rfl⟩ := Option.map_eq_some_iff.1 hj
        rw [add_block]
        exact (hbx2.cell hCr).trans ((HGR.out.node HDK.out).2.1 j v hv)
      have HCE := Lib.hid hcells
      have hnil := Lib.hid (World.ownsRow_nil w2 w2.heap.size 3 1)
      clear hno2 hcells n6 n0 n1 n2' n3 n4 n5 hbox hb2
      go_wp2_with (at_builtin; refine wpList_append_own _ rfl _ _ 23 rfl w2.heap.size 3 j0 (.int .i64 0) 1 8 Tryz.underlying23 HJ.out HY0.out HY1.out HY2.out rfl (by decide) (.slice none 0 0) 0 [] rfl hnil.out ⟨C, k * 7 + 4, none⟩ nx.length 2 (nx.map (Value.int .i64)) rfl (by simp) ?pa1 ?pa2 ?pa3 ?pa4 ?pa5 ?_)
      try (case pa1 => exact HCE.out)
      try (case pa2 => intro u hu; rw [List.mem_map] at hu; obtain ⟨z, _, rfl⟩ := hu; rfl)
      try (case pa3 => unfold maxLen; omega)
      try (case pa4 => omega)
      try (case pa5 => exact Nat.le_refl _)
      intro v' w' hown' hg hne
      have hbn : Below w2.heap.size w2 w' := ⟨hg.os, hg.tape, hg.output, hg.size, fun i hi => hg.block i hi (by simp [Value.ownBlock])⟩
      have hRN : RowI w' w2.heap.size v' nx := hown'
      obtain ⟨An, cn, hvn⟩ := hRN.slice
      subst hvn
      have hBb := (hbn.block wr.heap.size (by omega)).trans HB2.out
      have c0 : w'.cell? ⟨wr.heap.size, 0, none⟩ = some (.int .i64 op) := (cell_of_block hBb 0).trans rfl
      have c1 : w'.cell? ⟨wr.heap.size, 1, none⟩ = some (.int .i64 x) := (cell_of_block hBb 1).trans rfl
      have c2 : w'.cell? ⟨wr.heap.size, 2, none⟩ = some (.int .i64 y) := (cell_of_block hBb 2).trans rfl
      have c3 : w'.cell? ⟨wr.heap.size, 3, none⟩ = some (.int .i64 nn) := (cell_of_block hBb 3).trans rfl
      have hsn := hbn.size
      have hbrn : Below wr.heap.size wr w' := hbx2.trans (hbn.mono (by omega))
      have HPJ := Lib.hid (hrow.out.below hbrn)
      have HRN := Lib.hid hRN
      have hord : Hid (∀ (i : Nat) (ui : Value) (a b : Nat), us[i]? = some ui → ui.ownBlock = some a → (Value.slice An nx.length cn).ownBlock = some b → a < b) := by
        intro i ui a b hi ha hb'
        have e1 := hrow.out.lt i ui a hi ha
        have e2 := (hRN.lt b hb').1
        omega
      obtain ⟨-, ⟨ys, hys, -⟩, -⟩ := id HPJ.out
      have htl : (ds.take k).length = k := by rw [List.length_take, HN.out]; omega
      rw [htl] at hys
      have HYS := Lib.hid hys
      have HTL := Lib.hid htl
      have hbw3 := hbr.trans (hbrn.mono hzr)
      clear hown' hg hne hbn hRN hBb hrow hys htl hnil HCE hbx2 hbrn
      go_wp2_with (at_builtin; refine wpList_append_own _ rfl _ _ 34 rfl w1.heap.size 37 i0 (.agg #[.int .i64 0, .int .i64 0, .int .i64 0, .int .i64 0, .slice none 0 0]) 5 56 Tryz.underlying34 HI.out HZ0.out HZ1.out HZ2.out rfl (by decide) _ _ _ rfl (HYS.out.alloc _) ⟨_, 0, none⟩ 1 1 [.int .i64 op, .int .i64 x, .int .i64 y, .int .i64 nn, .slice An nx.length cn] rfl rfl ?pb1 ?pb2 ?pb3 ?pb4 ?pb5 ?_)
      try (case pb1 => exact news1 (by simp) rfl)
      try (case pb2 => intro u hu; simp only [List.mem_cons, List.not_mem_nil, or_false] at hu; rcases hu with rfl | rfl | rfl | rfl | rfl <;> rfl)
      try (case pb3 => unfold maxLen; omega)
      try (case pb4 => omega)
      try (case pb5 => simp; omega)
      intro v2 w3 hown2 hg2 hne2
      have hbA := (Below.refl w'.heap.size w').alloc (Nat.le_refl _) (.cells #[.int .i64 op, .int .i64 x, .int .i64 y, .int .i64 nn, .slice An nx.length cn] 37)
      have hfin := PRowJ.snoc (d := ⟨op, x, y, nn, nx⟩) (HPJ.out.below hbA) ys (by rw [HTL.out]; exact HYS.out.alloc _) ((HRN.out.below hbA).mono (by omega)) hord.out hg2 (by rw [HTL.out]; exact hown2)
      rw [← HTK.out] at hfin
      have HF := Lib.hid hfin
      have hbw4 := (hbw3.alloc (by omega) (.cells #[.int .i64 op, .int .i64 x, .int .i64 y, .int .i64 nn, .slice An nx.length cn] 37)).grown hg2 (by simp; omega) (fun g hg' => (HYS.out.lt g hg').1)
      clear hown2 hg2 hne2 hbA hfin
      go_wp2_with fail
      go_roundw
      case rel => exact ⟨k + 1, us ++ [.slice An nx.length cn], by omega, by go_num, HF, hbw4⟩
      case measure => simp [intOf]; omega
    · have hk' : k = q := by omega
      subst hk'
      have hall : Hid (ds.take k = ds) := List.take_of_length_le (by rw [HN.out]; exact Nat.le_refl _)
      go_wp2_with fail
      go_ret
      exact ⟨_, us, rfl, by have := hrow.out; rw [hall.out] at this; exact this.mono hzb, hb.trans (hbr.mono hzb)⟩

def avV : Value → Option Addr
  | .slice A _ _ => A
  | _ => none

def ccV : Value → Nat
  | .slice _ _ c => c
  | _ => 0

set_option maxHeartbeats 1000000 in
theorem implPointsOf_any (ts : List Int) (s : Sts) (At As : Option Addr) (ct cs : Nat) (w : World) (hT : IntsV w 0 w.heap.size ts At ct) (hR : RepV w 0 w.heap.size s As cs) :
    Calls Tryz.prog 10 #[.agg #[.slice At ts.length ct, .slice As s.len cs]] w fun E w' => ∃ v us, E = .returned v ∧ PRowJ w' w.heap.size v (pointsB (validB ts s) s) us ∧ Below w.heap.size w w' := by
  by_cases h1 : validB ts s = true
  · have e0 : pointsB (validB ts s) s = progPts s := by simp [pointsB, h1]
    rw [e0]
    exact implPoints_loop ts s At As ct cs w h1 hT hR
  · have h1' : validB ts s = false := by simpa using h1
    have e0 : pointsB (validB ts s) s = [] := by simp [pointsB, h1']
    rw [e0]
    have hb0 := (Below.refl w.heap.size w).alloc (Nat.le_refl _) (.cells #[.slice At ts.length ct, .slice As s.len cs] 26)
    have hT1 : IntsV (w.alloc (.cells #[.slice At ts.length ct, .slice As s.len cs] 26)) 0 (w.alloc (.cells #[.slice At ts.length ct, .slice As s.len cs] 26)).heap.size ts At ct := hT.below hb0 (by simp)
    have hR1 : RepV (w.alloc (.cells #[.slice At ts.length ct, .slice As s.len cs] 26)) 0 (w.alloc (.cells #[.slice At ts.length ct, .slice As s.len cs] 26)).heap.size s As cs := hR.below hb0 (by simp)
    have hz0 : (w.alloc (.cells #[.slice At ts.length ct, .slice As s.len cs] 26)).heap.size = w.heap.size + 1 := by simp
    have hS := graphOf_no ts s At As ct cs _ h1' hT1 hR1
    have HZ := Lib.hid hz0
    have hfin : ∀ W : World, Hid (PRowJ W w.heap.size (.slice none 0 0) [] []) := fun W => ⟨rfl, ⟨[], World.ownsRow_nil W w.heap.size 37 5, fun j d u hd => by simp at hd⟩, fun i j ui uj a b _ hi => by simp at hi⟩
    clear h1 h1' hz0 e0
    go_enter Tryz.func10, Tryz.ntmps10
    go_wp2_with fail
    refine hS.mono ?_
    rintro E w1 ⟨rfl, hb1⟩
    rw [HZ.out] at hb1
    clear hS
    go_wp2_with fail
    go_ret
    exact ⟨_, [], rfl, (hfin _).out, hb0.trans (hb1.mono (by omega))⟩

theorem PRowJ.form {w : World} {B : Nat} {v : Value} {ns : List Nd} {us : List Value} (h : PRowJ w B v ns us) (h0 : 0 < ns.length) :
    ∃ g cap, v = .slice (some ⟨g, 0, none⟩) ns.length cap ∧ B ≤ g ∧ g < w.heap.size ∧ ns.length ≤ cap ∧ cap ≤ maxLen ∧ (∀ o, w.frozen? ⟨g, o, none⟩ = false) ∧ (∃ cur, w.heap[g]? = some (.cells cur 37 (0, 0))) ∧
      ∀ j d u, ns[j]? = some d → us[j]? = some u → (w.cell? ⟨g, j * 5, none⟩ = some (.int .i64 d.op) ∧ w.cell? ⟨g, j * 5 + 1, none⟩ = some (.int .i64 d.x) ∧ w.cell? ⟨g, j * 5 + 2, none⟩ = some (.int .i64 d.y) ∧ w.cell? ⟨g, j * 5 + 3, none⟩ = some (.int .i64 d.n) ∧ w.cell? ⟨g, j * 5 + 4, none⟩ = some u) ∧ RowI w B u d.next := by
  obtain ⟨h1, ⟨xs, ho, hc⟩, h3⟩ := h
  rcases ho.2 with ⟨_, h2⟩ | ⟨g, cap, cur, hv, hB, hg, hn, hm, _⟩
  · omega
  · subst hv
    refine ⟨g, cap, rfl, hB, heap_lt hg, hn, hm, fun o => frozen_of_block hg o, ⟨cur, hg⟩, fun j d u hd hu => ?_⟩
    obtain ⟨⟨c0, c1, c2, c3, c4⟩, hr⟩ := hc j d u hd hu
    have hj := (List.getElem?_eq_some_iff.1 hd).1
    refine ⟨⟨?_, ?_, ?_, ?_, ?_⟩, hr⟩
    · rw [ho.cellAt _ (by omega), Nat.mul_comm]; exact c0
    · rw [ho.cellAt _ (by omega), Nat.mul_comm]; exact c1
    · rw [ho.cellAt _ (by omega), Nat.mul_comm]; exact c2
    · rw [ho.cellAt _ (by omega), Nat.mul_comm]; exact c3
    · rw [ho.cellAt _ (by omega), Nat.mul_comm]; exact c4

theorem PRowJ.reads {w : World} {B : Nat} {v : Value} {ns : List Nd} {us : List Value} (h : PRowJ w B v ns us) : PtsV w v ns := by
  by_cases h0 : 0 < ns.length
  · obtain ⟨g, cap, hv, hB, hg, hn, hm, -, -, hc⟩ := h.form h0
    refine ⟨_, _, hv, hn, hm, fun _ => ⟨g, rfl, hg, fun k d hd => ?_⟩⟩
    have hk := (List.getElem?_eq_some_iff.1 hd).1
    obtain ⟨⟨c0, c1, c2, c3, c4⟩, hr⟩ := hc k d _ hd (List.getElem?_eq_getElem (by rw [h.1]; exact hk))
    obtain ⟨A, c, hu, hI⟩ := hr.ints
    rw [hu] at c4
    exact ⟨A, c, ⟨c0, c1, c2, c3, c4⟩, hI⟩
  · obtain ⟨h1, ⟨xs, ho, hc⟩, h3⟩ := h
    rcases ho.2 with ⟨h1, _⟩ | ⟨g, cap, cur, h1, h2, h3, h4, h5, _⟩
    · exact ⟨none, 0, by rw [h1]; simp; omega, by omega, by simp [maxLen], fun h => absurd h h0⟩
    · exact ⟨_, _, h1, h4, h5, fun h => absurd h h0⟩

end Go.Proofs.YtlddoookojjleaaGreatDoor
