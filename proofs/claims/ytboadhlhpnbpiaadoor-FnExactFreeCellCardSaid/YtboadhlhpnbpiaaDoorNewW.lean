/-
  At every memory and number, NewCell of the program answers as its model does, writes into nothing, and its answer is its own. Conditions: the sentinel error is laid as the program's text lays it.
-/
import Derived.Test.YtboadhlhpnbpiaaDoorCelC
import Derived.Test.YtboadhlhpnbpiaaDoorCelE
import Derived.Test.YtboadhlhpnbpiaaDoorCelS
import Derived.Test.YtboadhlhpnbpiaaDoorCelK2
import Derived.Test.YtboadhlhpnbpiaaDoorCelD
import Derived.Test.YtboadhlhpnbpiaaDoorNew
namespace Go.Proofs.YtboadhlhpnbpiaaDoor
open Go.RowKit Go.Deep
set_option linter.unusedVariables false

theorem newA_size {cs m : List CellD} {v : Int} {pr : Int × Int} {ok : Bool} (h : newA cs v = (m, pr, ok)) (hl : cs.length + tagSum cs ≤ 1048576) : m.length + tagSum m ≤ 2000000 := by
  unfold newA at h
  split at h
  · injection h with h _
    subst h
    rw [tagSum_snoc]
    simp only [List.length_append, List.length_cons, List.length_nil]
    omega
  · injection h with h _
    subst h
    simp [tagSum]

theorem below_span_ {lo hi : Nat} {W w w' : World} (h : Below W.heap.size W w) (hs : Span lo hi w w') (hB : W.heap.size ≤ lo) : Below W.heap.size W w' :=
  h.trans (hs.below hB h.size)

def NewPost (m : List CellD) (p0 p1 : Int) (ok : Bool) (w : World) (E : Ending) (w' : World) : Prop := ∃ A n c, E = .returned (.tuple #[.slice A n c, .agg #[.int .i64 p0, .int .i64 p1], .bool ok]) ∧ RowC w' w.heap.size (.slice A n c) m ∧ Below w.heap.size w w'

theorem spec_new (cs : List CellD) (A : Option Addr) (q c : Nat) (v : Int) (w : World) (h : RdC w (.slice A q c) cs) (hl : cs.length + tagSum cs ≤ 1048600) {m : List CellD} {p0 p1 : Int} {ok : Bool} (hm : newA cs v = (m, (p0, p1), ok)) :
    Calls Tryd.prog 11 #[.slice A q c, .int .i64 v] w (NewPost m p0 p1 ok w) := by
  have h1 := specNewCell_any cs A q c v w h hl
  rw [hm] at h1
  exact h1

theorem impl_new (cs : List CellD) (A : Option Addr) (q c : Nat) (v : Int) (w : World) (T : TypeId) (u : Value) (h : RdC w (.slice A q c) cs) (hl : cs.length + tagSum cs ≤ 1048590) (hG : ErrI w (.iface T u)) {m : List CellD} {p0 p1 : Int} {ok : Bool} (hm : newA cs v = (m, (p0, p1), ok)) :
    Calls Tryd.prog 13 #[.slice A q c, .int .i64 v] w (NewPost m p0 p1 ok w) := by
  have h1 := implNewCell_any cs A q c v w T u h hl hG
  rw [hm] at h1
  exact h1

set_option maxRecDepth 100000 in
set_option maxHeartbeats 2000000 in
theorem walkNewCell (cs : List CellD) (A : Option Addr) (q c : Nat) (v : Int) (W : World) (T : TypeId) (u : Value) (h : RdC W (.slice A q c) cs) (hG : ErrI W (.iface T u)) :
    Calls Tryd.prog 3 #[.slice A q c, .int .i64 v] W fun e w' => e = .returned (.bool true) ∧ Below W.heap.size W w' := by
  have H := Lib.hid h
  have HG := Lib.hid hG
  clear h hG
  by_cases hsz : cs.length + tagSum cs ≤ 1048576
  · skip
    have hsub : Hid (subI 1048576 (cs.length + tagSum cs) = 1048576 - (cs.length + tagSum cs : Nat)) := if_pos (by omega)
    have hpos : ¬ (1048576 : Int) - (cs.length + tagSum cs : Nat) < 0 := by omega
    obtain ⟨m, ⟨p0, p1⟩, ok, hm⟩ : ∃ m pr ok, newA cs v = (m, pr, ok) := ⟨_, _, _, rfl⟩
    have hml : m.length + tagSum m ≤ 2000000 := newA_size hm hsz
    have HM := Lib.hid hm
    obtain ⟨kk, hkk⟩ : ∃ kk, endC 1 cs = kk := ⟨_, rfl⟩
    have hkpos : ¬ kk < 0 := by rw [← hkk, endC_eq]; omega
    have HKK := Lib.hid hkk
    obtain ⟨km, hkm⟩ : ∃ km, endC 1 m = km := ⟨_, rfl⟩
    have hmpos : ¬ km < 0 := by rw [← hkm, endC_eq]; omega
    have HKM := Lib.hid hkm
    have hok : ((ok != ok) : Bool) = false := by simp
    have hkn : ((km != km) : Bool) = false := by simp
    clear hkk hkm hm
    go_enter Tryd.func3, Tryd.ntmps3
    go_wp2_with fail
    refine (szCellS_any cs A q c 1048576 W H.out (by omega) (by omega)).mono ?_
    rintro E w1 ⟨he, hb⟩
    rw [hsub.out] at he
    subst he
    have hB1 := hb
    have sz1 := hb.size
    clear hb
    go_wp2_with fail
    refine (toCellS_any cs A q c w1 (H.out.below hB1) hsz).mono ?_
    rintro E w2 ⟨rfl, hr, hb⟩
    have hB2 := hB1.trans (hb.mono hB1.size)
    have sz2 := hb.size
    clear hB1
    have HR := Lib.hid hr
    clear hr hb
    go_wp2_with fail
    refine (spec_new cs _ q q v w2 HR.out.reads (by omega) HM.out).mono ?_
    rintro E w3 ⟨A0, n0, c0, rfl, hr, hb⟩
    have hn0 := hr.reads.len.1
    subst hn0
    have H0 := Lib.hid hr.cap
    have hB3 := hB2.trans (hb.mono hB2.size)
    have sz3 := hb.size
    clear hB2
    clear hr hb HR
    go_wp2_with fail
    have hb := (Below.refl w3.heap.size w3).alloc (Nat.le_refl _) (.cells #[.int .i64 p0, .int .i64 p1] 26)
    have hn := heap_alloc_new w3 (.cells #[.int .i64 p0, .int .i64 p1] 26)
    have hz : (w3.alloc (.cells #[.int .i64 p0, .int .i64 p1] 26)).heap.size = w3.heap.size + 1 := by simp
    obtain ⟨w4, hnw⟩ : ∃ x, w3.alloc (.cells #[.int .i64 p0, .int .i64 p1] 26) = x := ⟨_, rfl⟩
    rw [hnw] at hb hn hz ⊢
    have H0 := Lib.hid (H0.out.below hb)
    have hB4 := hB3.trans (hb.mono hB3.size)
    have sz4 := hb.size
    clear hB3
    have P7 := Lib.hid hn
    have zP7 := Nat.le_of_eq hz.symm
    clear hb hn hnw hz
    refine (toCellS_any cs A q c w4 (H.out.below hB4) hsz).mono ?_
    rintro E w5 ⟨rfl, hr, hb⟩
    have H0 := Lib.hid (H0.out.below hb)
    have P7 := Lib.hid ((hb.block w3.heap.size (heap_lt P7.out)).trans P7.out)
    have hB5 := hB4.trans (hb.mono hB4.size)
    have sz5 := hb.size
    clear hB4
    have HX := Lib.hid hr.cap
    clear hr hb
    go_wp2_with fail
    refine (impl_new cs _ q q v w5 T u HX.out.reads (by omega) (HG.out.below hB5) HM.out).mono ?_
    rintro E w6 ⟨A1, n1, c1, rfl, hr, hb⟩
    have hn1 := hr.reads.len.1
    subst hn1
    have H1 := Lib.hid hr.cap
    have H0 := Lib.hid (H0.out.below hb)
    have HX := Lib.hid (HX.out.below hb)
    have P7 := Lib.hid ((hb.block w3.heap.size (heap_lt P7.out)).trans P7.out)
    have hB6 := hB5.trans (hb.mono hB5.size)
    have sz6 := hb.size
    clear hB5
    clear hr hb
    go_wp2_with fail
    have hb := (Below.refl w6.heap.size w6).alloc (Nat.le_refl _) (.cells #[.int .i64 p0, .int .i64 p1] 26)
    have hn := heap_alloc_new w6 (.cells #[.int .i64 p0, .int .i64 p1] 26)
    have hz : (w6.alloc (.cells #[.int .i64 p0, .int .i64 p1] 26)).heap.size = w6.heap.size + 1 := by simp
    obtain ⟨w7, hnw⟩ : ∃ x, w6.alloc (.cells #[.int .i64 p0, .int .i64 p1] 26) = x := ⟨_, rfl⟩
    rw [hnw] at hb hn hz ⊢
    have H0 := Lib.hid (H0.out.below hb)
    have HX := Lib.hid (HX.out.below hb)
    have H1 := Lib.hid (H1.out.below hb)
    have P7 := Lib.hid ((hb.block w3.heap.size (heap_lt P7.out)).trans P7.out)
    have hB7 := hB6.trans (hb.mono hB6.size)
    have sz7 := hb.size
    clear hB6
    have P11 := Lib.hid hn
    have zP11 := Nat.le_of_eq hz.symm
    clear hb hn hnw hz
    refine (eqCellS_any m A1 A0 m.length c1 c0 w7 H1.out.reads H0.out.reads).mono ?_
    rintro E w8 ⟨rfl, hb⟩
    have H0 := Lib.hid (H0.out.below hb)
    have HX := Lib.hid (HX.out.below hb)
    have H1 := Lib.hid (H1.out.below hb)
    have P7 := Lib.hid ((hb.block w3.heap.size (heap_lt P7.out)).trans P7.out)
    have P11 := Lib.hid ((hb.block w6.heap.size (heap_lt P11.out)).trans P11.out)
    have hB8 := hB7.trans (hb.mono hB7.size)
    have sz8 := hb.size
    clear hB7
    clear hb
    have cP110 := (cell_of_block P11.out 0).trans (show _ = some (.int .i64 p0) from rfl)
    have cP111 := (cell_of_block P11.out 1).trans (show _ = some (.int .i64 p1) from rfl)
    have cP70 := (cell_of_block P7.out 0).trans (show _ = some (.int .i64 p0) from rfl)
    have cP71 := (cell_of_block P7.out 1).trans (show _ = some (.int .i64 p1) from rfl)
    go_wp2_with fail
    refine (eqPointer_any p0 p1 w8).mono ?_
    rintro E w9 ⟨rfl, hb⟩
    clear cP110 cP111 cP70 cP71
    have H0 := Lib.hid (H0.out.below hb)
    have HX := Lib.hid (HX.out.below hb)
    have H1 := Lib.hid (H1.out.below hb)
    have P7 := Lib.hid ((hb.block w3.heap.size (heap_lt P7.out)).trans P7.out)
    have P11 := Lib.hid ((hb.block w6.heap.size (heap_lt P11.out)).trans P11.out)
    have hB9 := hB8.trans (hb.mono hB8.size)
    have sz9 := hb.size
    clear hB8
    clear hb
    go_wp2_with fail
    refine (toCellS_any cs A q c w9 (H.out.below hB9) hsz).mono ?_
    rintro E w10 ⟨rfl, hr, hb⟩
    have H0 := Lib.hid (H0.out.below hb)
    have HX := Lib.hid (HX.out.below hb)
    have H1 := Lib.hid (H1.out.below hb)
    have P7 := Lib.hid ((hb.block w3.heap.size (heap_lt P7.out)).trans P7.out)
    have P11 := Lib.hid ((hb.block w6.heap.size (heap_lt P11.out)).trans P11.out)
    have hB10 := hB9.trans (hb.mono hB9.size)
    have sz10 := hb.size
    clear hB9
    have HR := Lib.hid hr
    clear hr hb
    go_wp2_with fail
    refine (eqCellS_any cs _ _ q q q w10 HX.out.reads HR.out.reads).mono ?_
    rintro E w11 ⟨rfl, hb⟩
    have H0 := Lib.hid (H0.out.below hb)
    have HX := Lib.hid (HX.out.below hb)
    have H1 := Lib.hid (H1.out.below hb)
    have P7 := Lib.hid ((hb.block w3.heap.size (heap_lt P7.out)).trans P7.out)
    have P11 := Lib.hid ((hb.block w6.heap.size (heap_lt P11.out)).trans P11.out)
    have hB11 := hB10.trans (hb.mono hB10.size)
    have sz11 := hb.size
    clear hB10
    clear hb HR
    go_wp2_with fail
    refine (markCellS_any cs w4.heap.size w5.heap.size _ 1 w11 HX.out (by omega) (by omega) (by omega)).mono ?_
    rintro E w12 ⟨rfl, -, hsp, hz⟩
    rw [HKK.out]
    have H0 := Lib.hid (H0.out.span hsp (.inr (by omega)))
    have H1 := Lib.hid (H1.out.span hsp (.inl (by omega)))
    have P7 := Lib.hid ((hsp.block w3.heap.size (heap_lt P7.out) (.inl (by omega))).trans P7.out)
    have P11 := Lib.hid ((hsp.block w6.heap.size (heap_lt P11.out) (.inr (by omega))).trans P11.out)
    have hB12 : Below W.heap.size W w12 := below_span_ hB11 hsp (by omega)
    have sz12 := Nat.le_of_eq hz.symm
    clear hsp hz hB11 HX
    go_wp2_with fail
    refine (eqCellS_any m A1 A0 m.length c1 c0 w12 H1.out.reads H0.out.reads).mono ?_
    rintro E w13 ⟨rfl, hb⟩
    have H0 := Lib.hid (H0.out.below hb)
    have H1 := Lib.hid (H1.out.below hb)
    have P7 := Lib.hid ((hb.block w3.heap.size (heap_lt P7.out)).trans P7.out)
    have P11 := Lib.hid ((hb.block w6.heap.size (heap_lt P11.out)).trans P11.out)
    have hB13 := hB12.trans (hb.mono hB12.size)
    have sz13 := hb.size
    clear hB12
    clear hb
    have cP110 := (cell_of_block P11.out 0).trans (show _ = some (.int .i64 p0) from rfl)
    have cP111 := (cell_of_block P11.out 1).trans (show _ = some (.int .i64 p1) from rfl)
    have cP70 := (cell_of_block P7.out 0).trans (show _ = some (.int .i64 p0) from rfl)
    have cP71 := (cell_of_block P7.out 1).trans (show _ = some (.int .i64 p1) from rfl)
    go_wp2_with fail
    refine (eqPointer_any p0 p1 w13).mono ?_
    rintro E w14 ⟨rfl, hb⟩
    clear cP110 cP111 cP70 cP71
    have H0 := Lib.hid (H0.out.below hb)
    have H1 := Lib.hid (H1.out.below hb)
    have P7 := Lib.hid ((hb.block w3.heap.size (heap_lt P7.out)).trans P7.out)
    have P11 := Lib.hid ((hb.block w6.heap.size (heap_lt P11.out)).trans P11.out)
    have hB14 := hB13.trans (hb.mono hB13.size)
    have sz14 := hb.size
    clear hB13
    clear hb
    go_wp2_with fail
    refine (markCellS_any m w5.heap.size w6.heap.size _ 1 w14 H1.out (by omega) (by omega) (by omega)).mono ?_
    rintro E w15 ⟨rfl, hmk, hsp, hz⟩
    rw [HKM.out]
    have H1 := Lib.hid hmk
    have H0 := Lib.hid (H0.out.span hsp (.inr (by omega)))
    have P7 := Lib.hid ((hsp.block w3.heap.size (heap_lt P7.out) (.inl (by omega))).trans P7.out)
    have P11 := Lib.hid ((hsp.block w6.heap.size (heap_lt P11.out) (.inr (by omega))).trans P11.out)
    have hB15 : Below W.heap.size W w15 := below_span_ hB14 hsp (by omega)
    have sz15 := Nat.le_of_eq hz.symm
    clear hsp hz hmk hB14
    go_wp2_with fail
    refine (heldCellS_any m A1 m.length c1 1 w15 H1.out.reads (by omega) (by omega) (by omega)).mono ?_
    rintro E wx ⟨rfl, hx⟩
    subst hx
    rw [HKM.out]
    go_wp2_with fail
    refine (toCellS_any cs A q c w15 (H.out.below hB15) hsz).mono ?_
    rintro E w16 ⟨rfl, hr, hb⟩
    have H0 := Lib.hid (H0.out.below hb)
    have H1 := Lib.hid (H1.out.below hb)
    have P7 := Lib.hid ((hb.block w3.heap.size (heap_lt P7.out)).trans P7.out)
    have P11 := Lib.hid ((hb.block w6.heap.size (heap_lt P11.out)).trans P11.out)
    have hB16 := hB15.trans (hb.mono hB15.size)
    have sz16 := hb.size
    clear hB15
    have HR := Lib.hid hr
    clear hr hb
    go_wp2_with fail
    refine (impl_new cs _ q q v w16 T u HR.out.reads (by omega) (HG.out.below hB16) HM.out).mono ?_
    rintro E w17 ⟨A2, n2, c2, rfl, hr, hb⟩
    have hn2 := hr.reads.len.1
    subst hn2
    have H2 := Lib.hid hr.cap
    have H0 := Lib.hid (H0.out.below hb)
    have H1 := Lib.hid (H1.out.below hb)
    have P7 := Lib.hid ((hb.block w3.heap.size (heap_lt P7.out)).trans P7.out)
    have P11 := Lib.hid ((hb.block w6.heap.size (heap_lt P11.out)).trans P11.out)
    have hB17 := hB16.trans (hb.mono hB16.size)
    have sz17 := hb.size
    clear hB16
    clear hr hb HR
    go_wp2_with fail
    have hb := (Below.refl w17.heap.size w17).alloc (Nat.le_refl _) (.cells #[.int .i64 p0, .int .i64 p1] 26)
    have hn := heap_alloc_new w17 (.cells #[.int .i64 p0, .int .i64 p1] 26)
    have hz : (w17.alloc (.cells #[.int .i64 p0, .int .i64 p1] 26)).heap.size = w17.heap.size + 1 := by simp
    obtain ⟨w18, hnw⟩ : ∃ x, w17.alloc (.cells #[.int .i64 p0, .int .i64 p1] 26) = x := ⟨_, rfl⟩
    rw [hnw] at hb hn hz ⊢
    have H0 := Lib.hid (H0.out.below hb)
    have H1 := Lib.hid (H1.out.below hb)
    have H2 := Lib.hid (H2.out.below hb)
    have P7 := Lib.hid ((hb.block w3.heap.size (heap_lt P7.out)).trans P7.out)
    have P11 := Lib.hid ((hb.block w6.heap.size (heap_lt P11.out)).trans P11.out)
    have hB18 := hB17.trans (hb.mono hB17.size)
    have sz18 := hb.size
    clear hB17
    have P17 := Lib.hid hn
    have zP17 := Nat.le_of_eq hz.symm
    clear hb hn hnw hz
    refine (eqCellS_any m A2 A0 m.length c2 c0 w18 H2.out.reads H0.out.reads).mono ?_
    rintro E w19 ⟨rfl, hb⟩
    have H0 := Lib.hid (H0.out.below hb)
    have H1 := Lib.hid (H1.out.below hb)
    have H2 := Lib.hid (H2.out.below hb)
    have P7 := Lib.hid ((hb.block w3.heap.size (heap_lt P7.out)).trans P7.out)
    have P11 := Lib.hid ((hb.block w6.heap.size (heap_lt P11.out)).trans P11.out)
    have P17 := Lib.hid ((hb.block w17.heap.size (heap_lt P17.out)).trans P17.out)
    have hB19 := hB18.trans (hb.mono hB18.size)
    have sz19 := hb.size
    clear hB18
    clear hb
    have cP170 := (cell_of_block P17.out 0).trans (show _ = some (.int .i64 p0) from rfl)
    have cP171 := (cell_of_block P17.out 1).trans (show _ = some (.int .i64 p1) from rfl)
    have cP70 := (cell_of_block P7.out 0).trans (show _ = some (.int .i64 p0) from rfl)
    have cP71 := (cell_of_block P7.out 1).trans (show _ = some (.int .i64 p1) from rfl)
    go_wp2_with fail
    refine (eqPointer_any p0 p1 w19).mono ?_
    rintro E w20 ⟨rfl, hb⟩
    clear cP170 cP171 cP70 cP71
    have H0 := Lib.hid (H0.out.below hb)
    have H1 := Lib.hid (H1.out.below hb)
    have H2 := Lib.hid (H2.out.below hb)
    have P7 := Lib.hid ((hb.block w3.heap.size (heap_lt P7.out)).trans P7.out)
    have P11 := Lib.hid ((hb.block w6.heap.size (heap_lt P11.out)).trans P11.out)
    have P17 := Lib.hid ((hb.block w17.heap.size (heap_lt P17.out)).trans P17.out)
    have hB20 := hB19.trans (hb.mono hB19.size)
    have sz20 := hb.size
    clear hB19
    clear hb
    go_wp2_with fail
    refine (heldCellS_any m A1 m.length c1 1 w20 H1.out.reads (by omega) (by omega) (by omega)).mono ?_
    rintro E wx ⟨rfl, hx⟩
    subst hx
    rw [HKM.out]
    go_wp2_with fail
    go_ret
    exact ⟨rfl, hB20⟩
  · have hsub : Hid (subI 1048576 (cs.length + tagSum cs) = -1) := if_neg (by omega)
    go_enter Tryd.func3, Tryd.ntmps3
    go_wp2_with fail
    refine (szCellS_any cs A q c 1048576 W H.out (by omega) (by omega)).mono ?_
    rintro E w1 ⟨he, hb1⟩
    rw [hsub.out] at he
    subst he
    go_wp2_with fail
    go_ret
    exact ⟨rfl, hb1⟩

end Go.Proofs.YtboadhlhpnbpiaaDoor
