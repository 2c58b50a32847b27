/-
  FormatProgram of the program and of its model.
-/
import Derived.Test.YtgjecledchhlgaaTextE
import Derived.Test.YtgjecledchhlgaaTextH
import Derived.Test.YtgjecledchhlgaaImpl
namespace Go.Proofs.Ytgjecledchhlgaa
open Go.RowKit Go.Deep
set_option linter.unusedVariables false

set_option maxRecDepth 100000 in
set_option maxHeartbeats 2000000 in
theorem letter_any (t : Int) (w : World) (h1 : 1 ≤ t) (h4 : t ≤ 4) : Calls Try.prog 65 #[.int .i64 t] w fun e w' => e = .returned (.string ⟨([letT t] : List UInt8).toArray⟩) ∧ Below w.heap.size w w' := by
  by_cases e1 : t = 1
  · subst e1
    go_enter Try.func65, Try.ntmps65
    go_wp2
    go_ret
    exact ⟨rfl, by repeat (first | exact Below.refl _ _ | refine Below.setCell ?_ (by simp) _ | refine Below.alloc ?_ (by simp) _)⟩
  by_cases e2 : t = 2
  · subst e2
    go_enter Try.func65, Try.ntmps65
    go_wp2
    go_ret
    exact ⟨rfl, by repeat (first | exact Below.refl _ _ | refine Below.setCell ?_ (by simp) _ | refine Below.alloc ?_ (by simp) _)⟩
  by_cases e3 : t = 3
  · subst e3
    go_enter Try.func65, Try.ntmps65
    go_wp2
    go_ret
    exact ⟨rfl, by repeat (first | exact Below.refl _ _ | refine Below.setCell ?_ (by simp) _ | refine Below.alloc ?_ (by simp) _)⟩
  obtain rfl : t = 4 := by omega
  go_enter Try.func65, Try.ntmps65
  go_wp2
  go_ret
  exact ⟨rfl, by repeat (first | exact Below.refl _ _ | refine Below.setCell ?_ (by simp) _ | refine Below.alloc ?_ (by simp) _)⟩

theorem valid_parts {ts : List Int} {s : Sts} (h : validB ts s = true) : typesB ts = true ∧ okT s ∧ s.size ≤ 30 := by
  simp only [validB, Bool.and_eq_true, decide_eq_true_eq] at h
  have h6 : ts.length ≤ 6 := by
    have := h.1
    simp only [typesB, Bool.and_eq_true, decide_eq_true_eq] at this
    exact this.2
  exact ⟨h.1, okT_of_body h6 s 4 h.2.1, h.2.2⟩

set_option maxHeartbeats 1000000 in
theorem specFormat_any (ts : List Int) (s : Sts) (At As : Option Addr) (ct cs : Nat) (w : World) (hsz : s.size ≤ 1048576) (hT : IntsV w 0 w.heap.size ts At ct) (hR : RepV w 0 w.heap.size s As cs) :
    Calls Try.prog 34 #[.agg #[.slice At ts.length ct, .slice As s.len cs]] w (Txt w (formatT ts s)) := by
  have hb0 := (Below.refl w.heap.size w).alloc (Nat.le_refl _) (.cells #[.slice At ts.length ct, .slice As s.len cs] 38)
  have hT1 : IntsV (w.alloc (.cells #[.slice At ts.length ct, .slice As s.len cs] 38)) 0 (w.alloc (.cells #[.slice At ts.length ct, .slice As s.len cs] 38)).heap.size ts At ct := hT.below hb0 (by simp)
  have hR1 : RepV (w.alloc (.cells #[.slice At ts.length ct, .slice As s.len cs] 38)) 0 (w.alloc (.cells #[.slice At ts.length ct, .slice As s.len cs] 38)).heap.size s As cs := hR.below hb0 (by simp)
  have hc0 : (w.alloc (.cells #[.slice At ts.length ct, .slice As s.len cs] 38)).heap[w.heap.size]? = _ := heap_alloc_new w _
  have HC := Lib.hid hc0
  clear hc0
  by_cases h1 : validB ts s = true
  · have H1 := Lib.hid h1
    have e0 : Hid (formatT ts s = progT ts s) := by simp [Hid, formatT, h1]
    obtain ⟨hty, hok, h30⟩ := valid_parts h1
    have HTY := Lib.hid hty
    have HOK := Lib.hid hok
    clear h1 hty hok
    go_enter Try.func34, Try.ntmps34
    go_wp2_with fail
    refine (specProgramValid_any ts s At As ct cs _ hsz hT1 hR1).mono ?_
    rintro E w1 ⟨he, hb1⟩
    rw [H1.out] at he
    subst he
    have hb1' := hb1.block w.heap.size (by simp)
    rw [HC.out] at hb1'
    have d0 : w1.cell? ⟨w.heap.size, 0, none⟩ = some (.slice At ts.length ct) := (cell_of_block hb1' 0).trans rfl
    have d1 : w1.cell? ⟨w.heap.size, 1, none⟩ = some (.slice As s.len cs) := (cell_of_block hb1' 1).trans rfl
    have hs1 := hb1.size
    have hb : Below w.heap.size w w1 := hb0.trans (hb1.mono (by simp))
    have hT2 := hT1.below hb1 hs1
    have hR2 := hR1.below hb1 hs1
    clear hb1' hb1 hT1 hR1
    go_wp2_with fail
    refine (l1Program_any ts s At As ct cs _ HTY.out HOK.out h30 hT2 hR2).mono ?_
    rintro E w2 ⟨rfl, hb2⟩
    go_wp2_with fail
    go_ret
    exact ⟨by rw [e0.out]; rfl, hb.trans (hb2.mono hb.size)⟩
  · have H1 : Hid (validB ts s = false) := by unfold Hid; simpa using h1
    have e0 : Hid (formatT ts s = []) := by simp [Hid, formatT, h1]
    clear h1
    go_enter Try.func34, Try.ntmps34
    go_wp2_with fail
    refine (specProgramValid_any ts s At As ct cs _ hsz hT1 hR1).mono ?_
    rintro E w1 ⟨he, hb1⟩
    rw [H1.out] at he
    subst he
    have hb : Below w.heap.size w w1 := hb0.trans (hb1.mono (by simp))
    go_wp2_with fail
    go_ret
    exact ⟨by rw [e0.out]; rfl, hb⟩

set_option maxRecDepth 100000 in
set_option maxHeartbeats 2000000 in
theorem implFormat_any (ts : List Int) (s : Sts) (At As : Option Addr) (ct cs : Nat) (w : World) (hT : IntsV w 0 w.heap.size ts At ct) (hR : RepV w 0 w.heap.size s As cs) :
    Calls Try.prog 35 #[.agg #[.slice At ts.length ct, .slice As s.len cs]] w (Txt w (formatT ts s)) := by
  have hb0 := (Below.refl w.heap.size w).alloc (Nat.le_refl _) (.cells #[.slice At ts.length ct, .slice As s.len cs] 38)
  have hT1 : IntsV (w.alloc (.cells #[.slice At ts.length ct, .slice As s.len cs] 38)) 0 (w.alloc (.cells #[.slice At ts.length ct, .slice As s.len cs] 38)).heap.size ts At ct := hT.below hb0 (by simp)
  have hR1 : RepV (w.alloc (.cells #[.slice At ts.length ct, .slice As s.len cs] 38)) 0 (w.alloc (.cells #[.slice At ts.length ct, .slice As s.len cs] 38)).heap.size s As cs := hR.below hb0 (by simp)
  have hc0 : (w.alloc (.cells #[.slice At ts.length ct, .slice As s.len cs] 38)).heap[w.heap.size]? = _ := heap_alloc_new w _
  have hz0 : (w.alloc (.cells #[.slice At ts.length ct, .slice As s.len cs] 38)).heap.size = w.heap.size + 1 := by simp
  have HC := Lib.hid hc0
  have HZ := Lib.hid hz0
  clear hc0 hz0
  by_cases h1 : validB ts s = true
  · have H1 := Lib.hid h1
    have e0 : Hid (formatT ts s = progT ts s) := by simp [Hid, formatT, h1]
    obtain ⟨hty, hok, h30⟩ := valid_parts h1
    have hl6 : ts.length ≤ 6 := by
      simp only [typesB, Bool.and_eq_true, decide_eq_true_eq] at hty
      exact hty.2
    have hle := listT_le s
    have HTY := Lib.hid hty
    have HOK := Lib.hid hok
    clear h1 hty hok
    go_enter Try.func35, Try.ntmps35
    go_wp2_with fail
    refine (programValid_any ts s At As ct cs _ hT1 hR1).mono ?_
    rintro E w1 ⟨he, hb1⟩
    rw [H1.out] at he
    subst he
    rw [HZ.out] at hb1
    have hs1 := hb1.size
    rw [HZ.out] at hs1
    have hb1' := (hb1.block w.heap.size (by omega)).trans HC.out
    have d0 : w1.cell? ⟨w.heap.size, 0, none⟩ = some (.slice At ts.length ct) := (cell_of_block hb1' 0).trans rfl
    have hb : Below w.heap.size w w1 := hb0.trans (hb1.mono (by omega))
    have HB1 := Lib.hid hb1'
    clear hb1' hb1 hT1 hR1
    go_wp2_with fail
    go_loopw [3, 12] (fun v i wr => ∃ k : Nat, ∃ l : List UInt8, k ≤ ts.length ∧ i = .int .i64 k ∧ v = .string ⟨l.toArray⟩ ∧ Below w1.heap.size w1 wr ∧ Hid (l = (ts.take k).map letT)) (fun _ i _ => ts.length - (intOf i).toNat)
    case atStart => exact ⟨0, [], Nat.zero_le _, rfl, rfl, Below.refl _ _, rfl⟩
    case round =>
      obtain ⟨k, l, hk, rfl, rfl, hbr, hl⟩ := hrel
      have hbk := (hbr.block w.heap.size (by omega)).trans HB1.out
      have p1 : wr.cell? ⟨w.heap.size, 1, none⟩ = some (.slice As s.len cs) := (cell_of_block hbk 1).trans rfl
      have hbb : Below w.heap.size w wr := hb.trans (hbr.mono (by omega))
      have hll : Hid (l.length = k) := by
        unfold Hid
        rw [hl.out]
        simp
        omega
      have hl0 : l.length ≤ k := by rw [hll.out]; exact Nat.le_refl _
      clear hbk hll d0
      by_cases hlt : k < ts.length
      · obtain ⟨b, v, rfl, -, hbl, hx, hc⟩ := (hT.below hbb hbb.size).elem hlt
        have hv := typesB_elem' HTY.out hx
        have hnew : Hid (l ++ [letT v] = (ts.take (k + 1)).map letT) := by
          unfold Hid
          rw [hl.out, List.take_add_one, hx]
          simp
        obtain ⟨hv1, hv4⟩ := hv
        have ka := fun W => bytes_add Try.prog l [letT v] W (by omega) (by simp)
        clear hx hl
        generalize hg1 : (⟨(l ++ [letT v]).toArray⟩ : ByteArray) = S1 at ka
        generalize hg2 : (⟨([letT v] : List UInt8).toArray⟩ : ByteArray) = S2 at ka
        have HG1 := Lib.hid hg1
        have HG2 := Lib.hid hg2
        clear hg1 hg2
        go_wp2_with fail
        refine (letter_any v _ hv1 hv4).mono ?_
        rintro E w2 ⟨he, hb2⟩
        rw [HG2.out] at he
        subst he
        go_wp2_with fail
        go_roundw
        case rel => exact ⟨k + 1, l ++ [letT v], by omega, by go_num, by rw [HG1.out], hbr.trans (hb2.mono hbr.size), hnew⟩
        case measure => simp [intOf]; omega
      · have hk' : k = ts.length := by omega
        subst hk'
        have hl2 : Hid (l = ts.map letT) := by unfold Hid; rw [hl.out, List.take_length]
        have ka := fun W => bytes_add Try.prog l [58] W (by omega) (by simp)
        have kb := fun W => bytes_add Try.prog (l ++ [58]) (listT s) W (by simp; omega) (by omega)
        have hst2 : Hid (progT ts s = (l ++ [58]) ++ listT s) := by unfold Hid progT; rw [hl2.out]
        have hLs := listText_any (s.size + 1) s As cs wr (by omega) (by omega) HOK.out (hR.below hbb hbb.size)
        unfold Txt at hLs
        generalize hg1 : (⟨((l ++ [58]) ++ listT s).toArray⟩ : ByteArray) = S2 at kb
        generalize (⟨(l ++ [58]).toArray⟩ : ByteArray) = S1 at ka kb
        generalize (⟨(listT s).toArray⟩ : ByteArray) = T1 at kb hLs
        have HG := Lib.hid hg1
        clear hg1 hl
        go_wp2_with fail
        refine hLs.mono ?_
        rintro E w2 ⟨rfl, hb2⟩
        go_wp2_with fail
        go_ret
        exact ⟨by rw [e0.out, hst2.out, HG.out]; rfl, hbb.trans (hb2.mono hbb.size)⟩
  · have H1 : Hid (validB ts s = false) := by unfold Hid; simpa using h1
    have e0 : Hid (formatT ts s = []) := by simp [Hid, formatT, h1]
    clear h1
    go_enter Try.func35, Try.ntmps35
    go_wp2_with fail
    refine (programValid_any ts s At As ct cs _ hT1 hR1).mono ?_
    rintro E w1 ⟨he, hb1⟩
    rw [H1.out] at he
    subst he
    have hb : Below w.heap.size w w1 := hb0.trans (hb1.mono (by simp))
    go_wp2_with fail
    go_ret
    exact ⟨by rw [e0.out]; rfl, hb⟩

end Go.Proofs.Ytgjecledchhlgaa
