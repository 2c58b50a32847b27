/-
  The model's FormatProgram.
-/
import Derived.Test.YtcaklhempmlpgaaTextD
namespace Go.Proofs.Ytcaklhempmlpgaa
open Go.RowKit Go.Deep
set_option linter.unusedVariables false

theorem typesB_elem' {ts : List Int} (h : typesB ts = true) {k : Nat} {v : Int} (hv : ts[k]? = some v) : 1 ≤ v ∧ v ≤ 4 := by
  simp only [typesB, Bool.and_eq_true, List.all_eq_true, decide_eq_true_eq] at h
  exact h.1 v (List.mem_of_getElem? hv)

/-- The letter of a type. -/
def letT (t : Int) : UInt8 := if t = 1 then 105 else if t = 2 then 98 else if t = 3 then 114 else 109

/-- The text of a program. -/
def progT (ts : List Int) (s : Sts) : List UInt8 := (ts.map letT ++ [58]) ++ listT s

/-- What FormatProgram answers. -/
def formatT (ts : List Int) (s : Sts) : List UInt8 := if validB ts s then progT ts s else []

set_option maxRecDepth 100000 in
set_option maxHeartbeats 2000000 in
theorem l1Program_any (ts : List Int) (s : Sts) (At As : Option Addr) (ct cs : Nat) (w : World) (hty : typesB ts = true) (hok : okT s) (hsz : s.size ≤ 30) (hT : IntsV w 0 w.heap.size ts At ct) (hR : RepV w 0 w.heap.size s As cs) :
    Calls Try.prog 49 #[.agg #[.slice At ts.length ct, .slice As s.len cs]] w (Txt w (progT ts s)) := by
  have hb0 := (Below.refl w.heap.size w).alloc (Nat.le_refl _) (.cells #[.slice At ts.length ct, .slice As s.len cs] 26)
  have hz0 : (w.alloc (.cells #[.slice At ts.length ct, .slice As s.len cs] 26)).heap.size = w.heap.size + 1 := by simp
  have hB := Lib.hid (heap_alloc_new w (.cells #[.slice At ts.length ct, .slice As s.len cs] 26))
  have hl6 : ts.length ≤ 6 := by
    simp only [typesB, Bool.and_eq_true, decide_eq_true_eq] at hty
    exact hty.2
  have HTY := Lib.hid hty
  have hle := listT_le s
  have HZ := Lib.hid hz0
  clear hty hz0
  have hst := Below.refl (w.heap.size + 1) (w.alloc (.cells #[.slice At ts.length ct, .slice As s.len cs] 26))
  have hs0 : w.heap.size + 1 ≤ (w.alloc (.cells #[.slice At ts.length ct, .slice As s.len cs] 26)).heap.size := by rw [HZ.out]; exact Nat.le_refl _
  go_enter Try.func49, Try.ntmps49
  go_wp2_with fail
  go_loopw [3, 4] (fun v i wr => ∃ k : Nat, ∃ l : List UInt8, k ≤ ts.length ∧ i = .int .i64 k ∧ v = .string ⟨l.toArray⟩ ∧ Below (w.heap.size + 1) (w.alloc (.cells #[.slice At ts.length ct, .slice As s.len cs] 26)) wr ∧ w.heap.size + 1 ≤ wr.heap.size ∧ Hid (l = (ts.take k).map letT)) (fun _ i _ => ts.length - (intOf i).toNat)
  case atStart => exact ⟨0, [], Nat.zero_le _, rfl, rfl, hst, hs0, rfl⟩
  case round =>
    clear hst hs0
    obtain ⟨k, l, hk, rfl, rfl, hb, hwz, hl⟩ := hrel
    have hbk := (hb.block w.heap.size (by omega)).trans hB.out
    have p0 : wr.cell? ⟨w.heap.size, 0, none⟩ = some (.slice At ts.length ct) := (cell_of_block hbk 0).trans rfl
    have p1 : wr.cell? ⟨w.heap.size, 1, none⟩ = some (.slice As s.len cs) := (cell_of_block hbk 1).trans rfl
    have hbb : Below w.heap.size w wr := hb0.trans (hb.mono (by omega))
    have hll : Hid (l.length = k) := by
      unfold Hid
      rw [hl.out]
      simp
      omega
    have hl0 : l.length ≤ k := by rw [hll.out]; exact Nat.le_refl _
    clear hbk hll
    by_cases hlt : k < ts.length
    · obtain ⟨b, v, rfl, -, hbl, hx, hc⟩ := (hT.below hbb hbb.size).elem hlt
      have hv := typesB_elem' HTY.out hx
      have hnew : Hid (l ++ [letT v] = (ts.take (k + 1)).map letT) := by
        unfold Hid
        rw [hl.out, List.take_add_one, hx]
        simp
      obtain ⟨hv1, hv4⟩ := hv
      have hcl : ∀ o, (wr.alloc o).cell? (b.add k) = some (.int .i64 v) := fun o => (World.cell?_alloc_lt _ _ _ (by rw [block_add]; exact hbl)).trans hc
      have hp0 : ∀ o, (wr.alloc o).cell? ⟨w.heap.size, 0, none⟩ = some (.slice (some b) ts.length ct) := fun o => (World.cell?_alloc_lt _ _ _ (by simp; omega)).trans p0
      clear hx hc hl
      by_cases h1 : v = 1
      · subst h1
        have ka := fun W => bytes_add Try.prog l [105] W (by omega) (by simp)
        go_wp2_with fail
        go_roundw
        case rel => exact ⟨k + 1, l ++ [105], by omega, by go_num, rfl, hb.alloc (by omega) _, by simp; omega, hnew⟩
        case measure => simp [intOf]; omega
      by_cases h2 : v = 2
      · subst h2
        have ka := fun W => bytes_add Try.prog l [98] W (by omega) (by simp)
        go_wp2_with fail
        go_roundw
        case rel => exact ⟨k + 1, l ++ [98], by omega, by go_num, rfl, hb.alloc (by omega) _, by simp; omega, hnew⟩
        case measure => simp [intOf]; omega
      by_cases h3 : v = 3
      · subst h3
        have ka := fun W => bytes_add Try.prog l [114] W (by omega) (by simp)
        go_wp2_with fail
        go_roundw
        case rel => exact ⟨k + 1, l ++ [114], by omega, by go_num, rfl, hb.alloc (by omega) _, by simp; omega, hnew⟩
        case measure => simp [intOf]; omega
      obtain rfl : v = 4 := by omega
      have ka := fun W => bytes_add Try.prog l [109] W (by omega) (by simp)
      go_wp2_with fail
      go_roundw
      case rel => exact ⟨k + 1, l ++ [109], by omega, by go_num, rfl, hb.alloc (by omega) _, by simp; omega, hnew⟩
      case measure => simp [intOf]; omega
    · have hk' : k = ts.length := by omega
      subst hk'
      have hl2 : Hid (l = ts.map letT) := by unfold Hid; rw [hl.out, List.take_length]
      have ka := fun W => bytes_add Try.prog l [58] W (by omega) (by simp)
      have kb := fun W => bytes_add Try.prog (l ++ [58]) (listT s) W (by simp; omega) (by omega)
      have hst2 : Hid (progT ts s = (l ++ [58]) ++ listT s) := by unfold Hid progT; rw [hl2.out]
      have hLs := specList_any (s.size + 1) s As cs wr (by omega) (by omega) hok (hR.below hbb hbb.size)
      unfold Txt at hLs
      generalize hg1 : (⟨((l ++ [58]) ++ listT s).toArray⟩ : ByteArray) = S2 at kb
      generalize (⟨(l ++ [58]).toArray⟩ : ByteArray) = S1 at ka kb
      generalize (⟨(listT s).toArray⟩ : ByteArray) = T1 at kb hLs
      have HG := Lib.hid hg1
      clear hg1 hl
      go_wp2_with fail
      refine hLs.mono ?_
      rintro E w2 ⟨rfl, hb2⟩
      go_wp2_with fail
      go_ret
      exact ⟨by rw [hst2.out, HG.out]; rfl, hbb.trans (hb2.mono hbb.size)⟩

end Go.Proofs.Ytcaklhempmlpgaa
