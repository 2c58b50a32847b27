/-
  Valid memories, and the cells that are alive, by the model.
-/
import Derived.Test.YtfkoobdlhdolbaaDoorCelV
namespace Go.Proofs.YtfkoobdlhdolbaaDoor
open Go.RowKit Go.Deep
set_option linter.unusedVariables false

set_option maxRecDepth 100000 in
set_option maxHeartbeats 4000000 in
theorem specCellsValid_any (cs : List CellD) (A : Option Addr) (q c : Nat) (w : World) (h : RdC w (.slice A q c) cs) :
    Calls Tryd.prog 39 #[.slice A q c] w (BoolPost (memB cs) w) := by
  obtain ⟨hq, hc1, hc2⟩ := h.len
  unfold maxLen at hc2
  have HN := Lib.hid hq
  have H := Lib.hid h
  clear hq h
  go_enter Tryd.func39, Tryd.ntmps39
  go_wp2_with fail
  go_loopw [3] (fun i wr => ∃ k : Nat, k ≤ q ∧ k ≤ 201 ∧ i = .int .i64 k ∧ Below w.heap.size w wr ∧ Hid (∀ (i : Nat) (c : CellD), i < k → cs[i]? = some c → CellOk c)) (fun i _ => q - (intOf i).toNat)
  case atStart => exact ⟨0, Nat.zero_le _, Nat.zero_le _, rfl, Below.refl _ _, fun i t hi => absurd hi (by omega)⟩
  case round =>
    obtain ⟨k, hk, hk2, rfl, hb, hK⟩ := hrel
    by_cases hlt : k < q
    · by_cases h200 : k ≤ 200
      · obtain ⟨b, val, al, nx, ts, Au, cu, rfl, hbb, hd, ⟨a0, a1, a2, a3⟩, hT, t1, t2⟩ := (H.out.below hb).elem (k := k) (by rw [← HN.out]; exact hlt)
        have HD := Lib.hid hd
        have hcall := l6Cell_any val nx al ts Au ts.length cu wr hT
        have hbz := hb.size
        cases hB : cellB ⟨val, al, nx, ts⟩ with
        | true =>
          rw [hB] at hcall
          have hK2 : Hid (∀ (i : Nat) (c : CellD), i < k + 1 → cs[i]? = some c → CellOk c) := by
            intro i c' hi hc'
            by_cases e : i = k
            · subst e
              rw [HD.out] at hc'
              injection hc' with hc'
              subst hc'
              exact cellB_out hB
            · exact hK.out i c' (by omega) hc'
          clear hB hd hK hT
          go_wp2_with fail
          refine hcall.mono ?_
          rintro E w1 ⟨rfl, hb1⟩
          clear hcall
          go_wp2_with fail
          go_roundw
          case rel => exact ⟨k + 1, by omega, by omega, by go_num, hb.trans (hb1.mono hbz), hK2⟩
          case measure => simp [intOf]; omega
        | false =>
          rw [hB] at hcall
          have HM := Lib.hid (memB_false fun (h : MemOk cs) => cellB_not hB (h.2 k _ HD.out))
          clear hB hd hK hT
          go_wp2_with fail
          refine hcall.mono ?_
          rintro E w1 ⟨rfl, hb1⟩
          clear hcall
          go_wp2_with fail
          go_ret
          exact ⟨by rw [HM.out]; rfl, hb.trans (hb1.mono hbz)⟩
      · have HM := Lib.hid (memB_false fun (h : MemOk cs) => by have := h.1; have := HN.out; omega)
        have t1 : decide ((k : Int) ≤ 200) = false := decide_eq_false (by omega)
        have t2 : decide ((q : Int) ≤ 200) = false := decide_eq_false (by omega)
        go_wp2_with fail
        go_ret
        exact ⟨by rw [HM.out]; rfl, hb⟩
    · have hk' : k = q := by omega
      subst hk'
      by_cases h200 : k ≤ 200
      · have HM := Lib.hid (memB_true (m := cs) ⟨by have := HN.out; omega, fun i c' hc' => hK.out i c' (by rw [HN.out]; exact (List.getElem?_eq_some_iff.1 hc').1) hc'⟩)
        have t2 : decide ((k : Int) ≤ 200) = true := decide_eq_true (by omega)
        go_wp2_with fail
        go_ret
        exact ⟨by rw [HM.out]; rfl, hb⟩
      · have HM := Lib.hid (memB_false fun (h : MemOk cs) => by have := h.1; have := HN.out; omega)
        have t2 : decide ((k : Int) ≤ 200) = false := decide_eq_false (by omega)
        go_wp2_with fail
        go_ret
        exact ⟨by rw [HM.out]; rfl, hb⟩

end Go.Proofs.YtfkoobdlhdolbaaDoor
