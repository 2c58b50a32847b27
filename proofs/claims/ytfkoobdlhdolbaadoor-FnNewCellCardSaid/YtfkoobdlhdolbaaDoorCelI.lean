/-
  Valid memories, by the program.
-/
import Derived.Test.YtfkoobdlhdolbaaDoorCelB
namespace Go.Proofs.YtfkoobdlhdolbaaDoor
open Go.RowKit Go.Deep
set_option linter.unusedVariables false

theorem cellB_eq (val nx : Int) (al : Bool) (ts : List TagD) : cellB ⟨val, al, nx, ts⟩ = true ↔ (0 ≤ val ∧ val ≤ 9) ∧ 1 ≤ nx ∧ nx ≤ 1000 ∧ stackB ts nx = true := by
  constructor
  · intro h
    have h := cellB_out h
    exact ⟨⟨h.val0, h.val9⟩, h.next1, h.nextM, stackB_true ⟨h.len1, h.lenM, h.head, h.ids, h.dist⟩⟩
  · rintro ⟨⟨h1, h2⟩, h3, h4, h5⟩
    have h5 := stackB_out h5
    exact cellB_true ⟨h1, h2, h3, h4, h5.len1, h5.lenM, h5.head, h5.ids, h5.dist⟩

set_option maxRecDepth 100000 in
set_option maxHeartbeats 4000000 in
theorem cellBroken_any (val nx : Int) (al : Bool) (ts : List TagD) (A : Option Addr) (q c : Nat) (w : World) (h : RdT w (.slice A q c) ts) :
    Calls Tryd.prog 49 #[.agg #[.int .i64 val, .bool al, .int .i64 nx, .slice A q c]] w (BoolPost (!cellB ⟨val, al, nx, ts⟩) w) := by
  have hbw : ∀ o : Obj, Below w.heap.size w (w.alloc o) := fun o => (Below.refl w.heap.size w).alloc (Nat.le_refl _) o
  have HBW := Lib.hid hbw
  have H := Lib.hid h
  clear hbw h
  have hN := isNumber_any val
  have HNum := Lib.hid hN
  clear hN
  by_cases h1 : 0 ≤ val ∧ val ≤ 9
  · have hd1 : decide (0 ≤ val ∧ val ≤ 9) = true := decide_eq_true h1
    by_cases h2 : nx < 1
    · have hB : cellB ⟨val, al, nx, ts⟩ = false := by
        cases hb : cellB ⟨val, al, nx, ts⟩ with
        | false => rfl
        | true => have := (cellB_eq _ _ _ _).1 hb; omega
      have HB := Lib.hid hB
      have hd2 : decide (nx < 1) = true := decide_eq_true h2
      clear hB
      go_enter Tryd.func49, Tryd.ntmps49
      go_wp2_with fail
      refine (HNum.out _).mono ?_
      rintro E w1 ⟨rfl, rfl⟩
      rw [hd1]
      go_wp2_with fail
      go_ret
      exact ⟨by rw [HB.out]; rfl, HBW.out _⟩
    · have hd2 : decide (nx < 1) = false := decide_eq_false h2
      by_cases h3 : 1000 < nx
      · have hB : cellB ⟨val, al, nx, ts⟩ = false := by
          cases hb : cellB ⟨val, al, nx, ts⟩ with
          | false => rfl
          | true => have := (cellB_eq _ _ _ _).1 hb; omega
        have HB := Lib.hid hB
        have hd3 : decide (1000 < nx) = true := decide_eq_true h3
        clear hB
        go_enter Tryd.func49, Tryd.ntmps49
        go_wp2_with fail
        refine (HNum.out _).mono ?_
        rintro E w1 ⟨rfl, rfl⟩
        rw [hd1]
        go_wp2_with fail
        go_ret
        exact ⟨by rw [HB.out]; rfl, HBW.out _⟩
      · have hd3 : decide (1000 < nx) = false := decide_eq_false h3
        have hB : cellB ⟨val, al, nx, ts⟩ = stackB ts nx := by
          cases hs : stackB ts nx with
          | true => exact (cellB_eq _ _ _ _).2 ⟨h1, by omega, by omega, hs⟩
          | false =>
            cases hb : cellB ⟨val, al, nx, ts⟩ with
            | false => rfl
            | true => have := ((cellB_eq _ _ _ _).1 hb).2.2.2; rw [hs] at this; cases this
        have HB := Lib.hid hB
        clear hB
        have hS := stackValid_any ts A q c nx _ (H.out.below (HBW.out (.cells #[.int .i64 val, .bool al, .int .i64 nx, .slice A q c] 33))) (by omega) (by omega)
        have HS := Lib.hid hS
        clear hS
        obtain ⟨sb, hsb⟩ : ∃ sb, stackB ts nx = sb := ⟨_, rfl⟩
        rw [hsb] at HS HB
        clear hsb
        go_enter Tryd.func49, Tryd.ntmps49
        go_wp2_with fail
        refine (HNum.out _).mono ?_
        rintro E w1 ⟨rfl, rfl⟩
        rw [hd1]
        go_wp2_with fail
        refine HS.out.mono ?_
        rintro E w1 ⟨rfl, hb1⟩
        have hbb := (HBW.out _).trans (hb1.mono (by simp))
        clear hb1
        go_wp2_with fail
        go_ret
        exact ⟨by rw [HB.out]; rfl, hbb⟩
  · have hd1 : decide (0 ≤ val ∧ val ≤ 9) = false := decide_eq_false h1
    have hB : cellB ⟨val, al, nx, ts⟩ = false := by
      cases hb : cellB ⟨val, al, nx, ts⟩ with
      | false => rfl
      | true => exact absurd ((cellB_eq _ _ _ _).1 hb).1 h1
    have HB := Lib.hid hB
    clear hB h1
    go_enter Tryd.func49, Tryd.ntmps49
    go_wp2_with fail
    refine (HNum.out _).mono ?_
    rintro E w1 ⟨rfl, rfl⟩
    rw [hd1]
    go_wp2_with fail
    go_ret
    exact ⟨by rw [HB.out]; rfl, HBW.out _⟩

/-- Where the first broken cell is. -/
def IdxPost (cs : List CellD) (w : World) (E : Ending) (w' : World) : Prop := ∃ z : Int, E = .returned (.int .i64 z) ∧ Below w.heap.size w w' ∧ (0 ≤ z ↔ ¬ ∀ (i : Nat) (c : CellD), cs[i]? = some c → CellOk c)

set_option maxRecDepth 100000 in
set_option maxHeartbeats 4000000 in
theorem indexFunc_any (cs : List CellD) (A : Option Addr) (q c : Nat) (w : World) (h : RdC w (.slice A q c) cs) :
    Calls Tryd.prog 78 #[.slice A q c, .func (.func 49) #[] #[]] w (IdxPost cs w) := by
  obtain ⟨hq, hc1, hc2⟩ := h.len
  unfold maxLen at hc2
  have HN := Lib.hid hq
  have H := Lib.hid h
  clear hq h
  go_enter Tryd.func78, Tryd.ntmps78
  go_wp2_with fail
  go_loopw [8] (fun i wr => ∃ k : Nat, k ≤ q ∧ i = .int .i64 k ∧ Below w.heap.size w wr ∧ Hid (∀ (i : Nat) (c : CellD), i < k → cs[i]? = some c → CellOk c)) (fun i _ => q - (intOf i).toNat)
  case atStart => exact ⟨0, Nat.zero_le _, rfl, Below.refl _ _, fun i t hi => absurd hi (by omega)⟩
  case round =>
    obtain ⟨k, hk, rfl, hb, hK⟩ := hrel
    by_cases hlt : k < q
    · obtain ⟨b, val, al, nx, ts, Au, cu, rfl, hbb, hd, ⟨a0, a1, a2, a3⟩, hT, t1, t2⟩ := (H.out.below hb).elem (k := k) (by rw [← HN.out]; exact hlt)
      have HD := Lib.hid hd
      have hcall := cellBroken_any val nx al ts Au ts.length cu wr hT
      have hbz := hb.size
      cases hB : cellB ⟨val, al, nx, ts⟩ with
      | true =>
        rw [hB, Bool.not_true] at hcall
        have hK2 : Hid (∀ (i : Nat) (c : CellD), i < k + 1 → cs[i]? = some c → CellOk c) := by
          intro i c' hi hc'
          by_cases e : i = k
          · subst e
            rw [HD.out] at hc'
            injection hc' with hc'
            subst hc'
            exact cellB_out hB
          · exact hK.out i c' (by omega) hc'
        clear hB hd hK hT
        go_wp2_with fail
        refine hcall.mono ?_
        rintro E w1 ⟨rfl, hb1⟩
        clear hcall
        go_wp2_with fail
        go_roundw
        case rel => exact ⟨k + 1, by omega, by go_num, hb.trans (hb1.mono hbz), hK2⟩
        case measure => simp [intOf]; omega
      | false =>
        rw [hB, Bool.not_false] at hcall
        have HM := Lib.hid (show ¬ ∀ (i : Nat) (c : CellD), cs[i]? = some c → CellOk c from fun h => cellB_not hB (h k _ HD.out))
        clear hB hd hK hT
        go_wp2_with fail
        refine hcall.mono ?_
        rintro E w1 ⟨rfl, hb1⟩
        clear hcall
        go_wp2_with fail
        go_ret
        exact ⟨k, rfl, hb.trans (hb1.mono hbz), fun _ => HM.out, fun _ => by omega⟩
    · have hk' : k = q := by omega
      subst hk'
      go_wp2_with fail
      go_ret
      exact ⟨-1, rfl, hb, fun h => absurd h (by omega), fun h => absurd (fun (i : Nat) (c : CellD) (hc : cs[i]? = some c) => hK.out i c (by rw [HN.out]; exact (List.getElem?_eq_some_iff.1 hc).1) hc) h⟩

/-- Whether there is a broken cell. -/
def AnyPost (cs : List CellD) (w : World) (E : Ending) (w' : World) : Prop := ∃ z : Bool, E = .returned (.bool z) ∧ Below w.heap.size w w' ∧ (z = true ↔ ¬ ∀ (i : Nat) (c : CellD), cs[i]? = some c → CellOk c)

theorem containsFunc_any (cs : List CellD) (A : Option Addr) (q c : Nat) (w : World) (h : RdC w (.slice A q c) cs) :
    Calls Tryd.prog 48 #[.slice A q c, .func (.func 49) #[] #[]] w (AnyPost cs w) := by
  go_enter Tryd.func48, Tryd.ntmps48
  go_wp2_with fail
  refine (indexFunc_any cs A q c w h).mono ?_
  rintro E w1 ⟨z, rfl, hb1, hz⟩
  have HZ := Lib.hid hz
  clear hz
  by_cases h0 : 0 ≤ z
  · have t2 : decide (0 ≤ z) = true := decide_eq_true h0
    go_wp2_with fail
    go_ret
    exact ⟨true, rfl, hb1, fun _ => HZ.out.1 h0, fun _ => rfl⟩
  · have t2 : decide (0 ≤ z) = false := decide_eq_false h0
    go_wp2_with fail
    go_ret
    exact ⟨false, rfl, hb1, ⟨fun h => absurd h (by decide), fun h => absurd (HZ.out.2 h) (by omega)⟩⟩

set_option maxRecDepth 100000 in
set_option maxHeartbeats 4000000 in
theorem implCellsValid_any (cs : List CellD) (A : Option Addr) (q c : Nat) (w : World) (h : RdC w (.slice A q c) cs) :
    Calls Tryd.prog 19 #[.slice A q c] w (BoolPost (memB cs) w) := by
  obtain ⟨hq, hc1, hc2⟩ := h.len
  have HN := Lib.hid hq
  have H := Lib.hid h
  unfold maxLen at hc2
  clear hq h
  by_cases h200 : q ≤ 200
  · have t1 : decide ((q : Int) ≤ 200) = true := decide_eq_true (by omega)
    go_enter Tryd.func19, Tryd.ntmps19
    go_wp2_with fail
    refine (containsFunc_any cs A q c w H.out).mono ?_
    rintro E w1 ⟨z, rfl, hb1, hz⟩
    have HZ := Lib.hid hz
    clear hz
    cases z with
    | true =>
      have HM := Lib.hid (memB_false fun (h : MemOk cs) => HZ.out.1 rfl h.2)
      go_wp2_with fail
      go_ret
      exact ⟨by rw [HM.out]; rfl, hb1⟩
    | false =>
      have HM := Lib.hid (memB_true (m := cs) ⟨by have := HN.out; omega, Classical.byContradiction fun h => by have := HZ.out.2 h; cases this⟩)
      go_wp2_with fail
      go_ret
      exact ⟨by rw [HM.out]; rfl, hb1⟩
  · have t1 : decide ((q : Int) ≤ 200) = false := decide_eq_false (by omega)
    have HM := Lib.hid (memB_false fun (h : MemOk cs) => by have := h.1; have := HN.out; omega)
    go_enter Tryd.func19, Tryd.ntmps19
    go_wp2_with fail
    go_ret
    exact ⟨by rw [HM.out]; rfl, Below.refl _ _⟩

end Go.Proofs.YtfkoobdlhdolbaaDoor
