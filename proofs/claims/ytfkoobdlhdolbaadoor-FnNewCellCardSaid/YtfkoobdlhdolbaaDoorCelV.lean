/-
  Valid cells and memories, by the model.
-/
import Derived.Test.YtfkoobdlhdolbaaDoorCelS0
import Derived.Deep.QuietTactic
import Derived.BigQuiet
import Derived.WalkSmall
namespace Go.Proofs.YtfkoobdlhdolbaaDoor
open Go.RowKit Go.Deep
set_option linter.unusedVariables false

set_option maxHeartbeats 1000000 in
theorem l6Tag_any (ts : List TagD) (A : Option Addr) (q c : Nat) (id : Int) (w : World) (h : RdT w (.slice A q c) ts) :
    Calls Tryd.prog 77 #[.slice A q c, .int .i64 id] w fun e w' => e = .returned (.int .i64 (tagI id ts)) ∧ w = w' := by
  obtain ⟨hq, hc1, hc2⟩ := h.len
  unfold maxLen at hc2
  have HN := Lib.hid hq
  have H := Lib.hid h
  clear hq h
  go_enter Tryd.func77, Tryd.ntmps77
  go_wp2_with fail
  go_loop [5] (fun i => ∃ k : Nat, k ≤ q ∧ i = .int .i64 k ∧ Hid (∀ (j : Nat) (t : TagD), j < k → ts[j]? = some t → t.id ≠ id)) (fun i => q - (intOf i).toNat)
  case atStart => exact ⟨0, Nat.zero_le _, rfl, fun j t hj => absurd hj (by omega)⟩
  case round =>
    obtain ⟨k, hk, rfl, hn⟩ := hrel
    by_cases hlt : k < q
    · obtain ⟨b, tid, u, rfl, hbb, hd, a0, a1⟩ := H.out.elem (k := k) (by rw [← HN.out]; exact hlt)
      have HD := Lib.hid hd
      clear hd
      by_cases he : tid = id
      · have hI : Hid (tagI id ts = k) := by
          show tagI id ts = k
          unfold tagI
          rw [tagAt_mk HD.out he hn.out]
        go_wp2_with fail
        go_ret
        exact ⟨by rw [hI.out]; rfl, rfl⟩
      · have hn2 : Hid (∀ (j : Nat) (t : TagD), j < k + 1 → ts[j]? = some t → t.id ≠ id) := by
          intro j t hj ht
          by_cases e : j = k
          · subst e
            rw [HD.out] at ht
            injection ht with ht
            subst ht
            exact he
          · exact hn.out j t (by omega) ht
        go_wp2_with fail
        go_round
        case rel => exact ⟨k + 1, by omega, by go_num, hn2⟩
        case measure => simp [intOf]; omega
    · have hk' : k = q := by omega
      subst hk'
      have hI : Hid (tagI id ts = -1) := by
        show tagI id ts = -1
        unfold tagI
        rw [tagAt_mk_none fun j s hs => hn.out j s (by rw [HN.out]; exact (List.getElem?_eq_some_iff.1 hs).1) hs]
      go_wp2_with fail
      go_ret
      exact ⟨by rw [hI.out]; rfl, rfl⟩


/-- What a test of a cell answers. -/
def BoolPost (b : Bool) (w : World) (E : Ending) (w' : World) : Prop := E = .returned (.bool b) ∧ Below w.heap.size w w'

set_option maxRecDepth 100000 in
set_option maxHeartbeats 4000000 in
theorem l6Cell_any (val nx : Int) (al : Bool) (ts : List TagD) (A : Option Addr) (q c : Nat) (w : World) (h : RdT w (.slice A q c) ts) :
    Calls Tryd.prog 70 #[.agg #[.int .i64 val, .bool al, .int .i64 nx, .slice A q c]] w (BoolPost (cellB ⟨val, al, nx, ts⟩) w) := by
  obtain ⟨hq, hc1, hc2⟩ := h.len
  unfold maxLen at hc2
  have HN := Lib.hid hq
  have H := Lib.hid h
  have hbw : ∀ o : Obj, Below w.heap.size w (w.alloc o) := fun o => (Below.refl w.heap.size w).alloc (Nat.le_refl _) o
  have HBW := Lib.hid hbw
  clear hq h hbw
  by_cases f_val0 : val < 0
  · have hB : cellB ⟨val, al, nx, ts⟩ = false := cellB_false fun h => by have := h.val0; have := HN.out; simp only at *; omega
    rw [hB]
    clear hB
    go_enter Tryd.func70, Tryd.ntmps70
    go_wp2_with fail
    go_ret
    exact ⟨rfl, HBW.out _⟩
  by_cases f_val9 : 9 < val
  · have hB : cellB ⟨val, al, nx, ts⟩ = false := cellB_false fun h => by have := h.val9; have := HN.out; simp only at *; omega
    rw [hB]
    clear hB
    go_enter Tryd.func70, Tryd.ntmps70
    go_wp2_with fail
    go_ret
    exact ⟨rfl, HBW.out _⟩
  by_cases f_next1 : nx < 1
  · have hB : cellB ⟨val, al, nx, ts⟩ = false := cellB_false fun h => by have := h.next1; have := HN.out; simp only at *; omega
    rw [hB]
    clear hB
    go_enter Tryd.func70, Tryd.ntmps70
    go_wp2_with fail
    go_ret
    exact ⟨rfl, HBW.out _⟩
  by_cases f_nextM : 1000 < nx
  · have hB : cellB ⟨val, al, nx, ts⟩ = false := cellB_false fun h => by have := h.nextM; have := HN.out; simp only at *; omega
    rw [hB]
    clear hB
    go_enter Tryd.func70, Tryd.ntmps70
    go_wp2_with fail
    go_ret
    exact ⟨rfl, HBW.out _⟩
  by_cases f_lenM : 200 < q
  · have hB : cellB ⟨val, al, nx, ts⟩ = false := cellB_false fun h => by have := h.lenM; have := HN.out; simp only at *; omega
    rw [hB]
    clear hB
    go_enter Tryd.func70, Tryd.ntmps70
    go_wp2_with fail
    go_ret
    exact ⟨rfl, HBW.out _⟩
  by_cases f_len1 : q = 0
  · have hB : cellB ⟨val, al, nx, ts⟩ = false := cellB_false fun h => by have := h.len1; have := HN.out; simp only at *; omega
    rw [hB]
    clear hB
    go_enter Tryd.func70, Tryd.ntmps70
    go_wp2_with fail
    go_ret
    exact ⟨rfl, HBW.out _⟩
  obtain ⟨b, id0, u0, rfl, hbb, hd0, p0, p1⟩ := H.out.elem (k := 0) (by have := HN.out; omega)
  have hb0 : b.add (0 * 2) = b := by simp [Addr.add]
  rw [hb0] at p0 p1
  clear hb0
  have HD0 := Lib.hid hd0
  clear hd0
  have e1 : (w.alloc (.cells #[.int .i64 val, .bool al, .int .i64 nx, .slice (some b) q c] 33)).cell? ⟨b.block, b.off + 1, none⟩ = some (.bool u0) := ((HBW.out _).cell (p := ⟨b.block, b.off + 1, none⟩) hbb).trans p1
  by_cases hu : u0 = true
  · obtain rfl := hu
    have hw1 : Below (w.heap.size + 1) (w.alloc (.cells #[.int .i64 val, .bool al, .int .i64 nx, .slice (some b) q c] 33)) (w.alloc (.cells #[.int .i64 val, .bool al, .int .i64 nx, .slice (some b) q c] 33)) := Below.refl _ _
    have hX := heap_alloc_new w (.cells #[.int .i64 val, .bool al, .int .i64 nx, .slice (some b) q c] 33)
    have hZ : (w.alloc (.cells #[.int .i64 val, .bool al, .int .i64 nx, .slice (some b) q c] 33)).heap.size = w.heap.size + 1 := by simp
    have HX := Lib.hid hX
    have HZ := Lib.hid hZ
    clear hX hZ
    have t200 : decide (200 < (q : Int)) = false := decide_eq_false (by omega)
    have t0 : ((q : Int) == 0) = false := by simp; omega
    go_enter Tryd.func70, Tryd.ntmps70
    go_wp2_with fail
    have hbW : Below w.heap.size w (w.alloc (.cells #[.int .i64 val, .bool al, .int .i64 nx, .slice (some b) q c] 33)) := HBW.out _
    clear e1
    go_loopw [3] (fun i wr => ∃ k : Nat, k ≤ q ∧ i = .int .i64 k ∧ Below (w.heap.size + 1) (w.alloc (.cells #[.int .i64 val, .bool al, .int .i64 nx, .slice (some b) q c] 33)) wr ∧ Hid (∀ (i : Nat) (t : TagD), i < k → ts[i]? = some t → 0 ≤ t.id ∧ t.id < nx ∧ tagAt t.id ts = some i)) (fun i _ => q - (intOf i).toNat)
    case atStart => exact ⟨0, Nat.zero_le _, rfl, hw1, fun i t hi => absurd hi (by omega)⟩
    case round =>
      clear hw1
      obtain ⟨k, hk, rfl, hb, hK⟩ := hrel
      have hXr := (hb.block w.heap.size (by omega)).trans HX.out
      have x2 : wr.cell? ⟨w.heap.size, 2, none⟩ = some (.int .i64 nx) := (cell_of_block hXr 2).trans rfl
      have x3 : wr.cell? ⟨w.heap.size, 3, none⟩ = some (.slice (some b) q c) := (cell_of_block hXr 3).trans rfl
      have hbr : Below w.heap.size w wr := hbW.trans (hb.mono (by omega))
      have HTr : Hid (RdT wr (.slice (some b) q c) ts) := H.out.below hbr
      clear hXr
      by_cases hlt : k < q
      · obtain ⟨b', id, u, hbe, hbb', hd, a0, a1⟩ := HTr.out.elem (k := k) (by rw [← HN.out]; exact hlt)
        injection hbe with hbe
        subst hbe
        have HD := Lib.hid hd
        clear hd
        have hlq : ts.length = q := HN.out.symm
        by_cases hid0 : id < 0
        · have hB : cellB ⟨val, al, nx, ts⟩ = false := cellB_false fun h => by have := (h.ids k _ HD.out).1; simp only at this; omega
          have HB := Lib.hid hB
          have hdd : decide (id < 0) = true := by simpa using hid0
          clear hB hlq
          go_wp2_with fail
          go_quiet (fail)
          go_wp2_with fail
          go_ret
          exact ⟨by rw [HB.out]; rfl, by first | exact hbr | exact hbr.drew | exact below_drewN hbr _⟩
        · have hd0 : decide (id < 0) = false := by simpa using hid0
          by_cases hid1 : nx ≤ id
          · have hB : cellB ⟨val, al, nx, ts⟩ = false := cellB_false fun h => by have := (h.ids k _ HD.out).2; simp only at this; omega
            have HB := Lib.hid hB
            have hdd : decide (nx ≤ id) = true := by simpa using hid1
            clear hB hlq
            go_wp2_with fail
            go_quiet (fail)
            go_wp2_with fail
            go_ret
            exact ⟨by rw [HB.out]; rfl, by first | exact hbr | exact hbr.drew | exact below_drewN hbr _⟩
          · have hd1 : decide (nx ≤ id) = false := by simpa using hid1
            obtain ⟨z, hz⟩ : ∃ z, tagI id ts = z := ⟨_, rfl⟩
            have hcall : ∀ n, Calls Tryd.prog 77 #[.slice (some b) q c, .int .i64 id] (wr.drewN n) fun e w' => e = .returned (.int .i64 z) ∧ w' = wr.drewN n := fun n => (l6Tag_any ts (some b) q c id (wr.drewN n) HTr.out).mono fun e w' ⟨h1, h2⟩ => ⟨by rw [h1, hz], h2.symm⟩
            have HC := Lib.hid hcall
            have HZ2 := Lib.hid hz
            clear hcall hz
            by_cases hzk : z = k
            · have hK2 : Hid (∀ (i : Nat) (t : TagD), i < k + 1 → ts[i]? = some t → 0 ≤ t.id ∧ t.id < nx ∧ tagAt t.id ts = some i) := by
                intro i t hi ht
                by_cases e : i = k
                · subst e
                  rw [HD.out] at ht
                  injection ht with ht
                  subst ht
                  refine ⟨by show 0 ≤ id; omega, by show id < nx; omega, ?_⟩
                  have h9 := HZ2.out
                  unfold tagI at h9
                  show tagAt id ts = some i
                  cases h8 : tagAt id ts with
                  | none => rw [h8] at h9; simp at h9; omega
                  | some m => rw [h8] at h9; simp at h9; congr 1; omega
                · exact hK.out i t (by omega) ht
              have hne : ((z : Int) != (k : Int)) = false := by simp [hzk]
              clear hlq hK
              go_wp2_with fail
              go_quiet ((go_at_call 77; exact Calls.quiet_of_same (HC.out _)))
              go_wp2_with fail
              go_roundw
              case rel => exact ⟨k + 1, by omega, by go_num, by first | exact hb | exact hb.drew | exact below_drewN hb _, hK2⟩
              case measure => simp [intOf]; omega
            · have hB : cellB ⟨val, al, nx, ts⟩ = false := cellB_false fun h => by
                have h8 := h.tagSelf HD.out
                simp only at h8
                have h9 := HZ2.out
                unfold tagI at h9
                rw [h8] at h9
                simp at h9
                omega
              have HB := Lib.hid hB
              have hne : ((z : Int) != (k : Int)) = true := by simpa using hzk
              clear hlq hK hB
              go_wp2_with fail
              go_quiet ((go_at_call 77; exact Calls.quiet_of_same (HC.out _)))
              go_wp2_with fail
              go_ret
              exact ⟨by rw [HB.out]; rfl, by first | exact hbr | exact hbr.drew | exact below_drewN hbr _⟩
      · have hk' : k = q := by omega
        subst hk'
        have hB : cellB ⟨val, al, nx, ts⟩ = true := cellB_true ⟨by show 0 ≤ val; omega, by show val ≤ 9; omega, by show 1 ≤ nx; omega, by show nx ≤ 1000; omega, by show 1 ≤ ts.length; rw [← HN.out]; omega, by show ts.length ≤ 200; rw [← HN.out]; omega,
          fun t ht => by
            have := HD0.out
            rw [show ts[0]? = some t from ht] at this
            injection this with this
            subst this
            rfl,
          fun i t ht => by
            have := hK.out i t (by rw [HN.out]; exact (List.getElem?_eq_some_iff.1 ht).1) ht
            exact ⟨this.1, this.2.1⟩,
          fun i j s t hij hs ht e => by
            have h1 := (hK.out i s (by rw [HN.out]; exact (List.getElem?_eq_some_iff.1 hs).1) hs).2.2
            have h2 := (hK.out j t (by rw [HN.out]; exact (List.getElem?_eq_some_iff.1 ht).1) ht).2.2
            rw [e, h2] at h1
            injection h1 with h1
            omega⟩
        have HB := Lib.hid hB
        clear hB
        go_wp2_with fail
        go_ret
        exact ⟨by rw [HB.out]; rfl, hbr⟩
  · have hu' : u0 = false := by simpa using hu
    subst hu'
    have hB : cellB ⟨val, al, nx, ts⟩ = false := cellB_false fun h => by have := h.head _ HD0.out; simp at this
    rw [hB]
    clear hB
    go_enter Tryd.func70, Tryd.ntmps70
    go_wp2_with fail
    go_ret
    exact ⟨rfl, HBW.out _⟩

end Go.Proofs.YtfkoobdlhdolbaaDoor
