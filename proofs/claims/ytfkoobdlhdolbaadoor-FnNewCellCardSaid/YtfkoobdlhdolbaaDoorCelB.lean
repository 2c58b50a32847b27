/-
  Valid stacks, by the program: a row of flags for the tags that were met.
-/
import Derived.Test.YtfkoobdlhdolbaaDoorCelS0
import Derived.Test.YtfkoobdlhdolbaaDoorCelV
namespace Go.Proofs.YtfkoobdlhdolbaaDoor
open Go.RowKit Go.Deep
set_option linter.unusedVariables false

/-- A valid stack. -/
structure StackOk (ts : List TagD) (nx : Int) : Prop where
  len1 : 1 ≤ ts.length
  lenM : ts.length ≤ 200
  head : ∀ t, ts[0]? = some t → t.u = true
  ids : ∀ (i : Nat) (t : TagD), ts[i]? = some t → 0 ≤ t.id ∧ t.id < nx
  dist : ∀ (i j : Nat) (s t : TagD), i < j → ts[i]? = some s → ts[j]? = some t → s.id ≠ t.id

noncomputable def stackB (ts : List TagD) (nx : Int) : Bool := @decide (StackOk ts nx) (Classical.propDecidable _)
theorem stackB_true {ts : List TagD} {nx : Int} (h : StackOk ts nx) : stackB ts nx = true := by unfold stackB; exact @decide_eq_true _ (Classical.propDecidable _) h
theorem stackB_false {ts : List TagD} {nx : Int} (h : ¬ StackOk ts nx) : stackB ts nx = false := by unfold stackB; exact @decide_eq_false _ (Classical.propDecidable _) h
theorem stackB_out {ts : List TagD} {nx : Int} (h : stackB ts nx = true) : StackOk ts nx := by unfold stackB at h; exact @of_decide_eq_true _ (Classical.propDecidable _) h
theorem stackB_not {ts : List TagD} {nx : Int} (h : stackB ts nx = false) : ¬ StackOk ts nx := fun k => by rw [stackB_true k] at h; cases h

/-- The flags in block g tell the tags that were met. -/
def Met (w : World) (g : Nat) (ts : List TagD) (k : Nat) : Prop :=
  ∃ cs, w.heap[g]? = some (.cells cs 116 (0, 0)) ∧ cs.size = 1000 ∧ ∀ x : Nat, x < 1000 → ∃ b, cs[x]? = some (.bool b) ∧ (b = true ↔ ∃ j t, j < k ∧ ts[j]? = some t ∧ t.id = x)

theorem Met.start (w : World) (ts : List TagD) (zs : Array Value) (hz : zs = Array.replicate 1000 (.bool false)) : Met (w.alloc (.cells zs 116)) w.heap.size ts 0 := by
  refine ⟨_, heap_alloc_new w _, by rw [hz]; simp, fun x hx => ⟨false, by rw [hz]; simp [hx], ?_⟩⟩
  constructor
  · intro h; cases h
  · rintro ⟨j, t, hj, _⟩; omega

theorem Met.step {w : World} {g : Nat} {ts : List TagD} {k n : Nat} {u : Bool} (h : Met w g ts k) (hd : ts[k]? = some ⟨(n : Int), u⟩) (hn : n < 1000) : Met (w.setCell ⟨g, n, none⟩ (.bool true)) g ts (k + 1) := by
  obtain ⟨cs, hc, hs, hb⟩ := h
  refine ⟨_, block_set hc n _, by simpa using hs, fun x hx => ?_⟩
  rw [Array.getElem?_setIfInBounds]
  by_cases e : n = x
  · subst e
    rw [if_pos rfl, if_pos (by omega)]
    exact ⟨true, rfl, fun _ => ⟨k, _, by omega, hd, rfl⟩, fun _ => rfl⟩
  · rw [if_neg e]
    obtain ⟨b, h1, h2⟩ := hb x hx
    refine ⟨b, h1, h2.trans ⟨fun ⟨j, t, hj, ht, hi⟩ => ⟨j, t, by omega, ht, hi⟩, fun ⟨j, t, hj, ht, hi⟩ => ?_⟩⟩
    by_cases ej : j = k
    · subst ej
      rw [hd] at ht
      injection ht with ht
      subst ht
      simp only at hi
      omega
    · exact ⟨j, t, by omega, ht, hi⟩

theorem Met.below {w w' : World} {B g : Nat} {ts : List TagD} {k : Nat} (h : Met w g ts k) (hb : Below B w w') (hg : g < B) : Met w' g ts k := by
  obtain ⟨cs, hc, hs, hx⟩ := h
  exact ⟨cs, (hb.block g hg).trans hc, hs, hx⟩

theorem isNumber_any (x : Int) (w : World) : Calls Tryd.prog 79 #[.int .i64 x] w fun e w' => e = .returned (.bool (decide (0 ≤ x ∧ x ≤ 9))) ∧ w = w' := by
  by_cases h0 : 0 ≤ x
  · by_cases h9 : x ≤ 9
    · have e : decide (0 ≤ x ∧ x ≤ 9) = true := decide_eq_true ⟨h0, h9⟩
      have t0 : decide (0 ≤ x) = true := decide_eq_true h0
      have t9 : decide (x ≤ 9) = true := decide_eq_true h9
      rw [e]
      clear e
      go_enter Tryd.func79, Tryd.ntmps79
      go_wp2_with fail
      go_ret
      exact ⟨rfl, rfl⟩
    · have e : decide (0 ≤ x ∧ x ≤ 9) = false := decide_eq_false (by omega)
      have t0 : decide (0 ≤ x) = true := decide_eq_true h0
      have t9 : decide (x ≤ 9) = false := decide_eq_false h9
      rw [e]
      clear e
      go_enter Tryd.func79, Tryd.ntmps79
      go_wp2_with fail
      go_ret
      exact ⟨rfl, rfl⟩
  · have e : decide (0 ≤ x ∧ x ≤ 9) = false := decide_eq_false (by omega)
    have t0 : decide (0 ≤ x) = false := decide_eq_false h0
    rw [e]
    clear e
    go_enter Tryd.func79, Tryd.ntmps79
    go_wp2_with fail
    go_ret
    exact ⟨rfl, rfl⟩

set_option maxRecDepth 100000 in
set_option maxHeartbeats 4000000 in
theorem stackValid_any (ts : List TagD) (A : Option Addr) (q c : Nat) (nx : Int) (w : World) (h : RdT w (.slice A q c) ts) (hnx : 1 ≤ nx) (hnx2 : nx ≤ 1000) :
    Calls Tryd.prog 80 #[.slice A q c, .int .i64 nx] w (BoolPost (stackB ts nx) w) := by
  obtain ⟨hq, hc1, hc2⟩ := h.len
  unfold maxLen at hc2
  have HN := Lib.hid hq
  have H := Lib.hid h
  clear hq h
  by_cases f_len1 : q < 1
  · have hB : stackB ts nx = false := stackB_false fun h => by have := h.len1; have := HN.out; omega
    rw [hB]
    clear hB
    have t0 : decide ((q : Int) < 1) = true := decide_eq_true (by omega)
    go_enter Tryd.func80, Tryd.ntmps80
    go_wp2_with fail
    go_ret
    exact ⟨rfl, Below.refl _ _⟩
  by_cases f_lenM : 200 < q
  · have hB : stackB ts nx = false := stackB_false fun h => by have := h.lenM; have := HN.out; omega
    rw [hB]
    clear hB
    have t0 : decide ((q : Int) < 1) = false := decide_eq_false (by omega)
    have t1 : decide (200 < (q : Int)) = true := decide_eq_true (by omega)
    go_enter Tryd.func80, Tryd.ntmps80
    go_wp2_with fail
    go_ret
    exact ⟨rfl, Below.refl _ _⟩
  obtain ⟨b, id0, u0, rfl, hbb, hd0, p0, p1⟩ := H.out.elem (k := 0) (by have := HN.out; omega)
  have hb0 : b.add (0 * 2) = b := by simp [Addr.add]
  rw [hb0] at p0 p1
  clear hb0
  have HD0 := Lib.hid hd0
  clear hd0
  have t0 : decide ((q : Int) < 1) = false := decide_eq_false (by omega)
  have t1 : decide (200 < (q : Int)) = false := decide_eq_false (by omega)
  by_cases hu : u0 = true
  · obtain rfl := hu
    have HST := Lib.hid (Met.start w ts)
    have hz1 : ∀ o, w.heap.size < (w.alloc o).heap.size := fun o => by simp
    have HZ1 := Lib.hid hz1
    clear hz1
    have hzv : ∀ w' : World, Sem.run Tryd.prog (zeroValue 116) w' = Result.ok (Value.agg (Array.replicate 1000 (.bool false))) w' := by
      intro w'
      kernel_rfl
    go_enter Tryd.func80, Tryd.ntmps80
    go_wp2_with fail
    go_loopw [25] (fun i wr => ∃ k : Nat, k ≤ q ∧ i = .int .i64 k ∧ Below w.heap.size w wr ∧ w.heap.size < wr.heap.size ∧ Hid (Met wr w.heap.size ts k) ∧ Hid (∀ (i : Nat) (t : TagD), i < k → ts[i]? = some t → 0 ≤ t.id ∧ t.id < nx) ∧ Hid (∀ (i j : Nat) (s t : TagD), i < j → j < k → ts[i]? = some s → ts[j]? = some t → s.id ≠ t.id)) (fun i _ => q - (intOf i).toNat)
    case atStart => exact ⟨0, Nat.zero_le _, rfl, (Below.refl _ _).alloc (Nat.le_refl _) _, HZ1.out _, HST.out _ (by first | rfl | kernel_rfl), fun i t hi => absurd hi (by omega), fun i j s t _ hj => absurd hj (by omega)⟩
    case round =>
      clear HST HZ1
      obtain ⟨k, hk, rfl, hb, hzz, HM, HI, HDi⟩ := hrel
      by_cases hlt : k < q
      · obtain ⟨b', id, u, hbe, hbb', hd, a0, a1⟩ := (H.out.below hb).elem (k := k) (by rw [← HN.out]; exact hlt)
        injection hbe with hbe
        subst hbe
        have HD := Lib.hid hd
        clear hd
        have hb2 : ∀ o, Below w.heap.size w (wr.alloc o) := fun o => hb.alloc (by omega) o
        have HB2 := Lib.hid hb2
        clear hb2
        by_cases hid0 : id < 0
        · have HB := Lib.hid (stackB_false (ts := ts) (nx := nx) fun h => by have := (h.ids k _ HD.out).1; simp only at this; omega)
          have hdd : decide (id < 0) = true := by simpa using hid0
          go_wp2_with fail
          go_ret
          exact ⟨by rw [HB.out]; rfl, HB2.out _⟩
        · have hd0 : decide (id < 0) = false := by simpa using hid0
          by_cases hid1 : nx ≤ id
          · have HB := Lib.hid (stackB_false (ts := ts) (nx := nx) fun h => by have := (h.ids k _ HD.out).2; simp only at this; omega)
            have hdd : decide (nx ≤ id) = true := by simpa using hid1
            go_wp2_with fail
            go_ret
            exact ⟨by rw [HB.out]; rfl, HB2.out _⟩
          · have hd1 : decide (nx ≤ id) = false := by simpa using hid1
            obtain ⟨n, rfl⟩ := Int.eq_ofNat_of_zero_le (show 0 ≤ id by omega)
            have hn : n < 1000 := by omega
            obtain ⟨cs, hcs, hcz, hmet⟩ := HM.out
            obtain ⟨mb, hmb, hmm⟩ := hmet n hn
            have HMM := Lib.hid hmm
            have hcell : wr.cell? ⟨w.heap.size, n, none⟩ = some (.bool mb) := by rw [cell_of_block hcs]; exact hmb
            have hfz : wr.frozen? ⟨w.heap.size, n, none⟩ = false := frozen_of_block hcs n
            have m1 : ∀ o, (wr.alloc o).cell? ⟨w.heap.size, n, none⟩ = some (.bool mb) := fun o => (((Below.refl wr.heap.size wr).alloc (Nat.le_refl _) o).cell (p := ⟨w.heap.size, n, none⟩) hzz).trans hcell
            have m2 : ∀ o, (wr.alloc o).frozen? ⟨w.heap.size, n, none⟩ = false := fun o => (((Below.refl wr.heap.size wr).alloc (Nat.le_refl _) o).frozen (p := ⟨w.heap.size, n, none⟩) hzz).trans hfz
            clear hmm hmet hmb hcs hcz hcell hfz
            cases hmbv : mb with
            | true =>
              subst hmbv
              have HB := Lib.hid (stackB_false (ts := ts) (nx := nx) fun h => by
                obtain ⟨j, t, hj, ht, hi⟩ := HMM.out.1 rfl
                exact h.dist j k t _ hj ht HD.out hi)
              clear HMM
              go_wp2_with fail
              go_ret
              exact ⟨by rw [HB.out]; rfl, HB2.out _⟩
            | false =>
              subst hmbv
              have HI2 : Hid (∀ (i : Nat) (t : TagD), i < k + 1 → ts[i]? = some t → 0 ≤ t.id ∧ t.id < nx) := by
                intro i t hi ht
                by_cases e : i = k
                · subst e
                  rw [HD.out] at ht
                  injection ht with ht
                  subst ht
                  exact ⟨by show (0 : Int) ≤ n; omega, by show (n : Int) < nx; omega⟩
                · exact HI.out i t (by omega) ht
              have HD2 : Hid (∀ (i j : Nat) (s t : TagD), i < j → j < k + 1 → ts[i]? = some s → ts[j]? = some t → s.id ≠ t.id) := by
                intro i j s t hij hj hs ht
                by_cases e : j = k
                · subst e
                  rw [HD.out] at ht
                  injection ht with ht
                  subst ht
                  intro e2
                  have := HMM.out.2 ⟨i, s, hij, hs, e2⟩
                  cases this
                · exact HDi.out i j s t hij (by omega) hs ht
              have HM2 := Lib.hid (HM.out.step HD.out hn)
              clear HMM HM HI HDi
              go_wp2_with fail
              go_roundw
              case rel => exact ⟨k + 1, by omega, by go_num, (hb.setCell (Nat.le_refl _) _).alloc (by simp; omega) _, by simp; omega, HM2.out.below ((Below.refl _ _).alloc (Nat.le_refl _) _) (by simp; omega), HI2, HD2⟩
              case measure => simp [intOf]; omega
      · have hk' : k = q := by omega
        subst hk'
        have HB := Lib.hid (stackB_true (ts := ts) (nx := nx) ⟨by have := HN.out; omega, by have := HN.out; omega,
          fun t ht => by
            have := HD0.out
            rw [ht] at this
            injection this with this
            subst this
            rfl,
          fun i t ht => HI.out i t (by rw [HN.out]; exact (List.getElem?_eq_some_iff.1 ht).1) ht,
          fun i j s t hij hs ht => HDi.out i j s t hij (by rw [HN.out]; exact (List.getElem?_eq_some_iff.1 ht).1) hs ht⟩)
        go_wp2_with fail
        go_ret
        exact ⟨by rw [HB.out]; rfl, hb⟩
  · have hu' : u0 = false := by simpa using hu
    subst hu'
    have hB : stackB ts nx = false := stackB_false fun h => by have := h.head _ HD0.out; simp at this
    rw [hB]
    clear hB
    go_enter Tryd.func80, Tryd.ntmps80
    go_wp2_with fail
    go_ret
    exact ⟨rfl, Below.refl _ _⟩

end Go.Proofs.YtfkoobdlhdolbaaDoor
