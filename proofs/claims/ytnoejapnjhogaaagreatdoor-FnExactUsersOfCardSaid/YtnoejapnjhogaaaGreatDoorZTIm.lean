/-
  The answers to a question about a variable before a point, by the program.
-/
import Derived.Test.YtnoejapnjhogaaaGreatDoorZTFlw
import Derived.Test.YtnoejapnjhogaaaGreatDoorZTPass
import Derived.Test.YtnoejapnjhogaaaGreatDoorZGrX
namespace Go.Proofs.YtnoejapnjhogaaaGreatDoor.tr
open Go.RowKit Go.Deep
set_option linter.unusedVariables false

theorem isVar6_any (v : Int) (w : World) : Calls Tryz.prog 76 #[.int .i64 v] w fun e w' => e = .returned (.bool (decide (0 ≤ v ∧ v ≤ 5))) ∧ w = w' := by
  by_cases h1 : 0 ≤ v
  · by_cases h2 : v ≤ 5
    · have e1 : decide (0 ≤ v ∧ v ≤ 5) = true := decide_eq_true ⟨h1, h2⟩
      rw [e1]
      have h3 : v < 6 := by omega
      go_enter Tryz.func76, Tryz.ntmps76
      go_wp2_with fail
      go_ret
      exact ⟨rfl, rfl⟩
    · have e1 : decide (0 ≤ v ∧ v ≤ 5) = false := decide_eq_false fun h => h2 h.2
      rw [e1]
      go_enter Tryz.func76, Tryz.ntmps76
      go_wp2_with fail
      go_ret
      exact ⟨ret_bool (decide_eq_false (by omega)), rfl⟩
  · have e1 : decide (0 ≤ v ∧ v ≤ 5) = false := decide_eq_false fun h => h1 h.1
    rw [e1]
    have h3 : v < 0 := by omega
    go_enter Tryz.func76, Tryz.ntmps76
    go_wp2_with fail
    go_ret
    exact ⟨rfl, rfl⟩

/-- The set of a variable; nothing if there is none. -/
def ofZ (x : Nat → Nat) (v : Int) : Nat := if 0 ≤ v ∧ v ≤ 5 then x v.toNat else 0

theorem of_any (x : Nat → Nat) (v : Int) (w : World) : Calls Tryz.prog 46 #[.agg (perC x).toArray, .int .i64 v] w fun E w' => E = .returned (.int .u64 (ofZ x v : Nat)) ∧ Below w.heap.size w w' := by
  have hb0 := (Below.refl w.heap.size w).alloc (Nat.le_refl _) (.cells (perC x).toArray 61)
  have hp := PerAt.new w x
  have hiv := fun W => isVar6_any v W
  by_cases hv : 0 ≤ v ∧ v ≤ 5
  · obtain ⟨u, rfl⟩ : ∃ u : Nat, v = (u : Int) := ⟨v.toNat, by omega⟩
    have hu6 : u < 6 := by omega
    have e : ofZ x (u : Int) = x u := by unfold ofZ; rw [if_pos hv, Int.toNat_natCast]
    rw [e]
    have cu := hp.cell hu6
    have ui0 : (0 : Int) ≤ (u : Int) := by omega
    have ui1 : (u : Int) < 6 := by omega
    rw [decide_eq_true hv] at hiv
    have HB := Lib.hid hb0
    clear hp e hv hb0
    go_enter Tryz.func46, Tryz.ntmps46
    go_wp2_with fail
    refine (hiv _).mono ?_
    rintro E w1 ⟨rfl, rfl⟩
    clear hiv
    go_wp2_with fail
    go_ret
    exact ⟨rfl, by first | exact HB.out | exact HB.out.drew⟩
  · have e : ofZ x v = 0 := by unfold ofZ; rw [if_neg hv]
    rw [e]
    rw [decide_eq_false hv] at hiv
    have HB := Lib.hid hb0
    clear hp e hv hb0
    go_enter Tryz.func46, Tryz.ntmps46
    go_wp2_with fail
    refine (hiv _).mono ?_
    rintro E w1 ⟨rfl, rfl⟩
    clear hiv
    go_wp2_with fail
    go_ret
    exact ⟨rfl, by first | exact HB.out | exact HB.out.drew⟩

set_option maxRecDepth 100000 in
set_option maxHeartbeats 4000000 in
theorem traced_any (q : Nat) (hq : q < 3) (ts : List Int) (ns : List Nd) (z C F hi : Nat) (A : Option Addr) (c : Nat) (ah bk : Nat → Nat) (w : World) (h : FlowsIn ts ns C F hi A c ah bk w) (hD : PtsOk z ns) (hA : AllTyped ts ns)
    (hTab : TabAt 0 Lib.deBruijn64tab w) (hg : 0 < w.heap.size) :
    Calls Tryz.prog 75 #[.pointer (some ⟨F, 0, none⟩), .iface (qT q) (.agg #[])] w (Post q ts ns w) := by
  obtain ⟨W, hW⟩ : ∃ W, W = ((w.alloc (.cells #[.pointer (some ⟨F, 0, none⟩)] 77)).alloc (.cells #[.iface (qT q) (.agg #[])] 132)).alloc (.cells Tryz.zeroCells133 133) := ⟨_, rfl⟩
  have b1 := (Below.refl w.heap.size w).alloc (Nat.le_refl _) (.cells #[.pointer (some ⟨F, 0, none⟩)] 77)
  have b2 := b1.alloc (by simp) (.cells #[.iface (qT q) (.agg #[])] 132)
  have b3 := b2.alloc (by simp; omega) (.cells Tryz.zeroCells133 133)
  have n1 := heap_alloc_new w (.cells #[.pointer (some ⟨F, 0, none⟩)] 77)
  have n2 := heap_alloc_new (w.alloc (.cells #[.pointer (some ⟨F, 0, none⟩)] 77)) (.cells #[.iface (qT q) (.agg #[])] 132)
  have n3 := heap_alloc_new ((w.alloc (.cells #[.pointer (some ⟨F, 0, none⟩)] 77)).alloc (.cells #[.iface (qT q) (.agg #[])] 132)) (.cells Tryz.zeroCells133 133)
  have kk : ∀ (W : World) (o : Obj), Below W.heap.size W (W.alloc o) := fun W o => (Below.refl _ _).alloc (Nat.le_refl _) o
  have e1 : (w.alloc (.cells #[.pointer (some ⟨F, 0, none⟩)] 77)).heap.size = w.heap.size + 1 := by simp
  have e2 : ((w.alloc (.cells #[.pointer (some ⟨F, 0, none⟩)] 77)).alloc (.cells #[.iface (qT q) (.agg #[])] 132)).heap.size = w.heap.size + 1 + 1 := by simp
  have m1 := ((kk _ (.cells Tryz.zeroCells133 133)).block _ (heap_lt (((kk _ (.cells #[.iface (qT q) (.agg #[])] 132)).block _ (heap_lt n1)).trans n1))).trans (((kk _ (.cells #[.iface (qT q) (.agg #[])] 132)).block _ (heap_lt n1)).trans n1)
  have m2 := ((kk _ (.cells Tryz.zeroCells133 133)).block _ (heap_lt n2)).trans n2
  rw [e1] at m2
  rw [e2] at n3
  rw [← hW] at b3 m1 m2 n3
  have hs : (Tryz.zeroCells133).size = 366 := by rw [zero_all]; simp
  have hfl := h.keep b3
  have htab := tab_below hTab hg b3
  have hpass : PassAt q ts ns w.heap.size (w.heap.size + 1) W := fun W' a d x hb hd hx => (pass_any q hq ts ns C F hi A c ah bk w.heap.size (w.heap.size + 1) a x d W' (hfl.keep hb) hA hd ((hb.block _ (heap_lt m1)).trans m1) ((hb.block _ (heap_lt m2)).trans m2) (tab_below htab (by have := b3.size; omega) hb) (by have := b3.size; have := hb.size; omega) hx).mono fun E w' h9 =>
    ⟨trZ q ts d a x, h9.1, fun v => trZ_lt (fun h8 => (num_ok hA hd h8).2) (by have := (List.getElem?_eq_some_iff.mp hd).1; have := h.gr.le; omega) hx v, fun v hv l => trZ_iff hq hA hd hv, h9.2⟩
  have hwalk := walk q ts ns z C F hi A c ah bk w.heap.size (w.heap.size + 1) W hfl hD hpass htab (by have := b3.size; omega)
  have HWALK := Lib.hid hwalk
  have HB3 := Lib.hid b3
  have HN3 := Lib.hid n3
  have HS := Lib.hid hs
  clear b1 b2 b3 n1 n2 n3 kk e1 e2 m1 m2 hs hfl htab hpass hwalk h hD hA hTab
  have hu := Tryz.underlying133
  go_enter Tryz.func75, Tryz.ntmps75
  go_wp2_with fail
  rw [← hW]
  have hwalk := HWALK.out
  refine hwalk.mono ?_
  rintro E w5 ⟨csK, kn, rfl, k2, k3, k4, hb5⟩
  have q1 := (hb5.block _ (heap_lt HN3.out)).trans HN3.out
  have hth : w5.there (w.heap.size + 1 + 1) 0 366 := there_row q1 HS.out
  have hone := lrows_one k2 k3
  have hlk : csK.toList.length = 366 := by simpa using k2
  have hsz : (Tryz.prog.info? 133).map (·.size) = some 366 := by kernel_rfl
  have his : (Tryz.prog.info? 133).map (·.size) = some csK.size := by rw [hsz, k2]
  have hth2 : w5.there (w.heap.size + 1 + 1) 0 csK.size := by rw [k2]; exact hth
  have hbw := HB3.out.trans (hb5.mono HB3.out.size)
  have hFIN : Post q ts ns w (.returned (.agg csK)) (w5.setCells (w.heap.size + 1 + 1) 0 csK.toList) := ⟨csK, kn, rfl, k2, k3, k4, below_setCells hbw (by omega) hbw.size⟩
  have hout := heap_setCells csK.toList 0 w5 _ q1 (by rw [hlk, HS.out]; exact Nat.le_refl _)
  rw [setN_all _ csK (by rw [HS.out, k2])] at hout
  have HFIN := Lib.hid hFIN
  have HOUT := Lib.hid hout
  clear hFIN hout hsz k3 k4 hbw hb5 q1 hth hwalk HWALK HB3
  go_wp2_with ((with_reducible show wpList _ _ _ _ _ _); refine wpList_store_mid rfl 133 _ _ rfl (w.heap.size + 1 + 1) 0 csK rfl rfl ?_ his hone ?_; exact hth2)
  refine bodyPost_ret (v := .agg csK) ?_ rfl HFIN.out
  exact flowSome.results_one_row rfl Tryz.prog _ _ (w.heap.size + 1 + 1) csK rfl (run_loadVar_row _ _ _ _ csK (0, 0) _ HOUT.out hu rfl his)

/-- What can be answered for a variable before a point. -/
def TrAt (q : Nat) (ts : List Int) (ok : Bool) (s : Sts) (a : Int) (v l : Nat) : Prop := ok = true ∧ 0 ≤ a ∧ a < ((progPts s).length : Int) ∧ TrB q ts (progPts s) a.toNat v l

/-- The answers for all variables before a point. -/
def AnsPer (q : Nat) (ts : List Int) (s : Sts) (a : Int) (w : World) (E : Ending) (w' : World) : Prop :=
  ∃ x : Nat → Nat, E = .returned (.agg (perC x).toArray) ∧ (∀ v, x v < 2305843009213693952) ∧ (∀ v, v < 6 → ∀ l, (bitR x v l ↔ TrAt q ts (validB ts s) s a v l)) ∧ Below w.heap.size w w'

theorem nothing_at {q : Nat} {ts : List Int} {ok : Bool} {s : Sts} {a : Int} (h : ¬ (ok = true ∧ 0 ≤ a ∧ a < ((progPts s).length : Int))) (v l : Nat) : bitR (fun _ => 0) v l ↔ TrAt q ts ok s a v l :=
  ⟨fun h9 => by unfold bitR at h9; simp at h9, fun h9 => absurd ⟨h9.1, h9.2.1, h9.2.2.1⟩ h⟩

end Go.Proofs.YtnoejapnjhogaaaGreatDoor.tr
