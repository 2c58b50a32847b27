/-
  The answers to a question about all variables before a point, by the program: answersAt.
-/
import Derived.Test.YtnoejapnjhogaaaGreatDoorZTIm
import Derived.Test.YtnoejapnjhogaaaGreatDoorZT4P
namespace Go.Proofs.YtnoejapnjhogaaaGreatDoor.tr
open Go.RowKit Go.Deep
set_option linter.unusedVariables false

theorem extract_per {cs : Array Value} {kn : Nat → Nat → Nat} (hz : cs.size = 366) (h : LRows cs 0 kn) {k : Nat} (hk : k < 61) : cs.extract (k * 6) (k * 6 + 6) = (perC (kn k)).toArray := by
  apply Array.ext_getElem?
  intro i
  rw [Array.getElem?_extract]
  by_cases hi : i < 6
  · rw [if_pos (by omega)]
    have h9 := h k hk i hi
    rw [Nat.zero_add] at h9
    rw [h9]
    simpa using (perC_get (kn k) hi).symm
  · rw [if_neg (by omega)]
    exact (Array.getElem?_eq_none (by show 6 ≤ i; omega)).symm

theorem index_per {cs : Array Value} {kn : Nat → Nat → Nat} (hz : cs.size = 366) (h : LRows cs 0 kn) {k : Nat} (hk : k < 61) (w : World) : (Instr.index 133 (.agg cs) (.int .i64 (k : Int))).run Tryz.prog w = .ok (.agg (perC (kn k)).toArray) w := by
  have hu := Tryz.underlying133
  have hs : (sizeOf 61).run Tryz.prog w = .ok 6 w := by kernel_rfl
  have hb : (0 : Int) ≤ (k : Int) ∧ (k : Int) < 61 := by omega
  simp [Instr.index, run_underlying hu, asIntOf, hs, hb, hk, Result.andThen, go_sem]
  exact extract_per hz h hk

set_option maxRecDepth 100000 in
set_option maxHeartbeats 4000000 in
theorem answersAt_any (q : Nat) (hq : q < 3) (ts : List Int) (s : Sts) (At As : Option Addr) (ct cs : Nat) (a : Int) (w : World) (hT : IntsV w 0 w.heap.size ts At ct) (hR : RepV w 0 w.heap.size s As cs)
    (hTab : TabAt 0 Lib.deBruijn64tab w) (hg : 0 < w.heap.size) :
    Calls Tryz.prog 45 #[.agg #[.slice At ts.length ct, .slice As s.len cs], .int .i64 a, .iface (qT q) (.agg #[])] w (AnsPer q ts s a w) := by
  have hb0 := ((Below.refl w.heap.size w).alloc (Nat.le_refl _) (.cells #[.slice At ts.length ct, .slice As s.len cs] 30)).alloc (by simp) (.cells #[.int .u64 0, .int .u64 0, .int .u64 0, .int .u64 0, .int .u64 0, .int .u64 0] 61)
  have hz0 : ((w.alloc (.cells #[.slice At ts.length ct, .slice As s.len cs] 30)).alloc (.cells #[.int .u64 0, .int .u64 0, .int .u64 0, .int .u64 0, .int .u64 0, .int .u64 0] 61)).heap.size = w.heap.size + 1 + 1 := by simp
  have hz1 : (w.alloc (.cells #[.slice At ts.length ct, .slice As s.len cs] 30)).heap.size = w.heap.size + 1 := by simp
  have hre : PerAt ((w.alloc (.cells #[.slice At ts.length ct, .slice As s.len cs] 30)).alloc (.cells #[.int .u64 0, .int .u64 0, .int .u64 0, .int .u64 0, .int .u64 0, .int .u64 0] 61)) (w.alloc (.cells #[.slice At ts.length ct, .slice As s.len cs] 30)).heap.size (fun _ => 0) := PerAt.new (w.alloc (.cells #[.slice At ts.length ct, .slice As s.len cs] 30)) (fun _ => 0)
  rw [hz1] at hre
  have HZ := Lib.hid hz0
  have HRE := Lib.hid hre
  have hiV : Hid ((Tryz.prog.info? 61).map (·.size) = some 6) := by exact (show (Tryz.prog.info? 61).map (·.size) = some 6 from by kernel_rfl)
  have hzero : ∀ W : World, Below w.heap.size w W → PerAt W (w.heap.size + 1) (fun _ => 0) → ¬ (validB ts s = true ∧ 0 ≤ a ∧ a < ((progPts s).length : Int)) → AnsPer q ts s a w (.returned (.agg (perC (fun _ => 0)).toArray)) (W.setCells (w.heap.size + 1) 0 (perC (fun _ => 0))) := fun W hW hP hn =>
    ⟨fun _ => 0, rfl, fun _ => (by decide : (0 : Nat) < 2305843009213693952), fun v _ l => nothing_at hn v l, below_setCells hW (by omega) hW.size⟩
  have HZERO := Lib.hid hzero
  clear hre hz1 hzero
  cases hok : validB ts s
  · have hS := flowsOf_no ts s At As ct cs _ hok (hT.below hb0 (by simp; omega)) (hR.below hb0 (by simp; omega))
    have hno : ¬ (validB ts s = true ∧ 0 ≤ a ∧ a < ((progPts s).length : Int)) := fun h => by rw [hok] at h; cases h.1
    have HNO := Lib.hid hno
    clear hz0 hok hno
    go_enter Tryz.func45, Tryz.ntmps45
    go_wp2_with fail
    refine hS.mono ?_
    rintro E w1 ⟨rfl, hb1⟩
    have HR1 := Lib.hid (HRE.out.keep hb1)
    have hb : Below w.heap.size w w1 := hb0.trans (hb1.mono (by rw [HZ.out]; omega))
    have HF := Lib.hid (HZERO.out w1 hb HR1.out HNO.out)
    have HTH := Lib.hid HR1.out.there
    have HOUT := Lib.hid (HR1.out.allRow (fun _ => 0))
    clear hb1 hS hb hb0
    go_wp2_with (((with_reducible show wpList _ _ _ _ _ _); refine wpList_store_mid rfl 61 _ _ rfl (w.heap.size + 1) 0 (perC (fun _ => 0)).toArray rfl rfl ?_ hiV.out (perC_one _) ?_; exact HTH.out))
    refine bodyPost_ret (v := .agg (perC (fun _ => 0)).toArray) ?_ rfl HF.out
    exact results_cell rfl Tryz.prog _ _ (w.heap.size + 1) _ rfl (load_per HOUT.out rfl)
  · have hS := flowsOf_yes ts s At As ct cs _ hok (hT.below hb0 (by simp; omega)) (hR.below hb0 (by simp; omega))
    have hA := progPts_allTyped hok
    have hD := progPts_ok s (valid_ok hok).2.1
    by_cases hin : 0 ≤ a ∧ a < ((progPts s).length : Int)
    · obtain ⟨h0, h1⟩ := hin
      obtain ⟨k, rfl⟩ : ∃ k : Nat, a = (k : Int) := ⟨a.toNat, by omega⟩
      have hmk : ∀ v l, TrB q ts (progPts s) k v l ↔ TrAt q ts (validB ts s) s (k : Int) v l := fun v l => ⟨fun h => ⟨hok, h0, h1, by rw [Int.toNat_natCast]; exact h⟩, fun h => by have h9 := h.2.2.2; rw [Int.toNat_natCast] at h9; exact h9⟩
      generalize progPts s = ds at hS h1 hA hD hmk
      generalize s.npts = zq at hD
      have hkl : k < ds.length := by omega
      have HD := Lib.hid hD
      have HA := Lib.hid hA
      have HMK := Lib.hid hmk
      clear hz0 hok hA hD hT hR hmk
      go_enter Tryz.func45, Tryz.ntmps45
      go_wp2_with fail
      refine hS.mono ?_
      rintro E w1 ⟨C, F, hi, A2, c2, ah, bk, rfl, hF, hfl, hb1⟩
      have HR1 := Lib.hid (HRE.out.keep hb1)
      have HB := Lib.hid (hb0.trans (hb1.mono (by rw [HZ.out]; omega)))
      have hgc := hfl.grCell
      have hhas := has_yes C k ds w1 hfl.gr hkl
      have HFL := Lib.hid hfl
      have hk61 : k < 61 := by have := hfl.gr.le; omega
      clear hfl hb1 hS hb0
      go_wp2_with fail
      refine hhas.mono ?_
      rintro E w2 ⟨rfl, hb2⟩
      have HFL2 := Lib.hid (HFL.out.keep hb2)
      have HB2 := Lib.hid (HB.out.trans (hb2.mono HB.out.size))
      have HR2 := Lib.hid (HR1.out.keep hb2)
      have htr := traced_any q hq ts ds zq C F hi A2 c2 ah bk w2 HFL2.out HD.out HA.out (tab_below hTab hg HB2.out) (by have := HB2.out.size; omega)
      clear hhas hb2 hgc HFL HB HR1
      go_wp2_with fail
      refine htr.mono ?_
      rintro E w5 ⟨csK, kn, rfl, k2, k3, k4, hb5⟩
      have HR5 := Lib.hid (HR2.out.keep hb5)
      have HB5 := Lib.hid (HB2.out.trans (hb5.mono HB2.out.size))
      have ki0 : (0 : Int) ≤ (k : Int) := by omega
      have ki1 : (k : Int) < 61 := by omega
      clear htr hb5
      have hix := index_per k2 k3 hk61 w5
      obtain ⟨x, hx⟩ : ∃ x, x = kn k := ⟨_, rfl⟩
      rw [← hx] at hix
      have HTH := Lib.hid HR5.out.there
      have HOUT := Lib.hid (HR5.out.allRow x)
      have HF : Hid (AnsPer q ts s (k : Int) w (.returned (.agg (perC x).toArray)) (w5.setCells (w.heap.size + 1) 0 (perC x))) := Lib.hid ⟨x, rfl, fun v => by rw [hx]; exact k4.lt k v, fun v hv l => by rw [hx]; exact (k4.last (fun _ h => h) (fun a b he => eN_lt he) (fun k v l h => genT_place q ds k v l h) (fun k u v l h => handT_place q ts ds k u v l h) hkl hv).trans (HMK.out v l), below_setCells HB5.out (by omega) HB5.out.size⟩
      clear hx k2 k3 k4 HR5 HB5
      go_wp2_with (first
        | ((with_reducible show wpList _ _ _ _ _ _); refine wpList_store_mid rfl 61 _ _ rfl (w.heap.size + 1) 0 (perC x).toArray rfl rfl ?_ hiV.out (perC_one _) ?_; exact HTH.out))
      refine bodyPost_ret (v := .agg (perC x).toArray) ?_ rfl HF.out
      exact results_cell rfl Tryz.prog _ _ (w.heap.size + 1) _ rfl (load_per HOUT.out rfl)
    · have hno : ¬ (validB ts s = true ∧ 0 ≤ a ∧ a < ((progPts s).length : Int)) := fun h => hin h.2
      have hr : a < 0 ∨ ((progPts s).length : Int) ≤ a := by
        by_cases h0 : a < 0
        · exact .inl h0
        · rcases Int.lt_or_le a ((progPts s).length : Int) with h1 | h1
          · exact absurd ⟨by omega, h1⟩ hin
          · exact .inr h1
      have HNO := Lib.hid hno
      generalize progPts s = ds at hS hr
      clear hz0 hok hin hA hD hT hR hno
      go_enter Tryz.func45, Tryz.ntmps45
      go_wp2_with fail
      refine hS.mono ?_
      rintro E w1 ⟨C, F, hi, A2, c2, ah, bk, rfl, hF, hfl, hb1⟩
      have HR1 := Lib.hid (HRE.out.keep hb1)
      have HB := Lib.hid (hb0.trans (hb1.mono (by rw [HZ.out]; omega)))
      have hgc := hfl.grCell
      have hhas := has_no C a ds w1 hfl.gr hr
      clear hfl hb1 hS hb0 hr
      go_wp2_with fail
      refine hhas.mono ?_
      rintro E w2 ⟨rfl, hb2⟩
      have HB2 := Lib.hid (HB.out.trans (hb2.mono HB.out.size))
      have HR2 := Lib.hid (HR1.out.keep hb2)
      have HF := Lib.hid (HZERO.out w2 HB2.out HR2.out HNO.out)
      have HTH := Lib.hid HR2.out.there
      have HOUT := Lib.hid (HR2.out.allRow (fun _ => 0))
      clear hhas hb2 hgc HB HR1
      go_wp2_with (((with_reducible show wpList _ _ _ _ _ _); refine wpList_store_mid rfl 61 _ _ rfl (w.heap.size + 1) 0 (perC (fun _ => 0)).toArray rfl rfl ?_ hiV.out (perC_one _) ?_; exact HTH.out))
      refine bodyPost_ret (v := .agg (perC (fun _ => 0)).toArray) ?_ rfl HF.out
      exact results_cell rfl Tryz.prog _ _ (w.heap.size + 1) _ rfl (load_per HOUT.out rfl)

end Go.Proofs.YtnoejapnjhogaaaGreatDoor.tr
