/-
  What has a value after a point, by the model.
-/
import Derived.Test.YtbffldgiccijlaaGreatDoorZFlW
import Derived.Test.YtbffldgiccijlaaGreatDoorZMem
namespace Go.Proofs.YtbffldgiccijlaaGreatDoor
open Go.RowKit Go.Deep
set_option linter.unusedVariables false

set_option maxRecDepth 100000 in
set_option maxHeartbeats 4000000 in
theorem l3After_any (ts : List Int) (At : Option Addr) (ct : Nat) (d : Nd) (u : Value) (F c : Nat) (fl : Nat → Bool) (w : World) (ht6 : ts.length ≤ 6) (hT : IntsV w 0 w.heap.size ts At ct) (hF : FlW w F ts.length fl) (hc1 : ts.length ≤ c) (hc2 : c ≤ maxLen) (hset : setI d < 0 ∨ ∃ v : Nat, setI d = (v : Int) ∧ v < ts.length) :
    Calls Tryz.prog 88 #[.slice At ts.length ct, .agg #[.int .i64 d.op, .int .i64 d.x, .int .i64 d.y, .int .i64 d.n, u], .slice (some ⟨F, 0, none⟩) ts.length c] w
      fun E w' => ∃ G cap, E = .returned (.slice (some ⟨G, 0, none⟩) ts.length cap) ∧ ts.length ≤ cap ∧ cap ≤ maxLen ∧ w.heap.size ≤ G ∧ FlW w' G ts.length (behindR ts d fl) ∧ Below w.heap.size w w' := by
  have hb0 := (Below.refl w.heap.size w).alloc (Nat.le_refl _) (.cells #[.int .i64 d.op, .int .i64 d.x, .int .i64 d.y, .int .i64 d.n, u] 34)
  have hz0 : (w.alloc (.cells #[.int .i64 d.op, .int .i64 d.x, .int .i64 d.y, .int .i64 d.n, u] 34)).heap.size = w.heap.size + 1 := by simp
  have hB0 := heap_alloc_new w (.cells #[.int .i64 d.op, .int .i64 d.x, .int .i64 d.y, .int .i64 d.n, u] 34)
  have hbl := hb0.alloc (by omega) (.cells #[] 4)
  have hL0 := heap_alloc_new (w.alloc (.cells #[.int .i64 d.op, .int .i64 d.x, .int .i64 d.y, .int .i64 d.n, u] 34)) (.cells #[] 4)
  have hB1 := (((Below.refl _ _).alloc (Nat.le_refl _) (.cells #[] 4) : Below (w.alloc (.cells #[.int .i64 d.op, .int .i64 d.x, .int .i64 d.y, .int .i64 d.n, u] 34)).heap.size (w.alloc (.cells #[.int .i64 d.op, .int .i64 d.x, .int .i64 d.y, .int .i64 d.n, u] 34)) _).block w.heap.size (by omega)).trans hB0
  have hz1 : ((w.alloc (.cells #[.int .i64 d.op, .int .i64 d.x, .int .i64 d.y, .int .i64 d.n, u] 34)).alloc (.cells #[] 4)).heap.size = w.heap.size + 2 := by simp
  rw [hz0] at hL0
  have hF1 := hF.keep (hbl.block F hF.lt)
  have hu : ∀ W : World, Below w.heap.size w W → ∀ v : Nat, v < ts.length → Calls Tryz.prog 56 #[.slice At ts.length ct, .agg #[.int .i64 d.op, .int .i64 d.x, .int .i64 d.y, .int .i64 d.n, u], .int .i64 v] W fun E w' => E = .returned (.int .i64 (useI ts d v)) ∧ Below W.heap.size W w' := fun W hW v hv => l3Use_any ts At ct d.op d.x d.y d.n d.next u v W hv (hT.below hW hW.size)
  have hs : ∀ W : World, Calls Tryz.prog 58 #[.agg #[.int .i64 d.op, .int .i64 d.x, .int .i64 d.y, .int .i64 d.n, u]] W fun E w' => E = .returned (.int .i64 (setI d)) ∧ Below W.heap.size W w' := fun W => l3Set_any d.op d.x d.y d.n d.next u W
  have HU := Lib.hid hu
  have HS := Lib.hid hs
  have HL0 := Lib.hid hL0
  have HB1 := Lib.hid hB1
  have HF1 := Lib.hid hF1
  have HBL := Lib.hid hbl
  have HZ1 := Lib.hid hz1
  have HSET := Lib.hid hset
  unfold maxLen at hc2
  clear hu hs hL0 hB1 hF1 hbl hz1 hz0 hB0 hb0 hT hF hset
  go_enter Tryz.func88, Tryz.ntmps88
  go_wp2_with (at_builtin; refine wpList_append_flags rfl _ _ rfl (w.heap.size + 1) F c ts.length fl rfl HL0.out rfl HF1.out (by omega) ?_)
  intro G cap w1 hG hcap hcm hGl hgr
  have hbw : Below w.heap.size w w1 := HBL.out.grown hgr (by rw [HZ1.out]; omega) (fun k hk => by cases hk)
  have hX := (hgr.block w.heap.size (by rw [HZ1.out]; omega) (by simp)).trans HB1.out
  have hw1s : w.heap.size + 1 < w1.heap.size := by
    have := hgr.size
    rw [HZ1.out] at this
    omega
  have HX := Lib.hid hX
  have HG := Lib.hid hG
  have HBW := Lib.hid hbw
  have hcm2 := hcm
  unfold maxLen at hcm2
  clear hgr hX hG hbw
  go_wp2_with fail
  go_loopw [8] (fun i wr => ∃ k : Nat, i = .int .i64 k ∧ k ≤ ts.length ∧ Hid (FlW wr G ts.length (fun v => fl v && !(decide (v < k) && decide (useI ts d v = 2)))) ∧ Hid (Below (w.heap.size + 1) w1 wr)) (fun i wr => ts.length - (intOf i).toNat)
  case atStart => exact ⟨0, rfl, Nat.zero_le _, Lib.hid (HG.out.congr (fun i _ => by simp)), Lib.hid (Below.refl _ _)⟩
  case round =>
    clear HG
    obtain ⟨k, rfl, hk, HG, HB⟩ := hrel
    have hbs := HB.out.size
    have hXr := (HB.out.block w.heap.size (by omega)).trans HX.out
    have q0 : wr.cell? ⟨w.heap.size, 0, none⟩ = some (.int .i64 d.op) := (cell_of_block hXr 0).trans rfl
    have q1 : wr.cell? ⟨w.heap.size, 1, none⟩ = some (.int .i64 d.x) := (cell_of_block hXr 1).trans rfl
    have q2 : wr.cell? ⟨w.heap.size, 2, none⟩ = some (.int .i64 d.y) := (cell_of_block hXr 2).trans rfl
    have q3 : wr.cell? ⟨w.heap.size, 3, none⟩ = some (.int .i64 d.n) := (cell_of_block hXr 3).trans rfl
    have q4 : wr.cell? ⟨w.heap.size, 4, none⟩ = some u := (cell_of_block hXr 4).trans rfl
    have hbwr : Below w.heap.size w wr := HBW.out.trans (HB.out.mono (by omega))
    clear hXr
    by_cases hlt : k < ts.length
    · have hu := HU.out wr hbwr k hlt
      obtain ⟨U, hU⟩ : ∃ U, useI ts d k = U := ⟨_, rfl⟩
      rw [hU] at hu
      have HUE := Lib.hid hU
      clear hU
      go_wp2_with fail
      refine hu.mono ?_
      rintro E w3 ⟨rfl, hb3⟩
      have HB3 : Hid (Below (w.heap.size + 1) w1 w3) := HB.out.trans (hb3.mono (by omega))
      have hGr := HG.out.keep (hb3.block G HG.out.lt)
      have sG := hGr.soft k
      have cG := hGr.cell hlt
      by_cases h2 : U = 2
      · subst h2
        have hG2 := hGr.put hlt false
        have HG2 : Hid (FlW (w3.setCell ⟨G, k, none⟩ (.bool false)) G ts.length (fun v => fl v && !(decide (v < k + 1) && decide (useI ts d v = 2)))) := hG2.congr (fun i _ => by
          unfold setR
          by_cases hik : i = k
          · subst hik
            rw [if_pos rfl, HUE.out]
            simp
          · rw [if_neg hik]
            congr 2
            congr 1
            exact decide_eq_decide.mpr (by omega))
        have HB4 : Hid (Below (w.heap.size + 1) w1 (w3.setCell ⟨G, k, none⟩ (.bool false))) := below_set HB3.out hGl
        clear hu hb3 hGr hG2 HB HG q0 q1 q2 q3 q4 HB3
        go_wp2_with fail
        refine ⟨⟨k + 1, by simp, by omega, HG2, HB4⟩, ?_⟩
        simp only [intOf]
        omega
      · have hd2 : decide (U = 2) = false := decide_eq_false h2
        have HG2 : Hid (FlW w3 G ts.length (fun v => fl v && !(decide (v < k + 1) && decide (useI ts d v = 2)))) := hGr.congr (fun i _ => by
          by_cases hik : i = k
          · subst hik
            rw [HUE.out, hd2]
            simp
          · congr 2
            congr 1
            exact decide_eq_decide.mpr (by omega))
        clear hu hb3 hGr HB HG q0 q1 q2 q3 q4 sG cG
        go_wp2_with fail
        refine ⟨⟨k + 1, by simp, by omega, HG2, HB3⟩, ?_⟩
        simp only [intOf]
        omega
    · have hke : k = ts.length := by omega
      subst hke
      have hs := HS.out wr
      go_wp2_with fail
      refine hs.mono ?_
      rintro E w3 ⟨rfl, hb3⟩
      have hbw3 : Below w.heap.size w w3 := hbwr.trans (hb3.mono (by omega))
      have hGr := HG.out.keep (hb3.block G HG.out.lt)
      rcases HSET.out with hn | ⟨v, hv, hvt⟩
      · have hge : decide (0 ≤ setI d) = false := decide_eq_false (by omega)
        have hfin : FlW w3 G ts.length (behindR ts d fl) := hGr.congr (fun i hi => by
          unfold behindR
          have e : decide (setI d = (i : Int)) = false := decide_eq_false (by omega)
          rw [e, decide_eq_true hi]
          simp)
        have HFIN := Lib.hid hfin
        clear hs hb3 hGr hfin HG HB
        go_wp2_with fail
        go_ret
        exact ⟨G, cap, rfl, hcap, hcm, by omega, HFIN.out, hbw3⟩
      · rw [hv]
        have sG := hGr.soft v
        have cG := hGr.cell hvt
        have hG2 := hGr.put hvt true
        have hfin : FlW (w3.setCell ⟨G, v, none⟩ (.bool true)) G ts.length (behindR ts d fl) := hG2.congr (fun i hi => by
          unfold behindR setR
          show _ = if i = v then true else (fl i && !(decide (i < ts.length) && decide (useI ts d i = 2)))
          rw [decide_eq_true hi, hv]
          by_cases hiv : i = v
          · subst hiv
            simp
          · rw [if_neg hiv]
            have e : decide ((v : Int) = (i : Int)) = false := decide_eq_false (by omega)
            rw [e]
            simp)
        have HFIN := Lib.hid hfin
        have HB4 : Hid (Below w.heap.size w (w3.setCell ⟨G, v, none⟩ (.bool true))) := below_set hbw3 (by omega)
        clear hs hb3 hGr hfin HG HB hG2 hv
        go_wp2_with fail
        go_ret
        exact ⟨G, cap, rfl, hcap, hcm, by omega, HFIN.out, HB4.out⟩

end Go.Proofs.YtbffldgiccijlaaGreatDoor
