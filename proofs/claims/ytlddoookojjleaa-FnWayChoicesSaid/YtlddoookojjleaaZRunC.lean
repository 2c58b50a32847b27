/-
  The program's RunPath.
-/
import Derived.Test.YtlddoookojjleaaZRunB
import Derived.Test.YtlddoookojjleaaZBase
import Derived.Test.YtlddoookojjleaaZTxX
namespace Go.Proofs.Ytlddoookojjleaa
open Go.RowKit Go.Deep
set_option linter.unusedVariables false

set_option maxRecDepth 100000 in
set_option maxHeartbeats 2000000 in
theorem implRunPath_any (ts : List Int) (s : Sts) (At As : Option Addr) (ct cs : Nat) (xs : List Int) (A : Option Addr) (c : Nat) (most : Int) (w : World) (hT : IntsV w 0 w.heap.size ts At ct) (hR : RepV w 0 w.heap.size s As cs) (hX : IntsV w 0 w.heap.size xs A c) :
    Calls Try.prog 23 #[.agg #[.slice At ts.length ct, .slice As s.len cs], .slice A xs.length c, .int .i64 most] w fun E w' => ∃ v, E = .returned (.tuple #[v, .bool (runI (validB ts s) s xs most).2]) ∧ RowI w' w.heap.size v (runI (validB ts s) s xs most).1 ∧ Below w.heap.size w w' := by
  have hb0 := (Below.refl w.heap.size w).alloc (Nat.le_refl _) (.cells #[.slice At ts.length ct, .slice As s.len cs] 31)
  have hT1 : IntsV (w.alloc (.cells #[.slice At ts.length ct, .slice As s.len cs] 31)) 0 (w.alloc (.cells #[.slice At ts.length ct, .slice As s.len cs] 31)).heap.size ts At ct := hT.below hb0 (by simp)
  have hR1 : RepV (w.alloc (.cells #[.slice At ts.length ct, .slice As s.len cs] 31)) 0 (w.alloc (.cells #[.slice At ts.length ct, .slice As s.len cs] 31)).heap.size s As cs := hR.below hb0 (by simp)
  have hz0 : (w.alloc (.cells #[.slice At ts.length ct, .slice As s.len cs] 31)).heap.size = w.heap.size + 1 := by simp
  by_cases h1 : validB ts s = true
  · by_cases h2 : most < 0
    · have e0 : Hid (runI (validB ts s) s xs most = ([], false)) := by
        unfold Hid runI
        rw [if_neg (fun h => by omega)]
      have hrow : ∀ (W : World), Hid (RowI W w.heap.size (.slice none 0 0) []) := fun W => World.ownsRow_nil W w.heap.size 3 1
      have hS := graphOf_yes ts s At As ct cs _ h1 hT1 hR1
      have HZ := Lib.hid hz0
      clear h1 hz0
      go_enter Try.func23, Try.ntmps23
      go_wp2_with fail
      refine hS.mono ?_
      rintro E w1 ⟨C, rfl, hC, hG, hb1⟩
      rw [HZ.out] at hb1
      clear hS hG hC
      go_wp2_with fail
      go_ret2
      exact ⟨_, by rw [e0.out]; rfl, by rw [e0.out]; exact (hrow _).out, hb0.trans (hb1.mono (by omega))⟩
    · by_cases h3 : 1000 < most
      · have e0 : Hid (runI (validB ts s) s xs most = ([], false)) := by
          unfold Hid runI
          rw [if_neg (fun h => by omega)]
        have hrow : ∀ (W : World), Hid (RowI W w.heap.size (.slice none 0 0) []) := fun W => World.ownsRow_nil W w.heap.size 3 1
        have hS := graphOf_yes ts s At As ct cs _ h1 hT1 hR1
        have HZ := Lib.hid hz0
        have h2' : 0 ≤ most := by omega
        clear h1 hz0 h2
        go_enter Try.func23, Try.ntmps23
        go_wp2_with fail
        refine hS.mono ?_
        rintro E w1 ⟨C, rfl, hC, hG, hb1⟩
        rw [HZ.out] at hb1
        clear hS hG hC
        go_wp2_with fail
        go_ret2
        exact ⟨_, by rw [e0.out]; rfl, by rw [e0.out]; exact (hrow _).out, hb0.trans (hb1.mono (by omega))⟩
      · obtain ⟨m, hm⟩ : ∃ m : Nat, most = (m : Int) := ⟨most.toNat, by omega⟩
        subst hm
        have hm3 : m ≤ 1000 := by omega
        have e0 : Hid (runI (validB ts s) s xs m = runP (progPts s) m 0 xs) := by
          unfold Hid runI
          rw [if_pos ⟨h1, by omega, by omega⟩, Int.toNat_natCast]
        obtain ⟨hty, hok, h30⟩ := valid_ok h1
        have HD := Lib.hid (progPts_ok s hok)
        have hS := graphOf_yes ts s At As ct cs _ h1 hT1 hR1
        have HZ := Lib.hid hz0
        clear h1 hz0 hty hok h2 h3
        go_enter Try.func23, Try.ntmps23
        go_wp2_with fail
        refine hS.mono ?_
        rintro E w1 ⟨C, rfl, hC, hG, hb1⟩
        rw [HZ.out] at hC hb1
        have hb := hb0.trans (hb1.mono (by omega))
        have HG := Lib.hid hG
        have hX1 := Lib.hid (hX.below hb hb.size)
        clear hS hG hb1
        go_wp2_with fail
        refine (run_any C s.npts m (progPts s) xs A c w1 HD.out HG.out hm3 hX1.out).mono ?_
        rintro E w2 ⟨v, rfl, hrow, hb2⟩
        have hzz := hb.size
        have HR := Lib.hid hrow
        clear hrow
        go_wp2_with fail
        go_ret2
        exact ⟨v, by rw [e0.out]; rfl, by rw [e0.out]; exact HR.out.mono hzz, hb.trans (hb2.mono hzz)⟩
  · have h1' : validB ts s = false := by simpa using h1
    have e0 : Hid (runI (validB ts s) s xs most = ([], false)) := by
      unfold Hid runI
      rw [if_neg (fun h => h1 h.1)]
    have hrow : ∀ (W : World), Hid (RowI W w.heap.size (.slice none 0 0) []) := fun W => World.ownsRow_nil W w.heap.size 3 1
    have hS := graphOf_no ts s At As ct cs _ h1' hT1 hR1
    have HZ := Lib.hid hz0
    clear h1 h1' hz0
    go_enter Try.func23, Try.ntmps23
    go_wp2_with fail
    refine hS.mono ?_
    rintro E w1 ⟨rfl, hb1⟩
    rw [HZ.out] at hb1
    clear hS
    go_wp2_with fail
    go_ret2
    exact ⟨_, by rw [e0.out]; rfl, by rw [e0.out]; exact (hrow _).out, hb0.trans (hb1.mono (by omega))⟩

end Go.Proofs.Ytlddoookojjleaa
