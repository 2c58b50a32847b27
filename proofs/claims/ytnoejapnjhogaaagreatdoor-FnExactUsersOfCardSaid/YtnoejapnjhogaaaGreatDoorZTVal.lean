/-
  What comes to the variable that a point sets, by the model: l10Value.
-/
import Derived.Test.YtnoejapnjhogaaaGreatDoorZTM
import Derived.StillTailTactics
import Derived.Deep.DeepCutAuto
import Derived.Deep.CutBlock
namespace Go.Proofs.YtnoejapnjhogaaaGreatDoor.tr
open Go.RowKit Go.Deep
set_option linter.unusedVariables false

theorem hand_lt {q : Nat} {ts : List Int} {ns : List Nd} (hA : AllTyped ts ns) {a : Nat} {d : Nd} (hd : ns[a]? = some d) (h : d.op = 3 ∨ d.op = 4 ∨ d.op = 5) : 0 ≤ d.y ∧ d.y < ts.length := by
  rcases hA.2 a d hd with ⟨_, _, h3⟩ | ⟨h3, _⟩
  · refine tyAt_lt ?_
    rcases h with h4 | h4 | h4 <;> rw [h4] at h3 <;> simp [simpleB] at h3 <;> omega
  · omega

set_option maxRecDepth 100000 in
set_option maxHeartbeats 4000000 in
theorem l10Value_any (q : Nat) (hq : q < 3) (ts : List Int) (ns : List Nd) (At As : Option Addr) (ct sl cs : Nat) (a : Nat) (d : Nd) (u : Value) (B0 : Nat) (m : M4) (S : Nat → Nat → Bool) (w : World) (hA : AllTyped ts ns) (hle : ns.length ≤ 61) (hd : ns[a]? = some d) (h : S4 w B0 ts.length (szQ q ns.length) m S) :
    Calls Tryz.prog 103 #[.agg #[.slice At ts.length ct, .slice As sl cs], .agg #[.int .i64 d.op, .int .i64 d.x, .int .i64 d.y, .int .i64 d.n, u], .int .i64 a, m.val ts.length, .int .i64 q, .int .i64 (szQ q ns.length)] w
      fun E w' => ∃ F, E = .returned (.slice (some ⟨F, 0, none⟩) (szQ q ns.length) (szQ q ns.length)) ∧ FlW w' F (szQ q ns.length) (fun l => gQ q d a l || (hQ q d && S d.y.toNat l)) ∧ w.heap.size ≤ F ∧ Below w.heap.size w w' := by
  have han := (List.getElem?_eq_some_iff.mp hd).1
  have ht6 := hA.1
  have hgl : ∀ l, gQ q d a l = true → l < szQ q ns.length := fun l hg => gQ_lt hA hd hg
  have hhl : d.op = 3 ∨ d.op = 4 ∨ d.op = 5 → 0 ≤ d.y ∧ d.y < ts.length := fun h9 => hand_lt (q := q) hA hd h9
  have hnum : d.op = 1 → 0 ≤ d.n ∧ d.n ≤ 9 := fun h9 => num_ok hA hd h9
  have hz61 : szQ q ns.length ≤ 61 := by
    unfold szQ
    split
    · exact hle
    · split
      · exact hle
      · omega
  have hz1 : q = 1 → a < szQ q ns.length := fun e => by unfold szQ; rw [if_neg (by omega), if_pos e]; exact han
  have hz0 : q = 0 → a < szQ q ns.length := fun e => by unfold szQ; rw [if_pos e]; exact han
  have hz2 : q = 2 → szQ q ns.length = 10 := fun e => by unfold szQ; rw [if_neg (by omega), if_neg (by omega)]
  obtain ⟨z, hz⟩ : ∃ z, z = szQ q ns.length := ⟨_, rfl⟩
  rw [← hz] at h hgl hz61 hz1 hz0 hz2 ⊢
  clear hz
  have HS := Lib.hid h
  have HGL := Lib.hid hgl
  have HHL := Lib.hid hhl
  have HNUM := Lib.hid hnum
  have HFA := Lib.hid h.fa
  obtain ⟨hf1, hf2⟩ := h.cf
  unfold maxLen at hf2
  have HQ1 := Lib.hid hz1
  have HQ0 := Lib.hid hz0
  have HQ2 := Lib.hid hz2
  have hb1 := ((Below.refl w.heap.size w).alloc (Nat.le_refl _) (.cells #[.slice At ts.length ct, .slice As sl cs] 30)).alloc (by simp) (.cells #[.int .i64 d.op, .int .i64 d.x, .int .i64 d.y, .int .i64 d.n, u] 75)
  have hzz : ((w.alloc (.cells #[.slice At ts.length ct, .slice As sl cs] 30)).alloc (.cells #[.int .i64 d.op, .int .i64 d.x, .int .i64 d.y, .int .i64 d.n, u] 75)).heap.size = w.heap.size + 2 := by simp
  have hX := heap_alloc_new (w.alloc (.cells #[.slice At ts.length ct, .slice As sl cs] 30)) (.cells #[.int .i64 d.op, .int .i64 d.x, .int .i64 d.y, .int .i64 d.n, u] 75)
  rw [show (w.alloc (.cells #[.slice At ts.length ct, .slice As sl cs] 30)).heap.size = w.heap.size + 1 from by simp] at hX
  have HMK : Hid (∀ W : World, _) := Lib.hid (fun W => run_make_row' (P := Tryz.prog) 50 4 (.bool false) 1 Tryz.underlying50 Tryz.infoBool rfl .i64 .i64 z (by omega) (by omega) W)
  have hmk := HMK.out ((w.alloc (.cells #[.slice At ts.length ct, .slice As sl cs] 30)).alloc (.cells #[.int .i64 d.op, .int .i64 d.x, .int .i64 d.y, .int .i64 d.n, u] 75))
  clear h hgl hhl hnum hz1 hz0 hz2 hA hd HMK
  have hq3 : q = 0 ∨ q = 1 ∨ q = 2 := by omega
  clear hq
  rcases hq3 with rfl | rfl | rfl
  all_goals
    unfold M4.val
    obtain ⟨A, hAA⟩ : ∃ A, A = m.fa := ⟨_, rfl⟩
    rw [← hAA] at HFA ⊢
    clear hAA
    go_enter Tryz.func103, Tryz.ntmps103
    go_upto_region 2 with fail
    clear hmk
    generalize (w.alloc (.cells #[.slice At ts.length ct, .slice As sl cs] 30)).alloc (.cells #[.int .i64 d.op, .int .i64 d.x, .int .i64 d.y, .int .i64 d.n, u] 75) = w1 at *
    have hfl := (FlAt.made w1 z).wide
    have hb2 := (Below.refl w1.heap.size w1).alloc (Nat.le_refl _) (.cells (madeCells #[.bool false] z) 4)
    have hzv : w1.heap.size < (w1.alloc (.cells (madeCells #[.bool false] z) 4)).heap.size := by simp
    generalize w1.alloc (.cells (madeCells #[.bool false] z) 4) = w2 at *
    have hX2 := (hb2.block (w.heap.size + 1) (by omega)).trans hX
    have HB := Lib.hid (hb1.trans (hb2.mono (by omega)))
    obtain ⟨V, hV⟩ : ∃ V, V = w.heap.size + 2 := ⟨_, rfl⟩
    have HVB : Hid (w.heap.size + 2 ≤ V ∧ V < w2.heap.size) := Lib.hid ⟨by omega, by omega⟩
    rw [hzz, ← hV] at hfl
    rw [← hV]
    have HF := Lib.hid hfl
    clear hb1 hzz hX hfl hb2 hzv hV
    obtain ⟨op, hop⟩ : ∃ op, op = d.op := ⟨_, rfl⟩
    have HOP := Lib.hid hop
    have c0 : w2.cell? ⟨w.heap.size + 1, 0, none⟩ = some (.int .i64 op) := by rw [hop]; exact (cell_of_block hX2 0).trans rfl
    have c2 : w2.cell? ⟨w.heap.size + 1, 2, none⟩ = some (.int .i64 d.y) := (cell_of_block hX2 2).trans rfl
    have c3 : w2.cell? ⟨w.heap.size + 1, 3, none⟩ = some (.int .i64 d.n) := (cell_of_block hX2 3).trans rfl
    clear hop hX2
    have ai0 : (0 : Int) ≤ (a : Int) := by omega
  · by_cases h2 : op = 2
    · subst h2
      have hI : a < z := HQ0.out rfl
      have ii0 : (0 : Int) ≤ (a : Int) := by omega
      have ii1 : (a : Int) < (z : Int) := by omega
      have cv := HF.out.cell hI
      have sv := HF.out.soft a
      have HN := Lib.hid (HF.out.put hI true)
      have HBN : Hid (Below w.heap.size w (w2.setCell ⟨V, a, none⟩ (.bool true))) := Lib.hid (below_set HB.out (by have := HVB.out; omega))
      clear HF HB
      go_wp2_with fail
      go_ret
      exact ⟨V, rfl, HN.out.congr (fun l hl => by unfold gQ hQ; rw [if_pos rfl, if_pos rfl, decide_eq_true HOP.out.symm, decide_eq_false (show ¬ (d.op = 3 ∨ d.op = 4 ∨ d.op = 5) from by have := HOP.out; omega)]; unfold setR; by_cases h9 : l = a <;> simp [h9]), by have := HVB.out; omega, HBN.out⟩
    · by_cases h345 : op = 3 ∨ op = 4 ∨ op = 5
      · have H3 : Hid (d.op = 3 ∨ d.op = 4 ∨ d.op = 5) := Lib.hid (by rw [← HOP.out]; exact h345)
        have H2 : Hid (¬ d.op = 2) := Lib.hid (by rw [← HOP.out]; exact h2)
        clear h2
        rcases h345 with rfl | rfl | rfl
        all_goals
          obtain ⟨y0, y1⟩ := HHL.out H3.out
          obtain ⟨Y, hY⟩ : ∃ Y : Nat, d.y = (Y : Int) := ⟨d.y.toNat, by omega⟩
          have HY := Lib.hid hY
          rw [hY] at c2 y0 y1
          have hYT : Y < ts.length := by omega
          clear hY
          obtain rfl := HFA.out (by omega)
          have hs2 := HS.out.keep (B := B0) (w' := w2) (by have := HB.out; exact ⟨this.os, this.tape, this.output, this.size, this.block⟩)
          have cg := hs2.slot hYT
          have hsf := hs2.fl Y hYT
          obtain ⟨k1, k2⟩ := hs2.cp Y hYT
          have hne : m.bl Y ≠ V := by have h8 := (HS.out.fl Y hYT).lt; have := HVB.out; omega
          have had := l4Add_any z V z (m.bl Y) (m.cp Y) _ _ w2 (by omega) HF.out hsf hne (Nat.le_refl _) (by unfold maxLen; omega) k1 k2
          unfold maxLen at k2
          have HNE := Lib.hid hne
          clear hs2 hsf hne HF
          go_wp2_with fail
          refine had.mono ?_
          rintro E w5 ⟨rfl, hf5, hg5⟩
          have HF5 := Lib.hid hf5
          have HB5 : Hid (Below w.heap.size w w5) := Lib.hid (HB.out.grown hg5 HB.out.size (fun j hj => by injection hj with hj; have := HVB.out; omega))
          clear had hf5 hg5 HB
          go_wp2_with fail
          go_ret
          exact ⟨V, rfl, HF5.out.congr (fun l hl => by unfold gQ hQ; rw [if_pos rfl, if_pos rfl, decide_eq_false H2.out, decide_eq_true H3.out, HY.out, Int.toNat_natCast]; simp), by have := HVB.out; omega, by first | exact HB5.out | exact HB5.out.drew⟩
      · have H3 : Hid (¬ (d.op = 3 ∨ d.op = 4 ∨ d.op = 5)) := Lib.hid (by rw [← HOP.out]; exact h345)
        have H2 : Hid (¬ d.op = 2) := Lib.hid (by rw [← HOP.out]; exact h2)
        have e2 : (op == 2) = false := by simp; omega
        have d2 : decide (op = 2) = false := decide_eq_false (by omega)
        have e3 : (op == 3) = false := by simp; omega
        have d3 : decide (op = 3) = false := decide_eq_false (by omega)
        have e4 : (op == 4) = false := by simp; omega
        have d4 : decide (op = 4) = false := decide_eq_false (by omega)
        have e5 : (op == 5) = false := by simp; omega
        have d5 : decide (op = 5) = false := decide_eq_false (by omega)
        go_wp2_with fail
        go_ret
        exact ⟨V, rfl, HF.out.congr (fun l hl => by unfold gQ hQ; rw [if_pos rfl, if_pos rfl, decide_eq_false H2.out, decide_eq_false H3.out]; simp), by have := HVB.out; omega, by first | exact HB.out | exact HB.out.drew⟩
  · skip
    have hI : a < z := HQ1.out rfl
    have ii0 : (0 : Int) ≤ (a : Int) := by omega
    have ii1 : (a : Int) < (z : Int) := by omega
    have cv := HF.out.cell hI
    have sv := HF.out.soft a
    have HN := Lib.hid (HF.out.put hI true)
    have HBN : Hid (Below w.heap.size w (w2.setCell ⟨V, a, none⟩ (.bool true))) := Lib.hid (below_set HB.out (by have := HVB.out; omega))
    clear HF HB
    go_wp2_with fail
    go_ret
    exact ⟨V, rfl, HN.out.congr (fun l hl => by unfold gQ hQ; rw [if_neg (by decide), if_pos rfl, if_neg (by decide), if_pos rfl]; unfold setR; by_cases h9 : l = a <;> simp [h9]), by have := HVB.out; omega, HBN.out⟩
  · have hz10 := HQ2.out rfl
    clear HQ0 HQ1 HQ2
    subst hz10
    by_cases h1 : op = 1
    · subst h1
      obtain ⟨n0, n1⟩ := HNUM.out HOP.out.symm
      obtain ⟨M, hM⟩ : ∃ M : Nat, d.n = (M : Int) := ⟨d.n.toNat, by omega⟩
      have HM := Lib.hid hM
      rw [hM] at c3 n0 n1
      clear hM
      have hI : M < 10 := by omega
      have ii0 : (0 : Int) ≤ (M : Int) := by omega
      have ii1 : (M : Int) < (10 : Int) := by omega
      have cv := HF.out.cell hI
      have sv := HF.out.soft M
      have HN := Lib.hid (HF.out.put hI true)
      have HBN : Hid (Below w.heap.size w (w2.setCell ⟨V, M, none⟩ (.bool true))) := Lib.hid (below_set HB.out (by have := HVB.out; omega))
      clear HF HB
      go_wp2_with fail
      go_ret
      exact ⟨V, rfl, HN.out.congr (fun l hl => by unfold gQ hQ; rw [if_neg (by decide), if_neg (by decide), if_neg (by decide), if_neg (by decide), decide_eq_true HOP.out.symm, decide_eq_false (show ¬ d.op = 6 from by have := HOP.out; omega), decide_eq_false (show ¬ d.op = 3 from by have := HOP.out; omega), HM.out, show decide ((M : Int) = (l : Int)) = decide (l = M) from decide_eq_decide.mpr (by omega)]; unfold setR; by_cases h9 : l = M <;> simp [h9]), by have := HVB.out; omega, HBN.out⟩
    · by_cases h3 : op = 3
      · have H3 : Hid (d.op = 3) := Lib.hid (by rw [← HOP.out]; exact h3)
        subst h3
        obtain ⟨y0, y1⟩ := HHL.out (.inl H3.out)
        obtain ⟨Y, hY⟩ : ∃ Y : Nat, d.y = (Y : Int) := ⟨d.y.toNat, by omega⟩
        have HY := Lib.hid hY
        rw [hY] at c2 y0 y1
        have hYT : Y < ts.length := by omega
        clear hY
        obtain rfl := HFA.out (by omega)
        have hs2 := HS.out.keep (B := B0) (w' := w2) (by have := HB.out; exact ⟨this.os, this.tape, this.output, this.size, this.block⟩)
        have cg := hs2.slot hYT
        have hsf := hs2.fl Y hYT
        obtain ⟨k1, k2⟩ := hs2.cp Y hYT
        have hne : m.bl Y ≠ V := by have h8 := (HS.out.fl Y hYT).lt; have := HVB.out; omega
        have had := l4Add_any 10 V 10 (m.bl Y) (m.cp Y) _ _ w2 (by omega) HF.out hsf hne (Nat.le_refl _) (by unfold maxLen; omega) k1 k2
        unfold maxLen at k2
        have HNE := Lib.hid hne
        clear hs2 hsf hne HF
        go_wp2_with fail
        refine had.mono ?_
        rintro E w5 ⟨rfl, hf5, hg5⟩
        have HF5 := Lib.hid hf5
        have HB5 : Hid (Below w.heap.size w w5) := Lib.hid (HB.out.grown hg5 HB.out.size (fun j hj => by injection hj with hj; have := HVB.out; omega))
        clear had hf5 hg5 HB
        go_wp2_with fail
        go_ret
        exact ⟨V, rfl, HF5.out.congr (fun l hl => by unfold gQ hQ; rw [if_neg (by decide), if_neg (by decide), if_neg (by decide), if_neg (by decide), decide_eq_false (show ¬ d.op = 1 from by have := H3.out; omega), decide_eq_false (show ¬ d.op = 6 from by have := H3.out; omega), decide_eq_true H3.out, HY.out, Int.toNat_natCast]; simp), by have := HVB.out; omega, by first | exact HB5.out | exact HB5.out.drew⟩
      · by_cases h6 : op = 6
        · have H6 : Hid (d.op = 6) := Lib.hid (by rw [← HOP.out]; exact h6)
          subst h6
          go_wp2_with fail
          go_loopw [14] (fun i wr => ∃ k : Nat, i = .int .i64 k ∧ k ≤ 10 ∧ Hid (FlW wr V 10 (fun l => decide (l < k))) ∧ Hid (Below w.heap.size w wr)) (fun i _ => 10 - (intOf i).toNat)
          case atStart => exact ⟨0, rfl, Nat.zero_le _, Lib.hid (HF.out.congr fun l _ => by simp), HB⟩
          case round =>
            clear HF HB
            obtain ⟨k, rfl, hk, HF, HB⟩ := hrel
            by_cases hlt : k < 10
            · have cv := HF.out.cell hlt
              have sv := HF.out.soft k
              have ki0 : (0 : Int) ≤ (k : Int) := by omega
              have ki1 : (k : Int) < 10 := by omega
              have HN : Hid (FlW (wr.setCell ⟨V, k, none⟩ (.bool true)) V 10 (fun l => decide (l < k + 1))) := Lib.hid ((HF.out.put hlt true).congr fun l _ => by
                unfold setR
                by_cases h9 : l = k
                · subst h9
                  rw [if_pos rfl]
                  exact decide_eq_true (by omega)
                · rw [if_neg h9]
                  exact decide_eq_decide.mpr (by omega))
              have HBN : Hid (Below w.heap.size w (wr.setCell ⟨V, k, none⟩ (.bool true))) := Lib.hid (below_set HB.out (by have := HVB.out; omega))
              clear HF HB
              go_wp2_with fail
              refine ⟨⟨k + 1, by simp, by omega, HN, HBN⟩, ?_⟩
              simp only [intOf]
              omega
            · have hke : k = 10 := by omega
              subst hke
              go_wp2_with fail
              go_ret
              exact ⟨V, rfl, HF.out.congr (fun l hl => by unfold gQ hQ; rw [if_neg (by decide), if_neg (by decide), if_neg (by decide), if_neg (by decide), decide_eq_false (show ¬ d.op = 1 from by have := H6.out; omega), decide_eq_true H6.out, decide_eq_false (show ¬ d.op = 3 from by have := H6.out; omega)]; simp [hl]), by have := HVB.out; omega, by first | exact HB.out | exact HB.out.drew⟩
        · have H1 : Hid (¬ d.op = 1) := Lib.hid (by rw [← HOP.out]; exact h1)
          have H3 : Hid (¬ d.op = 3) := Lib.hid (by rw [← HOP.out]; exact h3)
          have H6 : Hid (¬ d.op = 6) := Lib.hid (by rw [← HOP.out]; exact h6)
          have e1 : (op == 1) = false := by simp; omega
          have d1 : decide (op = 1) = false := decide_eq_false (by omega)
          have e3 : (op == 3) = false := by simp; omega
          have d3 : decide (op = 3) = false := decide_eq_false (by omega)
          have e6 : (op == 6) = false := by simp; omega
          have d6 : decide (op = 6) = false := decide_eq_false (by omega)
          go_wp2_with fail
          go_ret
          exact ⟨V, rfl, HF.out.congr (fun l hl => by unfold gQ hQ; rw [if_neg (by decide), if_neg (by decide), if_neg (by decide), if_neg (by decide), decide_eq_false H1.out, decide_eq_false H3.out, decide_eq_false H6.out]; simp), by have := HVB.out; omega, by first | exact HB.out | exact HB.out.drew⟩

end Go.Proofs.YtnoejapnjhogaaaGreatDoor.tr
