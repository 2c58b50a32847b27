/-
  UnsetUses of the model.
-/
import Derived.Test.YtbffldgiccijlaaGreatDoorZFwdG
import Derived.Test.YtbffldgiccijlaaGreatDoorZL2Xb
import Derived.Test.YtbffldgiccijlaaGreatDoorZPuG
import Derived.Test.YtbffldgiccijlaaGreatDoorZBase
import Derived.Deep.RegionHeld3
namespace Go.Proofs.YtbffldgiccijlaaGreatDoor
open Go.RowKit Go.Deep
set_option linter.unusedVariables false

theorem pRow_len_Un {w : World} {B : Nat} {v : Value} {ns : List Nd} (h : PRow w B v ns) : ∃ A c, v = .slice A ns.length c := by
  obtain ⟨xs, ho, _⟩ := h
  rcases ho.2 with ⟨hv, h0⟩ | ⟨g, cap, cur, hv, _⟩
  · exact ⟨none, 0, by rw [hv, h0]⟩
  · exact ⟨_, _, hv⟩

theorem ontoU_of {w w' : World} {v : Value} {g n cap : Nat} (hg : w.grownBy w' v.ownBlock) (hat : v.ownBlock = some g ∨ g = w.heap.size) : Onto w w' v (.slice (some ⟨g, 0, none⟩) n cap) := by
  refine ⟨hg, ?_⟩
  rcases hat with h | h
  · exact .inl h.symm
  · refine .inr fun k hk => ?_
    have hk' : g = k := by simpa [Value.ownBlock] using hk
    omega

theorem PRow.ontoU {w w' : World} {B : Nat} {v x y : Value} {ns : List Nd} (h : PRow w B v ns) (hO : Onto w w' x y) (hx : ∀ g, x.ownBlock = some g → g < B) : PRow w' B v ns := by
  obtain ⟨xs, ho, hc⟩ := h
  have hb : ∀ k, B ≤ k → k < w.heap.size → w'.heap[k]? = w.heap[k]? := fun k hk hl => hO.1.block k hl (fun e => by have := hx k e.symm; omega)
  refine ⟨xs, ⟨ho.1, ?_⟩, fun k d hd => ?_⟩
  · rcases ho.2 with h | ⟨g, cap, cur, h1, h2, h3, h4⟩
    · exact .inl h
    · exact .inr ⟨g, cap, cur, h1, h2, (hb g h2 (heap_lt h3)).trans h3, h4⟩
  · obtain ⟨u, h5, hn⟩ := hc k d hd
    refine ⟨u, h5, ?_⟩
    rcases hn with hn | ⟨g, e1, e2, e3⟩
    · exact .inl hn
    · exact .inr ⟨g, e1, e2, (hb g e2 (heap_lt e3)).trans e3⟩

theorem Onto.belowU {w w' : World} {B : Nat} {v v' : Value} (h : Onto w w' v v') (hB : B ≤ w.heap.size) (hv : ∀ g, v.ownBlock = some g → B ≤ g) : Below B w w' :=
  ⟨h.1.os, h.1.tape, h.1.output, h.1.size, fun k hk => h.1.block k (by omega) fun e => by have := hv k e.symm; omega⟩

theorem held_7u {K : Nat} {w1 wo w' : World} {a0 a1 a2 a3 a4 a5 a6 : Addr} {b0 b1 b2 b3 b4 b5 b6 : Value} (hb : Below wo.heap.size wo w') (h : Below K w1 wo) (hK : K = w1.heap.size)
    (h0 : a0.block < w1.heap.size) (h1 : a1.block < w1.heap.size) (h6 : a6.block < w1.heap.size) (e2 : a2.block = a1.block) (e3 : a3.block = a1.block) (e4 : a4.block = a1.block) (e5 : a5.block = a1.block)
    (q0 : w1.cell? a0 = some b0) (q1 : w1.cell? a1 = some b1) (q2 : w1.cell? a2 = some b2) (q3 : w1.cell? a3 = some b3) (q4 : w1.cell? a4 = some b4) (q5 : w1.cell? a5 = some b5) (q6 : w1.cell? a6 = some b6) :
    Below K w1 w' ∧ w'.cell? a0 = some b0 ∧ w'.cell? a1 = some b1 ∧ w'.cell? a2 = some b2 ∧ w'.cell? a3 = some b3 ∧ w'.cell? a4 = some b4 ∧ w'.cell? a5 = some b5 ∧ w'.cell? a6 = some b6 := by
  subst hK
  have hbb : Below w1.heap.size w1 w' := h.trans (hb.mono h.size)
  exact ⟨hbb, (hbb.cell h0).trans q0, (hbb.cell h1).trans q1, (hbb.cell (by rw [e2]; exact h1)).trans q2, (hbb.cell (by rw [e3]; exact h1)).trans q3, (hbb.cell (by rw [e4]; exact h1)).trans q4, (hbb.cell (by rw [e5]; exact h1)).trans q5, (hbb.cell h6).trans q6⟩

set_option maxRecDepth 100000 in
set_option maxHeartbeats 8000000 in
theorem specUnsetUses_any (ts : List Int) (s : Sts) (At As : Option Addr) (ct cs : Nat) (w : World) (hsz : s.size ≤ 1048576) (hT : IntsV w 0 w.heap.size ts At ct) (hR : RepV w 0 w.heap.size s As cs) :
    Calls Tryz.prog 37 #[.agg #[.slice At ts.length ct, .slice As s.len cs]] w fun E w' => ∃ v l, E = .returned v ∧ RowI w' w.heap.size v l ∧ AnsL (UnU ts) (validB ts s) s l ∧ Below w.heap.size w w' := by
  have hb0 := (((Below.refl w.heap.size w).alloc (Nat.le_refl _) (.cells #[.slice At ts.length ct, .slice As s.len cs] 26)).alloc (by simp) (.cells #[] 3))
  have hT1 := hT.below hb0 (by simp; omega : w.heap.size ≤ ((w.alloc (.cells #[.slice At ts.length ct, .slice As s.len cs] 26)).alloc (.cells #[] 3)).heap.size)
  have hR1 := hR.below hb0 (by simp; omega : w.heap.size ≤ ((w.alloc (.cells #[.slice At ts.length ct, .slice As s.len cs] 26)).alloc (.cells #[] 3)).heap.size)
  have hz0 : ((w.alloc (.cells #[.slice At ts.length ct, .slice As s.len cs] 26)).alloc (.cells #[] 3)).heap.size = w.heap.size + 2 := by simp
  have hB0 : ((w.alloc (.cells #[.slice At ts.length ct, .slice As s.len cs] 26)).alloc (.cells #[] 3)).heap[w.heap.size]? = some (.cells #[.slice At ts.length ct, .slice As s.len cs] 26) := (((Below.refl _ _).alloc (Nat.le_refl _) (.cells #[] 3) : Below (w.alloc (.cells #[.slice At ts.length ct, .slice As s.len cs] 26)).heap.size (w.alloc (.cells #[.slice At ts.length ct, .slice As s.len cs] 26)) _).block w.heap.size (by simp)).trans (heap_alloc_new w _)
  have hS := specPointsOf_any ts s At As ct cs _ hsz hT1 hR1
  have hrow0 : RowI ((w.alloc (.cells #[.slice At ts.length ct, .slice As s.len cs] 26)).alloc (.cells #[] 3)) w.heap.size (.slice (some ⟨w.heap.size + 1, 0, none⟩) 0 0) [] := by
    have := World.ownsRow_lit (base := w.heap.size) (e := 3) (size := 1) (w.alloc (.cells #[.slice At ts.length ct, .slice As s.len cs] 26)) #[] 0 (by simp) (by simp [maxLen]) rfl
    have hz : (w.alloc (.cells #[.slice At ts.length ct, .slice As s.len cs] 26)).heap.size = w.heap.size + 1 := by simp
    rw [hz] at this
    exact this
  have HROW0 := Lib.hid hrow0
  have HZ := Lib.hid hz0
  have HB := Lib.hid hB0
  have hI0 : ((w.alloc (.cells #[.slice At ts.length ct, .slice As s.len cs] 26)).alloc (.cells #[] 3)).heap[w.heap.size + 1]? = some (.cells #[] 3 (0, 0)) := by
    have h9 := heap_alloc_new (w.alloc (.cells #[.slice At ts.length ct, .slice As s.len cs] 26)) (.cells #[] 3)
    rw [show (w.alloc (.cells #[.slice At ts.length ct, .slice As s.len cs] 26)).heap.size = w.heap.size + 1 by simp] at h9
    exact h9
  have HI0 := Lib.hid hI0
  clear hI0
  cases h1 : validB ts s
  · have hans : AnsL (UnU ts) false s [] := .inr ⟨rfl, rfl⟩
    have e0 : pointsB (validB ts s) s = [] := by simp [pointsB, h1]
    rw [e0] at hS
    have HANS := Lib.hid hans
    clear hz0 hrow0 hB0 hT1 hR1 hT hR hans e0 h1
    go_enter Tryz.func37, Tryz.ntmps37
    go_wp2_with fail
    refine hS.mono ?_
    rintro E w1 ⟨v, rfl, hP, hb1⟩
    obtain ⟨Av, cv, hv⟩ := pRow_len_Un hP
    subst hv
    rw [HZ.out] at hb1
    have hs1 := hb1.size
    have hbw : Below w.heap.size w w1 := hb0.trans (hb1.mono (by omega))
    have HR0 : Hid (RowI w1 w.heap.size (.slice (some ⟨w.heap.size + 1, 0, none⟩) 0 0) []) := HROW0.out.below (by rw [HZ.out]; exact hb1)
    clear hP hb1 hS HROW0
    go_wp2_with fail
    go_ret
    exact ⟨_, _, rfl, HR0.out, HANS.out, hbw⟩
  · have e0 : pointsB (validB ts s) s = progPts s := by simp [pointsB, h1]
    rw [e0] at hS
    have ht6 := (progPts_allTyped h1).1
    have hAT := progPts_allTyped h1
    have hlv : ∀ W : World, Below w.heap.size w W → Calls Tryz.prog 63 #[.agg #[.slice At ts.length ct, .slice As s.len cs], .bool true] W (FwPost ts (progPts s) true (fun _ => True) (fun k v => usesN ts (progPts s) k v 2 ∧ ¬ setsN (progPts s) k v) (fun k v => setsN (progPts s) k v) W) := fun W hW => l3Forward_any ts s At As ct cs true _ _ _ W h1 (hT.below hW hW.size) (hR.below hW hW.size) (fun k d r v hd => behindR_miss hd r v) (fun v => by simp [db])
    have hmk : ∀ l : List Int, IsPathsB (UnU ts (progPts s)) l → AnsL (UnU ts) true s l := fun l hl => .inl ⟨rfl, hl⟩
    have hle : (progPts s).length ≤ 61 := by
      have h8 := s.npts_le
      have h9 := valid_size h1
      rw [progPts_len]
      omega
    have hn0 : 0 < (progPts s).length := by
      rw [progPts_len]
      omega
    generalize progPts s = ds at hS hlv hmk hAT hle hn0
    have HLV := Lib.hid hlv
    have HMK := Lib.hid hmk
    have HAT := Lib.hid hAT
    have HT := Lib.hid hT
    obtain ⟨i0, hi, hzz0, hzz1, hzz2⟩ := info_parts Tryz.infoInt
    have HI := Lib.hid hi
    have HZ0 := Lib.hid hzz0
    have HZ1 := Lib.hid hzz1
    have HZ2 := Lib.hid hzz2
    have hTm := hT.2.1
    have hTl := hT.1
    unfold maxLen at hTm
    have hd0 : ((ds.length : Int) == 0) = false := by
      rw [beq_eq_false_iff_ne]
      omega
    clear hi hzz0 hzz1 hzz2 hlv hmk hAT hz0 hrow0 hB0 hT1 hR1 hT hR h1 e0
    go_enter Tryz.func37, Tryz.ntmps37
    go_wp2_with fail
    refine hS.mono ?_
    rintro E w1 ⟨v, rfl, hP, hb1⟩
    rw [HZ.out] at hP hb1
    have hs1 := hb1.size
    rw [HZ.out] at hs1
    have hbw : Below w.heap.size w w1 := hb0.trans (hb1.mono (by omega))
    obtain ⟨g, cap, hv, hgB, hgl, hgc, hgm⟩ := hP.form hn0
    subst hv
    unfold maxLen at hgm
    have hB1 := (hb1.block w.heap.size (by omega)).trans HB.out
    have p0 : w1.cell? ⟨w.heap.size, 0, none⟩ = some (.slice At ts.length ct) := (cell_of_block hB1 0).trans rfl
    have p1 : w1.cell? ⟨w.heap.size, 1, none⟩ = some (.slice As s.len cs) := (cell_of_block hB1 1).trans rfl
    have HP := Lib.hid hP
    have HP0 := Lib.hid p0
    have HR0 : Hid (RowI w1 w.heap.size (.slice (some ⟨w.heap.size + 1, 0, none⟩) 0 0) []) := HROW0.out.below (by rw [HZ.out]; exact hb1)
    have hI1 : w1.heap[w.heap.size + 1]? = some (.cells #[] 3 (0, 0)) := (hb1.block (w.heap.size + 1) (by omega)).trans HI0.out
    have HI1 := Lib.hid hI1
    have hl3 := HLV.out w1 hbw
    clear hP hb1 hS hB1 HROW0 hI1
    go_wp2_with fail
    refine hl3.mono ?_
    rintro E w2 ⟨Rb, Sb, seen, o, rfl, hM, hSn, hiff⟩
    have hbl := hM.below
    have hbls := hbl.size
    have HM := Lib.hid (hM.base hbw)
    have HSN := Lib.hid hSn
    have HIFF := Lib.hid hiff
    have HR2 : Hid (RowI w2 w.heap.size (.slice (some ⟨w.heap.size + 1, 0, none⟩) 0 0) []) := HR0.out.below hbl
    have HBL := Lib.hid hbl
    have hbw2 : Below w.heap.size w w2 := hbw.trans (hbl.mono (by omega))
    have HP2 := Lib.hid (HP.out.below hbl)
    have HI2 := Lib.hid ((hbl.block (w.heap.size + 1) (by omega)).trans HI1.out)
    have HP02 := Lib.hid ((show w2.cell? ⟨w.heap.size, 0, none⟩ = some (.slice At ts.length ct) from (hbl.cell (by show w.heap.size < _; omega)).trans HP0.out))
    have hgl2 : g < w2.heap.size := by omega
    have hRl2 : Rb < w2.heap.size := by
      obtain ⟨cur, r1, _⟩ := hM.rows
      exact heap_lt r1
    obtain ⟨pU, hpU⟩ : ∃ p : Nat → Bool, ∀ k, p k = true ↔ UnU ts ds k := ⟨fun k => @decide (UnU ts ds k) (Classical.propDecidable _), fun k => by simp⟩
    have HPU := Lib.hid hpU
    have HOWN0 : Hid (∀ k, (Value.slice (some ⟨w.heap.size + 1, 0, none⟩) 0 0).ownBlock = some k → k = w.heap.size + 1) := by
      intro k hk
      have : w.heap.size + 1 = k := by simpa [Value.ownBlock] using hk
      exact this.symm
    clear hpU
    clear hl3 hM hSn hiff p0 p1 HR0 hbl
    go_wp2_with fail
    go_loopw [3, 6] (fun q i wr => ∃ k : Nat, i = .int .i64 k ∧ k ≤ ds.length ∧ Hid (RowI wr w.heap.size q (firstN pU k)) ∧ Onto w2 wr (.slice (some ⟨w.heap.size + 1, 0, none⟩) 0 0) q) (fun _ i _ => ds.length - (intOf i).toNat)
    case atStart => exact ⟨0, rfl, Nat.zero_le _, HR2, Onto.refl _ _⟩
    case round =>
      clear HR2
      obtain ⟨k, rfl, hk, hrow, hO⟩ := hrel
      obtain ⟨Ao, co, ho⟩ := hrow.out.slice
      subst ho
      have hzr := hO.size
      have hbr : Below w.heap.size w2 wr := hO.belowU (by omega) (fun k hk => by have := HOWN0.out k hk; omega)
      have hbW := hbw2.trans hbr
      have hln := firstN_length pU k
      by_cases hlt : k < ds.length
      · obtain ⟨d, hd⟩ : ∃ d, ds[k]? = some d := ⟨ds[k], List.getElem?_eq_getElem hlt⟩
        have hPr := HP2.out.ontoU hO (fun k hk => by have := HOWN0.out k hk; omega)
        obtain ⟨ud, ⟨q0, q1, q2, q3, q4⟩, hud⟩ := hPr.cells hd
        have hMr := HM.out.carry hbW (fun j cs t hc ht => hO.1.block j (heap_lt hc) (fun e => by
          have e1 := HOWN0.out j e.symm
          subst e1
          rw [HI2.out] at hc
          simp at hc
          rcases ht with rfl | rfl
          · exact absurd hc.2 (by decide)
          · exact absurd hc.2 (by decide)))
        have p1 : wr.cell? ⟨w.heap.size, 0, none⟩ = some (.slice At ts.length ct) := (World.cell?_of_block (a := ⟨w.heap.size, 0, none⟩) (hO.1.block w.heap.size (by omega) (fun e => by have := HOWN0.out _ e.symm; omega))).trans HP02.out
        obtain ⟨rv, rb, -, -, hrv⟩ := hMr.rowCell hlt
        obtain ⟨Fr, cr, hrve, hcr1, hcr2, -, hfl⟩ : ∃ F c, rv = .slice (some ⟨F, 0, none⟩) ts.length c ∧ ts.length ≤ c ∧ c ≤ maxLen ∧ F ≠ Sb ∧ FlW wr F ts.length (o k) := by
          rcases hrv with ⟨h9, _⟩ | ⟨_, h9⟩
          · rw [HSN.out k hlt] at h9; cases h9
          · exact h9
        subst hrve
        have hun := fun (W : World) (hW : Below wr.heap.size wr W) => l3Unset_any ts At ct d ud Fr cr (o k) W ht6 (HT.out.below (hbW.trans (hW.mono (by omega))) (by have := hW.size; omega)) (hfl.keep (hW.block Fr hfl.lt)) hcr1 hcr2
        have hiu : (∃ v, v < ts.length ∧ useI ts d v ≠ 0 ∧ o k v = false) ↔ UnU ts ds k := by
          constructor
          · rintro ⟨v, h7, h8, h9⟩
            exact ⟨hlt, v, d, hd, h8, (HIFF.out k v hlt h7).mp (by unfold db; rw [h9]; rfl)⟩
          · rintro ⟨_, v, d', h6, h7, h8⟩
            rw [hd] at h6
            injection h6 with h6
            subst h6
            have h9 := typed_use (HAT.out.2 k d hd) _ h7
            have h10 : v < ts.length := by omega
            have h11 := (HIFF.out k v hlt h10).mpr h8
            unfold db at h11
            exact ⟨v, h10, h7, by simpa using h11⟩
        have HUN := Lib.hid hun
        have HIU := Lib.hid hiu
        have hl0 : (⟨w.heap.size, 0, none⟩ : Addr).block < wr.heap.size := by show w.heap.size < _; omega
        have hl1 : (⟨g, k * 5, none⟩ : Addr).block < wr.heap.size := by show g < _; omega
        have hl6 : (⟨Rb, k, none⟩ : Addr).block < wr.heap.size := by show Rb < _; omega
        clear hPr hd hud hMr hrv hfl hun hiu
        go_wp2_with fail
        go_region_held3 (fun w' => Below wr.heap.size wr w' ∧ w'.cell? ⟨w.heap.size, 0, none⟩ = some (.slice At ts.length ct) ∧ w'.cell? ⟨g, k * 5, none⟩ = some (.int .i64 d.op) ∧ w'.cell? ⟨g, k * 5 + 1, none⟩ = some (.int .i64 d.x) ∧ w'.cell? ⟨g, k * 5 + 2, none⟩ = some (.int .i64 d.y) ∧ w'.cell? ⟨g, k * 5 + 3, none⟩ = some (.int .i64 d.n) ∧ w'.cell? ⟨g, k * 5 + 4, none⟩ = some ud ∧ w'.cell? ⟨Rb, k, none⟩ = some (.slice (some ⟨Fr, 0, none⟩) ts.length cr))
          (first | exact ⟨(Below.refl wr.heap.size wr).drew, p1, q0, q1, q2, q3, q4, rb⟩ | exact held_7u hbn (And.left ‹Below wr.heap.size wr _ ∧ _›) rfl hl0 hl1 hl6 rfl rfl rfl rfl p1 q0 q1 q2 q3 q4 rb)
          (first | (go_at_call 69; refine (HUN.out _ (And.left ‹Below wr.heap.size wr _ ∧ _›)).mono ?_; rintro E w' ⟨r, rfl, hr, hbn⟩))
        obtain ⟨hbl, -⟩ := ‹Below wr.heap.size wr _ ∧ _›
        have HRW := Lib.hid (hrow.out.below hbl)
        have hO2 := hO.trans (Onto.of_below hbl (Value.slice Ao (firstN pU k).length co))
        have hzl := hbl.size
        have hru := hr.trans HIU.out
        clear hr hbl hrow hO p1 q0 q1 q2 q3 q4 rb HUN HIU
        cases r
        · have hno : pU k = false := by
            cases h9 : pU k
            · rfl
            · exact absurd (hru.mpr ((HPU.out k).mp h9)) (by simp)
          have e := Lib.hid (firstN_no hno)
          clear hru hno
          go_wp2_with fail
          refine ⟨⟨k + 1, by simp, by omega, by rw [e.out]; exact HRW, hO2⟩, ?_⟩
          simp only [intOf]
          omega
        · have hyes : pU k = true := (HPU.out k).mpr (hru.mp rfl)
          have e := Lib.hid (firstN_yes hyes)
          clear hru hyes
          go_wp2_with (at_builtin; refine wpList_append_lies _ rfl _ _ 23 rfl w.heap.size 3 i0 (.int .i64 0) 1 8 Tryz.underlying23 HI.out HZ0.out HZ1.out HZ2.out rfl (by decide) _ _ _ rfl ((RowI.own HRW.out).alloc _) ⟨_, 0, none⟩ 1 1 [.int .i64 (k : Int)] rfl rfl ?sa1 ?sa2 (by decide) ?sa3 ?sa4 ?sa5 _ rfl ?_)
          try (case sa1 => exact news1 (by simp) rfl)
          try (case sa2 => rfl)
          try (case sa2 => intro u hu; simp only [List.mem_cons, List.not_mem_nil, or_false] at hu; subst hu; rfl)
          try (case sa3 => unfold maxLen; omega)
          try (case sa4 => omega)
          try (case sa5 => first | omega | (simp; omega) | (have := hbW.size; simp; omega))
          intro g2 cap2 w' hown' hg hat hlt'
          have HO' : Hid (Onto w2 w' (.slice (some ⟨w.heap.size + 1, 0, none⟩) 0 0) (.slice (some ⟨g2, 0, none⟩) ((firstN pU k).length + 1) cap2)) := by
            refine Lib.hid (hO2.trans (Onto.trans (Onto.of_below ?hb9 _) (ontoU_of hg ?ha9)))
            case hb9 => exact (Below.refl _ _).alloc (Nat.le_refl _) _
            case ha9 => exact hat.imp id fun e => e.trans (by simp)
          have HR' : Hid (RowI w' w.heap.size (.slice (some ⟨g2, 0, none⟩) ((firstN pU k).length + 1) cap2) (firstN pU k ++ [(k : Int)])) := RowI.snoc hown'
          clear hown' hg hat hO2
          go_wp2_with fail
          refine ⟨⟨k + 1, by simp, by omega, by rw [e.out]; exact HR', HO'.out⟩, ?_⟩
          simp only [intOf]
          omega
      · have hke : k = ds.length := by omega
        have HANS := Lib.hid (HMK.out (firstN pU ds.length) (isPathsB_of (by omega) fun i => ⟨fun h => (HPU.out i).mp h.2, fun h => ⟨h.1, (HPU.out i).mpr h⟩⟩))
        subst hke
        go_wp2_with fail
        go_ret
        exact ⟨_, _, rfl, hrow.out, HANS.out, hbW⟩

end Go.Proofs.YtbffldgiccijlaaGreatDoor
