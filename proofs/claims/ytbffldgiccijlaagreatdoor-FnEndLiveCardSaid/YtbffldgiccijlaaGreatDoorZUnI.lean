/-
  UnsetUses of the program.
-/
import Derived.Test.YtbffldgiccijlaaGreatDoorZAlwaysI
import Derived.Test.YtbffldgiccijlaaGreatDoorZFloG
import Derived.Test.YtbffldgiccijlaaGreatDoorZPuG
import Derived.Test.YtbffldgiccijlaaGreatDoorZUnS
import Derived.Test.YtbffldgiccijlaaGreatDoorZBase
import Derived.Deep.RegionHeld3
namespace Go.Proofs.YtbffldgiccijlaaGreatDoor.flowAll
open Go.RowKit Go.Deep
set_option linter.unusedVariables false

theorem held_5 {K : Nat} {w1 wo w' : World} {a0 a1 a2 a3 a4 : Addr} {b0 b1 b2 b3 b4 : Value} (hb : Below wo.heap.size wo w') (h : Below K w1 wo) (hK : K = w1.heap.size)
    (h0 : a0.block < w1.heap.size) (e1 : a1.block = a0.block) (e2 : a2.block = a0.block) (e3 : a3.block = a0.block) (h4 : a4.block < w1.heap.size)
    (q0 : w1.cell? a0 = some b0) (q1 : w1.cell? a1 = some b1) (q2 : w1.cell? a2 = some b2) (q3 : w1.cell? a3 = some b3) (q4 : w1.cell? a4 = some b4) :
    Below K w1 w' ∧ w'.cell? a0 = some b0 ∧ w'.cell? a1 = some b1 ∧ w'.cell? a2 = some b2 ∧ w'.cell? a3 = some b3 ∧ w'.cell? a4 = some b4 := by
  subst hK
  have hbb : Below w1.heap.size w1 w' := h.trans (hb.mono h.size)
  exact ⟨hbb, (hbb.cell h0).trans q0, (hbb.cell (by rw [e1]; exact h0)).trans q1, (hbb.cell (by rw [e2]; exact h0)).trans q2, (hbb.cell (by rw [e3]; exact h0)).trans q3, (hbb.cell h4).trans q4⟩

theorem ne_zero_bit {z : Nat} (hz : z < 18446744073709551616) : z ≠ 0 ↔ ∃ v, v < 64 ∧ z.testBit v = true := by
  constructor
  · intro h
    refine Classical.byContradiction fun hn => h (Nat.eq_of_testBit_eq fun i => ?_)
    rw [Nat.zero_testBit]
    cases hb : z.testBit i
    · rfl
    · refine absurd ⟨i, ?_, hb⟩ hn
      rcases Nat.lt_or_ge i 64 with h9 | h9
      · exact h9
      · rw [Nat.testBit_lt_two_pow (Nat.lt_of_lt_of_le (by omega : z < 2 ^ 64) (Nat.pow_le_pow_right (by decide) h9))] at hb
        cases hb
  · rintro ⟨v, _, hv⟩ h0
    rw [h0, Nat.zero_testBit] at hv
    cases hv

set_option maxRecDepth 100000 in
set_option maxHeartbeats 8000000 in
theorem implUnsetUses_any (ts : List Int) (s : Sts) (At As : Option Addr) (ct cs : Nat) (w : World) (hT : IntsV w 0 w.heap.size ts At ct) (hR : RepV w 0 w.heap.size s As cs)
    (hTab : TabAt 0 Lib.deBruijn64tab w) (hg : 0 < w.heap.size) :
    Calls Tryz.prog 35 #[.agg #[.slice At ts.length ct, .slice As s.len cs]] w fun E w' => ∃ v l, E = .returned v ∧ RowI w' w.heap.size v l ∧ AnsL (UnU ts) (validB ts s) s l ∧ Below w.heap.size w w' := by
  have hb0 := (Below.refl w.heap.size w).alloc (Nat.le_refl _) (.cells #[.slice At ts.length ct, .slice As s.len cs] 26)
  have hz0 : (w.alloc (.cells #[.slice At ts.length ct, .slice As s.len cs] 26)).heap.size = w.heap.size + 1 := by simp
  have HZ := Lib.hid hz0
  have hnil : ∀ W : World, RowI W w.heap.size (.slice none 0 0) [] := fun W => World.ownsRow_nil W w.heap.size 3 1
  cases hok : validB ts s
  · have hS := flowsOf_no ts s At As ct cs _ hok (hT.below hb0 (by simp)) (hR.below hb0 (by simp))
    clear hz0 hok
    go_enter Tryz.func35, Tryz.ntmps35
    go_wp2_with fail
    refine hS.mono ?_
    rintro E w1 ⟨rfl, hb1⟩
    rw [HZ.out] at hb1
    have hb : Below w.heap.size w w1 := hb0.trans (hb1.mono (by omega))
    clear hb1 hS
    go_wp2_with fail
    go_ret
    exact ⟨_, [], rfl, hnil _, .inr ⟨rfl, rfl⟩, by first | exact hb | exact hb.drew⟩
  · have hS := flowsOf_yes ts s At As ct cs _ hok (hT.below hb0 (by simp)) (hR.below hb0 (by simp))
    have hA := progPts_allTyped hok
    have hD := progPts_ok s (valid_ok hok).2.1
    have hL := progPts_leads hok
    have hans : ∀ l, IsPathsB (UnU ts (progPts s)) l → AnsL (UnU ts) true s l := fun l hl => .inl ⟨rfl, hl⟩
    generalize progPts s = ds at hS hA hD hL hans
    generalize s.npts = q at hD
    have HD := Lib.hid hD
    have HA := Lib.hid hA
    have HL := Lib.hid hL
    have HANS := Lib.hid hans
    clear hz0 hok hA hD hL hT hR hans
    go_enter Tryz.func35, Tryz.ntmps35
    go_wp2_with fail
    refine hS.mono ?_
    rintro E w1 ⟨C, F, hi, A2, c2, ah, bk, rfl, hF, hfl, hb1⟩
    rw [HZ.out] at hF hb1
    have hb : Below w.heap.size w w1 := hb0.trans (hb1.mono (by omega))
    have hbz := hb.size
    have hgc := hfl.grCell
    have HFL := Lib.hid hfl
    have han := analysis_any ts ds q C F hi A2 c2 ah bk w1 hfl HD.out HA.out (tab_below hTab hg hb) (by omega)
    clear hfl hb1 hS
    go_wp2_with fail
    refine han.mono ?_
    rintro E w3 ⟨xs, kn, rfl, hxz, hxc, hflo, hb3⟩
    have hb'' := hb.trans (hb3.mono hbz)
    have HFLO := Lib.hid hflo
    have HXC := Lib.hid hxc
    have HF3 := Lib.hid (HFL.out.keep hb3)
    obtain ⟨W4, s1, hb4, hk4, hz4⟩ := lay_known w3 xs kn hxz hxc
    unfold noSets at s1
    have hb4' := hb''.trans (hb4.mono hb''.size)
    have HB4 := Lib.hid hb4'
    have HK4 := Lib.hid hk4
    have HF4 := Lib.hid (HF3.out.keep hb4)
    have hgc4 := HF4.out.grCell
    have hcnt := HF4.out.gr.count
    clear han hb3 hflo hxc hgc hb4 hk4 hb4'
    go_wp2_with fail
    have hle : ds.length ≤ 61 := HF4.out.gr.le
    obtain ⟨pU, hpU⟩ : ∃ p : Nat → Bool, ∀ k, p k = true ↔ UnU ts ds k := ⟨fun k => @decide (UnU ts ds k) (Classical.propDecidable _), fun k => by simp⟩
    have HPU := Lib.hid hpU
    obtain ⟨i0, hi0, hzz0, hzz1, hzz2⟩ := info_parts Tryz.infoInt
    have HI := Lib.hid hi0
    have HZ0 := Lib.hid hzz0
    have HZ1 := Lib.hid hzz1
    have HZ2 := Lib.hid hzz2
    have HR2 : Hid (RowI W4 w.heap.size (.slice none 0 0) (firstN pU 0)) := hnil W4
    clear hpU hi0 hzz0 hzz1 hzz2 hgc4 hcnt s1
    go_loopw [6, 24] (fun q i wr => ∃ k : Nat, i = .int .i64 k ∧ k ≤ ds.length ∧ Hid (RowI wr w.heap.size q (firstN pU k)) ∧ Onto W4 wr (.slice none 0 0) q) (fun _ i _ => ds.length - (intOf i).toNat)
    case atStart => exact ⟨0, rfl, Nat.zero_le _, HR2, Onto.refl _ _⟩
    case round =>
      clear HR2
      obtain ⟨k, rfl, hk, hrow, hO⟩ := hrel
      obtain ⟨Ao, co, ho⟩ := hrow.out.slice
      subst ho
      have hzr := hO.size
      have hbr : Below W4.heap.size W4 wr := hO.belowU (Nat.le_refl _) (fun k hk => by simp [Value.ownBlock] at hk)
      have hbW := HB4.out.trans (hbr.mono HB4.out.size)
      have hln := firstN_length pU k
      by_cases hlt : k < ds.length
      · obtain ⟨d, hd⟩ : ∃ d, ds[k]? = some d := ⟨ds[k], List.getElem?_eq_getElem hlt⟩
        have hk61 : k < 61 := by omega
        have hef := effD_ok HA.out.1 (HA.out.2 k d hd)
        have hFr := HF4.out.keep hbr
        obtain ⟨q0, q1, q2, q3⟩ := hFr.effCell hd
        have ck := (HK4.out.keep hbr).cell hk61
        have hr := hef.rlt
        have ht := hef.tlt
        have hc := hef.clt
        have hs := hef.slt
        have hul : (effD ts d).r ||| (effD ts d).t ||| (effD ts d).c < 64 := Nat.or_lt_two_pow (n := 6) (Nat.or_lt_two_pow (n := 6) hr ht) hc
        have hkl := HFLO.out.lt k
        obtain ⟨z, hz, hzl, hzb⟩ := bits_andNot_u64 ((effD ts d).r ||| (effD ts d).t ||| (effD ts d).c) (kn k) (by omega) (by omega)
        have hu := uses_any (effD ts d).r (effD ts d).t (effD ts d).c (effD ts d).s hr ht hc
        have hrel := fun v => rel_bit HFLO.out HD.out HA.out HL.out hk61 hlt v
        have hun : z ≠ 0 ↔ UnU ts ds k := by
          rw [ne_zero_bit hzl]
          constructor
          · rintro ⟨v, h7, h8⟩
            rw [hzb v h7, Bool.and_eq_true] at h8
            have h9 := (hef.uses v h7).mp h8.1
            have h10 := typed_use (HA.out.2 k d hd) _ h9
            refine ⟨hlt, v, d, hd, h9, Classical.byContradiction fun h11 => ?_⟩
            have h12 := (hrel v).mpr ⟨by omega, h11⟩
            rw [h12.2] at h8
            simp at h8
          · rintro ⟨_, v, d', h6, h7, h8⟩
            rw [hd] at h6
            injection h6 with h6
            subst h6
            have h10 := typed_use (HA.out.2 k d hd) _ h7
            have h6 := HA.out.1
            have h64 : v < 64 := by omega
            refine ⟨v, h64, ?_⟩
            rw [hzb v h64, (hef.uses v h64).mpr h7, Bool.true_and]
            cases h9 : (kn k).testBit v
            · rfl
            · exact absurd h8 ((hrel v).mp ⟨h64, h9⟩).2
        have HUN := Lib.hid hun
        have ki0 : (0 : Int) ≤ (k : Int) := by omega
        have ki1 : (k : Int) < 61 := by omega
        have hl0 : (⟨F, 2 + k * 4, none⟩ : Addr).block < wr.heap.size := (by obtain ⟨cs, h1, _⟩ := hFr.row; exact heap_lt h1)
        have hl4 : (⟨w3.heap.size, k, none⟩ : Addr).block < wr.heap.size := (HK4.out.keep hbr).lt
        clear hd hef hFr hzb hzl hrel hun hr ht hc hs
        by_cases hz0 : z = 0
        · have hno : pU k = false := by
            cases h9 : pU k
            · rfl
            · exact absurd hz0 (HUN.out.mpr ((HPU.out k).mp h9))
          have e := Lib.hid (firstN_no hno)
          rw [hz0] at hz
          clear hno hz0 HUN
          go_wp2_with fail
          go_region_held3 (fun w' => Below wr.heap.size wr w' ∧ w'.cell? ⟨F, 2 + k * 4, none⟩ = some (.int .u64 ((effD ts d).r : Int)) ∧ w'.cell? ⟨F, 2 + k * 4 + 1, none⟩ = some (.int .u64 ((effD ts d).t : Int)) ∧ w'.cell? ⟨F, 2 + k * 4 + 2, none⟩ = some (.int .u64 ((effD ts d).c : Int)) ∧ w'.cell? ⟨F, 2 + k * 4 + 3, none⟩ = some (.int .u64 ((effD ts d).s : Int)) ∧ w'.cell? ⟨w3.heap.size, k, none⟩ = some (.int .u64 (kn k : Int)))
            (first | exact ⟨(Below.refl wr.heap.size wr).drew, q0, q1, q2, q3, ck⟩ | exact held_5 hbn (And.left ‹Below wr.heap.size wr _ ∧ _›) rfl hl0 rfl rfl rfl hl4 q0 q1 q2 q3 ck)
            (first | (go_at_call 67; refine (hu _).mono ?_; rintro E w' ⟨rfl, hbn⟩))
          obtain ⟨hbl, -⟩ := ‹Below wr.heap.size wr _ ∧ _›
          have HRW := Lib.hid (hrow.out.below hbl)
          have hO2 := hO.trans (Onto.of_below hbl (Value.slice Ao (firstN pU k).length co))
          clear hbl hrow hO q0 q1 q2 q3 ck hu
          go_wp2_with fail
          refine ⟨⟨k + 1, by simp, by omega, by rw [e.out]; exact HRW, hO2⟩, ?_⟩
          simp only [intOf]
          omega
        · have hyes : pU k = true := (HPU.out k).mpr (HUN.out.mp hz0)
          have e := Lib.hid (firstN_yes hyes)
          have hzn : ((z : Int) != 0) = true := by
            rw [bne_iff_ne]
            omega
          clear hyes HUN
          go_wp2_with fail
          go_region_held3 (fun w' => Below wr.heap.size wr w' ∧ w'.cell? ⟨F, 2 + k * 4, none⟩ = some (.int .u64 ((effD ts d).r : Int)) ∧ w'.cell? ⟨F, 2 + k * 4 + 1, none⟩ = some (.int .u64 ((effD ts d).t : Int)) ∧ w'.cell? ⟨F, 2 + k * 4 + 2, none⟩ = some (.int .u64 ((effD ts d).c : Int)) ∧ w'.cell? ⟨F, 2 + k * 4 + 3, none⟩ = some (.int .u64 ((effD ts d).s : Int)) ∧ w'.cell? ⟨w3.heap.size, k, none⟩ = some (.int .u64 (kn k : Int)))
            (first | exact ⟨(Below.refl wr.heap.size wr).drew, q0, q1, q2, q3, ck⟩ | exact held_5 hbn (And.left ‹Below wr.heap.size wr _ ∧ _›) rfl hl0 rfl rfl rfl hl4 q0 q1 q2 q3 ck)
            (first | (go_at_call 67; refine (hu _).mono ?_; rintro E w' ⟨rfl, hbn⟩))
          obtain ⟨hbl, -⟩ := ‹Below wr.heap.size wr _ ∧ _›
          have HRW := Lib.hid (hrow.out.below hbl)
          have hO2 := hO.trans (Onto.of_below hbl (Value.slice Ao (firstN pU k).length co))
          have hzlb := hbl.size
          have hbWs := hbW.size
          clear hbl hrow hO q0 q1 q2 q3 ck hu hz
          go_wp2_with (at_builtin; refine wpList_append_lies _ rfl _ _ 23 rfl w.heap.size 3 i0 (.int .i64 0) 1 8 Tryz.underlying23 HI.out HZ0.out HZ1.out HZ2.out rfl (by decide) _ _ _ rfl ((RowI.own HRW.out).alloc _) ⟨_, 0, none⟩ 1 1 [.int .i64 (k : Int)] rfl rfl ?sa1 ?sa2 (by decide) ?sa3 ?sa4 ?sa5 _ rfl ?_)
          try (case sa1 => exact news1 (by simp) rfl)
          try (case sa2 => rfl)
          try (case sa2 => intro u hu; simp only [List.mem_cons, List.not_mem_nil, or_false] at hu; subst hu; rfl)
          try (case sa3 => unfold maxLen; omega)
          try (case sa4 => omega)
          try (case sa5 => first | omega | (simp; omega))
          intro g2 cap2 w' hown' hgg hat hlt'
          have HO' : Hid (Onto W4 w' (.slice none 0 0) (.slice (some ⟨g2, 0, none⟩) ((firstN pU k).length + 1) cap2)) := by
            refine Lib.hid (hO2.trans (Onto.trans (Onto.of_below ?hb9 _) (ontoU_of hgg ?ha9)))
            case hb9 => exact (Below.refl _ _).alloc (Nat.le_refl _) _
            case ha9 => exact hat.imp id fun e => e.trans (by simp)
          have HR' : Hid (RowI w' w.heap.size (.slice (some ⟨g2, 0, none⟩) ((firstN pU k).length + 1) cap2) (firstN pU k ++ [(k : Int)])) := RowI.snoc hown'
          clear hown' hgg hat hO2
          go_wp2_with fail
          refine ⟨⟨k + 1, by simp, by omega, by rw [e.out]; exact HR', HO'.out⟩, ?_⟩
          simp only [intOf]
          omega
      · have hke : k = ds.length := by omega
        have HFIN := Lib.hid (HANS.out (firstN pU ds.length) (isPathsB_of (by omega) fun i => ⟨fun h => (HPU.out i).mp h.2, fun h => ⟨h.1, (HPU.out i).mpr h⟩⟩))
        subst hke
        go_wp2_with fail
        go_ret
        exact ⟨_, _, rfl, hrow.out, HFIN.out, hbW⟩

end Go.Proofs.YtbffldgiccijlaaGreatDoor.flowAll
