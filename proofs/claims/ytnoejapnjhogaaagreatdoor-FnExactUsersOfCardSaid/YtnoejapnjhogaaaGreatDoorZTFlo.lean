/-
  What is known of an answer before all points, by the model: l10Flow.
-/
import Derived.Test.YtnoejapnjhogaaaGreatDoorZTAft
import Derived.Test.YtnoejapnjhogaaaGreatDoorZTMg
import Derived.Test.YtnoejapnjhogaaaGreatDoorZL2Xa
import Derived.Deep.RegionHeld3
import Derived.Deep.LoopGhost
namespace Go.Proofs.YtnoejapnjhogaaaGreatDoor
open Go.RowKit Go.Deep
set_option linter.unusedVariables false

theorem NextV.aSlice {w : World} {B : Nat} {u : Value} {next : List Int} (h : NextV w B u next) : ∃ A c, u = .slice A next.length c := by
  rcases h with ⟨h1, h2⟩ | ⟨g, h1, _⟩
  · subst h1 h2
    exact ⟨none, 0, rfl⟩
  · exact ⟨_, _, h1⟩

theorem NextV.aCell {w : World} {B : Nat} {u : Value} {next : List Int} (h : NextV w B u next) {x : Nat} (hx : x < next.length) : ∃ g, u = .slice (some ⟨g, 0, none⟩) next.length next.length ∧ ∀ v, next[x]? = some v → w.cell? ⟨g, x, none⟩ = some (.int .i64 v) := by
  rcases h with ⟨h1, _⟩ | ⟨g, h1, _, h3⟩
  · rw [h1] at hx
    exact absurd hx (Nat.not_lt_zero _)
  · refine ⟨g, h1, fun v hv => ?_⟩
    rw [cell_of_block h3]
    simp [hv]

theorem Tryz.infoBoolss : (Tryz.prog.info? 51).map (fun i => (i.zero, i.size, i.bytes)) = some (some (.slice none 0 0), 1, 24) := by kernel_rfl

namespace tr

/-- What the model's search answers. -/
def LPost (q : Nat) (ts : List Int) (ns : List Nd) (w : World) (E : Ending) (w' : World) : Prop :=
  ∃ R c ms o, E = .returned (.slice (some ⟨R, 0, none⟩) ns.length c) ∧ ns.length ≤ c ∧ c ≤ maxLen ∧ F4 w' w.heap.size R ns.length ts.length (szQ q ns.length) ms o ∧ (∀ m v l, m < ns.length → (o m v l = true ↔ TrB q ts ns m v l)) ∧ Below w.heap.size w w'

set_option maxRecDepth 100000 in
set_option maxHeartbeats 8000000 in
theorem l10Flow_any (q : Nat) (hq : q < 3) (ts : List Int) (s : Sts) (At As : Option Addr) (ct cs : Nat) (w : World) (h1 : validB ts s = true) (hT : IntsV w 0 w.heap.size ts At ct) (hR : RepV w 0 w.heap.size s As cs) :
    Calls Tryz.prog 41 #[.agg #[.slice At ts.length ct, .slice As s.len cs], .int .i64 q, .int .i64 (szQ q (progPts s).length)] w (LPost q ts (progPts s) w) := by
  have hb0 := (Below.refl w.heap.size w).alloc (Nat.le_refl _) (.cells #[.slice At ts.length ct, .slice As s.len cs] 30)
  have hz0 : (w.alloc (.cells #[.slice At ts.length ct, .slice As s.len cs] 30)).heap.size = w.heap.size + 1 := by simp
  have hB0 := heap_alloc_new w (.cells #[.slice At ts.length ct, .slice As s.len cs] 30)
  have h30 := valid_size h1
  have hAT := progPts_allTyped h1
  have ht6 := hAT.1
  have hD := progPts_ok s (valid_ok h1).2.1
  have hle : (progPts s).length ≤ 61 := by
    have := s.npts_le
    rw [progPts_len]
    omega
  have hn0 : 0 < (progPts s).length := by
    rw [progPts_len]
    omega
  have hlp := l2Points_any ts s At As ct cs _ (by omega) (hR.below hb0 (by simp))
  generalize progPts s = ds at hlp hD hle hn0 hAT ⊢
  generalize s.npts = zq at hD
  have hz61 : szQ q ds.length ≤ 61 := by
    unfold szQ
    split
    · exact hle
    · split
      · exact hle
      · omega
  have HZ := Lib.hid hz0
  have HB := Lib.hid hB0
  have HD := Lib.hid hD
  have HT := Lib.hid hT
  have HAT := Lib.hid hAT
  have hTm := hT.2.1
  have hTl := hT.1
  unfold maxLen at hTm
  obtain ⟨i0, hi, hzz0, hzz1, hzz2⟩ := info_parts Tryz.infoBools
  have Hi0 := Lib.hid hi
  have Hi00 := Lib.hid hzz0
  have Hi01 := Lib.hid hzz1
  have Hi02 := Lib.hid hzz2
  clear hi hzz0 hzz1 hzz2
  obtain ⟨j0, hi, hzz0, hzz1, hzz2⟩ := info_parts Tryz.infoBoolss
  have Hj0 := Lib.hid hi
  have Hj00 := Lib.hid hzz0
  have Hj01 := Lib.hid hzz1
  have Hj02 := Lib.hid hzz2
  clear hi hzz0 hzz1 hzz2
  have haft : Hid (∀ (W : World) (k : Nat) (d : Nd) (Au : Option Addr) (cu : Nat) (B0 : Nat) (m : M4) (S : Nat → Nat → Bool), Below w.heap.size w W → ds[k]? = some d → S4 W B0 ts.length (szQ q ds.length) m S → Calls Tryz.prog 71 #[.agg #[.slice At ts.length ct, .slice As s.len cs], .agg #[.int .i64 d.op, .int .i64 d.x, .int .i64 d.y, .int .i64 d.n, .slice Au d.next.length cu], .int .i64 k, .slice m.fa ts.length m.cf, .int .i64 q, .int .i64 (szQ q ds.length)] W
      fun E w' => ∃ m' : M4, E = .returned (.slice m'.fa ts.length m'.cf) ∧ S4 w' W.heap.size ts.length (szQ q ds.length) m' (aftT q ts d k S) ∧ Below W.heap.size W w') := Lib.hid (fun W k d Au cu B0 m S hW hd hS => l10After_any q hq ts ds At As ct s.len cs k d Au d.next.length cu B0 m S W hAT hle hd (hT.below hW hW.size) hS)
  obtain ⟨z, hz⟩ : ∃ z, z = szQ q ds.length := ⟨_, rfl⟩
  rw [← hz] at hz61 haft
  have HZZ := Lib.hid hz
  rw [← hz]
  have HPOST : Hid (∀ E w', (∃ R c ms o, E = .returned (.slice (some ⟨R, 0, none⟩) ds.length c) ∧ ds.length ≤ c ∧ c ≤ maxLen ∧ F4 w' w.heap.size R ds.length ts.length z ms o ∧ (∀ m v l, m < ds.length → (o m v l = true ↔ TrB q ts ds m v l)) ∧ Below w.heap.size w w') → LPost q ts ds w E w') := Lib.hid (fun E w' h9 => by rw [HZZ.out] at h9; exact h9)
  have HMK : Hid (∀ W : World, _) := Lib.hid (fun W => run_make_row' (P := Tryz.prog) 50 4 (.bool false) 1 Tryz.underlying50 Tryz.infoBool rfl .i64 .i64 z (by omega) (by omega) W)
  clear h1 hz0 hB0 hD hT hR hAT hz
  go_enter Tryz.func41, Tryz.ntmps41
  go_wp2_with fail
  refine hlp.mono ?_
  rintro E w1 ⟨v, rfl, hP, hb1⟩
  rw [HZ.out] at hP hb1
  have hs1 := hb1.size
  rw [HZ.out] at hs1
  have hbw : Below w.heap.size w w1 := hb0.trans (hb1.mono (by omega))
  obtain ⟨g, cap, hv, hgB, hgl, hgc, hgm⟩ := hP.form hn0
  subst hv
  unfold maxLen at hgm
  have HB1 := Lib.hid ((hb1.block w.heap.size (by omega)).trans HB.out)
  have HP := Lib.hid hP
  have HBW := Lib.hid hbw
  have HR0 : Hid (∃ ms, Rows5 (w1.alloc (.cells #[] 51)) w1.heap.size (.slice (some ⟨w1.heap.size, 0, none⟩) 0 0) 0 ts.length z ms) := Lib.hid ⟨_, Rows5.nil w1 w1.heap.size ts.length z (Nat.le_refl _)⟩
  have HBA := Lib.hid ((Below.refl w1.heap.size w1).alloc (Nat.le_refl _) (.cells #[] 51))
  clear hlp hP hb1 hb0 hbw
  go_wp2_with fail
  generalize w1.alloc (.cells #[] 51) = wA at *
  go_loopw [8, 9] (fun qv i wr => ∃ k : Nat, i = .int .i64 k ∧ k ≤ ds.length ∧ Hid (∃ ms, Rows5 wr w1.heap.size qv k ts.length z ms) ∧ Hid (Below w1.heap.size w1 wr)) (fun _ i _ => ds.length - (intOf i).toNat)
  case atStart => exact ⟨0, rfl, Nat.zero_le _, HR0, HBA⟩
  case round =>
    clear HR0 HBA
    obtain ⟨k, rfl, hk, HRW, HBR⟩ := hrel
    obtain ⟨ms0, hms⟩ := HRW.out
    obtain ⟨Ao, co, ho, -, -⟩ := hms.slice
    subst ho
    have HMS := Lib.hid hms
    have hbz := HBR.out.size
    have hB9 := (HBR.out.block w.heap.size (by omega)).trans HB1.out
    have HP0 : Hid (wr.cell? ⟨w.heap.size, 0, none⟩ = some (.slice At ts.length ct)) := Lib.hid ((cell_of_block hB9 0).trans rfl)
    clear hms HRW hB9
    by_cases hlt : k < ds.length
    · obtain ⟨wt, rfl⟩ : ∃ z9, z9 = wr := ⟨_, rfl⟩
      have hbE := (Below.refl wt.heap.size wt).alloc (Nat.le_refl _) (.cells #[] 50)
      have HRN : Hid (∃ bl cp, Rows4 (wt.alloc (.cells #[] 50)) wt.heap.size (.slice (some ⟨wt.heap.size, 0, none⟩) 0 0) 0 z bl cp (fun _ _ => false)) := Lib.hid ⟨_, _, Rows4.nil wt wt.heap.size z _ (Nat.le_refl _)⟩
      have HBN := Lib.hid hbE
      clear hbE
      go_wp2_with fail
      generalize wt.alloc (.cells #[] 50) = wE at *
      go_loopw [10, 11] (fun rv i wr => ∃ j : Nat, i = .int .i64 j ∧ j ≤ ts.length ∧ Hid (∃ bl cp, Rows4 wr wt.heap.size rv j z bl cp (fun _ _ => false)) ∧ Hid (Below wt.heap.size wt wr)) (fun _ i _ => ts.length - (intOf i).toNat)
      case atStart => exact ⟨0, rfl, Nat.zero_le _, HRN, HBN⟩
      case round =>
        clear HRN HBN
        obtain ⟨j, rfl, hj, HRN, HBN⟩ := hrel
        obtain ⟨bl, cp, hrn⟩ := HRN.out
        obtain ⟨Ar, cr, hr, hr1, hr2⟩ := hrn.slice
        subst hr
        unfold maxLen at hr2
        have p0 := (HBN.out.cell (p := ⟨w.heap.size, 0, none⟩) (by show w.heap.size < wt.heap.size; omega)).trans HP0.out
        by_cases hjt : j < ts.length
        · have hmk := HMK.out wr
          have hfl := (FlAt.made wr z).wide
          have hb4 := (Below.refl wr.heap.size wr).alloc (Nat.le_refl _) (.cells (madeCells #[.bool false] z) 4)
          have hz4 : (wr.alloc (.cells (madeCells #[.bool false] z) 4)).heap.size = wr.heap.size + 1 := by simp
          have hb5 := (Below.refl (wr.alloc (.cells (madeCells #[.bool false] z) 4)).heap.size (wr.alloc (.cells (madeCells #[.bool false] z) 4))).alloc (Nat.le_refl _) (.cells #[.slice (some ⟨wr.heap.size, 0, none⟩) z z] 50)
          have hnw := heap_alloc_new (wr.alloc (.cells (madeCells #[.bool false] z) 4)) (.cells #[.slice (some ⟨wr.heap.size, 0, none⟩) z z] 50)
          rw [hz4] at hnw
          have hr5 := (hrn.below hb4).below hb5
          have HB5 := Lib.hid ((HBN.out.trans (hb4.mono HBN.out.size)).trans (hb5.mono (Nat.le_trans HBN.out.size hb4.size)))
          have HF := Lib.hid (hfl.keep (hb5.block _ hfl.lt))
          have HLE := Lib.hid HB5.out.size
          have HFL := Lib.hid HBN.out.size
          have HNW := Lib.hid hnw
          have HLT : Hid (∀ v, v < j → bl v < wr.heap.size) := Lib.hid (fun v hv => hrn.lt hv)
          obtain ⟨xs, hown, h1, h2⟩ := hr5
          have HO := Lib.hid hown
          have H1 := Lib.hid h1
          have H2 := Lib.hid h2
          clear hb4 hb5 hfl hz4 hown h1 h2 hnw HRN HBN hrn
          go_wp2_with (at_builtin; refine wpList_append_lies _ rfl _ _ 51 rfl wt.heap.size 50 i0 (.slice none 0 0) 1 24 Tryz.underlying51 Hi0.out Hi00.out Hi01.out Hi02.out rfl (by decide) _ _ _ rfl HO.out ⟨_, 0, none⟩ 1 1 [.slice (some ⟨wr.heap.size, 0, none⟩) z z] rfl rfl ?x41 ?x42 (by decide) ?x43 ?x44 ?x45 _ rfl ?_)
          try (case x41 => exact World.news_of_block HNW.out)
          try (case x42 => first | rfl | (intro u9 hu9; simp only [List.mem_cons, List.not_mem_nil, or_false] at hu9; subst hu9; rfl))
          try (case x43 => (unfold maxLen; omega))
          try (case x44 => omega)
          try (case x45 => first | exact HLE.out | (have := HFL.out; omega))
          intro g9 cap9 w9 hown9 hgg9 hat9 hlt9
          have HMO : Hid (∃ bl cp, Rows4 w9 wt.heap.size (.slice (some ⟨g9, 0, none⟩) (j + 1) cap9) (j + 1) z bl cp (fun _ _ => false)) := Lib.hid ⟨_, _, Rows4.more (F := wr.heap.size) (c := z) HO.out H1.out H2.out HF.out (fun v hv => Nat.ne_of_lt (HLT.out v hv)) HFL.out ⟨Nat.le_refl _, by unfold maxLen; omega⟩ hgg9 hown9⟩
          have HB9 := Lib.hid (HB5.out.grown hgg9 HB5.out.size (fun i hi => (HO.out.lt i hi).1))
          clear hown9 hgg9 hat9 hlt9 HO H1 H2 HF HNW HLE HB5
          go_wp2_with fail
          refine ⟨⟨j + 1, by simp, by omega, HMO, HB9⟩, ?_⟩
          simp only [intOf]
          omega
        · have hje : j = ts.length := by omega
          subst hje
          have hdn := hrn.done
          obtain ⟨m, hm⟩ : ∃ m : M4, m = ⟨Ar, blkOf Ar, cr, bl, cp⟩ := ⟨_, rfl⟩
          rw [← hm] at hdn
          have hb4 := (Below.refl wr.heap.size wr).alloc (Nat.le_refl _) (.cells #[.slice Ar ts.length cr] 51)
          have hnw := heap_alloc_new wr (.cells #[.slice Ar ts.length cr] 51)
          have HM := Lib.hid (hdn.keep hb4)
          have HMS4 := Lib.hid ((HMS.out.below HBN.out).below hb4)
          have HB4 := Lib.hid ((HBR.out.trans (HBN.out.mono hbz)).trans (hb4.mono (Nat.le_trans hbz HBN.out.size)))
          have HLT : Hid (∀ i u, i < k → u < ts.length → (ms0 i).bl u < wt.heap.size) := Lib.hid (fun i u hi hu => HMS.out.lt hi hu)
          have HEQ : Hid (m.fa = Ar ∧ m.cf = cr) := Lib.hid (by rw [hm]; exact ⟨rfl, rfl⟩)
          obtain ⟨xs, ho, h1, h2, h3⟩ := HMS4.out
          have HO := Lib.hid ho
          have HH1 := Lib.hid h1
          have HH2 := Lib.hid h2
          have HH3 := Lib.hid h3
          have HNW := Lib.hid hnw
          have HLE := Lib.hid HB4.out.size
          have hkds : k ≤ 61 := by omega
          clear ho h1 h2 h3 HMS4 hnw hb4 hdn hm HRN hrn HBN HMS
          go_wp2_with (at_builtin; refine wpList_append_lies _ rfl _ _ 52 rfl w1.heap.size 51 j0 (.slice none 0 0) 1 24 Tryz.underlying52 Hj0.out Hj00.out Hj01.out Hj02.out rfl (by decide) _ _ _ rfl HO.out ⟨_, 0, none⟩ 1 1 [.slice Ar ts.length cr] rfl rfl ?y41 ?y42 (by decide) ?y43 ?y44 ?y45 _ rfl ?_)
          try (case y41 => exact World.news_of_block HNW.out)
          try (case y42 => first | rfl | (intro u9 hu9; simp only [List.mem_cons, List.not_mem_nil, or_false] at hu9; subst hu9; rfl))
          try (case y43 => (unfold maxLen; omega))
          try (case y44 => omega)
          try (case y45 => first | exact HLE.out | (have := HFL.out; omega))
          intro g9 cap9 w9 hown9 hgg9 hat9 hlt9
          have hmore := Rows5.more (m := m) (K := wt.heap.size) HO.out HH1.out HH2.out HH3.out HM.out hbz HLT.out hgg9 (by rw [HEQ.out.1, HEQ.out.2]; exact hown9)
          have HMO : Hid (∃ ms, Rows5 w9 w1.heap.size (.slice (some ⟨g9, 0, none⟩) (k + 1) cap9) (k + 1) ts.length z ms) := Lib.hid ⟨_, hmore⟩
          have HB9 := Lib.hid (HB4.out.grown hgg9 HB4.out.size (fun j hj => (HO.out.lt j hj).1))
          clear hown9 hgg9 hat9 hlt9 hmore HO HH1 HH2 HH3 HM HB4 HNW HLT HLE HEQ
          go_wp2_with fail
          refine ⟨⟨k + 1, by simp, by omega, HMO, HB9⟩, ?_⟩
          simp only [intOf]
          omega
    · have hke : k = ds.length := by omega
      subst hke
      obtain ⟨R, cR, hRv, hRc1, hRc2, hF⟩ := HMS.out.done hn0
      injection hRv with hR1 _ hR2
      subst hR1 hR2
      have HF0 := Lib.hid hF
      have HRC1 := Lib.hid hRc1
      have HRC2 := Lib.hid hRc2
      unfold maxLen at hRc2
      clear hF HMS
      go_wp2_with fail
      go_loopg [12] (missF (fun _ _ _ => false) ds.length z + 1) (fun gg c wr => ∃ (o : Nat → Nat → Nat → Bool) (cb : Bool), c = .bool cb ∧ Hid (F4 wr w1.heap.size R ds.length ts.length z ms0 o) ∧ Hid (Below w1.heap.size w1 wr) ∧ Hid (Q4 q ts ds o cb) ∧ Hid (cb = true → missF o ds.length z < gg))
      case atStart => exact ⟨_, true, rfl, HF0, HBR, Lib.hid (Q4.zero q ts ds), Lib.hid (fun _ => Nat.lt_succ_self _)⟩
      case round =>
        clear HF0 HBR HP0 hbz
        obtain ⟨o, cb, rfl, HF, HBR, HQ, HG⟩ := hrel
        have hbz := HBR.out.size
        cases cb
        · have HANS : Hid (LPost q ts ds w (.returned (.slice (some ⟨R, 0, none⟩) ds.length co)) wr) := Lib.hid (HPOST.out _ _ ⟨R, co, ms0, o, rfl, HRC1.out, HRC2.out, ⟨HF.out.row, fun i hi => (HF.out.st i hi).lower HBW.out.size, HF.out.apart, Nat.le_trans HBW.out.size HF.out.oR⟩, fun m v l hm => Q4.last HQ.out HAT.out hm, HBW.out.trans (HBR.out.mono HBW.out.size)⟩)
          clear HF HBR HQ HG
          go_wp2_with fail
          go_ret
          exact HANS.out
        · have hpass := Q4.pass HQ.out
          rw [← HZZ.out] at hpass
          obtain ⟨M, hM⟩ : ∃ M, M = missF o ds.length z := ⟨_, rfl⟩
          rw [← hM] at hpass
          have HGM : Hid (M < gk) := Lib.hid (by rw [hM]; exact HG.out rfl)
          have HJ := Lib.hid hpass
          clear hpass hM HQ HG
          go_wp2_with fail
          go_loopg [12, 13] ds.length (fun gg c i wr => ∃ (k : Nat) (o : Nat → Nat → Nat → Bool) (cb : Bool), c = .bool cb ∧ i = .int .i64 k ∧ k ≤ ds.length ∧ gg = ds.length - k ∧ Hid (F4 wr w1.heap.size R ds.length ts.length z ms0 o) ∧ Hid (Below w1.heap.size w1 wr) ∧ Hid (J4 q ts ds o cb k M))
          case atStart => exact ⟨0, o, false, rfl, rfl, Nat.zero_le _, rfl, HF, HBR, HJ⟩
          case round =>
            clear HF HBR HJ hbz
            rename_i gO JO KO hJO hKO
            obtain ⟨k, o, cb, rfl, rfl, hk, hgk, HF, HBR, HJ⟩ := hrel
            have hbz := HBR.out.size
            by_cases hlt : k < ds.length
            · obtain ⟨d, hd⟩ : ∃ d, ds[k]? = some d := ⟨ds[k], List.getElem?_eq_getElem hlt⟩
              have HDK := Lib.hid hd
              have htwo := nextN_two HD.out hd
              have hint := nextN_ints HD.out hd
              have HINT := Lib.hid hint
              have HGK := Lib.hid hgk
              have HR0 := Lib.hid (HF.out.cell hlt)
              have HRL := Lib.hid HF.out.lt
              have HP0 : Hid (wr.cell? ⟨w.heap.size, 0, none⟩ = some (.slice At ts.length ct)) := Lib.hid ((cell_of_block ((HBR.out.block w.heap.size (by omega)).trans HB1.out) 0).trans rfl)
              have HP1 : Hid (wr.cell? ⟨w.heap.size, 1, none⟩ = some (.slice As s.len cs)) := Lib.hid ((cell_of_block ((HBR.out.block w.heap.size (by omega)).trans HB1.out) 1).trans rfl)
              have HLW : Hid (w.heap.size < wr.heap.size) := Lib.hid (by omega)
              obtain ⟨u, ⟨a0, a1, a2, a3, a4⟩, hu⟩ := (HP.out.below HBR.out).cells hd
              obtain ⟨An, cn, hsn⟩ := hu.aSlice
              subst hsn
              have HPT := Lib.hid (show _ ∧ _ ∧ _ ∧ _ ∧ _ from ⟨a0, a1, a2, a3, a4⟩)
              have HGL : Hid (g < wr.heap.size) := Lib.hid (by have := HBR.out.size; omega)
              obtain ⟨hk0, hk1⟩ : (0 : Int) ≤ (k : Int) ∧ (k : Int) < (ds.length : Int) := by omega
              clear hd hint hgk a0 a1 a2 a3 a4 hu
              go_upto_region 18 with fail
              refine wp_region_held_drew (S := (fun w9 => Below wr.heap.size wr w9)) (by kernel_rfl) (Below.refl _ _).drew (fun hHeld => ?_)
              generalize hwd : wr.drew = wd at *
              clear hwd
              refine wpAnyH_take (i := 0) (oi := ⟨_, _, _, _, _, _⟩) (v := .agg #[.slice At ts.length ct, .slice As s.len cs]) rfl (by kernel_rfl) (by kernel_rfl) (by kernel_rfl) (fun _ _ _ h => h) (Or.inl ⟨by rfl, fun w9 hSw => by have h9 := (hSw.cell (p := ⟨w.heap.size, 0, none⟩) HLW.out).trans HP0.out; have h8 := (hSw.cell (p := ⟨w.heap.size, 1, none⟩) HLW.out).trans HP1.out; go_simp⟩) hHeld ?_
              try simp only [Act.put, List.setIfInBounds_toArray, List.set_cons_zero, List.set_cons_succ]
              refine wpAnyH_take (i := 1) (oi := ⟨_, _, _, _, _, _⟩) (v := .slice (some ⟨g, 0, none⟩) ds.length cap) rfl (by kernel_rfl) (by kernel_rfl) (by kernel_rfl) (fun _ _ _ h => h) (Or.inl ⟨by rfl, fun w hSw => by go_simp⟩) hHeld ?_
              try simp only [Act.put, List.setIfInBounds_toArray, List.set_cons_zero, List.set_cons_succ]
              refine wpAnyH_take (i := 2) (oi := ⟨_, _, _, _, _, _⟩) (v := .int .i64 (k : Int)) rfl (by kernel_rfl) (by kernel_rfl) (by kernel_rfl) (fun _ _ _ h => h) (Or.inl ⟨by rfl, fun w hSw => by go_simp⟩) hHeld ?_
              try simp only [Act.put, List.setIfInBounds_toArray, List.set_cons_zero, List.set_cons_succ]
              refine wpAnyH_take (i := 3) (oi := ⟨_, _, _, _, _, _⟩) (v := .pointer (some ⟨g, k * 5, none⟩)) rfl (by kernel_rfl) (by kernel_rfl) (by kernel_rfl) (fun _ _ _ h => h) (Or.inl ⟨by rfl, fun w hSw => by go_simp⟩) hHeld ?_
              try simp only [Act.put, List.setIfInBounds_toArray, List.set_cons_zero, List.set_cons_succ]
              refine wpAnyH_take (i := 4) (oi := ⟨_, _, _, _, _, _⟩) (v := .agg #[.int .i64 d.op, .int .i64 d.x, .int .i64 d.y, .int .i64 d.n, .slice An d.next.length cn]) rfl (by kernel_rfl) (by kernel_rfl) (by kernel_rfl) (fun _ _ _ h => h) (Or.inl ⟨by rfl, fun w9 hSw => by obtain ⟨q0, q1, q2, q3, q4⟩ := HPT.out; have h0 := (hSw.cell HGL.out).trans q0; have h1 := (hSw.cell HGL.out).trans q1; have h2 := (hSw.cell HGL.out).trans q2; have h3 := (hSw.cell HGL.out).trans q3; have h4 := (hSw.cell HGL.out).trans q4; go_simp⟩) hHeld ?_
              try simp only [Act.put, List.setIfInBounds_toArray, List.set_cons_zero, List.set_cons_succ]
              refine wpAnyH_take (i := 5) (oi := ⟨_, _, _, _, _, _⟩) (v := .int .i64 (k : Int)) rfl (by kernel_rfl) (by kernel_rfl) (by kernel_rfl) (fun _ _ _ h => h) (Or.inl ⟨by rfl, fun w hSw => by go_simp⟩) hHeld ?_
              try simp only [Act.put, List.setIfInBounds_toArray, List.set_cons_zero, List.set_cons_succ]
              refine wpAnyH_take (i := 6) (oi := ⟨_, _, _, _, _, _⟩) (v := .slice (some ⟨R, 0, none⟩) ds.length co) rfl (by kernel_rfl) (by kernel_rfl) (by kernel_rfl) (fun _ _ _ h => h) (Or.inl ⟨by rfl, fun w hSw => by go_simp⟩) hHeld ?_
              try simp only [Act.put, List.setIfInBounds_toArray, List.set_cons_zero, List.set_cons_succ]
              refine wpAnyH_take (i := 7) (oi := ⟨_, _, _, _, _, _⟩) (v := .int .i64 (k : Int)) rfl (by kernel_rfl) (by kernel_rfl) (by kernel_rfl) (fun _ _ _ h => h) (Or.inl ⟨by rfl, fun w hSw => by go_simp⟩) hHeld ?_
              try simp only [Act.put, List.setIfInBounds_toArray, List.set_cons_zero, List.set_cons_succ]
              refine wpAnyH_take (i := 8) (oi := ⟨_, _, _, _, _, _⟩) (v := .pointer (some ⟨R, k, none⟩)) rfl (by kernel_rfl) (by kernel_rfl) (by kernel_rfl) (fun _ _ _ h => h) (Or.inl ⟨by rfl, fun w hSw => by go_simp⟩) hHeld ?_
              try simp only [Act.put, List.setIfInBounds_toArray, List.set_cons_zero, List.set_cons_succ]
              refine wpAnyH_take (i := 9) (oi := ⟨_, _, _, _, _, _⟩) (v := .slice (ms0 k).fa ts.length (ms0 k).cf) rfl (by kernel_rfl) (by kernel_rfl) (by kernel_rfl) (fun _ _ _ h => h) (Or.inl ⟨by rfl, fun w9 hSw => by have h9 := (hSw.cell (p := ⟨R, k, none⟩) HRL.out).trans HR0.out; go_simp⟩) hHeld ?_
              try simp only [Act.put, List.setIfInBounds_toArray, List.set_cons_zero, List.set_cons_succ]
              refine wpAnyH_take (i := 10) (oi := ⟨_, _, _, _, _, _⟩) (v := .int .i64 (q : Int)) rfl (by kernel_rfl) (by kernel_rfl) (by kernel_rfl) (fun _ _ _ h => h) (Or.inl ⟨by rfl, fun w hSw => by go_simp⟩) hHeld ?_
              try simp only [Act.put, List.setIfInBounds_toArray, List.set_cons_zero, List.set_cons_succ]
              refine wpAnyH_take (i := 11) (oi := ⟨_, _, _, _, _, _⟩) (v := .int .i64 (z : Int)) rfl (by kernel_rfl) (by kernel_rfl) (by kernel_rfl) (fun _ _ _ h => h) (Or.inl ⟨by rfl, fun w hSw => by go_simp⟩) hHeld ?_
              try simp only [Act.put, List.setIfInBounds_toArray, List.set_cons_zero, List.set_cons_succ]
              refine wpAnyH_ready (rs := [12]) (by kernel_rfl) (by simp) ?_
              refine AllReadyH.cons (o := ⟨_, _, _, _, _, _⟩) rfl (fun K hK => ?_) AllReadyH.nil
              have hzW := hHeld.size
              have haf := haft.out wd k d An cn _ (ms0 k) (o k) (HBW.out.trans ((HBR.out.trans (hHeld.mono hbz)).mono HBW.out.size)) HDK.out ((HF.out.keep hHeld).st k hlt)
              go_simp
              refine haf.mono ?_
              rintro E wq ⟨ma, rfl, hma, hbq⟩
              refine hK.out _ _ (hHeld.trans (hbq.mono hzW)) (fun hHeld => ?_)
              obtain ⟨KB, hKB⟩ : ∃ KB, KB = wd.heap.size := ⟨_, rfl⟩
              rw [← hKB] at hma
              have HKB : Hid (∀ i u, i < ds.length → u < ts.length → (ms0 i).bl u < KB) := Lib.hid (fun i u hi hu => by have := ((HF.out.st i hi).fl u hu).lt; omega)
              have HMA := Lib.hid hma
              have HFQ := Lib.hid (HF.out.keep hHeld)
              have HBQ := Lib.hid (HBR.out.trans (hHeld.mono hbz))
              clear hK K haf hma hbq hzW hKB
              refine wpAnyH_ready (rs := [13]) (by kernel_rfl) (by simp) ?_
              refine AllReadyH.cons (o := ⟨_, _, _, _, _, _⟩) rfl (fun K hK => ?_) AllReadyH.nil
              go_simp
              refine hK.out _ _ hHeld (fun hHeld => ?_)
              clear hK K
              refine wpAnyH_done (by kernel_rfl) ?_ _
              clear hHeld HR0 HRL HP0 HP1 HLW HPT HGL
              have HK0 := Lib.hid (HJ.out.point hlt d)
              clear HF HBR HJ hbz
              go_wp2_with fail
              go_loopg [12, 15] d.next.length (fun gg c i wr => ∃ (j : Nat) (o2 : Nat → Nat → Nat → Bool) (cb : Bool), c = .bool cb ∧ i = .int .i64 j ∧ j ≤ d.next.length ∧ gg = d.next.length - j ∧ Hid (F4 wr w1.heap.size R ds.length ts.length z ms0 o2) ∧ Hid (Below w1.heap.size w1 wr) ∧ Hid (S4 wr KB ts.length z ma (aftT q ts d k (o k))) ∧ Hid (K4 q ts ds o o2 cb k j M d))
              case atStart => exact ⟨0, o, cb, rfl, rfl, Nat.zero_le _, rfl, HFQ, HBQ, HMA, HK0⟩
              case round =>
                clear HFQ HBQ HMA HK0
                obtain ⟨j, o2, cb, rfl, rfl, hj, hgj, HF, HBR, HMA, HKK⟩ := hrel
                have hbz := HBR.out.size
                have HGJ := Lib.hid hgj
                clear hgj
                obtain ⟨un, ⟨-, -, -, -, a4⟩, hun⟩ := (HP.out.below HBR.out).cells HDK.out
                by_cases hjl : j < d.next.length
                · obtain ⟨b0, hsb, hcell⟩ := hun.aCell hjl
                  subst hsb
                  obtain ⟨b, hbx⟩ : ∃ b : Nat, d.next[j]? = some (b : Int) := by
                    obtain ⟨u0, hu0⟩ : ∃ u0, d.next[j]? = some u0 := ⟨d.next[j], List.getElem?_eq_getElem hjl⟩
                    have hm : u0 ∈ d.next := List.mem_of_getElem? hu0
                    rw [← HINT.out.1] at hm
                    obtain ⟨b, hb, e3⟩ := List.mem_map.mp hm
                    exact ⟨b, by rw [hu0, ← e3]⟩
                  have hcb := hcell _ hbx
                  clear hcell
                  have hbn : b < ds.length := by
                    have hm : (b : Int) ∈ d.next := List.mem_of_getElem? hbx
                    rw [← HINT.out.1] at hm
                    obtain ⟨b', hb', e3⟩ := List.mem_map.mp hm
                    have h8 := HINT.out.2 b' hb'
                    have h9 : (b' : Int) = (b : Int) := e3
                    omega
                  have HED : Hid (eN ds k b) := Lib.hid ((mem_nextN HD.out hle _ _).mpr ⟨d, j, HDK.out, hbx, .inl (by omega)⟩)
                  have HBX := Lib.hid hbx
                  obtain ⟨hb0, hb1⟩ : (0 : Int) ≤ (b : Int) ∧ (b : Int) < (ds.length : Int) := by omega
                  obtain ⟨hj0, hj1⟩ : (0 : Int) ≤ (j : Int) ∧ (j : Int) < (d.next.length : Int) := by omega
                  have cR := HF.out.cell hbn
                  have hmg := l10Merge_any _ _ ts.length z (ms0 b) ma (aftT q ts d k (o k)) (o2 b) wr ht6 hz61 (HF.out.st b hbn) HMA.out (fun u v hu hv => by have := HKB.out b u hbn hu; have := HMA.out.own v hv; omega)
                  unfold M4.val at hmg
                  clear hun hbx
                  go_wp2_with fail
                  refine hmg.mono ?_
                  rintro E w6 ⟨r, rfl, hr, hw6, hs6⟩
                  have HF6 := Lib.hid (HF.out.merge hbn hw6 hs6)
                  have HB6 : Hid (Below w1.heap.size w1 w6) := Lib.hid (hw6.below HBR.out hbz (fun k9 hk9 => by obtain ⟨v, hv, e⟩ := hk9; rw [e]; exact (HF.out.st b hbn).own v hv))
                  have HM6 := Lib.hid (HMA.out.wr hw6 (fun u hu hr9 => by obtain ⟨v, hv, e⟩ := hr9; have h8 := HKB.out b v hbn hv; have h9 := HMA.out.own u hu; omega) (fun h0 => (HF.out.st b hbn).g_off HMA.out h0))
                  have HKN := Lib.hid (HKK.out.step HAT.out HDK.out HBX.out hbn HED.out (by rw [← HZZ.out]; exact hr))
                  clear hmg hr hw6 hs6 HF HBR HMA HKK cR a4 hcb
                  cases r
                  · go_wp2_with fail
                    go_roundg (d.next.length - (j + 1))
                    case measure => rw [HGJ.out]; omega
                    case rel => exact ⟨j + 1, _, cb, rfl, by go_num, by omega, rfl, HF6, HB6, HM6, HKN⟩
                  · go_wp2_with fail
                    go_roundg (d.next.length - (j + 1))
                    case measure => rw [HGJ.out]; omega
                    case rel => exact ⟨j + 1, _, true, rfl, by go_num, by omega, rfl, HF6, HB6, HM6, HKN⟩
                · have hje : j = d.next.length := by omega
                  obtain ⟨An2, cn2, hsn2⟩ := hun.aSlice
                  subst hsn2
                  have HJN := Lib.hid (by rw [hje] at HKK; exact HKK.out.done HD.out hle HDK.out : J4 q ts ds o2 cb (k + 1) M)
                  have hjd : decide ((j : Int) < (d.next.length : Int)) = false := decide_eq_false (by omega)
                  clear hje hun HKK HMA
                  go_wp2_with fail
                  go_roundg (ds.length - (k + 1))
                  case measure => rw [HGK.out]; omega
                  case rel => exact ⟨k + 1, o2, cb, rfl, by go_num, by omega, rfl, HF, HBR, HJN⟩
            · have hke : k = ds.length := by omega
              subst hke
              have HQN := Lib.hid (J4.pass HJ.out)
              have HDEC : Hid (cb = true → missF o ds.length z < M) := Lib.hid (fun hc => by have h8 := HJ.out.dec hc; rw [← HZZ.out] at h8; exact h8)
              clear HJ hgk
              go_wp2_with fail
              go_roundg M
              case measure => exact HGM.out
              case rel => exact ⟨o, cb, rfl, HF, HBR, HQN, HDEC⟩

end tr
end Go.Proofs.YtnoejapnjhogaaaGreatDoor
