/-
  What is known of an answer behind a point, by the model: l10After.
-/
import Derived.Test.YtnoejapnjhogaaaGreatDoorZTVal
import Derived.Test.YtnoejapnjhogaaaGreatDoorZL3G
import Derived.Deep.AppendLies
import Derived.Deep.DeepCutAuto
import Derived.Deep.CutBlock
namespace Go.Proofs.YtnoejapnjhogaaaGreatDoor.tr
open Go.RowKit Go.Deep
set_option linter.unusedVariables false

/-- What is kept of a table, before the variable is set. -/
def keptF (ts : List Int) (d : Nd) (S : Nat → Nat → Bool) (v l : Nat) : Bool := if useI ts d (v : Int) = 2 then false else S v l

theorem aftT_kept {q : Nat} {ts : List Int} {d : Nd} {a : Nat} {S : Nat → Nat → Bool} (h : setI d < 0) (v l : Nat) : aftT q ts d a S v l = keptF ts d S v l := by
  unfold aftT keptF
  rw [if_neg (by omega)]

theorem aftT_set {q : Nat} {ts : List Int} {d : Nd} {a : Nat} {S : Nat → Nat → Bool} {k : Nat} (h : setI d = (k : Int)) (v l : Nat) : aftT q ts d a S v l = setR (keptF ts d S) k (fun l => gQ q d a l || (hQ q d && S d.y.toNat l)) v l := by
  unfold aftT keptF
  rw [h]
  by_cases hv : v = k
  · subst hv
    rw [setR_at, if_pos rfl]
  · rw [setR_ne _ _ _ hv, if_neg (by omega)]

/-- The step's memory: the boxes, the table before. -/
structure AftS (ts : List Int) (At As : Option Addr) (ct sl cs : Nat) (d : Nd) (u : Value) (w0 w : World) : Prop where
  pb : w.heap[w0.heap.size]? = some (.cells #[.slice At ts.length ct, .slice As sl cs] 30 (0, 0))
  xb : w.heap[w0.heap.size + 1]? = some (.cells #[.int .i64 d.op, .int .i64 d.x, .int .i64 d.y, .int .i64 d.n, u] 75 (0, 0))
  below : Below w0.heap.size w0 w
  lt : w0.heap.size + 2 ≤ w.heap.size

section
variable {ts : List Int} {At As : Option Addr} {ct sl cs : Nat} {d : Nd} {u : Value} {w0 w w' : World}

theorem AftS.keep (h : AftS ts At As ct sl cs d u w0 w) (hb : Below w.heap.size w w') : AftS ts At As ct sl cs d u w0 w' :=
  ⟨(hb.block _ (heap_lt h.pb)).trans h.pb, (hb.block _ (heap_lt h.xb)).trans h.xb, h.below.trans (hb.mono h.below.size), Nat.le_trans h.lt hb.size⟩

/-- A row of tables is grown. -/
theorem AftS.grown {B k s : Nat} {v : Value} {t : TypeId} {xs : List Value} (h : AftS ts At As ct sl cs d u w0 w) (ho : w.ownsRow B t s v k xs) (hB : w0.heap.size + 2 ≤ B) (hg : w.grownBy w' v.ownBlock) : AftS ts At As ct sl cs d u w0 w' :=
  ⟨(hg.block _ (heap_lt h.pb) (fun e => by have := (ho.lt _ e.symm).1; omega)).trans h.pb, (hg.block _ (heap_lt h.xb) (fun e => by have := (ho.lt _ e.symm).1; omega)).trans h.xb, h.below.grown hg h.below.size (fun j hj => by have := (ho.lt j hj).1; omega), Nat.le_trans h.lt hg.size⟩

theorem AftS.pt (h : AftS ts At As ct sl cs d u w0 w) : w.cell? ⟨w0.heap.size + 1, 0, none⟩ = some (.int .i64 d.op) ∧ w.cell? ⟨w0.heap.size + 1, 1, none⟩ = some (.int .i64 d.x) ∧ w.cell? ⟨w0.heap.size + 1, 2, none⟩ = some (.int .i64 d.y) ∧ w.cell? ⟨w0.heap.size + 1, 3, none⟩ = some (.int .i64 d.n) ∧ w.cell? ⟨w0.heap.size + 1, 4, none⟩ = some u :=
  ⟨(cell_of_block h.xb 0).trans rfl, (cell_of_block h.xb 1).trans rfl, (cell_of_block h.xb 2).trans rfl, (cell_of_block h.xb 3).trans rfl, (cell_of_block h.xb 4).trans rfl⟩

theorem AftS.pg (h : AftS ts At As ct sl cs d u w0 w) : w.cell? ⟨w0.heap.size, 0, none⟩ = some (.slice At ts.length ct) ∧ w.cell? ⟨w0.heap.size, 1, none⟩ = some (.slice As sl cs) :=
  ⟨(cell_of_block h.pb 0).trans rfl, (cell_of_block h.pb 1).trans rfl⟩
end

set_option maxRecDepth 100000 in
set_option maxHeartbeats 8000000 in
theorem l10After_any (q : Nat) (hq : q < 3) (ts : List Int) (ns : List Nd) (At As : Option Addr) (ct sl cs : Nat) (a : Nat) (d : Nd) (Au : Option Addr) (lu cu : Nat) (B0 : Nat) (m : M4) (S : Nat → Nat → Bool) (w : World) (hA : AllTyped ts ns) (hle : ns.length ≤ 61) (hd : ns[a]? = some d) (hT : IntsV w 0 w.heap.size ts At ct) (h : S4 w B0 ts.length (szQ q ns.length) m S) :
    Calls Tryz.prog 71 #[.agg #[.slice At ts.length ct, .slice As sl cs], .agg #[.int .i64 d.op, .int .i64 d.x, .int .i64 d.y, .int .i64 d.n, .slice Au lu cu], .int .i64 a, m.val ts.length, .int .i64 q, .int .i64 (szQ q ns.length)] w
      fun E w' => ∃ m' : M4, E = .returned (m'.val ts.length) ∧ S4 w' w.heap.size ts.length (szQ q ns.length) m' (aftT q ts d a S) ∧ Below w.heap.size w w' := by
  obtain ⟨i0, hi, hzz0, hzz1, hzz2⟩ := info_parts Tryz.infoBools
  have HI := Lib.hid hi
  have HZ0 := Lib.hid hzz0
  have HZ1 := Lib.hid hzz1
  have HZ2 := Lib.hid hzz2
  clear hi hzz0 hzz1 hzz2
  have ht6 := hA.1
  have hty := hA.2 a d hd
  have hset : setI d < 0 ∨ ∃ v : Nat, setI d = (v : Int) ∧ v < ts.length := by
    rcases Int.lt_or_le (setI d) 0 with h9 | h9
    · exact .inl h9
    · exact .inr ⟨(setI d).toNat, by omega, by have := typed_set hty (setI d) h9 rfl; omega⟩
  have hz61 : szQ q ns.length ≤ 61 := by
    unfold szQ
    split
    · exact hle
    · split
      · exact hle
      · omega
  have hval : ∀ W : World, Below w.heap.size w W → Calls Tryz.prog 103 #[.agg #[.slice At ts.length ct, .slice As sl cs], .agg #[.int .i64 d.op, .int .i64 d.x, .int .i64 d.y, .int .i64 d.n, .slice Au lu cu], .int .i64 a, m.val ts.length, .int .i64 q, .int .i64 (szQ q ns.length)] W
      fun E w' => ∃ F, E = .returned (.slice (some ⟨F, 0, none⟩) (szQ q ns.length) (szQ q ns.length)) ∧ FlW w' F (szQ q ns.length) (fun l => gQ q d a l || (hQ q d && S d.y.toNat l)) ∧ W.heap.size ≤ F ∧ Below W.heap.size W w' := fun W hW => l10Value_any q hq ts ns At As ct sl cs a d (.slice Au lu cu) B0 m S W hA hle hd (h.keep hW)
  obtain ⟨z, hz⟩ : ∃ z, z = szQ q ns.length := ⟨_, rfl⟩
  rw [← hz] at h hz61 hval ⊢
  have hu3 : ∀ W : World, Below w.heap.size w W → ∀ v : Nat, v < ts.length → Calls Tryz.prog 54 #[.slice At ts.length ct, .agg #[.int .i64 d.op, .int .i64 d.x, .int .i64 d.y, .int .i64 d.n, .slice Au lu cu], .int .i64 v] W fun E w' => E = .returned (.int .i64 (useI ts d v)) ∧ Below W.heap.size W w' := fun W hW v hv => l3Use_any ts At ct d.op d.x d.y d.n d.next (.slice Au lu cu) v W hv (hT.below hW hW.size)
  have hs3 : ∀ W : World, Calls Tryz.prog 53 #[.agg #[.int .i64 d.op, .int .i64 d.x, .int .i64 d.y, .int .i64 d.n, .slice Au lu cu]] W fun E w' => E = .returned (.int .i64 (setI d)) ∧ Below W.heap.size W w' := fun W => l3Set_any d.op d.x d.y d.n d.next (.slice Au lu cu) W
  have HS := Lib.hid h
  have HFA := Lib.hid h.fa
  obtain ⟨hf1, hf2⟩ := h.cf
  unfold maxLen at hf2
  have HU := Lib.hid hu3
  have HS3 := Lib.hid hs3
  have HSET := Lib.hid hset
  have HVAL := Lib.hid hval
  have HTM := Lib.hid hT
  have hTm := hT.2.1
  have hTl := hT.1
  unfold maxLen at hTm
  have HMK : Hid (∀ W : World, _) := Lib.hid (fun W => run_make_row' (P := Tryz.prog) 50 4 (.bool false) 1 Tryz.underlying50 Tryz.infoBool rfl .i64 .i64 z (by omega) (by omega) W)
  have hb1 := ((Below.refl w.heap.size w).alloc (Nat.le_refl _) (.cells #[.slice At ts.length ct, .slice As sl cs] 30)).alloc (by simp) (.cells #[.int .i64 d.op, .int .i64 d.x, .int .i64 d.y, .int .i64 d.n, .slice Au lu cu] 75)
  have hzz : ((w.alloc (.cells #[.slice At ts.length ct, .slice As sl cs] 30)).alloc (.cells #[.int .i64 d.op, .int .i64 d.x, .int .i64 d.y, .int .i64 d.n, .slice Au lu cu] 75)).heap.size = w.heap.size + 2 := by simp
  have hP1 := heap_alloc_new w (.cells #[.slice At ts.length ct, .slice As sl cs] 30)
  have hX := heap_alloc_new (w.alloc (.cells #[.slice At ts.length ct, .slice As sl cs] 30)) (.cells #[.int .i64 d.op, .int .i64 d.x, .int .i64 d.y, .int .i64 d.n, .slice Au lu cu] 75)
  have hP2 := (((Below.refl _ _).alloc (Nat.le_refl _) (.cells #[.int .i64 d.op, .int .i64 d.x, .int .i64 d.y, .int .i64 d.n, .slice Au lu cu] 75) : Below (w.alloc (.cells #[.slice At ts.length ct, .slice As sl cs] 30)).heap.size _ _).block _ (heap_lt hP1)).trans hP1
  rw [show (w.alloc (.cells #[.slice At ts.length ct, .slice As sl cs] 30)).heap.size = w.heap.size + 1 from by simp] at hX
  have HA0 : Hid (AftS ts At As ct sl cs d (.slice Au lu cu) w ((w.alloc (.cells #[.slice At ts.length ct, .slice As sl cs] 30)).alloc (.cells #[.int .i64 d.op, .int .i64 d.x, .int .i64 d.y, .int .i64 d.n, .slice Au lu cu] 75))) := Lib.hid ⟨hP2, hX, hb1, by rw [hzz]; exact Nat.le_refl _⟩
  clear h hset hval hT hu3 hs3 hb1 hP1 hX hP2 hzz hty hA hd
  unfold M4.val
  obtain ⟨A, hAA⟩ : ∃ A, A = m.fa := ⟨_, rfl⟩
  have HVAL : Hid (∀ W : World, Below w.heap.size w W → Calls Tryz.prog 103 #[.agg #[.slice At ts.length ct, .slice As sl cs], .agg #[.int .i64 d.op, .int .i64 d.x, .int .i64 d.y, .int .i64 d.n, .slice Au lu cu], .int .i64 a, .slice m.fa ts.length m.cf, .int .i64 q, .int .i64 z] W
      fun E w' => ∃ F, E = .returned (.slice (some ⟨F, 0, none⟩) z z) ∧ FlW w' F z (fun l => gQ q d a l || (hQ q d && S d.y.toNat l)) ∧ W.heap.size ≤ F ∧ Below W.heap.size W w') := HVAL
  rw [← hAA] at HFA HVAL ⊢
  clear hAA hz
  go_enter Tryz.func71, Tryz.ntmps71
  go_upto_region 1 with fail
  generalize (w.alloc (.cells #[.slice At ts.length ct, .slice As sl cs] 30)).alloc (.cells #[.int .i64 d.op, .int .i64 d.x, .int .i64 d.y, .int .i64 d.n, .slice Au lu cu] 75) = w1 at *
  have hR0 := Rows4.nil w1 (w.heap.size + 2) z (keptF ts d S) HA0.out.lt
  have hbe := (Below.refl w1.heap.size w1).alloc (Nat.le_refl _) (.cells #[] 50)
  replace HA0 := Lib.hid (HA0.out.keep hbe)
  have HR0 := Lib.hid hR0
  clear hR0 hbe
  go_wp2_with fail
  generalize w1.alloc (.cells #[] 50) = w2 at *
  go_loopw [13, 14] (fun ov i wr => ∃ (k : Nat) (bl cp : Nat → Nat), i = .int .i64 k ∧ k ≤ ts.length ∧ Hid (Rows4 wr (w.heap.size + 2) ov k z bl cp (keptF ts d S)) ∧ Hid (AftS ts At As ct sl cs d (.slice Au lu cu) w wr)) (fun _ i _ => ts.length - (intOf i).toNat)
  case atStart => exact ⟨0, _, _, rfl, Nat.zero_le _, HR0, HA0⟩
  case round =>
    clear HR0 HA0
    obtain ⟨k, bl, cp, rfl, hk, HR, HAF⟩ := hrel
    obtain ⟨Ao, co, ho, hko, hcm⟩ := HR.out.slice
    subst ho
    unfold maxLen at hcm
    have hw2 := HAF.out.lt
    have hp := HAF.out.pt
    have hg := HAF.out.pg
    obtain ⟨p0, p1, p2, p3, p4⟩ := hp
    obtain ⟨g0, g1⟩ := hg
    by_cases hlt : k < ts.length
    · have hu := HU.out wr HAF.out.below k hlt
      obtain ⟨U, hUU⟩ : ∃ U, useI ts d k = U := ⟨_, rfl⟩
      rw [hUU] at hu
      have HUE := Lib.hid hUU
      clear hUU
      go_wp2_with fail
      refine hu.mono ?_
      rintro E w3 ⟨rfl, hb3⟩
      have HR3 := Lib.hid (HR.out.below hb3)
      have HA3 := Lib.hid (HAF.out.keep hb3)
      have hw3 := HA3.out.lt
      clear hu hb3 HR HAF p0 p1 p2 p3 p4 g0 g1 hw2
      by_cases h2 : U = 2
      · subst h2
        have hmk := HMK.out w3
        have hfl := ((FlAt.made w3 z).wide).congr (gl := keptF ts d S k) (fun l _ => by unfold keptF; rw [if_pos HUE.out])
        have hb4 := (Below.refl w3.heap.size w3).alloc (Nat.le_refl _) (.cells (madeCells #[.bool false] z) 4)
        have hz4 : (w3.alloc (.cells (madeCells #[.bool false] z) 4)).heap.size = w3.heap.size + 1 := by simp
        have HLT : Hid (∀ v, v < k → bl v < w3.heap.size) := Lib.hid (fun v hv => HR3.out.lt hv)
        have hb5 := (Below.refl (w3.alloc (.cells (madeCells #[.bool false] z) 4)).heap.size (w3.alloc (.cells (madeCells #[.bool false] z) 4))).alloc (Nat.le_refl _) (.cells #[.slice (some ⟨w3.heap.size, 0, none⟩) z z] 50)
        have hnw := heap_alloc_new (w3.alloc (.cells (madeCells #[.bool false] z) 4)) (.cells #[.slice (some ⟨w3.heap.size, 0, none⟩) z z] 50)
        rw [hz4] at hnw
        have hr5 := (HR3.out.below hb4).below hb5
        have HA5 := Lib.hid ((HA3.out.keep hb4).keep hb5)
        have HF := Lib.hid (hfl.keep (hb5.block _ hfl.lt))
        have HLE := Lib.hid HA5.out.lt
        have HFL := Lib.hid hw3
        have HNW := Lib.hid hnw
        replace HLT : Hid (∀ v, v < k → bl v < w3.heap.size) := Lib.hid (fun v hv => HR3.out.lt hv)
        obtain ⟨xs, hown, h1, h2⟩ := hr5
        have HO := Lib.hid hown
        have H1 := Lib.hid h1
        have H2 := Lib.hid h2
        clear hb4 hb5 hfl hz4 hown h1 h2 hnw HR3 HA3 hw3
        go_wp2_with (at_builtin; refine wpList_append_lies _ rfl _ _ 51 rfl (w.heap.size + 2) 50 i0 (.slice none 0 0) 1 24 Tryz.underlying51 HI.out HZ0.out HZ1.out HZ2.out rfl (by decide) _ _ _ rfl HO.out ⟨_, 0, none⟩ 1 1 [.slice (some ⟨w3.heap.size, 0, none⟩) z z] rfl rfl ?x41 ?x42 (by decide) ?x43 ?x44 ?x45 _ rfl ?_)
        try (case x41 => exact World.news_of_block HNW.out)
        try (case x42 => (intro u9 hu9; simp only [List.mem_cons, List.not_mem_nil, or_false] at hu9; subst hu9; rfl))
        try (case x43 => (unfold maxLen; omega))
        try (case x44 => omega)
        try (case x45 => exact HLE.out)
        intro g9 cap9 w9 hown9 hgg9 hat9 hlt9
        have HMO := Lib.hid (Rows4.more (F := w3.heap.size) (c := z) HO.out H1.out H2.out HF.out (fun v hv => Nat.ne_of_lt (HLT.out v hv)) HFL.out ⟨Nat.le_refl _, by unfold maxLen; omega⟩ hgg9 hown9)
        have HA9 := Lib.hid (HA5.out.grown HO.out (Nat.le_refl _) hgg9)
        clear hown9 hgg9 hat9 hlt9 HO H1 H2 HF HA5 HNW HLE
        go_wp2_with fail
        refine ⟨⟨k + 1, _, _, by simp, by omega, HMO, HA9⟩, ?_⟩
        simp only [intOf]
        omega
      · have hU2 : (U == 2) = false := by simp [h2]
        have hU3 : decide (U = 2) = false := decide_eq_false h2
        obtain rfl := HFA.out (by omega)
        have hbE := (Below.refl w3.heap.size w3).alloc (Nat.le_refl _) (.cells #[] 4)
        have hL0 := heap_alloc_new w3 (.cells #[] 4)
        have hSE := (HS.out.keep HA3.out.below).keep hbE
        have cS := hSE.slot hlt
        have HL0 := Lib.hid hL0
        have HFK := Lib.hid (hSE.fl k hlt)
        obtain ⟨kc1, kc2⟩ := hSE.cp k hlt
        unfold maxLen at kc2
        have ki0 : (0 : Int) ≤ (k : Int) := by omega
        have ki1 : (k : Int) < (ts.length : Int) := by omega
        have HBE := Lib.hid hbE
        clear hbE hL0 hSE
        go_wp2_with (at_builtin; refine wpList_append_flags rfl _ _ rfl w3.heap.size (m.bl k) (m.cp k) z (S k) rfl HL0.out rfl HFK.out (by omega) ?_)
        intro G cap w4 hG hcap hcm2 hGl hgr
        have hb4 : Below w3.heap.size w3 w4 := HBE.out.grown hgr (by simp) (fun j hj => by cases hj)
        have hb5 := (Below.refl w4.heap.size w4).alloc (Nat.le_refl _) (.cells #[.slice (some ⟨G, 0, none⟩) z cap] 50)
        have hnw := heap_alloc_new w4 (.cells #[.slice (some ⟨G, 0, none⟩) z cap] 50)
        have hr5 := (HR3.out.below hb4).below hb5
        have HA5 := Lib.hid ((HA3.out.keep hb4).keep hb5)
        have HF : Hid (FlW (w4.alloc (.cells #[.slice (some ⟨G, 0, none⟩) z cap] 50)) G z (keptF ts d S k)) := Lib.hid ((hG.keep (hb5.block _ hG.lt)).congr (fun l _ => by unfold keptF; rw [HUE.out, if_neg h2]))
        have HLE := Lib.hid HA5.out.lt
        have HFL : Hid (w.heap.size + 2 ≤ G) := Lib.hid (by omega)
        have HNW := Lib.hid hnw
        have HLT : Hid (∀ v, v < k → bl v < G) := Lib.hid (fun v hv => by have := HR3.out.lt hv; omega)
        have HCP : Hid (z ≤ cap ∧ cap ≤ maxLen) := Lib.hid ⟨hcap, hcm2⟩
        unfold maxLen at hcm2
        obtain ⟨xs, hown, h1, h2'⟩ := hr5
        have HO := Lib.hid hown
        have H1 := Lib.hid h1
        have H2 := Lib.hid h2'
        clear hb4 hb5 hown h1 h2' hnw HR3 HA3 hw3 hG hGl hgr HBE HL0 HFK cS
        go_wp2_with (at_builtin; refine wpList_append_lies _ rfl _ _ 51 rfl (w.heap.size + 2) 50 i0 (.slice none 0 0) 1 24 Tryz.underlying51 HI.out HZ0.out HZ1.out HZ2.out rfl (by decide) _ _ _ rfl HO.out ⟨_, 0, none⟩ 1 1 [.slice (some ⟨G, 0, none⟩) z cap] rfl rfl ?x41 ?x42 (by decide) ?x43 ?x44 ?x45 _ rfl ?_)
        try (case x41 => exact World.news_of_block HNW.out)
        try (case x42 => (intro u9 hu9; simp only [List.mem_cons, List.not_mem_nil, or_false] at hu9; subst hu9; rfl))
        try (case x43 => (unfold maxLen; omega))
        try (case x44 => omega)
        try (case x45 => exact HLE.out)
        intro g9 cap9 w9 hown9 hgg9 hat9 hlt9
        have HMO := Lib.hid (Rows4.more (F := G) (c := cap) HO.out H1.out H2.out HF.out (fun v hv => Nat.ne_of_lt (HLT.out v hv)) HFL.out HCP.out hgg9 hown9)
        have HA9 := Lib.hid (HA5.out.grown HO.out (Nat.le_refl _) hgg9)
        clear hown9 hgg9 hat9 hlt9 HO H1 H2 HF HA5 HNW HLE
        go_wp2_with fail
        refine ⟨⟨k + 1, _, _, by simp, by omega, HMO, HA9⟩, ?_⟩
        simp only [intOf]
        omega
    · have hke : k = ts.length := by omega
      have hs := HS3.out wr
      go_wp2_with fail
      refine hs.mono ?_
      rintro E w3 ⟨rfl, hb3⟩
      have HR3 := Lib.hid (HR.out.below hb3)
      have HA3 := Lib.hid (HAF.out.keep hb3)
      clear hs hb3 HR HAF p0 p1 p2 p3 p4 g0 g1 hw2
      subst hke
      rcases HSET.out with hn | ⟨v, hv, hvt⟩
      · have hge : decide (0 ≤ setI d) = false := decide_eq_false (by omega)
        have HFIN : Hid (S4 w3 w.heap.size ts.length z _ (aftT q ts d a S)) := Lib.hid ((HR3.out.done.lower (Nat.le_add_right _ 2)).congr fun v l _ _ => aftT_kept hn v l)
        have HBF := Lib.hid HA3.out.below
        clear HR3 HA3 hn
        go_wp2_with fail
        go_ret
        exact ⟨_, rfl, HFIN.out, by first | exact HBF.out | exact HBF.out.drew⟩
      · obtain ⟨G, rfl⟩ : ∃ G, Ao = some ⟨G, 0, none⟩ := by
          obtain ⟨xs, ho, _⟩ := HR3.out
          rcases ho.2 with ⟨_, e⟩ | ⟨g, cap, cur, hv', _⟩
          · omega
          · injection hv' with hv' _ _
            exact ⟨g, hv'⟩
        have hd := HR3.out.done
        have hval := HVAL.out w3 HA3.out.below
        obtain ⟨p0, p1, p2, p3, p4⟩ := HA3.out.pt
        obtain ⟨g0, g1⟩ := HA3.out.pg
        have HD := Lib.hid hd
        have HV := Lib.hid hv
        have HA3' := HA3
        rw [hv]
        have vi0 : (0 : Int) ≤ (v : Int) := by omega
        have vi1 : (v : Int) < (ts.length : Int) := by omega
        clear hd HR3 HA3 hv
        go_wp2_with fail
        refine hval.mono ?_
        rintro E w4 ⟨F, rfl, hF, hFl, hb4⟩
        have hd4 := HD.out.keep hb4
        have cv : w4.cell? ⟨G, v, none⟩ = some (.slice (some ⟨bl v, 0, none⟩) z (cp v)) := hd4.slot hvt
        have sv : w4.frozen? ⟨G, v, none⟩ = false := hd4.soft (by omega) v
        have hne : ∀ u, u < ts.length → u ≠ v → bl u ≠ F := fun u hu _ => by have := (HD.out.fl u hu).lt; have : bl u < w3.heap.size := this; omega
        have hw3 := HA3'.out.lt
        have HFIN := Lib.hid (((hd4.swap hvt hF hne (by omega) ⟨Nat.le_refl _, by unfold maxLen; omega⟩).lower (Nat.le_add_right w.heap.size 2)).congr (S' := aftT q ts d a S) fun v' l _ _ => aftT_set HV.out v' l)
        have HBF : Hid (Below w.heap.size w (w4.setCell ⟨G, v, none⟩ (.slice (some ⟨F, 0, none⟩) z z))) := Lib.hid (below_set (HA3'.out.below.trans (hb4.mono HA3'.out.below.size)) (by have := HD.out.og (by omega); have : w.heap.size + 2 ≤ G := this; omega))
        clear hval hF hFl hb4 hd4 hne HA3' HD p0 p1 p2 p3 p4 g0 g1
        go_wp2_with fail
        go_ret
        exact ⟨_, rfl, HFIN.out, by first | exact HBF.out | exact HBF.out.drew⟩

end Go.Proofs.YtnoejapnjhogaaaGreatDoor.tr
