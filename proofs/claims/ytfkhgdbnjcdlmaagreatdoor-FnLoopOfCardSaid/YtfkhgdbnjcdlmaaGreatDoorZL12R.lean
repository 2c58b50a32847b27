/-
  The model's search of points by ways that do not pass a point, walked.
-/
import Derived.Test.YtfkhgdbnjcdlmaaGreatDoorZL2Xa
import Derived.Test.YtfkhgdbnjcdlmaaGreatDoorZDom
namespace Go.Proofs.YtfkhgdbnjcdlmaaGreatDoor
open Go.RowKit Go.Deep
set_option linter.unusedVariables false

/-- The state of a search: what is found, F; what waits, W. -/
structure FoundW (nx : Nat → List Nat) (b a : Nat) (F : Nat → Prop) (W : List Nat) : Prop where
  sound : ∀ x, F x → WayW nx b a x
  waits : ∀ x ∈ W, x = b ∨ WayW nx b a x
  first : F a ∨ a ∈ W ∨ a = b
  next : ∀ x, F x → ∀ y ∈ nx x, F y ∨ y ∈ W ∨ y = b

theorem FoundW.start (nx : Nat → List Nat) (b a : Nat) {F : Nat → Prop} (hF : ∀ x, ¬ F x) : FoundW nx b a F [a] :=
  ⟨fun x h => absurd h (hF x), fun x h => by
    have : x = a := by simpa using h
    subst this
    by_cases e : x = b
    · exact .inl e
    · exact .inr ⟨e, .inl rfl⟩, .inr (.inl (by simp)), fun x h => absurd h (hF x)⟩

theorem FoundW.last {nx : Nat → List Nat} {b a : Nat} {F : Nat → Prop} (h : FoundW nx b a F []) (x : Nat) : F x ↔ WayW nx b a x := by
  refine ⟨h.sound x, fun hw => ?_⟩
  refine hw.ind (P := F) (fun h0 => ?_) (fun y x _ hy hx hb => ?_)
  · rcases h.first with h1 | h1 | h1
    · exact h1
    · simp at h1
    · exact absurd h1 h0
  · rcases h.next y hy x hx with h1 | h1 | h1
    · exact h1
    · simp at h1
    · exact absurd h1 hb

/-- What waits is to be left out. -/
theorem FoundW.old {nx : Nat → List Nat} {b a c : Nat} {F : Nat → Prop} {W : List Nat} (h : FoundW nx b a F (W ++ [c])) (hc : F c ∨ c = b) : FoundW nx b a F W := by
  refine ⟨h.sound, fun x hx => h.waits x (mem_snoc.mpr (.inl hx)), ?_, fun x hx y hy => ?_⟩
  · rcases h.first with h1 | h1 | h1
    · exact .inl h1
    · rcases mem_snoc.mp h1 with h2 | rfl
      · exact .inr (.inl h2)
      · exact hc.elim .inl fun e => .inr (.inr e)
    · exact .inr (.inr h1)
  · rcases h.next x hx y hy with h1 | h1 | h1
    · exact .inl h1
    · rcases mem_snoc.mp h1 with h2 | rfl
      · exact .inr (.inl h2)
      · exact hc.elim .inl fun e => .inr (.inr e)
    · exact .inr (.inr h1)

/-- What waits is found now. -/
theorem FoundW.new {nx : Nat → List Nat} {b a c : Nat} {F F' : Nat → Prop} {W : List Nat} (h : FoundW nx b a F (W ++ [c])) (hcb : c ≠ b) (hF : ∀ x, F' x ↔ F x ∨ x = c) : FoundW nx b a F' (W ++ nx c) := by
  have hc : WayW nx b a c := (h.waits c (mem_snoc.mpr (.inr rfl))).resolve_left hcb
  refine ⟨fun x hx => ?_, fun x hx => ?_, ?_, fun x hx y hy => ?_⟩
  · rcases (hF x).mp hx with h1 | rfl
    · exact h.sound x h1
    · exact hc
  · rcases List.mem_append.mp hx with h1 | h1
    · exact h.waits x (mem_snoc.mpr (.inl h1))
    · by_cases e : x = b
      · exact .inl e
      · exact .inr (hc.step h1 e)
  · rcases h.first with h1 | h1 | h1
    · exact .inl ((hF a).mpr (.inl h1))
    · rcases mem_snoc.mp h1 with h2 | h2
      · exact .inr (.inl (List.mem_append.mpr (.inl h2)))
      · exact .inl ((hF a).mpr (.inr h2))
    · exact .inr (.inr h1)
  · rcases (hF x).mp hx with h0 | rfl
    · rcases h.next x h0 y hy with h1 | h1 | h1
      · exact .inl ((hF y).mpr (.inl h1))
      · rcases mem_snoc.mp h1 with h2 | h2
        · exact .inr (.inl (List.mem_append.mpr (.inl h2)))
        · exact .inl ((hF y).mpr (.inr h2))
      · exact .inr (.inr h1)
    · exact .inr (.inl (List.mem_append.mpr (.inr hy)))

/-- What the search answers. -/
def WayPost (ns : List Nd) (a b : Nat) (w : World) (E : Ending) (w' : World) : Prop := ∃ F fl, E = .returned (.slice (some ⟨F, 0, none⟩) ns.length ns.length) ∧ w.heap.size ≤ F ∧ FlAt w' F ns.length fl ∧ (∀ i, i < ns.length → (fl i = true ↔ WayW (nextN ns) b a i)) ∧ Below w.heap.size w w'

theorem FlAt.start (w : World) (n : Nat) : FlAt (w.alloc (.cells (madeCells #[.bool false] n) 4)) w.heap.size n (fun _ => false) := by
  refine ⟨_, heap_alloc_new w _, by simp [madeCells], fun i hi => ?_⟩
  simp [madeCells, hi, Nat.mod_one]

set_option maxRecDepth 100000 in
set_option maxHeartbeats 4000000 in
theorem l12Reach_any (q a b g cap B : Nat) (ns : List Nd) (w : World) (hD : PtsOk q ns) (hle : ns.length ≤ 61) (ha : a < ns.length) (hg : g < w.heap.size) (hP : PRow w B (.slice (some ⟨g, 0, none⟩) ns.length cap) ns) :
    Calls Tryz.prog 52 #[.slice (some ⟨g, 0, none⟩) ns.length cap, .int .i64 a, .int .i64 b] w (WayPost ns a b w) := by
  have hmk := run_make_row' (P := Tryz.prog) 73 4 (.bool false) 1 Tryz.underlying73 Tryz.infoBool rfl .i64 .i64 ns.length (by omega) (by omega) w
  have hfl := FlAt.start w ns.length
  have hbw := (Below.refl w.heap.size w).alloc (Nat.le_refl _) (.cells (madeCells #[.bool false] ns.length) 4)
  have hz1 : (w.alloc (.cells (madeCells #[.bool false] ns.length) 4)).heap.size = w.heap.size + 1 := by simp
  generalize w.alloc (.cells (madeCells #[.bool false] ns.length) 4) = w1 at hmk hfl hbw hz1
  have hb2 := (Below.refl w1.heap.size w1).alloc (Nat.le_refl _) (.cells #[.int .i64 (a : Int)] 3)
  have hrow0 : RowI (w1.alloc (.cells #[.int .i64 (a : Int)] 3)) w.heap.size (.slice (some ⟨w1.heap.size, 0, none⟩) 1 1) [(a : Int)] := World.ownsRow_lit (base := w.heap.size) (e := 3) (size := 1) w1 #[.int .i64 (a : Int)] 1 (by omega) (by simp [maxLen]) rfl
  have hf2 := hfl.keep (hb2.block w.heap.size (by omega))
  have hbw2 := hbw.trans (hb2.mono (by omega))
  have HST : Hid (∃ (W : List Nat) (fl : Nat → Bool), lenW (.slice (some ⟨w1.heap.size, 0, none⟩) 1 1) = W.length ∧ RowI (w1.alloc (.cells #[.int .i64 (a : Int)] 3)) w.heap.size (.slice (some ⟨w1.heap.size, 0, none⟩) 1 1) (intsW W) ∧ FlAt (w1.alloc (.cells #[.int .i64 (a : Int)] 3)) w.heap.size ns.length fl ∧ FoundW (nextN ns) b a (fun x => x < ns.length ∧ fl x = true) W ∧ (∀ x ∈ W, x < ns.length) ∧ W.length + 2 * ((List.range ns.length).filter fun i => !fl i).length ≤ 200 ∧ Below w.heap.size w (w1.alloc (.cells #[.int .i64 (a : Int)] 3))) := by
    refine ⟨[a], fun _ => false, rfl, hrow0, hf2, FoundW.start _ _ _ (fun x h => by simp at h), ?_, ?_, hbw2⟩
    · intro x hx
      have : x = a := by simpa using hx
      omega
    have h2 : ((List.range ns.length).filter fun i => !(fun _ => false : Nat → Bool) i).length ≤ ns.length := by
      have := List.length_filter_le (fun i => !(fun _ => false : Nat → Bool) i) (List.range ns.length)
      simpa using this
    have h1 : [a].length = 1 := rfl
    rw [h1]
    omega
  rw [hz1] at HST
  have HP := Lib.hid hP
  have HD := Lib.hid hD
  have HZ1 := Lib.hid hz1
  clear hP hD hrow0 hf2 hfl hb2 hbw hbw2 hz1
  go_enter Tryz.func52, Tryz.ntmps52
  go_wp2_with fail
  try rw [HZ1.out]
  go_loopw [8] (fun p wr => Hid (∃ (W : List Nat) (fl : Nat → Bool), lenW p = W.length ∧ RowI wr w.heap.size p (intsW W) ∧ FlAt wr w.heap.size ns.length fl ∧ FoundW (nextN ns) b a (fun x => x < ns.length ∧ fl x = true) W ∧ (∀ x ∈ W, x < ns.length) ∧ W.length + 2 * ((List.range ns.length).filter fun i => !fl i).length ≤ 200 ∧ Below w.heap.size w wr)) (fun p wr => 3 * offs wr w.heap.size ns.length + lenW p)
  case atStart => exact HST
  case round =>
    clear HST hmk
    obtain ⟨W, fl, hlw, hrow, hfl, hF, hWn, hcnt, hb⟩ := hrel.out
    have hbz := hb.size
    have HFL2 := Lib.hid hfl
    have HFD := Lib.hid hF
    have HWN := Lib.hid hWn
    have HCNT := Lib.hid hcnt
    have hw200 : W.length ≤ 200 := by omega
    by_cases hW : W = []
    · subst hW
      obtain ⟨A, c, hv⟩ := hrow.slice
      have hl0 : (intsW []).length = 0 := rfl
      rw [hl0] at hv
      subst hv
      clear hrow hfl hF hWn hcnt hrel
      go_wp2_with fail
      go_ret
      exact ⟨w.heap.size, fl, rfl, Nat.le_refl _, HFL2.out, fun i hi => ⟨fun h => (HFD.out.last i).mp ⟨hi, h⟩, fun h => ((HFD.out.last i).mpr h).2⟩, hb⟩
    · obtain ⟨V, x, rfl⟩ := snoc_of hW
      obtain ⟨A, c, hv⟩ := hrow.slice
      have hrow2 : RowI wr w.heap.size (.slice A ((intsW V).length + 1) c) (intsW V ++ [(x : Int)]) := by
        have := hrow
        rw [hv, intsW_snoc] at this
        simpa using this
      rw [intsW_length, List.length_append, List.length_cons, List.length_nil] at hv
      obtain ⟨hshort, g', hA, hlc, hcm, hcell⟩ := RowI.short hrow2
      subst hA
      rw [intsW_length] at hshort hlc hcell
      unfold maxLen at hcm
      rw [List.length_append, List.length_cons, List.length_nil] at hw200
      have hxn : x < ns.length := hWn x (by simp)
      have hfb := hfl.cell hxn
      have hsf := hfl.soft x
      have hslc : ∀ W, (Instr.sliceAt 23 (.slice (some ⟨g', 0, none⟩) (V.length + 1) c) none (some (.int .i64 (V.length : Int))) none).run Tryz.prog W = .ok (.slice (some ⟨g', 0, none⟩) V.length c) W := by
        intro W
        have he : Tryz.prog.elem 23 = 3 := by kernel_rfl
        have hz : (sizeOf 3).run Tryz.prog W = .ok 1 W := by first | exact Tryz.sizeOf3 W | simp [Tryz.sizeOf3] | kernel_rfl
        rw [run_sliceAt_slice W 23 _ _ _ _ (by kernel_rfl), run_slice_h W 23 (some ⟨g', 0, none⟩) (V.length + 1) c (by kernel_rfl) .i64 (V.length : Int) (by omega) (by omega), he, hz]
        simp [sliced, Addr.add]
      have HSH := Lib.hid hshort
      have hl1 : ((V.length : Int) + 1 - 1) = (V.length : Int) := by omega
      clear hshort hrow hrow2 hfl hF hWn hcnt hW hlw hrel
      subst hv
      by_cases hxb : x = b
      · have hdx : decide ((x : Int) = (b : Int)) = true := decide_eq_true (by omega)
        go_wp2_with fail
        refine ⟨⟨V, fl, rfl, HSH.out, HFL2.out, HFD.out.old (.inr hxb), fun x hx => HWN.out x (List.mem_append.mpr (.inl hx)), ?_, hb⟩, ?_⟩
        · have := HCNT.out
          rw [List.length_append] at this
          omega
        · simp only [lenW]
          omega
      have hdx : decide ((x : Int) = (b : Int)) = false := decide_eq_false (by omega)
      cases hflb : fl x
      · rw [hflb] at hfb
        have hFP := HFL2.out.put hxn
        have hap := HFL2.out.apart HSH.out
        have hgS : wr.grownBy (wr.setCell ⟨w.heap.size, x, none⟩ (.bool true)) (some w.heap.size) := ⟨rfl, rfl, rfl, by simp [World.setCell], fun k hk hne => heap_setCell_other _ _ _ _ (fun e => hne (by rw [e]))⟩
        have hRS : RowI (wr.setCell ⟨w.heap.size, x, none⟩ (.bool true)) w.heap.size (.slice (some ⟨g', 0, none⟩) V.length c) (intsW V) := by
          have := HSH.out.own.kept hgS (.inr hap)
          exact this
        have hbS : Below w.heap.size w (wr.setCell ⟨w.heap.size, x, none⟩ (.bool true)) := ⟨hb.os, hb.tape, hb.output, by have := hgS.size; omega, fun k hk => (heap_setCell_other _ _ _ _ (by simp; omega)).trans (hb.block k hk)⟩
        obtain ⟨e, he⟩ : ∃ e, ns[x]? = some e := ⟨ns[x], List.getElem?_eq_getElem hxn⟩
        obtain ⟨u2, ⟨-, -, -, -, c5⟩, hu2⟩ := (HP.out.below hbS).cells he
        have HN2 := Lib.hid (hu2.row (nextN_two HD.out he))
        have HNE := Lib.hid (nextN_ints HD.out he)
        have he2 := nextN_two HD.out he
        have HRS := Lib.hid hRS
        have HFP := Lib.hid hFP
        have hbSz := hbS.size
        clear hFP hgS hRS he hu2
        go_wp2_with (at_builtin; refine wpList_append_rows rfl _ _ rfl w.heap.size B _ _ (intsW V) e.next (by rfl) rfl HRS.out HN2.out ?rb1 ?rb2 ?_)
        try (case rb1 => rw [intsW_length]; omega)
        try (case rb2 => omega)
        intro v' w' hr' hgr'
        have hb' := hbS.grown hgr' (by omega) (fun k hk => ((RowI.own HRS.out).lt k hk).1)
        have hFL' := HFP.out.keep (hgr'.block w.heap.size (by have := hgr'.size; have := hb.size; have h9 := HFP.out.cell hxn; obtain ⟨cs9, h10, _⟩ := HFP.out; exact heap_lt h10) (fun e => hap e.symm))
        go_wp2_with fail
        obtain ⟨A', c', hv'⟩ := hr'.slice
        have hlv : lenW v' = (V ++ nextN ns x).length := by
          rw [hv', List.length_append, List.length_append, ← HNE.out.1, intsW_length, intsW_length]
          rfl
        have hne2 : (nextN ns x).length ≤ 2 := by rw [← intsW_length, HNE.out.1]; exact he2
        have hcs := count_set fl x hflb ns.length hxn
        refine ⟨⟨V ++ nextN ns x, setFl fl x, hlv, by rw [intsW_append, HNE.out.1]; exact hr', hFL', HFD.out.new hxb (fun y => ?_), ?_, ?_, hb'⟩, ?_⟩
        · unfold setFl
          by_cases hyx : y = x
          · subst hyx
            simp [hxn]
          · simp [hyx]
        · intro y hy
          rcases List.mem_append.mp hy with hy | hy
          · exact HWN.out y (List.mem_append.mpr (.inl hy))
          · exact HNE.out.2 y hy
        · have := HCNT.out
          rw [List.length_append] at this ⊢
          simp only [List.length_cons, List.length_nil] at this
          omega
        · rw [hlv, hFL'.offs, HFL2.out.offs, List.length_append]
          simp only [lenW]
          omega
      · rw [hflb] at hfb
        go_wp2_with fail
        refine ⟨⟨V, fl, rfl, HSH.out, HFL2.out, HFD.out.old (.inl ⟨hxn, hflb⟩), fun x hx => HWN.out x (List.mem_append.mpr (.inl hx)), ?_, hb⟩, ?_⟩
        · have := HCNT.out
          rw [List.length_append] at this
          omega
        · simp only [lenW]
          omega

end Go.Proofs.YtfkhgdbnjcdlmaaGreatDoor
