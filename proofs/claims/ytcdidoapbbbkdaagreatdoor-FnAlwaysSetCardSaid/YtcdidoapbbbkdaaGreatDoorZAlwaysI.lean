/-
  impl.AlwaysSet: the sets at a point, listed.
-/
import Derived.Test.YtcdidoapbbbkdaaGreatDoorZFlowA
import Derived.Test.YtcdidoapbbbkdaaGreatDoorZGrX
namespace Go.Proofs.YtcdidoapbbbkdaaGreatDoor.flowAll
open Go.RowKit Go.Deep
set_option linter.unusedVariables false

/-- What is listed. -/
def Rel (ts : List Int) (ns : List Nd) (k v : Nat) : Prop := v < ts.length ∧ ¬ MissB ts ns k v

set_option maxRecDepth 100000 in
set_option maxHeartbeats 4000000 in
theorem analysis_any (ts : List Int) (ns : List Nd) (q C F hi : Nat) (A : Option Addr) (c : Nat) (ah bk : Nat → Nat) (w : World) (h : FlowsIn ts ns C F hi A c ah bk w) (hD : PtsOk q ns) (hA : AllTyped ts ns)
    (hTab : TabAt 0 Lib.deBruijn64tab w) (hg : 0 < w.heap.size) :
    Calls Tryz.prog 21 #[.pointer (some ⟨F, 0, none⟩)] w (Post ts ns w) := by
  have hw := fun W hW hT hG => walk ts ns q C F hi A c ah bk W hW hD hA hT hG
  have hmf : ∀ (fn : Fn) (first cap : Array Value) (w : World), (Instr.makeFunc fn first cap).run Tryz.prog w = .ok (.func fn first cap) w := fun _ _ _ _ => rfl
  have HW := Lib.hid hw
  have HF := Lib.hid h
  clear hw h hD hA
  go_enter Tryz.func21, Tryz.ntmps21
  go_wp2_with fail
  generalize hw0 : w.alloc (.cells #[.int .u64 0, .int .u64 0, .int .u64 0, .int .u64 0, .int .u64 0, .int .u64 0, .int .u64 0, .int .u64 0, .int .u64 0, .int .u64 0, .int .u64 0, .int .u64 0, .int .u64 0, .int .u64 0, .int .u64 0, .int .u64 0, .int .u64 0, .int .u64 0, .int .u64 0, .int .u64 0, .int .u64 0, .int .u64 0, .int .u64 0, .int .u64 0, .int .u64 0, .int .u64 0, .int .u64 0, .int .u64 0, .int .u64 0, .int .u64 0, .int .u64 0, .int .u64 0, .int .u64 0, .int .u64 0, .int .u64 0, .int .u64 0, .int .u64 0, .int .u64 0, .int .u64 0, .int .u64 0, .int .u64 0, .int .u64 0, .int .u64 0, .int .u64 0, .int .u64 0, .int .u64 0, .int .u64 0, .int .u64 0, .int .u64 0, .int .u64 0, .int .u64 0, .int .u64 0, .int .u64 0, .int .u64 0, .int .u64 0, .int .u64 0, .int .u64 0, .int .u64 0, .int .u64 0, .int .u64 0, .int .u64 0] 68) = w0
  have hbw : Below w.heap.size w w0 := by rw [← hw0]; exact (Below.refl w.heap.size w).alloc (Nat.le_refl _) _
  have hBX : w0.heap[w.heap.size]? = some (.cells #[.int .u64 0, .int .u64 0, .int .u64 0, .int .u64 0, .int .u64 0, .int .u64 0, .int .u64 0, .int .u64 0, .int .u64 0, .int .u64 0, .int .u64 0, .int .u64 0, .int .u64 0, .int .u64 0, .int .u64 0, .int .u64 0, .int .u64 0, .int .u64 0, .int .u64 0, .int .u64 0, .int .u64 0, .int .u64 0, .int .u64 0, .int .u64 0, .int .u64 0, .int .u64 0, .int .u64 0, .int .u64 0, .int .u64 0, .int .u64 0, .int .u64 0, .int .u64 0, .int .u64 0, .int .u64 0, .int .u64 0, .int .u64 0, .int .u64 0, .int .u64 0, .int .u64 0, .int .u64 0, .int .u64 0, .int .u64 0, .int .u64 0, .int .u64 0, .int .u64 0, .int .u64 0, .int .u64 0, .int .u64 0, .int .u64 0, .int .u64 0, .int .u64 0, .int .u64 0, .int .u64 0, .int .u64 0, .int .u64 0, .int .u64 0, .int .u64 0, .int .u64 0, .int .u64 0, .int .u64 0, .int .u64 0] 68) := by rw [← hw0]; exact heap_alloc_new w _
  have hzw : w0.heap.size = w.heap.size + 1 := by rw [← hw0]; simp
  clear hw0
  refine (HW.out w0 (HF.out.keep hbw) (tab_below hTab hg hbw) (by omega)).mono ?_
  rintro E w1 ⟨cs, kn, rfl, hcz, hcc, hflo, hb1⟩
  have hr1 := (hb1.block w.heap.size (by omega)).trans hBX
  have hs1 := hb1.size
  have hth := there_row hr1 (n := 61) rfl
  have hu := Tryz.underlying68
  have hsz : (Tryz.prog.info? 68).map (·.size) = some 61 := by kernel_rfl
  have hone : cs.all (·.oneCell') = true := by
    rw [Array.all_eq_true_iff_forall_mem]
    intro u hu
    exact sets_one hcz kn hcc u (Array.mem_toList_iff.mpr hu)
  have his : (Tryz.prog.info? 68).map (·.size) = some cs.size := by rw [hsz, hcz]
  have hth2 : w1.there w.heap.size 0 cs.size := by rw [hcz]; exact hth
  have hout := heap_setCells cs.toList 0 w1 _ hr1 (by rw [show cs.toList.length = 61 by simpa using hcz]; exact Nat.le_refl 61)
  rw [setN_all _ cs (by rw [hcz]; rfl)] at hout
  have HFIN : Hid (Post ts ns w (.returned (.agg cs)) (w1.setCells w.heap.size 0 cs.toList)) := ⟨cs, kn, rfl, hcz, hcc, hflo, below_setCells (hbw.trans (hb1.mono (by omega))) (Nat.le_refl _) (by omega)⟩
  have HOUT := Lib.hid hout
  clear hout hsz hflo hcc hBX hr1 hb1 hmf
  go_wp2_with (first
    | refine wpList_store_mid rfl 68 _ _ rfl w.heap.size 0 cs rfl rfl hth2 his hone ?_)
  refine bodyPost_ret (v := .agg cs) ?_ rfl HFIN.out
  exact results_one_row rfl Tryz.prog _ _ w.heap.size cs rfl (run_loadVar_row _ _ _ _ cs (0, 0) _ HOUT.out hu rfl his)

theorem lay_known (w : World) (xs : Array Value) (kn : Nat → Nat) (hz : xs.size = 61) (hx : ∀ i, i < 61 → xs[i]? = some (.int .u64 (kn i : Int))) :
    ∃ W4, (storeCells ⟨w.heap.size, 0, none⟩ xs.toList).run Tryz.prog (w.alloc (.cells noSets 68)) = .ok () W4 ∧ Below w.heap.size w W4 ∧ KnAt W4 w.heap.size kn ∧ W4.heap.size = w.heap.size + 1 := by
  have h0 := heap_alloc_new w (.cells noSets 68)
  have hone : xs.all (·.oneCell') = true := by
    rw [Array.all_eq_true_iff_forall_mem]
    intro u hu
    exact sets_one hz kn hx u (Array.mem_toList_iff.mpr hu)
  have s1 := store_mid xs h0 (o := 0) (by rw [hz]; exact Nat.le_refl 61) hone
  have h1 := heap_setCells xs.toList 0 _ _ h0 (by rw [show xs.toList.length = 61 by simpa using hz]; exact Nat.le_refl 61)
  rw [setN_all _ xs (by rw [hz]; rfl)] at h1
  refine ⟨_, s1, below_setCells ((Below.refl w.heap.size w).alloc (Nat.le_refl _) _) (Nat.le_refl _) (by simp), ⟨xs, h1, hz, hx⟩, by rw [size_setCells]; simp⟩

/-- A number is in the set at a point if it is to be listed. -/
theorem rel_bit {ts : List Int} {ns : List Nd} {q k : Nat} {kn : Nat → Nat} (h : FloIn (fun a b => eN ns a b) 0 (fun (_ : Nat) => True) (fun k v => usesN ts ns k v 2 ∧ ¬ setsN ns k v) (fun k v => setsN ns k v) ns.length true kn (fun _ => False)) (hD : PtsOk q ns) (hA : AllTyped ts ns) (hL : ∀ k, k < ns.length → k ≠ 0 → ∃ j, j < k ∧ eN ns j k) (hk61 : k < 61) (hk : k < ns.length) (v : Nat) : (v < 64 ∧ (kn k).testBit v = true) ↔ Rel ts ns k v := by
  have hle : ∀ a b, ((fun a b => eN ns a b)) a b → a < ns.length := fun a b hab => by
    have hab' : b ∈ nextN ns a := hab
    rcases Nat.lt_or_ge a ns.length with h9 | h9
    · exact h9
    · exfalso
      unfold nextN nextP at hab'
      rw [List.getElem?_eq_none h9] at hab'
      simp at hab'
  have h64 : ∀ v, 6 ≤ v → (kn k).testBit v = false := fun v hv => Nat.testBit_lt_two_pow (Nat.lt_of_lt_of_le (h.lt k) (Nat.pow_le_pow_right (by decide) hv : 2 ^ 6 ≤ 2 ^ v))
  have hlast := fun (hv : v < 6) => h.last (fun _ => id) hle (m := k) (v := v) hk hv
  have hts := hA.1
  constructor
  · rintro ⟨_, hb⟩
    have h6 : v < 6 := by
      rcases Nat.lt_or_ge v 6 with h9 | h9
      · exact h9
      · rw [h64 v h9] at hb; cases hb
    have hnm : ¬ MissB ts ns k v := fun hm => by
      have := (hlast h6).mpr hm
      unfold dv at this
      rw [hb] at this
      cases this
    refine ⟨?_, hnm⟩
    rcases Nat.lt_or_ge v ts.length with h9 | h9
    · exact h9
    · exact absurd (MissB.ge hA hL h9 k hk) hnm
  · rintro ⟨hvt, hnm⟩
    have h6 : v < 6 := by omega
    refine ⟨by omega, ?_⟩
    cases hb : (kn k).testBit v
    · exact absurd ((hlast h6).mp (by unfold dv; rw [hb]; rfl)) hnm
    · rfl

set_option maxRecDepth 100000 in
set_option maxHeartbeats 4000000 in
theorem varsAt_any (ts : List Int) (s : Sts) (At As : Option Addr) (ct cs : Nat) (a : Int) (w : World) (hT : IntsV w 0 w.heap.size ts At ct) (hR : RepV w 0 w.heap.size s As cs)
    (hTab : TabAt 0 Lib.deBruijn64tab w) (hg : 0 < w.heap.size) :
    Calls Tryz.prog 20 #[.agg #[.slice At ts.length ct, .slice As s.len cs], .int .i64 a, .func (.func 21) #[] #[]] w fun E w' => ∃ v l, E = .returned v ∧ RowI w' w.heap.size v l ∧ AnsAt (Rel ts) (validB ts s) s a l ∧ Below w.heap.size w w' := by
  have hb0 := (Below.refl w.heap.size w).alloc (Nat.le_refl _) (.cells #[.slice At ts.length ct, .slice As s.len cs] 26)
  have hz0 : (w.alloc (.cells #[.slice At ts.length ct, .slice As s.len cs] 26)).heap.size = w.heap.size + 1 := by simp
  have HZ := Lib.hid hz0
  have hnil : ∀ W : World, RowI W w.heap.size (.slice none 0 0) [] := fun W => World.ownsRow_nil W w.heap.size 3 1
  cases hok : validB ts s
  · have hS := flowsOf_no ts s At As ct cs _ hok (hT.below hb0 (by simp)) (hR.below hb0 (by simp))
    clear hz0 hok
    go_enter Tryz.func20, Tryz.ntmps20
    go_wp2_with fail
    refine hS.mono ?_
    rintro E w1 ⟨rfl, hb1⟩
    rw [HZ.out] at hb1
    have hb : Below w.heap.size w w1 := hb0.trans (hb1.mono (by omega))
    clear hb1 hS
    go_wp2_with fail
    go_ret
    exact ⟨_, [], rfl, hnil _, .inr ⟨fun h => (by cases h.1), rfl⟩, by first | exact hb | exact hb.drew⟩
  · have hS := flowsOf_yes ts s At As ct cs _ hok (hT.below hb0 (by simp)) (hR.below hb0 (by simp))
    have hA := progPts_allTyped hok
    have hD := progPts_ok s (valid_ok hok).2.1
    have hL := progPts_leads hok
    by_cases hin : 0 ≤ a ∧ a < ((progPts s).length : Int)
    · obtain ⟨h0, h1⟩ := hin
      obtain ⟨k, rfl⟩ : ∃ k : Nat, a = (k : Int) := ⟨a.toNat, by omega⟩
      have hans : ∀ l, IsPathsB (Rel ts (progPts s) k) l → AnsAt (Rel ts) true s (k : Int) l := fun l hl => .inl ⟨rfl, h0, h1, by simpa using hl⟩
      generalize progPts s = ds at hS h1 hA hD hL hans
      generalize s.npts = q at hD
      have hkl : k < ds.length := by omega
      have HD := Lib.hid hD
      have HA := Lib.hid hA
      have HL := Lib.hid hL
      have HANS := Lib.hid hans
      clear hz0 hok hA hD hL hT hR hans
      go_enter Tryz.func20, Tryz.ntmps20
      go_wp2_with fail
      refine hS.mono ?_
      rintro E w1 ⟨C, F, hi, A2, c2, ah, bk, rfl, hF, hfl, hb1⟩
      rw [HZ.out] at hF hb1
      have hb : Below w.heap.size w w1 := hb0.trans (hb1.mono (by omega))
      have hbz := hb.size
      have hgc := hfl.grCell
      have hhas := has_yes C k ds w1 hfl.gr hkl
      have HFL := Lib.hid hfl
      have hk61 : k < 61 := by have := hfl.gr.le; omega
      clear hfl hb1 hS
      go_wp2_with fail
      refine hhas.mono ?_
      rintro E w2 ⟨rfl, hb2⟩
      have HF2 := Lib.hid (HFL.out.keep hb2)
      have hb' := hb.trans (hb2.mono hbz)
      have hbz' := hb'.size
      have han := analysis_any ts ds q C F hi A2 c2 ah bk w2 HF2.out HD.out HA.out (tab_below hTab hg hb') (by omega)
      clear hhas hb2 hgc
      go_wp2_with fail
      refine han.mono ?_
      rintro E w3 ⟨xs, kn, rfl, hxz, hxc, hflo, hb3⟩
      have hb'' := hb'.trans (hb3.mono hbz')
      have HFLO := Lib.hid hflo
      have hxk := hxc k hk61
      have hlist := fun W hT hG => setList_any (kn k) (by have := hflo.lt k; omega) W hT hG
      obtain ⟨W4, s1, hb4, hk4, hz4⟩ := lay_known w3 xs kn hxz hxc
      unfold noSets at s1
      have hb4' := hb''.trans (hb4.mono hb''.size)
      have hz4' := hb4'.size
      have ck := hk4.cell hk61
      have hls := hlist W4 (tab_below hTab hg hb4') (by omega)
      have HB4 := Lib.hid hb4'
      clear han hb3 hflo hlist hxk hb4 hk4 hxc hb4'
      have ki0 : (0 : Int) ≤ (k : Int) := by omega
      have ki1 : (k : Int) < 61 := by omega
      go_wp2_with fail
      refine hls.mono ?_
      rintro E w5 ⟨v, rfl, hrow, hb5⟩
      have HROW := Lib.hid (hrow.mono hz4')
      have HB5 := Lib.hid (HB4.out.trans (hb5.mono hz4'))
      clear hls hrow hb5
      go_wp2_with fail
      go_ret
      refine ⟨v, intsOf (kn k), rfl, HROW.out, HANS.out _ ⟨fun j => (kn k).testBit j, by unfold intsOf; rw [bitsOf_filter], fun v => ?_⟩, HB5.out⟩
      exact rel_bit HFLO.out HD.out HA.out HL.out hk61 hkl v
    · have hr : a < 0 ∨ ((progPts s).length : Int) ≤ a := by
        by_cases h0 : a < 0
        · exact .inl h0
        · rcases Int.lt_or_le a ((progPts s).length : Int) with h1 | h1
          · exact absurd ⟨by omega, h1⟩ hin
          · exact .inr h1
      have hans : AnsAt (Rel ts) true s a [] := .inr ⟨fun h => hin h.2, rfl⟩
      have HANS := Lib.hid hans
      generalize progPts s = ds at hS hr hA
      clear hz0 hok hin hA hT hR hans hD hL
      go_enter Tryz.func20, Tryz.ntmps20
      go_wp2_with fail
      refine hS.mono ?_
      rintro E w1 ⟨C, F, hi, A2, c2, ah, bk, rfl, hF, hfl, hb1⟩
      rw [HZ.out] at hF hb1
      have hb : Below w.heap.size w w1 := hb0.trans (hb1.mono (by omega))
      have hbz := hb.size
      have hgc := hfl.grCell
      have hhas := has_no C a ds w1 hfl.gr hr
      clear hfl hb1 hS hr
      go_wp2_with fail
      refine hhas.mono ?_
      rintro E w2 ⟨rfl, hb2⟩
      have hb' := hb.trans (hb2.mono hbz)
      clear hhas hb2
      go_wp2_with fail
      go_ret
      exact ⟨_, [], rfl, hnil _, HANS.out, by first | exact hb' | exact hb'.drew⟩

set_option maxHeartbeats 1000000 in
theorem implAlwaysSet_any (ts : List Int) (s : Sts) (At As : Option Addr) (ct cs : Nat) (a : Int) (w : World) (hT : IntsV w 0 w.heap.size ts At ct) (hR : RepV w 0 w.heap.size s As cs)
    (hTab : TabAt 0 Lib.deBruijn64tab w) (hg : 0 < w.heap.size) :
    Calls Tryz.prog 6 #[.agg #[.slice At ts.length ct, .slice As s.len cs], .int .i64 a] w fun E w' => ∃ v l, E = .returned v ∧ RowI w' w.heap.size v l ∧ AnsAt (Rel ts) (validB ts s) s a l ∧ Below w.heap.size w w' := by
  have hb0 := (Below.refl w.heap.size w).alloc (Nat.le_refl _) (.cells #[.slice At ts.length ct, .slice As s.len cs] 26)
  have hz0 : (w.alloc (.cells #[.slice At ts.length ct, .slice As s.len cs] 26)).heap.size = w.heap.size + 1 := by simp
  have hv := varsAt_any ts s At As ct cs a _ (hT.below hb0 (by simp)) (hR.below hb0 (by simp)) (tab_below hTab hg hb0) (by rw [hz0]; omega)
  have HZ := Lib.hid hz0
  clear hz0 hT hR
  go_enter Tryz.func6, Tryz.ntmps6
  go_wp2_with fail
  refine hv.mono ?_
  rintro E w1 ⟨v, l, rfl, hrow, hans, hb1⟩
  rw [HZ.out] at hrow hb1
  have HR1 := Lib.hid (hrow.mono (by omega : w.heap.size ≤ w.heap.size + 1))
  have HA1 := Lib.hid hans
  have hb : Below w.heap.size w w1 := hb0.trans (hb1.mono (by omega))
  clear hv hrow hans hb1
  go_wp2_with fail
  go_ret
  exact ⟨v, l, rfl, HR1.out, HA1.out, hb⟩

end Go.Proofs.YtcdidoapbbbkdaaGreatDoor.flowAll
