/-
  The program's lending, made: lendingOf.
-/
import Derived.Test.YtidjphifgemicaaGreatDoorZFlowP
import Derived.Test.YtidjphifgemicaaGreatDoorZLad
import Derived.Test.YtidjphifgemicaaGreatDoorZMaybeY
import Derived.Test.YtidjphifgemicaaGreatDoorZLiveY
namespace Go.Proofs.YtidjphifgemicaaGreatDoor
open Go.RowKit Go.Deep
set_option linter.unusedVariables false

theorem fold_setN (o : Nat) : ∀ (l : List Value) (k : Nat) (cs : Array Value), (l.zipIdx k).foldl (fun cs (p : Value × Nat) => cs.setIfInBounds (o + p.2) p.1) cs = setN cs (o + k) l
  | [], _, _ => rfl
  | v :: l, k, cs => by
    rw [List.zipIdx_cons, List.foldl_cons, fold_setN o l (k + 1)]
    rfl

theorem fill_one {place : Nat → Option (Nat × Nat)} {cells : Array Value} {i off : Nat} {v : Value} {rest : List (Nat × Value)} (hp : place i = some (off, v.cells.size)) (hz : off + v.cells.size ≤ cells.size) : Instr.fill place cells ((i, v) :: rest) = Instr.fill place (setN cells off v.cells.toList) rest := by
  have e : v.cells.zipIdx.foldl (fun cs (p : Value × Nat) => cs.setIfInBounds (off + p.2) p.1) cells = setN cells off v.cells.toList := by
    rw [← Array.foldl_toList, Array.toList_zipIdx, fold_setN off v.cells.toList 0 cells, Nat.add_zero]
  simp only [Instr.fill, hp]
  rw [if_neg (by simp; omega)]
  exact congrArg (fun c => Instr.fill place c rest) e

theorem wpList_build_as {ops : Array Oper} {rest : List Oper} {o : Oper} {a : Act} {w : World} {Q : Exit → Act → World → Prop} (hg : o.guard = none) (t : TypeId) (parts : Array (Nat × Operand)) (ho : o.op = .build t parts) (vs : Array (Nat × Value)) (hv : (parts.map fun (i, x) => (i, a.eval x)) = vs) (v : Value)
    (hr : (Instr.build t vs).run Tryz.prog w = .ok v w) (h : wpList Tryz.prog ops Q rest (a.put o.dst v) w) : wpList Tryz.prog ops Q (o :: rest) a w :=
  wpList_plain hg fun K hK => by
    unfold Oper.wp execOp
    simp only [ho, Sem.run_bind, hv, hr, Result.andThen_ok]
    exact hK _ _ h

/-- The places of the lending's fields. -/
def placesL : List (Nat × Nat) := [(0, 1), (1, 1), (2, 1), (3, 6), (9, 61), (70, 61), (131, 427)]

theorem zeroL : Tryz.zeroCells77 = #[.pointer none] ++ Array.replicate 557 (.int .u64 0) := by kernel_rfl

theorem built_lnd (p x y : Value) : Tryz.prog.built 77 [(0, p), (4, x), (5, y)] = Instr.fill (placesL.toArray[·]?) Tryz.zeroCells77 [(0, p), (4, x), (5, y)] := by kernel_rfl

/-- The cells of a new lending. -/
noncomputable def newL (F : Nat) (xs ys : Array Value) : Array Value := setN (setN (setN Tryz.zeroCells77 0 [.pointer (some ⟨F, 0, none⟩)]) 9 xs.toList) 70 ys.toList

theorem zeroL_size : (Tryz.zeroCells77).size = 558 := by rw [zeroL]; simp

theorem build_lnd (F : Nat) (xs ys : Array Value) (hx : xs.size = 61) (hy : ys.size = 61) (w : World) : (Instr.build 77 #[(0, .pointer (some ⟨F, 0, none⟩)), (4, .agg xs), (5, .agg ys)]).run Tryz.prog w = .ok (.agg (newL F xs ys)) w := by
  refine run_build w 77 _ _ ?_
  show Tryz.prog.built 77 [(0, .pointer (some ⟨F, 0, none⟩)), (4, .agg xs), (5, .agg ys)] = _
  rw [built_lnd]
  have hz := zeroL_size
  rw [fill_one (off := 0) (v := .pointer (some ⟨F, 0, none⟩)) rfl (by rw [hz]; show 0 + 1 ≤ 558; omega)]
  rw [fill_one (off := 9) (v := .agg xs) (by show some (9, 61) = some (9, xs.size); rw [hx]) (by rw [setN_size, hz]; show 9 + xs.size ≤ 558; omega)]
  rw [fill_one (off := 70) (v := .agg ys) (by show some (70, 61) = some (70, ys.size); rw [hy]) (by rw [setN_size, setN_size, hz]; show 70 + ys.size ≤ 558; omega)]
  rfl

theorem fold_arr (o : Nat) (l : Array Value) (n : Nat) (hn : l.size = n) (cs : Array Value) : Array.foldl (fun (cs : Array Value) (x : Value × Nat) => cs.setIfInBounds (o + x.snd) x.fst) cs l.zipIdx 0 n = setN cs o l.toList := by
  have e : l.zipIdx.size = n := by simp [hn]
  rw [← e, ← Array.foldl_toList, Array.toList_zipIdx, fold_setN o l.toList 0 cs, Nat.add_zero]

theorem newL_fold (F : Nat) (xs ys : Array Value) (hx : xs.size = 61) (hy : ys.size = 61) :
    Array.foldl (fun (cs : Array Value) (x : Value × Nat) => cs.setIfInBounds (70 + x.snd) x.fst) (Array.foldl (fun (cs : Array Value) (x : Value × Nat) => cs.setIfInBounds (9 + x.snd) x.fst) ((Tryz.zeroCells77).setIfInBounds 0 (.pointer (some ⟨F, 0, none⟩))) xs.zipIdx 0 61) ys.zipIdx 0 61 = newL F xs ys := by
  rw [fold_arr 70 ys 61 hy, fold_arr 9 xs 61 hx]
  rfl

theorem newL_size (F : Nat) (xs ys : Array Value) : (newL F xs ys).size = 558 := by
  unfold newL
  rw [setN_size, setN_size, setN_size, zeroL_size]

theorem newL_get (F : Nat) (xs ys : Array Value) (hx : xs.size = 61) (hy : ys.size = 61) (j : Nat) : (newL F xs ys)[j]? = if 70 ≤ j ∧ j < 131 then ys[j - 70]? else if 9 ≤ j ∧ j < 70 then xs[j - 9]? else if j = 0 then some (.pointer (some ⟨F, 0, none⟩)) else (Tryz.zeroCells77)[j]? := by
  have hxl : xs.toList.length = 61 := by simpa using hx
  have hyl : ys.toList.length = 61 := by simpa using hy
  unfold newL
  rw [setN_get _ _ _ _ (by rw [setN_size, setN_size, zeroL_size, hyl]; omega), hyl]
  by_cases h1 : 70 ≤ j ∧ j < 70 + 61
  · rw [if_pos h1, if_pos (by omega)]
    simp
  · rw [if_neg h1, if_neg (by omega), setN_get _ _ _ _ (by rw [setN_size, zeroL_size, hxl]; omega), hxl]
    by_cases h2 : 9 ≤ j ∧ j < 9 + 61
    · rw [if_pos h2, if_pos (by omega)]
      simp
    · rw [if_neg h2, if_neg (by omega), setN_get _ _ _ _ (by rw [zeroL_size]; show 0 + 1 ≤ 558; omega)]
      by_cases h3 : j = 0
      · subst h3
        rw [if_pos (by show 0 ≤ 0 ∧ 0 < 0 + 1; omega), if_pos rfl]
        rfl
      · rw [if_neg (by show ¬ (0 ≤ j ∧ j < 0 + 1); omega), if_neg h3]

theorem zeroL_get (j : Nat) (h1 : 1 ≤ j) (h2 : j < 558) : (Tryz.zeroCells77)[j]? = some (.int .u64 0) := by
  rw [zeroL, Array.getElem?_append_right (by show 1 ≤ j; exact h1), Array.getElem?_replicate, if_pos (by show j - 1 < 557; omega)]

section
variable {ts : List Int} {ns : List Nd} {C F hi : Nat} {A : Option Addr} {c : Nat} {ah bk : Nat → Nat} {L m : Nat} {mb lv : Nat → Nat} {a b : World}

theorem LndIn.new (h : FlowsIn ts ns C F hi A c ah bk a) {xs ys : Array Value} (hx : xs.size = 61) (hy : ys.size = 61) (hmb : ∀ i, i < 61 → xs[i]? = some (.int .u64 (mb i : Int))) (hlv : ∀ i, i < 61 → ys[i]? = some (.int .u64 (lv i : Int))) :
    LndIn ts ns C F hi A c ah bk a.heap.size 0 mb lv (a.alloc (.cells (newL F xs ys) 77)) := by
  have hl := h.lt
  have hg := newL_get F xs ys hx hy
  refine ⟨h.keep ((Below.refl _ _).alloc (Nat.le_refl _) _), ⟨_, heap_alloc_new a _, ⟨newL_size _ _ _, ?_, ?_, ?_, fun v hv => ?_⟩, fun i hi => ?_, fun i hi => ?_⟩, by omega, by omega, by omega⟩
  · rw [hg, if_neg (by omega), if_neg (by omega), if_pos rfl]
  · rw [hg, if_neg (by omega), if_neg (by omega), if_neg (by omega), zeroL_get _ (by omega) (by omega)]; rfl
  · rw [hg, if_neg (by omega), if_neg (by omega), if_neg (by omega), zeroL_get _ (by omega) (by omega)]; rfl
  · rw [hg, if_neg (by omega), if_neg (by omega), if_neg (by omega), zeroL_get _ (by omega) (by omega)]; rfl
  · rw [hg, if_neg (by omega), if_pos (by omega), show 9 + i - 9 = i from by omega, hmb i hi]
  · rw [hg, if_pos (by omega), show 70 + i - 70 = i from by omega, hlv i hi]

theorem LndIn.thereK (h : LndIn ts ns C F hi A c ah bk L m mb lv a) : a.there L 131 427 := by
  obtain ⟨cs, h1, h2, _⟩ := h.row
  have hz := h2.size
  intro j hj
  refine ⟨?_, frozen_of_row _ _ _ _ _ h1⟩
  rw [cell_of_block h1, Array.getElem?_eq_getElem (by omega)]
  rfl

/-- What is known is stored. -/
theorem LndIn.known (h : LndIn ts ns C F hi A c ah bk L m mb lv a) {ks : Array Value} {kn : Nat → Nat → Nat} (hz : ks.size = 427) (hk : LRows ks 0 kn) :
    LndIn ts ns C F hi A c ah bk L m mb lv (a.setCells L 131 ks.toList) ∧ ∃ cs, (a.setCells L 131 ks.toList).heap[L]? = some (.cells cs 77 (0, 0)) ∧ cs.size = 558 ∧ LRows cs 131 kn := by
  obtain ⟨cs, h1, h2, h3, h4⟩ := h.row
  have hs := h2.size
  have hl := heap_lt h1
  have hlt := h.lt
  have hfl := h.fl.lt
  have hkl : ks.toList.length = 427 := by simpa using hz
  have hn := heap_setCells ks.toList 131 a cs h1 (by omega)
  have hget : ∀ j, (setN cs 131 ks.toList)[j]? = _ := fun j => setN_get ks.toList cs 131 j (by omega)
  have hout : ∀ j, j < 131 → (setN cs 131 ks.toList)[j]? = cs[j]? := fun j hj => by rw [hget, if_neg (by omega)]
  have ho : ∀ g, g < L → (a.setCells L 131 ks.toList).heap[g]? = a.heap[g]? := fun g hg => heap_setCells_ne _ _ _ _ _ (by omega) (by omega)
  refine ⟨⟨⟨?_, h.fl.gr.kept (ho C hlt.2.1), h.fl.sc.keep (Nat.le_refl _) (Nat.le_refl _) fun p _ hp => World.cell?_of_block (ho p.block (by omega)), by rw [size_setCells]; exact hfl, h.fl.sets⟩, ⟨_, hn, ⟨by rw [setN_size]; exact hs, ?_, ?_, ?_, fun v hv => ?_⟩, fun i hi => ?_, fun i hi => ?_⟩, hlt⟩, _, hn, by rw [setN_size]; exact hs, fun k hk' v hv => ?_⟩
  · rw [ho F hlt.1]; exact h.fl.row
  · rw [hout _ (by omega)]; exact h2.fl
  · rw [hout _ (by omega)]; exact h2.made
  · rw [hout _ (by omega)]; exact h2.uniq
  · rw [hout _ (by omega)]; exact h2.from_ v hv
  · rw [hout _ (by omega)]; exact h3 i hi
  · rw [hout _ (by omega)]; exact h4 i hi
  · rw [hget, if_pos (by rw [hkl]; omega), show 131 + (k * 7 + v) - 131 = k * 7 + v from by omega]
    have := hk k hk' v hv
    rw [Nat.zero_add] at this
    simpa using this
end

theorem both_range {W : World} {B : Nat} (h : W.heap[B]? = some (.cells #[.iface 150 (.agg #[]), .iface 151 (.agg #[])] 157 (0, 0))) : W.rangeAt B 0 [.iface 150 (.agg #[]), .iface 151 (.agg #[])] := by
  intro j v hv
  rw [Nat.zero_add, cell_of_block h]
  simpa using hv

/-- The lending of a valid program, whole. -/
structure Lend (ts : List Int) (ns : List Nd) (C F hi : Nat) (A : Option Addr) (c : Nat) (ah bk : Nat → Nat) (L : Nat) (mb lv : Nat → Nat) (kn : Nat → Nat → Nat) (w : World) : Prop where
  ln : LndIn ts ns C F hi A c ah bk L ns.length mb lv w
  row : ∃ cs, w.heap[L]? = some (.cells cs 77 (0, 0)) ∧ cs.size = 558 ∧ LRows cs 131 kn
  mbIn : FloIn (fun a b => eN ns a b) 0 (fun _ => False) (fun k v => setsN ns k v) (fun k v => usesN ts ns k v 2) ns.length false mb (fun _ => False)
  lvIn : FloIn (fun a b => eN ns b a) 0 (fun _ => False) (fun (k v : Nat) => ∃ d, ns[k]? = some d ∧ useI ts d v ≠ 0) (fun k v => setsN ns k v) ns.length false lv (fun _ => False)
  knIn : LIn (eN ns) (genL ns) (handL ts ns) ns.length kn (fun _ => False)

/-- What lendingOf answers for a valid program. -/
def LendPost (ts : List Int) (ds : List Nd) (w : World) (E : Ending) (w' : World) : Prop :=
  ∃ (C F hi : Nat) (A : Option Addr) (c : Nat) (ah bk : Nat → Nat) (L : Nat) (mb lv : Nat → Nat) (kn : Nat → Nat → Nat), E = .returned (.tuple #[.pointer (some ⟨L, 0, none⟩), .bool true]) ∧ Lend ts ds C F hi A c ah bk L mb lv kn w' ∧ w.heap.size ≤ L ∧ Below w.heap.size w w'

set_option maxRecDepth 100000 in
set_option maxHeartbeats 4000000 in
theorem lendingOf_yes (ts : List Int) (s : Sts) (At As : Option Addr) (ct cs : Nat) (w : World) (hok : validB ts s = true) (hT : IntsV w 0 w.heap.size ts At ct) (hR : RepV w 0 w.heap.size s As cs)
    (hTab : TabAt 0 Lib.deBruijn64tab w) (hg : 0 < w.heap.size) :
    Calls Tryz.prog 50 #[.agg #[.slice At ts.length ct, .slice As s.len cs]] w (LendPost ts (progPts s) w) := by
  have hb0 := (Below.refl w.heap.size w).alloc (Nat.le_refl _) (.cells #[.slice At ts.length ct, .slice As s.len cs] 31)
  have hz0 : (w.alloc (.cells #[.slice At ts.length ct, .slice As s.len cs] 31)).heap.size = w.heap.size + 1 := by simp
  have HZ := Lib.hid hz0
  have hS := flowsOf_yes ts s At As ct cs _ hok (hT.below hb0 (by simp)) (hR.below hb0 (by simp))
  have hA := progPts_allTyped hok
  have hD := progPts_ok s (valid_ok hok).2.1
  generalize progPts s = ds at *
  generalize s.npts = q at hD
  have HD := Lib.hid hD
  have HA := Lib.hid hA
  have hbl0 : Hid (∀ w9 : World, (Instr.build 74 #[]).run Tryz.prog w9 = .ok (.agg #[.int .u64 0, .int .u64 0, .int .u64 0, .int .u64 0, .int .u64 0, .int .u64 0, .int .u64 0]) w9) := fun w9 => run_build w9 74 _ _ (by kernel_rfl)
  clear hz0 hok hA hD hT hR
  go_enter Tryz.func50, Tryz.ntmps50
  go_wp2_with fail
  refine hS.mono ?_
  rintro E w1 ⟨C, F, hi, A2, c2, ah, bk, rfl, hF, hfl, hb1⟩
  rw [HZ.out] at hF hb1
  have hb : Below w.heap.size w w1 := hb0.trans (hb1.mono (by omega))
  have hbz := hb.size
  have HFL := Lib.hid hfl
  have hle := hfl.gr.le
  have hmay := flowSome.analysis_any ts ds q C F hi A2 c2 ah bk w1 hfl HD.out HA.out (tab_below hTab hg hb) (by omega)
  have HB1 := Lib.hid hb
  have HLEN := Lib.hid hle
  clear hfl hb1 hS hb0 hb hle
  go_wp2_with fail
  refine hmay.mono ?_
  rintro E w2 ⟨xs, mb, rfl, hxz, hxc, hxf, hb2⟩
  have HFL2 := Lib.hid (HFL.out.keep hb2)
  have HB2 := Lib.hid (HB1.out.trans (hb2.mono hbz))
  have HXC := Lib.hid hxc
  have HFM := Lib.hid hxf
  have hbz2 := HB2.out.size
  have hliv := flowLive.analysis_any ts ds q C F hi A2 c2 ah bk w2 HFL2.out HD.out HA.out (tab_below hTab hg HB2.out) (by omega)
  clear hmay hb2 hxc hxf
  go_wp2_with fail
  refine hliv.mono ?_
  rintro E w3 ⟨ys, lv, rfl, hyz, hyc, hyf, hb3⟩
  have HFL3 := Lib.hid (HFL2.out.keep hb3)
  have HB3 := Lib.hid (HB2.out.trans (hb3.mono hbz2))
  have HFV := Lib.hid hyf
  have hbz3 := HB3.out.size
  have hbld := build_lnd F xs ys hxz hyz
  have HLN := Lib.hid (LndIn.new HFL3.out hxz hyz HXC.out hyc)
  have HBa := Lib.hid (HB3.out.alloc (by omega) (.cells (newL F xs ys) 77))
  have HWL : Hid (w.heap.size ≤ w3.heap.size) := hbz3
  have hLa : w3.heap.size < (w3.alloc (.cells (newL F xs ys) 77)).heap.size := by simp
  have HLA := Lib.hid hLa
  clear hliv hb3 hyc hyf hbz hbz2 hbz3 hLa
  have HBLD := Lib.hid hbld
  clear hbld
  go_upto_region 5 with (first | ((with_reducible show wpList _ _ _ _ _ _); refine wpList_build_as rfl 77 _ rfl #[(0, .pointer (some ⟨F, 0, none⟩)), (4, .agg xs), (5, .agg ys)] (by first | kernel_rfl | rfl | (simp; done)) (.agg (newL F xs ys)) ?_ ?_; exact HBLD.out _))
  clear hxz hyz HBLD
  generalize w3.alloc (.cells (newL F xs ys) 77) = w4 at *
  have HF4 := HLN.out.fl
  have cF := HF4.grCell
  have cN := HF4.gr.count
  generalize w3.heap.size = L at *
  clear HF4 HFL HFL2 HFL3 HXC HB1 HB2 HB3
  go_wp2_with fail
  clear cF cN
  go_loopw [30] (fun i wr => ∃ k : Nat, i = .int .i64 k ∧ k ≤ ds.length ∧ Hid (LndIn ts ds C F hi A2 c2 ah bk L k mb lv wr) ∧ Hid (Below w.heap.size w wr)) (fun i _ => ds.length - (intOf i).toNat)
  case atStart => exact ⟨0, rfl, Nat.zero_le _, HLN, HBa⟩
  case round =>
    clear HLN HBa HLA
    obtain ⟨k, rfl, hk, HL, HB⟩ := hrel
    have hle := HLEN.out
    by_cases hlt : k < ds.length
    · obtain ⟨d, hd⟩ : ∃ d, ds[k]? = some d := ⟨ds[k], List.getElem?_eq_getElem hlt⟩
      have had := addLoan_any ts ds C F hi A2 c2 ah bk L mb lv k d wr HL.out HA.out hd
      clear hd
      go_wp2_with fail
      refine had.mono ?_
      rintro E w5 ⟨rfl, hl5, hb5⟩
      have HL5 := Lib.hid hl5
      have HB5 := Lib.hid (HB.out.trans (hb5.mono HWL.out))
      clear had hl5 hb5 HL HB
      go_wp2_with fail
      refine ⟨⟨k + 1, by simp, by omega, HL5, HB5⟩, ?_⟩
      simp only [intOf]
      omega
    · have hke : k = ds.length := by omega
      have kd : decide (k < ds.length) = false := decide_eq_false hlt
      have HL2 : Hid (LndIn ts ds C F hi A2 c2 ah bk L ds.length mb lv wr) := by rw [← hke]; exact HL
      clear HL hke hlt hk
      have hnew := Lib.hid (heap_alloc_new wr (.cells #[.iface 150 (.agg #[]), .iface 151 (.agg #[])] 157))
      have HL6 := Lib.hid (HL2.out.keep ((Below.refl wr.heap.size wr).alloc (Nat.le_refl _) (.cells #[.iface 150 (.agg #[]), .iface 151 (.agg #[])] 157)))
      have HB6 := Lib.hid (HB.out.alloc HB.out.size (.cells #[.iface 150 (.agg #[]), .iface 151 (.agg #[])] 157))
      have HLB8 : Hid (L < wr.heap.size) := HL2.out.ltW
      clear HL2 HB
      go_upto_region 11 with fail
      generalize wr.alloc (.cells #[.iface 150 (.agg #[]), .iface 151 (.agg #[])] 157) = w6 at *
      generalize wr.heap.size = B8 at *
      have hS11 : (fun w' => LndIn ts ds C F hi A2 c2 ah bk L ds.length mb lv w' ∧ w'.heap[B8]? = some (.cells #[.iface 150 (.agg #[]), .iface 151 (.agg #[])] 157 (0, 0)) ∧ Below w.heap.size w w') w6.drew := ⟨HL6.out.keep (Below.refl _ _).drew, hnew.out, HB6.out.drew⟩
      clear HL6 hnew HB6 kd
      refine wp_region_held_drew (S := fun w' => LndIn ts ds C F hi A2 c2 ah bk L ds.length mb lv w' ∧ w'.heap[B8]? = some (.cells #[.iface 150 (.agg #[]), .iface 151 (.agg #[])] 157 (0, 0)) ∧ Below w.heap.size w w') (by kernel_rfl) hS11 (fun hHeld => ?_)
      clear hS11
      generalize w6.drew = wd at *
      refine wpAnyH_take (i := 0) (oi := { dst := some 42, op := Op.move (Operand.tmp 6), type := 64, pos := "l4_loans.go:99", after := #[], guard := none }) (v := .pointer (some ⟨L, 0, none⟩)) rfl (by kernel_rfl) (by kernel_rfl) (by kernel_rfl) (fun _ _ _ h => h) (Or.inl ⟨by rfl, fun w hSw => by go_simp⟩) hHeld ?_
      try simp only [Act.put, List.setIfInBounds_toArray, List.set_cons_zero, List.set_cons_succ]
      refine wpAnyH_take (i := 1) (oi := { dst := some 43, op := Op.move (Operand.tmp 4), type := 67, pos := "l4_loans.go:99", after := #[], guard := none }) (v := .pointer (some ⟨F, 0, none⟩)) rfl (by kernel_rfl) (by kernel_rfl) (by kernel_rfl) (fun _ _ _ h => h) (Or.inl ⟨by rfl, fun w hSw => by go_simp⟩) hHeld ?_
      try simp only [Act.put, List.setIfInBounds_toArray, List.set_cons_zero, List.set_cons_succ]
      refine wpAnyH_take (i := 2) (oi := { dst := some 44, op := Op.nilCheck (Operand.tmp 43), type := 0, pos := "l4_loans.go:99", after := #[{ on := 1, ground := Ground.data }], guard := none }) (v := .pointer (some ⟨F, 0, none⟩)) rfl (by kernel_rfl) (by kernel_rfl) (by kernel_rfl) (fun _ _ _ h => h) (Or.inl ⟨by rfl, fun w hSw => by go_simp⟩) hHeld ?_
      try simp only [Act.put, List.setIfInBounds_toArray, List.set_cons_zero, List.set_cons_succ]
      refine wpAnyH_take (i := 3) (oi := { dst := some 45, op := Op.fieldAddr 92 (Operand.tmp 44) 3, type := 0, pos := "l4_loans.go:99", after := #[{ on := 2, ground := Ground.data }], guard := none }) (v := .pointer (some ⟨F, 246, none⟩)) rfl (by kernel_rfl) (by kernel_rfl) (by kernel_rfl) (fun _ _ _ h => h) (Or.inl ⟨by rfl, fun w hSw => by go_simp⟩) hHeld ?_
      try simp only [Act.put, List.setIfInBounds_toArray, List.set_cons_zero, List.set_cons_succ]
      refine wpAnyH_take (i := 4) (oi := { dst := some 46, op := Op.build 74 #[], type := 74, pos := "l4_loans.go:99", after := #[], guard := none }) (v := .agg #[.int .u64 0, .int .u64 0, .int .u64 0, .int .u64 0, .int .u64 0, .int .u64 0, .int .u64 0]) rfl (by kernel_rfl) (by kernel_rfl) (by kernel_rfl) (fun _ _ _ h => h) (Or.inl ⟨by rfl, fun w9 hSw => by have h9 := hbl0.out w9; go_simp⟩) hHeld ?_
      try simp only [Act.put, List.setIfInBounds_toArray, List.set_cons_zero, List.set_cons_succ]
      refine wpAnyH_take (i := 5) (oi := { dst := some 47, op := Op.load 157 (Operand.tmp 8), type := 157, pos := "l4_loans.go:99", after := #[], guard := none }) (v := flowLent.bothV) rfl (by kernel_rfl) (by kernel_rfl) (by kernel_rfl) (fun _ _ _ h => h) (yieldsIf_load_mid (by rfl) _ _ rfl B8 0 rfl [.iface 150 (.agg #[]), .iface 151 (.agg #[])] _ (fun w' h => both_range h.2.1) Tryz.underlying157 rfl (by kernel_rfl)) hHeld ?_
      try simp only [Act.put, List.setIfInBounds_toArray, List.set_cons_zero, List.set_cons_succ]
      refine wpAnyH_take (i := 6) (oi := { dst := some 48, op := Op.makeInterface 157 (Operand.tmp 47), type := 196, pos := "l4_loans.go:99", after := #[{ on := 5, ground := Ground.data }], guard := none }) (v := .iface 157 flowLent.bothV) rfl (by kernel_rfl) (by kernel_rfl) (by kernel_rfl) (fun _ _ _ h => h) (Or.inl ⟨by rfl, fun w hSw => by go_simp⟩) hHeld ?_
      try simp only [Act.put, List.setIfInBounds_toArray, List.set_cons_zero, List.set_cons_succ]
      refine wpAnyH_take (i := 7) (oi := { dst := some 49, op := Op.move (Operand.tmp 6), type := 64, pos := "l4_loans.go:99", after := #[], guard := none }) (v := .pointer (some ⟨L, 0, none⟩)) rfl (by kernel_rfl) (by kernel_rfl) (by kernel_rfl) (fun _ _ _ h => h) (Or.inl ⟨by rfl, fun w hSw => by go_simp⟩) hHeld ?_
      try simp only [Act.put, List.setIfInBounds_toArray, List.set_cons_zero, List.set_cons_succ]
      refine wpAnyH_take (i := 8) (oi := { dst := some 50, op := Op.makeFunc (Fn.func 90) #[Operand.tmp 49] #[], type := 160, pos := "l4_loans.go:99", after := #[{ on := 7, ground := Ground.data }], guard := none }) (v := .func (.func 90) #[.pointer (some ⟨L, 0, none⟩)] #[]) rfl (by kernel_rfl) (by kernel_rfl) (by kernel_rfl) (fun _ _ _ h => h) (Or.inl ⟨by rfl, fun w hSw => by go_simp⟩) hHeld ?_
      try simp only [Act.put, List.setIfInBounds_toArray, List.set_cons_zero, List.set_cons_succ]
      refine wpAnyH_ready (rs := [9]) (by kernel_rfl) (by simp) ?_
      refine AllReadyH.cons (o := { dst := some 51, op := Op.call { callee := Callee.value (Operand.func 89), args := #[Operand.tmp 45, Operand.tmp 46, Operand.tmp 48, Operand.tmp 50], argTypes := #[159, 74, 196, 160] }, type := 75, pos := "l4_loans.go:99", after := #[{ on := 3, ground := Ground.data }, { on := 4, ground := Ground.data }, { on := 6, ground := Ground.data }, { on := 8, ground := Ground.data }], guard := none }) rfl (fun K hK => ?_) AllReadyH.nil
      go_simp
      refine (flowLent.walk ts ds q C F hi A2 c2 ah bk L mb lv _ hHeld.1 HD.out HA.out (tab_below hTab hg hHeld.2.2) (by have := hHeld.2.2.size; omega)).mono ?_
      rintro E wq ⟨kcs, kn, rfl, hkz, hkr, hkl, hbq⟩
      have HKR := Lib.hid hkr
      have HKL := Lib.hid hkl
      have hsz := hHeld.2.2.size
      refine hK.out _ _ ⟨hHeld.1.keep hbq, (hbq.block B8 (heap_lt hHeld.2.1)).trans hHeld.2.1, hHeld.2.2.trans (hbq.mono hsz)⟩ (fun hHeld => ?_)
      clear hK K hbq hkr hkl hsz
      refine wpAnyH_take (i := 10) (oi := { dst := some 52, op := Op.nilCheck (Operand.tmp 42), type := 0, pos := "l4_loans.go:99", after := #[{ on := 0, ground := Ground.data }, { on := 0, ground := Ground.phase }, { on := 1, ground := Ground.phase }, { on := 2, ground := Ground.phase }, { on := 3, ground := Ground.phase }, { on := 4, ground := Ground.phase }, { on := 5, ground := Ground.phase }, { on := 6, ground := Ground.phase }, { on := 7, ground := Ground.phase }, { on := 8, ground := Ground.phase }, { on := 9, ground := Ground.phase }], guard := none }) (v := .pointer (some ⟨L, 0, none⟩)) rfl (by kernel_rfl) (by kernel_rfl) (by kernel_rfl) (fun _ _ _ h => h) (Or.inl ⟨by rfl, fun w hSw => by go_simp⟩) hHeld ?_
      try simp only [Act.put, List.setIfInBounds_toArray, List.set_cons_zero, List.set_cons_succ]
      refine wpAnyH_take (i := 11) (oi := { dst := some 53, op := Op.fieldAddr 77 (Operand.tmp 52) 6, type := 0, pos := "l4_loans.go:99", after := #[{ on := 10, ground := Ground.data }, { on := 0, ground := Ground.phase }, { on := 1, ground := Ground.phase }, { on := 2, ground := Ground.phase }, { on := 3, ground := Ground.phase }, { on := 4, ground := Ground.phase }, { on := 5, ground := Ground.phase }, { on := 6, ground := Ground.phase }, { on := 7, ground := Ground.phase }, { on := 8, ground := Ground.phase }, { on := 9, ground := Ground.phase }], guard := none }) (v := .pointer (some ⟨L, 131, none⟩)) rfl (by kernel_rfl) (by kernel_rfl) (by kernel_rfl) (fun _ _ _ h => h) (Or.inl ⟨by rfl, fun w hSw => by go_simp⟩) hHeld ?_
      try simp only [Act.put, List.setIfInBounds_toArray, List.set_cons_zero, List.set_cons_succ]
      refine wpAnyH_ready (rs := [12]) (by kernel_rfl) (by simp) ?_
      refine AllReadyH.cons (o := { dst := none, op := Op.store 75 (Operand.tmp 53) (Operand.tmp 51), type := 0, pos := "l4_loans.go:99", after := #[{ on := 11, ground := Ground.data }, { on := 9, ground := Ground.data }, { on := 9, ground := Ground.chain }, { on := 0, ground := Ground.phase }, { on := 1, ground := Ground.phase }, { on := 2, ground := Ground.phase }, { on := 3, ground := Ground.phase }, { on := 4, ground := Ground.phase }, { on := 5, ground := Ground.phase }, { on := 6, ground := Ground.phase }, { on := 7, ground := Ground.phase }, { on := 8, ground := Ground.phase }, { on := 9, ground := Ground.phase }], guard := none }) rfl (fun K hK => ?_) AllReadyH.nil
      rw [if_pos (by rfl)]
      refine wp_store_mid _ _ _ rfl L 131 kcs rfl rfl (by rw [hkz]; exact hHeld.1.thereK) (by rw [hkz]; kernel_rfl) (lrows_one hkz HKR.out) ?_
      simp only [Act.put]
      have hkp := hHeld.1.known hkz HKR.out
      have HKP := Lib.hid hkp.2
      refine hK.out _ _ ⟨hkp.1, (heap_setCells_ne _ L B8 131 _ (by have := HLB8.out; omega) (heap_lt hHeld.2.1)).trans hHeld.2.1, below_setCells hHeld.2.2 (by have := HWL.out; omega) hHeld.2.2.size⟩ (fun hHeld => ?_)
      clear hK K hkp
      refine wpAnyH_done (by kernel_rfl) ?_ _
      go_wp2_with fail
      go_ret2
      exact ⟨C, F, hi, A2, c2, ah, bk, L, mb, lv, kn, rfl, ⟨hHeld.1, HKP.out, HFM.out, HFV.out, HKL.out⟩, by have := HWL.out; omega, hHeld.2.2⟩

set_option maxHeartbeats 1000000 in
theorem lendingOf_no (ts : List Int) (s : Sts) (At As : Option Addr) (ct cs : Nat) (w : World) (hv : validB ts s = false) (hT : IntsV w 0 w.heap.size ts At ct) (hR : RepV w 0 w.heap.size s As cs) :
    Calls Tryz.prog 50 #[.agg #[.slice At ts.length ct, .slice As s.len cs]] w fun E w' => E = .returned (.tuple #[.pointer none, .bool false]) ∧ Below w.heap.size w w' := by
  have hb0 := (Below.refl w.heap.size w).alloc (Nat.le_refl _) (.cells #[.slice At ts.length ct, .slice As s.len cs] 31)
  have hS := flowsOf_no ts s At As ct cs _ hv (hT.below hb0 (by simp)) (hR.below hb0 (by simp))
  go_enter Tryz.func50, Tryz.ntmps50
  go_wp2_with fail
  refine hS.mono ?_
  rintro E w1 ⟨rfl, hb1⟩
  have hb : Below w.heap.size w w1 := hb0.trans (hb1.mono (by simp))
  clear hS
  go_wp2_with fail
  go_ret2
  exact ⟨rfl, hb⟩

end Go.Proofs.YtidjphifgemicaaGreatDoor
