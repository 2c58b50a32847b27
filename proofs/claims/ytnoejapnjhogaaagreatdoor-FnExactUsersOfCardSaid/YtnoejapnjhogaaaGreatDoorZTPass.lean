/-
  What is known of an answer behind a point, by the program: the step of the flow.
-/
import Derived.Test.YtnoejapnjhogaaaGreatDoorZTAns
import Derived.Test.YtnoejapnjhogaaaGreatDoorZPerG
import Derived.Test.YtnoejapnjhogaaaGreatDoorZBits
import Derived.Test.YtnoejapnjhogaaaGreatDoorZDwA
import Derived.Deep.DeepCutAuto
import Derived.Deep.RegionHeld3
namespace Go.Proofs.YtnoejapnjhogaaaGreatDoor.tr
open Go.RowKit Go.Deep
set_option linter.unusedVariables false

/-- Some sets are one now. -/
def fillZ (bl : List Nat) (j c : Nat) (x : Nat → Nat) (v : Nat) : Nat := if v ∈ bl.take j then c else x v

theorem fillZ_zero (bl : List Nat) (c : Nat) (x : Nat → Nat) (v : Nat) : fillZ bl 0 c x v = x v := by
  unfold fillZ
  simp

theorem fillZ_next {bl : List Nat} {j b : Nat} (hb : bl[j]? = some b) (c : Nat) (x : Nat → Nat) (v : Nat) : setAt (fillZ bl j c x) b c v = fillZ bl (j + 1) c x v := by
  have hj := (List.getElem?_eq_some_iff.mp hb).1
  have e : bl.take (j + 1) = bl.take j ++ [b] := by
    rw [List.take_add_one, hb]
    rfl
  unfold setAt fillZ
  rw [e]
  simp only [List.mem_append, List.mem_cons, List.not_mem_nil, or_false]
  by_cases h : v = b
  · rw [if_pos h, if_pos (.inr h)]
  · rw [if_neg h]
    by_cases h2 : v ∈ bl.take j
    · rw [if_pos h2, if_pos (.inl h2)]
    · rw [if_neg h2, if_neg (by rintro (h9 | h9); exact h2 h9; exact h h9)]

theorem fillZ_all (U c : Nat) (x : Nat → Nat) {v : Nat} (hv : v < 6) : fillZ (bitsOf U) (bitsOf U).length c x v = if U.testBit v then c else x v := by
  unfold fillZ
  rw [List.take_length]
  have e : v ∈ bitsOf U ↔ U.testBit v = true := by rw [mem_bitsOf]; exact ⟨fun h => h.2, fun h => ⟨by omega, h⟩⟩
  simp only [e]

/-- The cells of what a point does. -/
def efC (ts : List Int) (d : Nd) : List Value := [.int .u64 ((effD ts d).r : Int), .int .u64 ((effD ts d).t : Int), .int .u64 ((effD ts d).c : Int), .int .u64 ((effD ts d).s : Int)]

/-- The step's memory: what is known before (x), the result, what the point does, what is known behind (y). -/
structure PassS (w : World) (B2 B3 : Nat) (ts : List Int) (d : Nd) (x y : Nat → Nat) (wr : World) : Prop where
  be : PerAt wr w.heap.size x
  re : PerAt wr (w.heap.size + 1) (fun _ => 0)
  ef : wr.heap[B2]? = some (.cells (efC ts d).toArray 85 (0, 0))
  bh : PerAt wr B3 y
  below : Below w.heap.size w wr
  ne : w.heap.size + 1 < B2 ∧ B2 < B3

section
variable {w a b : World} {B2 B3 : Nat} {ts : List Int} {d : Nd} {x y : Nat → Nat}

theorem PassS.keep (h : PassS w B2 B3 ts d x y a) (hb : Below a.heap.size a b) : PassS w B2 B3 ts d x y b :=
  ⟨h.be.keep hb, h.re.keep hb, (hb.block _ (heap_lt h.ef)).trans h.ef, h.bh.keep hb, h.below.trans (hb.mono h.below.size), h.ne⟩

theorem PassS.drew (h : PassS w B2 B3 ts d x y a) : PassS w B2 B3 ts d x y a.drew := h.keep (Below.refl _ _).drew

theorem PassS.put (h : PassS w B2 B3 ts d x y a) {i v : Nat} (hi : i < 6) : PassS w B2 B3 ts d x (setAt y i v) (a.setCell ⟨B3, i, none⟩ (.int .u64 (v : Int))) := by
  have hn := h.ne
  exact ⟨h.be.same (heap_setCell_other _ _ _ _ (by show w.heap.size ≠ B3; omega)), h.re.same (heap_setCell_other _ _ _ _ (by show w.heap.size + 1 ≠ B3; omega)), (heap_setCell_other _ _ _ _ (by show B2 ≠ B3; omega)).trans h.ef, h.bh.put hi, below_set h.below (by omega), h.ne⟩

theorem PassS.congr {z : Nat → Nat} (h : PassS w B2 B3 ts d x y a) (e : ∀ v, v < 6 → y v = z v) : PassS w B2 B3 ts d x z a := ⟨h.be, h.re, h.ef, h.bh.congr e, h.below, h.ne⟩

theorem PassS.old (h : PassS w B2 B3 ts d x y a) {k : Nat} {o : Obj} (hk : w.heap[k]? = some o) : a.heap[k]? = some o := (h.below.block k (heap_lt hk)).trans hk
end

set_option maxRecDepth 100000 in
set_option maxHeartbeats 8000000 in
theorem pass_any (q : Nat) (hq : q < 3) (ts : List Int) (ns : List Nd) (C F hi : Nat) (A : Option Addr) (c : Nat) (ah bk : Nat → Nat) (bf bq k : Nat) (x : Nat → Nat) (d : Nd) (w : World) (h : FlowsIn ts ns C F hi A c ah bk w) (hA : AllTyped ts ns) (hd : ns[k]? = some d)
    (hf : w.heap[bf]? = some (.cells #[.pointer (some ⟨F, 0, none⟩)] 77 (0, 0))) (hqb : w.heap[bq]? = some (.cells #[.iface (qT q) (.agg #[])] 132 (0, 0)))
    (hTab : TabAt 0 Lib.deBruijn64tab w) (hg : 0 < w.heap.size) (hx : ∀ v, x v < 2305843009213693952) :
    Calls Tryz.prog 105 #[.int .i64 k, .agg (perC x).toArray, .pointer (some ⟨bf, 0, none⟩), .pointer (some ⟨bq, 0, none⟩)] w fun E w' => E = .returned (.agg (perC (trZ q ts d k x)).toArray) ∧ Below w.heap.size w w' := by
  have hkn := (List.getElem?_eq_some_iff.mp hd).1
  have hle := h.gr.le
  have hk61 : k < 61 := by omega
  have he := effD_ok hA.1 (hA.2 k d hd)
  have ki0 : (0 : Int) ≤ (k : Int) := by omega
  have ki1 : (k : Int) < 61 := by omega
  have hnum := fun h9 => num_ok hA hd h9
  have HNUM := Lib.hid hnum
  have HL := Lib.hid h
  have HTAB := Lib.hid hTab
  have HDK := Lib.hid hd
  have HE := Lib.hid he
  have HX := Lib.hid hx
  have HF := Lib.hid hf
  have HQB := Lib.hid hqb
  have hb0 := ((Below.refl w.heap.size w).alloc (Nat.le_refl _) (.cells (perC x).toArray 61)).alloc (by simp) (.cells #[.int .u64 0, .int .u64 0, .int .u64 0, .int .u64 0, .int .u64 0, .int .u64 0] 61)
  have hp0 := PerAt.new w x
  have hp1 : PerAt ((w.alloc (.cells (perC x).toArray 61)).alloc (.cells #[.int .u64 0, .int .u64 0, .int .u64 0, .int .u64 0, .int .u64 0, .int .u64 0] 61)) w.heap.size x := hp0.keep ((Below.refl _ _).alloc (Nat.le_refl _) _)
  have hp6 : PerAt ((w.alloc (.cells (perC x).toArray 61)).alloc (.cells #[.int .u64 0, .int .u64 0, .int .u64 0, .int .u64 0, .int .u64 0, .int .u64 0] 61)) (w.alloc (.cells (perC x).toArray 61)).heap.size (fun _ => 0) := PerAt.new (w.alloc (.cells (perC x).toArray 61)) (fun _ => 0)
  have hz1 : (w.alloc (.cells (perC x).toArray 61)).heap.size = w.heap.size + 1 := by simp
  have hz2 : ((w.alloc (.cells (perC x).toArray 61)).alloc (.cells #[.int .u64 0, .int .u64 0, .int .u64 0, .int .u64 0, .int .u64 0, .int .u64 0] 61)).heap.size = w.heap.size + 2 := by simp
  rw [hz1] at hp6
  clear h hTab hA hd he hp0 hz1 hnum hx hf hqb
  go_enter Tryz.func105, Tryz.ntmps105
  go_upto_region 1 with fail
  generalize (w.alloc (.cells (perC x).toArray 61)).alloc (.cells #[.int .u64 0, .int .u64 0, .int .u64 0, .int .u64 0, .int .u64 0, .int .u64 0] 61) = w1 at *
  have cf : w1.cell? ⟨bf, 0, none⟩ = some (.pointer (some ⟨F, 0, none⟩)) := (cell_of_block ((hb0.block bf (heap_lt HF.out)).trans HF.out) 0).trans rfl
  have HR1 := Lib.hid ((HL.out.keep hb0).effRange HDK.out)
  have hn2 := heap_alloc_new w1 (.cells #[.int .u64 0, .int .u64 0, .int .u64 0, .int .u64 0] 85)
  have hba := (Below.refl w1.heap.size w1).alloc (Nat.le_refl _) (.cells #[.int .u64 0, .int .u64 0, .int .u64 0, .int .u64 0] 85)
  have hz3 : (w1.alloc (.cells #[.int .u64 0, .int .u64 0, .int .u64 0, .int .u64 0] 85)).heap.size = w1.heap.size + 1 := by simp
  have HT2 : Hid ((w1.alloc (.cells #[.int .u64 0, .int .u64 0, .int .u64 0, .int .u64 0] 85)).there w1.heap.size 0 4) := row_there hn2 rfl
  have hbs := below_setCells (b := w1.heap.size) (o := 0) (vs := efC ts d) hba (Nat.le_refl _) (by omega)
  have HE2 : Hid (((w1.alloc (.cells #[.int .u64 0, .int .u64 0, .int .u64 0, .int .u64 0] 85)).setCells w1.heap.size 0 (efC ts d)).heap[w1.heap.size]? = some (.cells (efC ts d).toArray 85 (0, 0))) := row_set (efC ts d) hn2 rfl
  have HZ3 : Hid (((w1.alloc (.cells #[.int .u64 0, .int .u64 0, .int .u64 0, .int .u64 0] 85)).setCells w1.heap.size 0 (efC ts d)).heap.size = w1.heap.size + 1) := by rw [size_setCells]; exact hz3
  have HP1 := Lib.hid (hp1.keep hbs)
  have HP6 := Lib.hid (hp6.keep hbs)
  have HB := Lib.hid (hb0.trans (hbs.mono (by omega)))
  have HZ2 := Lib.hid hz2
  have hi4 : Hid ((Tryz.prog.info? 85).map (·.size) = some 4) := by exact (show (Tryz.prog.info? 85).map (·.size) = some 4 from by kernel_rfl)
  have h14 : Hid ((efC ts d).toArray.all (·.oneCell') = true) := by exact (show (efC ts d).toArray.all (·.oneCell') = true from by simp [efC, Value.oneCell'])
  clear hb0 hp1 hp6 hz2 hn2 hba hz3 hbs
  go_upto_region 2 with (first
    | ((with_reducible show wpList _ _ _ _ _ _); refine wpList_load_mid rfl 85 _ rfl F (2 + k * 4) rfl (efC ts d) _ ?_ Tryz.underlying85 rfl hi4.out ?_; exact HR1.out)
    | ((with_reducible show wpList _ _ _ _ _ _); refine wpList_store_mid rfl 85 _ _ rfl w1.heap.size 0 (efC ts d).toArray rfl rfl ?_ hi4.out h14.out ?_; exact HT2.out))
  obtain ⟨B2, hB2⟩ : ∃ B2, B2 = w1.heap.size := ⟨_, rfl⟩
  rw [← hB2] at HT2 HE2 HZ3 HP1 HP6 HB HZ2 ⊢
  generalize (w1.alloc (.cells #[.int .u64 0, .int .u64 0, .int .u64 0, .int .u64 0] 85)).setCells B2 0 _ = w2 at *
  have hn3 := heap_alloc_new w2 (.cells #[.int .u64 0, .int .u64 0, .int .u64 0, .int .u64 0, .int .u64 0, .int .u64 0] 61)
  have hba := (Below.refl w2.heap.size w2).alloc (Nat.le_refl _) (.cells #[.int .u64 0, .int .u64 0, .int .u64 0, .int .u64 0, .int .u64 0, .int .u64 0] 61)
  have hz3 : (w2.alloc (.cells #[.int .u64 0, .int .u64 0, .int .u64 0, .int .u64 0, .int .u64 0, .int .u64 0] 61)).heap.size = w2.heap.size + 1 := by simp
  have hbs := below_setCells (b := w2.heap.size) (o := 0) (vs := perC x) hba (Nat.le_refl _) (by omega)
  have HT3 : Hid ((w2.alloc (.cells #[.int .u64 0, .int .u64 0, .int .u64 0, .int .u64 0, .int .u64 0, .int .u64 0] 61)).there w2.heap.size 0 6) := row_there hn3 rfl
  have HRB := Lib.hid HP1.out.range
  have hp3 : PerAt ((w2.alloc (.cells #[.int .u64 0, .int .u64 0, .int .u64 0, .int .u64 0, .int .u64 0, .int .u64 0] 61)).setCells w2.heap.size 0 (perC x)) w2.heap.size x := PerAt.all (PerAt.new w2 (fun _ => 0)) x
  have HS0 : Hid (PassS w B2 w2.heap.size ts d x x ((w2.alloc (.cells #[.int .u64 0, .int .u64 0, .int .u64 0, .int .u64 0, .int .u64 0, .int .u64 0] 61)).setCells w2.heap.size 0 (perC x))) := Lib.hid ⟨HP1.out.keep hbs, HP6.out.keep hbs, (hbs.block _ (heap_lt HE2.out)).trans HE2.out, hp3, HB.out.trans (hbs.mono HB.out.size), by have h1 := HZ2.out; have h2 := HZ3.out; omega⟩
  have HZ9 : Hid (((w2.alloc (.cells #[.int .u64 0, .int .u64 0, .int .u64 0, .int .u64 0, .int .u64 0, .int .u64 0] 61)).setCells w2.heap.size 0 (perC x)).heap.size = w2.heap.size + 1) := by rw [size_setCells]; exact hz3
  have hiV : Hid ((Tryz.prog.info? 61).map (·.size) = some 6) := by exact (show (Tryz.prog.info? 61).map (·.size) = some 6 from by kernel_rfl)
  clear hn3 hba hz3 hbs hp3 HP1 HP6 HE2 HB HT2 HR1 hi4 h14 cf HZ2 HZ3 hB2
  go_upto_region 3 with (first
    | ((with_reducible show wpList _ _ _ _ _ _); refine wpList_load_mid rfl 61 _ rfl w.heap.size 0 rfl (perC x) _ ?_ Tryz.underlying61 rfl hiV.out ?_; exact HRB.out)
    | ((with_reducible show wpList _ _ _ _ _ _); refine wpList_store_mid rfl 61 _ _ rfl w2.heap.size 0 (perC x).toArray rfl rfl ?_ hiV.out (perC_one _) ?_; exact HT3.out))
  obtain ⟨B3, hB3⟩ : ∃ B3, B3 = w2.heap.size := ⟨_, rfl⟩
  rw [← hB3] at HT3 HS0 HZ9 ⊢
  generalize (w2.alloc (.cells #[.int .u64 0, .int .u64 0, .int .u64 0, .int .u64 0, .int .u64 0, .int .u64 0] 61)).setCells B3 0 _ = w3 at *
  clear hB3 HT3 HRB
  have hsz3 := HS0.out.below.size
  have htl := HE.out.tlt
  have hsl := HE.out.slt
  have ct : w3.cell? ⟨B2, 1, none⟩ = some (.int .u64 ((effD ts d).t : Int)) := (cell_of_block HS0.out.ef 1).trans rfl
  obtain ⟨Ut, hUt⟩ : ∃ U, U = (effD ts d).t := ⟨_, rfl⟩
  rw [← hUt] at ct htl
  have HUt := Lib.hid hUt
  have hlst := setList_any Ut (by omega) w3 (tab_below HTAB.out hg HS0.out.below) (by have := HS0.out.below.size; omega)
  clear hUt
  go_wp2_with fail
  refine hlst.mono ?_
  rintro E w5t ⟨v, rfl, hrow, hb5⟩
  obtain ⟨Art, crt, hvs⟩ := hrow.slice
  subst hvs
  obtain ⟨blt, hbl⟩ : ∃ bl, bl = bitsOf Ut := ⟨_, rfl⟩
  have hll : (intsOf Ut).length = blt.length := by rw [hbl]; simp [intsOf]
  have hlen64t := intsOf_length Ut
  have HROWt : Hid (RowI w5t w3.heap.size (.slice Art blt.length crt) (intsOf Ut)) := by rw [← hll]; exact hrow
  rw [hll] at hlen64t
  have HBLt := Lib.hid hbl
  have HLIt : Hid (intsOf Ut = blt.map (fun (k : Nat) => (k : Int))) := by rw [hbl]; rfl
  have HB3t : Hid (B3 < w3.heap.size) := Lib.hid HS0.out.bh.lt
  have HSt : Hid (PassS w B2 B3 ts d x (fillZ blt 0 0 x) w5t) := Lib.hid ((HS0.out.keep hb5).congr fun v _ => by rw [fillZ_zero])
  rw [hll]
  clear hrow hb5 hll hbl ct hlst HS0
  go_wp2_with fail
  go_loopw [24] (fun i wr => ∃ j : Nat, i = .int .i64 j ∧ j ≤ blt.length ∧ Hid (PassS w B2 B3 ts d x (fillZ blt j 0 x) wr) ∧ Hid (RowI wr w3.heap.size (.slice Art blt.length crt) (intsOf Ut))) (fun i _ => blt.length - (intOf i).toNat)
  case atStart => exact ⟨0, rfl, Nat.zero_le _, HSt, HROWt⟩
  case round =>
    clear HSt HROWt
    obtain ⟨jt, rfl, hjt, HSt, HROWt⟩ := hrel
    by_cases hjl : jt < blt.length
    · obtain ⟨b, hb⟩ : ∃ b, blt[jt]? = some b := ⟨blt[jt], List.getElem?_eq_getElem hjl⟩
      have hbm : b ∈ bitsOf Ut := by rw [← HBLt.out]; exact List.mem_of_getElem? hb
      have hbt := ((mem_bitsOf _ _).mp hbm).2
      have hb6 : b < 6 := by
        rcases Nat.lt_or_ge b 6 with h8 | h8
        · exact h8
        · have h9 := hbt
          rw [Nat.testBit_lt_two_pow (Nat.lt_of_lt_of_le htl (Nat.pow_le_pow_right (by decide) h8 : 2 ^ 6 ≤ 2 ^ b))] at h9
          cases h9
      obtain ⟨b0, u, hb0, -, hbb, hxx, hc⟩ := (RowI.intsV HROWt.out).elem (k := jt) (by rw [HLIt.out]; simpa using hjl)
      subst hb0
      have hub : u = (b : Int) := by
        rw [HLIt.out, List.getElem?_map, hb] at hxx
        simpa using hxx.symm
      subst hub
      have bi0 : (0 : Int) ≤ (b : Int) := by omega
      have bi1 : (b : Int) < 6 := by omega
      have ji0 : (0 : Int) ≤ (jt : Int) := by omega
      have ji1 : (jt : Int) < (blt.length : Int) := by omega
      have c9 := HSt.out.bh.cell hb6
      have s9 := HSt.out.bh.soft b
      have HN : Hid (PassS w B2 B3 ts d x (fillZ blt (jt + 1) 0 x) (wr.setCell ⟨B3, b, none⟩ (.int .u64 ((0 : Nat) : Int)))) := Lib.hid ((HSt.out.put (v := 0) hb6).congr fun v _ => fillZ_next hb 0 x v)
      have HROW' : Hid (RowI (wr.setCell ⟨B3, b, none⟩ (.int .u64 ((0 : Nat) : Int))) w3.heap.size (.slice (some b0) blt.length crt) (intsOf Ut)) := RowI.keep HROWt.out fun g hg' => heap_setCell_other _ _ _ _ (by have := (RowI.lt HROWt.out g hg').1; have := HB3t.out; show g ≠ B3; omega)
      clear hb hbm hxx hbt HSt HROWt
      go_wp2_with fail
      refine ⟨⟨jt + 1, by simp, by omega, HN, HROW'⟩, ?_⟩
      simp only [intOf]
      omega
    · have hjn : jt = blt.length := by omega
      have jdt : decide (jt < blt.length) = false := decide_eq_false hjl
      replace HSt := Lib.hid (HSt.out.congr (z := fun v => if Ut.testBit v then 0 else (x) v) fun v hv => by rw [hjn, HBLt.out]; exact fillZ_all _ _ _ hv)
      clear hjn
      obtain ⟨wt, rfl⟩ : ∃ z, z = wr := ⟨_, rfl⟩
      have cs : wt.cell? ⟨B2, 3, none⟩ = some (.int .u64 ((effD ts d).s : Int)) := (cell_of_block HSt.out.ef 3).trans rfl
      obtain ⟨Us, hUs⟩ : ∃ U, U = (effD ts d).s := ⟨_, rfl⟩
      rw [← hUs] at cs hsl
      have HUs := Lib.hid hUs
      have hlss := setList_any Us (by omega) wt (tab_below HTAB.out hg HSt.out.below) (by have := HSt.out.below.size; omega)
      clear hUs
      go_wp2_with fail
      refine hlss.mono ?_
      rintro E w5s ⟨v, rfl, hrow, hb5⟩
      obtain ⟨Ars, crs, hvs⟩ := hrow.slice
      subst hvs
      obtain ⟨bls, hbl⟩ : ∃ bl, bl = bitsOf Us := ⟨_, rfl⟩
      have hll : (intsOf Us).length = bls.length := by rw [hbl]; simp [intsOf]
      have hlen64s := intsOf_length Us
      have HROWs : Hid (RowI w5s wt.heap.size (.slice Ars bls.length crs) (intsOf Us)) := by rw [← hll]; exact hrow
      rw [hll] at hlen64s
      have HBLs := Lib.hid hbl
      have HLIs : Hid (intsOf Us = bls.map (fun (k : Nat) => (k : Int))) := by rw [hbl]; rfl
      have HB3s : Hid (B3 < wt.heap.size) := Lib.hid HSt.out.bh.lt
      have HSs : Hid (PassS w B2 B3 ts d x (fillZ bls 0 (valZ q d k x) fun v => if Ut.testBit v then 0 else x v) w5s) := Lib.hid ((HSt.out.keep hb5).congr fun v _ => by rw [fillZ_zero])
      rw [hll]
      clear hrow hb5 hll hbl cs hlss HSt
      go_wp2_with fail
      go_loopw [35] (fun i wr => ∃ j : Nat, i = .int .i64 j ∧ j ≤ bls.length ∧ Hid (PassS w B2 B3 ts d x (fillZ bls j (valZ q d k x) fun v => if Ut.testBit v then 0 else x v) wr) ∧ Hid (RowI wr wt.heap.size (.slice Ars bls.length crs) (intsOf Us))) (fun i _ => bls.length - (intOf i).toNat)
      case atStart => exact ⟨0, rfl, Nat.zero_le _, HSs, HROWs⟩
      case round =>
        clear HSs HROWs
        obtain ⟨js, rfl, hjs, HSs, HROWs⟩ := hrel
        by_cases hjl : js < bls.length
        · obtain ⟨b, hb⟩ : ∃ b, bls[js]? = some b := ⟨bls[js], List.getElem?_eq_getElem hjl⟩
          have hbm : b ∈ bitsOf Us := by rw [← HBLs.out]; exact List.mem_of_getElem? hb
          have hbt := ((mem_bitsOf _ _).mp hbm).2
          have hb6 : b < 6 := by
            rcases Nat.lt_or_ge b 6 with h8 | h8
            · exact h8
            · have h9 := hbt
              rw [Nat.testBit_lt_two_pow (Nat.lt_of_lt_of_le hsl (Nat.pow_le_pow_right (by decide) h8 : 2 ^ 6 ≤ 2 ^ b))] at h9
              cases h9
          obtain ⟨b0, u, hb0, -, hbb, hxx, hc⟩ := (RowI.intsV HROWs.out).elem (k := js) (by rw [HLIs.out]; simpa using hjl)
          subst hb0
          have hub : u = (b : Int) := by
            rw [HLIs.out, List.getElem?_map, hb] at hxx
            simpa using hxx.symm
          subst hub
          have bi0 : (0 : Int) ≤ (b : Int) := by omega
          have bi1 : (b : Int) < 6 := by omega
          have ji0 : (0 : Int) ≤ (js : Int) := by omega
          have ji1 : (js : Int) < (bls.length : Int) := by omega
          have HSET : Hid (setI d = (b : Int)) := (HE.out.sets b (by omega)).mp (by rw [← HUs.out]; exact hbt)
          have HBB := Lib.hid hb
          have HC := Lib.hid hc
          clear hb hbm hxx hbt
          go_upto_region 11 with fail
          have hS11 : (fun w9 => ∃ y, PassS w B2 B3 ts d x y w9) wr.drew := ⟨_, HSs.out.drew⟩
          refine wp_region_held_drew (S := (fun w9 => ∃ y, PassS w B2 B3 ts d x y w9)) (by kernel_rfl) hS11 (fun hHeld => ?_)
          replace HSs := Lib.hid HSs.out.drew
          replace HROWs : Hid (RowI wr.drew wt.heap.size (.slice (some b0) bls.length crs) (intsOf Us)) := RowI.keep HROWs.out fun _ _ => rfl
          clear hS11
          generalize hwd : wr.drew = wd at *
          clear hwd
          obtain ⟨QT, hQT⟩ : ∃ QT, QT = qT q := ⟨_, rfl⟩
          obtain ⟨QF, hQF⟩ : ∃ QF, QF = qF q := ⟨_, rfl⟩
          have hal := ahead_q q
          have hml := at_q q
          have hans0 := fun p0 p1 W => answer_any q hq k d x p0 p1 d.next.length W hk61 ⟨HE.out.xy.2.2.1, HE.out.xy.2.2.2⟩ HNUM.out HX.out
          have HQB2 := HQB.out
          rw [← hQT] at hal hml HQB2
          rw [← hQF] at hml hans0
          replace HQB2 := Lib.hid HQB2
          have HANS := Lib.hid hans0
          have HQF : Hid (QF = 148 ∨ QF = 150 ∨ QF = 149) := Lib.hid (by rw [hQF]; unfold qF; split; exact .inl rfl; split; exact .inr (.inl rfl); exact .inr (.inr rfl))
          clear hans0 hQT hQF
          obtain ⟨p0, p1, hrN⟩ := HL.out.gr.ndRange HDK.out
          have HRN := Lib.hid hrN
          clear hrN
          have HCLT : Hid (C < w.heap.size ∧ F < w.heap.size) := Lib.hid (by have := HL.out.lt; omega)
          refine wpAnyH_take (i := 0) (oi := ⟨_, _, _, _, _, _⟩) (v := .int .i64 (b : Int)) rfl (by kernel_rfl) (by kernel_rfl) (by kernel_rfl) (fun _ _ _ h => h) (Or.inl ⟨by rfl, fun w hSw => by go_simp⟩) hHeld ?_
          try simp only [Act.put, List.setIfInBounds_toArray, List.set_cons_zero, List.set_cons_succ]
          refine wpAnyH_take (i := 1) (oi := ⟨_, _, _, _, _, _⟩) (v := .iface QT (.agg #[])) rfl (by kernel_rfl) (by kernel_rfl) (by kernel_rfl) (fun _ _ _ h => h) (Or.inl ⟨by rfl, fun w9 hSw => by obtain ⟨y9, h8⟩ := hSw; have h9 := (cell_of_block (h8.old HQB2.out) 0).trans rfl; go_simp⟩) hHeld ?_
          try simp only [Act.put, List.setIfInBounds_toArray, List.set_cons_zero, List.set_cons_succ]
          refine wpAnyH_take (i := 2) (oi := ⟨_, _, _, _, _, _⟩) (v := .int .i64 (k : Int)) rfl (by kernel_rfl) (by kernel_rfl) (by kernel_rfl) (fun _ _ _ h => h) (Or.inl ⟨by rfl, fun w hSw => by go_simp⟩) hHeld ?_
          try simp only [Act.put, List.setIfInBounds_toArray, List.set_cons_zero, List.set_cons_succ]
          refine wpAnyH_take (i := 3) (oi := ⟨_, _, _, _, _, _⟩) (v := .pointer (some ⟨F, 0, none⟩)) rfl (by kernel_rfl) (by kernel_rfl) (by kernel_rfl) (fun _ _ _ h => h) (Or.inl ⟨by rfl, fun w9 hSw => by obtain ⟨y9, h8⟩ := hSw; have h9 := (cell_of_block (h8.old HF.out) 0).trans rfl; go_simp⟩) hHeld ?_
          try simp only [Act.put, List.setIfInBounds_toArray, List.set_cons_zero, List.set_cons_succ]
          refine wpAnyH_take (i := 4) (oi := ⟨_, _, _, _, _, _⟩) (v := .pointer (some ⟨F, 0, none⟩)) rfl (by kernel_rfl) (by kernel_rfl) (by kernel_rfl) (fun _ _ _ h => h) (Or.inl ⟨by rfl, fun w hSw => by go_simp⟩) hHeld ?_
          try simp only [Act.put, List.setIfInBounds_toArray, List.set_cons_zero, List.set_cons_succ]
          refine wpAnyH_take (i := 5) (oi := ⟨_, _, _, _, _, _⟩) (v := .pointer (some ⟨F, 0, none⟩)) rfl (by kernel_rfl) (by kernel_rfl) (by kernel_rfl) (fun _ _ _ h => h) (Or.inl ⟨by rfl, fun w hSw => by go_simp⟩) hHeld ?_
          try simp only [Act.put, List.setIfInBounds_toArray, List.set_cons_zero, List.set_cons_succ]
          refine wpAnyH_take (i := 6) (oi := ⟨_, _, _, _, _, _⟩) (v := .pointer (some ⟨C, 0, none⟩)) rfl (by kernel_rfl) (by kernel_rfl) (by kernel_rfl) (fun _ _ _ h => h) (Or.inl ⟨by rfl, fun w9 hSw => by obtain ⟨y9, h8⟩ := hSw; have h9 := (HL.out.keep h8.below).grCell; go_simp⟩) hHeld ?_
          try simp only [Act.put, List.setIfInBounds_toArray, List.set_cons_zero, List.set_cons_succ]
          refine wpAnyH_take (i := 7) (oi := ⟨_, _, _, _, _, _⟩) (v := .int .i64 (k : Int)) rfl (by kernel_rfl) (by kernel_rfl) (by kernel_rfl) (fun _ _ _ h => h) (Or.inl ⟨by rfl, fun w hSw => by go_simp⟩) hHeld ?_
          try simp only [Act.put, List.setIfInBounds_toArray, List.set_cons_zero, List.set_cons_succ]
          refine wpAnyH_take (i := 8) (oi := ⟨_, _, _, _, _, _⟩) (v := .pointer (some ⟨C, 0, none⟩)) rfl (by kernel_rfl) (by kernel_rfl) (by kernel_rfl) (fun _ _ _ h => h) (Or.inl ⟨by rfl, fun w hSw => by go_simp⟩) hHeld ?_
          try simp only [Act.put, List.setIfInBounds_toArray, List.set_cons_zero, List.set_cons_succ]
          refine wpAnyH_take (i := 9) (oi := ⟨_, _, _, _, _, _⟩) (v := .pointer (some ⟨C, 0, none⟩)) rfl (by kernel_rfl) (by kernel_rfl) (by kernel_rfl) (fun _ _ _ h => h) (Or.inl ⟨by rfl, fun w hSw => by go_simp⟩) hHeld ?_
          try simp only [Act.put, List.setIfInBounds_toArray, List.set_cons_zero, List.set_cons_succ]
          refine wpAnyH_take (i := 10) (oi := ⟨_, _, _, _, _, _⟩) (v := .pointer (some ⟨C, k * 7, none⟩)) rfl (by kernel_rfl) (by kernel_rfl) (by kernel_rfl) (fun _ _ _ h => h) (Or.inl ⟨by rfl, fun w hSw => by go_simp⟩) hHeld ?_
          try simp only [Act.put, List.setIfInBounds_toArray, List.set_cons_zero, List.set_cons_succ]
          refine wpAnyH_take (i := 11) (oi := ⟨_, _, _, _, _, _⟩) (v := .agg ([.int .i64 d.op, .int .i64 d.x, .int .i64 d.y, .int .i64 d.n, .int .i64 p0, .int .i64 p1, .int .i64 d.next.length] : List Value).toArray) rfl (by kernel_rfl) (by kernel_rfl) (by kernel_rfl) (fun _ _ _ h => h) (yieldsIf_load_mid (by rfl) _ _ rfl C (k * 7) rfl ([.int .i64 d.op, .int .i64 d.x, .int .i64 d.y, .int .i64 d.n, .int .i64 p0, .int .i64 p1, .int .i64 d.next.length] : List Value) _ (fun w' h => by obtain ⟨y9, h8⟩ := h; exact HRN.out w' (h8.below.block C HCLT.out.1)) Tryz.underlying143 rfl (by kernel_rfl)) hHeld ?_
          try simp only [Act.put, List.setIfInBounds_toArray, List.set_cons_zero, List.set_cons_succ]
          refine wpAnyH_take (i := 12) (oi := ⟨_, _, _, _, _, _⟩) (v := .agg (perC x).toArray) rfl (by kernel_rfl) (by kernel_rfl) (by kernel_rfl) (fun _ _ _ h => h) (yieldsIf_load_mid (by rfl) _ _ rfl w.heap.size (0) rfl (perC x) _ (fun w' h => by obtain ⟨y9, h8⟩ := h; exact h8.be.range) Tryz.underlying61 rfl (by kernel_rfl)) hHeld ?_
          try simp only [Act.put, List.setIfInBounds_toArray, List.set_cons_zero, List.set_cons_succ]
          refine wpAnyH_take (i := 13) (oi := ⟨_, _, _, _, _, _⟩) (v := .func (Fn.method "loop.example/borrowcheck/impl.answer") #[.iface QT (.agg #[])] #[]) rfl (by kernel_rfl) (by kernel_rfl) (by kernel_rfl) (fun _ _ _ h => h) (Or.inl ⟨by rfl, fun w hSw => by go_simp⟩) hHeld ?_
          try simp only [Act.put, List.setIfInBounds_toArray, List.set_cons_zero, List.set_cons_succ]
          refine wpAnyH_take (i := 14) (oi := ⟨_, _, _, _, _, _⟩) (v := .func (Fn.method "loop.example/borrowcheck/impl.answer") #[.iface QT (.agg #[])] #[]) rfl (by kernel_rfl) (by kernel_rfl) (by kernel_rfl) (fun _ _ _ h => h) (Or.inl ⟨by rfl, fun w hSw => by go_simp⟩) hHeld ?_
          try simp only [Act.put, List.setIfInBounds_toArray, List.set_cons_zero, List.set_cons_succ]
          refine wpAnyH_take (i := 15) (oi := ⟨_, _, _, _, _, _⟩) (v := .iface QT (.agg #[])) rfl (by kernel_rfl) (by kernel_rfl) (by kernel_rfl) (fun _ _ _ h => h) (Or.inl ⟨by rfl, fun w hSw => by go_simp⟩) hHeld ?_
          try simp only [Act.put, List.setIfInBounds_toArray, List.set_cons_zero, List.set_cons_succ]
          refine wpAnyH_ready (rs := [16]) (by kernel_rfl) (by simp) ?_
          refine AllReadyH.cons (o := ⟨_, _, _, _, _, _⟩) rfl (fun K hK => ?_) AllReadyH.nil
          have hans := HANS.out p0 p1 wd
          have hqf := HQF.out
          clear HQF HANS
          rcases hqf with rfl | rfl | rfl
          all_goals
            go_simp
            refine hans.mono ?_
            rintro E wq ⟨rfl, hbq⟩
            replace HSs := Lib.hid (HSs.out.keep hbq)
            replace HROWs := Lib.hid (RowI.below HROWs.out hbq)
            refine hK.out _ _ ⟨_, HSs.out⟩ (fun hHeld => ?_)
            clear hK K hans hbq hal hml
            refine wpAnyH_take (i := 17) (oi := ⟨_, _, _, _, _, _⟩) (v := .pointer (some ⟨B3, b, none⟩)) rfl (by kernel_rfl) (by kernel_rfl) (by kernel_rfl) (fun _ _ _ h => h) (Or.inl ⟨by rfl, fun w hSw => by go_simp⟩) hHeld ?_
            try simp only [Act.put, List.setIfInBounds_toArray, List.set_cons_zero, List.set_cons_succ]
            refine wpAnyH_ready (rs := [18]) (by kernel_rfl) (by simp) ?_
            refine AllReadyH.cons (o := ⟨_, _, _, _, _, _⟩) rfl (fun K hK => ?_) AllReadyH.nil
            have c9 := HSs.out.bh.cell hb6
            have s9 := HSs.out.bh.soft b
            have HN : Hid (PassS w B2 B3 ts d x (fillZ bls (js + 1) (valZ q d k x) (fun v => if Ut.testBit v then 0 else x v)) (wq.setCell ⟨B3, b, none⟩ (.int .u64 ((valZ q d k x : Nat) : Int)))) := Lib.hid ((HSs.out.put (v := valZ q d k x) hb6).congr fun v _ => fillZ_next HBB.out _ _ v)
            have HROW' : Hid (RowI (wq.setCell ⟨B3, b, none⟩ (.int .u64 ((valZ q d k x : Nat) : Int))) wt.heap.size (.slice (some b0) bls.length crs) (intsOf Us)) := RowI.keep HROWs.out fun g hg' => heap_setCell_other _ _ _ _ (by have := (RowI.lt HROWs.out g hg').1; have := HB3s.out; show g ≠ B3; omega)
            go_simp
            refine hK.out _ _ ⟨_, HN.out⟩ (fun hHeld => ?_)
            clear hK K c9 s9 HSs HROWs
            refine wpAnyH_done (by kernel_rfl) ?_ _
            clear hHeld
            go_wp2_with fail
            refine ⟨⟨js + 1, by simp, by omega, HN, HROW'⟩, ?_⟩
            simp only [intOf]
            omega
        · have hjn : js = bls.length := by omega
          have jds : decide (js < bls.length) = false := decide_eq_false hjl
          replace HSs := Lib.hid (HSs.out.congr (z := fun v => if Us.testBit v then (valZ q d k x) else (fun v => if Ut.testBit v then 0 else x v) v) fun v hv => by rw [hjn, HBLs.out]; exact fillZ_all _ _ _ hv)
          clear hjn
          have HFIN : Hid (∀ v, v < 6 → (if Us.testBit v then valZ q d k x else (fun v => if Ut.testBit v then 0 else x v) v) = trZ q ts d k x v) := fun v hv => by
            have e1 := HE.out.sets v (by omega)
            have e2 := HE.out.takes v (by omega)
            rw [← HUs.out] at e1
            rw [← HUt.out] at e2
            show (if Us.testBit v then valZ q d k x else if Ut.testBit v then 0 else x v) = _
            unfold trZ
            by_cases h1 : setI d = (v : Int)
            · rw [if_pos h1, if_pos (e1.mpr h1)]
            · rw [if_neg h1, if_neg (fun h => h1 (e1.mp h))]
              by_cases h2 : useI ts d (v : Int) = 2
              · rw [if_pos h2, if_pos (e2.mpr h2)]
              · rw [if_neg h2, if_neg (fun h => h2 (e2.mp h))]
          replace HSs := Lib.hid (HSs.out.congr HFIN.out)
          have HRG := Lib.hid HSs.out.bh.range
          have HTH := Lib.hid HSs.out.re.there
          have HOUT := Lib.hid (HSs.out.re.allRow (trZ q ts d k x))
          have HBO := Lib.hid (below_setCells (b := w.heap.size + 1) (o := 0) (vs := perC (trZ q ts d k x)) HSs.out.below (by omega) HSs.out.below.size)
          clear HSs HROWs HFIN
          go_wp2_with (first
            | ((with_reducible show wpList _ _ _ _ _ _); refine wpList_load_mid rfl 61 _ rfl B3 0 rfl (perC (trZ q ts d k x)) _ ?_ Tryz.underlying61 rfl hiV.out ?_; exact HRG.out)
            | ((with_reducible show wpList _ _ _ _ _ _); refine wpList_store_mid rfl 61 _ _ rfl (w.heap.size + 1) 0 (perC (trZ q ts d k x)).toArray rfl rfl ?_ hiV.out (perC_one _) ?_; exact HTH.out))
          refine bodyPost_ret (v := .agg (perC (trZ q ts d k x)).toArray) ?_ rfl ⟨rfl, HBO.out⟩
          exact results_cell rfl Tryz.prog _ _ (w.heap.size + 1) _ rfl (load_per HOUT.out rfl)

end Go.Proofs.YtnoejapnjhogaaaGreatDoor.tr
