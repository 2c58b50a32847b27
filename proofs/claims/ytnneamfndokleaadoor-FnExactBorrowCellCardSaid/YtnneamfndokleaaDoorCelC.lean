/-
  The copies that the laws make of memories and pointers: new rows that read alike.
-/
import Derived.Test.YtnneamfndokleaaDoorCelK2
namespace Go.Proofs.YtnneamfndokleaaDoor
open Go.RowKit Go.Deep
set_option linter.unusedVariables false

theorem Tryd.infoTag : (Tryd.prog.info? 84).map (fun i => (i.zero, i.size, i.bytes)) = some (some (.agg #[.int .i64 0, .bool false]), 2, 16) := by kernel_rfl
theorem Tryd.infoCell : (Tryd.prog.info? 53).map (fun i => (i.zero, i.size, i.bytes)) = some (some (.agg #[.int .i64 0, .bool false, .int .i64 0, .slice none 0 0]), 4, 48) := by kernel_rfl

def zTag : TagD := ⟨0, false⟩
def zCell : CellD × Value := (⟨0, false, 0, []⟩, .slice none 0 0)

theorem made_flat {α : Type} {f : α → List Value} {s : Nat} (d : α) (hs : (f d).length = s) (hs0 : 0 < s) : ∀ n : Nat, (madeCells (f d).toArray (n * s)).toList = (List.replicate n d).flatMap f := by
  intro n
  apply List.ext_getElem?
  intro j
  have hfl : ((List.replicate n d).flatMap f).length = n * s := by
    induction n with
    | zero => simp
    | succ n ih => rw [List.replicate_succ, List.flatMap_cons, List.length_append, ih, hs, Nat.succ_mul, Nat.add_comm]
  by_cases hj : j < n * s
  · have e1 : j = (j / s) * s + j % s := by rw [Nat.mul_comm]; exact (Nat.div_add_mod j s).symm
    have hm : j % s < s := Nat.mod_lt _ hs0
    have hd : j / s < n := by
      rw [Nat.div_lt_iff_lt_mul hs0]
      exact hj
    have hr : ∀ (l : List α) (a b : Nat), (∀ x ∈ l, x = d) → a < l.length → b < s → (l.flatMap f)[a * s + b]? = (f d)[b]? := by
      intro l
      induction l with
      | nil => intro a b _ ha; simp at ha
      | cons x l ih =>
        intro a b hx ha hb
        have hxd : x = d := hx x (by simp)
        subst hxd
        rw [List.flatMap_cons]
        cases a with
        | zero => rw [Nat.zero_mul, Nat.zero_add, List.getElem?_append_left (by omega)]
        | succ a =>
          rw [List.getElem?_append_right (by rw [hs, Nat.succ_mul]; omega), hs, show (a + 1) * s + b - s = a * s + b from by rw [Nat.succ_mul]; omega]
          exact ih a b (fun y hy => hx y (by simp [hy])) (by simpa using ha) hb
    have h2 := hr (List.replicate n d) (j / s) (j % s) (fun x hx => (List.mem_replicate.1 hx).2) (by simpa using hd) hm
    rw [← e1] at h2
    rw [h2]
    simp [madeCells, hj, hs, hm]
  · rw [List.getElem?_eq_none (l := (List.replicate n d).flatMap f) (by rw [hfl]; omega)]
    exact List.getElem?_eq_none (by simp [madeCells]; omega)

theorem own_made {w : World} {B n s : Nat} {e : TypeId} {α : Type} {f : α → List Value} (d : α) (hs : (f d).length = s) (hs0 : 0 < s) (hB : B ≤ w.heap.size) (hm : n ≤ maxLen) (cs : Array Value) (hcs : cs = madeCells (f d).toArray (n * s)) :
    (w.alloc (.cells cs e)).ownsRow B e s (.slice (some ⟨w.heap.size, 0, none⟩) n n) n ((List.replicate n d).flatMap f) := by
  subst hcs
  have h := World.ownsRow_lit (base := B) (e := e) (size := s) w (madeCells (f d).toArray (n * s)) n hB hm (by simp [madeCells])
  rwa [made_flat d hs hs0] at h

/-- What a copy of a tag answers. -/
theorem toTag_any (id : Int) (u : Bool) (w : World) :
    Calls Tryd.prog 69 #[.agg #[.int .i64 id, .bool u]] w fun e w' => e = .returned (.agg #[.int .i64 id, .bool u]) ∧ Below w.heap.size w w' := by
  go_enter Tryd.func69, Tryd.ntmps69
  go_wp2_with fail
  refine bodyPost_ret (v := .agg #[.int .i64 id, .bool u]) (by simp [results, Tryd.results69, go_sem]) rfl ⟨rfl, ?_⟩
  exact (((Below.refl _ _).alloc (Nat.le_refl _) _).alloc (by simp) _).alloc (by simp; omega) _

theorem rep_step {α : Type} (z : α) {q k : Nat} (h : k < q) : List.replicate (q - k) z = z :: List.replicate (q - (k + 1)) z := by
  rw [show q - k = (q - (k + 1)) + 1 from by omega, List.replicate_succ]

set_option maxRecDepth 100000 in
set_option maxHeartbeats 2000000 in
theorem toTagS_any (ts : List TagD) (A : Option Addr) (q c : Nat) (w : World) (h : RdT w (.slice A q c) ts) (hl : q ≤ 1048576) :
    Calls Tryd.prog 51 #[.slice A q c] w fun e w' => e = .returned (.slice (some ⟨w.heap.size, 0, none⟩) q q) ∧ RowT w' w.heap.size (.slice (some ⟨w.heap.size, 0, none⟩) q q) ts ∧ Below w.heap.size w w' := by
  obtain ⟨hq, hc1, hc2⟩ := h.len
  unfold maxLen at hc2
  have HN := Lib.hid hq
  have H := Lib.hid h
  clear hq h
  have hmk := run_make_rows (P := Tryd.prog) 50 84 (.agg #[.int .i64 0, .bool false]) #[.int .i64 0, .bool false] 2 16 Tryd.underlying50 Tryd.infoTag rfl .i64 .i64 q (by omega) (by omega)
  have hst : RowT (w.alloc (.cells (madeCells #[.int .i64 0, .bool false] (q * 2)) 84)) w.heap.size (.slice (some ⟨w.heap.size, 0, none⟩) q q) (ts.take 0 ++ List.replicate (q - 0) zTag) := by
    have := own_made (w := w) (B := w.heap.size) (n := q) (e := 84) (s := 2) (f := TagD.cells) zTag rfl (by omega) (Nat.le_refl _) (by unfold maxLen; omega) (madeCells #[.int .i64 0, .bool false] (q * 2)) rfl
    unfold RowT
    simpa using this
  have HST := Lib.hid hst
  have hbs : Below w.heap.size w (w.alloc (.cells (madeCells #[.int .i64 0, .bool false] (q * 2)) 84)) := (Below.refl _ _).alloc (Nat.le_refl _) _
  clear hst
  go_enter Tryd.func51, Tryd.ntmps51
  go_wp2_with fail
  go_loopw [4] (fun i wr => ∃ k : Nat, k ≤ q ∧ i = .int .i64 k ∧ Hid (RowT wr w.heap.size (.slice (some ⟨w.heap.size, 0, none⟩) q q) (ts.take k ++ List.replicate (q - k) zTag)) ∧ Below w.heap.size w wr) (fun i _ => q - (intOf i).toNat)
  case atStart => exact ⟨0, Nat.zero_le _, rfl, HST, hbs⟩
  case round =>
    clear HST hmk hbs
    obtain ⟨k, hk, rfl, HR, hb⟩ := hrel
    by_cases hlt : k < q
    · obtain ⟨b, id, u, rfl, hbb, hd, a0, a1⟩ := (H.out.below hb).elem (k := k) (by rw [← HN.out]; exact hlt)
      have HD := Lib.hid hd
      clear hd
      go_wp2_with fail
      refine (toTag_any id u _).mono ?_
      rintro E w1 ⟨rfl, hb1⟩
      have hbz := hb.size
      have hR : RowT w1 w.heap.size (.slice (some ⟨w.heap.size, 0, none⟩) q q) (ts.take k ++ List.replicate (q - k) zTag) := own_below HR.out hb1
      rw [rep_step zTag hlt] at hR
      have hlen : (ts.take k ++ zTag :: List.replicate (q - (k + 1)) zTag).length = q := by
        have := HN.out
        simp
        omega
      have hkl : (ts.take k).length = k := by
        have := HN.out
        simp
        omega
      obtain ⟨c0, c1, fz⟩ := hR.cells2 hlen
      obtain ⟨hR2, hO2⟩ := hR.put2 hlen ⟨id, u⟩
      rw [hkl] at c0 c1 hR2 hO2
      have HR2 : Hid (RowT ((w1.setCell ⟨w.heap.size, k * 2, none⟩ (.int .i64 id)).setCell ⟨w.heap.size, k * 2 + 1, none⟩ (.bool u)) w.heap.size (.slice (some ⟨w.heap.size, 0, none⟩) q q) (ts.take (k + 1) ++ List.replicate (q - (k + 1)) zTag)) := by
        rw [take_snoc HD.out, List.append_assoc]
        exact hR2
      have hb2 : Below w.heap.size w ((w1.setCell ⟨w.heap.size, k * 2, none⟩ (.int .i64 id)).setCell ⟨w.heap.size, k * 2 + 1, none⟩ (.bool u)) := ((hb.trans (hb1.mono hbz)).setCell (Nat.le_refl _) _).setCell (Nat.le_refl _) _
      have f0 := fz (k * 2)
      have f1 := fz (k * 2 + 1)
      unfold zTag at c0 c1
      clear hR hlen hR2 hO2 HR fz hkl hb hb1 a0 a1
      go_wp2_with fail
      go_roundw
      case rel => exact ⟨k + 1, by omega, by go_num, HR2, hb2⟩
      case measure => simp [intOf]; omega
    · have hk' : k = q := by omega
      subst hk'
      go_wp2_with fail
      go_ret
      refine ⟨rfl, ?_, hb⟩
      have h9 := HR.out
      have e1 : ts.take k = ts := by rw [HN.out, List.take_length]
      rwa [Nat.sub_self, List.replicate_zero, List.append_nil, e1] at h9

theorem heap_set {w : World} {a : Addr} {u : Value} {k : Nat} (h : k ≠ a.block) : (w.setCell a u).heap[k]? = w.heap[k]? := Below.heap_setCell w a u k h

set_option maxRecDepth 100000 in
set_option maxHeartbeats 4000000 in
theorem toCell_any (val nx : Int) (al : Bool) (ts : List TagD) (A : Option Addr) (q c : Nat) (w : World) (h : RdT w (.slice A q c) ts) (hl : q ≤ 1048576) :
    Calls Tryd.prog 29 #[.agg #[.int .i64 val, .bool al, .int .i64 nx, .slice A q c]] w fun e w' => e = .returned (.agg #[.int .i64 val, .bool al, .int .i64 nx, .slice (some ⟨w.heap.size + 3, 0, none⟩) q q]) ∧
      RowT w' w.heap.size (.slice (some ⟨w.heap.size + 3, 0, none⟩) q q) ts ∧ Below w.heap.size w w' := by
  have H := Lib.hid h
  clear h
  go_enter Tryd.func29, Tryd.ntmps29
  go_wp2_with fail
  have hb0 := ((((Below.refl w.heap.size w).alloc (Nat.le_refl _) (.cells #[.int .i64 val, .bool al, .int .i64 nx, .slice A q c] 46)).alloc (by simp) (.cells #[.int .i64 0, .bool false, .int .i64 0, .slice none 0 0] 53)).alloc (by simp; omega) (.cells #[.int .i64 val, .bool al, .int .i64 nx, .slice none 0 0] 53))
  refine (toTagS_any ts A q c _ (H.out.below hb0) hl).mono ?_
  rintro E w1 ⟨rfl, hR1, hb1⟩
  obtain ⟨q1, q2, q3, q4⟩ := heap3 w (.cells #[.int .i64 val, .bool al, .int .i64 nx, .slice A q c] 46) (.cells #[.int .i64 0, .bool false, .int .i64 0, .slice none 0 0] 53) (.cells #[.int .i64 val, .bool al, .int .i64 nx, .slice none 0 0] 53)
  rw [q4] at hR1 hb1 ⊢
  have hB2 := (hb1.block (w.heap.size + 1) (by omega)).trans q2
  have hB3 := (hb1.block (w.heap.size + 2) (by omega)).trans q3
  have hb : Below w.heap.size w w1 := hb0.trans (hb1.mono (by omega))
  clear q1 q2 q3 q4 hb1 hb0
  have v0 : w1.cell? ⟨w.heap.size + 2, 0, none⟩ = some (.int .i64 val) := (cell_of_block hB3 0).trans rfl
  have v1 : w1.cell? ⟨w.heap.size + 2, 1, none⟩ = some (.bool al) := (cell_of_block hB3 1).trans rfl
  have v2 : w1.cell? ⟨w.heap.size + 2, 2, none⟩ = some (.int .i64 nx) := (cell_of_block hB3 2).trans rfl
  have v3 : w1.cell? ⟨w.heap.size + 2, 3, none⟩ = some (.slice none 0 0) := (cell_of_block hB3 3).trans rfl
  have r0 : w1.cell? ⟨w.heap.size + 1, 0, none⟩ = some (.int .i64 0) := (cell_of_block hB2 0).trans rfl
  have r1 : w1.cell? ⟨w.heap.size + 1, 1, none⟩ = some (.bool false) := (cell_of_block hB2 1).trans rfl
  have r2 : w1.cell? ⟨w.heap.size + 1, 2, none⟩ = some (.int .i64 0) := (cell_of_block hB2 2).trans rfl
  have r3 : w1.cell? ⟨w.heap.size + 1, 3, none⟩ = some (.slice none 0 0) := (cell_of_block hB2 3).trans rfl
  have f3 := frozen_of_block hB3 3
  have fr0 := frozen_of_block hB2 0
  have fr1 := frozen_of_block hB2 1
  have fr2 := frozen_of_block hB2 2
  have fr3 := frozen_of_block hB2 3
  have HR1 := Lib.hid hR1
  clear hB2 hB3 hR1
  go_wp2_with fail
  refine bodyPost_ret (v := .agg #[.int .i64 val, .bool al, .int .i64 nx, .slice (some ⟨w.heap.size + 3, 0, none⟩) q q]) (by simp [results, Tryd.results29, go_sem, r0, r1, r2, r3]) rfl ⟨rfl, ?_, ?_⟩
  · refine own_keep (own_mono HR1.out (by omega)) fun g hg => ?_
    have hlt := World.ownsRow.lt HR1.out g hg
    iterate 4 refine (heap_set (by show g ≠ w.heap.size + 1; omega)).trans ?_
    exact heap_set (by show g ≠ w.heap.size + 2; omega)
  · exact ((((hb.setCell (by simp; omega) _).setCell (by simp) _).setCell (by simp) _).setCell (by simp) _).setCell (by simp) _

theorem zRow (w : World) (B n : Nat) (hB : B ≤ w.heap.size) (hm : n ≤ maxLen) :
    RowU (w.alloc (.cells (madeCells #[.int .i64 0, .bool false, .int .i64 0, .slice none 0 0] (n * 4)) 53)) B (.slice (some ⟨w.heap.size, 0, none⟩) n n) (List.replicate n zCell) := by
  refine ⟨?_, fun j p hp => ?_, fun i j p q a b hij hp hq ha hb => ?_⟩
  · have := own_made (w := w) (B := B) (n := n) (e := 53) (s := 4) (f := crow) zCell rfl (by omega) hB hm (madeCells #[.int .i64 0, .bool false, .int .i64 0, .slice none 0 0] (n * 4)) rfl
    simpa using this
  · have := List.mem_of_getElem? hp
    rw [(List.mem_replicate.1 this).2]
    exact World.ownsRow_nil _ _ _ _
  · have := List.mem_of_getElem? hp
    rw [(List.mem_replicate.1 this).2] at ha
    cases ha

set_option maxRecDepth 100000 in
set_option maxHeartbeats 4000000 in
theorem toCellS_any (cs : List CellD) (A : Option Addr) (q c : Nat) (w : World) (h : RdC w (.slice A q c) cs) (hl : cs.length + tagSum cs ≤ 1048576) :
    Calls Tryd.prog 10 #[.slice A q c] w fun e w' => e = .returned (.slice (some ⟨w.heap.size, 0, none⟩) q q) ∧ RowC w' w.heap.size (.slice (some ⟨w.heap.size, 0, none⟩) q q) cs ∧ Below w.heap.size w w' := by
  obtain ⟨hq, hc1, hc2⟩ := h.len
  unfold maxLen at hc2
  have hql : q ≤ 1048576 := by omega
  have HN := Lib.hid hq
  have H := Lib.hid h
  have HL := Lib.hid hl
  clear hq h hl
  have hmk := run_make_rows (P := Tryd.prog) 26 53 (.agg #[.int .i64 0, .bool false, .int .i64 0, .slice none 0 0]) #[.int .i64 0, .bool false, .int .i64 0, .slice none 0 0] 4 48 Tryd.underlying26 Tryd.infoCell rfl .i64 .i64 q (by omega) (by omega)
  have HST := Lib.hid (zRow w w.heap.size q (Nat.le_refl _) (by unfold maxLen; omega))
  have hbs : Below w.heap.size w (w.alloc (.cells (madeCells #[.int .i64 0, .bool false, .int .i64 0, .slice none 0 0] (q * 4)) 53)) := (Below.refl _ _).alloc (Nat.le_refl _) _
  go_enter Tryd.func10, Tryd.ntmps10
  go_wp2_with fail
  go_loopw [4] (fun i wr => ∃ k : Nat, k ≤ q ∧ i = .int .i64 k ∧ Hid (∃ rs, rs.map Prod.fst = cs.take k ∧ RowU wr w.heap.size (.slice (some ⟨w.heap.size, 0, none⟩) q q) (rs ++ List.replicate (q - k) zCell)) ∧ Below w.heap.size w wr) (fun i _ => q - (intOf i).toNat)
  case atStart => exact ⟨0, Nat.zero_le _, rfl, ⟨[], rfl, HST⟩, hbs⟩
  case round =>
    clear HST hmk hbs
    obtain ⟨k, hk, rfl, HR, hb⟩ := hrel
    by_cases hlt : k < q
    · obtain ⟨b, val, al, nx, ts, Au, cu, rfl, hbb, hd, ⟨a0, a1, a2, a3⟩, hT, t1, t2⟩ := (H.out.below hb).elem (k := k) (by rw [← HN.out]; exact hlt)
      have HD := Lib.hid hd
      have htl : ts.length ≤ 1048576 := by
        have h9 := tagSum_take_le cs (k + 1)
        rw [take_snoc hd, tagSum_snoc] at h9
        have := HL.out
        simp only at h9
        omega
      clear hd
      go_wp2_with fail
      refine (toCell_any val nx al ts Au ts.length cu _ hT htl).mono ?_
      rintro E w1 ⟨rfl, hT1, hb1⟩
      have hbz := hb.size
      obtain ⟨rs, hrs, hR0⟩ := HR.out
      have hR := hR0.below hb1
      rw [rep_step zCell hlt] at hR
      have hkl : rs.length = k := by
        have h9 := congrArg List.length hrs
        have := HN.out
        simp at h9
        omega
      have hlen : (rs ++ zCell :: List.replicate (q - (k + 1)) zCell).length = q := by
        simp [hkl]
        omega
      obtain ⟨c0, c1, c2, c3, fz, -, -⟩ := hR.cells4 hlen
      obtain ⟨hR2, hO2⟩ := hR.put4 (q := (⟨val, al, nx, ts⟩, .slice (some ⟨wr.heap.size + 3, 0, none⟩) ts.length ts.length)) hlen (own_mono hT1 hbz) (fun j r a hj hr ha e => by
        have e2 : a = wr.heap.size + 3 := by injection e with e; exact e.symm
        have hr0 : (rs ++ List.replicate (q - k) zCell)[j]? = some r := by rw [rep_step zCell hlt]; exact hr
        have := (World.ownsRow.lt (hR0.tags j r hr0) a ha).2
        omega)
      rw [hkl] at c0 c1 c2 c3 hR2 hO2
      have HR2 : Hid (∃ rs, rs.map Prod.fst = cs.take (k + 1) ∧ RowU ((((w1.setCell ⟨w.heap.size, k * 4, none⟩ (.int .i64 val)).setCell ⟨w.heap.size, k * 4 + 1, none⟩ (.bool al)).setCell ⟨w.heap.size, k * 4 + 2, none⟩ (.int .i64 nx)).setCell ⟨w.heap.size, k * 4 + 3, none⟩ (.slice (some ⟨wr.heap.size + 3, 0, none⟩) ts.length ts.length)) w.heap.size (.slice (some ⟨w.heap.size, 0, none⟩) q q) (rs ++ List.replicate (q - (k + 1)) zCell)) := by
        refine ⟨rs ++ [(⟨val, al, nx, ts⟩, .slice (some ⟨wr.heap.size + 3, 0, none⟩) ts.length ts.length)], ?_, ?_⟩
        · rw [take_snoc HD.out, List.map_append, hrs]
          rfl
        · rw [List.append_assoc]
          exact hR2
      have hb2 : Below w.heap.size w ((((w1.setCell ⟨w.heap.size, k * 4, none⟩ (.int .i64 val)).setCell ⟨w.heap.size, k * 4 + 1, none⟩ (.bool al)).setCell ⟨w.heap.size, k * 4 + 2, none⟩ (.int .i64 nx)).setCell ⟨w.heap.size, k * 4 + 3, none⟩ (.slice (some ⟨wr.heap.size + 3, 0, none⟩) ts.length ts.length)) :=
        ((((hb.trans (hb1.mono hbz)).setCell (Nat.le_refl _) _).setCell (Nat.le_refl _) _).setCell (Nat.le_refl _) _).setCell (Nat.le_refl _) _
      have f0 := fz (k * 4)
      have f1 := fz (k * 4 + 1)
      have f2 := fz (k * 4 + 2)
      have f3 := fz (k * 4 + 3)
      unfold zCell at c0 c1 c2 c3
      clear hR hlen hR2 hO2 HR fz hkl hb hb1 a0 a1 a2 a3 hT hT1 hR0 hrs
      go_wp2_with fail
      go_roundw
      case rel => exact ⟨k + 1, by omega, by go_num, HR2, hb2⟩
      case measure => simp [intOf]; omega
    · have hk' : k = q := by omega
      subst hk'
      go_wp2_with fail
      go_ret
      refine ⟨rfl, ?_, hb⟩
      obtain ⟨rs, hrs, hR⟩ := HR.out
      have e1 : cs.take k = cs := by rw [HN.out, List.take_length]
      rw [Nat.sub_self, List.replicate_zero, List.append_nil] at hR
      exact ⟨rs, hrs.trans e1, hR⟩

theorem toPointer_any (a b : Int) (w : World) :
    Calls Tryd.prog 11 #[.agg #[.int .i64 a, .int .i64 b]] w fun e w' => e = .returned (.agg #[.int .i64 a, .int .i64 b]) ∧ Below w.heap.size w w' := by
  go_enter Tryd.func11, Tryd.ntmps11
  go_wp2_with fail
  refine bodyPost_ret (v := .agg #[.int .i64 a, .int .i64 b]) (by simp [results, Tryd.results11, go_sem]) rfl ⟨rfl, ?_⟩
  exact (((Below.refl _ _).alloc (Nat.le_refl _) _).alloc (by simp) _).alloc (by simp; omega) _

end Go.Proofs.YtnneamfndokleaaDoor
