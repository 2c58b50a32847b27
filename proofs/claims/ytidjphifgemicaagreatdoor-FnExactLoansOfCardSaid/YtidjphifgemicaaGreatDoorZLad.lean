/-
  The loan of a point is laid in the lending.
-/
import Derived.Test.YtidjphifgemicaaGreatDoorZLlb
namespace Go.Proofs.YtidjphifgemicaaGreatDoor
open Go.RowKit Go.Deep
set_option linter.unusedVariables false

/-- The lending's memory, by its sets. -/
structure LndQ (ts : List Int) (ns : List Nd) (C F hi : Nat) (A : Option Addr) (c : Nat) (ah bk : Nat → Nat) (L : Nat) (fm fu : Nat) (ff : Nat → Nat) (mb lv : Nat → Nat) (w : World) : Prop where
  fl : FlowsIn ts ns C F hi A c ah bk w
  row : ∃ cs, w.heap[L]? = some (.cells cs 77 (0, 0)) ∧ cs.size = 558 ∧ cs[0]? = some (.pointer (some ⟨F, 0, none⟩)) ∧ cs[1]? = some (.int .u64 (fm : Int)) ∧ cs[2]? = some (.int .u64 (fu : Int)) ∧ (∀ v, v < 6 → cs[3 + v]? = some (.int .u64 (ff v : Int))) ∧ VRow cs 9 mb ∧ VRow cs 70 lv
  lt : F < L ∧ C < L ∧ hi ≤ L

section
variable {ts : List Int} {ns : List Nd} {C F hi : Nat} {A : Option Addr} {c : Nat} {ah bk : Nat → Nat} {L : Nat} {fm fu : Nat} {ff : Nat → Nat} {mb lv : Nat → Nat} {a b : World}

theorem LndIn.q {m : Nat} (h : LndIn ts ns C F hi A c ah bk L m mb lv a) : LndQ ts ns C F hi A c ah bk L (bitsK (isLoan ns) m) (bitsK (isUniq ns) m) (fun v => bitsK (isFrom ns v) m) mb lv a := by
  obtain ⟨cs, h1, h2, h3, h4⟩ := h.row
  exact ⟨h.fl, ⟨cs, h1, h2.size, h2.fl, h2.made, h2.uniq, h2.from_, h3, h4⟩, h.lt⟩

theorem LndQ.ofQ {m : Nat} (h : LndQ ts ns C F hi A c ah bk L fm fu ff mb lv a) (e1 : fm = bitsK (isLoan ns) m) (e2 : fu = bitsK (isUniq ns) m) (e3 : ∀ v, v < 6 → ff v = bitsK (isFrom ns v) m) : LndIn ts ns C F hi A c ah bk L m mb lv a := by
  obtain ⟨cs, h1, h2, h3, h4, h5, h6, h7, h8⟩ := h.row
  exact ⟨h.fl, ⟨cs, h1, ⟨h2, h3, by rw [← e1]; exact h4, by rw [← e2]; exact h5, fun v hv => by rw [← e3 v hv]; exact h6 v hv⟩, h7, h8⟩, h.lt⟩

theorem LndQ.ltW (h : LndQ ts ns C F hi A c ah bk L fm fu ff mb lv a) : L < a.heap.size := by
  obtain ⟨cs, h1, _⟩ := h.row
  exact heap_lt h1

theorem LndQ.keep (h : LndQ ts ns C F hi A c ah bk L fm fu ff mb lv a) (hb : Below a.heap.size a b) : LndQ ts ns C F hi A c ah bk L fm fu ff mb lv b := by
  refine ⟨h.fl.keep hb, ?_, h.lt⟩
  rw [hb.block L h.ltW]
  exact h.row

theorem LndQ.drew (h : LndQ ts ns C F hi A c ah bk L fm fu ff mb lv a) : LndQ ts ns C F hi A c ah bk L fm fu ff mb lv a.drew := h.keep (Below.refl _ _).drew

theorem LndQ.c1 (h : LndQ ts ns C F hi A c ah bk L fm fu ff mb lv a) : a.cell? ⟨L, 1, none⟩ = some (.int .u64 (fm : Int)) := by
  obtain ⟨cs, h1, h2, h3, h4, h5, h6, h7, h8⟩ := h.row
  rw [cell_of_block h1]; exact h4

theorem LndQ.c2 (h : LndQ ts ns C F hi A c ah bk L fm fu ff mb lv a) : a.cell? ⟨L, 2, none⟩ = some (.int .u64 (fu : Int)) := by
  obtain ⟨cs, h1, h2, h3, h4, h5, h6, h7, h8⟩ := h.row
  rw [cell_of_block h1]; exact h5

theorem LndQ.cF (h : LndQ ts ns C F hi A c ah bk L fm fu ff mb lv a) {v : Nat} (hv : v < 6) : a.cell? ⟨L, 3 + v, none⟩ = some (.int .u64 (ff v : Int)) := by
  obtain ⟨cs, h1, h2, h3, h4, h5, h6, h7, h8⟩ := h.row
  rw [cell_of_block h1]; exact h6 v hv

theorem LndQ.soft (h : LndQ ts ns C F hi A c ah bk L fm fu ff mb lv a) (o : Nat) : a.frozen? ⟨L, o, none⟩ = false := by
  obtain ⟨cs, h1, _⟩ := h.row
  exact frozen_of_row _ _ _ _ _ h1

theorem LndQ.put1 (h : LndQ ts ns C F hi A c ah bk L fm fu ff mb lv a) (x : Nat) : LndQ ts ns C F hi A c ah bk L x fu ff mb lv (a.setCell ⟨L, 1, none⟩ (.int .u64 (x : Int))) := by
  obtain ⟨cs, h1, h2, h3, h4, h5, h6, h7, h8⟩ := h.row
  refine ⟨h.fl.other h.lt.1 h.lt.2.1 h.lt.2.2 _ _, ⟨_, heap_setCell_same a L 1 cs _ _ h1, by simpa using h2, ?_, ?_, ?_, fun v hv => ?_, fun i hi => ?_, fun i hi => ?_⟩, h.lt⟩
  · rw [set_get (by omega), if_neg (by omega)]; exact h3
  · rw [set_get (by omega), if_pos rfl]
  · rw [set_get (by omega), if_neg (by omega)]; exact h5
  · rw [set_get (by omega), if_neg (by omega)]; exact h6 v hv
  · rw [set_get (by omega), if_neg (by omega)]; exact h7 i hi
  · rw [set_get (by omega), if_neg (by omega)]; exact h8 i hi

theorem LndQ.put2 (h : LndQ ts ns C F hi A c ah bk L fm fu ff mb lv a) (x : Nat) : LndQ ts ns C F hi A c ah bk L fm x ff mb lv (a.setCell ⟨L, 2, none⟩ (.int .u64 (x : Int))) := by
  obtain ⟨cs, h1, h2, h3, h4, h5, h6, h7, h8⟩ := h.row
  refine ⟨h.fl.other h.lt.1 h.lt.2.1 h.lt.2.2 _ _, ⟨_, heap_setCell_same a L 2 cs _ _ h1, by simpa using h2, ?_, ?_, ?_, fun v hv => ?_, fun i hi => ?_, fun i hi => ?_⟩, h.lt⟩
  · rw [set_get (by omega), if_neg (by omega)]; exact h3
  · rw [set_get (by omega), if_neg (by omega)]; exact h4
  · rw [set_get (by omega), if_pos rfl]
  · rw [set_get (by omega), if_neg (by omega)]; exact h6 v hv
  · rw [set_get (by omega), if_neg (by omega)]; exact h7 i hi
  · rw [set_get (by omega), if_neg (by omega)]; exact h8 i hi

theorem LndQ.putF (h : LndQ ts ns C F hi A c ah bk L fm fu ff mb lv a) {y : Nat} (hy : y < 6) (x : Nat) : LndQ ts ns C F hi A c ah bk L fm fu (setAt ff y x) mb lv (a.setCell ⟨L, 3 + y, none⟩ (.int .u64 (x : Int))) := by
  obtain ⟨cs, h1, h2, h3, h4, h5, h6, h7, h8⟩ := h.row
  refine ⟨h.fl.other h.lt.1 h.lt.2.1 h.lt.2.2 _ _, ⟨_, heap_setCell_same a L (3 + y) cs _ _ h1, by simpa using h2, ?_, ?_, ?_, fun v hv => ?_, fun i hi => ?_, fun i hi => ?_⟩, h.lt⟩
  · rw [set_get (by omega), if_neg (by omega)]; exact h3
  · rw [set_get (by omega), if_neg (by omega)]; exact h4
  · rw [set_get (by omega), if_neg (by omega)]; exact h5
  · rw [set_get (by omega)]
    unfold setAt
    by_cases hvy : v = y
    · subst hvy; rw [if_pos rfl, if_pos rfl]
    · rw [if_neg (by omega), if_neg hvy]; exact h6 v hv
  · rw [set_get (by omega), if_neg (by omega)]; exact h7 i hi
  · rw [set_get (by omega), if_neg (by omega)]; exact h8 i hi
end

theorem loan_from {ns : List Nd} {k Y fb : Nat} {d : Nd} (hd : ns[k]? = some d) (hop : d.op = 4 ∨ d.op = 5) (hy : d.y = (Y : Int)) (hfb : fb = bitsK (isFrom ns Y) k) (v : Nat) : setAt (fun v => bitsK (isFrom ns v) k) Y (fb ||| 2 ^ k) v = bitsK (isFrom ns v) (k + 1) := by
  show _ = (if isFrom ns v k then _ else _)
  rw [isFrom_at hd]
  unfold setAt
  by_cases hv : v = Y
  · subst hv
    rw [if_pos rfl, decide_eq_true ⟨hop, hy⟩, if_pos rfl, hfb]
  · rw [if_neg hv, decide_eq_false (fun e => hv (by have := e.2; omega)), if_neg (by simp)]

/-- A store into the lending's block, seen from below it. -/
theorem below_lset {L o : Nat} {x : Value} {w w' : World} (h : Below L w w') : Below L w (w'.setCell ⟨L, o, none⟩ x) := below_set h (Nat.le_refl _)

set_option maxRecDepth 100000 in
set_option maxHeartbeats 4000000 in
theorem addLoan_any (ts : List Int) (ns : List Nd) (C F hi : Nat) (A : Option Addr) (c : Nat) (ah bk : Nat → Nat) (L : Nat) (mb lv : Nat → Nat) (k : Nat) (d : Nd) (w : World) (h : LndIn ts ns C F hi A c ah bk L k mb lv w) (hA : AllTyped ts ns) (hd : ns[k]? = some d) :
    Calls Tryz.prog 88 #[.pointer (some ⟨L, 0, none⟩), .int .i64 k] w fun E w' => E = .returned (.tuple #[]) ∧ LndIn ts ns C F hi A c ah bk L (k + 1) mb lv w' ∧ Below L w w' := by
  have hkn := (List.getElem?_eq_some_iff.mp hd).1
  have hle := h.fl.gr.le
  have hk61 : k < 61 := by omega
  have he := effD_ok hA.1 (hA.2 k d hd)
  have hxy := he.xy
  obtain ⟨Y, hY⟩ : ∃ Y : Nat, d.y = (Y : Int) := ⟨d.y.toNat, by omega⟩
  have hY6 : Y < 6 := by omega
  have hLl := h.ltW
  have ki0 : (0 : Int) ≤ (k : Int) := by omega
  have ki1 : (k : Int) < 61 := by omega
  have yi0 : (0 : Int) ≤ (Y : Int) := by omega
  have yi1 : (Y : Int) < 6 := by omega
  obtain ⟨p0, p1, hrN⟩ := h.fl.gr.ndRange hd
  have HRN : Hid (w.rangeAt C (k * 7) [.int .i64 d.op, .int .i64 d.x, .int .i64 d.y, .int .i64 d.n, .int .i64 p0, .int .i64 p1, .int .i64 d.next.length]) := hrN w rfl
  have hc0 := h.flCell
  have hc1 := h.fl.grCell
  have HL := Lib.hid h
  have HDK := Lib.hid hd
  have hrowN := Lib.hid (heap_alloc_new w (.cells #[.int .i64 d.op, .int .i64 d.x, .int .i64 d.y, .int .i64 d.n, .int .i64 p0, .int .i64 p1, .int .i64 d.next.length] 81))
  have HBN := Lib.hid ((Below.refl w.heap.size w).alloc (Nat.le_refl _) (.cells #[.int .i64 d.op, .int .i64 d.x, .int .i64 d.y, .int .i64 d.n, .int .i64 p0, .int .i64 p1, .int .i64 d.next.length] 81))
  have HYY := Lib.hid hY
  have hiN : Hid ((Tryz.prog.info? 81).map (·.size) = some 7) := by exact (show (Tryz.prog.info? 81).map (·.size) = some 7 from by kernel_rfl)
  clear h hA hd he hrN hY hxy
  go_enter Tryz.func88, Tryz.ntmps88
  go_upto_region 1 with (first
    | ((with_reducible show wpList _ _ _ _ _ _); refine wpList_load_mid rfl 81 _ rfl C (k * 7) rfl [.int .i64 d.op, .int .i64 d.x, .int .i64 d.y, .int .i64 d.n, .int .i64 p0, .int .i64 p1, .int .i64 d.next.length] _ ?_ Tryz.underlying81 rfl hiN.out ?_; exact HRN.out))
  have HQ : Hid (LndQ ts ns C F hi A c ah bk L (bitsK (isLoan ns) k) (bitsK (isUniq ns) k) (fun v => bitsK (isFrom ns v) k) mb lv (w.alloc (.cells #[.int .i64 d.op, .int .i64 d.x, .int .i64 d.y, .int .i64 d.n, .int .i64 p0, .int .i64 p1, .int .i64 d.next.length] 81))) := (HL.out.keep HBN.out).q
  have HBL : Hid (Below L w (w.alloc (.cells #[.int .i64 d.op, .int .i64 d.x, .int .i64 d.y, .int .i64 d.n, .int .i64 p0, .int .i64 p1, .int .i64 d.next.length] 81))) := (HBN.out).mono (by omega)
  clear HRN hiN hc0 hc1 HL HBN
  generalize w.alloc (.cells #[.int .i64 d.op, .int .i64 d.x, .int .i64 d.y, .int .i64 d.n, .int .i64 p0, .int .i64 p1, .int .i64 d.next.length] 81) = w1 at *
  generalize hB : w.heap.size = B at *
  have hLB : L < B := hLl
  have HLB := Lib.hid hLB
  clear hB
  obtain ⟨op, hop⟩ : ∃ op, op = d.op := ⟨_, rfl⟩
  have c0 : w1.cell? ⟨B, 0, none⟩ = some (.int .i64 op) := by rw [hop]; exact (cell_of_block hrowN.out 0).trans rfl
  have c2 : w1.cell? ⟨B, 2, none⟩ = some (.int .i64 (Y : Int)) := by rw [← HYY.out]; exact (cell_of_block hrowN.out 2).trans rfl
  have HOP := Lib.hid hop
  have hlW := heap_lt hrowN.out
  have HBW := Lib.hid hlW
  clear hrowN hop hlW
  by_cases h45 : op = 4 ∨ op = 5
  · skip
    rcases h45 with h4 | h5
    · subst h4
      have q1 := HQ.out.c1
      have s1 := HQ.out.soft 1
      have hm61 := bitsK_61 (isLoan ns) (k := k) (by omega)
      obtain ⟨fm, hfm⟩ : ∃ fm, fm = bitsK (isLoan ns) k := ⟨_, rfl⟩
      rw [← hfm] at HQ q1 hm61
      have HFM := Lib.hid hfm
      clear hfm
      go_upto_region 2 with fail
      go_wp2_with fail
      refine (with_any fm k (by omega) (by omega) _).mono ?_
      rintro E w2 ⟨rfl, hb2⟩
      replace HQ := Lib.hid (HQ.out.keep hb2)
      have q1 := HQ.out.c1
      have s1 := HQ.out.soft 1
      have hs2 := hb2.size
      have hBw := HBW.out
      replace HBL := Lib.hid (HBL.out.trans (hb2.mono (by have := HLB.out; omega)))
      have c0 := (hb2.cell (p := ⟨B, 0, none⟩) hBw).trans c0
      have c2 := (hb2.cell (p := ⟨B, 2, none⟩) hBw).trans c2
      replace HBW : Hid (B < w2.heap.size) := Lib.hid (by omega)
      clear hb2 hs2 hBw
      go_upto_region 3 with fail
      replace HQ := Lib.hid (HQ.out.put1 (fm ||| 2 ^ k))
      replace HBL := Lib.hid (below_lset (o := 1) (x := (.int .u64 ((fm ||| 2 ^ k : Nat) : Int))) HBL.out)
      have h1o := heap_setCell_other w2 ⟨L, 1, none⟩ B (.int .u64 ((fm ||| 2 ^ k : Nat) : Int)) (by show B ≠ L; have := HLB.out; omega)
      have c0 := (World.cell?_of_block (a := ⟨B, 0, none⟩) h1o).trans c0
      have c2 := (World.cell?_of_block (a := ⟨B, 2, none⟩) h1o).trans c2
      have hs3 : (w2.setCell ⟨L, 1, none⟩ (.int .u64 ((fm ||| 2 ^ k : Nat) : Int))).heap.size = w2.heap.size := by simp [World.setCell]
      replace HBW : Hid (B < (w2.setCell ⟨L, 1, none⟩ (.int .u64 ((fm ||| 2 ^ k : Nat) : Int))).heap.size) := Lib.hid (by rw [hs3]; exact HBW.out)
      clear h1o hs3 q1 s1
      generalize w2.setCell ⟨L, 1, none⟩ (.int .u64 ((fm ||| 2 ^ k : Nat) : Int)) = w3 at *
      have C0 := Lib.hid c0
      have qF := HQ.out.cF hY6
      refine wp_region_held_drew (S := (fun w' => w'.cell? ⟨B, 2, none⟩ = some (.int .i64 (Y : Int)) ∧ ∃ z : Nat, w'.cell? ⟨L, 3 + Y, none⟩ = some (.int .u64 (z : Int)))) (by kernel_rfl) ⟨c2, _, qF⟩ (fun hHeld => ?_)
      replace HQ := Lib.hid HQ.out.drew
      replace HBL := Lib.hid HBL.out.drew
      replace HBW : Hid (B < w3.drew.heap.size) := HBW.out
      replace C0 : Hid (w3.drew.cell? ⟨B, 0, none⟩ = some (.int .i64 4)) := C0.out
      clear c0 c2 qF
      generalize w3.drew = wd at *
      have hf61 := bitsK_61 (isFrom ns Y) (k := k) (by omega)
      obtain ⟨fb, hfb⟩ : ∃ fb, fb = bitsK (isFrom ns Y) k := ⟨_, rfl⟩
      rw [← hfb] at hf61
      have HFB := Lib.hid hfb
      clear hfb
      refine wpAnyH_take (i := 0) (oi := { dst := some 34, op := Op.move (Operand.tmp 0), type := 64, pos := "l4_loans.go:109", after := #[], guard := none }) (v := .pointer (some ⟨L, 0, none⟩)) rfl (by kernel_rfl) (by kernel_rfl) (by kernel_rfl) (fun _ _ _ h => h) (Or.inl ⟨by rfl, fun w hSw => by go_simp⟩) hHeld ?_
      try simp only [Act.put, List.setIfInBounds_toArray, List.set_cons_zero, List.set_cons_succ]
      refine wpAnyH_take (i := 1) (oi := { dst := some 35, op := Op.fieldAddr 81 (Operand.tmp 4) 2, type := 0, pos := "l4_loans.go:109", after := #[], guard := none }) (v := .pointer (some ⟨B, 2, none⟩)) rfl (by kernel_rfl) (by kernel_rfl) (by kernel_rfl) (fun _ _ _ h => h) (Or.inl ⟨by rfl, fun w hSw => by go_simp⟩) hHeld ?_
      try simp only [Act.put, List.setIfInBounds_toArray, List.set_cons_zero, List.set_cons_succ]
      refine wpAnyH_take (i := 2) (oi := { dst := some 36, op := Op.load 3 (Operand.tmp 35), type := 3, pos := "l4_loans.go:109", after := #[{ on := 1, ground := Ground.data }], guard := none }) (v := .int .i64 (Y : Int)) rfl (by kernel_rfl) (by kernel_rfl) (by kernel_rfl) (fun _ _ _ h => h) (Or.inl ⟨by rfl, fun w9 hSw => by have h9 := hSw.1; go_simp⟩) hHeld ?_
      try simp only [Act.put, List.setIfInBounds_toArray, List.set_cons_zero, List.set_cons_succ]
      refine wpAnyH_take (i := 3) (oi := { dst := some 37, op := Op.move (Operand.tmp 0), type := 64, pos := "l4_loans.go:109", after := #[], guard := none }) (v := .pointer (some ⟨L, 0, none⟩)) rfl (by kernel_rfl) (by kernel_rfl) (by kernel_rfl) (fun _ _ _ h => h) (Or.inl ⟨by rfl, fun w hSw => by go_simp⟩) hHeld ?_
      try simp only [Act.put, List.setIfInBounds_toArray, List.set_cons_zero, List.set_cons_succ]
      refine wpAnyH_take (i := 4) (oi := { dst := some 38, op := Op.fieldAddr 81 (Operand.tmp 4) 2, type := 0, pos := "l4_loans.go:109", after := #[], guard := none }) (v := .pointer (some ⟨B, 2, none⟩)) rfl (by kernel_rfl) (by kernel_rfl) (by kernel_rfl) (fun _ _ _ h => h) (Or.inl ⟨by rfl, fun w hSw => by go_simp⟩) hHeld ?_
      try simp only [Act.put, List.setIfInBounds_toArray, List.set_cons_zero, List.set_cons_succ]
      refine wpAnyH_take (i := 5) (oi := { dst := some 39, op := Op.load 3 (Operand.tmp 38), type := 3, pos := "l4_loans.go:109", after := #[{ on := 4, ground := Ground.data }], guard := none }) (v := .int .i64 (Y : Int)) rfl (by kernel_rfl) (by kernel_rfl) (by kernel_rfl) (fun _ _ _ h => h) (Or.inl ⟨by rfl, fun w9 hSw => by have h9 := hSw.1; go_simp⟩) hHeld ?_
      try simp only [Act.put, List.setIfInBounds_toArray, List.set_cons_zero, List.set_cons_succ]
      refine wpAnyH_take (i := 6) (oi := { dst := some 40, op := Op.nilCheck (Operand.tmp 37), type := 0, pos := "l4_loans.go:109", after := #[{ on := 3, ground := Ground.data }], guard := none }) (v := .pointer (some ⟨L, 0, none⟩)) rfl (by kernel_rfl) (by kernel_rfl) (by kernel_rfl) (fun _ _ _ h => h) (Or.inl ⟨by rfl, fun w hSw => by go_simp⟩) hHeld ?_
      try simp only [Act.put, List.setIfInBounds_toArray, List.set_cons_zero, List.set_cons_succ]
      refine wpAnyH_take (i := 7) (oi := { dst := some 41, op := Op.fieldAddr 77 (Operand.tmp 40) 3, type := 0, pos := "l4_loans.go:109", after := #[{ on := 6, ground := Ground.data }], guard := none }) (v := .pointer (some ⟨L, 3, none⟩)) rfl (by kernel_rfl) (by kernel_rfl) (by kernel_rfl) (fun _ _ _ h => h) (Or.inl ⟨by rfl, fun w hSw => by go_simp⟩) hHeld ?_
      try simp only [Act.put, List.setIfInBounds_toArray, List.set_cons_zero, List.set_cons_succ]
      refine wpAnyH_take (i := 8) (oi := { dst := some 42, op := Op.indexAddr 71 (Operand.tmp 41) (Operand.tmp 39), type := 0, pos := "l4_loans.go:109", after := #[{ on := 7, ground := Ground.data }, { on := 5, ground := Ground.data }], guard := none }) (v := .pointer (some ⟨L, 3 + Y, none⟩)) rfl (by kernel_rfl) (by kernel_rfl) (by kernel_rfl) (fun _ _ _ h => h) (Or.inl ⟨by rfl, fun w hSw => by go_simp⟩) hHeld ?_
      try simp only [Act.put, List.setIfInBounds_toArray, List.set_cons_zero, List.set_cons_succ]
      refine wpAnyH_take (i := 10) (oi := { dst := some 44, op := Op.move (Operand.tmp 1), type := 3, pos := "l4_loans.go:109", after := #[], guard := none }) (v := .int .i64 (k : Int)) rfl (by kernel_rfl) (by kernel_rfl) (by kernel_rfl) (fun _ _ _ h => h) (Or.inl ⟨by rfl, fun w hSw => by go_simp⟩) hHeld ?_
      try simp only [Act.put, List.setIfInBounds_toArray, List.set_cons_zero, List.set_cons_succ]
      refine wpAnyH_take (i := 12) (oi := { dst := some 46, op := Op.nilCheck (Operand.tmp 34), type := 0, pos := "l4_loans.go:109", after := #[{ on := 0, ground := Ground.data }], guard := none }) (v := .pointer (some ⟨L, 0, none⟩)) rfl (by kernel_rfl) (by kernel_rfl) (by kernel_rfl) (fun _ _ _ h => h) (Or.inl ⟨by rfl, fun w hSw => by go_simp⟩) hHeld ?_
      try simp only [Act.put, List.setIfInBounds_toArray, List.set_cons_zero, List.set_cons_succ]
      refine wpAnyH_take (i := 13) (oi := { dst := some 47, op := Op.fieldAddr 77 (Operand.tmp 46) 3, type := 0, pos := "l4_loans.go:109", after := #[{ on := 12, ground := Ground.data }], guard := none }) (v := .pointer (some ⟨L, 3, none⟩)) rfl (by kernel_rfl) (by kernel_rfl) (by kernel_rfl) (fun _ _ _ h => h) (Or.inl ⟨by rfl, fun w hSw => by go_simp⟩) hHeld ?_
      try simp only [Act.put, List.setIfInBounds_toArray, List.set_cons_zero, List.set_cons_succ]
      refine wpAnyH_ready (rs := [9]) (by kernel_rfl) (by simp) ?_
      refine AllReadyH.cons (o := { dst := some 43, op := Op.load 69 (Operand.tmp 42), type := 69, pos := "l4_loans.go:109", after := #[{ on := 8, ground := Ground.data }], guard := none }) rfl (fun K hK => ?_) AllReadyH.nil
      have h9 : _ = some (Value.int .u64 (fb : Int)) := (HQ.out.cF hY6).trans (by rw [HFB.out])
      go_simp
      refine hK.out _ _ hHeld (fun hHeld => ?_)
      clear hK K h9
      refine wpAnyH_ready (rs := [11]) (by kernel_rfl) (by simp) ?_
      refine AllReadyH.cons (o := { dst := some 45, op := Op.call { callee := Callee.value (Operand.func 114), args := #[Operand.tmp 43, Operand.tmp 44], argTypes := #[69, 3] }, type := 69, pos := "l4_loans.go:109", after := #[{ on := 9, ground := Ground.data }, { on := 10, ground := Ground.data }], guard := none }) rfl (fun K hK => ?_) AllReadyH.nil
      go_simp
      refine (with_any fb k (by omega) (by omega) _).mono ?_
      rintro E wq ⟨rfl, hbq⟩
      have hBw := HBW.out
      have hLw : L < wd.heap.size := by have := HLB.out; omega
      refine hK.out _ _ ⟨(hbq.cell (p := ⟨B, 2, none⟩) hBw).trans hHeld.1, hHeld.2.imp fun z hz => (hbq.cell (p := ⟨L, 3 + Y, none⟩) hLw).trans hz⟩ (fun hHeld => ?_)
      replace HQ := Lib.hid (HQ.out.keep hbq)
      replace HBL := Lib.hid (HBL.out.trans (hbq.mono (by omega)))
      replace C0 := Lib.hid ((hbq.cell (p := ⟨B, 0, none⟩) hBw).trans C0.out)
      have hsq := hbq.size
      replace HBW : Hid (B < wq.heap.size) := Lib.hid (by omega)
      clear hK K hbq hBw hLw hsq
      refine wpAnyH_take (i := 14) (oi := { dst := some 48, op := Op.indexAddr 71 (Operand.tmp 47) (Operand.tmp 36), type := 0, pos := "l4_loans.go:109", after := #[{ on := 13, ground := Ground.data }, { on := 2, ground := Ground.data }, { on := 0, ground := Ground.phase }, { on := 1, ground := Ground.phase }, { on := 2, ground := Ground.phase }, { on := 3, ground := Ground.phase }, { on := 4, ground := Ground.phase }, { on := 5, ground := Ground.phase }, { on := 6, ground := Ground.phase }, { on := 7, ground := Ground.phase }, { on := 8, ground := Ground.phase }, { on := 9, ground := Ground.phase }, { on := 10, ground := Ground.phase }, { on := 11, ground := Ground.phase }], guard := none }) (v := .pointer (some ⟨L, 3 + Y, none⟩)) rfl (by kernel_rfl) (by kernel_rfl) (by kernel_rfl) (fun _ _ _ h => h) (Or.inl ⟨by rfl, fun w hSw => by go_simp⟩) hHeld ?_
      try simp only [Act.put, List.setIfInBounds_toArray, List.set_cons_zero, List.set_cons_succ]
      refine wpAnyH_ready (rs := [15]) (by kernel_rfl) (by simp) ?_
      refine AllReadyH.cons (o := { dst := none, op := Op.store 69 (Operand.tmp 48) (Operand.tmp 45), type := 0, pos := "l4_loans.go:109", after := #[{ on := 14, ground := Ground.data }, { on := 11, ground := Ground.data }, { on := 11, ground := Ground.chain }, { on := 0, ground := Ground.phase }, { on := 1, ground := Ground.phase }, { on := 2, ground := Ground.phase }, { on := 3, ground := Ground.phase }, { on := 4, ground := Ground.phase }, { on := 5, ground := Ground.phase }, { on := 6, ground := Ground.phase }, { on := 7, ground := Ground.phase }, { on := 8, ground := Ground.phase }, { on := 9, ground := Ground.phase }, { on := 10, ground := Ground.phase }, { on := 11, ground := Ground.phase }], guard := none }) rfl (fun K hK => ?_) AllReadyH.nil
      have cq := HQ.out.cF hY6
      have sq := HQ.out.soft (3 + Y)
      go_simp
      have h3o := heap_setCell_other wq ⟨L, 3 + Y, none⟩ B (.int .u64 ((fb ||| 2 ^ k : Nat) : Int)) (by show B ≠ L; have := HLB.out; omega)
      refine hK.out _ _ ⟨(World.cell?_of_block (a := ⟨B, 2, none⟩) h3o).trans hHeld.1, _, World.cell?_setCell_same _ _ _ cq⟩ (fun hHeld => ?_)
      replace C0 := Lib.hid ((World.cell?_of_block (a := ⟨B, 0, none⟩) h3o).trans C0.out)
      replace HQ := Lib.hid (HQ.out.putF hY6 (fb ||| 2 ^ k))
      replace HBL := Lib.hid (below_lset (o := 3 + Y) (x := (.int .u64 ((fb ||| 2 ^ k : Nat) : Int))) HBL.out)
      generalize wq.setCell ⟨L, 3 + Y, none⟩ (.int .u64 ((fb ||| 2 ^ k : Nat) : Int)) = w5 at *
      clear hK K h3o cq sq
      refine wpAnyH_done (by kernel_rfl) ?_ _
      clear hHeld
      have c0 := C0.out
      have E1 : Hid (fm ||| 2 ^ k = bitsK (isLoan ns) (k + 1)) := Lib.hid (by rw [HFM.out]; show _ = (if isLoan ns k then _ else _); rw [isLoan_at HDK.out, ← HOP.out]; rfl)
      have E3 : Hid (∀ v, v < 6 → setAt (fun v => bitsK (isFrom ns v) k) Y (fb ||| 2 ^ k) v = bitsK (isFrom ns v) (k + 1)) := Lib.hid (fun v hv => loan_from HDK.out (by rw [← HOP.out]; exact .inl rfl) HYY.out HFB.out v)
      go_wp2_with fail
      go_end0
      exact ⟨rfl, HQ.out.ofQ E1.out (by show _ = (if isUniq ns k then _ else _); rw [isUniq_at HDK.out, ← HOP.out]; rfl) E3.out, HBL.out⟩
    · subst h5
      have q1 := HQ.out.c1
      have s1 := HQ.out.soft 1
      have hm61 := bitsK_61 (isLoan ns) (k := k) (by omega)
      obtain ⟨fm, hfm⟩ : ∃ fm, fm = bitsK (isLoan ns) k := ⟨_, rfl⟩
      rw [← hfm] at HQ q1 hm61
      have HFM := Lib.hid hfm
      clear hfm
      go_upto_region 2 with fail
      go_wp2_with fail
      refine (with_any fm k (by omega) (by omega) _).mono ?_
      rintro E w2 ⟨rfl, hb2⟩
      replace HQ := Lib.hid (HQ.out.keep hb2)
      have q1 := HQ.out.c1
      have s1 := HQ.out.soft 1
      have hs2 := hb2.size
      have hBw := HBW.out
      replace HBL := Lib.hid (HBL.out.trans (hb2.mono (by have := HLB.out; omega)))
      have c0 := (hb2.cell (p := ⟨B, 0, none⟩) hBw).trans c0
      have c2 := (hb2.cell (p := ⟨B, 2, none⟩) hBw).trans c2
      replace HBW : Hid (B < w2.heap.size) := Lib.hid (by omega)
      clear hb2 hs2 hBw
      go_upto_region 3 with fail
      replace HQ := Lib.hid (HQ.out.put1 (fm ||| 2 ^ k))
      replace HBL := Lib.hid (below_lset (o := 1) (x := (.int .u64 ((fm ||| 2 ^ k : Nat) : Int))) HBL.out)
      have h1o := heap_setCell_other w2 ⟨L, 1, none⟩ B (.int .u64 ((fm ||| 2 ^ k : Nat) : Int)) (by show B ≠ L; have := HLB.out; omega)
      have c0 := (World.cell?_of_block (a := ⟨B, 0, none⟩) h1o).trans c0
      have c2 := (World.cell?_of_block (a := ⟨B, 2, none⟩) h1o).trans c2
      have hs3 : (w2.setCell ⟨L, 1, none⟩ (.int .u64 ((fm ||| 2 ^ k : Nat) : Int))).heap.size = w2.heap.size := by simp [World.setCell]
      replace HBW : Hid (B < (w2.setCell ⟨L, 1, none⟩ (.int .u64 ((fm ||| 2 ^ k : Nat) : Int))).heap.size) := Lib.hid (by rw [hs3]; exact HBW.out)
      clear h1o hs3 q1 s1
      generalize w2.setCell ⟨L, 1, none⟩ (.int .u64 ((fm ||| 2 ^ k : Nat) : Int)) = w3 at *
      have C0 := Lib.hid c0
      have qF := HQ.out.cF hY6
      refine wp_region_held_drew (S := (fun w' => w'.cell? ⟨B, 2, none⟩ = some (.int .i64 (Y : Int)) ∧ ∃ z : Nat, w'.cell? ⟨L, 3 + Y, none⟩ = some (.int .u64 (z : Int)))) (by kernel_rfl) ⟨c2, _, qF⟩ (fun hHeld => ?_)
      replace HQ := Lib.hid HQ.out.drew
      replace HBL := Lib.hid HBL.out.drew
      replace HBW : Hid (B < w3.drew.heap.size) := HBW.out
      replace C0 : Hid (w3.drew.cell? ⟨B, 0, none⟩ = some (.int .i64 5)) := C0.out
      clear c0 c2 qF
      generalize w3.drew = wd at *
      have hf61 := bitsK_61 (isFrom ns Y) (k := k) (by omega)
      obtain ⟨fb, hfb⟩ : ∃ fb, fb = bitsK (isFrom ns Y) k := ⟨_, rfl⟩
      rw [← hfb] at hf61
      have HFB := Lib.hid hfb
      clear hfb
      refine wpAnyH_take (i := 0) (oi := { dst := some 34, op := Op.move (Operand.tmp 0), type := 64, pos := "l4_loans.go:109", after := #[], guard := none }) (v := .pointer (some ⟨L, 0, none⟩)) rfl (by kernel_rfl) (by kernel_rfl) (by kernel_rfl) (fun _ _ _ h => h) (Or.inl ⟨by rfl, fun w hSw => by go_simp⟩) hHeld ?_
      try simp only [Act.put, List.setIfInBounds_toArray, List.set_cons_zero, List.set_cons_succ]
      refine wpAnyH_take (i := 1) (oi := { dst := some 35, op := Op.fieldAddr 81 (Operand.tmp 4) 2, type := 0, pos := "l4_loans.go:109", after := #[], guard := none }) (v := .pointer (some ⟨B, 2, none⟩)) rfl (by kernel_rfl) (by kernel_rfl) (by kernel_rfl) (fun _ _ _ h => h) (Or.inl ⟨by rfl, fun w hSw => by go_simp⟩) hHeld ?_
      try simp only [Act.put, List.setIfInBounds_toArray, List.set_cons_zero, List.set_cons_succ]
      refine wpAnyH_take (i := 2) (oi := { dst := some 36, op := Op.load 3 (Operand.tmp 35), type := 3, pos := "l4_loans.go:109", after := #[{ on := 1, ground := Ground.data }], guard := none }) (v := .int .i64 (Y : Int)) rfl (by kernel_rfl) (by kernel_rfl) (by kernel_rfl) (fun _ _ _ h => h) (Or.inl ⟨by rfl, fun w9 hSw => by have h9 := hSw.1; go_simp⟩) hHeld ?_
      try simp only [Act.put, List.setIfInBounds_toArray, List.set_cons_zero, List.set_cons_succ]
      refine wpAnyH_take (i := 3) (oi := { dst := some 37, op := Op.move (Operand.tmp 0), type := 64, pos := "l4_loans.go:109", after := #[], guard := none }) (v := .pointer (some ⟨L, 0, none⟩)) rfl (by kernel_rfl) (by kernel_rfl) (by kernel_rfl) (fun _ _ _ h => h) (Or.inl ⟨by rfl, fun w hSw => by go_simp⟩) hHeld ?_
      try simp only [Act.put, List.setIfInBounds_toArray, List.set_cons_zero, List.set_cons_succ]
      refine wpAnyH_take (i := 4) (oi := { dst := some 38, op := Op.fieldAddr 81 (Operand.tmp 4) 2, type := 0, pos := "l4_loans.go:109", after := #[], guard := none }) (v := .pointer (some ⟨B, 2, none⟩)) rfl (by kernel_rfl) (by kernel_rfl) (by kernel_rfl) (fun _ _ _ h => h) (Or.inl ⟨by rfl, fun w hSw => by go_simp⟩) hHeld ?_
      try simp only [Act.put, List.setIfInBounds_toArray, List.set_cons_zero, List.set_cons_succ]
      refine wpAnyH_take (i := 5) (oi := { dst := some 39, op := Op.load 3 (Operand.tmp 38), type := 3, pos := "l4_loans.go:109", after := #[{ on := 4, ground := Ground.data }], guard := none }) (v := .int .i64 (Y : Int)) rfl (by kernel_rfl) (by kernel_rfl) (by kernel_rfl) (fun _ _ _ h => h) (Or.inl ⟨by rfl, fun w9 hSw => by have h9 := hSw.1; go_simp⟩) hHeld ?_
      try simp only [Act.put, List.setIfInBounds_toArray, List.set_cons_zero, List.set_cons_succ]
      refine wpAnyH_take (i := 6) (oi := { dst := some 40, op := Op.nilCheck (Operand.tmp 37), type := 0, pos := "l4_loans.go:109", after := #[{ on := 3, ground := Ground.data }], guard := none }) (v := .pointer (some ⟨L, 0, none⟩)) rfl (by kernel_rfl) (by kernel_rfl) (by kernel_rfl) (fun _ _ _ h => h) (Or.inl ⟨by rfl, fun w hSw => by go_simp⟩) hHeld ?_
      try simp only [Act.put, List.setIfInBounds_toArray, List.set_cons_zero, List.set_cons_succ]
      refine wpAnyH_take (i := 7) (oi := { dst := some 41, op := Op.fieldAddr 77 (Operand.tmp 40) 3, type := 0, pos := "l4_loans.go:109", after := #[{ on := 6, ground := Ground.data }], guard := none }) (v := .pointer (some ⟨L, 3, none⟩)) rfl (by kernel_rfl) (by kernel_rfl) (by kernel_rfl) (fun _ _ _ h => h) (Or.inl ⟨by rfl, fun w hSw => by go_simp⟩) hHeld ?_
      try simp only [Act.put, List.setIfInBounds_toArray, List.set_cons_zero, List.set_cons_succ]
      refine wpAnyH_take (i := 8) (oi := { dst := some 42, op := Op.indexAddr 71 (Operand.tmp 41) (Operand.tmp 39), type := 0, pos := "l4_loans.go:109", after := #[{ on := 7, ground := Ground.data }, { on := 5, ground := Ground.data }], guard := none }) (v := .pointer (some ⟨L, 3 + Y, none⟩)) rfl (by kernel_rfl) (by kernel_rfl) (by kernel_rfl) (fun _ _ _ h => h) (Or.inl ⟨by rfl, fun w hSw => by go_simp⟩) hHeld ?_
      try simp only [Act.put, List.setIfInBounds_toArray, List.set_cons_zero, List.set_cons_succ]
      refine wpAnyH_take (i := 10) (oi := { dst := some 44, op := Op.move (Operand.tmp 1), type := 3, pos := "l4_loans.go:109", after := #[], guard := none }) (v := .int .i64 (k : Int)) rfl (by kernel_rfl) (by kernel_rfl) (by kernel_rfl) (fun _ _ _ h => h) (Or.inl ⟨by rfl, fun w hSw => by go_simp⟩) hHeld ?_
      try simp only [Act.put, List.setIfInBounds_toArray, List.set_cons_zero, List.set_cons_succ]
      refine wpAnyH_take (i := 12) (oi := { dst := some 46, op := Op.nilCheck (Operand.tmp 34), type := 0, pos := "l4_loans.go:109", after := #[{ on := 0, ground := Ground.data }], guard := none }) (v := .pointer (some ⟨L, 0, none⟩)) rfl (by kernel_rfl) (by kernel_rfl) (by kernel_rfl) (fun _ _ _ h => h) (Or.inl ⟨by rfl, fun w hSw => by go_simp⟩) hHeld ?_
      try simp only [Act.put, List.setIfInBounds_toArray, List.set_cons_zero, List.set_cons_succ]
      refine wpAnyH_take (i := 13) (oi := { dst := some 47, op := Op.fieldAddr 77 (Operand.tmp 46) 3, type := 0, pos := "l4_loans.go:109", after := #[{ on := 12, ground := Ground.data }], guard := none }) (v := .pointer (some ⟨L, 3, none⟩)) rfl (by kernel_rfl) (by kernel_rfl) (by kernel_rfl) (fun _ _ _ h => h) (Or.inl ⟨by rfl, fun w hSw => by go_simp⟩) hHeld ?_
      try simp only [Act.put, List.setIfInBounds_toArray, List.set_cons_zero, List.set_cons_succ]
      refine wpAnyH_ready (rs := [9]) (by kernel_rfl) (by simp) ?_
      refine AllReadyH.cons (o := { dst := some 43, op := Op.load 69 (Operand.tmp 42), type := 69, pos := "l4_loans.go:109", after := #[{ on := 8, ground := Ground.data }], guard := none }) rfl (fun K hK => ?_) AllReadyH.nil
      have h9 : _ = some (Value.int .u64 (fb : Int)) := (HQ.out.cF hY6).trans (by rw [HFB.out])
      go_simp
      refine hK.out _ _ hHeld (fun hHeld => ?_)
      clear hK K h9
      refine wpAnyH_ready (rs := [11]) (by kernel_rfl) (by simp) ?_
      refine AllReadyH.cons (o := { dst := some 45, op := Op.call { callee := Callee.value (Operand.func 114), args := #[Operand.tmp 43, Operand.tmp 44], argTypes := #[69, 3] }, type := 69, pos := "l4_loans.go:109", after := #[{ on := 9, ground := Ground.data }, { on := 10, ground := Ground.data }], guard := none }) rfl (fun K hK => ?_) AllReadyH.nil
      go_simp
      refine (with_any fb k (by omega) (by omega) _).mono ?_
      rintro E wq ⟨rfl, hbq⟩
      have hBw := HBW.out
      have hLw : L < wd.heap.size := by have := HLB.out; omega
      refine hK.out _ _ ⟨(hbq.cell (p := ⟨B, 2, none⟩) hBw).trans hHeld.1, hHeld.2.imp fun z hz => (hbq.cell (p := ⟨L, 3 + Y, none⟩) hLw).trans hz⟩ (fun hHeld => ?_)
      replace HQ := Lib.hid (HQ.out.keep hbq)
      replace HBL := Lib.hid (HBL.out.trans (hbq.mono (by omega)))
      replace C0 := Lib.hid ((hbq.cell (p := ⟨B, 0, none⟩) hBw).trans C0.out)
      have hsq := hbq.size
      replace HBW : Hid (B < wq.heap.size) := Lib.hid (by omega)
      clear hK K hbq hBw hLw hsq
      refine wpAnyH_take (i := 14) (oi := { dst := some 48, op := Op.indexAddr 71 (Operand.tmp 47) (Operand.tmp 36), type := 0, pos := "l4_loans.go:109", after := #[{ on := 13, ground := Ground.data }, { on := 2, ground := Ground.data }, { on := 0, ground := Ground.phase }, { on := 1, ground := Ground.phase }, { on := 2, ground := Ground.phase }, { on := 3, ground := Ground.phase }, { on := 4, ground := Ground.phase }, { on := 5, ground := Ground.phase }, { on := 6, ground := Ground.phase }, { on := 7, ground := Ground.phase }, { on := 8, ground := Ground.phase }, { on := 9, ground := Ground.phase }, { on := 10, ground := Ground.phase }, { on := 11, ground := Ground.phase }], guard := none }) (v := .pointer (some ⟨L, 3 + Y, none⟩)) rfl (by kernel_rfl) (by kernel_rfl) (by kernel_rfl) (fun _ _ _ h => h) (Or.inl ⟨by rfl, fun w hSw => by go_simp⟩) hHeld ?_
      try simp only [Act.put, List.setIfInBounds_toArray, List.set_cons_zero, List.set_cons_succ]
      refine wpAnyH_ready (rs := [15]) (by kernel_rfl) (by simp) ?_
      refine AllReadyH.cons (o := { dst := none, op := Op.store 69 (Operand.tmp 48) (Operand.tmp 45), type := 0, pos := "l4_loans.go:109", after := #[{ on := 14, ground := Ground.data }, { on := 11, ground := Ground.data }, { on := 11, ground := Ground.chain }, { on := 0, ground := Ground.phase }, { on := 1, ground := Ground.phase }, { on := 2, ground := Ground.phase }, { on := 3, ground := Ground.phase }, { on := 4, ground := Ground.phase }, { on := 5, ground := Ground.phase }, { on := 6, ground := Ground.phase }, { on := 7, ground := Ground.phase }, { on := 8, ground := Ground.phase }, { on := 9, ground := Ground.phase }, { on := 10, ground := Ground.phase }, { on := 11, ground := Ground.phase }], guard := none }) rfl (fun K hK => ?_) AllReadyH.nil
      have cq := HQ.out.cF hY6
      have sq := HQ.out.soft (3 + Y)
      go_simp
      have h3o := heap_setCell_other wq ⟨L, 3 + Y, none⟩ B (.int .u64 ((fb ||| 2 ^ k : Nat) : Int)) (by show B ≠ L; have := HLB.out; omega)
      refine hK.out _ _ ⟨(World.cell?_of_block (a := ⟨B, 2, none⟩) h3o).trans hHeld.1, _, World.cell?_setCell_same _ _ _ cq⟩ (fun hHeld => ?_)
      replace C0 := Lib.hid ((World.cell?_of_block (a := ⟨B, 0, none⟩) h3o).trans C0.out)
      replace HQ := Lib.hid (HQ.out.putF hY6 (fb ||| 2 ^ k))
      replace HBL := Lib.hid (below_lset (o := 3 + Y) (x := (.int .u64 ((fb ||| 2 ^ k : Nat) : Int))) HBL.out)
      generalize wq.setCell ⟨L, 3 + Y, none⟩ (.int .u64 ((fb ||| 2 ^ k : Nat) : Int)) = w5 at *
      clear hK K h3o cq sq
      refine wpAnyH_done (by kernel_rfl) ?_ _
      clear hHeld
      have c0 := C0.out
      have E1 : Hid (fm ||| 2 ^ k = bitsK (isLoan ns) (k + 1)) := Lib.hid (by rw [HFM.out]; show _ = (if isLoan ns k then _ else _); rw [isLoan_at HDK.out, ← HOP.out]; rfl)
      have E3 : Hid (∀ v, v < 6 → setAt (fun v => bitsK (isFrom ns v) k) Y (fb ||| 2 ^ k) v = bitsK (isFrom ns v) (k + 1)) := Lib.hid (fun v hv => loan_from HDK.out (by rw [← HOP.out]; exact .inr rfl) HYY.out HFB.out v)
      have q2 := HQ.out.c2
      have s2 := HQ.out.soft 2
      have hu61 := bitsK_61 (isUniq ns) (k := k) (by omega)
      obtain ⟨fu, hfu⟩ : ∃ fu, fu = bitsK (isUniq ns) k := ⟨_, rfl⟩
      rw [← hfu] at HQ q2 hu61
      have HFU := Lib.hid hfu
      clear hfu
      have hlq5 := HQ.out.ltW
      go_wp2_with fail
      refine (with_any fu k (by omega) (by omega) _).mono ?_
      rintro E w6 ⟨rfl, hb6⟩
      replace HQ := Lib.hid (HQ.out.keep hb6)
      have q2 := HQ.out.c2
      have s2 := HQ.out.soft 2
      replace HBL := Lib.hid (HBL.out.trans (hb6.mono (by omega)))
      have HFIN := Lib.hid (HQ.out.put2 (fu ||| 2 ^ k))
      have HBF := Lib.hid (below_lset (o := 2) (x := (.int .u64 ((fu ||| 2 ^ k : Nat) : Int))) HBL.out)
      clear hb6 HQ HBL
      go_wp2_with fail
      go_end0
      exact ⟨rfl, HFIN.out.ofQ E1.out (by rw [HFU.out]; show _ = (if isUniq ns k then _ else _); rw [isUniq_at HDK.out, ← HOP.out]; rfl) E3.out, HBF.out⟩
  · have n4 : ¬ op = 4 := fun h9 => h45 (.inl h9)
    have n5 : ¬ op = 5 := fun h9 => h45 (.inr h9)
    have m4 : (op != 4) = true := by simp [n4]
    have m5 : (op != 5) = true := by simp [n5]
    have HF : Hid (LndIn ts ns C F hi A c ah bk L (k + 1) mb lv w1) := (HQ.out.ofQ rfl rfl (fun _ _ => rfl)).skip HDK.out (by rw [← HOP.out]; exact h45)
    clear h45 HQ
    go_wp2_with fail
    refine bodyPost_ret (results_none rfl _ _ _) rfl ?_
    exact ⟨rfl, HF.out, HBL.out⟩

end Go.Proofs.YtidjphifgemicaaGreatDoor
