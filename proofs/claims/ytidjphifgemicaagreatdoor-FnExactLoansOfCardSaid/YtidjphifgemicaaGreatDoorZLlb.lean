/-
  What is known of loans behind a point, by the program: from which loans the values come.
-/
import Derived.Test.YtidjphifgemicaaGreatDoorZLpl
import Derived.Deep.DeepCutAuto
namespace Go.Proofs.YtidjphifgemicaaGreatDoor
open Go.RowKit Go.Deep
set_option linter.unusedVariables false

theorem heap_setCells_ne (W : World) (b bo o : Nat) (vs : List Value) (h : bo ≠ b) (hl : bo < W.heap.size) : (W.setCells b o vs).heap[bo]? = W.heap[bo]? :=
  World.heap_setCells_other _ _ _ _ (by omega) (by omega)

theorem row_set {W : World} {g : Nat} {t : TypeId} {cs : Array Value} (vs : List Value) (h : W.heap[g]? = some (.cells cs t (0, 0))) (hz : cs.size = vs.length) : (W.setCells g 0 vs).heap[g]? = some (.cells vs.toArray t (0, 0)) := by
  have h3 := heap_setCells vs 0 W cs h (by omega)
  rw [show vs = vs.toArray.toList from rfl, setN_all cs vs.toArray (by simpa using hz)] at h3
  exact h3

theorem row_there {W : World} {g n : Nat} {t : TypeId} {cs : Array Value} (h : W.heap[g]? = some (.cells cs t (0, 0))) (hn : cs.size = n) : W.there g 0 n := by
  subst hn
  intro j hj
  refine ⟨?_, frozen_of_row _ _ _ _ _ h⟩
  rw [cell_of_block h, Array.getElem?_eq_getElem (by omega)]
  rfl

theorem Gr.ndRange {C : Nat} {w : World} {ns : List Nd} {k : Nat} {d : Nd} (h : Gr C w ns) (hd : ns[k]? = some d) : ∃ p0 p1 : Int, ∀ w' : World, w'.heap[C]? = w.heap[C]? → w'.rangeAt C (k * 7) [.int .i64 d.op, .int .i64 d.x, .int .i64 d.y, .int .i64 d.n, .int .i64 p0, .int .i64 p1, .int .i64 d.next.length] := by
  obtain ⟨nw, nn, n2, no, nx, ny, nnn⟩ := h.node hd
  have hk := (List.getElem?_eq_some_iff.mp hd).1
  have hle := h.le
  obtain ⟨p0, hp0⟩ := h.int_ (j := k * 7 + 4) (by omega)
  obtain ⟨p1, hp1⟩ := h.int_ (j := k * 7 + 5) (by omega)
  refine ⟨p0, p1, fun w' hw' j v hv => ?_⟩
  have e : ∀ j, w'.cell? ⟨C, j, none⟩ = w.cell? ⟨C, j, none⟩ := fun j => World.cell?_of_block (a := ⟨C, j, none⟩) hw'
  rw [e]
  match j, hv with
  | 0, hv => simp only [List.getElem?_cons_zero, Option.some.injEq] at hv; rw [← hv]; exact no
  | 1, hv => simp only [List.getElem?_cons_succ, List.getElem?_cons_zero, Option.some.injEq] at hv; rw [← hv]; exact nx
  | 2, hv => simp only [List.getElem?_cons_succ, List.getElem?_cons_zero, Option.some.injEq] at hv; rw [← hv]; exact ny
  | 3, hv => simp only [List.getElem?_cons_succ, List.getElem?_cons_zero, Option.some.injEq] at hv; rw [← hv]; exact nnn
  | 4, hv => simp only [List.getElem?_cons_succ, List.getElem?_cons_zero, Option.some.injEq] at hv; rw [← hv]; exact hp0
  | 5, hv => simp only [List.getElem?_cons_succ, List.getElem?_cons_zero, Option.some.injEq] at hv; rw [← hv]; exact hp1
  | 6, hv => simp only [List.getElem?_cons_succ, List.getElem?_cons_zero, Option.some.injEq] at hv; rw [← hv]; exact nw
  | j + 7, hv => simp at hv

theorem FlowsIn.effRange {ts : List Int} {ns : List Nd} {C F hi : Nat} {A : Option Addr} {c : Nat} {ah bk : Nat → Nat} {a : World} (h : FlowsIn ts ns C F hi A c ah bk a) {k : Nat} {d : Nd} (hd : ns[k]? = some d) : a.rangeAt F (2 + k * 4) [.int .u64 ((effD ts d).r : Int), .int .u64 ((effD ts d).t : Int), .int .u64 ((effD ts d).c : Int), .int .u64 ((effD ts d).s : Int)] := by
  obtain ⟨e1, e2, e3, e4⟩ := h.effCell hd
  intro j v hv
  match j, hv with
  | 0, hv => simp only [List.getElem?_cons_zero, Option.some.injEq] at hv; rw [← hv]; exact e1
  | 1, hv => simp only [List.getElem?_cons_succ, List.getElem?_cons_zero, Option.some.injEq] at hv; rw [← hv]; exact e2
  | 2, hv => simp only [List.getElem?_cons_succ, List.getElem?_cons_zero, Option.some.injEq] at hv; rw [← hv]; exact e3
  | 3, hv => simp only [List.getElem?_cons_succ, List.getElem?_cons_zero, Option.some.injEq] at hv; rw [← hv]; exact e4
  | j + 4, hv => simp at hv

/-- The sets behind a point: what it hands on, what it makes. -/
def lentZ (ts : List Int) (d : Nd) (k : Nat) (x : Nat → Nat) (v : Nat) : Nat :=
  if (d.op = 4 ∨ d.op = 5) ∧ d.x = (v : Int) then x d.y.toNat ||| 2 ^ k
  else if d.op = 3 ∧ d.x = (v : Int) then x d.y.toNat
  else if ((effD ts d).t ||| (effD ts d).s).testBit v then 0 else x v

theorem lentZ_lt {ts : List Int} {d : Nd} {k : Nat} {x : Nat → Nat} (hk : k < 61) (hx : ∀ v, x v < 2305843009213693952) (v : Nat) : lentZ ts d k x v < 2305843009213693952 := by
  unfold lentZ
  have hp2 : 2 ^ k < 2 ^ 61 := Nat.pow_lt_pow_right (by decide) hk
  split
  · exact or_lt61 (hx _) hp2
  · split
    · exact hx _
    · split
      · decide
      · exact hx _

theorem lentZ_iff {ts : List Int} {ns : List Nd} {k : Nat} {d : Nd} (hd : ns[k]? = some d) (he : EfOk ts d (effD ts d)) {x : Nat → Nat} {v : Nat} (hv : v < 6) (l : Nat) :
    (lentZ ts d k x v).testBit l = true ↔ Beh (genL ns) (handL ts ns) k (bitR x) v l := by
  have hxy := he.xy
  have hlost := lost_bit hd he (v := v) (by omega)
  have hset : (d.op = 3 ∨ d.op = 4 ∨ d.op = 5) → d.x = (v : Int) → lostN ts ns k v := fun h1 h2 => .inr ((setsN_at hd v).mpr (by unfold setI; rw [if_pos (by omega)]; exact h2))
  have hgen : genL ns k v l ↔ (d.op = 4 ∨ d.op = 5) ∧ l = k ∧ d.x = (v : Int) := by
    constructor
    · rintro ⟨d', h1, h2, h3, h4, _⟩
      rw [hd] at h1
      cases h1
      exact ⟨h2, h3, h4.resolve_left (by omega)⟩
    · rintro ⟨h2, h3, h4⟩
      exact ⟨d, hd, h2, h3, .inr h4, by omega⟩
  unfold Beh
  rw [hgen]
  unfold lentZ
  by_cases h1 : (d.op = 4 ∨ d.op = 5) ∧ d.x = (v : Int)
  · rw [if_pos h1, Nat.testBit_or, Bool.or_eq_true, Nat.testBit_two_pow, decide_eq_true_eq]
    constructor
    · rintro (h9 | h9)
      · exact .inr ⟨d.y.toNat, by omega, h9, .inl ⟨hv, by omega, .inl ⟨d, hd, .inr h1.1, h1.2, by omega⟩⟩⟩
      · exact .inl ⟨h1.1, h9.symm, h1.2⟩
    · rintro (h9 | ⟨u, hu, h8, h9⟩)
      · exact .inr h9.2.1.symm
      · rcases h9 with ⟨_, hu6, ⟨d', h2, h3, h4, h5⟩ | ⟨_, h7⟩⟩ | ⟨h7, _⟩
        · rw [hd] at h2
          cases h2
          have : d.y.toNat = u := by omega
          rw [this]
          exact .inl h8
        · exact absurd (hset (.inr h1.1) h1.2) h7
        · omega
  · rw [if_neg h1]
    by_cases h2 : d.op = 3 ∧ d.x = (v : Int)
    · rw [if_pos h2]
      constructor
      · intro h9
        exact .inr ⟨d.y.toNat, by omega, h9, .inl ⟨hv, by omega, .inl ⟨d, hd, .inl h2.1, h2.2, by omega⟩⟩⟩
      · rintro (h9 | ⟨u, hu, h8, h9⟩)
        · exact absurd ⟨h9.1, h9.2.2⟩ h1
        · rcases h9 with ⟨_, hu6, ⟨d', h3, h4, h5, h6⟩ | ⟨_, h7⟩⟩ | ⟨h7, _⟩
          · rw [hd] at h3
            cases h3
            have : d.y.toNat = u := by omega
            rw [this]
            exact h8
          · exact absurd (hset (.inl h2.1) h2.2) h7
          · omega
    · rw [if_neg h2]
      by_cases h3 : ((effD ts d).t ||| (effD ts d).s).testBit v = true
      · rw [if_pos h3, Nat.zero_testBit]
        simp only [Bool.false_eq_true, false_iff]
        rintro (h9 | ⟨u, hu, h8, h9⟩)
        · exact h1 ⟨h9.1, h9.2.2⟩
        · rcases h9 with ⟨_, hu6, ⟨d', h4, h5, h6, h7⟩ | ⟨_, h7⟩⟩ | ⟨h7, _⟩
          · rw [hd] at h4
            cases h4
            rcases h5 with h5 | h5
            · exact h2 ⟨h5, h6⟩
            · exact h1 ⟨h5, h6⟩
          · exact h7 (hlost.mp h3)
          · omega
      · rw [if_neg h3]
        constructor
        · intro h9
          exact .inr ⟨v, by omega, h9, .inl ⟨hv, hv, .inr ⟨rfl, fun h => h3 (hlost.mpr h)⟩⟩⟩
        · rintro (h9 | ⟨u, hu, h8, h9⟩)
          · exact absurd ⟨h9.1, h9.2.2⟩ h1
          · rcases h9 with ⟨_, hu6, ⟨d', h4, h5, h6, h7⟩ | ⟨rfl, _⟩⟩ | ⟨h7, _⟩
            · rw [hd] at h4
              cases h4
              rcases h5 with h5 | h5
              · exact absurd ⟨h5, h6⟩ h2
              · exact absurd ⟨h5, h6⟩ h1
            · exact h8
            · omega

theorem perC_congr {x y : Nat → Nat} (h : ∀ v, v < 6 → x v = y v) : perC x = perC y := by
  unfold perC
  rw [h 0 (by omega), h 1 (by omega), h 2 (by omega), h 3 (by omega), h 4 (by omega), h 5 (by omega)]

theorem PerAt.allRow {w : World} {B : Nat} {x : Nat → Nat} (h : PerAt w B x) (y : Nat → Nat) : (w.setCells B 0 (perC y)).heap[B]? = some (.cells (perC y).toArray 71 (0, 0)) := by
  obtain ⟨cs, h1, h2, _⟩ := h
  exact row_set (perC y) h1 h2

/-- The sets where the first of some variables are emptied. -/
def lessZ (bl : List Nat) (j : Nat) (x : Nat → Nat) (v : Nat) : Nat := if v ∈ bl.take j then 0 else x v

theorem lessZ_next {bl : List Nat} {j b : Nat} (hb : bl[j]? = some b) (x : Nat → Nat) (v : Nat) : setAt (lessZ bl j x) b 0 v = lessZ bl (j + 1) x v := by
  have e : bl.take (j + 1) = bl.take j ++ [b] := by rw [List.take_add_one, hb]; rfl
  unfold setAt lessZ
  rw [e]
  simp only [List.mem_append, List.mem_cons, List.not_mem_nil, or_false]
  by_cases h : v = b
  · rw [if_pos h, if_pos (.inr h)]
  · rw [if_neg h]
    by_cases h2 : v ∈ bl.take j
    · rw [if_pos h2, if_pos (.inl h2)]
    · rw [if_neg h2, if_neg (by rintro (h9 | h9); exact h2 h9; exact h h9)]

set_option maxRecDepth 100000 in
set_option maxHeartbeats 8000000 in
theorem loansBehind_any (ts : List Int) (ns : List Nd) (q C F hi : Nat) (A : Option Addr) (c : Nat) (ah bk : Nat → Nat) (L : Nat) (mb lv : Nat → Nat) (k : Nat) (x : Nat → Nat) (d : Nd) (w : World) (h : LndIn ts ns C F hi A c ah bk L ns.length mb lv w) (hD : PtsOk q ns) (hA : AllTyped ts ns) (hd : ns[k]? = some d) (hTab : TabAt 0 Lib.deBruijn64tab w) (hg : 0 < w.heap.size) (hx : ∀ v, x v < 2305843009213693952) :
    Calls Tryz.prog 122 #[.pointer (some ⟨L, 0, none⟩), .int .i64 k, .agg (perC x).toArray] w fun E w' => E = .returned (.agg (perC (lentZ ts d k x)).toArray) ∧ Below w.heap.size w w' := by
  have hkn := (List.getElem?_eq_some_iff.mp hd).1
  have hle := h.fl.gr.le
  have hk61 : k < 61 := by omega
  have he := effD_ok hA.1 (hA.2 k d hd)
  have hLl := h.ltW
  have hlt := h.lt
  have ki0 : (0 : Int) ≤ (k : Int) := by omega
  have ki1 : (k : Int) < 61 := by omega
  have HL := Lib.hid h
  have HTAB := Lib.hid hTab
  have HDK := Lib.hid hd
  have HE := Lib.hid he
  have hb0 := ((Below.refl w.heap.size w).alloc (Nat.le_refl _) (.cells (perC x).toArray 71)).alloc (by simp) (.cells #[.int .u64 0, .int .u64 0, .int .u64 0, .int .u64 0, .int .u64 0, .int .u64 0] 71)
  have hp0 := PerAt.new w x
  have hp1 : PerAt ((w.alloc (.cells (perC x).toArray 71)).alloc (.cells #[.int .u64 0, .int .u64 0, .int .u64 0, .int .u64 0, .int .u64 0, .int .u64 0] 71)) w.heap.size x := hp0.keep ((Below.refl _ _).alloc (Nat.le_refl _) _)
  have hp6 : PerAt ((w.alloc (.cells (perC x).toArray 71)).alloc (.cells #[.int .u64 0, .int .u64 0, .int .u64 0, .int .u64 0, .int .u64 0, .int .u64 0] 71)) (w.alloc (.cells (perC x).toArray 71)).heap.size (fun _ => 0) := PerAt.new (w.alloc (.cells (perC x).toArray 71)) (fun _ => 0)
  have hz1 : (w.alloc (.cells (perC x).toArray 71)).heap.size = w.heap.size + 1 := by simp
  have hz2 : ((w.alloc (.cells (perC x).toArray 71)).alloc (.cells #[.int .u64 0, .int .u64 0, .int .u64 0, .int .u64 0, .int .u64 0, .int .u64 0] 71)).heap.size = w.heap.size + 2 := by simp
  rw [hz1] at hp6
  clear h hTab hD hA hd he hp0 hz1
  go_enter Tryz.func122, Tryz.ntmps122
  go_upto_region 1 with fail
  generalize (w.alloc (.cells (perC x).toArray 71)).alloc (.cells #[.int .u64 0, .int .u64 0, .int .u64 0, .int .u64 0, .int .u64 0, .int .u64 0] 71) = w1 at *
  have HL1 := Lib.hid (HL.out.keep hb0)
  have HP0 := Lib.hid hp1
  have HP6 := Lib.hid hp6
  have HB0 := Lib.hid hb0
  have HZ2 := Lib.hid hz2
  clear hb0 hp1 hp6 hz2 HL
  go_cut [7, 8] (fun s7 s8 wx => ∃ (b7 b8 : Nat) (p0 p1 : Int), s7 = .pointer (some ⟨b7, 0, none⟩) ∧ s8 = .pointer (some ⟨b8, 0, none⟩) ∧ wx.heap[b7]? = some (.cells ([.int .i64 d.op, .int .i64 d.x, .int .i64 d.y, .int .i64 d.n, .int .i64 p0, .int .i64 p1, .int .i64 d.next.length] : List Value).toArray 81 (0, 0)) ∧ wx.heap[b8]? = some (.cells ([.int .u64 ((effD ts d).r : Int), .int .u64 ((effD ts d).t : Int), .int .u64 ((effD ts d).c : Int), .int .u64 ((effD ts d).s : Int)] : List Value).toArray 86 (0, 0)) ∧ w1.heap.size ≤ b7 ∧ w1.heap.size ≤ b8 ∧ Below w1.heap.size w1 wx)
  case first =>
    obtain ⟨p0, p1, hrN⟩ := HL1.out.fl.gr.ndRange HDK.out
    have hrN : Hid (∀ w9, Below w1.heap.size w1 w9 → w9.rangeAt C (k * 7) [.int .i64 d.op, .int .i64 d.x, .int .i64 d.y, .int .i64 d.n, .int .i64 p0, .int .i64 p1, .int .i64 d.next.length]) := fun w9 h9 => hrN w9 (h9.block C (by have := HL1.out.ltW; omega))
    have hrE : Hid (∀ w9, Below w1.heap.size w1 w9 → w9.rangeAt F (2 + k * 4) [.int .u64 ((effD ts d).r : Int), .int .u64 ((effD ts d).t : Int), .int .u64 ((effD ts d).c : Int), .int .u64 ((effD ts d).s : Int)]) := fun w9 h9 => (HL1.out.keep h9).fl.effRange HDK.out
    refine wp_region_held_drew (S := fun w9 => Below w1.heap.size w1 w9) (by kernel_rfl) (Below.refl _ _).drew (fun hHeld => ?_)
    generalize hwd : w1.drew = wd at *
    clear hwd
    refine wpAnyH_take (i := 0) (oi := { dst := some 12, op := Op.move (Operand.tmp 0), type := 64, pos := "l4_loans.go:122", after := #[], guard := none }) (v := .pointer (some ⟨L, 0, none⟩)) rfl (by kernel_rfl) (by kernel_rfl) (by kernel_rfl) (fun _ _ _ h => h) (Or.inl ⟨by rfl, fun w hSw => by go_simp⟩) hHeld ?_
    try simp only [Act.put, List.setIfInBounds_toArray, List.set_cons_zero, List.set_cons_succ]
    refine wpAnyH_take (i := 1) (oi := { dst := some 13, op := Op.nilCheck (Operand.tmp 12), type := 0, pos := "l4_loans.go:122", after := #[{ on := 0, ground := Ground.data }], guard := none }) (v := .pointer (some ⟨L, 0, none⟩)) rfl (by kernel_rfl) (by kernel_rfl) (by kernel_rfl) (fun _ _ _ h => h) (Or.inl ⟨by rfl, fun w hSw => by go_simp⟩) hHeld ?_
    try simp only [Act.put, List.setIfInBounds_toArray, List.set_cons_zero, List.set_cons_succ]
    refine wpAnyH_take (i := 2) (oi := { dst := some 14, op := Op.fieldAddr 77 (Operand.tmp 13) 0, type := 0, pos := "l4_loans.go:122", after := #[{ on := 1, ground := Ground.data }], guard := none }) (v := .pointer (some ⟨L, 0, none⟩)) rfl (by kernel_rfl) (by kernel_rfl) (by kernel_rfl) (fun _ _ _ h => h) (Or.inl ⟨by rfl, fun w hSw => by go_simp⟩) hHeld ?_
    try simp only [Act.put, List.setIfInBounds_toArray, List.set_cons_zero, List.set_cons_succ]
    refine wpAnyH_take (i := 3) (oi := { dst := some 15, op := Op.load 67 (Operand.tmp 14), type := 67, pos := "l4_loans.go:122", after := #[{ on := 2, ground := Ground.data }], guard := none }) (v := .pointer (some ⟨F, 0, none⟩)) rfl (by kernel_rfl) (by kernel_rfl) (by kernel_rfl) (fun _ _ _ h => h) (Or.inl ⟨by rfl, fun w9 hSw => by have h9 := (HL1.out.keep hSw).flCell; go_simp⟩) hHeld ?_
    try simp only [Act.put, List.setIfInBounds_toArray, List.set_cons_zero, List.set_cons_succ]
    refine wpAnyH_take (i := 4) (oi := { dst := some 16, op := Op.nilCheck (Operand.tmp 15), type := 0, pos := "l4_loans.go:122", after := #[{ on := 3, ground := Ground.data }], guard := none }) (v := .pointer (some ⟨F, 0, none⟩)) rfl (by kernel_rfl) (by kernel_rfl) (by kernel_rfl) (fun _ _ _ h => h) (Or.inl ⟨by rfl, fun w hSw => by go_simp⟩) hHeld ?_
    try simp only [Act.put, List.setIfInBounds_toArray, List.set_cons_zero, List.set_cons_succ]
    refine wpAnyH_take (i := 5) (oi := { dst := some 17, op := Op.fieldAddr 92 (Operand.tmp 16) 0, type := 0, pos := "l4_loans.go:122", after := #[{ on := 4, ground := Ground.data }], guard := none }) (v := .pointer (some ⟨F, 0, none⟩)) rfl (by kernel_rfl) (by kernel_rfl) (by kernel_rfl) (fun _ _ _ h => h) (Or.inl ⟨by rfl, fun w hSw => by go_simp⟩) hHeld ?_
    try simp only [Act.put, List.setIfInBounds_toArray, List.set_cons_zero, List.set_cons_succ]
    refine wpAnyH_take (i := 6) (oi := { dst := some 18, op := Op.load 82 (Operand.tmp 17), type := 82, pos := "l4_loans.go:122", after := #[{ on := 5, ground := Ground.data }], guard := none }) (v := .pointer (some ⟨C, 0, none⟩)) rfl (by kernel_rfl) (by kernel_rfl) (by kernel_rfl) (fun _ _ _ h => h) (Or.inl ⟨by rfl, fun w9 hSw => by have h9 := (HL1.out.keep hSw).fl.grCell; go_simp⟩) hHeld ?_
    try simp only [Act.put, List.setIfInBounds_toArray, List.set_cons_zero, List.set_cons_succ]
    refine wpAnyH_take (i := 7) (oi := { dst := some 19, op := Op.move (Operand.tmp 1), type := 3, pos := "l4_loans.go:122", after := #[], guard := none }) (v := .int .i64 (k : Int)) rfl (by kernel_rfl) (by kernel_rfl) (by kernel_rfl) (fun _ _ _ h => h) (Or.inl ⟨by rfl, fun w hSw => by go_simp⟩) hHeld ?_
    try simp only [Act.put, List.setIfInBounds_toArray, List.set_cons_zero, List.set_cons_succ]
    refine wpAnyH_take (i := 8) (oi := { dst := some 20, op := Op.nilCheck (Operand.tmp 18), type := 0, pos := "l4_loans.go:122", after := #[{ on := 6, ground := Ground.data }], guard := none }) (v := .pointer (some ⟨C, 0, none⟩)) rfl (by kernel_rfl) (by kernel_rfl) (by kernel_rfl) (fun _ _ _ h => h) (Or.inl ⟨by rfl, fun w hSw => by go_simp⟩) hHeld ?_
    try simp only [Act.put, List.setIfInBounds_toArray, List.set_cons_zero, List.set_cons_succ]
    refine wpAnyH_take (i := 9) (oi := { dst := some 21, op := Op.fieldAddr 95 (Operand.tmp 20) 0, type := 0, pos := "l4_loans.go:122", after := #[{ on := 8, ground := Ground.data }], guard := none }) (v := .pointer (some ⟨C, 0, none⟩)) rfl (by kernel_rfl) (by kernel_rfl) (by kernel_rfl) (fun _ _ _ h => h) (Or.inl ⟨by rfl, fun w hSw => by go_simp⟩) hHeld ?_
    try simp only [Act.put, List.setIfInBounds_toArray, List.set_cons_zero, List.set_cons_succ]
    refine wpAnyH_take (i := 10) (oi := { dst := some 22, op := Op.indexAddr 93 (Operand.tmp 21) (Operand.tmp 19), type := 0, pos := "l4_loans.go:122", after := #[{ on := 9, ground := Ground.data }, { on := 7, ground := Ground.data }], guard := none }) (v := .pointer (some ⟨C, k * 7, none⟩)) rfl (by kernel_rfl) (by kernel_rfl) (by kernel_rfl) (fun _ _ _ h => h) (Or.inl ⟨by rfl, fun w hSw => by go_simp⟩) hHeld ?_
    try simp only [Act.put, List.setIfInBounds_toArray, List.set_cons_zero, List.set_cons_succ]
    refine wpAnyH_take (i := 11) (oi := { dst := some 23, op := Op.load 81 (Operand.tmp 22), type := 81, pos := "l4_loans.go:122", after := #[{ on := 10, ground := Ground.data }], guard := none }) (v := .agg ([.int .i64 d.op, .int .i64 d.x, .int .i64 d.y, .int .i64 d.n, .int .i64 p0, .int .i64 p1, .int .i64 d.next.length] : List Value).toArray) rfl (by kernel_rfl) (by kernel_rfl) (by kernel_rfl) (fun _ _ _ h => h) (yieldsIf_load_mid (by rfl) _ _ rfl C (k * 7) rfl [.int .i64 d.op, .int .i64 d.x, .int .i64 d.y, .int .i64 d.n, .int .i64 p0, .int .i64 p1, .int .i64 d.next.length] _ (fun w9 hSw => hrN.out w9 hSw) Tryz.underlying81 rfl (by kernel_rfl)) hHeld ?_
    try simp only [Act.put, List.setIfInBounds_toArray, List.set_cons_zero, List.set_cons_succ]
    refine wpAnyH_take (i := 12) (oi := { dst := some 24, op := Op.move (Operand.tmp 0), type := 64, pos := "l4_loans.go:122", after := #[{ on := 23, ground := Ground.gcOnly Departure.lateStores }], guard := none }) (v := .pointer (some ⟨L, 0, none⟩)) rfl (by kernel_rfl) (by kernel_rfl) (by kernel_rfl) (fun _ _ _ h => h) (Or.inl ⟨by rfl, fun w hSw => by go_simp⟩) hHeld ?_
    try simp only [Act.put, List.setIfInBounds_toArray, List.set_cons_zero, List.set_cons_succ]
    refine wpAnyH_take (i := 13) (oi := { dst := some 25, op := Op.nilCheck (Operand.tmp 24), type := 0, pos := "l4_loans.go:122", after := #[{ on := 12, ground := Ground.data }, { on := 23, ground := Ground.gcOnly Departure.lateStores }], guard := none }) (v := .pointer (some ⟨L, 0, none⟩)) rfl (by kernel_rfl) (by kernel_rfl) (by kernel_rfl) (fun _ _ _ h => h) (Or.inl ⟨by rfl, fun w hSw => by go_simp⟩) hHeld ?_
    try simp only [Act.put, List.setIfInBounds_toArray, List.set_cons_zero, List.set_cons_succ]
    refine wpAnyH_take (i := 14) (oi := { dst := some 26, op := Op.fieldAddr 77 (Operand.tmp 25) 0, type := 0, pos := "l4_loans.go:122", after := #[{ on := 13, ground := Ground.data }, { on := 23, ground := Ground.gcOnly Departure.lateStores }], guard := none }) (v := .pointer (some ⟨L, 0, none⟩)) rfl (by kernel_rfl) (by kernel_rfl) (by kernel_rfl) (fun _ _ _ h => h) (Or.inl ⟨by rfl, fun w hSw => by go_simp⟩) hHeld ?_
    try simp only [Act.put, List.setIfInBounds_toArray, List.set_cons_zero, List.set_cons_succ]
    refine wpAnyH_take (i := 16) (oi := { dst := some 28, op := Op.move (Operand.tmp 1), type := 3, pos := "l4_loans.go:122", after := #[{ on := 23, ground := Ground.gcOnly Departure.lateStores }], guard := none }) (v := .int .i64 (k : Int)) rfl (by kernel_rfl) (by kernel_rfl) (by kernel_rfl) (fun _ _ _ h => h) (Or.inl ⟨by rfl, fun w hSw => by go_simp⟩) hHeld ?_
    try simp only [Act.put, List.setIfInBounds_toArray, List.set_cons_zero, List.set_cons_succ]
    refine wpAnyH_ready (rs := [15, 21, 22]) (by kernel_rfl) (by simp) ?_
    refine AllReadyH.cons (o := { dst := some 27, op := Op.load 67 (Operand.tmp 26), type := 67, pos := "l4_loans.go:122", after := #[{ on := 14, ground := Ground.data }, { on := 23, ground := Ground.gcOnly Departure.lateStores }], guard := none }) rfl (fun K hK => ?_) ?_
    · skip
      have h9 := (HL1.out.keep hHeld).flCell
      go_simp
      refine hK.out _ _ hHeld (fun hHeld => ?_)
      clear hK K h9
      refine wpAnyH_take (i := 17) (oi := { dst := some 29, op := Op.nilCheck (Operand.tmp 27), type := 0, pos := "l4_loans.go:122", after := #[{ on := 15, ground := Ground.data }, { on := 23, ground := Ground.gcOnly Departure.lateStores }], guard := none }) (v := .pointer (some ⟨F, 0, none⟩)) rfl (by kernel_rfl) (by kernel_rfl) (by kernel_rfl) (fun _ _ _ h => h) (Or.inl ⟨by rfl, fun w hSw => by go_simp⟩) hHeld ?_
      try simp only [Act.put, List.setIfInBounds_toArray, List.set_cons_zero, List.set_cons_succ]
      refine wpAnyH_take (i := 18) (oi := { dst := some 30, op := Op.fieldAddr 92 (Operand.tmp 29) 2, type := 0, pos := "l4_loans.go:122", after := #[{ on := 17, ground := Ground.data }, { on := 23, ground := Ground.gcOnly Departure.lateStores }], guard := none }) (v := .pointer (some ⟨F, 2, none⟩)) rfl (by kernel_rfl) (by kernel_rfl) (by kernel_rfl) (fun _ _ _ h => h) (Or.inl ⟨by rfl, fun w hSw => by go_simp⟩) hHeld ?_
      try simp only [Act.put, List.setIfInBounds_toArray, List.set_cons_zero, List.set_cons_succ]
      refine wpAnyH_take (i := 19) (oi := { dst := some 31, op := Op.indexAddr 87 (Operand.tmp 30) (Operand.tmp 28), type := 0, pos := "l4_loans.go:122", after := #[{ on := 18, ground := Ground.data }, { on := 16, ground := Ground.data }, { on := 23, ground := Ground.gcOnly Departure.lateStores }], guard := none }) (v := .pointer (some ⟨F, 2 + k * 4, none⟩)) rfl (by kernel_rfl) (by kernel_rfl) (by kernel_rfl) (fun _ _ _ h => h) (Or.inl ⟨by rfl, fun w hSw => by go_simp⟩) hHeld ?_
      try simp only [Act.put, List.setIfInBounds_toArray, List.set_cons_zero, List.set_cons_succ]
      refine wpAnyH_ready (rs := [20, 21, 22]) (by kernel_rfl) (by simp) ?_
      refine AllReadyH.cons (o := { dst := some 32, op := Op.load 86 (Operand.tmp 31), type := 86, pos := "l4_loans.go:122", after := #[{ on := 19, ground := Ground.data }, { on := 23, ground := Ground.gcOnly Departure.lateStores }], guard := none }) rfl (fun K hK => ?_) ?_
      · skip
        rw [if_pos (by rfl)]
        refine wp_load_mid _ _ rfl F (2 + k * 4) rfl [.int .u64 ((effD ts d).r : Int), .int .u64 ((effD ts d).t : Int), .int .u64 ((effD ts d).c : Int), .int .u64 ((effD ts d).s : Int)] _ (hrE.out _ hHeld) Tryz.underlying86 rfl (by kernel_rfl) ?_
        simp only [Act.put]
        refine hK.out _ _ hHeld (fun hHeld => ?_)
        clear hK K
        refine wpAnyH_ready (rs := [21, 22]) (by kernel_rfl) (by simp) ?_
        refine AllReadyH.cons (o := { dst := some 7, op := Op.alloc 81, type := 0, pos := "l4_loans.go:122", after := #[], guard := none }) rfl (fun K hK => ?_) ?_
        · skip
          go_simp
          have f7 := heap_alloc_new wd (.cells #[.int .i64 0, .int .i64 0, .int .i64 0, .int .i64 0, .int .i64 0, .int .i64 0, .int .i64 0] 81)
          have hs1 := hHeld.size
          refine hK.out _ _ (hHeld.alloc hHeld.size (.cells #[.int .i64 0, .int .i64 0, .int .i64 0, .int .i64 0, .int .i64 0, .int .i64 0, .int .i64 0] 81)) (fun hHeld => ?_)
          have hz1 : (wd.alloc (.cells #[.int .i64 0, .int .i64 0, .int .i64 0, .int .i64 0, .int .i64 0, .int .i64 0, .int .i64 0] 81)).heap.size = wd.heap.size + 1 := by simp
          generalize wd.alloc (.cells #[.int .i64 0, .int .i64 0, .int .i64 0, .int .i64 0, .int .i64 0, .int .i64 0, .int .i64 0] 81) = wa1 at *
          replace hz1 := Lib.hid hz1
          replace f7 := Lib.hid f7
          clear hK K
          have hzA := hz1
          have hsA := Lib.hid hs1
          refine wpAnyH_ready (rs := [22]) (by kernel_rfl) (by simp) ?_
          refine AllReadyH.cons (o := { dst := some 8, op := Op.alloc 86, type := 0, pos := "l4_loans.go:122", after := #[], guard := none }) rfl (fun K hK => ?_) AllReadyH.nil
          go_simp
          have f8 := heap_alloc_new wa1 (.cells #[.int .u64 0, .int .u64 0, .int .u64 0, .int .u64 0] 86)
          replace f7 := ((Below.refl wa1.heap.size wa1).alloc (Nat.le_refl _) (.cells #[.int .u64 0, .int .u64 0, .int .u64 0, .int .u64 0] 86)).block _ (heap_lt f7.out) |>.trans f7.out
          have hs2 := hHeld.size
          refine hK.out _ _ (hHeld.alloc hHeld.size (.cells #[.int .u64 0, .int .u64 0, .int .u64 0, .int .u64 0] 86)) (fun hHeld => ?_)
          have hz2 : (wa1.alloc (.cells #[.int .u64 0, .int .u64 0, .int .u64 0, .int .u64 0] 86)).heap.size = wa1.heap.size + 1 := by simp
          generalize wa1.alloc (.cells #[.int .u64 0, .int .u64 0, .int .u64 0, .int .u64 0] 86) = wa2 at *
          replace hz2 := Lib.hid hz2
          replace f7 := Lib.hid f7
          replace f8 := Lib.hid f8
          clear hK K
          refine wpAnyH_ready (rs := [23]) (by kernel_rfl) (by simp) ?_
          refine AllReadyH.cons (o := { dst := none, op := Op.store 81 (Operand.tmp 7) (Operand.tmp 23), type := 0, pos := "l4_loans.go:122", after := #[{ on := 21, ground := Ground.data }, { on := 11, ground := Ground.data }, { on := 0, ground := Ground.phase }, { on := 1, ground := Ground.phase }, { on := 2, ground := Ground.phase }, { on := 3, ground := Ground.phase }, { on := 4, ground := Ground.phase }, { on := 5, ground := Ground.phase }, { on := 6, ground := Ground.phase }, { on := 7, ground := Ground.phase }, { on := 8, ground := Ground.phase }, { on := 9, ground := Ground.phase }, { on := 10, ground := Ground.phase }, { on := 11, ground := Ground.phase }, { on := 12, ground := Ground.textOnly Departure.lateStores }, { on := 13, ground := Ground.textOnly Departure.lateStores }, { on := 14, ground := Ground.textOnly Departure.lateStores }, { on := 15, ground := Ground.textOnly Departure.lateStores }, { on := 16, ground := Ground.textOnly Departure.lateStores }, { on := 17, ground := Ground.textOnly Departure.lateStores }, { on := 18, ground := Ground.textOnly Departure.lateStores }, { on := 19, ground := Ground.textOnly Departure.lateStores }, { on := 20, ground := Ground.textOnly Departure.lateStores }, { on := 21, ground := Ground.phase }, { on := 22, ground := Ground.phase }], guard := none }) rfl (fun K hK => ?_) AllReadyH.nil
          rw [if_pos (by rfl)]
          refine wp_store_mid _ _ _ rfl (wd.heap.size) 0 ([.int .i64 d.op, .int .i64 d.x, .int .i64 d.y, .int .i64 d.n, .int .i64 p0, .int .i64 p1, .int .i64 d.next.length] : List Value).toArray rfl rfl (row_there f7.out rfl) (by kernel_rfl) (by simp [Value.oneCell']) ?_
          simp only [Act.put]
          have g7 := row_set ([.int .i64 d.op, .int .i64 d.x, .int .i64 d.y, .int .i64 d.n, .int .i64 p0, .int .i64 p1, .int .i64 d.next.length] : List Value) f7.out rfl
          have g8 := (heap_setCells_ne wa2 (wd.heap.size) (wa1.heap.size) 0 ([.int .i64 d.op, .int .i64 d.x, .int .i64 d.y, .int .i64 d.n, .int .i64 p0, .int .i64 p1, .int .i64 d.next.length] : List Value) (by have := hzA.out; have := hsA.out; omega) (heap_lt f8.out)).trans f8.out
          refine hK.out _ _ (below_setCells hHeld (by have := hzA.out; have := hsA.out; omega) hHeld.size) (fun hHeld => ?_)
          change Below w1.heap.size w1 (wa2.setCells (wd.heap.size) 0 [.int .i64 d.op, .int .i64 d.x, .int .i64 d.y, .int .i64 d.n, .int .i64 p0, .int .i64 p1, .int .i64 d.next.length]) at hHeld
          skip
          generalize hgen : wa2.setCells (wd.heap.size) 0 _ = wa3 at *
          clear hK K hgen
          replace f7 := Lib.hid g7
          clear g7
          replace f8 := Lib.hid g8
          clear g8
          refine wpAnyH_ready (rs := [24]) (by kernel_rfl) (by simp) ?_
          refine AllReadyH.cons (o := { dst := none, op := Op.store 86 (Operand.tmp 8) (Operand.tmp 32), type := 0, pos := "l4_loans.go:122", after := #[{ on := 22, ground := Ground.data }, { on := 20, ground := Ground.data }, { on := 23, ground := Ground.chain }, { on := 0, ground := Ground.phase }, { on := 1, ground := Ground.phase }, { on := 2, ground := Ground.phase }, { on := 3, ground := Ground.phase }, { on := 4, ground := Ground.phase }, { on := 5, ground := Ground.phase }, { on := 6, ground := Ground.phase }, { on := 7, ground := Ground.phase }, { on := 8, ground := Ground.phase }, { on := 9, ground := Ground.phase }, { on := 10, ground := Ground.phase }, { on := 11, ground := Ground.phase }, { on := 12, ground := Ground.phase }, { on := 13, ground := Ground.phase }, { on := 14, ground := Ground.phase }, { on := 15, ground := Ground.phase }, { on := 16, ground := Ground.phase }, { on := 17, ground := Ground.phase }, { on := 18, ground := Ground.phase }, { on := 19, ground := Ground.phase }, { on := 20, ground := Ground.phase }, { on := 21, ground := Ground.phase }, { on := 22, ground := Ground.phase }, { on := 23, ground := Ground.phase }], guard := none }) rfl (fun K hK => ?_) AllReadyH.nil
          rw [if_pos (by rfl)]
          refine wp_store_mid _ _ _ rfl (wa1.heap.size) 0 ([.int .u64 ((effD ts d).r : Int), .int .u64 ((effD ts d).t : Int), .int .u64 ((effD ts d).c : Int), .int .u64 ((effD ts d).s : Int)] : List Value).toArray rfl rfl (row_there f8.out rfl) (by kernel_rfl) (by simp [Value.oneCell']) ?_
          simp only [Act.put]
          have g8 := row_set ([.int .u64 ((effD ts d).r : Int), .int .u64 ((effD ts d).t : Int), .int .u64 ((effD ts d).c : Int), .int .u64 ((effD ts d).s : Int)] : List Value) f8.out rfl
          have g7 := (heap_setCells_ne wa3 (wa1.heap.size) (wd.heap.size) 0 ([.int .u64 ((effD ts d).r : Int), .int .u64 ((effD ts d).t : Int), .int .u64 ((effD ts d).c : Int), .int .u64 ((effD ts d).s : Int)] : List Value) (by have := hzA.out; have := hsA.out; omega) (heap_lt f7.out)).trans f7.out
          refine hK.out _ _ (below_setCells hHeld (by have := hzA.out; have := hsA.out; omega) hHeld.size) (fun hHeld => ?_)
          change Below w1.heap.size w1 (wa3.setCells (wa1.heap.size) 0 [.int .u64 ((effD ts d).r : Int), .int .u64 ((effD ts d).t : Int), .int .u64 ((effD ts d).c : Int), .int .u64 ((effD ts d).s : Int)]) at hHeld
          skip
          generalize hgen : wa3.setCells (wa1.heap.size) 0 _ = wa4 at *
          clear hK K hgen
          replace f7 := Lib.hid g7
          clear g7
          replace f8 := Lib.hid g8
          clear g8
          refine wpAnyH_done (by kernel_rfl) ?_ _
          go_wp2_with fail
          go_meet
          exact ⟨wd.heap.size, wa1.heap.size, p0, p1, rfl, rfl, f7.out, f8.out, by have := hzA.out; have := hsA.out; omega, by have := hzA.out; have := hsA.out; omega, hHeld⟩
        refine AllReadyH.cons (o := { dst := some 8, op := Op.alloc 86, type := 0, pos := "l4_loans.go:122", after := #[], guard := none }) rfl (fun K hK => ?_) AllReadyH.nil
        go_simp
        have f8 := heap_alloc_new wd (.cells #[.int .u64 0, .int .u64 0, .int .u64 0, .int .u64 0] 86)
        have hs1 := hHeld.size
        refine hK.out _ _ (hHeld.alloc hHeld.size (.cells #[.int .u64 0, .int .u64 0, .int .u64 0, .int .u64 0] 86)) (fun hHeld => ?_)
        have hz1 : (wd.alloc (.cells #[.int .u64 0, .int .u64 0, .int .u64 0, .int .u64 0] 86)).heap.size = wd.heap.size + 1 := by simp
        generalize wd.alloc (.cells #[.int .u64 0, .int .u64 0, .int .u64 0, .int .u64 0] 86) = wa1 at *
        replace hz1 := Lib.hid hz1
        replace f8 := Lib.hid f8
        clear hK K
        have hzA := hz1
        have hsA := Lib.hid hs1
        refine wpAnyH_ready (rs := [21]) (by kernel_rfl) (by simp) ?_
        refine AllReadyH.cons (o := { dst := some 7, op := Op.alloc 81, type := 0, pos := "l4_loans.go:122", after := #[], guard := none }) rfl (fun K hK => ?_) AllReadyH.nil
        go_simp
        have f7 := heap_alloc_new wa1 (.cells #[.int .i64 0, .int .i64 0, .int .i64 0, .int .i64 0, .int .i64 0, .int .i64 0, .int .i64 0] 81)
        replace f8 := ((Below.refl wa1.heap.size wa1).alloc (Nat.le_refl _) (.cells #[.int .i64 0, .int .i64 0, .int .i64 0, .int .i64 0, .int .i64 0, .int .i64 0, .int .i64 0] 81)).block _ (heap_lt f8.out) |>.trans f8.out
        have hs2 := hHeld.size
        refine hK.out _ _ (hHeld.alloc hHeld.size (.cells #[.int .i64 0, .int .i64 0, .int .i64 0, .int .i64 0, .int .i64 0, .int .i64 0, .int .i64 0] 81)) (fun hHeld => ?_)
        have hz2 : (wa1.alloc (.cells #[.int .i64 0, .int .i64 0, .int .i64 0, .int .i64 0, .int .i64 0, .int .i64 0, .int .i64 0] 81)).heap.size = wa1.heap.size + 1 := by simp
        generalize wa1.alloc (.cells #[.int .i64 0, .int .i64 0, .int .i64 0, .int .i64 0, .int .i64 0, .int .i64 0, .int .i64 0] 81) = wa2 at *
        replace hz2 := Lib.hid hz2
        replace f8 := Lib.hid f8
        replace f7 := Lib.hid f7
        clear hK K
        refine wpAnyH_ready (rs := [23]) (by kernel_rfl) (by simp) ?_
        refine AllReadyH.cons (o := { dst := none, op := Op.store 81 (Operand.tmp 7) (Operand.tmp 23), type := 0, pos := "l4_loans.go:122", after := #[{ on := 21, ground := Ground.data }, { on := 11, ground := Ground.data }, { on := 0, ground := Ground.phase }, { on := 1, ground := Ground.phase }, { on := 2, ground := Ground.phase }, { on := 3, ground := Ground.phase }, { on := 4, ground := Ground.phase }, { on := 5, ground := Ground.phase }, { on := 6, ground := Ground.phase }, { on := 7, ground := Ground.phase }, { on := 8, ground := Ground.phase }, { on := 9, ground := Ground.phase }, { on := 10, ground := Ground.phase }, { on := 11, ground := Ground.phase }, { on := 12, ground := Ground.textOnly Departure.lateStores }, { on := 13, ground := Ground.textOnly Departure.lateStores }, { on := 14, ground := Ground.textOnly Departure.lateStores }, { on := 15, ground := Ground.textOnly Departure.lateStores }, { on := 16, ground := Ground.textOnly Departure.lateStores }, { on := 17, ground := Ground.textOnly Departure.lateStores }, { on := 18, ground := Ground.textOnly Departure.lateStores }, { on := 19, ground := Ground.textOnly Departure.lateStores }, { on := 20, ground := Ground.textOnly Departure.lateStores }, { on := 21, ground := Ground.phase }, { on := 22, ground := Ground.phase }], guard := none }) rfl (fun K hK => ?_) AllReadyH.nil
        rw [if_pos (by rfl)]
        refine wp_store_mid _ _ _ rfl (wa1.heap.size) 0 ([.int .i64 d.op, .int .i64 d.x, .int .i64 d.y, .int .i64 d.n, .int .i64 p0, .int .i64 p1, .int .i64 d.next.length] : List Value).toArray rfl rfl (row_there f7.out rfl) (by kernel_rfl) (by simp [Value.oneCell']) ?_
        simp only [Act.put]
        have g7 := row_set ([.int .i64 d.op, .int .i64 d.x, .int .i64 d.y, .int .i64 d.n, .int .i64 p0, .int .i64 p1, .int .i64 d.next.length] : List Value) f7.out rfl
        have g8 := (heap_setCells_ne wa2 (wa1.heap.size) (wd.heap.size) 0 ([.int .i64 d.op, .int .i64 d.x, .int .i64 d.y, .int .i64 d.n, .int .i64 p0, .int .i64 p1, .int .i64 d.next.length] : List Value) (by have := hzA.out; have := hsA.out; omega) (heap_lt f8.out)).trans f8.out
        refine hK.out _ _ (below_setCells hHeld (by have := hzA.out; have := hsA.out; omega) hHeld.size) (fun hHeld => ?_)
        change Below w1.heap.size w1 (wa2.setCells (wa1.heap.size) 0 [.int .i64 d.op, .int .i64 d.x, .int .i64 d.y, .int .i64 d.n, .int .i64 p0, .int .i64 p1, .int .i64 d.next.length]) at hHeld
        skip
        generalize hgen : wa2.setCells (wa1.heap.size) 0 _ = wa3 at *
        clear hK K hgen
        replace f8 := Lib.hid g8
        clear g8
        replace f7 := Lib.hid g7
        clear g7
        refine wpAnyH_ready (rs := [24]) (by kernel_rfl) (by simp) ?_
        refine AllReadyH.cons (o := { dst := none, op := Op.store 86 (Operand.tmp 8) (Operand.tmp 32), type := 0, pos := "l4_loans.go:122", after := #[{ on := 22, ground := Ground.data }, { on := 20, ground := Ground.data }, { on := 23, ground := Ground.chain }, { on := 0, ground := Ground.phase }, { on := 1, ground := Ground.phase }, { on := 2, ground := Ground.phase }, { on := 3, ground := Ground.phase }, { on := 4, ground := Ground.phase }, { on := 5, ground := Ground.phase }, { on := 6, ground := Ground.phase }, { on := 7, ground := Ground.phase }, { on := 8, ground := Ground.phase }, { on := 9, ground := Ground.phase }, { on := 10, ground := Ground.phase }, { on := 11, ground := Ground.phase }, { on := 12, ground := Ground.phase }, { on := 13, ground := Ground.phase }, { on := 14, ground := Ground.phase }, { on := 15, ground := Ground.phase }, { on := 16, ground := Ground.phase }, { on := 17, ground := Ground.phase }, { on := 18, ground := Ground.phase }, { on := 19, ground := Ground.phase }, { on := 20, ground := Ground.phase }, { on := 21, ground := Ground.phase }, { on := 22, ground := Ground.phase }, { on := 23, ground := Ground.phase }], guard := none }) rfl (fun K hK => ?_) AllReadyH.nil
        rw [if_pos (by rfl)]
        refine wp_store_mid _ _ _ rfl (wd.heap.size) 0 ([.int .u64 ((effD ts d).r : Int), .int .u64 ((effD ts d).t : Int), .int .u64 ((effD ts d).c : Int), .int .u64 ((effD ts d).s : Int)] : List Value).toArray rfl rfl (row_there f8.out rfl) (by kernel_rfl) (by simp [Value.oneCell']) ?_
        simp only [Act.put]
        have g8 := row_set ([.int .u64 ((effD ts d).r : Int), .int .u64 ((effD ts d).t : Int), .int .u64 ((effD ts d).c : Int), .int .u64 ((effD ts d).s : Int)] : List Value) f8.out rfl
        have g7 := (heap_setCells_ne wa3 (wd.heap.size) (wa1.heap.size) 0 ([.int .u64 ((effD ts d).r : Int), .int .u64 ((effD ts d).t : Int), .int .u64 ((effD ts d).c : Int), .int .u64 ((effD ts d).s : Int)] : List Value) (by have := hzA.out; have := hsA.out; omega) (heap_lt f7.out)).trans f7.out
        refine hK.out _ _ (below_setCells hHeld (by have := hzA.out; have := hsA.out; omega) hHeld.size) (fun hHeld => ?_)
        change Below w1.heap.size w1 (wa3.setCells (wd.heap.size) 0 [.int .u64 ((effD ts d).r : Int), .int .u64 ((effD ts d).t : Int), .int .u64 ((effD ts d).c : Int), .int .u64 ((effD ts d).s : Int)]) at hHeld
        skip
        generalize hgen : wa3.setCells (wd.heap.size) 0 _ = wa4 at *
        clear hK K hgen
        replace f8 := Lib.hid g8
        clear g8
        replace f7 := Lib.hid g7
        clear g7
        refine wpAnyH_done (by kernel_rfl) ?_ _
        go_wp2_with fail
        go_meet
        exact ⟨wa1.heap.size, wd.heap.size, p0, p1, rfl, rfl, f7.out, f8.out, by have := hzA.out; have := hsA.out; omega, by have := hzA.out; have := hsA.out; omega, hHeld⟩
      refine AllReadyH.cons (o := { dst := some 7, op := Op.alloc 81, type := 0, pos := "l4_loans.go:122", after := #[], guard := none }) rfl (fun K hK => ?_) ?_
      · skip
        go_simp
        have f7 := heap_alloc_new wd (.cells #[.int .i64 0, .int .i64 0, .int .i64 0, .int .i64 0, .int .i64 0, .int .i64 0, .int .i64 0] 81)
        have hs1 := hHeld.size
        refine hK.out _ _ (hHeld.alloc hHeld.size (.cells #[.int .i64 0, .int .i64 0, .int .i64 0, .int .i64 0, .int .i64 0, .int .i64 0, .int .i64 0] 81)) (fun hHeld => ?_)
        have hz1 : (wd.alloc (.cells #[.int .i64 0, .int .i64 0, .int .i64 0, .int .i64 0, .int .i64 0, .int .i64 0, .int .i64 0] 81)).heap.size = wd.heap.size + 1 := by simp
        generalize wd.alloc (.cells #[.int .i64 0, .int .i64 0, .int .i64 0, .int .i64 0, .int .i64 0, .int .i64 0, .int .i64 0] 81) = wa1 at *
        replace hz1 := Lib.hid hz1
        replace f7 := Lib.hid f7
        clear hK K
        have hzA := hz1
        have hsA := Lib.hid hs1
        refine wpAnyH_ready (rs := [20, 22]) (by kernel_rfl) (by simp) ?_
        refine AllReadyH.cons (o := { dst := some 32, op := Op.load 86 (Operand.tmp 31), type := 86, pos := "l4_loans.go:122", after := #[{ on := 19, ground := Ground.data }, { on := 23, ground := Ground.gcOnly Departure.lateStores }], guard := none }) rfl (fun K hK => ?_) ?_
        · skip
          rw [if_pos (by rfl)]
          refine wp_load_mid _ _ rfl F (2 + k * 4) rfl [.int .u64 ((effD ts d).r : Int), .int .u64 ((effD ts d).t : Int), .int .u64 ((effD ts d).c : Int), .int .u64 ((effD ts d).s : Int)] _ (hrE.out _ hHeld) Tryz.underlying86 rfl (by kernel_rfl) ?_
          simp only [Act.put]
          refine hK.out _ _ hHeld (fun hHeld => ?_)
          clear hK K
          refine wpAnyH_ready (rs := [22]) (by kernel_rfl) (by simp) ?_
          refine AllReadyH.cons (o := { dst := some 8, op := Op.alloc 86, type := 0, pos := "l4_loans.go:122", after := #[], guard := none }) rfl (fun K hK => ?_) AllReadyH.nil
          go_simp
          have f8 := heap_alloc_new wa1 (.cells #[.int .u64 0, .int .u64 0, .int .u64 0, .int .u64 0] 86)
          replace f7 := ((Below.refl wa1.heap.size wa1).alloc (Nat.le_refl _) (.cells #[.int .u64 0, .int .u64 0, .int .u64 0, .int .u64 0] 86)).block _ (heap_lt f7.out) |>.trans f7.out
          have hs2 := hHeld.size
          refine hK.out _ _ (hHeld.alloc hHeld.size (.cells #[.int .u64 0, .int .u64 0, .int .u64 0, .int .u64 0] 86)) (fun hHeld => ?_)
          have hz2 : (wa1.alloc (.cells #[.int .u64 0, .int .u64 0, .int .u64 0, .int .u64 0] 86)).heap.size = wa1.heap.size + 1 := by simp
          generalize wa1.alloc (.cells #[.int .u64 0, .int .u64 0, .int .u64 0, .int .u64 0] 86) = wa2 at *
          replace hz2 := Lib.hid hz2
          replace f7 := Lib.hid f7
          replace f8 := Lib.hid f8
          clear hK K
          refine wpAnyH_ready (rs := [23]) (by kernel_rfl) (by simp) ?_
          refine AllReadyH.cons (o := { dst := none, op := Op.store 81 (Operand.tmp 7) (Operand.tmp 23), type := 0, pos := "l4_loans.go:122", after := #[{ on := 21, ground := Ground.data }, { on := 11, ground := Ground.data }, { on := 0, ground := Ground.phase }, { on := 1, ground := Ground.phase }, { on := 2, ground := Ground.phase }, { on := 3, ground := Ground.phase }, { on := 4, ground := Ground.phase }, { on := 5, ground := Ground.phase }, { on := 6, ground := Ground.phase }, { on := 7, ground := Ground.phase }, { on := 8, ground := Ground.phase }, { on := 9, ground := Ground.phase }, { on := 10, ground := Ground.phase }, { on := 11, ground := Ground.phase }, { on := 12, ground := Ground.textOnly Departure.lateStores }, { on := 13, ground := Ground.textOnly Departure.lateStores }, { on := 14, ground := Ground.textOnly Departure.lateStores }, { on := 15, ground := Ground.textOnly Departure.lateStores }, { on := 16, ground := Ground.textOnly Departure.lateStores }, { on := 17, ground := Ground.textOnly Departure.lateStores }, { on := 18, ground := Ground.textOnly Departure.lateStores }, { on := 19, ground := Ground.textOnly Departure.lateStores }, { on := 20, ground := Ground.textOnly Departure.lateStores }, { on := 21, ground := Ground.phase }, { on := 22, ground := Ground.phase }], guard := none }) rfl (fun K hK => ?_) AllReadyH.nil
          rw [if_pos (by rfl)]
          refine wp_store_mid _ _ _ rfl (wd.heap.size) 0 ([.int .i64 d.op, .int .i64 d.x, .int .i64 d.y, .int .i64 d.n, .int .i64 p0, .int .i64 p1, .int .i64 d.next.length] : List Value).toArray rfl rfl (row_there f7.out rfl) (by kernel_rfl) (by simp [Value.oneCell']) ?_
          simp only [Act.put]
          have g7 := row_set ([.int .i64 d.op, .int .i64 d.x, .int .i64 d.y, .int .i64 d.n, .int .i64 p0, .int .i64 p1, .int .i64 d.next.length] : List Value) f7.out rfl
          have g8 := (heap_setCells_ne wa2 (wd.heap.size) (wa1.heap.size) 0 ([.int .i64 d.op, .int .i64 d.x, .int .i64 d.y, .int .i64 d.n, .int .i64 p0, .int .i64 p1, .int .i64 d.next.length] : List Value) (by have := hzA.out; have := hsA.out; omega) (heap_lt f8.out)).trans f8.out
          refine hK.out _ _ (below_setCells hHeld (by have := hzA.out; have := hsA.out; omega) hHeld.size) (fun hHeld => ?_)
          change Below w1.heap.size w1 (wa2.setCells (wd.heap.size) 0 [.int .i64 d.op, .int .i64 d.x, .int .i64 d.y, .int .i64 d.n, .int .i64 p0, .int .i64 p1, .int .i64 d.next.length]) at hHeld
          skip
          generalize hgen : wa2.setCells (wd.heap.size) 0 _ = wa3 at *
          clear hK K hgen
          replace f7 := Lib.hid g7
          clear g7
          replace f8 := Lib.hid g8
          clear g8
          refine wpAnyH_ready (rs := [24]) (by kernel_rfl) (by simp) ?_
          refine AllReadyH.cons (o := { dst := none, op := Op.store 86 (Operand.tmp 8) (Operand.tmp 32), type := 0, pos := "l4_loans.go:122", after := #[{ on := 22, ground := Ground.data }, { on := 20, ground := Ground.data }, { on := 23, ground := Ground.chain }, { on := 0, ground := Ground.phase }, { on := 1, ground := Ground.phase }, { on := 2, ground := Ground.phase }, { on := 3, ground := Ground.phase }, { on := 4, ground := Ground.phase }, { on := 5, ground := Ground.phase }, { on := 6, ground := Ground.phase }, { on := 7, ground := Ground.phase }, { on := 8, ground := Ground.phase }, { on := 9, ground := Ground.phase }, { on := 10, ground := Ground.phase }, { on := 11, ground := Ground.phase }, { on := 12, ground := Ground.phase }, { on := 13, ground := Ground.phase }, { on := 14, ground := Ground.phase }, { on := 15, ground := Ground.phase }, { on := 16, ground := Ground.phase }, { on := 17, ground := Ground.phase }, { on := 18, ground := Ground.phase }, { on := 19, ground := Ground.phase }, { on := 20, ground := Ground.phase }, { on := 21, ground := Ground.phase }, { on := 22, ground := Ground.phase }, { on := 23, ground := Ground.phase }], guard := none }) rfl (fun K hK => ?_) AllReadyH.nil
          rw [if_pos (by rfl)]
          refine wp_store_mid _ _ _ rfl (wa1.heap.size) 0 ([.int .u64 ((effD ts d).r : Int), .int .u64 ((effD ts d).t : Int), .int .u64 ((effD ts d).c : Int), .int .u64 ((effD ts d).s : Int)] : List Value).toArray rfl rfl (row_there f8.out rfl) (by kernel_rfl) (by simp [Value.oneCell']) ?_
          simp only [Act.put]
          have g8 := row_set ([.int .u64 ((effD ts d).r : Int), .int .u64 ((effD ts d).t : Int), .int .u64 ((effD ts d).c : Int), .int .u64 ((effD ts d).s : Int)] : List Value) f8.out rfl
          have g7 := (heap_setCells_ne wa3 (wa1.heap.size) (wd.heap.size) 0 ([.int .u64 ((effD ts d).r : Int), .int .u64 ((effD ts d).t : Int), .int .u64 ((effD ts d).c : Int), .int .u64 ((effD ts d).s : Int)] : List Value) (by have := hzA.out; have := hsA.out; omega) (heap_lt f7.out)).trans f7.out
          refine hK.out _ _ (below_setCells hHeld (by have := hzA.out; have := hsA.out; omega) hHeld.size) (fun hHeld => ?_)
          change Below w1.heap.size w1 (wa3.setCells (wa1.heap.size) 0 [.int .u64 ((effD ts d).r : Int), .int .u64 ((effD ts d).t : Int), .int .u64 ((effD ts d).c : Int), .int .u64 ((effD ts d).s : Int)]) at hHeld
          skip
          generalize hgen : wa3.setCells (wa1.heap.size) 0 _ = wa4 at *
          clear hK K hgen
          replace f7 := Lib.hid g7
          clear g7
          replace f8 := Lib.hid g8
          clear g8
          refine wpAnyH_done (by kernel_rfl) ?_ _
          go_wp2_with fail
          go_meet
          exact ⟨wd.heap.size, wa1.heap.size, p0, p1, rfl, rfl, f7.out, f8.out, by have := hzA.out; have := hsA.out; omega, by have := hzA.out; have := hsA.out; omega, hHeld⟩
        refine AllReadyH.cons (o := { dst := some 8, op := Op.alloc 86, type := 0, pos := "l4_loans.go:122", after := #[], guard := none }) rfl (fun K hK => ?_) AllReadyH.nil
        go_simp
        have f8 := heap_alloc_new wa1 (.cells #[.int .u64 0, .int .u64 0, .int .u64 0, .int .u64 0] 86)
        replace f7 := ((Below.refl wa1.heap.size wa1).alloc (Nat.le_refl _) (.cells #[.int .u64 0, .int .u64 0, .int .u64 0, .int .u64 0] 86)).block _ (heap_lt f7.out) |>.trans f7.out
        have hs2 := hHeld.size
        refine hK.out _ _ (hHeld.alloc hHeld.size (.cells #[.int .u64 0, .int .u64 0, .int .u64 0, .int .u64 0] 86)) (fun hHeld => ?_)
        have hz2 : (wa1.alloc (.cells #[.int .u64 0, .int .u64 0, .int .u64 0, .int .u64 0] 86)).heap.size = wa1.heap.size + 1 := by simp
        generalize wa1.alloc (.cells #[.int .u64 0, .int .u64 0, .int .u64 0, .int .u64 0] 86) = wa2 at *
        replace hz2 := Lib.hid hz2
        replace f7 := Lib.hid f7
        replace f8 := Lib.hid f8
        clear hK K
        refine wpAnyH_ready (rs := [20, 23]) (by kernel_rfl) (by simp) ?_
        refine AllReadyH.cons (o := { dst := some 32, op := Op.load 86 (Operand.tmp 31), type := 86, pos := "l4_loans.go:122", after := #[{ on := 19, ground := Ground.data }, { on := 23, ground := Ground.gcOnly Departure.lateStores }], guard := none }) rfl (fun K hK => ?_) ?_
        · skip
          rw [if_pos (by rfl)]
          refine wp_load_mid _ _ rfl F (2 + k * 4) rfl [.int .u64 ((effD ts d).r : Int), .int .u64 ((effD ts d).t : Int), .int .u64 ((effD ts d).c : Int), .int .u64 ((effD ts d).s : Int)] _ (hrE.out _ hHeld) Tryz.underlying86 rfl (by kernel_rfl) ?_
          simp only [Act.put]
          refine hK.out _ _ hHeld (fun hHeld => ?_)
          clear hK K
          refine wpAnyH_ready (rs := [23]) (by kernel_rfl) (by simp) ?_
          refine AllReadyH.cons (o := { dst := none, op := Op.store 81 (Operand.tmp 7) (Operand.tmp 23), type := 0, pos := "l4_loans.go:122", after := #[{ on := 21, ground := Ground.data }, { on := 11, ground := Ground.data }, { on := 0, ground := Ground.phase }, { on := 1, ground := Ground.phase }, { on := 2, ground := Ground.phase }, { on := 3, ground := Ground.phase }, { on := 4, ground := Ground.phase }, { on := 5, ground := Ground.phase }, { on := 6, ground := Ground.phase }, { on := 7, ground := Ground.phase }, { on := 8, ground := Ground.phase }, { on := 9, ground := Ground.phase }, { on := 10, ground := Ground.phase }, { on := 11, ground := Ground.phase }, { on := 12, ground := Ground.textOnly Departure.lateStores }, { on := 13, ground := Ground.textOnly Departure.lateStores }, { on := 14, ground := Ground.textOnly Departure.lateStores }, { on := 15, ground := Ground.textOnly Departure.lateStores }, { on := 16, ground := Ground.textOnly Departure.lateStores }, { on := 17, ground := Ground.textOnly Departure.lateStores }, { on := 18, ground := Ground.textOnly Departure.lateStores }, { on := 19, ground := Ground.textOnly Departure.lateStores }, { on := 20, ground := Ground.textOnly Departure.lateStores }, { on := 21, ground := Ground.phase }, { on := 22, ground := Ground.phase }], guard := none }) rfl (fun K hK => ?_) AllReadyH.nil
          rw [if_pos (by rfl)]
          refine wp_store_mid _ _ _ rfl (wd.heap.size) 0 ([.int .i64 d.op, .int .i64 d.x, .int .i64 d.y, .int .i64 d.n, .int .i64 p0, .int .i64 p1, .int .i64 d.next.length] : List Value).toArray rfl rfl (row_there f7.out rfl) (by kernel_rfl) (by simp [Value.oneCell']) ?_
          simp only [Act.put]
          have g7 := row_set ([.int .i64 d.op, .int .i64 d.x, .int .i64 d.y, .int .i64 d.n, .int .i64 p0, .int .i64 p1, .int .i64 d.next.length] : List Value) f7.out rfl
          have g8 := (heap_setCells_ne wa2 (wd.heap.size) (wa1.heap.size) 0 ([.int .i64 d.op, .int .i64 d.x, .int .i64 d.y, .int .i64 d.n, .int .i64 p0, .int .i64 p1, .int .i64 d.next.length] : List Value) (by have := hzA.out; have := hsA.out; omega) (heap_lt f8.out)).trans f8.out
          refine hK.out _ _ (below_setCells hHeld (by have := hzA.out; have := hsA.out; omega) hHeld.size) (fun hHeld => ?_)
          change Below w1.heap.size w1 (wa2.setCells (wd.heap.size) 0 [.int .i64 d.op, .int .i64 d.x, .int .i64 d.y, .int .i64 d.n, .int .i64 p0, .int .i64 p1, .int .i64 d.next.length]) at hHeld
          skip
          generalize hgen : wa2.setCells (wd.heap.size) 0 _ = wa3 at *
          clear hK K hgen
          replace f7 := Lib.hid g7
          clear g7
          replace f8 := Lib.hid g8
          clear g8
          refine wpAnyH_ready (rs := [24]) (by kernel_rfl) (by simp) ?_
          refine AllReadyH.cons (o := { dst := none, op := Op.store 86 (Operand.tmp 8) (Operand.tmp 32), type := 0, pos := "l4_loans.go:122", after := #[{ on := 22, ground := Ground.data }, { on := 20, ground := Ground.data }, { on := 23, ground := Ground.chain }, { on := 0, ground := Ground.phase }, { on := 1, ground := Ground.phase }, { on := 2, ground := Ground.phase }, { on := 3, ground := Ground.phase }, { on := 4, ground := Ground.phase }, { on := 5, ground := Ground.phase }, { on := 6, ground := Ground.phase }, { on := 7, ground := Ground.phase }, { on := 8, ground := Ground.phase }, { on := 9, ground := Ground.phase }, { on := 10, ground := Ground.phase }, { on := 11, ground := Ground.phase }, { on := 12, ground := Ground.phase }, { on := 13, ground := Ground.phase }, { on := 14, ground := Ground.phase }, { on := 15, ground := Ground.phase }, { on := 16, ground := Ground.phase }, { on := 17, ground := Ground.phase }, { on := 18, ground := Ground.phase }, { on := 19, ground := Ground.phase }, { on := 20, ground := Ground.phase }, { on := 21, ground := Ground.phase }, { on := 22, ground := Ground.phase }, { on := 23, ground := Ground.phase }], guard := none }) rfl (fun K hK => ?_) AllReadyH.nil
          rw [if_pos (by rfl)]
          refine wp_store_mid _ _ _ rfl (wa1.heap.size) 0 ([.int .u64 ((effD ts d).r : Int), .int .u64 ((effD ts d).t : Int), .int .u64 ((effD ts d).c : Int), .int .u64 ((effD ts d).s : Int)] : List Value).toArray rfl rfl (row_there f8.out rfl) (by kernel_rfl) (by simp [Value.oneCell']) ?_
          simp only [Act.put]
          have g8 := row_set ([.int .u64 ((effD ts d).r : Int), .int .u64 ((effD ts d).t : Int), .int .u64 ((effD ts d).c : Int), .int .u64 ((effD ts d).s : Int)] : List Value) f8.out rfl
          have g7 := (heap_setCells_ne wa3 (wa1.heap.size) (wd.heap.size) 0 ([.int .u64 ((effD ts d).r : Int), .int .u64 ((effD ts d).t : Int), .int .u64 ((effD ts d).c : Int), .int .u64 ((effD ts d).s : Int)] : List Value) (by have := hzA.out; have := hsA.out; omega) (heap_lt f7.out)).trans f7.out
          refine hK.out _ _ (below_setCells hHeld (by have := hzA.out; have := hsA.out; omega) hHeld.size) (fun hHeld => ?_)
          change Below w1.heap.size w1 (wa3.setCells (wa1.heap.size) 0 [.int .u64 ((effD ts d).r : Int), .int .u64 ((effD ts d).t : Int), .int .u64 ((effD ts d).c : Int), .int .u64 ((effD ts d).s : Int)]) at hHeld
          skip
          generalize hgen : wa3.setCells (wa1.heap.size) 0 _ = wa4 at *
          clear hK K hgen
          replace f7 := Lib.hid g7
          clear g7
          replace f8 := Lib.hid g8
          clear g8
          refine wpAnyH_done (by kernel_rfl) ?_ _
          go_wp2_with fail
          go_meet
          exact ⟨wd.heap.size, wa1.heap.size, p0, p1, rfl, rfl, f7.out, f8.out, by have := hzA.out; have := hsA.out; omega, by have := hzA.out; have := hsA.out; omega, hHeld⟩
        refine AllReadyH.cons (o := { dst := none, op := Op.store 81 (Operand.tmp 7) (Operand.tmp 23), type := 0, pos := "l4_loans.go:122", after := #[{ on := 21, ground := Ground.data }, { on := 11, ground := Ground.data }, { on := 0, ground := Ground.phase }, { on := 1, ground := Ground.phase }, { on := 2, ground := Ground.phase }, { on := 3, ground := Ground.phase }, { on := 4, ground := Ground.phase }, { on := 5, ground := Ground.phase }, { on := 6, ground := Ground.phase }, { on := 7, ground := Ground.phase }, { on := 8, ground := Ground.phase }, { on := 9, ground := Ground.phase }, { on := 10, ground := Ground.phase }, { on := 11, ground := Ground.phase }, { on := 12, ground := Ground.textOnly Departure.lateStores }, { on := 13, ground := Ground.textOnly Departure.lateStores }, { on := 14, ground := Ground.textOnly Departure.lateStores }, { on := 15, ground := Ground.textOnly Departure.lateStores }, { on := 16, ground := Ground.textOnly Departure.lateStores }, { on := 17, ground := Ground.textOnly Departure.lateStores }, { on := 18, ground := Ground.textOnly Departure.lateStores }, { on := 19, ground := Ground.textOnly Departure.lateStores }, { on := 20, ground := Ground.textOnly Departure.lateStores }, { on := 21, ground := Ground.phase }, { on := 22, ground := Ground.phase }], guard := none }) rfl (fun K hK => ?_) AllReadyH.nil
        rw [if_pos (by rfl)]
        refine wp_store_mid _ _ _ rfl (wd.heap.size) 0 ([.int .i64 d.op, .int .i64 d.x, .int .i64 d.y, .int .i64 d.n, .int .i64 p0, .int .i64 p1, .int .i64 d.next.length] : List Value).toArray rfl rfl (row_there f7.out rfl) (by kernel_rfl) (by simp [Value.oneCell']) ?_
        simp only [Act.put]
        have g7 := row_set ([.int .i64 d.op, .int .i64 d.x, .int .i64 d.y, .int .i64 d.n, .int .i64 p0, .int .i64 p1, .int .i64 d.next.length] : List Value) f7.out rfl
        have g8 := (heap_setCells_ne wa2 (wd.heap.size) (wa1.heap.size) 0 ([.int .i64 d.op, .int .i64 d.x, .int .i64 d.y, .int .i64 d.n, .int .i64 p0, .int .i64 p1, .int .i64 d.next.length] : List Value) (by have := hzA.out; have := hsA.out; omega) (heap_lt f8.out)).trans f8.out
        refine hK.out _ _ (below_setCells hHeld (by have := hzA.out; have := hsA.out; omega) hHeld.size) (fun hHeld => ?_)
        change Below w1.heap.size w1 (wa2.setCells (wd.heap.size) 0 [.int .i64 d.op, .int .i64 d.x, .int .i64 d.y, .int .i64 d.n, .int .i64 p0, .int .i64 p1, .int .i64 d.next.length]) at hHeld
        skip
        generalize hgen : wa2.setCells (wd.heap.size) 0 _ = wa3 at *
        clear hK K hgen
        replace f7 := Lib.hid g7
        clear g7
        replace f8 := Lib.hid g8
        clear g8
        refine wpAnyH_ready (rs := [20]) (by kernel_rfl) (by simp) ?_
        refine AllReadyH.cons (o := { dst := some 32, op := Op.load 86 (Operand.tmp 31), type := 86, pos := "l4_loans.go:122", after := #[{ on := 19, ground := Ground.data }, { on := 23, ground := Ground.gcOnly Departure.lateStores }], guard := none }) rfl (fun K hK => ?_) AllReadyH.nil
        rw [if_pos (by rfl)]
        refine wp_load_mid _ _ rfl F (2 + k * 4) rfl [.int .u64 ((effD ts d).r : Int), .int .u64 ((effD ts d).t : Int), .int .u64 ((effD ts d).c : Int), .int .u64 ((effD ts d).s : Int)] _ (hrE.out _ hHeld) Tryz.underlying86 rfl (by kernel_rfl) ?_
        simp only [Act.put]
        refine hK.out _ _ hHeld (fun hHeld => ?_)
        clear hK K
        refine wpAnyH_ready (rs := [24]) (by kernel_rfl) (by simp) ?_
        refine AllReadyH.cons (o := { dst := none, op := Op.store 86 (Operand.tmp 8) (Operand.tmp 32), type := 0, pos := "l4_loans.go:122", after := #[{ on := 22, ground := Ground.data }, { on := 20, ground := Ground.data }, { on := 23, ground := Ground.chain }, { on := 0, ground := Ground.phase }, { on := 1, ground := Ground.phase }, { on := 2, ground := Ground.phase }, { on := 3, ground := Ground.phase }, { on := 4, ground := Ground.phase }, { on := 5, ground := Ground.phase }, { on := 6, ground := Ground.phase }, { on := 7, ground := Ground.phase }, { on := 8, ground := Ground.phase }, { on := 9, ground := Ground.phase }, { on := 10, ground := Ground.phase }, { on := 11, ground := Ground.phase }, { on := 12, ground := Ground.phase }, { on := 13, ground := Ground.phase }, { on := 14, ground := Ground.phase }, { on := 15, ground := Ground.phase }, { on := 16, ground := Ground.phase }, { on := 17, ground := Ground.phase }, { on := 18, ground := Ground.phase }, { on := 19, ground := Ground.phase }, { on := 20, ground := Ground.phase }, { on := 21, ground := Ground.phase }, { on := 22, ground := Ground.phase }, { on := 23, ground := Ground.phase }], guard := none }) rfl (fun K hK => ?_) AllReadyH.nil
        rw [if_pos (by rfl)]
        refine wp_store_mid _ _ _ rfl (wa1.heap.size) 0 ([.int .u64 ((effD ts d).r : Int), .int .u64 ((effD ts d).t : Int), .int .u64 ((effD ts d).c : Int), .int .u64 ((effD ts d).s : Int)] : List Value).toArray rfl rfl (row_there f8.out rfl) (by kernel_rfl) (by simp [Value.oneCell']) ?_
        simp only [Act.put]
        have g8 := row_set ([.int .u64 ((effD ts d).r : Int), .int .u64 ((effD ts d).t : Int), .int .u64 ((effD ts d).c : Int), .int .u64 ((effD ts d).s : Int)] : List Value) f8.out rfl
        have g7 := (heap_setCells_ne wa3 (wa1.heap.size) (wd.heap.size) 0 ([.int .u64 ((effD ts d).r : Int), .int .u64 ((effD ts d).t : Int), .int .u64 ((effD ts d).c : Int), .int .u64 ((effD ts d).s : Int)] : List Value) (by have := hzA.out; have := hsA.out; omega) (heap_lt f7.out)).trans f7.out
        refine hK.out _ _ (below_setCells hHeld (by have := hzA.out; have := hsA.out; omega) hHeld.size) (fun hHeld => ?_)
        change Below w1.heap.size w1 (wa3.setCells (wa1.heap.size) 0 [.int .u64 ((effD ts d).r : Int), .int .u64 ((effD ts d).t : Int), .int .u64 ((effD ts d).c : Int), .int .u64 ((effD ts d).s : Int)]) at hHeld
        skip
        generalize hgen : wa3.setCells (wa1.heap.size) 0 _ = wa4 at *
        clear hK K hgen
        replace f7 := Lib.hid g7
        clear g7
        replace f8 := Lib.hid g8
        clear g8
        refine wpAnyH_done (by kernel_rfl) ?_ _
        go_wp2_with fail
        go_meet
        exact ⟨wd.heap.size, wa1.heap.size, p0, p1, rfl, rfl, f7.out, f8.out, by have := hzA.out; have := hsA.out; omega, by have := hzA.out; have := hsA.out; omega, hHeld⟩
      refine AllReadyH.cons (o := { dst := some 8, op := Op.alloc 86, type := 0, pos := "l4_loans.go:122", after := #[], guard := none }) rfl (fun K hK => ?_) AllReadyH.nil
      go_simp
      have f8 := heap_alloc_new wd (.cells #[.int .u64 0, .int .u64 0, .int .u64 0, .int .u64 0] 86)
      have hs1 := hHeld.size
      refine hK.out _ _ (hHeld.alloc hHeld.size (.cells #[.int .u64 0, .int .u64 0, .int .u64 0, .int .u64 0] 86)) (fun hHeld => ?_)
      have hz1 : (wd.alloc (.cells #[.int .u64 0, .int .u64 0, .int .u64 0, .int .u64 0] 86)).heap.size = wd.heap.size + 1 := by simp
      generalize wd.alloc (.cells #[.int .u64 0, .int .u64 0, .int .u64 0, .int .u64 0] 86) = wa1 at *
      replace hz1 := Lib.hid hz1
      replace f8 := Lib.hid f8
      clear hK K
      have hzA := hz1
      have hsA := Lib.hid hs1
      refine wpAnyH_ready (rs := [20, 21]) (by kernel_rfl) (by simp) ?_
      refine AllReadyH.cons (o := { dst := some 32, op := Op.load 86 (Operand.tmp 31), type := 86, pos := "l4_loans.go:122", after := #[{ on := 19, ground := Ground.data }, { on := 23, ground := Ground.gcOnly Departure.lateStores }], guard := none }) rfl (fun K hK => ?_) ?_
      · skip
        rw [if_pos (by rfl)]
        refine wp_load_mid _ _ rfl F (2 + k * 4) rfl [.int .u64 ((effD ts d).r : Int), .int .u64 ((effD ts d).t : Int), .int .u64 ((effD ts d).c : Int), .int .u64 ((effD ts d).s : Int)] _ (hrE.out _ hHeld) Tryz.underlying86 rfl (by kernel_rfl) ?_
        simp only [Act.put]
        refine hK.out _ _ hHeld (fun hHeld => ?_)
        clear hK K
        refine wpAnyH_ready (rs := [21]) (by kernel_rfl) (by simp) ?_
        refine AllReadyH.cons (o := { dst := some 7, op := Op.alloc 81, type := 0, pos := "l4_loans.go:122", after := #[], guard := none }) rfl (fun K hK => ?_) AllReadyH.nil
        go_simp
        have f7 := heap_alloc_new wa1 (.cells #[.int .i64 0, .int .i64 0, .int .i64 0, .int .i64 0, .int .i64 0, .int .i64 0, .int .i64 0] 81)
        replace f8 := ((Below.refl wa1.heap.size wa1).alloc (Nat.le_refl _) (.cells #[.int .i64 0, .int .i64 0, .int .i64 0, .int .i64 0, .int .i64 0, .int .i64 0, .int .i64 0] 81)).block _ (heap_lt f8.out) |>.trans f8.out
        have hs2 := hHeld.size
        refine hK.out _ _ (hHeld.alloc hHeld.size (.cells #[.int .i64 0, .int .i64 0, .int .i64 0, .int .i64 0, .int .i64 0, .int .i64 0, .int .i64 0] 81)) (fun hHeld => ?_)
        have hz2 : (wa1.alloc (.cells #[.int .i64 0, .int .i64 0, .int .i64 0, .int .i64 0, .int .i64 0, .int .i64 0, .int .i64 0] 81)).heap.size = wa1.heap.size + 1 := by simp
        generalize wa1.alloc (.cells #[.int .i64 0, .int .i64 0, .int .i64 0, .int .i64 0, .int .i64 0, .int .i64 0, .int .i64 0] 81) = wa2 at *
        replace hz2 := Lib.hid hz2
        replace f8 := Lib.hid f8
        replace f7 := Lib.hid f7
        clear hK K
        refine wpAnyH_ready (rs := [23]) (by kernel_rfl) (by simp) ?_
        refine AllReadyH.cons (o := { dst := none, op := Op.store 81 (Operand.tmp 7) (Operand.tmp 23), type := 0, pos := "l4_loans.go:122", after := #[{ on := 21, ground := Ground.data }, { on := 11, ground := Ground.data }, { on := 0, ground := Ground.phase }, { on := 1, ground := Ground.phase }, { on := 2, ground := Ground.phase }, { on := 3, ground := Ground.phase }, { on := 4, ground := Ground.phase }, { on := 5, ground := Ground.phase }, { on := 6, ground := Ground.phase }, { on := 7, ground := Ground.phase }, { on := 8, ground := Ground.phase }, { on := 9, ground := Ground.phase }, { on := 10, ground := Ground.phase }, { on := 11, ground := Ground.phase }, { on := 12, ground := Ground.textOnly Departure.lateStores }, { on := 13, ground := Ground.textOnly Departure.lateStores }, { on := 14, ground := Ground.textOnly Departure.lateStores }, { on := 15, ground := Ground.textOnly Departure.lateStores }, { on := 16, ground := Ground.textOnly Departure.lateStores }, { on := 17, ground := Ground.textOnly Departure.lateStores }, { on := 18, ground := Ground.textOnly Departure.lateStores }, { on := 19, ground := Ground.textOnly Departure.lateStores }, { on := 20, ground := Ground.textOnly Departure.lateStores }, { on := 21, ground := Ground.phase }, { on := 22, ground := Ground.phase }], guard := none }) rfl (fun K hK => ?_) AllReadyH.nil
        rw [if_pos (by rfl)]
        refine wp_store_mid _ _ _ rfl (wa1.heap.size) 0 ([.int .i64 d.op, .int .i64 d.x, .int .i64 d.y, .int .i64 d.n, .int .i64 p0, .int .i64 p1, .int .i64 d.next.length] : List Value).toArray rfl rfl (row_there f7.out rfl) (by kernel_rfl) (by simp [Value.oneCell']) ?_
        simp only [Act.put]
        have g7 := row_set ([.int .i64 d.op, .int .i64 d.x, .int .i64 d.y, .int .i64 d.n, .int .i64 p0, .int .i64 p1, .int .i64 d.next.length] : List Value) f7.out rfl
        have g8 := (heap_setCells_ne wa2 (wa1.heap.size) (wd.heap.size) 0 ([.int .i64 d.op, .int .i64 d.x, .int .i64 d.y, .int .i64 d.n, .int .i64 p0, .int .i64 p1, .int .i64 d.next.length] : List Value) (by have := hzA.out; have := hsA.out; omega) (heap_lt f8.out)).trans f8.out
        refine hK.out _ _ (below_setCells hHeld (by have := hzA.out; have := hsA.out; omega) hHeld.size) (fun hHeld => ?_)
        change Below w1.heap.size w1 (wa2.setCells (wa1.heap.size) 0 [.int .i64 d.op, .int .i64 d.x, .int .i64 d.y, .int .i64 d.n, .int .i64 p0, .int .i64 p1, .int .i64 d.next.length]) at hHeld
        skip
        generalize hgen : wa2.setCells (wa1.heap.size) 0 _ = wa3 at *
        clear hK K hgen
        replace f8 := Lib.hid g8
        clear g8
        replace f7 := Lib.hid g7
        clear g7
        refine wpAnyH_ready (rs := [24]) (by kernel_rfl) (by simp) ?_
        refine AllReadyH.cons (o := { dst := none, op := Op.store 86 (Operand.tmp 8) (Operand.tmp 32), type := 0, pos := "l4_loans.go:122", after := #[{ on := 22, ground := Ground.data }, { on := 20, ground := Ground.data }, { on := 23, ground := Ground.chain }, { on := 0, ground := Ground.phase }, { on := 1, ground := Ground.phase }, { on := 2, ground := Ground.phase }, { on := 3, ground := Ground.phase }, { on := 4, ground := Ground.phase }, { on := 5, ground := Ground.phase }, { on := 6, ground := Ground.phase }, { on := 7, ground := Ground.phase }, { on := 8, ground := Ground.phase }, { on := 9, ground := Ground.phase }, { on := 10, ground := Ground.phase }, { on := 11, ground := Ground.phase }, { on := 12, ground := Ground.phase }, { on := 13, ground := Ground.phase }, { on := 14, ground := Ground.phase }, { on := 15, ground := Ground.phase }, { on := 16, ground := Ground.phase }, { on := 17, ground := Ground.phase }, { on := 18, ground := Ground.phase }, { on := 19, ground := Ground.phase }, { on := 20, ground := Ground.phase }, { on := 21, ground := Ground.phase }, { on := 22, ground := Ground.phase }, { on := 23, ground := Ground.phase }], guard := none }) rfl (fun K hK => ?_) AllReadyH.nil
        rw [if_pos (by rfl)]
        refine wp_store_mid _ _ _ rfl (wd.heap.size) 0 ([.int .u64 ((effD ts d).r : Int), .int .u64 ((effD ts d).t : Int), .int .u64 ((effD ts d).c : Int), .int .u64 ((effD ts d).s : Int)] : List Value).toArray rfl rfl (row_there f8.out rfl) (by kernel_rfl) (by simp [Value.oneCell']) ?_
        simp only [Act.put]
        have g8 := row_set ([.int .u64 ((effD ts d).r : Int), .int .u64 ((effD ts d).t : Int), .int .u64 ((effD ts d).c : Int), .int .u64 ((effD ts d).s : Int)] : List Value) f8.out rfl
        have g7 := (heap_setCells_ne wa3 (wd.heap.size) (wa1.heap.size) 0 ([.int .u64 ((effD ts d).r : Int), .int .u64 ((effD ts d).t : Int), .int .u64 ((effD ts d).c : Int), .int .u64 ((effD ts d).s : Int)] : List Value) (by have := hzA.out; have := hsA.out; omega) (heap_lt f7.out)).trans f7.out
        refine hK.out _ _ (below_setCells hHeld (by have := hzA.out; have := hsA.out; omega) hHeld.size) (fun hHeld => ?_)
        change Below w1.heap.size w1 (wa3.setCells (wd.heap.size) 0 [.int .u64 ((effD ts d).r : Int), .int .u64 ((effD ts d).t : Int), .int .u64 ((effD ts d).c : Int), .int .u64 ((effD ts d).s : Int)]) at hHeld
        skip
        generalize hgen : wa3.setCells (wd.heap.size) 0 _ = wa4 at *
        clear hK K hgen
        replace f8 := Lib.hid g8
        clear g8
        replace f7 := Lib.hid g7
        clear g7
        refine wpAnyH_done (by kernel_rfl) ?_ _
        go_wp2_with fail
        go_meet
        exact ⟨wa1.heap.size, wd.heap.size, p0, p1, rfl, rfl, f7.out, f8.out, by have := hzA.out; have := hsA.out; omega, by have := hzA.out; have := hsA.out; omega, hHeld⟩
      refine AllReadyH.cons (o := { dst := some 7, op := Op.alloc 81, type := 0, pos := "l4_loans.go:122", after := #[], guard := none }) rfl (fun K hK => ?_) AllReadyH.nil
      go_simp
      have f7 := heap_alloc_new wa1 (.cells #[.int .i64 0, .int .i64 0, .int .i64 0, .int .i64 0, .int .i64 0, .int .i64 0, .int .i64 0] 81)
      replace f8 := ((Below.refl wa1.heap.size wa1).alloc (Nat.le_refl _) (.cells #[.int .i64 0, .int .i64 0, .int .i64 0, .int .i64 0, .int .i64 0, .int .i64 0, .int .i64 0] 81)).block _ (heap_lt f8.out) |>.trans f8.out
      have hs2 := hHeld.size
      refine hK.out _ _ (hHeld.alloc hHeld.size (.cells #[.int .i64 0, .int .i64 0, .int .i64 0, .int .i64 0, .int .i64 0, .int .i64 0, .int .i64 0] 81)) (fun hHeld => ?_)
      have hz2 : (wa1.alloc (.cells #[.int .i64 0, .int .i64 0, .int .i64 0, .int .i64 0, .int .i64 0, .int .i64 0, .int .i64 0] 81)).heap.size = wa1.heap.size + 1 := by simp
      generalize wa1.alloc (.cells #[.int .i64 0, .int .i64 0, .int .i64 0, .int .i64 0, .int .i64 0, .int .i64 0, .int .i64 0] 81) = wa2 at *
      replace hz2 := Lib.hid hz2
      replace f8 := Lib.hid f8
      replace f7 := Lib.hid f7
      clear hK K
      refine wpAnyH_ready (rs := [20, 23]) (by kernel_rfl) (by simp) ?_
      refine AllReadyH.cons (o := { dst := some 32, op := Op.load 86 (Operand.tmp 31), type := 86, pos := "l4_loans.go:122", after := #[{ on := 19, ground := Ground.data }, { on := 23, ground := Ground.gcOnly Departure.lateStores }], guard := none }) rfl (fun K hK => ?_) ?_
      · skip
        rw [if_pos (by rfl)]
        refine wp_load_mid _ _ rfl F (2 + k * 4) rfl [.int .u64 ((effD ts d).r : Int), .int .u64 ((effD ts d).t : Int), .int .u64 ((effD ts d).c : Int), .int .u64 ((effD ts d).s : Int)] _ (hrE.out _ hHeld) Tryz.underlying86 rfl (by kernel_rfl) ?_
        simp only [Act.put]
        refine hK.out _ _ hHeld (fun hHeld => ?_)
        clear hK K
        refine wpAnyH_ready (rs := [23]) (by kernel_rfl) (by simp) ?_
        refine AllReadyH.cons (o := { dst := none, op := Op.store 81 (Operand.tmp 7) (Operand.tmp 23), type := 0, pos := "l4_loans.go:122", after := #[{ on := 21, ground := Ground.data }, { on := 11, ground := Ground.data }, { on := 0, ground := Ground.phase }, { on := 1, ground := Ground.phase }, { on := 2, ground := Ground.phase }, { on := 3, ground := Ground.phase }, { on := 4, ground := Ground.phase }, { on := 5, ground := Ground.phase }, { on := 6, ground := Ground.phase }, { on := 7, ground := Ground.phase }, { on := 8, ground := Ground.phase }, { on := 9, ground := Ground.phase }, { on := 10, ground := Ground.phase }, { on := 11, ground := Ground.phase }, { on := 12, ground := Ground.textOnly Departure.lateStores }, { on := 13, ground := Ground.textOnly Departure.lateStores }, { on := 14, ground := Ground.textOnly Departure.lateStores }, { on := 15, ground := Ground.textOnly Departure.lateStores }, { on := 16, ground := Ground.textOnly Departure.lateStores }, { on := 17, ground := Ground.textOnly Departure.lateStores }, { on := 18, ground := Ground.textOnly Departure.lateStores }, { on := 19, ground := Ground.textOnly Departure.lateStores }, { on := 20, ground := Ground.textOnly Departure.lateStores }, { on := 21, ground := Ground.phase }, { on := 22, ground := Ground.phase }], guard := none }) rfl (fun K hK => ?_) AllReadyH.nil
        rw [if_pos (by rfl)]
        refine wp_store_mid _ _ _ rfl (wa1.heap.size) 0 ([.int .i64 d.op, .int .i64 d.x, .int .i64 d.y, .int .i64 d.n, .int .i64 p0, .int .i64 p1, .int .i64 d.next.length] : List Value).toArray rfl rfl (row_there f7.out rfl) (by kernel_rfl) (by simp [Value.oneCell']) ?_
        simp only [Act.put]
        have g7 := row_set ([.int .i64 d.op, .int .i64 d.x, .int .i64 d.y, .int .i64 d.n, .int .i64 p0, .int .i64 p1, .int .i64 d.next.length] : List Value) f7.out rfl
        have g8 := (heap_setCells_ne wa2 (wa1.heap.size) (wd.heap.size) 0 ([.int .i64 d.op, .int .i64 d.x, .int .i64 d.y, .int .i64 d.n, .int .i64 p0, .int .i64 p1, .int .i64 d.next.length] : List Value) (by have := hzA.out; have := hsA.out; omega) (heap_lt f8.out)).trans f8.out
        refine hK.out _ _ (below_setCells hHeld (by have := hzA.out; have := hsA.out; omega) hHeld.size) (fun hHeld => ?_)
        change Below w1.heap.size w1 (wa2.setCells (wa1.heap.size) 0 [.int .i64 d.op, .int .i64 d.x, .int .i64 d.y, .int .i64 d.n, .int .i64 p0, .int .i64 p1, .int .i64 d.next.length]) at hHeld
        skip
        generalize hgen : wa2.setCells (wa1.heap.size) 0 _ = wa3 at *
        clear hK K hgen
        replace f8 := Lib.hid g8
        clear g8
        replace f7 := Lib.hid g7
        clear g7
        refine wpAnyH_ready (rs := [24]) (by kernel_rfl) (by simp) ?_
        refine AllReadyH.cons (o := { dst := none, op := Op.store 86 (Operand.tmp 8) (Operand.tmp 32), type := 0, pos := "l4_loans.go:122", after := #[{ on := 22, ground := Ground.data }, { on := 20, ground := Ground.data }, { on := 23, ground := Ground.chain }, { on := 0, ground := Ground.phase }, { on := 1, ground := Ground.phase }, { on := 2, ground := Ground.phase }, { on := 3, ground := Ground.phase }, { on := 4, ground := Ground.phase }, { on := 5, ground := Ground.phase }, { on := 6, ground := Ground.phase }, { on := 7, ground := Ground.phase }, { on := 8, ground := Ground.phase }, { on := 9, ground := Ground.phase }, { on := 10, ground := Ground.phase }, { on := 11, ground := Ground.phase }, { on := 12, ground := Ground.phase }, { on := 13, ground := Ground.phase }, { on := 14, ground := Ground.phase }, { on := 15, ground := Ground.phase }, { on := 16, ground := Ground.phase }, { on := 17, ground := Ground.phase }, { on := 18, ground := Ground.phase }, { on := 19, ground := Ground.phase }, { on := 20, ground := Ground.phase }, { on := 21, ground := Ground.phase }, { on := 22, ground := Ground.phase }, { on := 23, ground := Ground.phase }], guard := none }) rfl (fun K hK => ?_) AllReadyH.nil
        rw [if_pos (by rfl)]
        refine wp_store_mid _ _ _ rfl (wd.heap.size) 0 ([.int .u64 ((effD ts d).r : Int), .int .u64 ((effD ts d).t : Int), .int .u64 ((effD ts d).c : Int), .int .u64 ((effD ts d).s : Int)] : List Value).toArray rfl rfl (row_there f8.out rfl) (by kernel_rfl) (by simp [Value.oneCell']) ?_
        simp only [Act.put]
        have g8 := row_set ([.int .u64 ((effD ts d).r : Int), .int .u64 ((effD ts d).t : Int), .int .u64 ((effD ts d).c : Int), .int .u64 ((effD ts d).s : Int)] : List Value) f8.out rfl
        have g7 := (heap_setCells_ne wa3 (wd.heap.size) (wa1.heap.size) 0 ([.int .u64 ((effD ts d).r : Int), .int .u64 ((effD ts d).t : Int), .int .u64 ((effD ts d).c : Int), .int .u64 ((effD ts d).s : Int)] : List Value) (by have := hzA.out; have := hsA.out; omega) (heap_lt f7.out)).trans f7.out
        refine hK.out _ _ (below_setCells hHeld (by have := hzA.out; have := hsA.out; omega) hHeld.size) (fun hHeld => ?_)
        change Below w1.heap.size w1 (wa3.setCells (wd.heap.size) 0 [.int .u64 ((effD ts d).r : Int), .int .u64 ((effD ts d).t : Int), .int .u64 ((effD ts d).c : Int), .int .u64 ((effD ts d).s : Int)]) at hHeld
        skip
        generalize hgen : wa3.setCells (wd.heap.size) 0 _ = wa4 at *
        clear hK K hgen
        replace f8 := Lib.hid g8
        clear g8
        replace f7 := Lib.hid g7
        clear g7
        refine wpAnyH_done (by kernel_rfl) ?_ _
        go_wp2_with fail
        go_meet
        exact ⟨wa1.heap.size, wd.heap.size, p0, p1, rfl, rfl, f7.out, f8.out, by have := hzA.out; have := hsA.out; omega, by have := hzA.out; have := hsA.out; omega, hHeld⟩
      refine AllReadyH.cons (o := { dst := none, op := Op.store 81 (Operand.tmp 7) (Operand.tmp 23), type := 0, pos := "l4_loans.go:122", after := #[{ on := 21, ground := Ground.data }, { on := 11, ground := Ground.data }, { on := 0, ground := Ground.phase }, { on := 1, ground := Ground.phase }, { on := 2, ground := Ground.phase }, { on := 3, ground := Ground.phase }, { on := 4, ground := Ground.phase }, { on := 5, ground := Ground.phase }, { on := 6, ground := Ground.phase }, { on := 7, ground := Ground.phase }, { on := 8, ground := Ground.phase }, { on := 9, ground := Ground.phase }, { on := 10, ground := Ground.phase }, { on := 11, ground := Ground.phase }, { on := 12, ground := Ground.textOnly Departure.lateStores }, { on := 13, ground := Ground.textOnly Departure.lateStores }, { on := 14, ground := Ground.textOnly Departure.lateStores }, { on := 15, ground := Ground.textOnly Departure.lateStores }, { on := 16, ground := Ground.textOnly Departure.lateStores }, { on := 17, ground := Ground.textOnly Departure.lateStores }, { on := 18, ground := Ground.textOnly Departure.lateStores }, { on := 19, ground := Ground.textOnly Departure.lateStores }, { on := 20, ground := Ground.textOnly Departure.lateStores }, { on := 21, ground := Ground.phase }, { on := 22, ground := Ground.phase }], guard := none }) rfl (fun K hK => ?_) AllReadyH.nil
      rw [if_pos (by rfl)]
      refine wp_store_mid _ _ _ rfl (wa1.heap.size) 0 ([.int .i64 d.op, .int .i64 d.x, .int .i64 d.y, .int .i64 d.n, .int .i64 p0, .int .i64 p1, .int .i64 d.next.length] : List Value).toArray rfl rfl (row_there f7.out rfl) (by kernel_rfl) (by simp [Value.oneCell']) ?_
      simp only [Act.put]
      have g7 := row_set ([.int .i64 d.op, .int .i64 d.x, .int .i64 d.y, .int .i64 d.n, .int .i64 p0, .int .i64 p1, .int .i64 d.next.length] : List Value) f7.out rfl
      have g8 := (heap_setCells_ne wa2 (wa1.heap.size) (wd.heap.size) 0 ([.int .i64 d.op, .int .i64 d.x, .int .i64 d.y, .int .i64 d.n, .int .i64 p0, .int .i64 p1, .int .i64 d.next.length] : List Value) (by have := hzA.out; have := hsA.out; omega) (heap_lt f8.out)).trans f8.out
      refine hK.out _ _ (below_setCells hHeld (by have := hzA.out; have := hsA.out; omega) hHeld.size) (fun hHeld => ?_)
      change Below w1.heap.size w1 (wa2.setCells (wa1.heap.size) 0 [.int .i64 d.op, .int .i64 d.x, .int .i64 d.y, .int .i64 d.n, .int .i64 p0, .int .i64 p1, .int .i64 d.next.length]) at hHeld
      skip
      generalize hgen : wa2.setCells (wa1.heap.size) 0 _ = wa3 at *
      clear hK K hgen
      replace f8 := Lib.hid g8
      clear g8
      replace f7 := Lib.hid g7
      clear g7
      refine wpAnyH_ready (rs := [20]) (by kernel_rfl) (by simp) ?_
      refine AllReadyH.cons (o := { dst := some 32, op := Op.load 86 (Operand.tmp 31), type := 86, pos := "l4_loans.go:122", after := #[{ on := 19, ground := Ground.data }, { on := 23, ground := Ground.gcOnly Departure.lateStores }], guard := none }) rfl (fun K hK => ?_) AllReadyH.nil
      rw [if_pos (by rfl)]
      refine wp_load_mid _ _ rfl F (2 + k * 4) rfl [.int .u64 ((effD ts d).r : Int), .int .u64 ((effD ts d).t : Int), .int .u64 ((effD ts d).c : Int), .int .u64 ((effD ts d).s : Int)] _ (hrE.out _ hHeld) Tryz.underlying86 rfl (by kernel_rfl) ?_
      simp only [Act.put]
      refine hK.out _ _ hHeld (fun hHeld => ?_)
      clear hK K
      refine wpAnyH_ready (rs := [24]) (by kernel_rfl) (by simp) ?_
      refine AllReadyH.cons (o := { dst := none, op := Op.store 86 (Operand.tmp 8) (Operand.tmp 32), type := 0, pos := "l4_loans.go:122", after := #[{ on := 22, ground := Ground.data }, { on := 20, ground := Ground.data }, { on := 23, ground := Ground.chain }, { on := 0, ground := Ground.phase }, { on := 1, ground := Ground.phase }, { on := 2, ground := Ground.phase }, { on := 3, ground := Ground.phase }, { on := 4, ground := Ground.phase }, { on := 5, ground := Ground.phase }, { on := 6, ground := Ground.phase }, { on := 7, ground := Ground.phase }, { on := 8, ground := Ground.phase }, { on := 9, ground := Ground.phase }, { on := 10, ground := Ground.phase }, { on := 11, ground := Ground.phase }, { on := 12, ground := Ground.phase }, { on := 13, ground := Ground.phase }, { on := 14, ground := Ground.phase }, { on := 15, ground := Ground.phase }, { on := 16, ground := Ground.phase }, { on := 17, ground := Ground.phase }, { on := 18, ground := Ground.phase }, { on := 19, ground := Ground.phase }, { on := 20, ground := Ground.phase }, { on := 21, ground := Ground.phase }, { on := 22, ground := Ground.phase }, { on := 23, ground := Ground.phase }], guard := none }) rfl (fun K hK => ?_) AllReadyH.nil
      rw [if_pos (by rfl)]
      refine wp_store_mid _ _ _ rfl (wd.heap.size) 0 ([.int .u64 ((effD ts d).r : Int), .int .u64 ((effD ts d).t : Int), .int .u64 ((effD ts d).c : Int), .int .u64 ((effD ts d).s : Int)] : List Value).toArray rfl rfl (row_there f8.out rfl) (by kernel_rfl) (by simp [Value.oneCell']) ?_
      simp only [Act.put]
      have g8 := row_set ([.int .u64 ((effD ts d).r : Int), .int .u64 ((effD ts d).t : Int), .int .u64 ((effD ts d).c : Int), .int .u64 ((effD ts d).s : Int)] : List Value) f8.out rfl
      have g7 := (heap_setCells_ne wa3 (wd.heap.size) (wa1.heap.size) 0 ([.int .u64 ((effD ts d).r : Int), .int .u64 ((effD ts d).t : Int), .int .u64 ((effD ts d).c : Int), .int .u64 ((effD ts d).s : Int)] : List Value) (by have := hzA.out; have := hsA.out; omega) (heap_lt f7.out)).trans f7.out
      refine hK.out _ _ (below_setCells hHeld (by have := hzA.out; have := hsA.out; omega) hHeld.size) (fun hHeld => ?_)
      change Below w1.heap.size w1 (wa3.setCells (wd.heap.size) 0 [.int .u64 ((effD ts d).r : Int), .int .u64 ((effD ts d).t : Int), .int .u64 ((effD ts d).c : Int), .int .u64 ((effD ts d).s : Int)]) at hHeld
      skip
      generalize hgen : wa3.setCells (wd.heap.size) 0 _ = wa4 at *
      clear hK K hgen
      replace f8 := Lib.hid g8
      clear g8
      replace f7 := Lib.hid g7
      clear g7
      refine wpAnyH_done (by kernel_rfl) ?_ _
      go_wp2_with fail
      go_meet
      exact ⟨wa1.heap.size, wd.heap.size, p0, p1, rfl, rfl, f7.out, f8.out, by have := hzA.out; have := hsA.out; omega, by have := hzA.out; have := hsA.out; omega, hHeld⟩
    refine AllReadyH.cons (o := { dst := some 7, op := Op.alloc 81, type := 0, pos := "l4_loans.go:122", after := #[], guard := none }) rfl (fun K hK => ?_) ?_
    · skip
      go_simp
      have f7 := heap_alloc_new wd (.cells #[.int .i64 0, .int .i64 0, .int .i64 0, .int .i64 0, .int .i64 0, .int .i64 0, .int .i64 0] 81)
      have hs1 := hHeld.size
      refine hK.out _ _ (hHeld.alloc hHeld.size (.cells #[.int .i64 0, .int .i64 0, .int .i64 0, .int .i64 0, .int .i64 0, .int .i64 0, .int .i64 0] 81)) (fun hHeld => ?_)
      have hz1 : (wd.alloc (.cells #[.int .i64 0, .int .i64 0, .int .i64 0, .int .i64 0, .int .i64 0, .int .i64 0, .int .i64 0] 81)).heap.size = wd.heap.size + 1 := by simp
      generalize wd.alloc (.cells #[.int .i64 0, .int .i64 0, .int .i64 0, .int .i64 0, .int .i64 0, .int .i64 0, .int .i64 0] 81) = wa1 at *
      replace hz1 := Lib.hid hz1
      replace f7 := Lib.hid f7
      clear hK K
      have hzA := hz1
      have hsA := Lib.hid hs1
      refine wpAnyH_ready (rs := [15, 22]) (by kernel_rfl) (by simp) ?_
      refine AllReadyH.cons (o := { dst := some 27, op := Op.load 67 (Operand.tmp 26), type := 67, pos := "l4_loans.go:122", after := #[{ on := 14, ground := Ground.data }, { on := 23, ground := Ground.gcOnly Departure.lateStores }], guard := none }) rfl (fun K hK => ?_) ?_
      · skip
        have h9 := (HL1.out.keep hHeld).flCell
        go_simp
        refine hK.out _ _ hHeld (fun hHeld => ?_)
        clear hK K h9
        refine wpAnyH_take (i := 17) (oi := { dst := some 29, op := Op.nilCheck (Operand.tmp 27), type := 0, pos := "l4_loans.go:122", after := #[{ on := 15, ground := Ground.data }, { on := 23, ground := Ground.gcOnly Departure.lateStores }], guard := none }) (v := .pointer (some ⟨F, 0, none⟩)) rfl (by kernel_rfl) (by kernel_rfl) (by kernel_rfl) (fun _ _ _ h => h) (Or.inl ⟨by rfl, fun w hSw => by go_simp⟩) hHeld ?_
        try simp only [Act.put, List.setIfInBounds_toArray, List.set_cons_zero, List.set_cons_succ]
        refine wpAnyH_take (i := 18) (oi := { dst := some 30, op := Op.fieldAddr 92 (Operand.tmp 29) 2, type := 0, pos := "l4_loans.go:122", after := #[{ on := 17, ground := Ground.data }, { on := 23, ground := Ground.gcOnly Departure.lateStores }], guard := none }) (v := .pointer (some ⟨F, 2, none⟩)) rfl (by kernel_rfl) (by kernel_rfl) (by kernel_rfl) (fun _ _ _ h => h) (Or.inl ⟨by rfl, fun w hSw => by go_simp⟩) hHeld ?_
        try simp only [Act.put, List.setIfInBounds_toArray, List.set_cons_zero, List.set_cons_succ]
        refine wpAnyH_take (i := 19) (oi := { dst := some 31, op := Op.indexAddr 87 (Operand.tmp 30) (Operand.tmp 28), type := 0, pos := "l4_loans.go:122", after := #[{ on := 18, ground := Ground.data }, { on := 16, ground := Ground.data }, { on := 23, ground := Ground.gcOnly Departure.lateStores }], guard := none }) (v := .pointer (some ⟨F, 2 + k * 4, none⟩)) rfl (by kernel_rfl) (by kernel_rfl) (by kernel_rfl) (fun _ _ _ h => h) (Or.inl ⟨by rfl, fun w hSw => by go_simp⟩) hHeld ?_
        try simp only [Act.put, List.setIfInBounds_toArray, List.set_cons_zero, List.set_cons_succ]
        refine wpAnyH_ready (rs := [20, 22]) (by kernel_rfl) (by simp) ?_
        refine AllReadyH.cons (o := { dst := some 32, op := Op.load 86 (Operand.tmp 31), type := 86, pos := "l4_loans.go:122", after := #[{ on := 19, ground := Ground.data }, { on := 23, ground := Ground.gcOnly Departure.lateStores }], guard := none }) rfl (fun K hK => ?_) ?_
        · skip
          rw [if_pos (by rfl)]
          refine wp_load_mid _ _ rfl F (2 + k * 4) rfl [.int .u64 ((effD ts d).r : Int), .int .u64 ((effD ts d).t : Int), .int .u64 ((effD ts d).c : Int), .int .u64 ((effD ts d).s : Int)] _ (hrE.out _ hHeld) Tryz.underlying86 rfl (by kernel_rfl) ?_
          simp only [Act.put]
          refine hK.out _ _ hHeld (fun hHeld => ?_)
          clear hK K
          refine wpAnyH_ready (rs := [22]) (by kernel_rfl) (by simp) ?_
          refine AllReadyH.cons (o := { dst := some 8, op := Op.alloc 86, type := 0, pos := "l4_loans.go:122", after := #[], guard := none }) rfl (fun K hK => ?_) AllReadyH.nil
          go_simp
          have f8 := heap_alloc_new wa1 (.cells #[.int .u64 0, .int .u64 0, .int .u64 0, .int .u64 0] 86)
          replace f7 := ((Below.refl wa1.heap.size wa1).alloc (Nat.le_refl _) (.cells #[.int .u64 0, .int .u64 0, .int .u64 0, .int .u64 0] 86)).block _ (heap_lt f7.out) |>.trans f7.out
          have hs2 := hHeld.size
          refine hK.out _ _ (hHeld.alloc hHeld.size (.cells #[.int .u64 0, .int .u64 0, .int .u64 0, .int .u64 0] 86)) (fun hHeld => ?_)
          have hz2 : (wa1.alloc (.cells #[.int .u64 0, .int .u64 0, .int .u64 0, .int .u64 0] 86)).heap.size = wa1.heap.size + 1 := by simp
          generalize wa1.alloc (.cells #[.int .u64 0, .int .u64 0, .int .u64 0, .int .u64 0] 86) = wa2 at *
          replace hz2 := Lib.hid hz2
          replace f7 := Lib.hid f7
          replace f8 := Lib.hid f8
          clear hK K
          refine wpAnyH_ready (rs := [23]) (by kernel_rfl) (by simp) ?_
          refine AllReadyH.cons (o := { dst := none, op := Op.store 81 (Operand.tmp 7) (Operand.tmp 23), type := 0, pos := "l4_loans.go:122", after := #[{ on := 21, ground := Ground.data }, { on := 11, ground := Ground.data }, { on := 0, ground := Ground.phase }, { on := 1, ground := Ground.phase }, { on := 2, ground := Ground.phase }, { on := 3, ground := Ground.phase }, { on := 4, ground := Ground.phase }, { on := 5, ground := Ground.phase }, { on := 6, ground := Ground.phase }, { on := 7, ground := Ground.phase }, { on := 8, ground := Ground.phase }, { on := 9, ground := Ground.phase }, { on := 10, ground := Ground.phase }, { on := 11, ground := Ground.phase }, { on := 12, ground := Ground.textOnly Departure.lateStores }, { on := 13, ground := Ground.textOnly Departure.lateStores }, { on := 14, ground := Ground.textOnly Departure.lateStores }, { on := 15, ground := Ground.textOnly Departure.lateStores }, { on := 16, ground := Ground.textOnly Departure.lateStores }, { on := 17, ground := Ground.textOnly Departure.lateStores }, { on := 18, ground := Ground.textOnly Departure.lateStores }, { on := 19, ground := Ground.textOnly Departure.lateStores }, { on := 20, ground := Ground.textOnly Departure.lateStores }, { on := 21, ground := Ground.phase }, { on := 22, ground := Ground.phase }], guard := none }) rfl (fun K hK => ?_) AllReadyH.nil
          rw [if_pos (by rfl)]
          refine wp_store_mid _ _ _ rfl (wd.heap.size) 0 ([.int .i64 d.op, .int .i64 d.x, .int .i64 d.y, .int .i64 d.n, .int .i64 p0, .int .i64 p1, .int .i64 d.next.length] : List Value).toArray rfl rfl (row_there f7.out rfl) (by kernel_rfl) (by simp [Value.oneCell']) ?_
          simp only [Act.put]
          have g7 := row_set ([.int .i64 d.op, .int .i64 d.x, .int .i64 d.y, .int .i64 d.n, .int .i64 p0, .int .i64 p1, .int .i64 d.next.length] : List Value) f7.out rfl
          have g8 := (heap_setCells_ne wa2 (wd.heap.size) (wa1.heap.size) 0 ([.int .i64 d.op, .int .i64 d.x, .int .i64 d.y, .int .i64 d.n, .int .i64 p0, .int .i64 p1, .int .i64 d.next.length] : List Value) (by have := hzA.out; have := hsA.out; omega) (heap_lt f8.out)).trans f8.out
          refine hK.out _ _ (below_setCells hHeld (by have := hzA.out; have := hsA.out; omega) hHeld.size) (fun hHeld => ?_)
          change Below w1.heap.size w1 (wa2.setCells (wd.heap.size) 0 [.int .i64 d.op, .int .i64 d.x, .int .i64 d.y, .int .i64 d.n, .int .i64 p0, .int .i64 p1, .int .i64 d.next.length]) at hHeld
          skip
          generalize hgen : wa2.setCells (wd.heap.size) 0 _ = wa3 at *
          clear hK K hgen
          replace f7 := Lib.hid g7
          clear g7
          replace f8 := Lib.hid g8
          clear g8
          refine wpAnyH_ready (rs := [24]) (by kernel_rfl) (by simp) ?_
          refine AllReadyH.cons (o := { dst := none, op := Op.store 86 (Operand.tmp 8) (Operand.tmp 32), type := 0, pos := "l4_loans.go:122", after := #[{ on := 22, ground := Ground.data }, { on := 20, ground := Ground.data }, { on := 23, ground := Ground.chain }, { on := 0, ground := Ground.phase }, { on := 1, ground := Ground.phase }, { on := 2, ground := Ground.phase }, { on := 3, ground := Ground.phase }, { on := 4, ground := Ground.phase }, { on := 5, ground := Ground.phase }, { on := 6, ground := Ground.phase }, { on := 7, ground := Ground.phase }, { on := 8, ground := Ground.phase }, { on := 9, ground := Ground.phase }, { on := 10, ground := Ground.phase }, { on := 11, ground := Ground.phase }, { on := 12, ground := Ground.phase }, { on := 13, ground := Ground.phase }, { on := 14, ground := Ground.phase }, { on := 15, ground := Ground.phase }, { on := 16, ground := Ground.phase }, { on := 17, ground := Ground.phase }, { on := 18, ground := Ground.phase }, { on := 19, ground := Ground.phase }, { on := 20, ground := Ground.phase }, { on := 21, ground := Ground.phase }, { on := 22, ground := Ground.phase }, { on := 23, ground := Ground.phase }], guard := none }) rfl (fun K hK => ?_) AllReadyH.nil
          rw [if_pos (by rfl)]
          refine wp_store_mid _ _ _ rfl (wa1.heap.size) 0 ([.int .u64 ((effD ts d).r : Int), .int .u64 ((effD ts d).t : Int), .int .u64 ((effD ts d).c : Int), .int .u64 ((effD ts d).s : Int)] : List Value).toArray rfl rfl (row_there f8.out rfl) (by kernel_rfl) (by simp [Value.oneCell']) ?_
          simp only [Act.put]
          have g8 := row_set ([.int .u64 ((effD ts d).r : Int), .int .u64 ((effD ts d).t : Int), .int .u64 ((effD ts d).c : Int), .int .u64 ((effD ts d).s : Int)] : List Value) f8.out rfl
          have g7 := (heap_setCells_ne wa3 (wa1.heap.size) (wd.heap.size) 0 ([.int .u64 ((effD ts d).r : Int), .int .u64 ((effD ts d).t : Int), .int .u64 ((effD ts d).c : Int), .int .u64 ((effD ts d).s : Int)] : List Value) (by have := hzA.out; have := hsA.out; omega) (heap_lt f7.out)).trans f7.out
          refine hK.out _ _ (below_setCells hHeld (by have := hzA.out; have := hsA.out; omega) hHeld.size) (fun hHeld => ?_)
          change Below w1.heap.size w1 (wa3.setCells (wa1.heap.size) 0 [.int .u64 ((effD ts d).r : Int), .int .u64 ((effD ts d).t : Int), .int .u64 ((effD ts d).c : Int), .int .u64 ((effD ts d).s : Int)]) at hHeld
          skip
          generalize hgen : wa3.setCells (wa1.heap.size) 0 _ = wa4 at *
          clear hK K hgen
          replace f7 := Lib.hid g7
          clear g7
          replace f8 := Lib.hid g8
          clear g8
          refine wpAnyH_done (by kernel_rfl) ?_ _
          go_wp2_with fail
          go_meet
          exact ⟨wd.heap.size, wa1.heap.size, p0, p1, rfl, rfl, f7.out, f8.out, by have := hzA.out; have := hsA.out; omega, by have := hzA.out; have := hsA.out; omega, hHeld⟩
        refine AllReadyH.cons (o := { dst := some 8, op := Op.alloc 86, type := 0, pos := "l4_loans.go:122", after := #[], guard := none }) rfl (fun K hK => ?_) AllReadyH.nil
        go_simp
        have f8 := heap_alloc_new wa1 (.cells #[.int .u64 0, .int .u64 0, .int .u64 0, .int .u64 0] 86)
        replace f7 := ((Below.refl wa1.heap.size wa1).alloc (Nat.le_refl _) (.cells #[.int .u64 0, .int .u64 0, .int .u64 0, .int .u64 0] 86)).block _ (heap_lt f7.out) |>.trans f7.out
        have hs2 := hHeld.size
        refine hK.out _ _ (hHeld.alloc hHeld.size (.cells #[.int .u64 0, .int .u64 0, .int .u64 0, .int .u64 0] 86)) (fun hHeld => ?_)
        have hz2 : (wa1.alloc (.cells #[.int .u64 0, .int .u64 0, .int .u64 0, .int .u64 0] 86)).heap.size = wa1.heap.size + 1 := by simp
        generalize wa1.alloc (.cells #[.int .u64 0, .int .u64 0, .int .u64 0, .int .u64 0] 86) = wa2 at *
        replace hz2 := Lib.hid hz2
        replace f7 := Lib.hid f7
        replace f8 := Lib.hid f8
        clear hK K
        refine wpAnyH_ready (rs := [20, 23]) (by kernel_rfl) (by simp) ?_
        refine AllReadyH.cons (o := { dst := some 32, op := Op.load 86 (Operand.tmp 31), type := 86, pos := "l4_loans.go:122", after := #[{ on := 19, ground := Ground.data }, { on := 23, ground := Ground.gcOnly Departure.lateStores }], guard := none }) rfl (fun K hK => ?_) ?_
        · skip
          rw [if_pos (by rfl)]
          refine wp_load_mid _ _ rfl F (2 + k * 4) rfl [.int .u64 ((effD ts d).r : Int), .int .u64 ((effD ts d).t : Int), .int .u64 ((effD ts d).c : Int), .int .u64 ((effD ts d).s : Int)] _ (hrE.out _ hHeld) Tryz.underlying86 rfl (by kernel_rfl) ?_
          simp only [Act.put]
          refine hK.out _ _ hHeld (fun hHeld => ?_)
          clear hK K
          refine wpAnyH_ready (rs := [23]) (by kernel_rfl) (by simp) ?_
          refine AllReadyH.cons (o := { dst := none, op := Op.store 81 (Operand.tmp 7) (Operand.tmp 23), type := 0, pos := "l4_loans.go:122", after := #[{ on := 21, ground := Ground.data }, { on := 11, ground := Ground.data }, { on := 0, ground := Ground.phase }, { on := 1, ground := Ground.phase }, { on := 2, ground := Ground.phase }, { on := 3, ground := Ground.phase }, { on := 4, ground := Ground.phase }, { on := 5, ground := Ground.phase }, { on := 6, ground := Ground.phase }, { on := 7, ground := Ground.phase }, { on := 8, ground := Ground.phase }, { on := 9, ground := Ground.phase }, { on := 10, ground := Ground.phase }, { on := 11, ground := Ground.phase }, { on := 12, ground := Ground.textOnly Departure.lateStores }, { on := 13, ground := Ground.textOnly Departure.lateStores }, { on := 14, ground := Ground.textOnly Departure.lateStores }, { on := 15, ground := Ground.textOnly Departure.lateStores }, { on := 16, ground := Ground.textOnly Departure.lateStores }, { on := 17, ground := Ground.textOnly Departure.lateStores }, { on := 18, ground := Ground.textOnly Departure.lateStores }, { on := 19, ground := Ground.textOnly Departure.lateStores }, { on := 20, ground := Ground.textOnly Departure.lateStores }, { on := 21, ground := Ground.phase }, { on := 22, ground := Ground.phase }], guard := none }) rfl (fun K hK => ?_) AllReadyH.nil
          rw [if_pos (by rfl)]
          refine wp_store_mid _ _ _ rfl (wd.heap.size) 0 ([.int .i64 d.op, .int .i64 d.x, .int .i64 d.y, .int .i64 d.n, .int .i64 p0, .int .i64 p1, .int .i64 d.next.length] : List Value).toArray rfl rfl (row_there f7.out rfl) (by kernel_rfl) (by simp [Value.oneCell']) ?_
          simp only [Act.put]
          have g7 := row_set ([.int .i64 d.op, .int .i64 d.x, .int .i64 d.y, .int .i64 d.n, .int .i64 p0, .int .i64 p1, .int .i64 d.next.length] : List Value) f7.out rfl
          have g8 := (heap_setCells_ne wa2 (wd.heap.size) (wa1.heap.size) 0 ([.int .i64 d.op, .int .i64 d.x, .int .i64 d.y, .int .i64 d.n, .int .i64 p0, .int .i64 p1, .int .i64 d.next.length] : List Value) (by have := hzA.out; have := hsA.out; omega) (heap_lt f8.out)).trans f8.out
          refine hK.out _ _ (below_setCells hHeld (by have := hzA.out; have := hsA.out; omega) hHeld.size) (fun hHeld => ?_)
          change Below w1.heap.size w1 (wa2.setCells (wd.heap.size) 0 [.int .i64 d.op, .int .i64 d.x, .int .i64 d.y, .int .i64 d.n, .int .i64 p0, .int .i64 p1, .int .i64 d.next.length]) at hHeld
          skip
          generalize hgen : wa2.setCells (wd.heap.size) 0 _ = wa3 at *
          clear hK K hgen
          replace f7 := Lib.hid g7
          clear g7
          replace f8 := Lib.hid g8
          clear g8
          refine wpAnyH_ready (rs := [24]) (by kernel_rfl) (by simp) ?_
          refine AllReadyH.cons (o := { dst := none, op := Op.store 86 (Operand.tmp 8) (Operand.tmp 32), type := 0, pos := "l4_loans.go:122", after := #[{ on := 22, ground := Ground.data }, { on := 20, ground := Ground.data }, { on := 23, ground := Ground.chain }, { on := 0, ground := Ground.phase }, { on := 1, ground := Ground.phase }, { on := 2, ground := Ground.phase }, { on := 3, ground := Ground.phase }, { on := 4, ground := Ground.phase }, { on := 5, ground := Ground.phase }, { on := 6, ground := Ground.phase }, { on := 7, ground := Ground.phase }, { on := 8, ground := Ground.phase }, { on := 9, ground := Ground.phase }, { on := 10, ground := Ground.phase }, { on := 11, ground := Ground.phase }, { on := 12, ground := Ground.phase }, { on := 13, ground := Ground.phase }, { on := 14, ground := Ground.phase }, { on := 15, ground := Ground.phase }, { on := 16, ground := Ground.phase }, { on := 17, ground := Ground.phase }, { on := 18, ground := Ground.phase }, { on := 19, ground := Ground.phase }, { on := 20, ground := Ground.phase }, { on := 21, ground := Ground.phase }, { on := 22, ground := Ground.phase }, { on := 23, ground := Ground.phase }], guard := none }) rfl (fun K hK => ?_) AllReadyH.nil
          rw [if_pos (by rfl)]
          refine wp_store_mid _ _ _ rfl (wa1.heap.size) 0 ([.int .u64 ((effD ts d).r : Int), .int .u64 ((effD ts d).t : Int), .int .u64 ((effD ts d).c : Int), .int .u64 ((effD ts d).s : Int)] : List Value).toArray rfl rfl (row_there f8.out rfl) (by kernel_rfl) (by simp [Value.oneCell']) ?_
          simp only [Act.put]
          have g8 := row_set ([.int .u64 ((effD ts d).r : Int), .int .u64 ((effD ts d).t : Int), .int .u64 ((effD ts d).c : Int), .int .u64 ((effD ts d).s : Int)] : List Value) f8.out rfl
          have g7 := (heap_setCells_ne wa3 (wa1.heap.size) (wd.heap.size) 0 ([.int .u64 ((effD ts d).r : Int), .int .u64 ((effD ts d).t : Int), .int .u64 ((effD ts d).c : Int), .int .u64 ((effD ts d).s : Int)] : List Value) (by have := hzA.out; have := hsA.out; omega) (heap_lt f7.out)).trans f7.out
          refine hK.out _ _ (below_setCells hHeld (by have := hzA.out; have := hsA.out; omega) hHeld.size) (fun hHeld => ?_)
          change Below w1.heap.size w1 (wa3.setCells (wa1.heap.size) 0 [.int .u64 ((effD ts d).r : Int), .int .u64 ((effD ts d).t : Int), .int .u64 ((effD ts d).c : Int), .int .u64 ((effD ts d).s : Int)]) at hHeld
          skip
          generalize hgen : wa3.setCells (wa1.heap.size) 0 _ = wa4 at *
          clear hK K hgen
          replace f7 := Lib.hid g7
          clear g7
          replace f8 := Lib.hid g8
          clear g8
          refine wpAnyH_done (by kernel_rfl) ?_ _
          go_wp2_with fail
          go_meet
          exact ⟨wd.heap.size, wa1.heap.size, p0, p1, rfl, rfl, f7.out, f8.out, by have := hzA.out; have := hsA.out; omega, by have := hzA.out; have := hsA.out; omega, hHeld⟩
        refine AllReadyH.cons (o := { dst := none, op := Op.store 81 (Operand.tmp 7) (Operand.tmp 23), type := 0, pos := "l4_loans.go:122", after := #[{ on := 21, ground := Ground.data }, { on := 11, ground := Ground.data }, { on := 0, ground := Ground.phase }, { on := 1, ground := Ground.phase }, { on := 2, ground := Ground.phase }, { on := 3, ground := Ground.phase }, { on := 4, ground := Ground.phase }, { on := 5, ground := Ground.phase }, { on := 6, ground := Ground.phase }, { on := 7, ground := Ground.phase }, { on := 8, ground := Ground.phase }, { on := 9, ground := Ground.phase }, { on := 10, ground := Ground.phase }, { on := 11, ground := Ground.phase }, { on := 12, ground := Ground.textOnly Departure.lateStores }, { on := 13, ground := Ground.textOnly Departure.lateStores }, { on := 14, ground := Ground.textOnly Departure.lateStores }, { on := 15, ground := Ground.textOnly Departure.lateStores }, { on := 16, ground := Ground.textOnly Departure.lateStores }, { on := 17, ground := Ground.textOnly Departure.lateStores }, { on := 18, ground := Ground.textOnly Departure.lateStores }, { on := 19, ground := Ground.textOnly Departure.lateStores }, { on := 20, ground := Ground.textOnly Departure.lateStores }, { on := 21, ground := Ground.phase }, { on := 22, ground := Ground.phase }], guard := none }) rfl (fun K hK => ?_) AllReadyH.nil
        rw [if_pos (by rfl)]
        refine wp_store_mid _ _ _ rfl (wd.heap.size) 0 ([.int .i64 d.op, .int .i64 d.x, .int .i64 d.y, .int .i64 d.n, .int .i64 p0, .int .i64 p1, .int .i64 d.next.length] : List Value).toArray rfl rfl (row_there f7.out rfl) (by kernel_rfl) (by simp [Value.oneCell']) ?_
        simp only [Act.put]
        have g7 := row_set ([.int .i64 d.op, .int .i64 d.x, .int .i64 d.y, .int .i64 d.n, .int .i64 p0, .int .i64 p1, .int .i64 d.next.length] : List Value) f7.out rfl
        have g8 := (heap_setCells_ne wa2 (wd.heap.size) (wa1.heap.size) 0 ([.int .i64 d.op, .int .i64 d.x, .int .i64 d.y, .int .i64 d.n, .int .i64 p0, .int .i64 p1, .int .i64 d.next.length] : List Value) (by have := hzA.out; have := hsA.out; omega) (heap_lt f8.out)).trans f8.out
        refine hK.out _ _ (below_setCells hHeld (by have := hzA.out; have := hsA.out; omega) hHeld.size) (fun hHeld => ?_)
        change Below w1.heap.size w1 (wa2.setCells (wd.heap.size) 0 [.int .i64 d.op, .int .i64 d.x, .int .i64 d.y, .int .i64 d.n, .int .i64 p0, .int .i64 p1, .int .i64 d.next.length]) at hHeld
        skip
        generalize hgen : wa2.setCells (wd.heap.size) 0 _ = wa3 at *
        clear hK K hgen
        replace f7 := Lib.hid g7
        clear g7
        replace f8 := Lib.hid g8
        clear g8
        refine wpAnyH_ready (rs := [20]) (by kernel_rfl) (by simp) ?_
        refine AllReadyH.cons (o := { dst := some 32, op := Op.load 86 (Operand.tmp 31), type := 86, pos := "l4_loans.go:122", after := #[{ on := 19, ground := Ground.data }, { on := 23, ground := Ground.gcOnly Departure.lateStores }], guard := none }) rfl (fun K hK => ?_) AllReadyH.nil
        rw [if_pos (by rfl)]
        refine wp_load_mid _ _ rfl F (2 + k * 4) rfl [.int .u64 ((effD ts d).r : Int), .int .u64 ((effD ts d).t : Int), .int .u64 ((effD ts d).c : Int), .int .u64 ((effD ts d).s : Int)] _ (hrE.out _ hHeld) Tryz.underlying86 rfl (by kernel_rfl) ?_
        simp only [Act.put]
        refine hK.out _ _ hHeld (fun hHeld => ?_)
        clear hK K
        refine wpAnyH_ready (rs := [24]) (by kernel_rfl) (by simp) ?_
        refine AllReadyH.cons (o := { dst := none, op := Op.store 86 (Operand.tmp 8) (Operand.tmp 32), type := 0, pos := "l4_loans.go:122", after := #[{ on := 22, ground := Ground.data }, { on := 20, ground := Ground.data }, { on := 23, ground := Ground.chain }, { on := 0, ground := Ground.phase }, { on := 1, ground := Ground.phase }, { on := 2, ground := Ground.phase }, { on := 3, ground := Ground.phase }, { on := 4, ground := Ground.phase }, { on := 5, ground := Ground.phase }, { on := 6, ground := Ground.phase }, { on := 7, ground := Ground.phase }, { on := 8, ground := Ground.phase }, { on := 9, ground := Ground.phase }, { on := 10, ground := Ground.phase }, { on := 11, ground := Ground.phase }, { on := 12, ground := Ground.phase }, { on := 13, ground := Ground.phase }, { on := 14, ground := Ground.phase }, { on := 15, ground := Ground.phase }, { on := 16, ground := Ground.phase }, { on := 17, ground := Ground.phase }, { on := 18, ground := Ground.phase }, { on := 19, ground := Ground.phase }, { on := 20, ground := Ground.phase }, { on := 21, ground := Ground.phase }, { on := 22, ground := Ground.phase }, { on := 23, ground := Ground.phase }], guard := none }) rfl (fun K hK => ?_) AllReadyH.nil
        rw [if_pos (by rfl)]
        refine wp_store_mid _ _ _ rfl (wa1.heap.size) 0 ([.int .u64 ((effD ts d).r : Int), .int .u64 ((effD ts d).t : Int), .int .u64 ((effD ts d).c : Int), .int .u64 ((effD ts d).s : Int)] : List Value).toArray rfl rfl (row_there f8.out rfl) (by kernel_rfl) (by simp [Value.oneCell']) ?_
        simp only [Act.put]
        have g8 := row_set ([.int .u64 ((effD ts d).r : Int), .int .u64 ((effD ts d).t : Int), .int .u64 ((effD ts d).c : Int), .int .u64 ((effD ts d).s : Int)] : List Value) f8.out rfl
        have g7 := (heap_setCells_ne wa3 (wa1.heap.size) (wd.heap.size) 0 ([.int .u64 ((effD ts d).r : Int), .int .u64 ((effD ts d).t : Int), .int .u64 ((effD ts d).c : Int), .int .u64 ((effD ts d).s : Int)] : List Value) (by have := hzA.out; have := hsA.out; omega) (heap_lt f7.out)).trans f7.out
        refine hK.out _ _ (below_setCells hHeld (by have := hzA.out; have := hsA.out; omega) hHeld.size) (fun hHeld => ?_)
        change Below w1.heap.size w1 (wa3.setCells (wa1.heap.size) 0 [.int .u64 ((effD ts d).r : Int), .int .u64 ((effD ts d).t : Int), .int .u64 ((effD ts d).c : Int), .int .u64 ((effD ts d).s : Int)]) at hHeld
        skip
        generalize hgen : wa3.setCells (wa1.heap.size) 0 _ = wa4 at *
        clear hK K hgen
        replace f7 := Lib.hid g7
        clear g7
        replace f8 := Lib.hid g8
        clear g8
        refine wpAnyH_done (by kernel_rfl) ?_ _
        go_wp2_with fail
        go_meet
        exact ⟨wd.heap.size, wa1.heap.size, p0, p1, rfl, rfl, f7.out, f8.out, by have := hzA.out; have := hsA.out; omega, by have := hzA.out; have := hsA.out; omega, hHeld⟩
      refine AllReadyH.cons (o := { dst := some 8, op := Op.alloc 86, type := 0, pos := "l4_loans.go:122", after := #[], guard := none }) rfl (fun K hK => ?_) AllReadyH.nil
      go_simp
      have f8 := heap_alloc_new wa1 (.cells #[.int .u64 0, .int .u64 0, .int .u64 0, .int .u64 0] 86)
      replace f7 := ((Below.refl wa1.heap.size wa1).alloc (Nat.le_refl _) (.cells #[.int .u64 0, .int .u64 0, .int .u64 0, .int .u64 0] 86)).block _ (heap_lt f7.out) |>.trans f7.out
      have hs2 := hHeld.size
      refine hK.out _ _ (hHeld.alloc hHeld.size (.cells #[.int .u64 0, .int .u64 0, .int .u64 0, .int .u64 0] 86)) (fun hHeld => ?_)
      have hz2 : (wa1.alloc (.cells #[.int .u64 0, .int .u64 0, .int .u64 0, .int .u64 0] 86)).heap.size = wa1.heap.size + 1 := by simp
      generalize wa1.alloc (.cells #[.int .u64 0, .int .u64 0, .int .u64 0, .int .u64 0] 86) = wa2 at *
      replace hz2 := Lib.hid hz2
      replace f7 := Lib.hid f7
      replace f8 := Lib.hid f8
      clear hK K
      refine wpAnyH_ready (rs := [15, 23]) (by kernel_rfl) (by simp) ?_
      refine AllReadyH.cons (o := { dst := some 27, op := Op.load 67 (Operand.tmp 26), type := 67, pos := "l4_loans.go:122", after := #[{ on := 14, ground := Ground.data }, { on := 23, ground := Ground.gcOnly Departure.lateStores }], guard := none }) rfl (fun K hK => ?_) ?_
      · skip
        have h9 := (HL1.out.keep hHeld).flCell
        go_simp
        refine hK.out _ _ hHeld (fun hHeld => ?_)
        clear hK K h9
        refine wpAnyH_take (i := 17) (oi := { dst := some 29, op := Op.nilCheck (Operand.tmp 27), type := 0, pos := "l4_loans.go:122", after := #[{ on := 15, ground := Ground.data }, { on := 23, ground := Ground.gcOnly Departure.lateStores }], guard := none }) (v := .pointer (some ⟨F, 0, none⟩)) rfl (by kernel_rfl) (by kernel_rfl) (by kernel_rfl) (fun _ _ _ h => h) (Or.inl ⟨by rfl, fun w hSw => by go_simp⟩) hHeld ?_
        try simp only [Act.put, List.setIfInBounds_toArray, List.set_cons_zero, List.set_cons_succ]
        refine wpAnyH_take (i := 18) (oi := { dst := some 30, op := Op.fieldAddr 92 (Operand.tmp 29) 2, type := 0, pos := "l4_loans.go:122", after := #[{ on := 17, ground := Ground.data }, { on := 23, ground := Ground.gcOnly Departure.lateStores }], guard := none }) (v := .pointer (some ⟨F, 2, none⟩)) rfl (by kernel_rfl) (by kernel_rfl) (by kernel_rfl) (fun _ _ _ h => h) (Or.inl ⟨by rfl, fun w hSw => by go_simp⟩) hHeld ?_
        try simp only [Act.put, List.setIfInBounds_toArray, List.set_cons_zero, List.set_cons_succ]
        refine wpAnyH_take (i := 19) (oi := { dst := some 31, op := Op.indexAddr 87 (Operand.tmp 30) (Operand.tmp 28), type := 0, pos := "l4_loans.go:122", after := #[{ on := 18, ground := Ground.data }, { on := 16, ground := Ground.data }, { on := 23, ground := Ground.gcOnly Departure.lateStores }], guard := none }) (v := .pointer (some ⟨F, 2 + k * 4, none⟩)) rfl (by kernel_rfl) (by kernel_rfl) (by kernel_rfl) (fun _ _ _ h => h) (Or.inl ⟨by rfl, fun w hSw => by go_simp⟩) hHeld ?_
        try simp only [Act.put, List.setIfInBounds_toArray, List.set_cons_zero, List.set_cons_succ]
        refine wpAnyH_ready (rs := [20, 23]) (by kernel_rfl) (by simp) ?_
        refine AllReadyH.cons (o := { dst := some 32, op := Op.load 86 (Operand.tmp 31), type := 86, pos := "l4_loans.go:122", after := #[{ on := 19, ground := Ground.data }, { on := 23, ground := Ground.gcOnly Departure.lateStores }], guard := none }) rfl (fun K hK => ?_) ?_
        · skip
          rw [if_pos (by rfl)]
          refine wp_load_mid _ _ rfl F (2 + k * 4) rfl [.int .u64 ((effD ts d).r : Int), .int .u64 ((effD ts d).t : Int), .int .u64 ((effD ts d).c : Int), .int .u64 ((effD ts d).s : Int)] _ (hrE.out _ hHeld) Tryz.underlying86 rfl (by kernel_rfl) ?_
          simp only [Act.put]
          refine hK.out _ _ hHeld (fun hHeld => ?_)
          clear hK K
          refine wpAnyH_ready (rs := [23]) (by kernel_rfl) (by simp) ?_
          refine AllReadyH.cons (o := { dst := none, op := Op.store 81 (Operand.tmp 7) (Operand.tmp 23), type := 0, pos := "l4_loans.go:122", after := #[{ on := 21, ground := Ground.data }, { on := 11, ground := Ground.data }, { on := 0, ground := Ground.phase }, { on := 1, ground := Ground.phase }, { on := 2, ground := Ground.phase }, { on := 3, ground := Ground.phase }, { on := 4, ground := Ground.phase }, { on := 5, ground := Ground.phase }, { on := 6, ground := Ground.phase }, { on := 7, ground := Ground.phase }, { on := 8, ground := Ground.phase }, { on := 9, ground := Ground.phase }, { on := 10, ground := Ground.phase }, { on := 11, ground := Ground.phase }, { on := 12, ground := Ground.textOnly Departure.lateStores }, { on := 13, ground := Ground.textOnly Departure.lateStores }, { on := 14, ground := Ground.textOnly Departure.lateStores }, { on := 15, ground := Ground.textOnly Departure.lateStores }, { on := 16, ground := Ground.textOnly Departure.lateStores }, { on := 17, ground := Ground.textOnly Departure.lateStores }, { on := 18, ground := Ground.textOnly Departure.lateStores }, { on := 19, ground := Ground.textOnly Departure.lateStores }, { on := 20, ground := Ground.textOnly Departure.lateStores }, { on := 21, ground := Ground.phase }, { on := 22, ground := Ground.phase }], guard := none }) rfl (fun K hK => ?_) AllReadyH.nil
          rw [if_pos (by rfl)]
          refine wp_store_mid _ _ _ rfl (wd.heap.size) 0 ([.int .i64 d.op, .int .i64 d.x, .int .i64 d.y, .int .i64 d.n, .int .i64 p0, .int .i64 p1, .int .i64 d.next.length] : List Value).toArray rfl rfl (row_there f7.out rfl) (by kernel_rfl) (by simp [Value.oneCell']) ?_
          simp only [Act.put]
          have g7 := row_set ([.int .i64 d.op, .int .i64 d.x, .int .i64 d.y, .int .i64 d.n, .int .i64 p0, .int .i64 p1, .int .i64 d.next.length] : List Value) f7.out rfl
          have g8 := (heap_setCells_ne wa2 (wd.heap.size) (wa1.heap.size) 0 ([.int .i64 d.op, .int .i64 d.x, .int .i64 d.y, .int .i64 d.n, .int .i64 p0, .int .i64 p1, .int .i64 d.next.length] : List Value) (by have := hzA.out; have := hsA.out; omega) (heap_lt f8.out)).trans f8.out
          refine hK.out _ _ (below_setCells hHeld (by have := hzA.out; have := hsA.out; omega) hHeld.size) (fun hHeld => ?_)
          change Below w1.heap.size w1 (wa2.setCells (wd.heap.size) 0 [.int .i64 d.op, .int .i64 d.x, .int .i64 d.y, .int .i64 d.n, .int .i64 p0, .int .i64 p1, .int .i64 d.next.length]) at hHeld
          skip
          generalize hgen : wa2.setCells (wd.heap.size) 0 _ = wa3 at *
          clear hK K hgen
          replace f7 := Lib.hid g7
          clear g7
          replace f8 := Lib.hid g8
          clear g8
          refine wpAnyH_ready (rs := [24]) (by kernel_rfl) (by simp) ?_
          refine AllReadyH.cons (o := { dst := none, op := Op.store 86 (Operand.tmp 8) (Operand.tmp 32), type := 0, pos := "l4_loans.go:122", after := #[{ on := 22, ground := Ground.data }, { on := 20, ground := Ground.data }, { on := 23, ground := Ground.chain }, { on := 0, ground := Ground.phase }, { on := 1, ground := Ground.phase }, { on := 2, ground := Ground.phase }, { on := 3, ground := Ground.phase }, { on := 4, ground := Ground.phase }, { on := 5, ground := Ground.phase }, { on := 6, ground := Ground.phase }, { on := 7, ground := Ground.phase }, { on := 8, ground := Ground.phase }, { on := 9, ground := Ground.phase }, { on := 10, ground := Ground.phase }, { on := 11, ground := Ground.phase }, { on := 12, ground := Ground.phase }, { on := 13, ground := Ground.phase }, { on := 14, ground := Ground.phase }, { on := 15, ground := Ground.phase }, { on := 16, ground := Ground.phase }, { on := 17, ground := Ground.phase }, { on := 18, ground := Ground.phase }, { on := 19, ground := Ground.phase }, { on := 20, ground := Ground.phase }, { on := 21, ground := Ground.phase }, { on := 22, ground := Ground.phase }, { on := 23, ground := Ground.phase }], guard := none }) rfl (fun K hK => ?_) AllReadyH.nil
          rw [if_pos (by rfl)]
          refine wp_store_mid _ _ _ rfl (wa1.heap.size) 0 ([.int .u64 ((effD ts d).r : Int), .int .u64 ((effD ts d).t : Int), .int .u64 ((effD ts d).c : Int), .int .u64 ((effD ts d).s : Int)] : List Value).toArray rfl rfl (row_there f8.out rfl) (by kernel_rfl) (by simp [Value.oneCell']) ?_
          simp only [Act.put]
          have g8 := row_set ([.int .u64 ((effD ts d).r : Int), .int .u64 ((effD ts d).t : Int), .int .u64 ((effD ts d).c : Int), .int .u64 ((effD ts d).s : Int)] : List Value) f8.out rfl
          have g7 := (heap_setCells_ne wa3 (wa1.heap.size) (wd.heap.size) 0 ([.int .u64 ((effD ts d).r : Int), .int .u64 ((effD ts d).t : Int), .int .u64 ((effD ts d).c : Int), .int .u64 ((effD ts d).s : Int)] : List Value) (by have := hzA.out; have := hsA.out; omega) (heap_lt f7.out)).trans f7.out
          refine hK.out _ _ (below_setCells hHeld (by have := hzA.out; have := hsA.out; omega) hHeld.size) (fun hHeld => ?_)
          change Below w1.heap.size w1 (wa3.setCells (wa1.heap.size) 0 [.int .u64 ((effD ts d).r : Int), .int .u64 ((effD ts d).t : Int), .int .u64 ((effD ts d).c : Int), .int .u64 ((effD ts d).s : Int)]) at hHeld
          skip
          generalize hgen : wa3.setCells (wa1.heap.size) 0 _ = wa4 at *
          clear hK K hgen
          replace f7 := Lib.hid g7
          clear g7
          replace f8 := Lib.hid g8
          clear g8
          refine wpAnyH_done (by kernel_rfl) ?_ _
          go_wp2_with fail
          go_meet
          exact ⟨wd.heap.size, wa1.heap.size, p0, p1, rfl, rfl, f7.out, f8.out, by have := hzA.out; have := hsA.out; omega, by have := hzA.out; have := hsA.out; omega, hHeld⟩
        refine AllReadyH.cons (o := { dst := none, op := Op.store 81 (Operand.tmp 7) (Operand.tmp 23), type := 0, pos := "l4_loans.go:122", after := #[{ on := 21, ground := Ground.data }, { on := 11, ground := Ground.data }, { on := 0, ground := Ground.phase }, { on := 1, ground := Ground.phase }, { on := 2, ground := Ground.phase }, { on := 3, ground := Ground.phase }, { on := 4, ground := Ground.phase }, { on := 5, ground := Ground.phase }, { on := 6, ground := Ground.phase }, { on := 7, ground := Ground.phase }, { on := 8, ground := Ground.phase }, { on := 9, ground := Ground.phase }, { on := 10, ground := Ground.phase }, { on := 11, ground := Ground.phase }, { on := 12, ground := Ground.textOnly Departure.lateStores }, { on := 13, ground := Ground.textOnly Departure.lateStores }, { on := 14, ground := Ground.textOnly Departure.lateStores }, { on := 15, ground := Ground.textOnly Departure.lateStores }, { on := 16, ground := Ground.textOnly Departure.lateStores }, { on := 17, ground := Ground.textOnly Departure.lateStores }, { on := 18, ground := Ground.textOnly Departure.lateStores }, { on := 19, ground := Ground.textOnly Departure.lateStores }, { on := 20, ground := Ground.textOnly Departure.lateStores }, { on := 21, ground := Ground.phase }, { on := 22, ground := Ground.phase }], guard := none }) rfl (fun K hK => ?_) AllReadyH.nil
        rw [if_pos (by rfl)]
        refine wp_store_mid _ _ _ rfl (wd.heap.size) 0 ([.int .i64 d.op, .int .i64 d.x, .int .i64 d.y, .int .i64 d.n, .int .i64 p0, .int .i64 p1, .int .i64 d.next.length] : List Value).toArray rfl rfl (row_there f7.out rfl) (by kernel_rfl) (by simp [Value.oneCell']) ?_
        simp only [Act.put]
        have g7 := row_set ([.int .i64 d.op, .int .i64 d.x, .int .i64 d.y, .int .i64 d.n, .int .i64 p0, .int .i64 p1, .int .i64 d.next.length] : List Value) f7.out rfl
        have g8 := (heap_setCells_ne wa2 (wd.heap.size) (wa1.heap.size) 0 ([.int .i64 d.op, .int .i64 d.x, .int .i64 d.y, .int .i64 d.n, .int .i64 p0, .int .i64 p1, .int .i64 d.next.length] : List Value) (by have := hzA.out; have := hsA.out; omega) (heap_lt f8.out)).trans f8.out
        refine hK.out _ _ (below_setCells hHeld (by have := hzA.out; have := hsA.out; omega) hHeld.size) (fun hHeld => ?_)
        change Below w1.heap.size w1 (wa2.setCells (wd.heap.size) 0 [.int .i64 d.op, .int .i64 d.x, .int .i64 d.y, .int .i64 d.n, .int .i64 p0, .int .i64 p1, .int .i64 d.next.length]) at hHeld
        skip
        generalize hgen : wa2.setCells (wd.heap.size) 0 _ = wa3 at *
        clear hK K hgen
        replace f7 := Lib.hid g7
        clear g7
        replace f8 := Lib.hid g8
        clear g8
        refine wpAnyH_ready (rs := [20]) (by kernel_rfl) (by simp) ?_
        refine AllReadyH.cons (o := { dst := some 32, op := Op.load 86 (Operand.tmp 31), type := 86, pos := "l4_loans.go:122", after := #[{ on := 19, ground := Ground.data }, { on := 23, ground := Ground.gcOnly Departure.lateStores }], guard := none }) rfl (fun K hK => ?_) AllReadyH.nil
        rw [if_pos (by rfl)]
        refine wp_load_mid _ _ rfl F (2 + k * 4) rfl [.int .u64 ((effD ts d).r : Int), .int .u64 ((effD ts d).t : Int), .int .u64 ((effD ts d).c : Int), .int .u64 ((effD ts d).s : Int)] _ (hrE.out _ hHeld) Tryz.underlying86 rfl (by kernel_rfl) ?_
        simp only [Act.put]
        refine hK.out _ _ hHeld (fun hHeld => ?_)
        clear hK K
        refine wpAnyH_ready (rs := [24]) (by kernel_rfl) (by simp) ?_
        refine AllReadyH.cons (o := { dst := none, op := Op.store 86 (Operand.tmp 8) (Operand.tmp 32), type := 0, pos := "l4_loans.go:122", after := #[{ on := 22, ground := Ground.data }, { on := 20, ground := Ground.data }, { on := 23, ground := Ground.chain }, { on := 0, ground := Ground.phase }, { on := 1, ground := Ground.phase }, { on := 2, ground := Ground.phase }, { on := 3, ground := Ground.phase }, { on := 4, ground := Ground.phase }, { on := 5, ground := Ground.phase }, { on := 6, ground := Ground.phase }, { on := 7, ground := Ground.phase }, { on := 8, ground := Ground.phase }, { on := 9, ground := Ground.phase }, { on := 10, ground := Ground.phase }, { on := 11, ground := Ground.phase }, { on := 12, ground := Ground.phase }, { on := 13, ground := Ground.phase }, { on := 14, ground := Ground.phase }, { on := 15, ground := Ground.phase }, { on := 16, ground := Ground.phase }, { on := 17, ground := Ground.phase }, { on := 18, ground := Ground.phase }, { on := 19, ground := Ground.phase }, { on := 20, ground := Ground.phase }, { on := 21, ground := Ground.phase }, { on := 22, ground := Ground.phase }, { on := 23, ground := Ground.phase }], guard := none }) rfl (fun K hK => ?_) AllReadyH.nil
        rw [if_pos (by rfl)]
        refine wp_store_mid _ _ _ rfl (wa1.heap.size) 0 ([.int .u64 ((effD ts d).r : Int), .int .u64 ((effD ts d).t : Int), .int .u64 ((effD ts d).c : Int), .int .u64 ((effD ts d).s : Int)] : List Value).toArray rfl rfl (row_there f8.out rfl) (by kernel_rfl) (by simp [Value.oneCell']) ?_
        simp only [Act.put]
        have g8 := row_set ([.int .u64 ((effD ts d).r : Int), .int .u64 ((effD ts d).t : Int), .int .u64 ((effD ts d).c : Int), .int .u64 ((effD ts d).s : Int)] : List Value) f8.out rfl
        have g7 := (heap_setCells_ne wa3 (wa1.heap.size) (wd.heap.size) 0 ([.int .u64 ((effD ts d).r : Int), .int .u64 ((effD ts d).t : Int), .int .u64 ((effD ts d).c : Int), .int .u64 ((effD ts d).s : Int)] : List Value) (by have := hzA.out; have := hsA.out; omega) (heap_lt f7.out)).trans f7.out
        refine hK.out _ _ (below_setCells hHeld (by have := hzA.out; have := hsA.out; omega) hHeld.size) (fun hHeld => ?_)
        change Below w1.heap.size w1 (wa3.setCells (wa1.heap.size) 0 [.int .u64 ((effD ts d).r : Int), .int .u64 ((effD ts d).t : Int), .int .u64 ((effD ts d).c : Int), .int .u64 ((effD ts d).s : Int)]) at hHeld
        skip
        generalize hgen : wa3.setCells (wa1.heap.size) 0 _ = wa4 at *
        clear hK K hgen
        replace f7 := Lib.hid g7
        clear g7
        replace f8 := Lib.hid g8
        clear g8
        refine wpAnyH_done (by kernel_rfl) ?_ _
        go_wp2_with fail
        go_meet
        exact ⟨wd.heap.size, wa1.heap.size, p0, p1, rfl, rfl, f7.out, f8.out, by have := hzA.out; have := hsA.out; omega, by have := hzA.out; have := hsA.out; omega, hHeld⟩
      refine AllReadyH.cons (o := { dst := none, op := Op.store 81 (Operand.tmp 7) (Operand.tmp 23), type := 0, pos := "l4_loans.go:122", after := #[{ on := 21, ground := Ground.data }, { on := 11, ground := Ground.data }, { on := 0, ground := Ground.phase }, { on := 1, ground := Ground.phase }, { on := 2, ground := Ground.phase }, { on := 3, ground := Ground.phase }, { on := 4, ground := Ground.phase }, { on := 5, ground := Ground.phase }, { on := 6, ground := Ground.phase }, { on := 7, ground := Ground.phase }, { on := 8, ground := Ground.phase }, { on := 9, ground := Ground.phase }, { on := 10, ground := Ground.phase }, { on := 11, ground := Ground.phase }, { on := 12, ground := Ground.textOnly Departure.lateStores }, { on := 13, ground := Ground.textOnly Departure.lateStores }, { on := 14, ground := Ground.textOnly Departure.lateStores }, { on := 15, ground := Ground.textOnly Departure.lateStores }, { on := 16, ground := Ground.textOnly Departure.lateStores }, { on := 17, ground := Ground.textOnly Departure.lateStores }, { on := 18, ground := Ground.textOnly Departure.lateStores }, { on := 19, ground := Ground.textOnly Departure.lateStores }, { on := 20, ground := Ground.textOnly Departure.lateStores }, { on := 21, ground := Ground.phase }, { on := 22, ground := Ground.phase }], guard := none }) rfl (fun K hK => ?_) AllReadyH.nil
      rw [if_pos (by rfl)]
      refine wp_store_mid _ _ _ rfl (wd.heap.size) 0 ([.int .i64 d.op, .int .i64 d.x, .int .i64 d.y, .int .i64 d.n, .int .i64 p0, .int .i64 p1, .int .i64 d.next.length] : List Value).toArray rfl rfl (row_there f7.out rfl) (by kernel_rfl) (by simp [Value.oneCell']) ?_
      simp only [Act.put]
      have g7 := row_set ([.int .i64 d.op, .int .i64 d.x, .int .i64 d.y, .int .i64 d.n, .int .i64 p0, .int .i64 p1, .int .i64 d.next.length] : List Value) f7.out rfl
      have g8 := (heap_setCells_ne wa2 (wd.heap.size) (wa1.heap.size) 0 ([.int .i64 d.op, .int .i64 d.x, .int .i64 d.y, .int .i64 d.n, .int .i64 p0, .int .i64 p1, .int .i64 d.next.length] : List Value) (by have := hzA.out; have := hsA.out; omega) (heap_lt f8.out)).trans f8.out
      refine hK.out _ _ (below_setCells hHeld (by have := hzA.out; have := hsA.out; omega) hHeld.size) (fun hHeld => ?_)
      change Below w1.heap.size w1 (wa2.setCells (wd.heap.size) 0 [.int .i64 d.op, .int .i64 d.x, .int .i64 d.y, .int .i64 d.n, .int .i64 p0, .int .i64 p1, .int .i64 d.next.length]) at hHeld
      skip
      generalize hgen : wa2.setCells (wd.heap.size) 0 _ = wa3 at *
      clear hK K hgen
      replace f7 := Lib.hid g7
      clear g7
      replace f8 := Lib.hid g8
      clear g8
      refine wpAnyH_ready (rs := [15]) (by kernel_rfl) (by simp) ?_
      refine AllReadyH.cons (o := { dst := some 27, op := Op.load 67 (Operand.tmp 26), type := 67, pos := "l4_loans.go:122", after := #[{ on := 14, ground := Ground.data }, { on := 23, ground := Ground.gcOnly Departure.lateStores }], guard := none }) rfl (fun K hK => ?_) AllReadyH.nil
      have h9 := (HL1.out.keep hHeld).flCell
      go_simp
      refine hK.out _ _ hHeld (fun hHeld => ?_)
      clear hK K h9
      refine wpAnyH_take (i := 17) (oi := { dst := some 29, op := Op.nilCheck (Operand.tmp 27), type := 0, pos := "l4_loans.go:122", after := #[{ on := 15, ground := Ground.data }, { on := 23, ground := Ground.gcOnly Departure.lateStores }], guard := none }) (v := .pointer (some ⟨F, 0, none⟩)) rfl (by kernel_rfl) (by kernel_rfl) (by kernel_rfl) (fun _ _ _ h => h) (Or.inl ⟨by rfl, fun w hSw => by go_simp⟩) hHeld ?_
      try simp only [Act.put, List.setIfInBounds_toArray, List.set_cons_zero, List.set_cons_succ]
      refine wpAnyH_take (i := 18) (oi := { dst := some 30, op := Op.fieldAddr 92 (Operand.tmp 29) 2, type := 0, pos := "l4_loans.go:122", after := #[{ on := 17, ground := Ground.data }, { on := 23, ground := Ground.gcOnly Departure.lateStores }], guard := none }) (v := .pointer (some ⟨F, 2, none⟩)) rfl (by kernel_rfl) (by kernel_rfl) (by kernel_rfl) (fun _ _ _ h => h) (Or.inl ⟨by rfl, fun w hSw => by go_simp⟩) hHeld ?_
      try simp only [Act.put, List.setIfInBounds_toArray, List.set_cons_zero, List.set_cons_succ]
      refine wpAnyH_take (i := 19) (oi := { dst := some 31, op := Op.indexAddr 87 (Operand.tmp 30) (Operand.tmp 28), type := 0, pos := "l4_loans.go:122", after := #[{ on := 18, ground := Ground.data }, { on := 16, ground := Ground.data }, { on := 23, ground := Ground.gcOnly Departure.lateStores }], guard := none }) (v := .pointer (some ⟨F, 2 + k * 4, none⟩)) rfl (by kernel_rfl) (by kernel_rfl) (by kernel_rfl) (fun _ _ _ h => h) (Or.inl ⟨by rfl, fun w hSw => by go_simp⟩) hHeld ?_
      try simp only [Act.put, List.setIfInBounds_toArray, List.set_cons_zero, List.set_cons_succ]
      refine wpAnyH_ready (rs := [20]) (by kernel_rfl) (by simp) ?_
      refine AllReadyH.cons (o := { dst := some 32, op := Op.load 86 (Operand.tmp 31), type := 86, pos := "l4_loans.go:122", after := #[{ on := 19, ground := Ground.data }, { on := 23, ground := Ground.gcOnly Departure.lateStores }], guard := none }) rfl (fun K hK => ?_) AllReadyH.nil
      rw [if_pos (by rfl)]
      refine wp_load_mid _ _ rfl F (2 + k * 4) rfl [.int .u64 ((effD ts d).r : Int), .int .u64 ((effD ts d).t : Int), .int .u64 ((effD ts d).c : Int), .int .u64 ((effD ts d).s : Int)] _ (hrE.out _ hHeld) Tryz.underlying86 rfl (by kernel_rfl) ?_
      simp only [Act.put]
      refine hK.out _ _ hHeld (fun hHeld => ?_)
      clear hK K
      refine wpAnyH_ready (rs := [24]) (by kernel_rfl) (by simp) ?_
      refine AllReadyH.cons (o := { dst := none, op := Op.store 86 (Operand.tmp 8) (Operand.tmp 32), type := 0, pos := "l4_loans.go:122", after := #[{ on := 22, ground := Ground.data }, { on := 20, ground := Ground.data }, { on := 23, ground := Ground.chain }, { on := 0, ground := Ground.phase }, { on := 1, ground := Ground.phase }, { on := 2, ground := Ground.phase }, { on := 3, ground := Ground.phase }, { on := 4, ground := Ground.phase }, { on := 5, ground := Ground.phase }, { on := 6, ground := Ground.phase }, { on := 7, ground := Ground.phase }, { on := 8, ground := Ground.phase }, { on := 9, ground := Ground.phase }, { on := 10, ground := Ground.phase }, { on := 11, ground := Ground.phase }, { on := 12, ground := Ground.phase }, { on := 13, ground := Ground.phase }, { on := 14, ground := Ground.phase }, { on := 15, ground := Ground.phase }, { on := 16, ground := Ground.phase }, { on := 17, ground := Ground.phase }, { on := 18, ground := Ground.phase }, { on := 19, ground := Ground.phase }, { on := 20, ground := Ground.phase }, { on := 21, ground := Ground.phase }, { on := 22, ground := Ground.phase }, { on := 23, ground := Ground.phase }], guard := none }) rfl (fun K hK => ?_) AllReadyH.nil
      rw [if_pos (by rfl)]
      refine wp_store_mid _ _ _ rfl (wa1.heap.size) 0 ([.int .u64 ((effD ts d).r : Int), .int .u64 ((effD ts d).t : Int), .int .u64 ((effD ts d).c : Int), .int .u64 ((effD ts d).s : Int)] : List Value).toArray rfl rfl (row_there f8.out rfl) (by kernel_rfl) (by simp [Value.oneCell']) ?_
      simp only [Act.put]
      have g8 := row_set ([.int .u64 ((effD ts d).r : Int), .int .u64 ((effD ts d).t : Int), .int .u64 ((effD ts d).c : Int), .int .u64 ((effD ts d).s : Int)] : List Value) f8.out rfl
      have g7 := (heap_setCells_ne wa3 (wa1.heap.size) (wd.heap.size) 0 ([.int .u64 ((effD ts d).r : Int), .int .u64 ((effD ts d).t : Int), .int .u64 ((effD ts d).c : Int), .int .u64 ((effD ts d).s : Int)] : List Value) (by have := hzA.out; have := hsA.out; omega) (heap_lt f7.out)).trans f7.out
      refine hK.out _ _ (below_setCells hHeld (by have := hzA.out; have := hsA.out; omega) hHeld.size) (fun hHeld => ?_)
      change Below w1.heap.size w1 (wa3.setCells (wa1.heap.size) 0 [.int .u64 ((effD ts d).r : Int), .int .u64 ((effD ts d).t : Int), .int .u64 ((effD ts d).c : Int), .int .u64 ((effD ts d).s : Int)]) at hHeld
      skip
      generalize hgen : wa3.setCells (wa1.heap.size) 0 _ = wa4 at *
      clear hK K hgen
      replace f7 := Lib.hid g7
      clear g7
      replace f8 := Lib.hid g8
      clear g8
      refine wpAnyH_done (by kernel_rfl) ?_ _
      go_wp2_with fail
      go_meet
      exact ⟨wd.heap.size, wa1.heap.size, p0, p1, rfl, rfl, f7.out, f8.out, by have := hzA.out; have := hsA.out; omega, by have := hzA.out; have := hsA.out; omega, hHeld⟩
    refine AllReadyH.cons (o := { dst := some 8, op := Op.alloc 86, type := 0, pos := "l4_loans.go:122", after := #[], guard := none }) rfl (fun K hK => ?_) AllReadyH.nil
    go_simp
    have f8 := heap_alloc_new wd (.cells #[.int .u64 0, .int .u64 0, .int .u64 0, .int .u64 0] 86)
    have hs1 := hHeld.size
    refine hK.out _ _ (hHeld.alloc hHeld.size (.cells #[.int .u64 0, .int .u64 0, .int .u64 0, .int .u64 0] 86)) (fun hHeld => ?_)
    have hz1 : (wd.alloc (.cells #[.int .u64 0, .int .u64 0, .int .u64 0, .int .u64 0] 86)).heap.size = wd.heap.size + 1 := by simp
    generalize wd.alloc (.cells #[.int .u64 0, .int .u64 0, .int .u64 0, .int .u64 0] 86) = wa1 at *
    replace hz1 := Lib.hid hz1
    replace f8 := Lib.hid f8
    clear hK K
    have hzA := hz1
    have hsA := Lib.hid hs1
    refine wpAnyH_ready (rs := [15, 21]) (by kernel_rfl) (by simp) ?_
    refine AllReadyH.cons (o := { dst := some 27, op := Op.load 67 (Operand.tmp 26), type := 67, pos := "l4_loans.go:122", after := #[{ on := 14, ground := Ground.data }, { on := 23, ground := Ground.gcOnly Departure.lateStores }], guard := none }) rfl (fun K hK => ?_) ?_
    · skip
      have h9 := (HL1.out.keep hHeld).flCell
      go_simp
      refine hK.out _ _ hHeld (fun hHeld => ?_)
      clear hK K h9
      refine wpAnyH_take (i := 17) (oi := { dst := some 29, op := Op.nilCheck (Operand.tmp 27), type := 0, pos := "l4_loans.go:122", after := #[{ on := 15, ground := Ground.data }, { on := 23, ground := Ground.gcOnly Departure.lateStores }], guard := none }) (v := .pointer (some ⟨F, 0, none⟩)) rfl (by kernel_rfl) (by kernel_rfl) (by kernel_rfl) (fun _ _ _ h => h) (Or.inl ⟨by rfl, fun w hSw => by go_simp⟩) hHeld ?_
      try simp only [Act.put, List.setIfInBounds_toArray, List.set_cons_zero, List.set_cons_succ]
      refine wpAnyH_take (i := 18) (oi := { dst := some 30, op := Op.fieldAddr 92 (Operand.tmp 29) 2, type := 0, pos := "l4_loans.go:122", after := #[{ on := 17, ground := Ground.data }, { on := 23, ground := Ground.gcOnly Departure.lateStores }], guard := none }) (v := .pointer (some ⟨F, 2, none⟩)) rfl (by kernel_rfl) (by kernel_rfl) (by kernel_rfl) (fun _ _ _ h => h) (Or.inl ⟨by rfl, fun w hSw => by go_simp⟩) hHeld ?_
      try simp only [Act.put, List.setIfInBounds_toArray, List.set_cons_zero, List.set_cons_succ]
      refine wpAnyH_take (i := 19) (oi := { dst := some 31, op := Op.indexAddr 87 (Operand.tmp 30) (Operand.tmp 28), type := 0, pos := "l4_loans.go:122", after := #[{ on := 18, ground := Ground.data }, { on := 16, ground := Ground.data }, { on := 23, ground := Ground.gcOnly Departure.lateStores }], guard := none }) (v := .pointer (some ⟨F, 2 + k * 4, none⟩)) rfl (by kernel_rfl) (by kernel_rfl) (by kernel_rfl) (fun _ _ _ h => h) (Or.inl ⟨by rfl, fun w hSw => by go_simp⟩) hHeld ?_
      try simp only [Act.put, List.setIfInBounds_toArray, List.set_cons_zero, List.set_cons_succ]
      refine wpAnyH_ready (rs := [20, 21]) (by kernel_rfl) (by simp) ?_
      refine AllReadyH.cons (o := { dst := some 32, op := Op.load 86 (Operand.tmp 31), type := 86, pos := "l4_loans.go:122", after := #[{ on := 19, ground := Ground.data }, { on := 23, ground := Ground.gcOnly Departure.lateStores }], guard := none }) rfl (fun K hK => ?_) ?_
      · skip
        rw [if_pos (by rfl)]
        refine wp_load_mid _ _ rfl F (2 + k * 4) rfl [.int .u64 ((effD ts d).r : Int), .int .u64 ((effD ts d).t : Int), .int .u64 ((effD ts d).c : Int), .int .u64 ((effD ts d).s : Int)] _ (hrE.out _ hHeld) Tryz.underlying86 rfl (by kernel_rfl) ?_
        simp only [Act.put]
        refine hK.out _ _ hHeld (fun hHeld => ?_)
        clear hK K
        refine wpAnyH_ready (rs := [21]) (by kernel_rfl) (by simp) ?_
        refine AllReadyH.cons (o := { dst := some 7, op := Op.alloc 81, type := 0, pos := "l4_loans.go:122", after := #[], guard := none }) rfl (fun K hK => ?_) AllReadyH.nil
        go_simp
        have f7 := heap_alloc_new wa1 (.cells #[.int .i64 0, .int .i64 0, .int .i64 0, .int .i64 0, .int .i64 0, .int .i64 0, .int .i64 0] 81)
        replace f8 := ((Below.refl wa1.heap.size wa1).alloc (Nat.le_refl _) (.cells #[.int .i64 0, .int .i64 0, .int .i64 0, .int .i64 0, .int .i64 0, .int .i64 0, .int .i64 0] 81)).block _ (heap_lt f8.out) |>.trans f8.out
        have hs2 := hHeld.size
        refine hK.out _ _ (hHeld.alloc hHeld.size (.cells #[.int .i64 0, .int .i64 0, .int .i64 0, .int .i64 0, .int .i64 0, .int .i64 0, .int .i64 0] 81)) (fun hHeld => ?_)
        have hz2 : (wa1.alloc (.cells #[.int .i64 0, .int .i64 0, .int .i64 0, .int .i64 0, .int .i64 0, .int .i64 0, .int .i64 0] 81)).heap.size = wa1.heap.size + 1 := by simp
        generalize wa1.alloc (.cells #[.int .i64 0, .int .i64 0, .int .i64 0, .int .i64 0, .int .i64 0, .int .i64 0, .int .i64 0] 81) = wa2 at *
        replace hz2 := Lib.hid hz2
        replace f8 := Lib.hid f8
        replace f7 := Lib.hid f7
        clear hK K
        refine wpAnyH_ready (rs := [23]) (by kernel_rfl) (by simp) ?_
        refine AllReadyH.cons (o := { dst := none, op := Op.store 81 (Operand.tmp 7) (Operand.tmp 23), type := 0, pos := "l4_loans.go:122", after := #[{ on := 21, ground := Ground.data }, { on := 11, ground := Ground.data }, { on := 0, ground := Ground.phase }, { on := 1, ground := Ground.phase }, { on := 2, ground := Ground.phase }, { on := 3, ground := Ground.phase }, { on := 4, ground := Ground.phase }, { on := 5, ground := Ground.phase }, { on := 6, ground := Ground.phase }, { on := 7, ground := Ground.phase }, { on := 8, ground := Ground.phase }, { on := 9, ground := Ground.phase }, { on := 10, ground := Ground.phase }, { on := 11, ground := Ground.phase }, { on := 12, ground := Ground.textOnly Departure.lateStores }, { on := 13, ground := Ground.textOnly Departure.lateStores }, { on := 14, ground := Ground.textOnly Departure.lateStores }, { on := 15, ground := Ground.textOnly Departure.lateStores }, { on := 16, ground := Ground.textOnly Departure.lateStores }, { on := 17, ground := Ground.textOnly Departure.lateStores }, { on := 18, ground := Ground.textOnly Departure.lateStores }, { on := 19, ground := Ground.textOnly Departure.lateStores }, { on := 20, ground := Ground.textOnly Departure.lateStores }, { on := 21, ground := Ground.phase }, { on := 22, ground := Ground.phase }], guard := none }) rfl (fun K hK => ?_) AllReadyH.nil
        rw [if_pos (by rfl)]
        refine wp_store_mid _ _ _ rfl (wa1.heap.size) 0 ([.int .i64 d.op, .int .i64 d.x, .int .i64 d.y, .int .i64 d.n, .int .i64 p0, .int .i64 p1, .int .i64 d.next.length] : List Value).toArray rfl rfl (row_there f7.out rfl) (by kernel_rfl) (by simp [Value.oneCell']) ?_
        simp only [Act.put]
        have g7 := row_set ([.int .i64 d.op, .int .i64 d.x, .int .i64 d.y, .int .i64 d.n, .int .i64 p0, .int .i64 p1, .int .i64 d.next.length] : List Value) f7.out rfl
        have g8 := (heap_setCells_ne wa2 (wa1.heap.size) (wd.heap.size) 0 ([.int .i64 d.op, .int .i64 d.x, .int .i64 d.y, .int .i64 d.n, .int .i64 p0, .int .i64 p1, .int .i64 d.next.length] : List Value) (by have := hzA.out; have := hsA.out; omega) (heap_lt f8.out)).trans f8.out
        refine hK.out _ _ (below_setCells hHeld (by have := hzA.out; have := hsA.out; omega) hHeld.size) (fun hHeld => ?_)
        change Below w1.heap.size w1 (wa2.setCells (wa1.heap.size) 0 [.int .i64 d.op, .int .i64 d.x, .int .i64 d.y, .int .i64 d.n, .int .i64 p0, .int .i64 p1, .int .i64 d.next.length]) at hHeld
        skip
        generalize hgen : wa2.setCells (wa1.heap.size) 0 _ = wa3 at *
        clear hK K hgen
        replace f8 := Lib.hid g8
        clear g8
        replace f7 := Lib.hid g7
        clear g7
        refine wpAnyH_ready (rs := [24]) (by kernel_rfl) (by simp) ?_
        refine AllReadyH.cons (o := { dst := none, op := Op.store 86 (Operand.tmp 8) (Operand.tmp 32), type := 0, pos := "l4_loans.go:122", after := #[{ on := 22, ground := Ground.data }, { on := 20, ground := Ground.data }, { on := 23, ground := Ground.chain }, { on := 0, ground := Ground.phase }, { on := 1, ground := Ground.phase }, { on := 2, ground := Ground.phase }, { on := 3, ground := Ground.phase }, { on := 4, ground := Ground.phase }, { on := 5, ground := Ground.phase }, { on := 6, ground := Ground.phase }, { on := 7, ground := Ground.phase }, { on := 8, ground := Ground.phase }, { on := 9, ground := Ground.phase }, { on := 10, ground := Ground.phase }, { on := 11, ground := Ground.phase }, { on := 12, ground := Ground.phase }, { on := 13, ground := Ground.phase }, { on := 14, ground := Ground.phase }, { on := 15, ground := Ground.phase }, { on := 16, ground := Ground.phase }, { on := 17, ground := Ground.phase }, { on := 18, ground := Ground.phase }, { on := 19, ground := Ground.phase }, { on := 20, ground := Ground.phase }, { on := 21, ground := Ground.phase }, { on := 22, ground := Ground.phase }, { on := 23, ground := Ground.phase }], guard := none }) rfl (fun K hK => ?_) AllReadyH.nil
        rw [if_pos (by rfl)]
        refine wp_store_mid _ _ _ rfl (wd.heap.size) 0 ([.int .u64 ((effD ts d).r : Int), .int .u64 ((effD ts d).t : Int), .int .u64 ((effD ts d).c : Int), .int .u64 ((effD ts d).s : Int)] : List Value).toArray rfl rfl (row_there f8.out rfl) (by kernel_rfl) (by simp [Value.oneCell']) ?_
        simp only [Act.put]
        have g8 := row_set ([.int .u64 ((effD ts d).r : Int), .int .u64 ((effD ts d).t : Int), .int .u64 ((effD ts d).c : Int), .int .u64 ((effD ts d).s : Int)] : List Value) f8.out rfl
        have g7 := (heap_setCells_ne wa3 (wd.heap.size) (wa1.heap.size) 0 ([.int .u64 ((effD ts d).r : Int), .int .u64 ((effD ts d).t : Int), .int .u64 ((effD ts d).c : Int), .int .u64 ((effD ts d).s : Int)] : List Value) (by have := hzA.out; have := hsA.out; omega) (heap_lt f7.out)).trans f7.out
        refine hK.out _ _ (below_setCells hHeld (by have := hzA.out; have := hsA.out; omega) hHeld.size) (fun hHeld => ?_)
        change Below w1.heap.size w1 (wa3.setCells (wd.heap.size) 0 [.int .u64 ((effD ts d).r : Int), .int .u64 ((effD ts d).t : Int), .int .u64 ((effD ts d).c : Int), .int .u64 ((effD ts d).s : Int)]) at hHeld
        skip
        generalize hgen : wa3.setCells (wd.heap.size) 0 _ = wa4 at *
        clear hK K hgen
        replace f8 := Lib.hid g8
        clear g8
        replace f7 := Lib.hid g7
        clear g7
        refine wpAnyH_done (by kernel_rfl) ?_ _
        go_wp2_with fail
        go_meet
        exact ⟨wa1.heap.size, wd.heap.size, p0, p1, rfl, rfl, f7.out, f8.out, by have := hzA.out; have := hsA.out; omega, by have := hzA.out; have := hsA.out; omega, hHeld⟩
      refine AllReadyH.cons (o := { dst := some 7, op := Op.alloc 81, type := 0, pos := "l4_loans.go:122", after := #[], guard := none }) rfl (fun K hK => ?_) AllReadyH.nil
      go_simp
      have f7 := heap_alloc_new wa1 (.cells #[.int .i64 0, .int .i64 0, .int .i64 0, .int .i64 0, .int .i64 0, .int .i64 0, .int .i64 0] 81)
      replace f8 := ((Below.refl wa1.heap.size wa1).alloc (Nat.le_refl _) (.cells #[.int .i64 0, .int .i64 0, .int .i64 0, .int .i64 0, .int .i64 0, .int .i64 0, .int .i64 0] 81)).block _ (heap_lt f8.out) |>.trans f8.out
      have hs2 := hHeld.size
      refine hK.out _ _ (hHeld.alloc hHeld.size (.cells #[.int .i64 0, .int .i64 0, .int .i64 0, .int .i64 0, .int .i64 0, .int .i64 0, .int .i64 0] 81)) (fun hHeld => ?_)
      have hz2 : (wa1.alloc (.cells #[.int .i64 0, .int .i64 0, .int .i64 0, .int .i64 0, .int .i64 0, .int .i64 0, .int .i64 0] 81)).heap.size = wa1.heap.size + 1 := by simp
      generalize wa1.alloc (.cells #[.int .i64 0, .int .i64 0, .int .i64 0, .int .i64 0, .int .i64 0, .int .i64 0, .int .i64 0] 81) = wa2 at *
      replace hz2 := Lib.hid hz2
      replace f8 := Lib.hid f8
      replace f7 := Lib.hid f7
      clear hK K
      refine wpAnyH_ready (rs := [20, 23]) (by kernel_rfl) (by simp) ?_
      refine AllReadyH.cons (o := { dst := some 32, op := Op.load 86 (Operand.tmp 31), type := 86, pos := "l4_loans.go:122", after := #[{ on := 19, ground := Ground.data }, { on := 23, ground := Ground.gcOnly Departure.lateStores }], guard := none }) rfl (fun K hK => ?_) ?_
      · skip
        rw [if_pos (by rfl)]
        refine wp_load_mid _ _ rfl F (2 + k * 4) rfl [.int .u64 ((effD ts d).r : Int), .int .u64 ((effD ts d).t : Int), .int .u64 ((effD ts d).c : Int), .int .u64 ((effD ts d).s : Int)] _ (hrE.out _ hHeld) Tryz.underlying86 rfl (by kernel_rfl) ?_
        simp only [Act.put]
        refine hK.out _ _ hHeld (fun hHeld => ?_)
        clear hK K
        refine wpAnyH_ready (rs := [23]) (by kernel_rfl) (by simp) ?_
        refine AllReadyH.cons (o := { dst := none, op := Op.store 81 (Operand.tmp 7) (Operand.tmp 23), type := 0, pos := "l4_loans.go:122", after := #[{ on := 21, ground := Ground.data }, { on := 11, ground := Ground.data }, { on := 0, ground := Ground.phase }, { on := 1, ground := Ground.phase }, { on := 2, ground := Ground.phase }, { on := 3, ground := Ground.phase }, { on := 4, ground := Ground.phase }, { on := 5, ground := Ground.phase }, { on := 6, ground := Ground.phase }, { on := 7, ground := Ground.phase }, { on := 8, ground := Ground.phase }, { on := 9, ground := Ground.phase }, { on := 10, ground := Ground.phase }, { on := 11, ground := Ground.phase }, { on := 12, ground := Ground.textOnly Departure.lateStores }, { on := 13, ground := Ground.textOnly Departure.lateStores }, { on := 14, ground := Ground.textOnly Departure.lateStores }, { on := 15, ground := Ground.textOnly Departure.lateStores }, { on := 16, ground := Ground.textOnly Departure.lateStores }, { on := 17, ground := Ground.textOnly Departure.lateStores }, { on := 18, ground := Ground.textOnly Departure.lateStores }, { on := 19, ground := Ground.textOnly Departure.lateStores }, { on := 20, ground := Ground.textOnly Departure.lateStores }, { on := 21, ground := Ground.phase }, { on := 22, ground := Ground.phase }], guard := none }) rfl (fun K hK => ?_) AllReadyH.nil
        rw [if_pos (by rfl)]
        refine wp_store_mid _ _ _ rfl (wa1.heap.size) 0 ([.int .i64 d.op, .int .i64 d.x, .int .i64 d.y, .int .i64 d.n, .int .i64 p0, .int .i64 p1, .int .i64 d.next.length] : List Value).toArray rfl rfl (row_there f7.out rfl) (by kernel_rfl) (by simp [Value.oneCell']) ?_
        simp only [Act.put]
        have g7 := row_set ([.int .i64 d.op, .int .i64 d.x, .int .i64 d.y, .int .i64 d.n, .int .i64 p0, .int .i64 p1, .int .i64 d.next.length] : List Value) f7.out rfl
        have g8 := (heap_setCells_ne wa2 (wa1.heap.size) (wd.heap.size) 0 ([.int .i64 d.op, .int .i64 d.x, .int .i64 d.y, .int .i64 d.n, .int .i64 p0, .int .i64 p1, .int .i64 d.next.length] : List Value) (by have := hzA.out; have := hsA.out; omega) (heap_lt f8.out)).trans f8.out
        refine hK.out _ _ (below_setCells hHeld (by have := hzA.out; have := hsA.out; omega) hHeld.size) (fun hHeld => ?_)
        change Below w1.heap.size w1 (wa2.setCells (wa1.heap.size) 0 [.int .i64 d.op, .int .i64 d.x, .int .i64 d.y, .int .i64 d.n, .int .i64 p0, .int .i64 p1, .int .i64 d.next.length]) at hHeld
        skip
        generalize hgen : wa2.setCells (wa1.heap.size) 0 _ = wa3 at *
        clear hK K hgen
        replace f8 := Lib.hid g8
        clear g8
        replace f7 := Lib.hid g7
        clear g7
        refine wpAnyH_ready (rs := [24]) (by kernel_rfl) (by simp) ?_
        refine AllReadyH.cons (o := { dst := none, op := Op.store 86 (Operand.tmp 8) (Operand.tmp 32), type := 0, pos := "l4_loans.go:122", after := #[{ on := 22, ground := Ground.data }, { on := 20, ground := Ground.data }, { on := 23, ground := Ground.chain }, { on := 0, ground := Ground.phase }, { on := 1, ground := Ground.phase }, { on := 2, ground := Ground.phase }, { on := 3, ground := Ground.phase }, { on := 4, ground := Ground.phase }, { on := 5, ground := Ground.phase }, { on := 6, ground := Ground.phase }, { on := 7, ground := Ground.phase }, { on := 8, ground := Ground.phase }, { on := 9, ground := Ground.phase }, { on := 10, ground := Ground.phase }, { on := 11, ground := Ground.phase }, { on := 12, ground := Ground.phase }, { on := 13, ground := Ground.phase }, { on := 14, ground := Ground.phase }, { on := 15, ground := Ground.phase }, { on := 16, ground := Ground.phase }, { on := 17, ground := Ground.phase }, { on := 18, ground := Ground.phase }, { on := 19, ground := Ground.phase }, { on := 20, ground := Ground.phase }, { on := 21, ground := Ground.phase }, { on := 22, ground := Ground.phase }, { on := 23, ground := Ground.phase }], guard := none }) rfl (fun K hK => ?_) AllReadyH.nil
        rw [if_pos (by rfl)]
        refine wp_store_mid _ _ _ rfl (wd.heap.size) 0 ([.int .u64 ((effD ts d).r : Int), .int .u64 ((effD ts d).t : Int), .int .u64 ((effD ts d).c : Int), .int .u64 ((effD ts d).s : Int)] : List Value).toArray rfl rfl (row_there f8.out rfl) (by kernel_rfl) (by simp [Value.oneCell']) ?_
        simp only [Act.put]
        have g8 := row_set ([.int .u64 ((effD ts d).r : Int), .int .u64 ((effD ts d).t : Int), .int .u64 ((effD ts d).c : Int), .int .u64 ((effD ts d).s : Int)] : List Value) f8.out rfl
        have g7 := (heap_setCells_ne wa3 (wd.heap.size) (wa1.heap.size) 0 ([.int .u64 ((effD ts d).r : Int), .int .u64 ((effD ts d).t : Int), .int .u64 ((effD ts d).c : Int), .int .u64 ((effD ts d).s : Int)] : List Value) (by have := hzA.out; have := hsA.out; omega) (heap_lt f7.out)).trans f7.out
        refine hK.out _ _ (below_setCells hHeld (by have := hzA.out; have := hsA.out; omega) hHeld.size) (fun hHeld => ?_)
        change Below w1.heap.size w1 (wa3.setCells (wd.heap.size) 0 [.int .u64 ((effD ts d).r : Int), .int .u64 ((effD ts d).t : Int), .int .u64 ((effD ts d).c : Int), .int .u64 ((effD ts d).s : Int)]) at hHeld
        skip
        generalize hgen : wa3.setCells (wd.heap.size) 0 _ = wa4 at *
        clear hK K hgen
        replace f8 := Lib.hid g8
        clear g8
        replace f7 := Lib.hid g7
        clear g7
        refine wpAnyH_done (by kernel_rfl) ?_ _
        go_wp2_with fail
        go_meet
        exact ⟨wa1.heap.size, wd.heap.size, p0, p1, rfl, rfl, f7.out, f8.out, by have := hzA.out; have := hsA.out; omega, by have := hzA.out; have := hsA.out; omega, hHeld⟩
      refine AllReadyH.cons (o := { dst := none, op := Op.store 81 (Operand.tmp 7) (Operand.tmp 23), type := 0, pos := "l4_loans.go:122", after := #[{ on := 21, ground := Ground.data }, { on := 11, ground := Ground.data }, { on := 0, ground := Ground.phase }, { on := 1, ground := Ground.phase }, { on := 2, ground := Ground.phase }, { on := 3, ground := Ground.phase }, { on := 4, ground := Ground.phase }, { on := 5, ground := Ground.phase }, { on := 6, ground := Ground.phase }, { on := 7, ground := Ground.phase }, { on := 8, ground := Ground.phase }, { on := 9, ground := Ground.phase }, { on := 10, ground := Ground.phase }, { on := 11, ground := Ground.phase }, { on := 12, ground := Ground.textOnly Departure.lateStores }, { on := 13, ground := Ground.textOnly Departure.lateStores }, { on := 14, ground := Ground.textOnly Departure.lateStores }, { on := 15, ground := Ground.textOnly Departure.lateStores }, { on := 16, ground := Ground.textOnly Departure.lateStores }, { on := 17, ground := Ground.textOnly Departure.lateStores }, { on := 18, ground := Ground.textOnly Departure.lateStores }, { on := 19, ground := Ground.textOnly Departure.lateStores }, { on := 20, ground := Ground.textOnly Departure.lateStores }, { on := 21, ground := Ground.phase }, { on := 22, ground := Ground.phase }], guard := none }) rfl (fun K hK => ?_) AllReadyH.nil
      rw [if_pos (by rfl)]
      refine wp_store_mid _ _ _ rfl (wa1.heap.size) 0 ([.int .i64 d.op, .int .i64 d.x, .int .i64 d.y, .int .i64 d.n, .int .i64 p0, .int .i64 p1, .int .i64 d.next.length] : List Value).toArray rfl rfl (row_there f7.out rfl) (by kernel_rfl) (by simp [Value.oneCell']) ?_
      simp only [Act.put]
      have g7 := row_set ([.int .i64 d.op, .int .i64 d.x, .int .i64 d.y, .int .i64 d.n, .int .i64 p0, .int .i64 p1, .int .i64 d.next.length] : List Value) f7.out rfl
      have g8 := (heap_setCells_ne wa2 (wa1.heap.size) (wd.heap.size) 0 ([.int .i64 d.op, .int .i64 d.x, .int .i64 d.y, .int .i64 d.n, .int .i64 p0, .int .i64 p1, .int .i64 d.next.length] : List Value) (by have := hzA.out; have := hsA.out; omega) (heap_lt f8.out)).trans f8.out
      refine hK.out _ _ (below_setCells hHeld (by have := hzA.out; have := hsA.out; omega) hHeld.size) (fun hHeld => ?_)
      change Below w1.heap.size w1 (wa2.setCells (wa1.heap.size) 0 [.int .i64 d.op, .int .i64 d.x, .int .i64 d.y, .int .i64 d.n, .int .i64 p0, .int .i64 p1, .int .i64 d.next.length]) at hHeld
      skip
      generalize hgen : wa2.setCells (wa1.heap.size) 0 _ = wa3 at *
      clear hK K hgen
      replace f8 := Lib.hid g8
      clear g8
      replace f7 := Lib.hid g7
      clear g7
      refine wpAnyH_ready (rs := [20]) (by kernel_rfl) (by simp) ?_
      refine AllReadyH.cons (o := { dst := some 32, op := Op.load 86 (Operand.tmp 31), type := 86, pos := "l4_loans.go:122", after := #[{ on := 19, ground := Ground.data }, { on := 23, ground := Ground.gcOnly Departure.lateStores }], guard := none }) rfl (fun K hK => ?_) AllReadyH.nil
      rw [if_pos (by rfl)]
      refine wp_load_mid _ _ rfl F (2 + k * 4) rfl [.int .u64 ((effD ts d).r : Int), .int .u64 ((effD ts d).t : Int), .int .u64 ((effD ts d).c : Int), .int .u64 ((effD ts d).s : Int)] _ (hrE.out _ hHeld) Tryz.underlying86 rfl (by kernel_rfl) ?_
      simp only [Act.put]
      refine hK.out _ _ hHeld (fun hHeld => ?_)
      clear hK K
      refine wpAnyH_ready (rs := [24]) (by kernel_rfl) (by simp) ?_
      refine AllReadyH.cons (o := { dst := none, op := Op.store 86 (Operand.tmp 8) (Operand.tmp 32), type := 0, pos := "l4_loans.go:122", after := #[{ on := 22, ground := Ground.data }, { on := 20, ground := Ground.data }, { on := 23, ground := Ground.chain }, { on := 0, ground := Ground.phase }, { on := 1, ground := Ground.phase }, { on := 2, ground := Ground.phase }, { on := 3, ground := Ground.phase }, { on := 4, ground := Ground.phase }, { on := 5, ground := Ground.phase }, { on := 6, ground := Ground.phase }, { on := 7, ground := Ground.phase }, { on := 8, ground := Ground.phase }, { on := 9, ground := Ground.phase }, { on := 10, ground := Ground.phase }, { on := 11, ground := Ground.phase }, { on := 12, ground := Ground.phase }, { on := 13, ground := Ground.phase }, { on := 14, ground := Ground.phase }, { on := 15, ground := Ground.phase }, { on := 16, ground := Ground.phase }, { on := 17, ground := Ground.phase }, { on := 18, ground := Ground.phase }, { on := 19, ground := Ground.phase }, { on := 20, ground := Ground.phase }, { on := 21, ground := Ground.phase }, { on := 22, ground := Ground.phase }, { on := 23, ground := Ground.phase }], guard := none }) rfl (fun K hK => ?_) AllReadyH.nil
      rw [if_pos (by rfl)]
      refine wp_store_mid _ _ _ rfl (wd.heap.size) 0 ([.int .u64 ((effD ts d).r : Int), .int .u64 ((effD ts d).t : Int), .int .u64 ((effD ts d).c : Int), .int .u64 ((effD ts d).s : Int)] : List Value).toArray rfl rfl (row_there f8.out rfl) (by kernel_rfl) (by simp [Value.oneCell']) ?_
      simp only [Act.put]
      have g8 := row_set ([.int .u64 ((effD ts d).r : Int), .int .u64 ((effD ts d).t : Int), .int .u64 ((effD ts d).c : Int), .int .u64 ((effD ts d).s : Int)] : List Value) f8.out rfl
      have g7 := (heap_setCells_ne wa3 (wd.heap.size) (wa1.heap.size) 0 ([.int .u64 ((effD ts d).r : Int), .int .u64 ((effD ts d).t : Int), .int .u64 ((effD ts d).c : Int), .int .u64 ((effD ts d).s : Int)] : List Value) (by have := hzA.out; have := hsA.out; omega) (heap_lt f7.out)).trans f7.out
      refine hK.out _ _ (below_setCells hHeld (by have := hzA.out; have := hsA.out; omega) hHeld.size) (fun hHeld => ?_)
      change Below w1.heap.size w1 (wa3.setCells (wd.heap.size) 0 [.int .u64 ((effD ts d).r : Int), .int .u64 ((effD ts d).t : Int), .int .u64 ((effD ts d).c : Int), .int .u64 ((effD ts d).s : Int)]) at hHeld
      skip
      generalize hgen : wa3.setCells (wd.heap.size) 0 _ = wa4 at *
      clear hK K hgen
      replace f8 := Lib.hid g8
      clear g8
      replace f7 := Lib.hid g7
      clear g7
      refine wpAnyH_done (by kernel_rfl) ?_ _
      go_wp2_with fail
      go_meet
      exact ⟨wa1.heap.size, wd.heap.size, p0, p1, rfl, rfl, f7.out, f8.out, by have := hzA.out; have := hsA.out; omega, by have := hzA.out; have := hsA.out; omega, hHeld⟩
    refine AllReadyH.cons (o := { dst := some 7, op := Op.alloc 81, type := 0, pos := "l4_loans.go:122", after := #[], guard := none }) rfl (fun K hK => ?_) AllReadyH.nil
    go_simp
    have f7 := heap_alloc_new wa1 (.cells #[.int .i64 0, .int .i64 0, .int .i64 0, .int .i64 0, .int .i64 0, .int .i64 0, .int .i64 0] 81)
    replace f8 := ((Below.refl wa1.heap.size wa1).alloc (Nat.le_refl _) (.cells #[.int .i64 0, .int .i64 0, .int .i64 0, .int .i64 0, .int .i64 0, .int .i64 0, .int .i64 0] 81)).block _ (heap_lt f8.out) |>.trans f8.out
    have hs2 := hHeld.size
    refine hK.out _ _ (hHeld.alloc hHeld.size (.cells #[.int .i64 0, .int .i64 0, .int .i64 0, .int .i64 0, .int .i64 0, .int .i64 0, .int .i64 0] 81)) (fun hHeld => ?_)
    have hz2 : (wa1.alloc (.cells #[.int .i64 0, .int .i64 0, .int .i64 0, .int .i64 0, .int .i64 0, .int .i64 0, .int .i64 0] 81)).heap.size = wa1.heap.size + 1 := by simp
    generalize wa1.alloc (.cells #[.int .i64 0, .int .i64 0, .int .i64 0, .int .i64 0, .int .i64 0, .int .i64 0, .int .i64 0] 81) = wa2 at *
    replace hz2 := Lib.hid hz2
    replace f8 := Lib.hid f8
    replace f7 := Lib.hid f7
    clear hK K
    refine wpAnyH_ready (rs := [15, 23]) (by kernel_rfl) (by simp) ?_
    refine AllReadyH.cons (o := { dst := some 27, op := Op.load 67 (Operand.tmp 26), type := 67, pos := "l4_loans.go:122", after := #[{ on := 14, ground := Ground.data }, { on := 23, ground := Ground.gcOnly Departure.lateStores }], guard := none }) rfl (fun K hK => ?_) ?_
    · skip
      have h9 := (HL1.out.keep hHeld).flCell
      go_simp
      refine hK.out _ _ hHeld (fun hHeld => ?_)
      clear hK K h9
      refine wpAnyH_take (i := 17) (oi := { dst := some 29, op := Op.nilCheck (Operand.tmp 27), type := 0, pos := "l4_loans.go:122", after := #[{ on := 15, ground := Ground.data }, { on := 23, ground := Ground.gcOnly Departure.lateStores }], guard := none }) (v := .pointer (some ⟨F, 0, none⟩)) rfl (by kernel_rfl) (by kernel_rfl) (by kernel_rfl) (fun _ _ _ h => h) (Or.inl ⟨by rfl, fun w hSw => by go_simp⟩) hHeld ?_
      try simp only [Act.put, List.setIfInBounds_toArray, List.set_cons_zero, List.set_cons_succ]
      refine wpAnyH_take (i := 18) (oi := { dst := some 30, op := Op.fieldAddr 92 (Operand.tmp 29) 2, type := 0, pos := "l4_loans.go:122", after := #[{ on := 17, ground := Ground.data }, { on := 23, ground := Ground.gcOnly Departure.lateStores }], guard := none }) (v := .pointer (some ⟨F, 2, none⟩)) rfl (by kernel_rfl) (by kernel_rfl) (by kernel_rfl) (fun _ _ _ h => h) (Or.inl ⟨by rfl, fun w hSw => by go_simp⟩) hHeld ?_
      try simp only [Act.put, List.setIfInBounds_toArray, List.set_cons_zero, List.set_cons_succ]
      refine wpAnyH_take (i := 19) (oi := { dst := some 31, op := Op.indexAddr 87 (Operand.tmp 30) (Operand.tmp 28), type := 0, pos := "l4_loans.go:122", after := #[{ on := 18, ground := Ground.data }, { on := 16, ground := Ground.data }, { on := 23, ground := Ground.gcOnly Departure.lateStores }], guard := none }) (v := .pointer (some ⟨F, 2 + k * 4, none⟩)) rfl (by kernel_rfl) (by kernel_rfl) (by kernel_rfl) (fun _ _ _ h => h) (Or.inl ⟨by rfl, fun w hSw => by go_simp⟩) hHeld ?_
      try simp only [Act.put, List.setIfInBounds_toArray, List.set_cons_zero, List.set_cons_succ]
      refine wpAnyH_ready (rs := [20, 23]) (by kernel_rfl) (by simp) ?_
      refine AllReadyH.cons (o := { dst := some 32, op := Op.load 86 (Operand.tmp 31), type := 86, pos := "l4_loans.go:122", after := #[{ on := 19, ground := Ground.data }, { on := 23, ground := Ground.gcOnly Departure.lateStores }], guard := none }) rfl (fun K hK => ?_) ?_
      · skip
        rw [if_pos (by rfl)]
        refine wp_load_mid _ _ rfl F (2 + k * 4) rfl [.int .u64 ((effD ts d).r : Int), .int .u64 ((effD ts d).t : Int), .int .u64 ((effD ts d).c : Int), .int .u64 ((effD ts d).s : Int)] _ (hrE.out _ hHeld) Tryz.underlying86 rfl (by kernel_rfl) ?_
        simp only [Act.put]
        refine hK.out _ _ hHeld (fun hHeld => ?_)
        clear hK K
        refine wpAnyH_ready (rs := [23]) (by kernel_rfl) (by simp) ?_
        refine AllReadyH.cons (o := { dst := none, op := Op.store 81 (Operand.tmp 7) (Operand.tmp 23), type := 0, pos := "l4_loans.go:122", after := #[{ on := 21, ground := Ground.data }, { on := 11, ground := Ground.data }, { on := 0, ground := Ground.phase }, { on := 1, ground := Ground.phase }, { on := 2, ground := Ground.phase }, { on := 3, ground := Ground.phase }, { on := 4, ground := Ground.phase }, { on := 5, ground := Ground.phase }, { on := 6, ground := Ground.phase }, { on := 7, ground := Ground.phase }, { on := 8, ground := Ground.phase }, { on := 9, ground := Ground.phase }, { on := 10, ground := Ground.phase }, { on := 11, ground := Ground.phase }, { on := 12, ground := Ground.textOnly Departure.lateStores }, { on := 13, ground := Ground.textOnly Departure.lateStores }, { on := 14, ground := Ground.textOnly Departure.lateStores }, { on := 15, ground := Ground.textOnly Departure.lateStores }, { on := 16, ground := Ground.textOnly Departure.lateStores }, { on := 17, ground := Ground.textOnly Departure.lateStores }, { on := 18, ground := Ground.textOnly Departure.lateStores }, { on := 19, ground := Ground.textOnly Departure.lateStores }, { on := 20, ground := Ground.textOnly Departure.lateStores }, { on := 21, ground := Ground.phase }, { on := 22, ground := Ground.phase }], guard := none }) rfl (fun K hK => ?_) AllReadyH.nil
        rw [if_pos (by rfl)]
        refine wp_store_mid _ _ _ rfl (wa1.heap.size) 0 ([.int .i64 d.op, .int .i64 d.x, .int .i64 d.y, .int .i64 d.n, .int .i64 p0, .int .i64 p1, .int .i64 d.next.length] : List Value).toArray rfl rfl (row_there f7.out rfl) (by kernel_rfl) (by simp [Value.oneCell']) ?_
        simp only [Act.put]
        have g7 := row_set ([.int .i64 d.op, .int .i64 d.x, .int .i64 d.y, .int .i64 d.n, .int .i64 p0, .int .i64 p1, .int .i64 d.next.length] : List Value) f7.out rfl
        have g8 := (heap_setCells_ne wa2 (wa1.heap.size) (wd.heap.size) 0 ([.int .i64 d.op, .int .i64 d.x, .int .i64 d.y, .int .i64 d.n, .int .i64 p0, .int .i64 p1, .int .i64 d.next.length] : List Value) (by have := hzA.out; have := hsA.out; omega) (heap_lt f8.out)).trans f8.out
        refine hK.out _ _ (below_setCells hHeld (by have := hzA.out; have := hsA.out; omega) hHeld.size) (fun hHeld => ?_)
        change Below w1.heap.size w1 (wa2.setCells (wa1.heap.size) 0 [.int .i64 d.op, .int .i64 d.x, .int .i64 d.y, .int .i64 d.n, .int .i64 p0, .int .i64 p1, .int .i64 d.next.length]) at hHeld
        skip
        generalize hgen : wa2.setCells (wa1.heap.size) 0 _ = wa3 at *
        clear hK K hgen
        replace f8 := Lib.hid g8
        clear g8
        replace f7 := Lib.hid g7
        clear g7
        refine wpAnyH_ready (rs := [24]) (by kernel_rfl) (by simp) ?_
        refine AllReadyH.cons (o := { dst := none, op := Op.store 86 (Operand.tmp 8) (Operand.tmp 32), type := 0, pos := "l4_loans.go:122", after := #[{ on := 22, ground := Ground.data }, { on := 20, ground := Ground.data }, { on := 23, ground := Ground.chain }, { on := 0, ground := Ground.phase }, { on := 1, ground := Ground.phase }, { on := 2, ground := Ground.phase }, { on := 3, ground := Ground.phase }, { on := 4, ground := Ground.phase }, { on := 5, ground := Ground.phase }, { on := 6, ground := Ground.phase }, { on := 7, ground := Ground.phase }, { on := 8, ground := Ground.phase }, { on := 9, ground := Ground.phase }, { on := 10, ground := Ground.phase }, { on := 11, ground := Ground.phase }, { on := 12, ground := Ground.phase }, { on := 13, ground := Ground.phase }, { on := 14, ground := Ground.phase }, { on := 15, ground := Ground.phase }, { on := 16, ground := Ground.phase }, { on := 17, ground := Ground.phase }, { on := 18, ground := Ground.phase }, { on := 19, ground := Ground.phase }, { on := 20, ground := Ground.phase }, { on := 21, ground := Ground.phase }, { on := 22, ground := Ground.phase }, { on := 23, ground := Ground.phase }], guard := none }) rfl (fun K hK => ?_) AllReadyH.nil
        rw [if_pos (by rfl)]
        refine wp_store_mid _ _ _ rfl (wd.heap.size) 0 ([.int .u64 ((effD ts d).r : Int), .int .u64 ((effD ts d).t : Int), .int .u64 ((effD ts d).c : Int), .int .u64 ((effD ts d).s : Int)] : List Value).toArray rfl rfl (row_there f8.out rfl) (by kernel_rfl) (by simp [Value.oneCell']) ?_
        simp only [Act.put]
        have g8 := row_set ([.int .u64 ((effD ts d).r : Int), .int .u64 ((effD ts d).t : Int), .int .u64 ((effD ts d).c : Int), .int .u64 ((effD ts d).s : Int)] : List Value) f8.out rfl
        have g7 := (heap_setCells_ne wa3 (wd.heap.size) (wa1.heap.size) 0 ([.int .u64 ((effD ts d).r : Int), .int .u64 ((effD ts d).t : Int), .int .u64 ((effD ts d).c : Int), .int .u64 ((effD ts d).s : Int)] : List Value) (by have := hzA.out; have := hsA.out; omega) (heap_lt f7.out)).trans f7.out
        refine hK.out _ _ (below_setCells hHeld (by have := hzA.out; have := hsA.out; omega) hHeld.size) (fun hHeld => ?_)
        change Below w1.heap.size w1 (wa3.setCells (wd.heap.size) 0 [.int .u64 ((effD ts d).r : Int), .int .u64 ((effD ts d).t : Int), .int .u64 ((effD ts d).c : Int), .int .u64 ((effD ts d).s : Int)]) at hHeld
        skip
        generalize hgen : wa3.setCells (wd.heap.size) 0 _ = wa4 at *
        clear hK K hgen
        replace f8 := Lib.hid g8
        clear g8
        replace f7 := Lib.hid g7
        clear g7
        refine wpAnyH_done (by kernel_rfl) ?_ _
        go_wp2_with fail
        go_meet
        exact ⟨wa1.heap.size, wd.heap.size, p0, p1, rfl, rfl, f7.out, f8.out, by have := hzA.out; have := hsA.out; omega, by have := hzA.out; have := hsA.out; omega, hHeld⟩
      refine AllReadyH.cons (o := { dst := none, op := Op.store 81 (Operand.tmp 7) (Operand.tmp 23), type := 0, pos := "l4_loans.go:122", after := #[{ on := 21, ground := Ground.data }, { on := 11, ground := Ground.data }, { on := 0, ground := Ground.phase }, { on := 1, ground := Ground.phase }, { on := 2, ground := Ground.phase }, { on := 3, ground := Ground.phase }, { on := 4, ground := Ground.phase }, { on := 5, ground := Ground.phase }, { on := 6, ground := Ground.phase }, { on := 7, ground := Ground.phase }, { on := 8, ground := Ground.phase }, { on := 9, ground := Ground.phase }, { on := 10, ground := Ground.phase }, { on := 11, ground := Ground.phase }, { on := 12, ground := Ground.textOnly Departure.lateStores }, { on := 13, ground := Ground.textOnly Departure.lateStores }, { on := 14, ground := Ground.textOnly Departure.lateStores }, { on := 15, ground := Ground.textOnly Departure.lateStores }, { on := 16, ground := Ground.textOnly Departure.lateStores }, { on := 17, ground := Ground.textOnly Departure.lateStores }, { on := 18, ground := Ground.textOnly Departure.lateStores }, { on := 19, ground := Ground.textOnly Departure.lateStores }, { on := 20, ground := Ground.textOnly Departure.lateStores }, { on := 21, ground := Ground.phase }, { on := 22, ground := Ground.phase }], guard := none }) rfl (fun K hK => ?_) AllReadyH.nil
      rw [if_pos (by rfl)]
      refine wp_store_mid _ _ _ rfl (wa1.heap.size) 0 ([.int .i64 d.op, .int .i64 d.x, .int .i64 d.y, .int .i64 d.n, .int .i64 p0, .int .i64 p1, .int .i64 d.next.length] : List Value).toArray rfl rfl (row_there f7.out rfl) (by kernel_rfl) (by simp [Value.oneCell']) ?_
      simp only [Act.put]
      have g7 := row_set ([.int .i64 d.op, .int .i64 d.x, .int .i64 d.y, .int .i64 d.n, .int .i64 p0, .int .i64 p1, .int .i64 d.next.length] : List Value) f7.out rfl
      have g8 := (heap_setCells_ne wa2 (wa1.heap.size) (wd.heap.size) 0 ([.int .i64 d.op, .int .i64 d.x, .int .i64 d.y, .int .i64 d.n, .int .i64 p0, .int .i64 p1, .int .i64 d.next.length] : List Value) (by have := hzA.out; have := hsA.out; omega) (heap_lt f8.out)).trans f8.out
      refine hK.out _ _ (below_setCells hHeld (by have := hzA.out; have := hsA.out; omega) hHeld.size) (fun hHeld => ?_)
      change Below w1.heap.size w1 (wa2.setCells (wa1.heap.size) 0 [.int .i64 d.op, .int .i64 d.x, .int .i64 d.y, .int .i64 d.n, .int .i64 p0, .int .i64 p1, .int .i64 d.next.length]) at hHeld
      skip
      generalize hgen : wa2.setCells (wa1.heap.size) 0 _ = wa3 at *
      clear hK K hgen
      replace f8 := Lib.hid g8
      clear g8
      replace f7 := Lib.hid g7
      clear g7
      refine wpAnyH_ready (rs := [20]) (by kernel_rfl) (by simp) ?_
      refine AllReadyH.cons (o := { dst := some 32, op := Op.load 86 (Operand.tmp 31), type := 86, pos := "l4_loans.go:122", after := #[{ on := 19, ground := Ground.data }, { on := 23, ground := Ground.gcOnly Departure.lateStores }], guard := none }) rfl (fun K hK => ?_) AllReadyH.nil
      rw [if_pos (by rfl)]
      refine wp_load_mid _ _ rfl F (2 + k * 4) rfl [.int .u64 ((effD ts d).r : Int), .int .u64 ((effD ts d).t : Int), .int .u64 ((effD ts d).c : Int), .int .u64 ((effD ts d).s : Int)] _ (hrE.out _ hHeld) Tryz.underlying86 rfl (by kernel_rfl) ?_
      simp only [Act.put]
      refine hK.out _ _ hHeld (fun hHeld => ?_)
      clear hK K
      refine wpAnyH_ready (rs := [24]) (by kernel_rfl) (by simp) ?_
      refine AllReadyH.cons (o := { dst := none, op := Op.store 86 (Operand.tmp 8) (Operand.tmp 32), type := 0, pos := "l4_loans.go:122", after := #[{ on := 22, ground := Ground.data }, { on := 20, ground := Ground.data }, { on := 23, ground := Ground.chain }, { on := 0, ground := Ground.phase }, { on := 1, ground := Ground.phase }, { on := 2, ground := Ground.phase }, { on := 3, ground := Ground.phase }, { on := 4, ground := Ground.phase }, { on := 5, ground := Ground.phase }, { on := 6, ground := Ground.phase }, { on := 7, ground := Ground.phase }, { on := 8, ground := Ground.phase }, { on := 9, ground := Ground.phase }, { on := 10, ground := Ground.phase }, { on := 11, ground := Ground.phase }, { on := 12, ground := Ground.phase }, { on := 13, ground := Ground.phase }, { on := 14, ground := Ground.phase }, { on := 15, ground := Ground.phase }, { on := 16, ground := Ground.phase }, { on := 17, ground := Ground.phase }, { on := 18, ground := Ground.phase }, { on := 19, ground := Ground.phase }, { on := 20, ground := Ground.phase }, { on := 21, ground := Ground.phase }, { on := 22, ground := Ground.phase }, { on := 23, ground := Ground.phase }], guard := none }) rfl (fun K hK => ?_) AllReadyH.nil
      rw [if_pos (by rfl)]
      refine wp_store_mid _ _ _ rfl (wd.heap.size) 0 ([.int .u64 ((effD ts d).r : Int), .int .u64 ((effD ts d).t : Int), .int .u64 ((effD ts d).c : Int), .int .u64 ((effD ts d).s : Int)] : List Value).toArray rfl rfl (row_there f8.out rfl) (by kernel_rfl) (by simp [Value.oneCell']) ?_
      simp only [Act.put]
      have g8 := row_set ([.int .u64 ((effD ts d).r : Int), .int .u64 ((effD ts d).t : Int), .int .u64 ((effD ts d).c : Int), .int .u64 ((effD ts d).s : Int)] : List Value) f8.out rfl
      have g7 := (heap_setCells_ne wa3 (wd.heap.size) (wa1.heap.size) 0 ([.int .u64 ((effD ts d).r : Int), .int .u64 ((effD ts d).t : Int), .int .u64 ((effD ts d).c : Int), .int .u64 ((effD ts d).s : Int)] : List Value) (by have := hzA.out; have := hsA.out; omega) (heap_lt f7.out)).trans f7.out
      refine hK.out _ _ (below_setCells hHeld (by have := hzA.out; have := hsA.out; omega) hHeld.size) (fun hHeld => ?_)
      change Below w1.heap.size w1 (wa3.setCells (wd.heap.size) 0 [.int .u64 ((effD ts d).r : Int), .int .u64 ((effD ts d).t : Int), .int .u64 ((effD ts d).c : Int), .int .u64 ((effD ts d).s : Int)]) at hHeld
      skip
      generalize hgen : wa3.setCells (wd.heap.size) 0 _ = wa4 at *
      clear hK K hgen
      replace f8 := Lib.hid g8
      clear g8
      replace f7 := Lib.hid g7
      clear g7
      refine wpAnyH_done (by kernel_rfl) ?_ _
      go_wp2_with fail
      go_meet
      exact ⟨wa1.heap.size, wd.heap.size, p0, p1, rfl, rfl, f7.out, f8.out, by have := hzA.out; have := hsA.out; omega, by have := hzA.out; have := hsA.out; omega, hHeld⟩
    refine AllReadyH.cons (o := { dst := none, op := Op.store 81 (Operand.tmp 7) (Operand.tmp 23), type := 0, pos := "l4_loans.go:122", after := #[{ on := 21, ground := Ground.data }, { on := 11, ground := Ground.data }, { on := 0, ground := Ground.phase }, { on := 1, ground := Ground.phase }, { on := 2, ground := Ground.phase }, { on := 3, ground := Ground.phase }, { on := 4, ground := Ground.phase }, { on := 5, ground := Ground.phase }, { on := 6, ground := Ground.phase }, { on := 7, ground := Ground.phase }, { on := 8, ground := Ground.phase }, { on := 9, ground := Ground.phase }, { on := 10, ground := Ground.phase }, { on := 11, ground := Ground.phase }, { on := 12, ground := Ground.textOnly Departure.lateStores }, { on := 13, ground := Ground.textOnly Departure.lateStores }, { on := 14, ground := Ground.textOnly Departure.lateStores }, { on := 15, ground := Ground.textOnly Departure.lateStores }, { on := 16, ground := Ground.textOnly Departure.lateStores }, { on := 17, ground := Ground.textOnly Departure.lateStores }, { on := 18, ground := Ground.textOnly Departure.lateStores }, { on := 19, ground := Ground.textOnly Departure.lateStores }, { on := 20, ground := Ground.textOnly Departure.lateStores }, { on := 21, ground := Ground.phase }, { on := 22, ground := Ground.phase }], guard := none }) rfl (fun K hK => ?_) AllReadyH.nil
    rw [if_pos (by rfl)]
    refine wp_store_mid _ _ _ rfl (wa1.heap.size) 0 ([.int .i64 d.op, .int .i64 d.x, .int .i64 d.y, .int .i64 d.n, .int .i64 p0, .int .i64 p1, .int .i64 d.next.length] : List Value).toArray rfl rfl (row_there f7.out rfl) (by kernel_rfl) (by simp [Value.oneCell']) ?_
    simp only [Act.put]
    have g7 := row_set ([.int .i64 d.op, .int .i64 d.x, .int .i64 d.y, .int .i64 d.n, .int .i64 p0, .int .i64 p1, .int .i64 d.next.length] : List Value) f7.out rfl
    have g8 := (heap_setCells_ne wa2 (wa1.heap.size) (wd.heap.size) 0 ([.int .i64 d.op, .int .i64 d.x, .int .i64 d.y, .int .i64 d.n, .int .i64 p0, .int .i64 p1, .int .i64 d.next.length] : List Value) (by have := hzA.out; have := hsA.out; omega) (heap_lt f8.out)).trans f8.out
    refine hK.out _ _ (below_setCells hHeld (by have := hzA.out; have := hsA.out; omega) hHeld.size) (fun hHeld => ?_)
    change Below w1.heap.size w1 (wa2.setCells (wa1.heap.size) 0 [.int .i64 d.op, .int .i64 d.x, .int .i64 d.y, .int .i64 d.n, .int .i64 p0, .int .i64 p1, .int .i64 d.next.length]) at hHeld
    skip
    generalize hgen : wa2.setCells (wa1.heap.size) 0 _ = wa3 at *
    clear hK K hgen
    replace f8 := Lib.hid g8
    clear g8
    replace f7 := Lib.hid g7
    clear g7
    refine wpAnyH_ready (rs := [15]) (by kernel_rfl) (by simp) ?_
    refine AllReadyH.cons (o := { dst := some 27, op := Op.load 67 (Operand.tmp 26), type := 67, pos := "l4_loans.go:122", after := #[{ on := 14, ground := Ground.data }, { on := 23, ground := Ground.gcOnly Departure.lateStores }], guard := none }) rfl (fun K hK => ?_) AllReadyH.nil
    have h9 := (HL1.out.keep hHeld).flCell
    go_simp
    refine hK.out _ _ hHeld (fun hHeld => ?_)
    clear hK K h9
    refine wpAnyH_take (i := 17) (oi := { dst := some 29, op := Op.nilCheck (Operand.tmp 27), type := 0, pos := "l4_loans.go:122", after := #[{ on := 15, ground := Ground.data }, { on := 23, ground := Ground.gcOnly Departure.lateStores }], guard := none }) (v := .pointer (some ⟨F, 0, none⟩)) rfl (by kernel_rfl) (by kernel_rfl) (by kernel_rfl) (fun _ _ _ h => h) (Or.inl ⟨by rfl, fun w hSw => by go_simp⟩) hHeld ?_
    try simp only [Act.put, List.setIfInBounds_toArray, List.set_cons_zero, List.set_cons_succ]
    refine wpAnyH_take (i := 18) (oi := { dst := some 30, op := Op.fieldAddr 92 (Operand.tmp 29) 2, type := 0, pos := "l4_loans.go:122", after := #[{ on := 17, ground := Ground.data }, { on := 23, ground := Ground.gcOnly Departure.lateStores }], guard := none }) (v := .pointer (some ⟨F, 2, none⟩)) rfl (by kernel_rfl) (by kernel_rfl) (by kernel_rfl) (fun _ _ _ h => h) (Or.inl ⟨by rfl, fun w hSw => by go_simp⟩) hHeld ?_
    try simp only [Act.put, List.setIfInBounds_toArray, List.set_cons_zero, List.set_cons_succ]
    refine wpAnyH_take (i := 19) (oi := { dst := some 31, op := Op.indexAddr 87 (Operand.tmp 30) (Operand.tmp 28), type := 0, pos := "l4_loans.go:122", after := #[{ on := 18, ground := Ground.data }, { on := 16, ground := Ground.data }, { on := 23, ground := Ground.gcOnly Departure.lateStores }], guard := none }) (v := .pointer (some ⟨F, 2 + k * 4, none⟩)) rfl (by kernel_rfl) (by kernel_rfl) (by kernel_rfl) (fun _ _ _ h => h) (Or.inl ⟨by rfl, fun w hSw => by go_simp⟩) hHeld ?_
    try simp only [Act.put, List.setIfInBounds_toArray, List.set_cons_zero, List.set_cons_succ]
    refine wpAnyH_ready (rs := [20]) (by kernel_rfl) (by simp) ?_
    refine AllReadyH.cons (o := { dst := some 32, op := Op.load 86 (Operand.tmp 31), type := 86, pos := "l4_loans.go:122", after := #[{ on := 19, ground := Ground.data }, { on := 23, ground := Ground.gcOnly Departure.lateStores }], guard := none }) rfl (fun K hK => ?_) AllReadyH.nil
    rw [if_pos (by rfl)]
    refine wp_load_mid _ _ rfl F (2 + k * 4) rfl [.int .u64 ((effD ts d).r : Int), .int .u64 ((effD ts d).t : Int), .int .u64 ((effD ts d).c : Int), .int .u64 ((effD ts d).s : Int)] _ (hrE.out _ hHeld) Tryz.underlying86 rfl (by kernel_rfl) ?_
    simp only [Act.put]
    refine hK.out _ _ hHeld (fun hHeld => ?_)
    clear hK K
    refine wpAnyH_ready (rs := [24]) (by kernel_rfl) (by simp) ?_
    refine AllReadyH.cons (o := { dst := none, op := Op.store 86 (Operand.tmp 8) (Operand.tmp 32), type := 0, pos := "l4_loans.go:122", after := #[{ on := 22, ground := Ground.data }, { on := 20, ground := Ground.data }, { on := 23, ground := Ground.chain }, { on := 0, ground := Ground.phase }, { on := 1, ground := Ground.phase }, { on := 2, ground := Ground.phase }, { on := 3, ground := Ground.phase }, { on := 4, ground := Ground.phase }, { on := 5, ground := Ground.phase }, { on := 6, ground := Ground.phase }, { on := 7, ground := Ground.phase }, { on := 8, ground := Ground.phase }, { on := 9, ground := Ground.phase }, { on := 10, ground := Ground.phase }, { on := 11, ground := Ground.phase }, { on := 12, ground := Ground.phase }, { on := 13, ground := Ground.phase }, { on := 14, ground := Ground.phase }, { on := 15, ground := Ground.phase }, { on := 16, ground := Ground.phase }, { on := 17, ground := Ground.phase }, { on := 18, ground := Ground.phase }, { on := 19, ground := Ground.phase }, { on := 20, ground := Ground.phase }, { on := 21, ground := Ground.phase }, { on := 22, ground := Ground.phase }, { on := 23, ground := Ground.phase }], guard := none }) rfl (fun K hK => ?_) AllReadyH.nil
    rw [if_pos (by rfl)]
    refine wp_store_mid _ _ _ rfl (wd.heap.size) 0 ([.int .u64 ((effD ts d).r : Int), .int .u64 ((effD ts d).t : Int), .int .u64 ((effD ts d).c : Int), .int .u64 ((effD ts d).s : Int)] : List Value).toArray rfl rfl (row_there f8.out rfl) (by kernel_rfl) (by simp [Value.oneCell']) ?_
    simp only [Act.put]
    have g8 := row_set ([.int .u64 ((effD ts d).r : Int), .int .u64 ((effD ts d).t : Int), .int .u64 ((effD ts d).c : Int), .int .u64 ((effD ts d).s : Int)] : List Value) f8.out rfl
    have g7 := (heap_setCells_ne wa3 (wd.heap.size) (wa1.heap.size) 0 ([.int .u64 ((effD ts d).r : Int), .int .u64 ((effD ts d).t : Int), .int .u64 ((effD ts d).c : Int), .int .u64 ((effD ts d).s : Int)] : List Value) (by have := hzA.out; have := hsA.out; omega) (heap_lt f7.out)).trans f7.out
    refine hK.out _ _ (below_setCells hHeld (by have := hzA.out; have := hsA.out; omega) hHeld.size) (fun hHeld => ?_)
    change Below w1.heap.size w1 (wa3.setCells (wd.heap.size) 0 [.int .u64 ((effD ts d).r : Int), .int .u64 ((effD ts d).t : Int), .int .u64 ((effD ts d).c : Int), .int .u64 ((effD ts d).s : Int)]) at hHeld
    skip
    generalize hgen : wa3.setCells (wd.heap.size) 0 _ = wa4 at *
    clear hK K hgen
    replace f8 := Lib.hid g8
    clear g8
    replace f7 := Lib.hid g7
    clear g7
    refine wpAnyH_done (by kernel_rfl) ?_ _
    go_wp2_with fail
    go_meet
    exact ⟨wa1.heap.size, wd.heap.size, p0, p1, rfl, rfl, f7.out, f8.out, by have := hzA.out; have := hsA.out; omega, by have := hzA.out; have := hsA.out; omega, hHeld⟩
  case rest =>
    obtain ⟨b7, b8, p0, p1, rfl, rfl, h7, h8, hn7, hn8, hbc⟩ := hcut
    have hcs := hbc.size
    have hP0 := HP0.out.keep hbc
    have hP6 := HP6.out.keep hbc
    have hbW := HB0.out.trans (hbc.mono (by have := HZ2.out; omega))
    have hxy := HE.out.xy
    have htl := HE.out.tlt
    have hsl := HE.out.slt
    obtain ⟨X, hX⟩ : ∃ X : Nat, d.x = (X : Int) := ⟨d.x.toNat, by omega⟩
    obtain ⟨Y, hY⟩ : ∃ Y : Nat, d.y = (Y : Int) := ⟨d.y.toNat, by omega⟩
    have hX6 : X < 6 := by omega
    have hY6 : Y < 6 := by omega
    have hu64 : (effD ts d).t ||| (effD ts d).s < 64 := Nat.or_lt_two_pow (n := 6) htl hsl
    have hor := bits_or_u64_nat (effD ts d).t (effD ts d).s (by omega) (by omega)
    obtain ⟨U, hU⟩ : ∃ U, U = (effD ts d).t ||| (effD ts d).s := ⟨_, rfl⟩
    rw [← hU] at hor hu64
    obtain ⟨op, hop⟩ : ∃ op, op = d.op := ⟨_, rfl⟩
    have c70 : wc.cell? ⟨b7, 0, none⟩ = some (.int .i64 op) := by rw [hop]; exact (cell_of_block h7 0).trans rfl
    have c71 : wc.cell? ⟨b7, 1, none⟩ = some (.int .i64 (X : Int)) := by rw [← hX]; exact (cell_of_block h7 1).trans rfl
    have c72 : wc.cell? ⟨b7, 2, none⟩ = some (.int .i64 (Y : Int)) := by rw [← hY]; exact (cell_of_block h7 2).trans rfl
    have c81 : wc.cell? ⟨b8, 1, none⟩ = some (.int .u64 ((effD ts d).t : Int)) := (cell_of_block h8 1).trans rfl
    have c83 : wc.cell? ⟨b8, 3, none⟩ = some (.int .u64 ((effD ts d).s : Int)) := (cell_of_block h8 3).trans rfl
    have hl7 := heap_lt h7
    have hl8 := heap_lt h8
    have hZ : ∀ v, v < 6 → lentZ ts d k x v = if (op = 4 ∨ op = 5) ∧ v = X then x Y ||| 2 ^ k else if op = 3 ∧ v = X then x Y else if U.testBit v then 0 else x v := by
      intro v hv
      unfold lentZ
      rw [hop, hU, hX, hY, Int.toNat_natCast]
      have e : (X : Int) = (v : Int) ↔ v = X := ⟨fun h => by omega, fun h => by omega⟩
      simp only [e]
    have HZ := Lib.hid hZ
    have HOR := Lib.hid hor
    have HRB := Lib.hid hP0.range
    have HP0c := Lib.hid hP0
    have HP6c := Lib.hid hP6
    have hiV : Hid ((Tryz.prog.info? 71).map (·.size) = some 6) := by exact (show (Tryz.prog.info? 71).map (·.size) = some 6 from by kernel_rfl)
    have hth : Hid ((wc.alloc (.cells #[.int .u64 0, .int .u64 0, .int .u64 0, .int .u64 0, .int .u64 0, .int .u64 0] 71)).there wc.heap.size 0 6) := (PerAt.new wc (fun _ => 0)).there
    have hp9 : Hid (PerAt ((wc.alloc (.cells #[.int .u64 0, .int .u64 0, .int .u64 0, .int .u64 0, .int .u64 0, .int .u64 0] 71)).setCells wc.heap.size 0 (perC x)) wc.heap.size x) := PerAt.all (PerAt.new wc (fun _ => 0)) x
    have hba := below_setCells (b := wc.heap.size) (o := 0) (vs := perC x) ((Below.refl wc.heap.size wc).alloc (Nat.le_refl _) (.cells #[.int .u64 0, .int .u64 0, .int .u64 0, .int .u64 0, .int .u64 0, .int .u64 0] 71)) (Nat.le_refl _) (by simp)
    have HA7 := Lib.hid ((hba.cell (p := ⟨b7, 0, none⟩) hl7).trans c70)
    have HA71 := Lib.hid ((hba.cell (p := ⟨b7, 1, none⟩) hl7).trans c71)
    have HA72 := Lib.hid ((hba.cell (p := ⟨b7, 2, none⟩) hl7).trans c72)
    have HA81 := Lib.hid ((hba.cell (p := ⟨b8, 1, none⟩) hl8).trans c81)
    have HA83 := Lib.hid ((hba.cell (p := ⟨b8, 3, none⟩) hl8).trans c83)
    have HP0d := Lib.hid (hP0.same (hba.block _ hP0.lt))
    have HP6d := Lib.hid (hP6.same (hba.block _ hP6.lt))
    have HBd := Lib.hid (hbW.trans (hba.mono (by have := HZ2.out; omega)))
    have hcl := hP6.lt
    have HN9 : Hid (b7 < wc.heap.size ∧ w.heap.size + 1 < wc.heap.size) := ⟨hl7, hcl⟩
    have hzd : wc.heap.size < ((wc.alloc (.cells #[.int .u64 0, .int .u64 0, .int .u64 0, .int .u64 0, .int .u64 0, .int .u64 0] 71)).setCells wc.heap.size 0 (perC x)).heap.size := by rw [size_setCells]; simp
    have HZD := Lib.hid hzd
    clear hba h7 h8 hor hop hX hY hZ hP0 hP6 hcs hbc hbW hU c70 c71 c72 c81 c83 hzd
    go_upto_region 3 with (first
      | ((with_reducible show wpList _ _ _ _ _ _); refine wpList_load_mid rfl 71 _ rfl w.heap.size 0 rfl (perC x) _ HRB.out Tryz.underlying71 rfl hiV.out ?_)
      | ((with_reducible show wpList _ _ _ _ _ _); refine wpList_store_mid rfl 71 _ _ rfl wc.heap.size 0 (perC x).toArray rfl rfl hth.out hiV.out (perC_one _) ?_))
    generalize (wc.alloc (.cells #[.int .u64 0, .int .u64 0, .int .u64 0, .int .u64 0, .int .u64 0, .int .u64 0] 71)).setCells wc.heap.size 0 _ = wD at *
    generalize wc.heap.size = B9 at *
    have c81 := HA81.out
    have c83 := HA83.out
    have hor := HOR.out
    have c70 := HA7.out
    have c71 := HA71.out
    have c72 := HA72.out
    have hcells : Hid (wD.cell? ⟨b7, 0, none⟩ = some (.int .i64 op) ∧ wD.cell? ⟨b7, 1, none⟩ = some (.int .i64 (X : Int)) ∧ wD.cell? ⟨b7, 2, none⟩ = some (.int .i64 (Y : Int))) := ⟨c70, c71, c72⟩
    clear c70 c71 c72 HA7 HA71 HA72 HA81 HA83 HRB HP0c HP6c hth hiV HL1 HP0 HP6 HB0 HZ2 HOR
    go_wp2_with (simp only [hor])
    refine (setList_any U (by omega) wD (tab_below HTAB.out hg HBd.out) (by have := HBd.out.size; omega)).mono ?_
    rintro E w5 ⟨v, rfl, hrow, hb5⟩
    obtain ⟨Ar, cr, hvs⟩ := hrow.slice
    subst hvs
    obtain ⟨bl, hbl⟩ : ∃ bl, bl = bitsOf U := ⟨_, rfl⟩
    have hll : (intsOf U).length = bl.length := by rw [hbl]; simp [intsOf]
    have hlen64 := intsOf_length U
    have HROW : Hid (RowI w5 wD.heap.size (.slice Ar bl.length cr) (intsOf U)) := by rw [← hll]; exact hrow
    rw [hll] at hlen64
    have HBL := Lib.hid hbl
    have HLI : Hid (intsOf U = bl.map (fun (k : Nat) => (k : Int))) := by rw [hbl]; rfl
    have hl7 : b7 < wD.heap.size := by have := HN9.out; have := HZD.out; omega
    have HC5 : Hid (w5.cell? ⟨b7, 0, none⟩ = some (.int .i64 op) ∧ w5.cell? ⟨b7, 1, none⟩ = some (.int .i64 (X : Int)) ∧ w5.cell? ⟨b7, 2, none⟩ = some (.int .i64 (Y : Int))) := ⟨(hb5.cell (p := ⟨b7, 0, none⟩) hl7).trans hcells.out.1, (hb5.cell (p := ⟨b7, 1, none⟩) hl7).trans hcells.out.2.1, (hb5.cell (p := ⟨b7, 2, none⟩) hl7).trans hcells.out.2.2⟩
    have HP95 : Hid (PerAt w5 B9 (lessZ bl 0 x)) := (hp9.out.keep hb5).congr fun v hv => by unfold lessZ; simp
    have HP05 := Lib.hid (HP0d.out.keep hb5)
    have HP65 := Lib.hid (HP6d.out.keep hb5)
    have HB5 := Lib.hid (HBd.out.trans (hb5.mono HBd.out.size))
    rw [hll]
    clear hrow hb5 hll hbl c81 c83 hor hcells hp9 HP0d HP6d HBd hl7
    go_wp2_with fail
    go_loopw [41] (fun i wr => ∃ j : Nat, i = .int .i64 j ∧ j ≤ bl.length ∧ Hid (PerAt wr B9 (lessZ bl j x)) ∧ Hid (PerAt wr w.heap.size x) ∧ Hid (PerAt wr (w.heap.size + 1) (fun _ => 0)) ∧ Hid (RowI wr wD.heap.size (.slice Ar bl.length cr) (intsOf U)) ∧ Hid (wr.cell? ⟨b7, 0, none⟩ = some (.int .i64 op) ∧ wr.cell? ⟨b7, 1, none⟩ = some (.int .i64 (X : Int)) ∧ wr.cell? ⟨b7, 2, none⟩ = some (.int .i64 (Y : Int))) ∧ Hid (Below w.heap.size w wr)) (fun i _ => bl.length - (intOf i).toNat)
    case atStart => exact ⟨0, rfl, Nat.zero_le _, HP95, HP05, HP65, HROW, HC5, HB5⟩
    case round =>
      clear HP95 HP05 HP65 HROW HC5 HB5
      obtain ⟨j, rfl, hj, HP9, HP0, HP6, HROW, HC, HB⟩ := hrel
      by_cases hjl : j < bl.length
      · obtain ⟨b, hb⟩ : ∃ b, bl[j]? = some b := ⟨bl[j], List.getElem?_eq_getElem hjl⟩
        have hbm : b ∈ bitsOf U := by rw [← HBL.out]; exact List.mem_of_getElem? hb
        have hb6 : b < 6 := by
          have h9 := ((mem_bitsOf _ _).mp hbm).2
          rcases Nat.lt_or_ge b 6 with h8 | h8
          · exact h8
          · rw [Nat.testBit_lt_two_pow (Nat.lt_of_lt_of_le hu64 (Nat.pow_le_pow_right (by decide) h8 : 2 ^ 6 ≤ 2 ^ b))] at h9
            cases h9
        obtain ⟨b0, u, hb0, -, hbb, hxx, hc⟩ := (RowI.intsV HROW.out).elem (k := j) (by rw [HLI.out]; simpa using hjl)
        subst hb0
        have hub : u = (b : Int) := by
          rw [HLI.out, List.getElem?_map, hb] at hxx
          simpa using hxx.symm
        subst hub
        have bi0 : (0 : Int) ≤ (b : Int) := by omega
        have bi1 : (b : Int) < 6 := by omega
        have ji0 : (0 : Int) ≤ (j : Int) := by omega
        have ji1 : (j : Int) < (bl.length : Int) := by omega
        have c9 := HP9.out.cell hb6
        have s9 := HP9.out.soft b
        have HP9' : Hid (PerAt (wr.setCell ⟨B9, b, none⟩ (.int .u64 ((0 : Nat) : Int))) B9 (lessZ bl (j + 1) x)) := (HP9.out.put (v := 0) hb6).congr fun v _ => lessZ_next hb x v
        have HP0' := Lib.hid (HP0.out.same (heap_setCell_other wr ⟨B9, b, none⟩ _ (.int .u64 ((0 : Nat) : Int)) (by show w.heap.size ≠ B9; have := HN9.out; omega)))
        have HP6' := Lib.hid (HP6.out.same (heap_setCell_other wr ⟨B9, b, none⟩ _ (.int .u64 ((0 : Nat) : Int)) (by show w.heap.size + 1 ≠ B9; have := HN9.out; omega)))
        have HROW' : Hid (RowI (wr.setCell ⟨B9, b, none⟩ (.int .u64 ((0 : Nat) : Int))) wD.heap.size (.slice (some b0) bl.length cr) (intsOf U)) := RowI.keep HROW.out fun g hg' => heap_setCell_other _ _ _ _ (by have := (RowI.lt HROW.out g hg').1; have := HZD.out; show g ≠ B9; omega)
        have h7o := heap_setCell_other wr ⟨B9, b, none⟩ b7 (.int .u64 ((0 : Nat) : Int)) (by show b7 ≠ B9; have := HN9.out; omega)
        have HC' : Hid ((wr.setCell ⟨B9, b, none⟩ (.int .u64 ((0 : Nat) : Int))).cell? ⟨b7, 0, none⟩ = some (.int .i64 op) ∧ (wr.setCell ⟨B9, b, none⟩ (.int .u64 ((0 : Nat) : Int))).cell? ⟨b7, 1, none⟩ = some (.int .i64 (X : Int)) ∧ (wr.setCell ⟨B9, b, none⟩ (.int .u64 ((0 : Nat) : Int))).cell? ⟨b7, 2, none⟩ = some (.int .i64 (Y : Int))) := ⟨(World.cell?_of_block (a := ⟨b7, 0, none⟩) h7o).trans HC.out.1, (World.cell?_of_block (a := ⟨b7, 1, none⟩) h7o).trans HC.out.2.1, (World.cell?_of_block (a := ⟨b7, 2, none⟩) h7o).trans HC.out.2.2⟩
        have HB' := Lib.hid (below_set (o := b) (v := .int .u64 ((0 : Nat) : Int)) HB.out (by have := HN9.out; omega : w.heap.size ≤ B9))
        clear hb hbm hxx HP9 HP0 HP6 HROW HC HB h7o
        go_wp2_with fail
        refine ⟨⟨j + 1, by simp, by omega, HP9', HP0', HP6', HROW', HC', HB'⟩, ?_⟩
        simp only [intOf]
        omega
      · have hjn : j = bl.length := by omega
        have jd : decide (j < bl.length) = false := decide_eq_false hjl
        have hless : ∀ v, v < 6 → lessZ bl j x v = if U.testBit v then 0 else x v := by
          intro v hv
          unfold lessZ
          rw [hjn, List.take_length, HBL.out]
          have e : v ∈ bitsOf U ↔ U.testBit v = true := by rw [mem_bitsOf]; exact ⟨fun h => h.2, fun h => ⟨by omega, h⟩⟩
          simp only [e]
        have HLESS := Lib.hid hless
        obtain ⟨fl, hfl⟩ : ∃ fl, fl = lessZ bl j x := ⟨_, rfl⟩
        rw [← hfl] at HP9 HLESS
        have c70 := HC.out.1
        have c71 := HC.out.2.1
        have c72 := HC.out.2.2
        have cY := HP0.out.cell hY6
        have xi0 : (0 : Int) ≤ (X : Int) := by omega
        have xi1 : (X : Int) < 6 := by omega
        have yi0 : (0 : Int) ≤ (Y : Int) := by omega
        have yi1 : (Y : Int) < 6 := by omega
        have HBB := HB
        have hwl := HB.out.size
        have hl9 := HP9.out.lt
        clear hless hfl hjn hjl hj HC HROW HP0
        by_cases h4 : op = 4
        · rw [h4] at c70 HZ
          clear h4 HBB
          go_upto_region 11 with fail
          refine wp_region_held_drew (S := fun w' => w'.cell? ⟨b7, 1, none⟩ = some (.int .i64 (X : Int)) ∧ w'.cell? ⟨b7, 2, none⟩ = some (.int .i64 (Y : Int)) ∧ w'.cell? ⟨w.heap.size, Y, none⟩ = some (.int .u64 (x Y : Int)) ∧ Below B9 wr w') (by kernel_rfl) ⟨c71, c72, cY, (Below.refl _ _).drew⟩ (fun hHeld => ?_)
          replace HP9 : Hid (PerAt wr.drew B9 fl) := HP9.out.same rfl
          replace HP6 : Hid (PerAt wr.drew (w.heap.size + 1) (fun _ => 0)) := HP6.out.same rfl
          have HB7L : Hid (b7 < wr.drew.heap.size ∧ w.heap.size < wr.drew.heap.size) := ⟨by show b7 < wr.heap.size; have := HN9.out; omega, by show w.heap.size < wr.heap.size; omega⟩
          generalize hwd : wr.drew = wd at *
          clear hwd c70 c71 c72 cY
          refine wpAnyH_take (i := 0) (oi := { dst := some 53, op := Op.fieldAddr 81 (Operand.tmp 7) 1, type := 0, pos := "l4_loans.go:129", after := #[], guard := none }) (v := .pointer (some ⟨b7, 1, none⟩)) rfl (by kernel_rfl) (by kernel_rfl) (by kernel_rfl) (fun _ _ _ h => h) (Or.inl ⟨by rfl, fun w hSw => by go_simp⟩) hHeld ?_
          try simp only [Act.put, List.setIfInBounds_toArray, List.set_cons_zero, List.set_cons_succ]
          refine wpAnyH_take (i := 1) (oi := { dst := some 54, op := Op.load 3 (Operand.tmp 53), type := 3, pos := "l4_loans.go:129", after := #[{ on := 0, ground := Ground.data }], guard := none }) (v := .int .i64 (X : Int)) rfl (by kernel_rfl) (by kernel_rfl) (by kernel_rfl) (fun _ _ _ h => h) (Or.inl ⟨by rfl, fun w9 hSw => by have h9 := hSw.1; go_simp⟩) hHeld ?_
          try simp only [Act.put, List.setIfInBounds_toArray, List.set_cons_zero, List.set_cons_succ]
          refine wpAnyH_take (i := 2) (oi := { dst := some 55, op := Op.fieldAddr 81 (Operand.tmp 7) 2, type := 0, pos := "l4_loans.go:129", after := #[], guard := none }) (v := .pointer (some ⟨b7, 2, none⟩)) rfl (by kernel_rfl) (by kernel_rfl) (by kernel_rfl) (fun _ _ _ h => h) (Or.inl ⟨by rfl, fun w hSw => by go_simp⟩) hHeld ?_
          try simp only [Act.put, List.setIfInBounds_toArray, List.set_cons_zero, List.set_cons_succ]
          refine wpAnyH_take (i := 3) (oi := { dst := some 56, op := Op.load 3 (Operand.tmp 55), type := 3, pos := "l4_loans.go:129", after := #[{ on := 2, ground := Ground.data }], guard := none }) (v := .int .i64 (Y : Int)) rfl (by kernel_rfl) (by kernel_rfl) (by kernel_rfl) (fun _ _ _ h => h) (Or.inl ⟨by rfl, fun w9 hSw => by have h9 := hSw.2.1; go_simp⟩) hHeld ?_
          try simp only [Act.put, List.setIfInBounds_toArray, List.set_cons_zero, List.set_cons_succ]
          refine wpAnyH_take (i := 4) (oi := { dst := some 57, op := Op.indexAddr 71 (Operand.tmp 5) (Operand.tmp 56), type := 0, pos := "l4_loans.go:129", after := #[{ on := 3, ground := Ground.data }], guard := none }) (v := .pointer (some ⟨w.heap.size, Y, none⟩)) rfl (by kernel_rfl) (by kernel_rfl) (by kernel_rfl) (fun _ _ _ h => h) (Or.inl ⟨by rfl, fun w hSw => by go_simp⟩) hHeld ?_
          try simp only [Act.put, List.setIfInBounds_toArray, List.set_cons_zero, List.set_cons_succ]
          refine wpAnyH_take (i := 5) (oi := { dst := some 58, op := Op.load 69 (Operand.tmp 57), type := 69, pos := "l4_loans.go:129", after := #[{ on := 4, ground := Ground.data }], guard := none }) (v := .int .u64 (x Y : Int)) rfl (by kernel_rfl) (by kernel_rfl) (by kernel_rfl) (fun _ _ _ h => h) (Or.inl ⟨by rfl, fun w9 hSw => by have h9 := hSw.2.2.1; go_simp⟩) hHeld ?_
          try simp only [Act.put, List.setIfInBounds_toArray, List.set_cons_zero, List.set_cons_succ]
          refine wpAnyH_take (i := 6) (oi := { dst := some 59, op := Op.move (Operand.tmp 1), type := 3, pos := "l4_loans.go:129", after := #[], guard := none }) (v := .int .i64 (k : Int)) rfl (by kernel_rfl) (by kernel_rfl) (by kernel_rfl) (fun _ _ _ h => h) (Or.inl ⟨by rfl, fun w hSw => by go_simp⟩) hHeld ?_
          try simp only [Act.put, List.setIfInBounds_toArray, List.set_cons_zero, List.set_cons_succ]
          refine wpAnyH_ready (rs := [7]) (by kernel_rfl) (by simp) ?_
          refine AllReadyH.cons (o := { dst := some 60, op := Op.call { callee := Callee.value (Operand.func 114), args := #[Operand.tmp 58, Operand.tmp 59], argTypes := #[69, 3] }, type := 69, pos := "l4_loans.go:129", after := #[{ on := 5, ground := Ground.data }, { on := 6, ground := Ground.data }], guard := none }) rfl (fun K hK => ?_) AllReadyH.nil
          go_simp
          refine (with_any (x Y) k (by have := hx Y; omega) (by omega) _).mono ?_
          rintro E wq ⟨rfl, hbq⟩
          refine hK.out _ _ ⟨(hbq.cell HB7L.out.1).trans hHeld.1, (hbq.cell HB7L.out.1).trans hHeld.2.1, (hbq.cell HB7L.out.2).trans hHeld.2.2.1, hHeld.2.2.2.trans (hbq.mono (by have := HP9.out.lt; omega))⟩ (fun hHeld => ?_)
          replace HP9 := Lib.hid (HP9.out.keep hbq)
          replace HP6 := Lib.hid (HP6.out.keep hbq)
          clear hK K hbq
          refine wpAnyH_take (i := 8) (oi := { dst := some 61, op := Op.indexAddr 71 (Operand.tmp 9) (Operand.tmp 54), type := 0, pos := "l4_loans.go:129", after := #[{ on := 1, ground := Ground.data }, { on := 0, ground := Ground.phase }, { on := 1, ground := Ground.phase }, { on := 2, ground := Ground.phase }, { on := 3, ground := Ground.phase }, { on := 4, ground := Ground.phase }, { on := 5, ground := Ground.phase }, { on := 6, ground := Ground.phase }, { on := 7, ground := Ground.phase }], guard := none }) (v := .pointer (some ⟨B9, X, none⟩)) rfl (by kernel_rfl) (by kernel_rfl) (by kernel_rfl) (fun _ _ _ h => h) (Or.inl ⟨by rfl, fun w hSw => by go_simp⟩) hHeld ?_
          try simp only [Act.put, List.setIfInBounds_toArray, List.set_cons_zero, List.set_cons_succ]
          refine wpAnyH_ready (rs := [9]) (by kernel_rfl) (by simp) ?_
          refine AllReadyH.cons (o := { dst := none, op := Op.store 69 (Operand.tmp 61) (Operand.tmp 60), type := 0, pos := "l4_loans.go:129", after := #[{ on := 8, ground := Ground.data }, { on := 7, ground := Ground.data }, { on := 7, ground := Ground.chain }, { on := 0, ground := Ground.phase }, { on := 1, ground := Ground.phase }, { on := 2, ground := Ground.phase }, { on := 3, ground := Ground.phase }, { on := 4, ground := Ground.phase }, { on := 5, ground := Ground.phase }, { on := 6, ground := Ground.phase }, { on := 7, ground := Ground.phase }], guard := none }) rfl (fun K hK => ?_) AllReadyH.nil
          have cq := HP9.out.cell hX6
          have sq := HP9.out.soft X
          go_simp
          refine hK.out _ _ ⟨(World.cell?_of_block (heap_setCell_other _ ⟨B9, X, none⟩ _ (.int .u64 ((x Y ||| 2 ^ k : Nat) : Int)) (by show b7 ≠ B9; have := HN9.out; omega))).trans hHeld.1, (World.cell?_of_block (heap_setCell_other _ ⟨B9, X, none⟩ _ (.int .u64 ((x Y ||| 2 ^ k : Nat) : Int)) (by show b7 ≠ B9; have := HN9.out; omega))).trans hHeld.2.1, (World.cell?_of_block (heap_setCell_other _ ⟨B9, X, none⟩ _ (.int .u64 ((x Y ||| 2 ^ k : Nat) : Int)) (by show w.heap.size ≠ B9; have := HN9.out; omega))).trans hHeld.2.2.1, below_set hHeld.2.2.2 (Nat.le_refl _)⟩ (fun hHeld => ?_)
          replace HP9 := Lib.hid (HP9.out.put (v := x Y ||| 2 ^ k) hX6)
          replace HP6 := Lib.hid (HP6.out.same (heap_setCell_other _ ⟨B9, X, none⟩ _ (.int .u64 ((x Y ||| 2 ^ k : Nat) : Int)) (by show w.heap.size + 1 ≠ B9; have := HN9.out; omega)))
          clear hK K cq sq
          refine wpAnyH_done (by kernel_rfl) ?_ _
          skip
          have HBB := Lib.hid (HB.out.trans (hHeld.2.2.2.mono (by have := HN9.out; omega)))
          clear hHeld
          have HR_ := Lib.hid HP9.out.range
          have HT_ := Lib.hid HP6.out.there
          have HO_ := Lib.hid (HP6.out.allRow (setAt fl X (x Y ||| 2 ^ k)))
          have HBS_ := Lib.hid (below_setCells (b := w.heap.size + 1) (o := 0) (vs := perC (setAt fl X (x Y ||| 2 ^ k))) HBB.out (by omega) HBB.out.size)
          have HEQ_ : Hid (perC (lentZ ts d k x) = perC (setAt fl X (x Y ||| 2 ^ k))) := Lib.hid (perC_congr fun v hv => by (rw [HZ.out v hv]; unfold setAt; by_cases h9 : v = X <;> simp [h9, HLESS.out v hv]))
          have hiW : Hid ((Tryz.prog.info? 71).map (·.size) = some 6) := by exact (show (Tryz.prog.info? 71).map (·.size) = some 6 from by kernel_rfl)
          clear HP9 HP6 HBB
          go_wp2_with (first
            | ((with_reducible show wpList _ _ _ _ _ _); refine wpList_load_mid rfl 71 _ rfl B9 0 rfl (perC (setAt fl X (x Y ||| 2 ^ k))) _ HR_.out Tryz.underlying71 rfl hiW.out ?_)
            | ((with_reducible show wpList _ _ _ _ _ _); refine wpList_store_mid rfl 71 _ _ rfl (w.heap.size + 1) 0 (perC (setAt fl X (x Y ||| 2 ^ k))).toArray rfl rfl HT_.out hiW.out (perC_one _) ?_))
          refine bodyPost_ret (v := .agg (perC (setAt fl X (x Y ||| 2 ^ k))).toArray) ?_ rfl ⟨by rw [HEQ_.out], HBS_.out⟩
          exact results_cell rfl Tryz.prog _ _ (w.heap.size + 1) _ rfl (load_per HO_.out rfl)
        · have n4 : (op == 4) = false := by simp [h4]
          by_cases h5 : op = 5
          · rw [h5] at c70 HZ
            clear h5 n4 h4 HBB
            go_upto_region 11 with fail
            refine wp_region_held_drew (S := fun w' => w'.cell? ⟨b7, 1, none⟩ = some (.int .i64 (X : Int)) ∧ w'.cell? ⟨b7, 2, none⟩ = some (.int .i64 (Y : Int)) ∧ w'.cell? ⟨w.heap.size, Y, none⟩ = some (.int .u64 (x Y : Int)) ∧ Below B9 wr w') (by kernel_rfl) ⟨c71, c72, cY, (Below.refl _ _).drew⟩ (fun hHeld => ?_)
            replace HP9 : Hid (PerAt wr.drew B9 fl) := HP9.out.same rfl
            replace HP6 : Hid (PerAt wr.drew (w.heap.size + 1) (fun _ => 0)) := HP6.out.same rfl
            have HB7L : Hid (b7 < wr.drew.heap.size ∧ w.heap.size < wr.drew.heap.size) := ⟨by show b7 < wr.heap.size; have := HN9.out; omega, by show w.heap.size < wr.heap.size; omega⟩
            generalize hwd : wr.drew = wd at *
            clear hwd c70 c71 c72 cY
            refine wpAnyH_take (i := 0) (oi := { dst := some 53, op := Op.fieldAddr 81 (Operand.tmp 7) 1, type := 0, pos := "l4_loans.go:129", after := #[], guard := none }) (v := .pointer (some ⟨b7, 1, none⟩)) rfl (by kernel_rfl) (by kernel_rfl) (by kernel_rfl) (fun _ _ _ h => h) (Or.inl ⟨by rfl, fun w hSw => by go_simp⟩) hHeld ?_
            try simp only [Act.put, List.setIfInBounds_toArray, List.set_cons_zero, List.set_cons_succ]
            refine wpAnyH_take (i := 1) (oi := { dst := some 54, op := Op.load 3 (Operand.tmp 53), type := 3, pos := "l4_loans.go:129", after := #[{ on := 0, ground := Ground.data }], guard := none }) (v := .int .i64 (X : Int)) rfl (by kernel_rfl) (by kernel_rfl) (by kernel_rfl) (fun _ _ _ h => h) (Or.inl ⟨by rfl, fun w9 hSw => by have h9 := hSw.1; go_simp⟩) hHeld ?_
            try simp only [Act.put, List.setIfInBounds_toArray, List.set_cons_zero, List.set_cons_succ]
            refine wpAnyH_take (i := 2) (oi := { dst := some 55, op := Op.fieldAddr 81 (Operand.tmp 7) 2, type := 0, pos := "l4_loans.go:129", after := #[], guard := none }) (v := .pointer (some ⟨b7, 2, none⟩)) rfl (by kernel_rfl) (by kernel_rfl) (by kernel_rfl) (fun _ _ _ h => h) (Or.inl ⟨by rfl, fun w hSw => by go_simp⟩) hHeld ?_
            try simp only [Act.put, List.setIfInBounds_toArray, List.set_cons_zero, List.set_cons_succ]
            refine wpAnyH_take (i := 3) (oi := { dst := some 56, op := Op.load 3 (Operand.tmp 55), type := 3, pos := "l4_loans.go:129", after := #[{ on := 2, ground := Ground.data }], guard := none }) (v := .int .i64 (Y : Int)) rfl (by kernel_rfl) (by kernel_rfl) (by kernel_rfl) (fun _ _ _ h => h) (Or.inl ⟨by rfl, fun w9 hSw => by have h9 := hSw.2.1; go_simp⟩) hHeld ?_
            try simp only [Act.put, List.setIfInBounds_toArray, List.set_cons_zero, List.set_cons_succ]
            refine wpAnyH_take (i := 4) (oi := { dst := some 57, op := Op.indexAddr 71 (Operand.tmp 5) (Operand.tmp 56), type := 0, pos := "l4_loans.go:129", after := #[{ on := 3, ground := Ground.data }], guard := none }) (v := .pointer (some ⟨w.heap.size, Y, none⟩)) rfl (by kernel_rfl) (by kernel_rfl) (by kernel_rfl) (fun _ _ _ h => h) (Or.inl ⟨by rfl, fun w hSw => by go_simp⟩) hHeld ?_
            try simp only [Act.put, List.setIfInBounds_toArray, List.set_cons_zero, List.set_cons_succ]
            refine wpAnyH_take (i := 5) (oi := { dst := some 58, op := Op.load 69 (Operand.tmp 57), type := 69, pos := "l4_loans.go:129", after := #[{ on := 4, ground := Ground.data }], guard := none }) (v := .int .u64 (x Y : Int)) rfl (by kernel_rfl) (by kernel_rfl) (by kernel_rfl) (fun _ _ _ h => h) (Or.inl ⟨by rfl, fun w9 hSw => by have h9 := hSw.2.2.1; go_simp⟩) hHeld ?_
            try simp only [Act.put, List.setIfInBounds_toArray, List.set_cons_zero, List.set_cons_succ]
            refine wpAnyH_take (i := 6) (oi := { dst := some 59, op := Op.move (Operand.tmp 1), type := 3, pos := "l4_loans.go:129", after := #[], guard := none }) (v := .int .i64 (k : Int)) rfl (by kernel_rfl) (by kernel_rfl) (by kernel_rfl) (fun _ _ _ h => h) (Or.inl ⟨by rfl, fun w hSw => by go_simp⟩) hHeld ?_
            try simp only [Act.put, List.setIfInBounds_toArray, List.set_cons_zero, List.set_cons_succ]
            refine wpAnyH_ready (rs := [7]) (by kernel_rfl) (by simp) ?_
            refine AllReadyH.cons (o := { dst := some 60, op := Op.call { callee := Callee.value (Operand.func 114), args := #[Operand.tmp 58, Operand.tmp 59], argTypes := #[69, 3] }, type := 69, pos := "l4_loans.go:129", after := #[{ on := 5, ground := Ground.data }, { on := 6, ground := Ground.data }], guard := none }) rfl (fun K hK => ?_) AllReadyH.nil
            go_simp
            refine (with_any (x Y) k (by have := hx Y; omega) (by omega) _).mono ?_
            rintro E wq ⟨rfl, hbq⟩
            refine hK.out _ _ ⟨(hbq.cell HB7L.out.1).trans hHeld.1, (hbq.cell HB7L.out.1).trans hHeld.2.1, (hbq.cell HB7L.out.2).trans hHeld.2.2.1, hHeld.2.2.2.trans (hbq.mono (by have := HP9.out.lt; omega))⟩ (fun hHeld => ?_)
            replace HP9 := Lib.hid (HP9.out.keep hbq)
            replace HP6 := Lib.hid (HP6.out.keep hbq)
            clear hK K hbq
            refine wpAnyH_take (i := 8) (oi := { dst := some 61, op := Op.indexAddr 71 (Operand.tmp 9) (Operand.tmp 54), type := 0, pos := "l4_loans.go:129", after := #[{ on := 1, ground := Ground.data }, { on := 0, ground := Ground.phase }, { on := 1, ground := Ground.phase }, { on := 2, ground := Ground.phase }, { on := 3, ground := Ground.phase }, { on := 4, ground := Ground.phase }, { on := 5, ground := Ground.phase }, { on := 6, ground := Ground.phase }, { on := 7, ground := Ground.phase }], guard := none }) (v := .pointer (some ⟨B9, X, none⟩)) rfl (by kernel_rfl) (by kernel_rfl) (by kernel_rfl) (fun _ _ _ h => h) (Or.inl ⟨by rfl, fun w hSw => by go_simp⟩) hHeld ?_
            try simp only [Act.put, List.setIfInBounds_toArray, List.set_cons_zero, List.set_cons_succ]
            refine wpAnyH_ready (rs := [9]) (by kernel_rfl) (by simp) ?_
            refine AllReadyH.cons (o := { dst := none, op := Op.store 69 (Operand.tmp 61) (Operand.tmp 60), type := 0, pos := "l4_loans.go:129", after := #[{ on := 8, ground := Ground.data }, { on := 7, ground := Ground.data }, { on := 7, ground := Ground.chain }, { on := 0, ground := Ground.phase }, { on := 1, ground := Ground.phase }, { on := 2, ground := Ground.phase }, { on := 3, ground := Ground.phase }, { on := 4, ground := Ground.phase }, { on := 5, ground := Ground.phase }, { on := 6, ground := Ground.phase }, { on := 7, ground := Ground.phase }], guard := none }) rfl (fun K hK => ?_) AllReadyH.nil
            have cq := HP9.out.cell hX6
            have sq := HP9.out.soft X
            go_simp
            refine hK.out _ _ ⟨(World.cell?_of_block (heap_setCell_other _ ⟨B9, X, none⟩ _ (.int .u64 ((x Y ||| 2 ^ k : Nat) : Int)) (by show b7 ≠ B9; have := HN9.out; omega))).trans hHeld.1, (World.cell?_of_block (heap_setCell_other _ ⟨B9, X, none⟩ _ (.int .u64 ((x Y ||| 2 ^ k : Nat) : Int)) (by show b7 ≠ B9; have := HN9.out; omega))).trans hHeld.2.1, (World.cell?_of_block (heap_setCell_other _ ⟨B9, X, none⟩ _ (.int .u64 ((x Y ||| 2 ^ k : Nat) : Int)) (by show w.heap.size ≠ B9; have := HN9.out; omega))).trans hHeld.2.2.1, below_set hHeld.2.2.2 (Nat.le_refl _)⟩ (fun hHeld => ?_)
            replace HP9 := Lib.hid (HP9.out.put (v := x Y ||| 2 ^ k) hX6)
            replace HP6 := Lib.hid (HP6.out.same (heap_setCell_other _ ⟨B9, X, none⟩ _ (.int .u64 ((x Y ||| 2 ^ k : Nat) : Int)) (by show w.heap.size + 1 ≠ B9; have := HN9.out; omega)))
            clear hK K cq sq
            refine wpAnyH_done (by kernel_rfl) ?_ _
            skip
            have HBB := Lib.hid (HB.out.trans (hHeld.2.2.2.mono (by have := HN9.out; omega)))
            clear hHeld
            have HR_ := Lib.hid HP9.out.range
            have HT_ := Lib.hid HP6.out.there
            have HO_ := Lib.hid (HP6.out.allRow (setAt fl X (x Y ||| 2 ^ k)))
            have HBS_ := Lib.hid (below_setCells (b := w.heap.size + 1) (o := 0) (vs := perC (setAt fl X (x Y ||| 2 ^ k))) HBB.out (by omega) HBB.out.size)
            have HEQ_ : Hid (perC (lentZ ts d k x) = perC (setAt fl X (x Y ||| 2 ^ k))) := Lib.hid (perC_congr fun v hv => by (rw [HZ.out v hv]; unfold setAt; by_cases h9 : v = X <;> simp [h9, HLESS.out v hv]))
            have hiW : Hid ((Tryz.prog.info? 71).map (·.size) = some 6) := by exact (show (Tryz.prog.info? 71).map (·.size) = some 6 from by kernel_rfl)
            clear HP9 HP6 HBB
            go_wp2_with (first
              | ((with_reducible show wpList _ _ _ _ _ _); refine wpList_load_mid rfl 71 _ rfl B9 0 rfl (perC (setAt fl X (x Y ||| 2 ^ k))) _ HR_.out Tryz.underlying71 rfl hiW.out ?_)
              | ((with_reducible show wpList _ _ _ _ _ _); refine wpList_store_mid rfl 71 _ _ rfl (w.heap.size + 1) 0 (perC (setAt fl X (x Y ||| 2 ^ k))).toArray rfl rfl HT_.out hiW.out (perC_one _) ?_))
            refine bodyPost_ret (v := .agg (perC (setAt fl X (x Y ||| 2 ^ k))).toArray) ?_ rfl ⟨by rw [HEQ_.out], HBS_.out⟩
            exact results_cell rfl Tryz.prog _ _ (w.heap.size + 1) _ rfl (load_per HO_.out rfl)
          · have n5 : (op == 5) = false := by simp [h5]
            by_cases h3 : op = 3
            · rw [h3] at c70 HZ
              clear h3 n5 h5 n4 h4 HBB
              go_upto_region 13 with fail
              refine wp_region_held_drew (S := fun w' => w'.cell? ⟨b7, 1, none⟩ = some (.int .i64 (X : Int)) ∧ w'.cell? ⟨b7, 2, none⟩ = some (.int .i64 (Y : Int)) ∧ w'.cell? ⟨w.heap.size, Y, none⟩ = some (.int .u64 (x Y : Int)) ∧ Below B9 wr w') (by kernel_rfl) ⟨c71, c72, cY, (Below.refl _ _).drew⟩ (fun hHeld => ?_)
              replace HP9 : Hid (PerAt wr.drew B9 fl) := HP9.out.same rfl
              replace HP6 : Hid (PerAt wr.drew (w.heap.size + 1) (fun _ => 0)) := HP6.out.same rfl
              have HB7L : Hid (b7 < wr.drew.heap.size ∧ w.heap.size < wr.drew.heap.size) := ⟨by show b7 < wr.heap.size; have := HN9.out; omega, by show w.heap.size < wr.heap.size; omega⟩
              generalize hwd : wr.drew = wd at *
              clear hwd c70 c71 c72 cY
              refine wpAnyH_take (i := 0) (oi := { dst := some 64, op := Op.fieldAddr 81 (Operand.tmp 7) 1, type := 0, pos := "l4_loans.go:131", after := #[], guard := none }) (v := .pointer (some ⟨b7, 1, none⟩)) rfl (by kernel_rfl) (by kernel_rfl) (by kernel_rfl) (fun _ _ _ h => h) (Or.inl ⟨by rfl, fun w hSw => by go_simp⟩) hHeld ?_
              try simp only [Act.put, List.setIfInBounds_toArray, List.set_cons_zero, List.set_cons_succ]
              refine wpAnyH_take (i := 1) (oi := { dst := some 65, op := Op.load 3 (Operand.tmp 64), type := 3, pos := "l4_loans.go:131", after := #[{ on := 0, ground := Ground.data }], guard := none }) (v := .int .i64 (X : Int)) rfl (by kernel_rfl) (by kernel_rfl) (by kernel_rfl) (fun _ _ _ h => h) (Or.inl ⟨by rfl, fun w9 hSw => by have h9 := hSw.1; go_simp⟩) hHeld ?_
              try simp only [Act.put, List.setIfInBounds_toArray, List.set_cons_zero, List.set_cons_succ]
              refine wpAnyH_take (i := 2) (oi := { dst := some 66, op := Op.fieldAddr 81 (Operand.tmp 7) 2, type := 0, pos := "l4_loans.go:131", after := #[], guard := none }) (v := .pointer (some ⟨b7, 2, none⟩)) rfl (by kernel_rfl) (by kernel_rfl) (by kernel_rfl) (fun _ _ _ h => h) (Or.inl ⟨by rfl, fun w hSw => by go_simp⟩) hHeld ?_
              try simp only [Act.put, List.setIfInBounds_toArray, List.set_cons_zero, List.set_cons_succ]
              refine wpAnyH_take (i := 3) (oi := { dst := some 67, op := Op.load 3 (Operand.tmp 66), type := 3, pos := "l4_loans.go:131", after := #[{ on := 2, ground := Ground.data }], guard := none }) (v := .int .i64 (Y : Int)) rfl (by kernel_rfl) (by kernel_rfl) (by kernel_rfl) (fun _ _ _ h => h) (Or.inl ⟨by rfl, fun w9 hSw => by have h9 := hSw.2.1; go_simp⟩) hHeld ?_
              try simp only [Act.put, List.setIfInBounds_toArray, List.set_cons_zero, List.set_cons_succ]
              refine wpAnyH_take (i := 4) (oi := { dst := some 68, op := Op.indexAddr 71 (Operand.tmp 5) (Operand.tmp 67), type := 0, pos := "l4_loans.go:131", after := #[{ on := 3, ground := Ground.data }], guard := none }) (v := .pointer (some ⟨w.heap.size, Y, none⟩)) rfl (by kernel_rfl) (by kernel_rfl) (by kernel_rfl) (fun _ _ _ h => h) (Or.inl ⟨by rfl, fun w hSw => by go_simp⟩) hHeld ?_
              try simp only [Act.put, List.setIfInBounds_toArray, List.set_cons_zero, List.set_cons_succ]
              refine wpAnyH_take (i := 5) (oi := { dst := some 69, op := Op.load 69 (Operand.tmp 68), type := 69, pos := "l4_loans.go:131", after := #[{ on := 4, ground := Ground.data }], guard := none }) (v := .int .u64 (x Y : Int)) rfl (by kernel_rfl) (by kernel_rfl) (by kernel_rfl) (fun _ _ _ h => h) (Or.inl ⟨by rfl, fun w9 hSw => by have h9 := hSw.2.2.1; go_simp⟩) hHeld ?_
              try simp only [Act.put, List.setIfInBounds_toArray, List.set_cons_zero, List.set_cons_succ]
              refine wpAnyH_take (i := 6) (oi := { dst := some 70, op := Op.indexAddr 71 (Operand.tmp 9) (Operand.tmp 65), type := 0, pos := "l4_loans.go:131", after := #[{ on := 1, ground := Ground.data }, { on := 0, ground := Ground.phase }, { on := 1, ground := Ground.phase }, { on := 2, ground := Ground.phase }, { on := 3, ground := Ground.phase }, { on := 4, ground := Ground.phase }, { on := 5, ground := Ground.phase }], guard := none }) (v := .pointer (some ⟨B9, X, none⟩)) rfl (by kernel_rfl) (by kernel_rfl) (by kernel_rfl) (fun _ _ _ h => h) (Or.inl ⟨by rfl, fun w hSw => by go_simp⟩) hHeld ?_
              try simp only [Act.put, List.setIfInBounds_toArray, List.set_cons_zero, List.set_cons_succ]
              refine wpAnyH_ready (rs := [7]) (by kernel_rfl) (by simp) ?_
              refine AllReadyH.cons (o := { dst := none, op := Op.store 69 (Operand.tmp 70) (Operand.tmp 69), type := 0, pos := "l4_loans.go:131", after := #[{ on := 6, ground := Ground.data }, { on := 5, ground := Ground.data }, { on := 0, ground := Ground.phase }, { on := 1, ground := Ground.phase }, { on := 2, ground := Ground.phase }, { on := 3, ground := Ground.phase }, { on := 4, ground := Ground.phase }, { on := 5, ground := Ground.phase }], guard := none }) rfl (fun K hK => ?_) AllReadyH.nil
              have cq := HP9.out.cell hX6
              have sq := HP9.out.soft X
              go_simp
              refine hK.out _ _ ⟨(World.cell?_of_block (heap_setCell_other _ ⟨B9, X, none⟩ _ (.int .u64 ((x Y : Nat) : Int)) (by show b7 ≠ B9; have := HN9.out; omega))).trans hHeld.1, (World.cell?_of_block (heap_setCell_other _ ⟨B9, X, none⟩ _ (.int .u64 ((x Y : Nat) : Int)) (by show b7 ≠ B9; have := HN9.out; omega))).trans hHeld.2.1, (World.cell?_of_block (heap_setCell_other _ ⟨B9, X, none⟩ _ (.int .u64 ((x Y : Nat) : Int)) (by show w.heap.size ≠ B9; have := HN9.out; omega))).trans hHeld.2.2.1, below_set hHeld.2.2.2 (Nat.le_refl _)⟩ (fun hHeld => ?_)
              replace HP9 := Lib.hid (HP9.out.put (v := x Y) hX6)
              replace HP6 := Lib.hid (HP6.out.same (heap_setCell_other _ ⟨B9, X, none⟩ _ (.int .u64 ((x Y : Nat) : Int)) (by show w.heap.size + 1 ≠ B9; have := HN9.out; omega)))
              clear hK K cq sq
              refine wpAnyH_done (by kernel_rfl) ?_ _
              skip
              have HBB := Lib.hid (HB.out.trans (hHeld.2.2.2.mono (by have := HN9.out; omega)))
              clear hHeld
              have HR_ := Lib.hid HP9.out.range
              have HT_ := Lib.hid HP6.out.there
              have HO_ := Lib.hid (HP6.out.allRow (setAt fl X (x Y)))
              have HBS_ := Lib.hid (below_setCells (b := w.heap.size + 1) (o := 0) (vs := perC (setAt fl X (x Y))) HBB.out (by omega) HBB.out.size)
              have HEQ_ : Hid (perC (lentZ ts d k x) = perC (setAt fl X (x Y))) := Lib.hid (perC_congr fun v hv => by (rw [HZ.out v hv]; unfold setAt; by_cases h9 : v = X <;> simp [h9, HLESS.out v hv]))
              have hiW : Hid ((Tryz.prog.info? 71).map (·.size) = some 6) := by exact (show (Tryz.prog.info? 71).map (·.size) = some 6 from by kernel_rfl)
              clear HP9 HP6 HBB
              go_wp2_with (first
                | ((with_reducible show wpList _ _ _ _ _ _); refine wpList_load_mid rfl 71 _ rfl B9 0 rfl (perC (setAt fl X (x Y))) _ HR_.out Tryz.underlying71 rfl hiW.out ?_)
                | ((with_reducible show wpList _ _ _ _ _ _); refine wpList_store_mid rfl 71 _ _ rfl (w.heap.size + 1) 0 (perC (setAt fl X (x Y))).toArray rfl rfl HT_.out hiW.out (perC_one _) ?_))
              refine bodyPost_ret (v := .agg (perC (setAt fl X (x Y))).toArray) ?_ rfl ⟨by rw [HEQ_.out], HBS_.out⟩
              exact results_cell rfl Tryz.prog _ _ (w.heap.size + 1) _ rfl (load_per HO_.out rfl)
            · have n3 : (op == 3) = false := by simp [h3]
              replace HZ := Lib.hid (fun v hv => by rw [HZ.out v hv, if_neg (by rintro ⟨h9 | h9, _⟩; exact h4 h9; exact h5 h9), if_neg (by rintro ⟨h9, _⟩; exact h3 h9)] : ∀ v, v < 6 → lentZ ts d k x v = if U.testBit v then 0 else x v)
              clear h3 h4 h5
              have HR_ := Lib.hid HP9.out.range
              have HT_ := Lib.hid HP6.out.there
              have HO_ := Lib.hid (HP6.out.allRow fl)
              have HBS_ := Lib.hid (below_setCells (b := w.heap.size + 1) (o := 0) (vs := perC fl) HBB.out (by omega) HBB.out.size)
              have HEQ_ : Hid (perC (lentZ ts d k x) = perC fl) := Lib.hid (perC_congr fun v hv => by (rw [HZ.out v hv, HLESS.out v hv]))
              have hiW : Hid ((Tryz.prog.info? 71).map (·.size) = some 6) := by exact (show (Tryz.prog.info? 71).map (·.size) = some 6 from by kernel_rfl)
              clear HP9 HP6 HBB
              go_wp2_with (first
                | ((with_reducible show wpList _ _ _ _ _ _); refine wpList_load_mid rfl 71 _ rfl B9 0 rfl (perC fl) _ HR_.out Tryz.underlying71 rfl hiW.out ?_)
                | ((with_reducible show wpList _ _ _ _ _ _); refine wpList_store_mid rfl 71 _ _ rfl (w.heap.size + 1) 0 (perC fl).toArray rfl rfl HT_.out hiW.out (perC_one _) ?_))
              refine bodyPost_ret (v := .agg (perC fl).toArray) ?_ rfl ⟨by rw [HEQ_.out], HBS_.out⟩
              exact results_cell rfl Tryz.prog _ _ (w.heap.size + 1) _ rfl (load_per HO_.out rfl)

end Go.Proofs.YtidjphifgemicaaGreatDoor
