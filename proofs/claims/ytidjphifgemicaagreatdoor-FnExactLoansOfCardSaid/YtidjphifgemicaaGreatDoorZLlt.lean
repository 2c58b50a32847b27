/-
  What is known of loans behind a point, by the program: both.
-/
import Derived.Test.YtidjphifgemicaaGreatDoorZLlb
import Derived.Test.YtidjphifgemicaaGreatDoorZLjp
namespace Go.Proofs.YtidjphifgemicaaGreatDoor
open Go.RowKit Go.Deep
set_option linter.unusedVariables false

theorem placed_iff {ts : List Int} {ns : List Nd} {k : Nat} {d : Nd} {x : Nat → Nat} (hd : ns[k]? = some d) (l : Nat) :
    ((isLoan ns k = true ∧ l = k) ∨ ((x 6).testBit l = true ∧ ∀ v, v < 6 → lostN ts ns k v → ¬ isFrom ns v l = true)) ↔ Beh (genL ns) (handL ts ns) k (bitR x) 6 l := by
  unfold Beh
  refine or_congr ?_ ?_
  · rw [isLoan_at hd, decide_eq_true_eq]
    constructor
    · rintro ⟨h1, h2⟩
      exact ⟨d, hd, h1, h2, .inl rfl, by omega⟩
    · rintro ⟨d', h1, h2, h3, _⟩
      rw [hd] at h1
      cases h1
      exact ⟨h2, h3⟩
  · constructor
    · rintro ⟨h1, h2⟩
      exact ⟨6, by omega, h1, .inr ⟨rfl, rfl, fun z hz hl hn => h2 z hz hl (isFrom_iff.mpr hn)⟩⟩
    · rintro ⟨u, hu, h1, h2⟩
      rcases h2 with ⟨h3, _⟩ | ⟨_, rfl, h3⟩
      · omega
      · exact ⟨h1, fun v hv hl hf => h3 v hv hl (isFrom_iff.mp hf)⟩

/-- The memory of lentBehind. -/
structure BS (x : Nat → Nat) (w w' : World) : Prop where
  below : Below w.heap.size w w'
  a : w'.heap[w.heap.size]? = some (.cells (lentC x).toArray 74 (0, 0))
  r : ∃ cs, w'.heap[w.heap.size + 1]? = some (.cells cs 74 (0, 0)) ∧ cs.size = 7

theorem BS.keep {x : Nat → Nat} {w a b : World} (h : BS x w a) (hb : Below a.heap.size a b) : BS x w b := by
  obtain ⟨cs, r1, r2⟩ := h.r
  exact ⟨h.below.trans (hb.mono h.below.size), (hb.block _ (heap_lt h.a)).trans h.a, cs, (hb.block _ (heap_lt r1)).trans r1, r2⟩

theorem BS.put {x : Nat → Nat} {w a : World} (h : BS x w a) (z : Nat → Nat) : BS x w (a.setCells (w.heap.size + 1) 0 (lentC z)) := by
  obtain ⟨cs, r1, r2⟩ := h.r
  have hl := heap_lt r1
  exact ⟨below_setCells h.below (by omega) (by omega), (World.heap_setCells_other _ _ _ _ (by omega) (by omega)).trans h.a, _, flowLent.row7_set z h.r, rfl⟩

set_option maxRecDepth 100000 in
set_option maxHeartbeats 4000000 in
theorem lentBehind_any (ts : List Int) (ns : List Nd) (q C F hi : Nat) (A : Option Addr) (c : Nat) (ah bk : Nat → Nat) (L : Nat) (mb lv : Nat → Nat) (k : Nat) (x : Nat → Nat) (d : Nd) (w : World) (h : LndIn ts ns C F hi A c ah bk L ns.length mb lv w) (hD : PtsOk q ns) (hA : AllTyped ts ns) (hd : ns[k]? = some d) (hTab : TabAt 0 Lib.deBruijn64tab w) (hg : 0 < w.heap.size) (hx : ∀ v, x v < 2305843009213693952) :
    Calls Tryz.prog 90 #[.pointer (some ⟨L, 0, none⟩), .int .i64 k, .agg (lentC x).toArray] w fun E w' => ∃ z : Nat → Nat, E = .returned (.agg (lentC z).toArray) ∧ (∀ v, z v < 2305843009213693952) ∧ (∀ v, v < 7 → ∀ l, (bitR z v l ↔ Beh (genL ns) (handL ts ns) k (bitR x) v l)) ∧ Below w.heap.size w w' := by
  have hk61 : k < 61 := by have := (List.getElem?_eq_some_iff.mp hd).1; have := h.fl.gr.le; omega
  obtain ⟨hb, hz, h1, h2⟩ := two_new w (.cells (lentC x).toArray 74) (.cells #[.int .u64 0, .int .u64 0, .int .u64 0, .int .u64 0, .int .u64 0, .int .u64 0, .int .u64 0] 74)
  have hS : BS x w ((w.alloc (.cells (lentC x).toArray 74)).alloc (.cells #[.int .u64 0, .int .u64 0, .int .u64 0, .int .u64 0, .int .u64 0, .int .u64 0, .int .u64 0] 74)).drew := ⟨hb.drew, h1, _, h2, rfl⟩
  have HL := Lib.hid h
  have HD := Lib.hid hD
  have HA := Lib.hid hA
  have HDK := Lib.hid hd
  have HTAB := Lib.hid hTab
  have HX := Lib.hid hx
  clear h hD hA hd hTab hx hb hz h1 h2
  go_enter Tryz.func90, Tryz.ntmps90
  go_wp2_with fail
  refine wp_region_held_drew (S := fun w' => BS x w w') (by kernel_rfl) hS (fun hHeld => ?_)
  clear hS
  generalize World.drew _ = wd at *
  refine wpAnyH_take (i := 0) (oi := { dst := some 7, op := Op.move (Operand.tmp 0), type := 64, pos := "l4_loans.go:117", after := #[], guard := none }) (v := .pointer (some ⟨L, 0, none⟩)) rfl (by kernel_rfl) (by kernel_rfl) (by kernel_rfl) (fun _ _ _ h => h) (Or.inl ⟨by rfl, fun w hSw => by go_simp⟩) hHeld ?_
  try simp only [Act.put, List.setIfInBounds_toArray, List.set_cons_zero, List.set_cons_succ]
  refine wpAnyH_take (i := 1) (oi := { dst := some 8, op := Op.move (Operand.tmp 1), type := 3, pos := "l4_loans.go:117", after := #[], guard := none }) (v := .int .i64 (k : Int)) rfl (by kernel_rfl) (by kernel_rfl) (by kernel_rfl) (fun _ _ _ h => h) (Or.inl ⟨by rfl, fun w hSw => by go_simp⟩) hHeld ?_
  try simp only [Act.put, List.setIfInBounds_toArray, List.set_cons_zero, List.set_cons_succ]
  refine wpAnyH_take (i := 2) (oi := { dst := some 9, op := Op.fieldAddr 74 (Operand.tmp 5) 0, type := 0, pos := "l4_loans.go:117", after := #[], guard := none }) (v := .pointer (some ⟨w.heap.size, 0, none⟩)) rfl (by kernel_rfl) (by kernel_rfl) (by kernel_rfl) (fun _ _ _ h => h) (Or.inl ⟨by rfl, fun w hSw => by go_simp⟩) hHeld ?_
  try simp only [Act.put, List.setIfInBounds_toArray, List.set_cons_zero, List.set_cons_succ]
  refine wpAnyH_take (i := 3) (oi := { dst := some 10, op := Op.load 71 (Operand.tmp 9), type := 71, pos := "l4_loans.go:117", after := #[{ on := 2, ground := Ground.data }], guard := none }) (v := .agg (perC x).toArray) rfl (by kernel_rfl) (by kernel_rfl) (by kernel_rfl) (fun _ _ _ h => h) (yieldsIf_load_mid (by rfl) _ _ rfl w.heap.size 0 rfl (perC x) _ (fun w' h => flowLent.row7_range h.a) Tryz.underlying71 rfl (by kernel_rfl)) hHeld ?_
  try simp only [Act.put, List.setIfInBounds_toArray, List.set_cons_zero, List.set_cons_succ]
  refine wpAnyH_take (i := 5) (oi := { dst := some 12, op := Op.move (Operand.tmp 0), type := 64, pos := "l4_loans.go:117", after := #[], guard := none }) (v := .pointer (some ⟨L, 0, none⟩)) rfl (by kernel_rfl) (by kernel_rfl) (by kernel_rfl) (fun _ _ _ h => h) (Or.inl ⟨by rfl, fun w hSw => by go_simp⟩) hHeld ?_
  try simp only [Act.put, List.setIfInBounds_toArray, List.set_cons_zero, List.set_cons_succ]
  refine wpAnyH_take (i := 6) (oi := { dst := some 13, op := Op.move (Operand.tmp 1), type := 3, pos := "l4_loans.go:117", after := #[], guard := none }) (v := .int .i64 (k : Int)) rfl (by kernel_rfl) (by kernel_rfl) (by kernel_rfl) (fun _ _ _ h => h) (Or.inl ⟨by rfl, fun w hSw => by go_simp⟩) hHeld ?_
  try simp only [Act.put, List.setIfInBounds_toArray, List.set_cons_zero, List.set_cons_succ]
  refine wpAnyH_take (i := 7) (oi := { dst := some 14, op := Op.fieldAddr 74 (Operand.tmp 5) 1, type := 0, pos := "l4_loans.go:117", after := #[], guard := none }) (v := .pointer (some ⟨w.heap.size, 6, none⟩)) rfl (by kernel_rfl) (by kernel_rfl) (by kernel_rfl) (fun _ _ _ h => h) (Or.inl ⟨by rfl, fun w hSw => by go_simp⟩) hHeld ?_
  try simp only [Act.put, List.setIfInBounds_toArray, List.set_cons_zero, List.set_cons_succ]
  refine wpAnyH_take (i := 8) (oi := { dst := some 15, op := Op.load 69 (Operand.tmp 14), type := 69, pos := "l4_loans.go:117", after := #[{ on := 7, ground := Ground.data }], guard := none }) (v := .int .u64 (x 6 : Int)) rfl (by kernel_rfl) (by kernel_rfl) (by kernel_rfl) (fun _ _ _ h => h) (Or.inl ⟨by rfl, fun w9 hSw => by have h9 := (cell_of_block hSw.a 6).trans (flowLent.lentC6 x); go_simp⟩) hHeld ?_
  try simp only [Act.put, List.setIfInBounds_toArray, List.set_cons_zero, List.set_cons_succ]
  refine wpAnyH_ready (rs := [4]) (by kernel_rfl) (by simp) ?_
  refine AllReadyH.cons (o := { dst := some 11, op := Op.call { callee := Callee.value (Operand.func 122), args := #[Operand.tmp 7, Operand.tmp 8, Operand.tmp 10], argTypes := #[64, 3, 71] }, type := 71, pos := "l4_loans.go:117", after := #[{ on := 0, ground := Ground.data }, { on := 1, ground := Ground.data }, { on := 3, ground := Ground.data }], guard := none }) rfl (fun K hK => ?_) AllReadyH.nil
  go_simp
  refine (loansBehind_any ts ns q C F hi A c ah bk L mb lv k x d _ (HL.out.keep hHeld.below) HD.out HA.out HDK.out (tab_below HTAB.out hg hHeld.below) (by have := hHeld.below.size; omega) HX.out).mono ?_
  rintro E wq ⟨rfl, hbq⟩
  refine hK.out _ _ (hHeld.keep hbq) (fun hHeld => ?_)
  clear hK K hbq
  refine wpAnyH_ready (rs := [9]) (by kernel_rfl) (by simp) ?_
  refine AllReadyH.cons (o := { dst := some 16, op := Op.call { callee := Callee.value (Operand.func 123), args := #[Operand.tmp 12, Operand.tmp 13, Operand.tmp 15], argTypes := #[64, 3, 69] }, type := 69, pos := "l4_loans.go:117", after := #[{ on := 5, ground := Ground.data }, { on := 6, ground := Ground.data }, { on := 8, ground := Ground.data }, { on := 4, ground := Ground.chain }], guard := none }) rfl (fun K hK => ?_) AllReadyH.nil
  go_simp
  refine (placedBehind_any ts ns q C F hi A c ah bk L mb lv k (x 6) d _ (HL.out.keep hHeld.below) HD.out HA.out HDK.out (tab_below HTAB.out hg hHeld.below) (by have := hHeld.below.size; omega) (HX.out 6)).mono ?_
  rintro E wq ⟨zp, rfl, hzp, hzb, hbq⟩
  have HZP := Lib.hid hzp
  have HZB := Lib.hid hzb
  refine hK.out _ _ (hHeld.keep hbq) (fun hHeld => ?_)
  clear hK K hbq hzp hzb
  refine wpAnyH_take (i := 10) (oi := { dst := some 17, op := Op.build 74 #[(0, Operand.tmp 11), (1, Operand.tmp 16)], type := 74, pos := "l4_loans.go:117", after := #[{ on := 4, ground := Ground.data }, { on := 9, ground := Ground.data }], guard := none }) (v := .agg (lentC (fun v => if v = 6 then zp else lentZ ts d k x v)).toArray) rfl (by kernel_rfl) (by kernel_rfl) (by kernel_rfl) (fun _ _ _ h => h) (Or.inl ⟨by rfl, fun w9 hSw => by have h9 := flowLent.build_lent (fun v => if v = 6 then zp else lentZ ts d k x v) w9; simpa [go_sem, perC] using h9⟩) hHeld ?_
  try simp only [Act.put, List.setIfInBounds_toArray, List.set_cons_zero, List.set_cons_succ]
  refine wpAnyH_ready (rs := [11]) (by kernel_rfl) (by simp) ?_
  refine AllReadyH.cons (o := { dst := none, op := Op.store 74 (Operand.tmp 6) (Operand.tmp 17), type := 0, pos := "l4_loans.go:117", after := #[{ on := 10, ground := Ground.data }, { on := 9, ground := Ground.chain }, { on := 0, ground := Ground.phase }, { on := 1, ground := Ground.phase }, { on := 2, ground := Ground.phase }, { on := 3, ground := Ground.phase }, { on := 4, ground := Ground.phase }, { on := 5, ground := Ground.phase }, { on := 6, ground := Ground.phase }, { on := 7, ground := Ground.phase }, { on := 8, ground := Ground.phase }, { on := 9, ground := Ground.phase }, { on := 10, ground := Ground.phase }], guard := none }) rfl (fun K hK => ?_) AllReadyH.nil
  rw [if_pos (by rfl)]
  refine wp_store_mid _ _ _ rfl (w.heap.size + 1) 0 (lentC (fun v => if v = 6 then zp else lentZ ts d k x v)).toArray rfl rfl (flowLent.row7_there hHeld.r) (by kernel_rfl) (lentC_one _) ?_
  simp only [Act.put]
  have hfin := Lib.hid (flowLent.row7_set (fun v => if v = 6 then zp else lentZ ts d k x v) hHeld.r)
  refine hK.out _ _ (hHeld.put _) (fun hHeld => ?_)
  clear hK K
  refine wpAnyH_done (by kernel_rfl) ?_ _
  go_wp2_with fail
  refine bodyPost_ret (v := .agg (lentC (fun v => if v = 6 then zp else lentZ ts d k x v)).toArray) ?_ rfl ⟨(fun v => if v = 6 then zp else lentZ ts d k x v), rfl, ?_, ?_, hHeld.below⟩
  · exact results_cell rfl Tryz.prog _ _ (w.heap.size + 1) _ rfl (load_lent hfin.out rfl)
  · intro v
    show (if v = 6 then zp else lentZ ts d k x v) < _
    split
    · exact HZP.out
    · exact lentZ_lt hk61 HX.out v
  · intro v hv l
    show (if v = 6 then zp else lentZ ts d k x v).testBit l = true ↔ _
    by_cases h6 : v = 6
    · subst h6
      rw [if_pos rfl, HZB.out l]
      exact placed_iff HDK.out l
    · rw [if_neg h6]
      exact lentZ_iff HDK.out (effD_ok HA.out.1 (HA.out.2 k d HDK.out)) (by omega) l

end Go.Proofs.YtidjphifgemicaaGreatDoor
