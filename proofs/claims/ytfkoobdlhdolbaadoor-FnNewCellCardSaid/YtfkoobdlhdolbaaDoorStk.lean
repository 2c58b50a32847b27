/-
  Persistent stacks of tags: how they lie in memory, and what is made of them.
-/
import Derived.Test.YtfkoobdlhdolbaaDoorCelC0
import Derived.Test.YtfkoobdlhdolbaaDoorCelA
import Derived.Deep.RegionHeld3
import Derived.Deep.QuietTactic
import Derived.BigQuiet
import Derived.WalkSmall
import Derived.IntWalk
import Derived.LaidEqlPtr
namespace Go.Proofs.YtfkoobdlhdolbaaDoor
open Go.RowKit Go.Deep
set_option linter.unusedVariables false

/-- A stack lies at a pointer, from the top on, each part in a block below that of the one above. -/
def Stk (w : World) : Nat → List TagD → Option Addr → Prop
  | _, [], p => p = none
  | hi, t :: ts, p => ∃ g pb, p = some ⟨g, 0, none⟩ ∧ g < hi ∧ w.heap[g]? = some (.cells #[.int .i64 t.id, .bool t.u, .pointer pb, .int .i64 ((ts.length + 1 : Nat) : Int)] 119 (0, 0)) ∧ Stk w g ts pb

theorem Stk.keep {w w' : World} {B : Nat} (hb : ∀ k, k < B → w'.heap[k]? = w.heap[k]?) : ∀ (ts : List TagD) (hi : Nat) (p : Option Addr), hi ≤ B → Stk w hi ts p → Stk w' hi ts p
  | [], _, _, _, h => h
  | t :: ts, hi, p, hB, ⟨g, pb, h1, h2, h3, h4⟩ => ⟨g, pb, h1, h2, (hb g (by omega)).trans h3, Stk.keep hb ts g pb (by omega) h4⟩

theorem Stk.below {w w' : World} {B hi : Nat} {ts : List TagD} {p : Option Addr} (h : Stk w hi ts p) (hb : Below B w w') (hB : hi ≤ B) : Stk w' hi ts p := Stk.keep (fun k hk => hb.block k hk) ts hi p hB h

theorem Stk.mono {w : World} {hi hi' : Nat} {ts : List TagD} {p : Option Addr} (h : Stk w hi ts p) (hh : hi ≤ hi') : Stk w hi' ts p := by
  cases ts with
  | nil => exact h
  | cons t ts =>
    obtain ⟨g, pb, h1, h2, h3, h4⟩ := h
    exact ⟨g, pb, h1, by omega, h3, h4⟩

/-- A stack lies at a pointer, and from some place on a part of it at another. -/
def Chain (w : World) (part : List TagD) (pp : Option Addr) : Nat → List TagD → Option Addr → Prop
  | hi, [], p => p = pp ∧ Stk w hi part pp
  | hi, t :: ts, p => ∃ g pb, p = some ⟨g, 0, none⟩ ∧ g < hi ∧ w.heap[g]? = some (.cells #[.int .i64 t.id, .bool t.u, .pointer pb, .int .i64 (((ts ++ part).length + 1 : Nat) : Int)] 119 (0, 0)) ∧ Chain w part pp g ts pb

theorem Chain.stk {w : World} {part : List TagD} {pp : Option Addr} : ∀ {A : List TagD} {hi : Nat} {p : Option Addr}, Chain w part pp hi A p → Stk w hi (A ++ part) p
  | [], hi, p, h => by
    obtain ⟨rfl, h⟩ := h
    exact h
  | t :: A, hi, p, ⟨g, pb, h1, h2, h3, h4⟩ => ⟨g, pb, h1, h2, h3, Chain.stk h4⟩

theorem Chain.keep {w w' : World} {part : List TagD} {pp : Option Addr} {B : Nat} (hb : ∀ k, k < B → w'.heap[k]? = w.heap[k]?) : ∀ (A : List TagD) (hi : Nat) (p : Option Addr), hi ≤ B → Chain w part pp hi A p → Chain w' part pp hi A p
  | [], hi, p, hB, ⟨h1, h2⟩ => ⟨h1, Stk.keep hb part hi pp hB h2⟩
  | t :: A, hi, p, hB, ⟨g, pb, h1, h2, h3, h4⟩ => ⟨g, pb, h1, h2, (hb g (by omega)).trans h3, Chain.keep hb A g pb (by omega) h4⟩

theorem Chain.part {w : World} {part : List TagD} {pp : Option Addr} : ∀ {A : List TagD} {hi : Nat} {p : Option Addr}, Chain w part pp hi A p → Stk w hi part pp
  | [], hi, p, h => h.2
  | t :: A, hi, p, ⟨g, pb, h1, h2, h3, h4⟩ => (Chain.part h4).mono (by omega)

theorem Chain.snoc {w : World} {t : TagD} {part : List TagD} {pp pb : Option Addr} {g : Nat} (hp : pp = some ⟨g, 0, none⟩) (hc : w.heap[g]? = some (.cells #[.int .i64 t.id, .bool t.u, .pointer pb, .int .i64 ((part.length + 1 : Nat) : Int)] 119 (0, 0))) (hst : Stk w g part pb) :
    ∀ {A : List TagD} {hi : Nat} {p : Option Addr}, Chain w (t :: part) pp hi A p → Chain w part pb hi (A ++ [t]) p
  | [], hi, p, ⟨h1, h2⟩ => by
    obtain ⟨g', pb', e1, e2, _, _⟩ := h2
    rw [hp] at e1
    injection e1 with e1
    injection e1 with e1
    subst e1
    exact ⟨g, pb, h1.trans hp, e2, hc, rfl, hst⟩
  | x :: A, hi, p, ⟨g', pb', h1, h2, h3, h4⟩ => by
    have e : ((A.append [t]) ++ part).length = (A ++ t :: part).length := by simp
    refine ⟨g', pb', h1, h2, ?_, Chain.snoc hp hc hst h4⟩
    rw [e]
    exact h3

theorem Stk.inj {w : World} : ∀ {ts ts' : List TagD} {hi hi' : Nat} {p : Option Addr}, Stk w hi ts p → Stk w hi' ts' p → ts = ts'
  | [], [], _, _, _, _, _ => rfl
  | [], t :: ts, _, _, p, h, ⟨g, pb, h1, _⟩ => by
    have : p = none := h
    rw [this] at h1
    cases h1
  | t :: ts, [], _, _, p, ⟨g, pb, h1, _⟩, h => by
    have : p = none := h
    rw [this] at h1
    cases h1
  | t :: ts, t' :: ts', _, _, p, ⟨g, pb, h1, h2, h3, h4⟩, ⟨g', pb', k1, k2, k3, k4⟩ => by
    subst h1
    injection k1 with k1
    injection k1 with k1
    subst k1
    rw [h3] at k3
    injection k3 with k3
    injection k3 with k3 _ _
    have k3' := congrArg Array.toList k3
    simp only [List.cons.injEq, Value.int.injEq, Value.bool.injEq, Value.pointer.injEq, true_and, and_true] at k3'
    obtain ⟨e1, e2, e3, _⟩ := k3'
    subst e3
    obtain ⟨i, u⟩ := t
    obtain ⟨i', u'⟩ := t'
    simp only at e1 e2
    subst e1 e2
    rw [Stk.inj h4 k4]

theorem size_any (w : World) (hi : Nat) (ts : List TagD) (p : Option Addr) (h : Stk w hi ts p) :
    Calls Tryd.prog 94 #[.pointer p] w fun e w' => e = .returned (.int .i64 (ts.length : Int)) ∧ w = w' := by
  cases ts with
  | nil =>
    have hp : p = none := h
    subst hp
    go_enter Tryd.func94, Tryd.ntmps94
    go_wp2_with fail
    go_ret
    exact ⟨rfl, rfl⟩
  | cons t ts =>
    obtain ⟨g, pb, rfl, hg, hc, -⟩ := h
    have c3 : w.cell? ⟨g, 3, none⟩ = some (.int .i64 ((ts.length + 1 : Nat) : Int)) := (cell_of_block hc 3).trans rfl
    clear hc
    obtain ⟨n, hn⟩ : ∃ n, n = (t :: ts).length := ⟨_, rfl⟩
    have hn' : ts.length + 1 = n := by rw [hn]; rfl
    rw [hn'] at c3
    rw [← hn]
    clear hn hn'
    go_enter Tryd.func94, Tryd.ntmps94
    go_wp2_with fail
    go_ret
    exact ⟨rfl, rfl⟩

/-- What a push answers. -/
def PushPost (ts : List TagD) (w : World) (E : Ending) (w' : World) : Prop := ∃ g, E = .returned (.pointer (some ⟨g, 0, none⟩)) ∧ w.heap.size ≤ g ∧ Stk w' w'.heap.size ts (some ⟨g, 0, none⟩) ∧ Below w.heap.size w w'

theorem held_box {K : Nat} {w1 wo w' : World} {p1 p2 : Addr} {u1 u2 : Value} (hb : Below wo.heap.size wo w') (h : Below K w1 wo) (hK : K = w1.heap.size) (l1 : p1.block < K) (l2 : p2.block < K) (q1 : w1.cell? p1 = some u1) (q2 : w1.cell? p2 = some u2) :
    Below K w1 w' ∧ w'.cell? p1 = some u1 ∧ w'.cell? p2 = some u2 := by
  subst hK
  have hbb : Below w1.heap.size w1 w' := h.trans (hb.mono h.size)
  exact ⟨hbb, (hbb.cell l1).trans q1, (hbb.cell l2).trans q2⟩

set_option maxRecDepth 100000 in
set_option maxHeartbeats 4000000 in
theorem push_any (w : World) (hi : Nat) (ts : List TagD) (p : Option Addr) (id : Int) (u : Bool) (h : Stk w hi ts p) (hh : hi ≤ w.heap.size) (hl : ts.length ≤ 10000000) :
    Calls Tryd.prog 95 #[.pointer p, .agg #[.int .i64 id, .bool u]] w (PushPost (⟨id, u⟩ :: ts) w) := by
  have hbw := (Below.refl w.heap.size w).alloc (Nat.le_refl _) (.cells #[.int .i64 id, .bool u] 35)
  have hz : (w.alloc (.cells #[.int .i64 id, .bool u] 35)).heap.size = w.heap.size + 1 := by simp
  have hX := heap_alloc_new w (.cells #[.int .i64 id, .bool u] 35)
  obtain ⟨n, hn⟩ : ∃ n, n = ts.length := ⟨_, rfl⟩
  have hw1 : IntKind.i64.wrap ((n : Int) + 1) = (n : Int) + 1 := IntWalk.i64_in _ (by omega)
  have HN := Lib.hid hn
  have HT := Lib.hid (h.below hbw hh)
  have HH := Lib.hid hh
  have HL := Lib.hid hl
  have HZ := Lib.hid hz
  have HX := Lib.hid hX
  have HBW := Lib.hid hbw
  clear h hh hl hbw hz hX hn
  go_enter Tryd.func95, Tryd.ntmps95
  go_wp2_with fail
  have y0 : (w.alloc (.cells #[.int .i64 id, .bool u] 35)).cell? ⟨w.heap.size, 0, none⟩ = some (.int .i64 id) := (cell_of_block HX.out 0).trans rfl
  have y1 : (w.alloc (.cells #[.int .i64 id, .bool u] 35)).cell? ⟨w.heap.size, 1, none⟩ = some (.bool u) := (cell_of_block HX.out 1).trans rfl
  have hlt : w.heap.size < (w.alloc (.cells #[.int .i64 id, .bool u] 35)).heap.size := by rw [HZ.out]; omega
  obtain ⟨W1, hW1⟩ : ∃ W1, w.alloc (.cells #[.int .i64 id, .bool u] 35) = W1 := ⟨_, rfl⟩
  rw [hW1] at HT HZ HX HBW y0 y1 hlt ⊢
  clear hW1
  go_region_held3 (fun w' => Below W1.heap.size W1 w' ∧ w'.cell? ⟨w.heap.size, 0, none⟩ = some (.int .i64 id) ∧ w'.cell? ⟨w.heap.size, 1, none⟩ = some (.bool u))
    (first | exact ⟨(Below.refl W1.heap.size W1).drew, y0, y1⟩ | exact held_box (Below.refl _ _) (And.left ‹Below W1.heap.size W1 _ ∧ _›) rfl hlt hlt y0 y1 | exact held_box ((Below.refl _ _).alloc (Nat.le_refl _) _) (And.left ‹Below W1.heap.size W1 _ ∧ _›) rfl hlt hlt y0 y1)
    ((go_at_call 94; refine (size_any _ hi ts p ?_).mono ?_; (have hbx := And.left ‹Below W1.heap.size W1 _ ∧ _›; exact HT.out.below hbx (by have := HH.out; omega)); rintro E w' ⟨rfl, rfl⟩; rw [← HN.out]))
  have hst : Hid (Stk (W1.alloc (.cells #[.int .i64 id, .bool u, .pointer p, .int .i64 ((n : Int) + 1)] 119)).drew (W1.alloc (.cells #[.int .i64 id, .bool u, .pointer p, .int .i64 ((n : Int) + 1)] 119)).drew.heap.size (⟨id, u⟩ :: ts) (some ⟨W1.heap.size, 0, none⟩)) := by
    refine ⟨W1.heap.size, p, rfl, by simp, ?_, (HT.out.below (((Below.refl W1.heap.size W1).alloc (Nat.le_refl _) _).drew) (by have := HH.out; omega)).mono (by have := HH.out; omega)⟩
    rw [HN.out]
    exact heap_alloc_new W1 _
  have hbf : Below w.heap.size w (W1.alloc (.cells #[.int .i64 id, .bool u, .pointer p, .int .i64 ((n : Int) + 1)] 119)).drew := (HBW.out.alloc (by omega) _).drew
  clear ‹Below W1.heap.size W1 _ ∧ _› y0 y1
  go_wp2_with fail
  go_ret
  exact ⟨_, rfl, by omega, hst.out, hbf⟩

set_option maxRecDepth 100000 in
set_option maxHeartbeats 4000000 in
theorem stackOf_any (ts : List TagD) (A : Option Addr) (q c : Nat) (w : World) (h : RdT w (.slice A q c) ts) (hl : q ≤ 1048600) :
    Calls Tryd.prog 85 #[.slice A q c] w fun E w' => ∃ p, E = .returned (.pointer p) ∧ Stk w' w'.heap.size ts.reverse p ∧ Below w.heap.size w w' := by
  obtain ⟨hq, hc1, hc2⟩ := h.len
  unfold maxLen at hc2
  have HN := Lib.hid hq
  have H := Lib.hid h
  clear hq h
  go_enter Tryd.func85, Tryd.ntmps85
  go_wp2_with fail
  go_loopw [3, 8] (fun s i wr => ∃ (k : Nat) (p : Option Addr), i = .int .i64 k ∧ k ≤ q ∧ s = .pointer p ∧ Hid (Stk wr wr.heap.size (ts.take k).reverse p) ∧ Below w.heap.size w wr) (fun _ i _ => q - (intOf i).toNat)
  case atStart => exact ⟨0, none, rfl, Nat.zero_le _, rfl, rfl, Below.refl _ _⟩
  case round =>
    obtain ⟨k, p, rfl, hk, rfl, HS, hb⟩ := hrel
    have hbz := hb.size
    by_cases hlt : k < q
    · obtain ⟨b, id, u, rfl, hbb, hd, a0, a1⟩ := (H.out.below hb).elem (k := k) (by rw [← HN.out]; exact hlt)
      have hbo : Below wr.heap.size wr (wr.alloc (.cells #[.int .i64 id, .bool u] 35)) := (Below.refl _ _).alloc (Nat.le_refl _) _
      have hln : ((ts.take k).reverse).length ≤ 10000000 := by rw [List.length_reverse, List.length_take]; omega
      have hP := push_any _ wr.heap.size _ p id u (HS.out.below hbo (Nat.le_refl _)) (by simp) hln
      have HP := Lib.hid hP
      have HS2 : Hid (⟨id, u⟩ :: (ts.take k).reverse = (ts.take (k + 1)).reverse) := by
        show _ = _
        rw [take_snoc hd, List.reverse_append]
        rfl
      have hbo2 := hb.trans (hbo.mono hbz)
      clear hd hP hln HS
      go_wp2_with fail
      refine HP.out.mono ?_
      rintro E w1 ⟨g, rfl, hg, hst, hb1⟩
      rw [HS2.out] at hst
      have HST := Lib.hid hst
      have hbf := hbo2.trans (hb1.mono hbo2.size)
      clear hst hb1 hbo hbo2 hg
      go_wp2_with fail
      go_roundw
      case rel => exact ⟨k + 1, _, by go_num, by omega, rfl, HST, hbf⟩
      case measure => simp [intOf]; omega
    · have hk' : k = q := by omega
      subst hk'
      have e1 : ts.take k = ts := by rw [HN.out, List.take_length]
      have HF := Lib.hid (show Stk wr wr.heap.size ts.reverse p by have := HS.out; rwa [e1] at this)
      clear e1
      go_wp2_with fail
      go_ret
      exact ⟨p, rfl, HF.out, hb⟩

/-- The part of a stack from the top tag with this number on. -/
def upT (id : Int) : List TagD → List TagD
  | [] => []
  | t :: ts => if t.id = id then t :: ts else upT id ts

/-- What the search for a tag answers. -/
def UpPost (w : World) (hi : Nat) (ts : List TagD) (p : Option Addr) (id : Int) (E : Ending) (w' : World) : Prop := ∃ p' A, E = .returned (.pointer p') ∧ ts = A ++ upT id ts ∧ Chain w (upT id ts) p' hi A p ∧ w = w'

set_option maxRecDepth 100000 in
set_option maxHeartbeats 4000000 in
theorem upTo_any (w : World) (hi : Nat) (ts : List TagD) (p : Option Addr) (id : Int) (h : Stk w hi ts p) :
    Calls Tryd.prog 98 #[.pointer p, .int .i64 id] w (UpPost w hi ts p id) := by
  have H := Lib.hid h
  clear h
  go_enter Tryd.func98, Tryd.ntmps98
  go_wp2_with fail
  go_loop [0] (fun s => ∃ (xs ys : List TagD) (q : Option Addr) (hx : Nat), s = .pointer q ∧ Hid (Stk w hx xs q ∧ hx ≤ hi) ∧ Hid (upT id xs = upT id ts) ∧ Hid (ts = ys ++ xs ∧ Chain w xs q hi ys p)) (fun s => match s with | .pointer (some a) => a.block + 1 | _ => 0)
  case atStart => exact ⟨ts, [], p, hi, rfl, ⟨H, Nat.le_refl _⟩, rfl, rfl, rfl, H⟩
  case round =>
    clear H
    obtain ⟨xs, ys, q, hx, rfl, HS, HU, HC⟩ := hrel
    cases xs with
    | nil =>
      have hp : q = none := HS.out.1
      subst hp
      have HF : Hid (ts = ys ++ upT id ts ∧ Chain w (upT id ts) none hi ys p) := by
        show ts = ys ++ upT id ts ∧ Chain w (upT id ts) none hi ys p
        rw [← HU.out]
        exact HC.out
      go_wp2_with fail
      go_ret
      exact ⟨none, ys, rfl, HF.out.1, HF.out.2, rfl⟩
    | cons t xs =>
      obtain ⟨⟨g, pb, rfl, hg, hc, hst⟩, hxi⟩ := HS.out
      have c0 : w.cell? ⟨g, 0, none⟩ = some (.int .i64 t.id) := (cell_of_block hc 0).trans rfl
      have c2 : w.cell? ⟨g, 2, none⟩ = some (.pointer pb) := (cell_of_block hc 2).trans rfl
      by_cases he : t.id = id
      · have hup : upT id (t :: xs) = t :: xs := by
          unfold upT
          rw [if_pos he]
        have HF : Hid (ts = ys ++ upT id ts ∧ Chain w (upT id ts) (some ⟨g, 0, none⟩) hi ys p) := by
          show ts = ys ++ upT id ts ∧ Chain w (upT id ts) (some ⟨g, 0, none⟩) hi ys p
          rw [← HU.out, hup]
          exact HC.out
        have hne : (t.id != id) = false := by simp [he]
        clear hc hst he hup
        go_wp2_with fail
        go_ret
        exact ⟨_, ys, rfl, HF.out.1, HF.out.2, rfl⟩
      · have HU2 : Hid (upT id xs = upT id ts) := by
          show upT id xs = upT id ts
          rw [← HU.out]
          conv => rhs; unfold upT
          rw [if_neg he]
        have HS2 : Hid (Stk w g xs pb ∧ g ≤ hi) := ⟨hst, by omega⟩
        have HC2 : Hid (ts = (ys ++ [t]) ++ xs ∧ Chain w xs pb hi (ys ++ [t]) p) := ⟨by rw [List.append_assoc]; exact HC.out.1, Chain.snoc rfl hc hst HC.out.2⟩
        have hne : (t.id != id) = true := by simpa using he
        have hmeas : Hid (∀ a, pb = some a → a.block < g) := by
          intro a ha
          cases xs with
          | nil =>
            have : pb = none := hst
            rw [ha] at this
            cases this
          | cons t2 xs =>
            obtain ⟨g2, pb2, e, hlt, _⟩ := hst
            rw [ha] at e
            injection e with e
            subst e
            exact hlt
        clear hc hst he
        go_wp2_with fail
        go_round
        case rel => exact ⟨xs, ys ++ [t], pb, g, rfl, HS2, HU2, HC2⟩
        case measure =>
          cases pb with
          | none => simp
          | some a =>
            have := hmeas.out a rfl
            simp
            omega

end Go.Proofs.YtfkoobdlhdolbaaDoor
