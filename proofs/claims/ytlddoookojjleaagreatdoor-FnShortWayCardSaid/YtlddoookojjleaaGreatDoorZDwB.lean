/-
  Rows of statements that a call owns: their cells, and the lists under them, which a change of the row leaves alone.
  The model's parser: what lies at an offset of a text.
  The model's parser of statements: what it answers reads as statements, in new memory, no more than the text has room for.
  The model's parser of lists of statements.
  The model's parser of lists of statements, at every depth.
-/
import Derived.Test.YtlddoookojjleaaGreatDoorZDwA
import Derived.IntWalk
namespace Go.Proofs.YtlddoookojjleaaGreatDoor
open Go.RowKit Go.Deep
set_option linter.unusedVariables false

theorem flatS_len {α : Type} {f : α → List Value} {s : Nat} (hf : ∀ a, (f a).length = s) : ∀ l : List α, (l.flatMap f).length = l.length * s
  | [] => by simp
  | d :: l => by rw [List.flatMap_cons, List.length_append, flatS_len hf l, hf, List.length_cons, Nat.succ_mul, Nat.add_comm]

theorem flatS_get {α : Type} {f : α → List Value} {s : Nat} (hf : ∀ a, (f a).length = s) : ∀ (l : List α) (j i : Nat) (d : α), l[j]? = some d → i < s → (l.flatMap f)[j * s + i]? = (f d)[i]?
  | [], j, i, d, h, _ => by simp at h
  | e :: l, 0, i, d, h, hi => by
    simp only [List.getElem?_cons_zero, Option.some.injEq] at h
    subst h
    rw [List.flatMap_cons, Nat.zero_mul, Nat.zero_add, List.getElem?_append_left (by rw [hf]; exact hi)]
  | e :: l, j + 1, i, d, h, hi => by
    rw [List.getElem?_cons_succ] at h
    rw [List.flatMap_cons, List.getElem?_append_right (by rw [hf, Nat.succ_mul]; omega), hf, show (j + 1) * s + i - s = j * s + i from by rw [Nat.succ_mul]; omega]
    exact flatS_get hf l j i d h hi

/-- A statement in a row: its fields, the lists under it, and where they lie. -/
structure StR where
  op : Int
  x : Int
  y : Int
  n : Int
  t : Sts
  e : Sts
  At : Option Addr
  ct : Nat
  Ae : Option Addr
  ce : Nat

def StR.cells (r : StR) : List Value := [.int .i64 r.op, .int .i64 r.x, .int .i64 r.y, .int .i64 r.n, .slice r.At r.t.len r.ct, .slice r.Ae r.e.len r.ce]

theorem StR.cells_length (r : StR) : r.cells.length = 6 := rfl

/-- The list that a row reads as. -/
def ofR : List StR → Sts
  | [] => .nil
  | r :: rs => .cons r.op r.x r.y r.n r.t r.e (ofR rs)

theorem ofR_len : ∀ rs : List StR, (ofR rs).len = rs.length
  | [] => rfl
  | r :: rs => by show (ofR rs).len + 1 = _; rw [ofR_len rs]; rfl

/-- The statements of all levels. -/
def szR : List StR → Nat
  | [] => 0
  | r :: rs => 1 + r.t.size + r.e.size + szR rs

theorem ofR_size : ∀ rs : List StR, (ofR rs).size = szR rs
  | [] => rfl
  | r :: rs => by show 1 + r.t.size + r.e.size + (ofR rs).size = _; rw [ofR_size rs]; rfl

theorem szR_append : ∀ rs ss : List StR, szR (rs ++ ss) = szR rs + szR ss
  | [], ss => by simp [szR]
  | r :: rs, ss => by rw [List.cons_append]; simp only [szR]; rw [szR_append rs ss]; omega

theorem szR_one (r : StR) : szR [r] = 1 + r.t.size + r.e.size := by simp [szR]

theorem len_le_szR : ∀ rs : List StR, rs.length ≤ szR rs
  | [] => Nat.le_refl _
  | r :: rs => by have := len_le_szR rs; simp only [szR, List.length_cons]; omega

theorem szR_mem : ∀ {rs : List StR} {r : StR}, r ∈ rs → 1 + r.t.size + r.e.size ≤ szR rs
  | q :: rs, r, h => by
    rcases List.mem_cons.1 h with rfl | h
    · simp only [szR]; omega
    · have := szR_mem h; simp only [szR]; omega

/-- A list that reads so, whatever becomes of one block. -/
def Firm (w : World) (lo : Nat) (g : Option Nat) (A : Option Addr) (c : Nat) (s : Sts) : Prop :=
  ∀ w' : World, (∀ k, lo ≤ k → k < w.heap.size → g ≠ some k → w'.heap[k]? = w.heap[k]?) → RepV w' lo w.heap.size s A c

theorem Firm.rep {w : World} {lo : Nat} {g : Option Nat} {A : Option Addr} {c : Nat} {s : Sts} (h : Firm w lo g A c s) : RepV w lo w.heap.size s A c := h w fun _ _ _ _ => rfl

theorem Firm.nil (w : World) (lo : Nat) (g : Option Nat) : Firm w lo g none 0 .nil := fun w' _ => ⟨Nat.le_refl _, by simp [maxLen], fun h => absurd h (by simp [Sts.len])⟩

theorem Firm.of_rep {w : World} {lo : Nat} {g : Option Nat} {A : Option Addr} {c : Nat} {s : Sts} (h : RepV w lo w.heap.size s A c) (hg : ∀ k, g = some k → k < lo ∨ w.heap.size ≤ k) : Firm w lo g A c s :=
  fun w' hk => h.keep (Nat.le_refl _) (Nat.le_refl _) fun p h1 h2 => World.cell?_of_block (hk p.block h1 h2 fun e => by have := hg _ e; omega)

theorem Firm.move {w w1 : World} {lo : Nat} {g g1 : Option Nat} {A : Option Addr} {c : Nat} {s : Sts} (h : Firm w lo g A c s) (hs : w.heap.size ≤ w1.heap.size) (hk : ∀ k, lo ≤ k → k < w.heap.size → g ≠ some k → w1.heap[k]? = w.heap[k]?)
    (hg : g1 = g ∨ ∀ k, g1 = some k → w.heap.size ≤ k) : Firm w1 lo g1 A c s := fun w' h' =>
  (h w' fun k hk0 hk1 hk2 => (h' k hk0 (by omega) (by
    rcases hg with rfl | hg
    · exact hk2
    · intro e; have := hg k e; omega)).trans (hk k hk0 hk1 hk2)).keep (Nat.le_refl _) hs fun _ _ _ => rfl

theorem Firm.wide {w : World} {lo lo' : Nat} {g : Option Nat} {A : Option Addr} {c : Nat} {s : Sts} (h : Firm w lo g A c s) (hl : lo' ≤ lo) : Firm w lo' g A c s := fun w' h' => (h w' fun k h1 h2 h3 => h' k (by omega) h2 h3).keep hl (Nat.le_refl _) fun _ _ _ => rfl

theorem RepV.mono {w : World} {lo lo' hi hi' : Nat} {A : Option Addr} {c : Nat} {s : Sts} (h : RepV w lo hi s A c) (hl : lo' ≤ lo) (hh : hi ≤ hi') : RepV w lo' hi' s A c := h.keep hl hh fun _ _ _ => rfl

/-- A value is a row of statements that the call owns, in blocks from B on. -/
structure RowS (w : World) (B : Nat) (v : Value) (rs : List StR) : Prop where
  own : w.ownsRow B 86 6 v rs.length (rs.flatMap StR.cells)
  firm : ∀ r ∈ rs, Firm w B v.ownBlock r.At r.ct r.t ∧ Firm w B v.ownBlock r.Ae r.ce r.e

theorem RowS.nil0 (w : World) (B : Nat) : RowS w B (.slice none 0 0) [] := ⟨World.ownsRow_nil w B _ 6, fun r h => by simp at h⟩

theorem RowS.lit0 (w : World) (B : Nat) (hB : B ≤ w.heap.size) : RowS (w.alloc (.cells #[] 86)) B (.slice (some ⟨w.heap.size, 0, none⟩) 0 0) [] :=
  ⟨World.ownsRow_lit (base := B) (e := 86) (size := 6) w #[] 0 hB (by simp [maxLen]) rfl, fun r h => by simp at h⟩

theorem RowS.form {w : World} {B : Nat} {v : Value} {rs : List StR} (h : RowS w B v rs) : ∃ A c, v = .slice A rs.length c ∧ rs.length ≤ c ∧ c ≤ maxLen ∧ (0 < rs.length → ∃ g, A = some ⟨g, 0, none⟩ ∧ B ≤ g ∧ g < w.heap.size) := own_form h.own

theorem RowS.kept {w w' : World} {B : Nat} {v : Value} {rs : List StR} (h : RowS w B v rs) (hs : w.heap.size ≤ w'.heap.size) (hk : ∀ k, B ≤ k → k < w.heap.size → w'.heap[k]? = w.heap[k]?) : RowS w' B v rs :=
  ⟨own_keep h.own fun g hg => hk g (h.own.lt g hg).1 (h.own.lt g hg).2, fun r hr =>
    ⟨(h.firm r hr).1.move hs (fun k h1 h2 _ => hk k h1 h2) (.inl rfl), (h.firm r hr).2.move hs (fun k h1 h2 _ => hk k h1 h2) (.inl rfl)⟩⟩

theorem RowS.below {w w' : World} {B : Nat} {v : Value} {rs : List StR} (h : RowS w B v rs) (hb : Below w.heap.size w w') : RowS w' B v rs := h.kept hb.size fun k _ hk => hb.block k hk

theorem RowS.but {w w' : World} {B R : Nat} {v : Value} {rs : List StR} (h : RowS w B v rs) (hb : But R w w') (hR : R < B) : RowS w' B v rs := h.kept hb.size fun k h1 hk => hb.block k hk (by omega)

theorem RowS.mono {w : World} {B B' : Nat} {v : Value} {rs : List StR} (h : RowS w B v rs) (hb : B' ≤ B) : RowS w B' v rs := ⟨own_mono h.own hb, fun r hr => ⟨(h.firm r hr).1.wide hb, (h.firm r hr).2.wide hb⟩⟩

/-- Statements more. -/
theorem RowS.more {w w' : World} {B g n cap : Nat} {v : Value} {rs ss : List StR} (h : RowS w B v rs) (hn : rs.length + ss.length = n)
    (hown : w'.ownsRow B 86 6 (.slice (some ⟨g, 0, none⟩) n cap) n (rs.flatMap StR.cells ++ ss.flatMap StR.cells)) (hg : w.grownBy w' v.ownBlock) (hat : v.ownBlock = some g ∨ g = w.heap.size)
    (hf : ∀ r ∈ ss, Firm w B v.ownBlock r.At r.ct r.t ∧ Firm w B v.ownBlock r.Ae r.ce r.e) : RowS w' B (.slice (some ⟨g, 0, none⟩) n cap) (rs ++ ss) := by
  subst hn
  refine ⟨by rw [List.length_append, List.flatMap_append]; exact hown, fun r hr => ?_⟩
  have hh : ∀ {A c s}, Firm w B v.ownBlock A c s → Firm w' B (Value.slice (some ⟨g, 0, none⟩) (rs.length + ss.length) cap).ownBlock A c s := fun {A c s} hf =>
    hf.move hg.size (fun k _ h2 h3 => hg.block k h2 (fun e => h3 e.symm)) (by
      rcases hat with e | e
      · exact .inl e.symm
      · exact .inr fun k hk => by
          have : g = k := by simpa [Value.ownBlock] using hk
          omega)
  rcases List.mem_append.1 hr with hr | hr
  · exact ⟨hh (h.firm r hr).1, hh (h.firm r hr).2⟩
  · exact ⟨hh (hf r hr).1, hh (hf r hr).2⟩

theorem RowS.snoc {w w' : World} {B g cap : Nat} {v : Value} {rs : List StR} {r : StR} (h : RowS w B v rs)
    (hown : w'.ownsRow B 86 6 (.slice (some ⟨g, 0, none⟩) (rs.length + 1) cap) (rs.length + 1) (rs.flatMap StR.cells ++ r.cells)) (hg : w.grownBy w' v.ownBlock) (hat : v.ownBlock = some g ∨ g = w.heap.size)
    (h1 : Firm w B v.ownBlock r.At r.ct r.t) (h2 : Firm w B v.ownBlock r.Ae r.ce r.e) : RowS w' B (.slice (some ⟨g, 0, none⟩) (rs.length + 1) cap) (rs ++ [r]) :=
  h.more (ss := [r]) rfl (by simpa using hown) hg hat fun q hq => by
    rw [List.mem_singleton] at hq
    subst hq
    exact ⟨h1, h2⟩

/-- A list of statements lies where the cells of its row do. -/
theorem rep_of_cells {w : World} {lo hi : Nat} : ∀ (rs : List StR) (a : Addr), (∀ j u, (rs.flatMap StR.cells)[j]? = some u → w.cell? (a.add j) = some u) → (∀ r ∈ rs, RepV w lo hi r.t r.At r.ct ∧ RepV w lo hi r.e r.Ae r.ce) → Rep w lo hi (ofR rs) a
  | [], _, _, _ => trivial
  | r :: rs, a, h, hn => by
    have hc : ∀ j u, r.cells[j]? = some u → w.cell? (a.add j) = some u := fun j u hj => h j u (by
      rw [List.flatMap_cons, List.getElem?_append_left (by rw [StR.cells_length]; exact (List.getElem?_eq_some_iff.1 hj).1)]
      exact hj)
    have h0 := hc 0 _ rfl
    have e0 : a.add 0 = a := by simp [Addr.add]
    rw [e0] at h0
    obtain ⟨⟨t1, t2, t3⟩, e1, e2, e3⟩ := hn r (List.mem_cons_self ..)
    refine ⟨⟨h0, hc 1 _ rfl, hc 2 _ rfl, hc 3 _ rfl⟩, ⟨_, _, hc 4 _ rfl, t1, t2, t3⟩, ⟨_, _, hc 5 _ rfl, e1, e2, e3⟩, rep_of_cells rs (a.add 6) (fun j u hj => ?_) (fun q hq => hn q (List.mem_cons_of_mem _ hq))⟩
    rw [add_add]
    refine h (6 + j) u ?_
    rw [List.flatMap_cons, List.getElem?_append_right (by rw [StR.cells_length]; omega), StR.cells_length, show 6 + j - 6 = j from by omega]
    exact hj

/-- A row reads as its list, in blocks from B on. -/
theorem RowS.rep {w : World} {B n c : Nat} {A : Option Addr} {rs : List StR} (h : RowS w B (.slice A n c) rs) : n = rs.length ∧ RepV w B w.heap.size (ofR rs) A c := by
  obtain ⟨A', c', hv, h1, h2, h3⟩ := h.form
  injection hv with e1 e2 e3
  subst e1 e2 e3
  refine ⟨rfl, by rw [ofR_len]; exact h1, h2, fun h0 => ?_⟩
  rw [ofR_len] at h0
  obtain ⟨g, rfl, hB, hg⟩ := h3 h0
  exact ⟨_, rfl, hB, hg, rep_of_cells rs _ (fun j u hj => World.ownsRow.cells h.own (g := g) rfl j u hj) fun r hr => ⟨(h.firm r hr).1.rep, (h.firm r hr).2.rep⟩⟩

end Go.Proofs.YtlddoookojjleaaGreatDoor

namespace Go.Proofs.YtlddoookojjleaaGreatDoor
open Go.RowKit Go.Deep
set_option linter.unusedVariables false

/-- A test whose being true puts a word inside a text. -/
def AtP (s : ByteArray) (a : Int) (k : Nat) (w : World) (E : Ending) (w' : World) : Prop := ∃ b : Bool, E = .returned (.bool b) ∧ (b = true → 0 ≤ a ∧ a + (k : Int) ≤ (s.size : Int)) ∧ w = w'

set_option maxRecDepth 100000 in
set_option maxHeartbeats 400000 in
theorem l1At_any (k0 : Nat) (s wd : ByteArray) (a : Int) (w : World) (hk : wd.size = k0) (hw : k0 ≤ 10) (hs : s.size ≤ 600) (ha : -10 ≤ a) (ha2 : a ≤ 800) :
    Calls Tryz.prog 60 #[.string s, .int .i64 a, .string wd] w (AtP s a k0 w) := by
  subst hk
  by_cases h0 : 0 ≤ a
  · obtain ⟨k, rfl⟩ : ∃ k : Nat, a = (k : Int) := ⟨a.toNat, by omega⟩
    by_cases h1 : k + wd.size ≤ s.size
    · have e0 : decide (0 ≤ (k : Int)) = true := decide_eq_true (by omega)
      have e1 : decide ((k : Int) + (wd.size : Int) ≤ (s.size : Int)) = true := decide_eq_true (by omega)
      have e2 : decide (k + wd.size ≤ s.size) = true := decide_eq_true (by omega)
      go_enter Tryz.func60, Tryz.ntmps60
      go_wp2_with fail
      go_ret
      exact ⟨_, rfl, fun _ => ⟨by omega, by omega⟩, rfl⟩
    · have e0 : decide (0 ≤ (k : Int)) = true := decide_eq_true (by omega)
      have e1 : decide ((k : Int) + (wd.size : Int) ≤ (s.size : Int)) = false := decide_eq_false (by omega)
      have e2 : decide (k + wd.size ≤ s.size) = false := decide_eq_false (by omega)
      go_enter Tryz.func60, Tryz.ntmps60
      go_wp2_with fail
      go_ret
      exact ⟨false, rfl, fun h => (Bool.noConfusion h), rfl⟩
  · have e0 : decide (0 ≤ a) = false := decide_eq_false h0
    go_enter Tryz.func60, Tryz.ntmps60
    go_wp2_with fail
    go_ret
    exact ⟨false, rfl, fun h => (Bool.noConfusion h), rfl⟩

/-- Some number. -/
def NumP (w : World) (E : Ending) (w' : World) : Prop := ∃ v : Int, E = .returned (.int .i64 v) ∧ w = w'

theorem byte_lt (s : ByteArray) (k : Nat) (h : k < s.size) : (s[k].toNat : Int) ≤ 255 ∧ (0 : Int) ≤ (s[k].toNat : Int) := by
  have := s[k].toNat_lt
  omega

set_option maxRecDepth 100000 in
set_option maxHeartbeats 400000 in
theorem l1Var_any (s : ByteArray) (a : Int) (w : World) (hs : s.size ≤ 600) (ha : -10 ≤ a) (ha2 : a ≤ 800) :
    Calls Tryz.prog 68 #[.string s, .int .i64 a] w (NumP w) := by
  by_cases h0 : a < 0
  · have e0 : decide (a < 0) = true := decide_eq_true h0
    go_enter Tryz.func68, Tryz.ntmps68
    go_wp2_with fail
    go_ret
    exact ⟨_, rfl, rfl⟩
  · obtain ⟨k, rfl⟩ : ∃ k : Nat, a = (k : Int) := ⟨a.toNat, by omega⟩
    have e0 : decide ((k : Int) < 0) = false := decide_eq_false (by omega)
    by_cases h1 : k < s.size
    · have e1 : decide ((s.size : Int) ≤ (k : Int)) = false := decide_eq_false (by omega)
      have e2 : decide (s.size ≤ k) = false := decide_eq_false (by omega)
      obtain ⟨hb1, hb2⟩ := byte_lt s k h1
      by_cases h2 : (s[k].toNat : Int) < 97
      · have e3 : decide ((s[k].toNat : Int) < 97) = true := decide_eq_true h2
        have e3' : decide (s[k].toNat < 97) = true := decide_eq_true (by omega)
        go_enter Tryz.func68, Tryz.ntmps68
        go_wp2_with fail
        go_ret
        exact ⟨_, rfl, rfl⟩
      · have e3 : decide ((s[k].toNat : Int) < 97) = false := decide_eq_false h2
        have e3' : decide (s[k].toNat < 97) = false := decide_eq_false (by omega)
        by_cases h3 : (122 : Int) < (s[k].toNat : Int)
        · have e4 : decide ((122 : Int) < (s[k].toNat : Int)) = true := decide_eq_true h3
          have e4' : decide (122 < s[k].toNat) = true := decide_eq_true (by omega)
          go_enter Tryz.func68, Tryz.ntmps68
          go_wp2_with fail
          go_ret
          exact ⟨_, rfl, rfl⟩
        · have e4 : decide ((122 : Int) < (s[k].toNat : Int)) = false := decide_eq_false h3
          have e4' : decide (122 < s[k].toNat) = false := decide_eq_false (by omega)
          go_enter Tryz.func68, Tryz.ntmps68
          go_wp2_with fail
          go_ret
          exact ⟨_, rfl, rfl⟩
    · have e1 : decide ((s.size : Int) ≤ (k : Int)) = true := decide_eq_true (by omega)
      have e2 : decide (s.size ≤ k) = true := decide_eq_true (by omega)
      go_enter Tryz.func68, Tryz.ntmps68
      go_wp2_with fail
      go_ret
      exact ⟨_, rfl, rfl⟩

set_option maxRecDepth 100000 in
set_option maxHeartbeats 400000 in
theorem l1Digit_any (s : ByteArray) (a : Int) (w : World) (hs : s.size ≤ 600) (ha : -10 ≤ a) (ha2 : a ≤ 800) :
    Calls Tryz.prog 70 #[.string s, .int .i64 a] w (NumP w) := by
  by_cases h0 : a < 0
  · have e0 : decide (a < 0) = true := decide_eq_true h0
    go_enter Tryz.func70, Tryz.ntmps70
    go_wp2_with fail
    go_ret
    exact ⟨_, rfl, rfl⟩
  · obtain ⟨k, rfl⟩ : ∃ k : Nat, a = (k : Int) := ⟨a.toNat, by omega⟩
    have e0 : decide ((k : Int) < 0) = false := decide_eq_false (by omega)
    by_cases h1 : k < s.size
    · have e1 : decide ((s.size : Int) ≤ (k : Int)) = false := decide_eq_false (by omega)
      have e2 : decide (s.size ≤ k) = false := decide_eq_false (by omega)
      obtain ⟨hb1, hb2⟩ := byte_lt s k h1
      by_cases h2 : (s[k].toNat : Int) < 48
      · have e3 : decide ((s[k].toNat : Int) < 48) = true := decide_eq_true h2
        have e3' : decide (s[k].toNat < 48) = true := decide_eq_true (by omega)
        go_enter Tryz.func70, Tryz.ntmps70
        go_wp2_with fail
        go_ret
        exact ⟨_, rfl, rfl⟩
      · have e3 : decide ((s[k].toNat : Int) < 48) = false := decide_eq_false h2
        have e3' : decide (s[k].toNat < 48) = false := decide_eq_false (by omega)
        by_cases h3 : (57 : Int) < (s[k].toNat : Int)
        · have e4 : decide ((57 : Int) < (s[k].toNat : Int)) = true := decide_eq_true h3
          have e4' : decide (57 < s[k].toNat) = true := decide_eq_true (by omega)
          go_enter Tryz.func70, Tryz.ntmps70
          go_wp2_with fail
          go_ret
          exact ⟨_, rfl, rfl⟩
        · have e4 : decide ((57 : Int) < (s[k].toNat : Int)) = false := decide_eq_false h3
          have e4' : decide (57 < s[k].toNat) = false := decide_eq_false (by omega)
          go_enter Tryz.func70, Tryz.ntmps70
          go_wp2_with fail
          go_ret
          exact ⟨_, rfl, rfl⟩
    · have e1 : decide ((s.size : Int) ≤ (k : Int)) = true := decide_eq_true (by omega)
      have e2 : decide (s.size ≤ k) = true := decide_eq_true (by omega)
      go_enter Tryz.func70, Tryz.ntmps70
      go_wp2_with fail
      go_ret
      exact ⟨_, rfl, rfl⟩

end Go.Proofs.YtlddoookojjleaaGreatDoor

namespace Go.Proofs.YtlddoookojjleaaGreatDoor
open Go.RowKit Go.Deep
set_option linter.unusedVariables false

def ParseP (s : ByteArray) (a : Int) (w : World) (E : Ending) (w' : World) : Prop := ∃ (r : StR) (nx : Int), E = .returned (.tuple #[.agg #[.int .i64 r.op, .int .i64 r.x, .int .i64 r.y, .int .i64 r.n, .slice r.At r.t.len r.ct, .slice r.Ae r.e.len r.ce], .int .i64 nx]) ∧
  RepV w' w.heap.size w'.heap.size r.t r.At r.ct ∧ RepV w' w.heap.size w'.heap.size r.e r.Ae r.ce ∧ Below w.heap.size w w' ∧ (nx = -1 ∨ (a + 3 ≤ nx ∧ nx ≤ 700 ∧ (1 + r.t.size + r.e.size : Int) ≤ nx - a))

def ListP (s : ByteArray) (a : Int) (w : World) (E : Ending) (w' : World) : Prop := ∃ (rs : List StR) (A : Option Addr) (c : Nat) (nx : Int), E = .returned (.tuple #[.slice A rs.length c, .int .i64 nx]) ∧
  RowS w' w.heap.size (.slice A rs.length c) rs ∧ Below w.heap.size w w' ∧ ((nx = -1 ∧ rs = []) ∨ (a ≤ nx ∧ nx ≤ (s.size : Int) ∧ (szR rs : Int) ≤ nx - a))

def BraceP (s : ByteArray) (a : Int) (w : World) (E : Ending) (w' : World) : Prop := ∃ (t : Sts) (A : Option Addr) (c : Nat) (nx : Int), E = .returned (.tuple #[.slice A t.len c, .int .i64 nx]) ∧
  RepV w' w.heap.size w'.heap.size t A c ∧ Below w.heap.size w w' ∧ ((nx = -1 ∧ t = .nil) ∨ (0 ≤ a ∧ a + 2 ≤ nx ∧ nx ≤ (s.size : Int) ∧ (t.size : Int) ≤ nx - a - 2))

theorem repV_nil0 (w : World) (lo hi : Nat) : RepV w lo hi .nil none 0 := ⟨Nat.le_refl _, by simp [maxLen], fun h => absurd h (by simp [Sts.len])⟩

/-- A simple statement, in the same memory. -/
theorem parseP_simple (s : ByteArray) (a op x y n nx : Int) (w w' : World) (hb : Below w.heap.size w w') (hn : nx = -1 ∨ (a + 3 ≤ nx ∧ nx ≤ 700)) :
    ParseP s a w (.returned (.tuple #[.agg #[.int .i64 op, .int .i64 x, .int .i64 y, .int .i64 n, .slice none 0 0, .slice none 0 0], .int .i64 nx])) w' :=
  ⟨⟨op, x, y, n, .nil, .nil, none, 0, none, 0⟩, nx, rfl, repV_nil0 _ _ _, repV_nil0 _ _ _, hb, by
    rcases hn with h | ⟨h1, h2⟩
    · exact .inl h
    · exact .inr ⟨h1, h2, by simp [Sts.size]; omega⟩⟩

set_option maxRecDepth 100000 in
set_option maxHeartbeats 400000 in
theorem braces_neg (s : ByteArray) (a : Int) (w : World) (hs : s.size ≤ 600) (ha : -1 ≤ a) (ha2 : a ≤ 700) :
    Calls Tryz.prog 69 #[.string s, .int .i64 a, .int .i64 (-1)] w (BraceP s a w) := by
  have HP : Hid (BraceP s a w (.returned (.tuple #[.slice none 0 0, .int .i64 (-1)])) w) := ⟨.nil, none, 0, -1, rfl, repV_nil0 _ _ _, Below.refl _ _, .inl ⟨rfl, rfl⟩⟩
  go_enter Tryz.func69, Tryz.ntmps69
  go_wp2_with fail
  refine (l1At_any 1 s _ a w rfl (by omega) hs (by omega) (by omega)).mono ?_
  rintro E w1 ⟨b, rfl, hb, rfl⟩
  clear hb
  cases b
  · go_wp2_with fail
    go_ret2
    exact HP.out
  · go_wp2_with fail
    go_ret2
    exact HP.out

set_option maxRecDepth 100000 in
set_option maxHeartbeats 400000 in
theorem braces_of (d : Nat) (hd : d ≤ 10) (s : ByteArray) (hs : s.size ≤ 600) (HL : ∀ (a : Int) (w : World), 0 ≤ a → a ≤ (s.size : Int) → Calls Tryz.prog 54 #[.string s, .int .i64 a, .int .i64 (d : Int)] w (ListP s a w))
    (a : Int) (w : World) (ha : -1 ≤ a) (ha2 : a ≤ 700) :
    Calls Tryz.prog 69 #[.string s, .int .i64 a, .int .i64 (d : Int)] w (BraceP s a w) := by
  have HP : ∀ w', Below w.heap.size w w' → Hid (BraceP s a w (.returned (.tuple #[.slice none 0 0, .int .i64 (-1)])) w') := fun w' h => ⟨.nil, none, 0, -1, rfl, repV_nil0 _ _ _, h, .inl ⟨rfl, rfl⟩⟩
  replace HP := Lib.hid HP
  replace HL := Lib.hid HL
  have hd0 : decide ((d : Int) < 0) = false := decide_eq_false (by omega)
  go_enter Tryz.func69, Tryz.ntmps69
  go_wp2_with fail
  refine (l1At_any 1 s _ a w rfl (by omega) hs (by omega) (by omega)).mono ?_
  rintro E w1 ⟨b, rfl, hb, rfl⟩
  cases b
  · go_wp2_with fail
    go_ret2
    exact (HP.out _ (Below.refl _ _)).out
  · obtain ⟨h1, h2⟩ := hb rfl
    clear hb
    go_wp2_with fail
    refine (HL.out (a + 1) w (by omega) (by omega)).mono ?_
    rintro E w2 ⟨rs, A, c, nx, rfl, hR, hb2, hn⟩
    have HR := Lib.hid hR
    have HB2 := Lib.hid hb2
    have HN := Lib.hid hn
    have hn1 : -1 ≤ nx := by rcases hn with ⟨h, _⟩ | ⟨h, _⟩ <;> omega
    have hn2 : nx ≤ 600 := by rcases hn with ⟨h, _⟩ | ⟨_, h, _⟩ <;> omega
    obtain ⟨q, hq⟩ : ∃ q, rs.length = q := ⟨_, rfl⟩
    have HQ := Lib.hid hq
    rw [hq] at HR ⊢
    clear hR hb2 hn hq
    go_wp2_with fail
    refine (l1At_any 1 s _ nx w2 rfl (by omega) hs (by omega) (by omega)).mono ?_
    rintro E w3 ⟨b, rfl, hb, rfl⟩
    cases b
    · clear hb
      go_wp2_with fail
      go_ret2
      exact (HP.out _ HB2.out).out
    · obtain ⟨h3, h4⟩ := hb rfl
      clear hb
      go_wp2_with fail
      go_ret2
      refine ⟨ofR rs, A, c, nx + 1, by rw [ofR_len, HQ.out]; rfl, HR.out.rep.2, HB2.out, .inr ⟨h1, ?_, ?_, ?_⟩⟩
      · rcases HN.out with ⟨h, _⟩ | ⟨h, _⟩ <;> omega
      · omega
      · rw [ofR_size]
        rcases HN.out with ⟨h, _⟩ | ⟨_, _, h⟩ <;> omega

set_option maxRecDepth 100000 in
set_option maxHeartbeats 2000000 in
theorem parse_of (d : Nat) (hd : d ≤ 10) (s : ByteArray) (hs : s.size ≤ 600) (HB : ∀ (a : Int) (w : World), -1 ≤ a → a ≤ 700 → Calls Tryz.prog 69 #[.string s, .int .i64 a, .int .i64 ((d : Int) - 1)] w (BraceP s a w))
    (a : Int) (w : World) (ha : 0 ≤ a) (ha2 : a ≤ (s.size : Int)) :
    Calls Tryz.prog 61 #[.string s, .int .i64 a, .int .i64 (d : Int)] w (ParseP s a w) := by
  have hX := heap_alloc_new w (.cells #[.int .i64 0, .int .i64 0, .int .i64 0, .int .i64 0, .slice none 0 0, .slice none 0 0] 86)
  have hb0 := (Below.refl w.heap.size w).alloc (Nat.le_refl _) (.cells #[.int .i64 0, .int .i64 0, .int .i64 0, .int .i64 0, .slice none 0 0, .slice none 0 0] 86)
  have hz0 : w.heap.size + 1 ≤ (w.alloc (.cells #[.int .i64 0, .int .i64 0, .int .i64 0, .int .i64 0, .slice none 0 0, .slice none 0 0] 86)).heap.size := Nat.le_of_eq (by simp)
  have hz0' : (w.alloc (.cells #[.int .i64 0, .int .i64 0, .int .i64 0, .int .i64 0, .slice none 0 0, .slice none 0 0] 86)).heap.size ≤ w.heap.size + 1 := Nat.le_of_eq (by simp)
  have HX := Lib.hid hX
  have HB0 := Lib.hid hb0
  replace HB := Lib.hid HB
  clear hX hb0
  have a600 : a ≤ 600 := by omega
  go_enter Tryz.func61, Tryz.ntmps61
  go_wp2_with fail
  refine (l1At_any 5 s _ a _ rfl (by omega) hs (by omega) (by omega)).mono ?_
  rintro E _ ⟨b, rfl, hb, rfl⟩
  cases b
  rotate_left
  · obtain ⟨h1, h2⟩ := hb rfl
    clear hb
    go_wp2_with fail
    refine (l1Var_any s (a + 5) _ hs (by omega) (by omega)).mono ?_
    rintro E _ ⟨x1, rfl, rfl⟩
    go_wp2_with fail
    exact bodyPost_ret (v := .tuple #[.agg #[.int .i64 8, .int .i64 x1, .int .i64 0, .int .i64 0, .slice none 0 0, .slice none 0 0], .int .i64 (a + 6)]) (by simp [results, Tryz.results61, go_sem]) rfl (parseP_simple s a _ _ _ _ _ w _ ((Below.refl w.heap.size w).alloc (Nat.le_refl _) _) (.inr ⟨by omega, by omega⟩))
  clear hb
  go_wp2_with fail
  refine (l1At_any 5 s _ a _ rfl (by omega) hs (by omega) (by omega)).mono ?_
  rintro E _ ⟨b, rfl, hb, rfl⟩
  cases b
  rotate_left
  · obtain ⟨h1, h2⟩ := hb rfl
    clear hb
    go_wp2_with fail
    refine (HB.out (a + 4) _ (by omega) (by omega)).mono ?_
    rintro E w2 ⟨t, A, c, nx, rfl, hR, hb2, hn⟩
    have hs2 := hb2.size
    have hB2 := (hb2.block w.heap.size (by omega)).trans HX.out
    have HBB := Lib.hid (HB0.out.trans (hb2.mono (by omega)))
    have HR := Lib.hid hR
    have HN := Lib.hid hn
    have z0 : w2.cell? ⟨w.heap.size, 0, none⟩ = some (.int .i64 0) := (cell_of_block hB2 0).trans rfl
    have y0 := frozen_of_block hB2 0
    have z1 : w2.cell? ⟨w.heap.size, 1, none⟩ = some (.int .i64 0) := (cell_of_block hB2 1).trans rfl
    have y1 := frozen_of_block hB2 1
    have z2 : w2.cell? ⟨w.heap.size, 2, none⟩ = some (.int .i64 0) := (cell_of_block hB2 2).trans rfl
    have y2 := frozen_of_block hB2 2
    have z3 : w2.cell? ⟨w.heap.size, 3, none⟩ = some (.int .i64 0) := (cell_of_block hB2 3).trans rfl
    have y3 := frozen_of_block hB2 3
    have z4 : w2.cell? ⟨w.heap.size, 4, none⟩ = some (.slice none 0 0) := (cell_of_block hB2 4).trans rfl
    have y4 := frozen_of_block hB2 4
    have z5 : w2.cell? ⟨w.heap.size, 5, none⟩ = some (.slice none 0 0) := (cell_of_block hB2 5).trans rfl
    have y5 := frozen_of_block hB2 5
    clear hB2 hb2 hR hn
    go_wp2_with fail
    refine bodyPost_ret (v := .tuple #[.agg #[.int .i64 10, .int .i64 0, .int .i64 0, .int .i64 0, .slice A t.len c, .slice none 0 0], .int .i64 nx]) (by simp [results, Tryz.results61, go_sem, z0, z1, z2, z3, z4, z5]) rfl ⟨⟨10, 0, 0, 0, t, .nil, A, c, none, 0⟩, nx, rfl, ?_, repV_nil0 _ _ _, ?_, ?_⟩
    · exact HR.out.keep (by omega) (by simp [World.setCell]) fun p h1 h2 => by
        repeat rw [World.cell?_setCell_other _ _ _ _ (fun e => by subst e; simp at h1; omega)]
    · repeat (refine Below.setCell ?_ (by simp) _)
      exact HBB.out
    · rcases HN.out with ⟨h, _⟩ | ⟨h33, h3, h4, h5⟩
      · exact .inl h
      · exact .inr ⟨by omega, by omega, by simp [Sts.size]; omega⟩
  clear hb
  go_wp2_with fail
  refine (l1At_any 3 s _ a _ rfl (by omega) hs (by omega) (by omega)).mono ?_
  rintro E _ ⟨b, rfl, hb, rfl⟩
  cases b
  rotate_left
  · obtain ⟨h1, h2⟩ := hb rfl
    clear hb
    go_wp2_with fail
    refine (HB.out (a + 2) _ (by omega) (by omega)).mono ?_
    rintro E w2 ⟨t, A, c, mid, rfl, hR, hb2, hn⟩
    have hs2 := hb2.size
    have HB2 := Lib.hid ((hb2.block w.heap.size (by omega)).trans HX.out)
    have HBB := Lib.hid (HB0.out.trans (hb2.mono (by omega)))
    have hm1 : -1 ≤ mid := by rcases hn with ⟨h, _⟩ | ⟨_, h, _⟩ <;> omega
    have hm2 : mid ≤ 600 := by rcases hn with ⟨h, _⟩ | ⟨_, _, h, _⟩ <;> omega
    have HR := Lib.hid hR
    have HN := Lib.hid hn
    clear hb2 hR hn
    go_wp2_with fail
    refine (HB.out mid w2 (by omega) (by omega)).mono ?_
    rintro E w3 ⟨t', A', c', nx, rfl, hR, hb3, hn⟩
    have hs3 := hb3.size
    have hB3 := (hb3.block w.heap.size (by omega)).trans HB2.out
    have HR2 := Lib.hid (HR.out.below' hb3 (by omega))
    have HBB3 := Lib.hid (HBB.out.trans (hb3.mono (by omega)))
    have HR3 := Lib.hid hR
    have HN3 := Lib.hid hn
    have z0 : w3.cell? ⟨w.heap.size, 0, none⟩ = some (.int .i64 0) := (cell_of_block hB3 0).trans rfl
    have y0 := frozen_of_block hB3 0
    have z1 : w3.cell? ⟨w.heap.size, 1, none⟩ = some (.int .i64 0) := (cell_of_block hB3 1).trans rfl
    have y1 := frozen_of_block hB3 1
    have z2 : w3.cell? ⟨w.heap.size, 2, none⟩ = some (.int .i64 0) := (cell_of_block hB3 2).trans rfl
    have y2 := frozen_of_block hB3 2
    have z3 : w3.cell? ⟨w.heap.size, 3, none⟩ = some (.int .i64 0) := (cell_of_block hB3 3).trans rfl
    have y3 := frozen_of_block hB3 3
    have z4 : w3.cell? ⟨w.heap.size, 4, none⟩ = some (.slice none 0 0) := (cell_of_block hB3 4).trans rfl
    have y4 := frozen_of_block hB3 4
    have z5 : w3.cell? ⟨w.heap.size, 5, none⟩ = some (.slice none 0 0) := (cell_of_block hB3 5).trans rfl
    have y5 := frozen_of_block hB3 5
    clear hB3 hb3 hR hn
    go_wp2_with fail
    refine bodyPost_ret (v := .tuple #[.agg #[.int .i64 9, .int .i64 0, .int .i64 0, .int .i64 0, .slice A t.len c, .slice A' t'.len c'], .int .i64 nx]) (by simp [results, Tryz.results61, go_sem, z0, z1, z2, z3, z4, z5]) rfl ⟨⟨9, 0, 0, 0, t, t', A, c, A', c'⟩, nx, rfl, ?_, ?_, ?_, ?_⟩
    · exact HR2.out.keep (by omega) (by simp [World.setCell]) fun p h1 h2 => by
        repeat rw [World.cell?_setCell_other _ _ _ _ (fun e => by subst e; simp at h1; omega)]
    · exact HR3.out.keep (by omega) (by simp [World.setCell]) fun p h1 h2 => by
        repeat rw [World.cell?_setCell_other _ _ _ _ (fun e => by subst e; simp at h1; omega)]
    · repeat (refine Below.setCell ?_ (by simp) _)
      exact HBB3.out
    · rcases HN3.out with ⟨h, _⟩ | ⟨h33, h3, h4, h5⟩
      · exact .inl h
      · rcases HN.out with ⟨h6, h7⟩ | ⟨h66, h6, h7, h8⟩
        · exact .inl (by omega)
        · exact .inr ⟨by omega, by omega, by show ((1 : Int) + (t.size : Int) + (t'.size : Int)) ≤ nx - a; omega⟩
  clear hb
  go_wp2_with fail
  refine (l1At_any 1 s _ a _ rfl (by omega) hs (by omega) (by omega)).mono ?_
  rintro E _ ⟨b, rfl, hb, rfl⟩
  cases b
  rotate_left
  · obtain ⟨h1, h2⟩ := hb rfl
    clear hb
    go_wp2_with fail
    refine (l1Var_any s (a + 1) _ hs (by omega) (by omega)).mono ?_
    rintro E _ ⟨x1, rfl, rfl⟩
    go_wp2_with fail
    refine (l1Var_any s (a + 3) _ hs (by omega) (by omega)).mono ?_
    rintro E _ ⟨x2, rfl, rfl⟩
    go_wp2_with fail
    exact bodyPost_ret (v := .tuple #[.agg #[.int .i64 7, .int .i64 x1, .int .i64 x2, .int .i64 0, .slice none 0 0, .slice none 0 0], .int .i64 (a + 4)]) (by simp [results, Tryz.results61, go_sem]) rfl (parseP_simple s a _ _ _ _ _ w _ ((Below.refl w.heap.size w).alloc (Nat.le_refl _) _) (.inr ⟨by omega, by omega⟩))
  clear hb
  go_wp2_with fail
  refine (l1Var_any s a _ hs (by omega) (by omega)).mono ?_
  rintro E _ ⟨x0, rfl, rfl⟩
  by_cases hx : x0 < 0
  · go_wp2_with fail
    exact bodyPost_ret (v := .tuple #[.agg #[.int .i64 0, .int .i64 0, .int .i64 0, .int .i64 0, .slice none 0 0, .slice none 0 0], .int .i64 (-1)]) (by simp [results, Tryz.results61, go_sem]) rfl (parseP_simple s a _ _ _ _ _ w _ ((Below.refl w.heap.size w).alloc (Nat.le_refl _) _) (.inl rfl))
  have hx' : decide (x0 < 0) = false := decide_eq_false hx
  go_wp2_with fail
  refine (l1At_any 1 s _ (a + 1) _ rfl (by omega) hs (by omega) (by omega)).mono ?_
  rintro E _ ⟨b, rfl, hb, rfl⟩
  cases b
  · go_wp2_with fail
    exact bodyPost_ret (v := .tuple #[.agg #[.int .i64 0, .int .i64 0, .int .i64 0, .int .i64 0, .slice none 0 0, .slice none 0 0], .int .i64 (-1)]) (by simp [results, Tryz.results61, go_sem]) rfl (parseP_simple s a _ _ _ _ _ w _ ((Below.refl w.heap.size w).alloc (Nat.le_refl _) _) (.inl rfl))
  obtain ⟨q1, q2⟩ := hb rfl
  clear hb
  go_wp2_with fail
  refine (l1At_any 4 s _ (a + 2) _ rfl (by omega) hs (by omega) (by omega)).mono ?_
  rintro E _ ⟨b, rfl, hb, rfl⟩
  cases b
  rotate_left
  · obtain ⟨h1, h2⟩ := hb rfl
    clear hb
    go_wp2_with fail
    refine (l1Digit_any s (a + 6) _ hs (by omega) (by omega)).mono ?_
    rintro E _ ⟨x1, rfl, rfl⟩
    go_wp2_with fail
    exact bodyPost_ret (v := .tuple #[.agg #[.int .i64 2, .int .i64 x0, .int .i64 0, .int .i64 x1, .slice none 0 0, .slice none 0 0], .int .i64 (a + 7)]) (by simp [results, Tryz.results61, go_sem]) rfl (parseP_simple s a _ _ _ _ _ w _ ((Below.refl w.heap.size w).alloc (Nat.le_refl _) _) (.inr ⟨by omega, by omega⟩))
  clear hb
  go_wp2_with fail
  refine (l1At_any 5 s _ (a + 2) _ rfl (by omega) hs (by omega) (by omega)).mono ?_
  rintro E _ ⟨b, rfl, hb, rfl⟩
  cases b
  rotate_left
  · obtain ⟨h1, h2⟩ := hb rfl
    clear hb
    go_wp2_with fail
    refine (l1Var_any s (a + 7) _ hs (by omega) (by omega)).mono ?_
    rintro E _ ⟨x1, rfl, rfl⟩
    go_wp2_with fail
    exact bodyPost_ret (v := .tuple #[.agg #[.int .i64 5, .int .i64 x0, .int .i64 x1, .int .i64 0, .slice none 0 0, .slice none 0 0], .int .i64 (a + 8)]) (by simp [results, Tryz.results61, go_sem]) rfl (parseP_simple s a _ _ _ _ _ w _ ((Below.refl w.heap.size w).alloc (Nat.le_refl _) _) (.inr ⟨by omega, by omega⟩))
  clear hb
  go_wp2_with fail
  refine (l1At_any 1 s _ (a + 2) _ rfl (by omega) hs (by omega) (by omega)).mono ?_
  rintro E _ ⟨b, rfl, hb, rfl⟩
  cases b
  rotate_left
  · obtain ⟨h1, h2⟩ := hb rfl
    clear hb
    go_wp2_with fail
    refine (l1Var_any s (a + 3) _ hs (by omega) (by omega)).mono ?_
    rintro E _ ⟨x1, rfl, rfl⟩
    go_wp2_with fail
    exact bodyPost_ret (v := .tuple #[.agg #[.int .i64 4, .int .i64 x0, .int .i64 x1, .int .i64 0, .slice none 0 0, .slice none 0 0], .int .i64 (a + 4)]) (by simp [results, Tryz.results61, go_sem]) rfl (parseP_simple s a _ _ _ _ _ w _ ((Below.refl w.heap.size w).alloc (Nat.le_refl _) _) (.inr ⟨by omega, by omega⟩))
  clear hb
  go_wp2_with fail
  refine (l1At_any 1 s _ (a + 2) _ rfl (by omega) hs (by omega) (by omega)).mono ?_
  rintro E _ ⟨b, rfl, hb, rfl⟩
  cases b
  rotate_left
  · obtain ⟨h1, h2⟩ := hb rfl
    clear hb
    go_wp2_with fail
    refine (l1Var_any s (a + 3) _ hs (by omega) (by omega)).mono ?_
    rintro E _ ⟨x1, rfl, rfl⟩
    go_wp2_with fail
    exact bodyPost_ret (v := .tuple #[.agg #[.int .i64 6, .int .i64 x0, .int .i64 x1, .int .i64 0, .slice none 0 0, .slice none 0 0], .int .i64 (a + 4)]) (by simp [results, Tryz.results61, go_sem]) rfl (parseP_simple s a _ _ _ _ _ w _ ((Below.refl w.heap.size w).alloc (Nat.le_refl _) _) (.inr ⟨by omega, by omega⟩))
  clear hb
  go_wp2_with fail
  refine (l1Digit_any s (a + 2) _ hs (by omega) (by omega)).mono ?_
  rintro E _ ⟨x1, rfl, rfl⟩
  by_cases hx1 : 0 ≤ x1
  · have hx2 : decide (0 ≤ x1) = true := decide_eq_true hx1
    go_wp2_with fail
    refine (l1Digit_any s (a + 2) _ hs (by omega) (by omega)).mono ?_
    rintro E _ ⟨x2, rfl, rfl⟩
    go_wp2_with fail
    exact bodyPost_ret (v := .tuple #[.agg #[.int .i64 1, .int .i64 x0, .int .i64 0, .int .i64 x2, .slice none 0 0, .slice none 0 0], .int .i64 (a + 3)]) (by simp [results, Tryz.results61, go_sem]) rfl (parseP_simple s a _ _ _ _ _ w _ ((Below.refl w.heap.size w).alloc (Nat.le_refl _) _) (.inr ⟨by omega, by omega⟩))
  · have hx2 : decide (0 ≤ x1) = false := decide_eq_false hx1
    go_wp2_with fail
    refine (l1Var_any s (a + 2) _ hs (by omega) (by omega)).mono ?_
    rintro E _ ⟨x2, rfl, rfl⟩
    go_wp2_with fail
    exact bodyPost_ret (v := .tuple #[.agg #[.int .i64 3, .int .i64 x0, .int .i64 x2, .int .i64 0, .slice none 0 0, .slice none 0 0], .int .i64 (a + 3)]) (by simp [results, Tryz.results61, go_sem]) rfl (parseP_simple s a _ _ _ _ _ w _ ((Below.refl w.heap.size w).alloc (Nat.le_refl _) _) (.inr ⟨by omega, by omega⟩))

end Go.Proofs.YtlddoookojjleaaGreatDoor

namespace Go.Proofs.YtlddoookojjleaaGreatDoor
open Go.RowKit Go.Deep
set_option linter.unusedVariables false

theorem Firm.of_new {w0 w1 w : World} {B : Nat} {v : Value} {rs : List StR} {A : Option Addr} {c : Nat} {s : Sts} (h : RepV w1 w0.heap.size w1.heap.size s A c) (hr : RowS w0 B v rs) (hB : B ≤ w0.heap.size) (hb : Below w1.heap.size w1 w) : Firm w B v.ownBlock A c s :=
  (Firm.of_rep (g := v.ownBlock) (h.below' hb (Nat.le_refl _) |>.keep (Nat.le_refl _) hb.size fun _ _ _ => rfl) fun k hk => .inl (hr.own.lt k hk).2).wide hB

set_option maxRecDepth 100000 in
set_option maxHeartbeats 2000000 in
theorem list_of (d : Nat) (hd : d ≤ 10) (s : ByteArray) (hs : s.size ≤ 600) (HP : ∀ (a : Int) (w : World), 0 ≤ a → a ≤ (s.size : Int) → Calls Tryz.prog 61 #[.string s, .int .i64 a, .int .i64 (d : Int)] w (ParseP s a w))
    (a : Int) (w : World) (ha : 0 ≤ a) (ha2 : a ≤ (s.size : Int)) :
    Calls Tryz.prog 54 #[.string s, .int .i64 a, .int .i64 (d : Int)] w (ListP s a w) := by
  have hB0 := (Below.refl w.heap.size w).alloc (Nat.le_refl _) (.cells #[] 86)
  have hR0 := RowS.lit0 w w.heap.size (Nat.le_refl _)
  have HE : Hid (ListP s a w (.returned (.tuple #[.slice (some ⟨w.heap.size, 0, none⟩) 0 0, .int .i64 a])) (w.alloc (.cells #[] 86))) := ⟨[], _, _, a, rfl, hR0, hB0, .inr ⟨by omega, by omega, by simp [szR]⟩⟩
  have HF : ∀ w', Below w.heap.size w w' → Hid (ListP s a w (.returned (.tuple #[.slice none 0 0, .int .i64 (-1)])) w') := fun w' h => ⟨[], none, 0, -1, rfl, RowS.nil0 _ _, h, .inl ⟨rfl, rfl⟩⟩
  replace HF := Lib.hid HF
  replace HP := Lib.hid HP
  have HR0 := Lib.hid hR0
  have HB0 := Lib.hid hB0
  obtain ⟨i0, hi, hz0, hz1, hz2⟩ := info_parts Tryz.infoStmt
  have HI := Lib.hid hi
  have HZ0 := Lib.hid hz0
  have HZ1 := Lib.hid hz1
  have HZ2 := Lib.hid hz2
  clear hi hz0 hz1 hz2 hB0 hR0
  obtain ⟨k0, rfl⟩ : ∃ k : Nat, a = (k : Int) := ⟨a.toNat, by omega⟩
  by_cases hend : k0 = s.size
  · have e1 : ((k0 : Int) == (s.size : Int)) = true := by simp; omega
    go_enter Tryz.func54, Tryz.ntmps54
    go_wp2_with fail
    go_ret2
    exact HE.out
  have e1 : ((k0 : Int) == (s.size : Int)) = false := by simp; omega
  have e1' : (k0 == s.size) = false := by simp; omega
  clear hend
  go_enter Tryz.func54, Tryz.ntmps54
  go_wp2_with fail
  refine (l1At_any 1 s _ (k0 : Int) _ rfl (by omega) hs (by omega) (by omega)).mono ?_
  rintro E _ ⟨b, rfl, hb, rfl⟩
  clear hb
  cases b
  rotate_left
  · go_wp2_with fail
    go_ret2
    exact HE.out
  go_wp2_with fail
  go_loopw [1, 8] (fun at_ o wr => ∃ (k : Nat) (rs : List StR) (A : Option Addr) (c : Nat), at_ = .int .i64 (k : Int) ∧ o = .slice A rs.length c ∧ k0 ≤ k ∧ k ≤ s.size ∧ Hid (RowS wr w.heap.size (.slice A rs.length c) rs) ∧ Hid (szR rs ≤ k - k0) ∧ Below w.heap.size w wr) (fun at_ _ _ => s.size + 1 - (intOf at_).toNat)
  case atStart => exact ⟨k0, [], _, _, rfl, rfl, Nat.le_refl _, by omega, HR0, by unfold Hid; simp [szR], HB0.out⟩
  case round =>
    obtain ⟨k, rs, A, c, rfl, rfl, hk0, hk, hR, hz, hb⟩ := hrel
    have hrl : rs.length ≤ 600 := by have := len_le_szR rs; have := hz.out; omega
    have hbz := hb.size
    clear HR0 HE
    obtain ⟨q, hq⟩ : ∃ q, rs.length = q := ⟨_, rfl⟩
    have HQ := Lib.hid hq
    rw [hq] at hR hrl ⊢
    clear hq
    have hge : decide (0 ≤ (k : Int)) = true := decide_eq_true (by omega)
    go_wp2_with fail
    refine (HP.out (k : Int) wr (by omega) (by omega)).mono ?_
    rintro E w2 ⟨r, nx, rfl, hRt, hRe, hb2, hn⟩
    have hs2 := hb2.size
    have HT := Lib.hid hRt
    have HEe := Lib.hid hRe
    have HN := Lib.hid hn
    have HB2 := Lib.hid (hb.trans (hb2.mono hbz))
    have HR2 := Lib.hid (hR.out.below hb2)
    have hn1 : -1 ≤ nx := by rcases hn with h | ⟨h, _⟩ <;> omega
    have hn2 : nx ≤ 700 := by rcases hn with h | ⟨_, h, _⟩ <;> omega
    clear hRt hRe hb2 hn
    obtain ⟨tl, htl⟩ : ∃ q, r.t.len = q := ⟨_, rfl⟩
    obtain ⟨el, hel⟩ : ∃ q, r.e.len = q := ⟨_, rfl⟩
    have HC : Hid (r.cells = [.int .i64 r.op, .int .i64 r.x, .int .i64 r.y, .int .i64 r.n, .slice r.At tl r.ct, .slice r.Ae el r.ce]) := by unfold Hid; rw [← htl, ← hel]; rfl
    rw [htl, hel]
    clear htl hel
    have HOWN : Hid (w2.ownsRow w.heap.size 86 6 (.slice A q c) q (rs.flatMap StR.cells)) := by
      have := HR2.out.own
      rwa [HQ.out] at this
    have hz2 : w.heap.size ≤ w2.heap.size := Nat.le_trans hbz hs2
    go_wp2_with (at_builtin; refine wpList_append_lies _ rfl _ _ 24 rfl w.heap.size 86 i0 (.agg #[.int .i64 0, .int .i64 0, .int .i64 0, .int .i64 0, .slice none 0 0, .slice none 0 0]) 6 80 Tryz.underlying24 HI.out HZ0.out HZ1.out HZ2.out rfl (by decide) _ _ _ rfl ((HOWN.out.alloc _).alloc _) ⟨_, 0, none⟩ 1 1 [.int .i64 r.op, .int .i64 r.x, .int .i64 r.y, .int .i64 r.n, .slice r.At tl r.ct, .slice r.Ae el r.ce] rfl rfl ?la1 ?la2 (by decide) ?la3 ?la4 ?la5 _ rfl ?_)
    try (case la1 => exact news1 (by simp) rfl)
    try (case la2 => intro u hu; simp only [List.mem_cons, List.not_mem_nil, or_false] at hu; rcases hu with rfl | rfl | rfl | rfl | rfl | rfl <;> rfl)
    try (case la3 => unfold maxLen; omega)
    try (case la4 => omega)
    try (case la5 => first | omega | (simp; omega))
    intro g2 cap2 w' hown' hg hat hlt'
    have hbA := ((Below.refl w2.heap.size w2).alloc (Nat.le_refl _) (.cells #[.int .i64 r.op, .int .i64 r.x, .int .i64 r.y, .int .i64 r.n, .slice r.At tl r.ct, .slice r.Ae el r.ce] 86)).alloc (by simp) (.cells #[.int .i64 r.op, .int .i64 r.x, .int .i64 r.y, .int .i64 r.n, .slice r.At tl r.ct, .slice r.Ae el r.ce] 86)
    have hR' : RowS w' w.heap.size (.slice (some ⟨g2, 0, none⟩) (rs.length + 1) cap2) (rs ++ [r]) := by
      refine RowS.snoc (HR2.out.below hbA) ?_ hg (hat.imp id fun e => e.trans (by simp)) (Firm.of_new HT.out hR.out hbz hbA) (Firm.of_new HEe.out hR.out hbz hbA)
      rw [HQ.out, HC.out]
      exact hown'
    have hb' : Below w.heap.size w w' := (HB2.out.trans (hbA.mono hz2)).grown hg (by simp; omega) (fun k hk => (HOWN.out.lt k hk).1)
    have HR' := Lib.hid hR'
    have HB' := Lib.hid hb'
    clear hown' hg hat hbA hR' hb' HOWN
    rcases HN.out with hneg | ⟨hn3, hn4, hn5⟩
    · subst hneg
      clear HN
      go_wp2_with fail
      go_ret2
      exact (HF.out _ HB'.out).out
    · have hlt0 : decide (nx < 0) = false := decide_eq_false (by omega)
      by_cases hbig : (s.size : Int) < nx
      · have hbg : decide ((s.size : Int) < nx) = true := decide_eq_true hbig
        clear HN
        go_wp2_with fail
        go_ret2
        exact (HF.out _ HB'.out).out
      · have hbg : decide ((s.size : Int) < nx) = false := decide_eq_false hbig
        have hsz2 : Hid ((szR (rs ++ [r]) : Int) ≤ nx - (k0 : Int)) := by
          unfold Hid
          rw [szR_append, szR_one]
          have := hz.out
          omega
        clear HN
        go_wp2_with fail
        refine (l1At_any 1 s _ nx _ rfl (by omega) hs (by omega) (by omega)).mono ?_
        rintro E _ ⟨b, rfl, hb, rfl⟩
        cases b
        · clear hb
          go_wp2_with fail
          go_ret2
          refine ⟨rs ++ [r], _, cap2, nx, by rw [List.length_append, HQ.out]; rfl, by rw [List.length_append]; exact HR'.out, HB'.out, .inr ⟨by omega, by omega, hsz2.out⟩⟩
        · obtain ⟨h3, h4⟩ := hb rfl
          clear hb
          obtain ⟨k2, rfl⟩ : ∃ k2 : Nat, nx = (k2 : Int) := ⟨nx.toNat, by omega⟩
          go_wp2_with fail
          go_roundw
          case rel => exact ⟨k2 + 1, rs ++ [r], _, cap2, by go_num, by rw [List.length_append, HQ.out]; rfl, by omega, by omega, by unfold Hid; rw [List.length_append]; exact HR'.out, by unfold Hid; have := hsz2.out; omega, HB'.out⟩
          case measure => simp [intOf]; omega

end Go.Proofs.YtlddoookojjleaaGreatDoor

namespace Go.Proofs.YtlddoookojjleaaGreatDoor
open Go.RowKit Go.Deep
set_option linter.unusedVariables false

theorem list_all (s : ByteArray) (hs : s.size ≤ 600) : ∀ (d : Nat), d ≤ 10 → ∀ (a : Int) (w : World), 0 ≤ a → a ≤ (s.size : Int) → Calls Tryz.prog 54 #[.string s, .int .i64 a, .int .i64 (d : Int)] w (ListP s a w) := by
  intro d
  induction d with
  | zero =>
    intro hd
    exact list_of 0 hd s hs (parse_of 0 hd s hs fun a w h1 h2 => braces_neg s a w hs h1 h2)
  | succ d ih =>
    intro hd
    refine list_of (d + 1) hd s hs (parse_of (d + 1) hd s hs fun a w h1 h2 => ?_)
    have e : (((d + 1 : Nat) : Int) - 1) = (d : Int) := by omega
    rw [e]
    exact braces_of d (by omega) s hs (ih (by omega)) a w h1 h2

end Go.Proofs.YtlddoookojjleaaGreatDoor
