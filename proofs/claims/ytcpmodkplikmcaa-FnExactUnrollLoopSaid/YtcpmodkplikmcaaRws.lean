/-
  Rows of statements that a call owns: their cells, and the lists under them, which a change of the row leaves alone.
-/
import Derived.Test.YtcpmodkplikmcaaOwD
namespace Go.Proofs.Ytcpmodkplikmcaa
open Go.RowKit Go.Deep
set_option linter.unusedVariables false

theorem flatS_len {α : Type} {f : α → List Value} {s : Nat} (hf : ∀ a, (f a).length = s) : ∀ l : List α, (l.flatMap f).length = l.length * s
  | [] => by simp
  | d :: l => by rw [List.flatMap_cons, List.length_append, flatS_len hf l, hf, List.length_cons, Nat.succ_mul, Nat.add_comm]

theorem flatS_get {α : Type} {f : α → List Value} {s : Nat} (hf : ∀ a, (f a).length = s) : ∀ (l : List α) (j i : Nat) (d : α), l[j]? = some d → i < s → (l.flatMap f)[j * s + i]? = (f d)[i]?
  | [], j, i, d, h, _ => by simp at h
  | e :: l, 0, i, d, h, hi => by
    simp only [List.getElem?_cons_zero, Option.some.injEq] at h
    subst h
    rw [List.flatMap_cons, Nat.zero_mul, Nat.zero_add, List.getElem?_append_left (by rw [hf]; exact hi)]
  | e :: l, j + 1, i, d, h, hi => by
    rw [List.getElem?_cons_succ] at h
    rw [List.flatMap_cons, List.getElem?_append_right (by rw [hf, Nat.succ_mul]; omega), hf, show (j + 1) * s + i - s = j * s + i from by rw [Nat.succ_mul]; omega]
    exact flatS_get hf l j i d h hi

/-- A statement in a row: its fields, the lists under it, and where they lie. -/
structure StR where
  op : Int
  x : Int
  y : Int
  n : Int
  t : Sts
  e : Sts
  At : Option Addr
  ct : Nat
  Ae : Option Addr
  ce : Nat

def StR.cells (r : StR) : List Value := [.int .i64 r.op, .int .i64 r.x, .int .i64 r.y, .int .i64 r.n, .slice r.At r.t.len r.ct, .slice r.Ae r.e.len r.ce]

theorem StR.cells_length (r : StR) : r.cells.length = 6 := rfl

/-- The list that a row reads as. -/
def ofR : List StR → Sts
  | [] => .nil
  | r :: rs => .cons r.op r.x r.y r.n r.t r.e (ofR rs)

theorem ofR_len : ∀ rs : List StR, (ofR rs).len = rs.length
  | [] => rfl
  | r :: rs => by show (ofR rs).len + 1 = _; rw [ofR_len rs]; rfl

/-- The statements of all levels. -/
def szR : List StR → Nat
  | [] => 0
  | r :: rs => 1 + r.t.size + r.e.size + szR rs

theorem ofR_size : ∀ rs : List StR, (ofR rs).size = szR rs
  | [] => rfl
  | r :: rs => by show 1 + r.t.size + r.e.size + (ofR rs).size = _; rw [ofR_size rs]; rfl

theorem szR_append : ∀ rs ss : List StR, szR (rs ++ ss) = szR rs + szR ss
  | [], ss => by simp [szR]
  | r :: rs, ss => by rw [List.cons_append]; simp only [szR]; rw [szR_append rs ss]; omega

theorem szR_one (r : StR) : szR [r] = 1 + r.t.size + r.e.size := by simp [szR]

theorem len_le_szR : ∀ rs : List StR, rs.length ≤ szR rs
  | [] => Nat.le_refl _
  | r :: rs => by have := len_le_szR rs; simp only [szR, List.length_cons]; omega

theorem szR_mem : ∀ {rs : List StR} {r : StR}, r ∈ rs → 1 + r.t.size + r.e.size ≤ szR rs
  | q :: rs, r, h => by
    rcases List.mem_cons.1 h with rfl | h
    · simp only [szR]; omega
    · have := szR_mem h; simp only [szR]; omega

/-- A list that reads so, whatever becomes of one block. -/
def Firm (w : World) (lo : Nat) (g : Option Nat) (A : Option Addr) (c : Nat) (s : Sts) : Prop :=
  ∀ w' : World, (∀ k, lo ≤ k → k < w.heap.size → g ≠ some k → w'.heap[k]? = w.heap[k]?) → RepV w' lo w.heap.size s A c

theorem Firm.rep {w : World} {lo : Nat} {g : Option Nat} {A : Option Addr} {c : Nat} {s : Sts} (h : Firm w lo g A c s) : RepV w lo w.heap.size s A c := h w fun _ _ _ _ => rfl

theorem Firm.nil (w : World) (lo : Nat) (g : Option Nat) : Firm w lo g none 0 .nil := fun w' _ => ⟨Nat.le_refl _, by simp [maxLen], fun h => absurd h (by simp [Sts.len])⟩

theorem Firm.of_rep {w : World} {lo : Nat} {g : Option Nat} {A : Option Addr} {c : Nat} {s : Sts} (h : RepV w lo w.heap.size s A c) (hg : ∀ k, g = some k → k < lo ∨ w.heap.size ≤ k) : Firm w lo g A c s :=
  fun w' hk => h.keep (Nat.le_refl _) (Nat.le_refl _) fun p h1 h2 => World.cell?_of_block (hk p.block h1 h2 fun e => by have := hg _ e; omega)

theorem Firm.move {w w1 : World} {lo : Nat} {g g1 : Option Nat} {A : Option Addr} {c : Nat} {s : Sts} (h : Firm w lo g A c s) (hs : w.heap.size ≤ w1.heap.size) (hk : ∀ k, lo ≤ k → k < w.heap.size → g ≠ some k → w1.heap[k]? = w.heap[k]?)
    (hg : g1 = g ∨ ∀ k, g1 = some k → w.heap.size ≤ k) : Firm w1 lo g1 A c s := fun w' h' =>
  (h w' fun k hk0 hk1 hk2 => (h' k hk0 (by omega) (by
    rcases hg with rfl | hg
    · exact hk2
    · intro e; have := hg k e; omega)).trans (hk k hk0 hk1 hk2)).keep (Nat.le_refl _) hs fun _ _ _ => rfl

theorem Firm.wide {w : World} {lo lo' : Nat} {g : Option Nat} {A : Option Addr} {c : Nat} {s : Sts} (h : Firm w lo g A c s) (hl : lo' ≤ lo) : Firm w lo' g A c s := fun w' h' => (h w' fun k h1 h2 h3 => h' k (by omega) h2 h3).keep hl (Nat.le_refl _) fun _ _ _ => rfl

theorem RepV.mono {w : World} {lo lo' hi hi' : Nat} {A : Option Addr} {c : Nat} {s : Sts} (h : RepV w lo hi s A c) (hl : lo' ≤ lo) (hh : hi ≤ hi') : RepV w lo' hi' s A c := h.keep hl hh fun _ _ _ => rfl

/-- A value is a row of statements that the call owns, in blocks from B on. -/
structure RowS (w : World) (B : Nat) (v : Value) (rs : List StR) : Prop where
  own : w.ownsRow B 53 6 v rs.length (rs.flatMap StR.cells)
  firm : ∀ r ∈ rs, Firm w B v.ownBlock r.At r.ct r.t ∧ Firm w B v.ownBlock r.Ae r.ce r.e

theorem RowS.nil0 (w : World) (B : Nat) : RowS w B (.slice none 0 0) [] := ⟨World.ownsRow_nil w B _ 6, fun r h => by simp at h⟩

theorem RowS.lit0 (w : World) (B : Nat) (hB : B ≤ w.heap.size) : RowS (w.alloc (.cells #[] 53)) B (.slice (some ⟨w.heap.size, 0, none⟩) 0 0) [] :=
  ⟨World.ownsRow_lit (base := B) (e := 53) (size := 6) w #[] 0 hB (by simp [maxLen]) rfl, fun r h => by simp at h⟩

theorem RowS.form {w : World} {B : Nat} {v : Value} {rs : List StR} (h : RowS w B v rs) : ∃ A c, v = .slice A rs.length c ∧ rs.length ≤ c ∧ c ≤ maxLen ∧ (0 < rs.length → ∃ g, A = some ⟨g, 0, none⟩ ∧ B ≤ g ∧ g < w.heap.size) := own_form h.own

theorem RowS.kept {w w' : World} {B : Nat} {v : Value} {rs : List StR} (h : RowS w B v rs) (hs : w.heap.size ≤ w'.heap.size) (hk : ∀ k, B ≤ k → k < w.heap.size → w'.heap[k]? = w.heap[k]?) : RowS w' B v rs :=
  ⟨own_keep h.own fun g hg => hk g (h.own.lt g hg).1 (h.own.lt g hg).2, fun r hr =>
    ⟨(h.firm r hr).1.move hs (fun k h1 h2 _ => hk k h1 h2) (.inl rfl), (h.firm r hr).2.move hs (fun k h1 h2 _ => hk k h1 h2) (.inl rfl)⟩⟩

theorem RowS.below {w w' : World} {B : Nat} {v : Value} {rs : List StR} (h : RowS w B v rs) (hb : Below w.heap.size w w') : RowS w' B v rs := h.kept hb.size fun k _ hk => hb.block k hk

theorem RowS.but {w w' : World} {B R : Nat} {v : Value} {rs : List StR} (h : RowS w B v rs) (hb : But R w w') (hR : R < B) : RowS w' B v rs := h.kept hb.size fun k h1 hk => hb.block k hk (by omega)

theorem RowS.mono {w : World} {B B' : Nat} {v : Value} {rs : List StR} (h : RowS w B v rs) (hb : B' ≤ B) : RowS w B' v rs := ⟨own_mono h.own hb, fun r hr => ⟨(h.firm r hr).1.wide hb, (h.firm r hr).2.wide hb⟩⟩

/-- Statements more. -/
theorem RowS.more {w w' : World} {B g n cap : Nat} {v : Value} {rs ss : List StR} (h : RowS w B v rs) (hn : rs.length + ss.length = n)
    (hown : w'.ownsRow B 53 6 (.slice (some ⟨g, 0, none⟩) n cap) n (rs.flatMap StR.cells ++ ss.flatMap StR.cells)) (hg : w.grownBy w' v.ownBlock) (hat : v.ownBlock = some g ∨ g = w.heap.size)
    (hf : ∀ r ∈ ss, Firm w B v.ownBlock r.At r.ct r.t ∧ Firm w B v.ownBlock r.Ae r.ce r.e) : RowS w' B (.slice (some ⟨g, 0, none⟩) n cap) (rs ++ ss) := by
  subst hn
  refine ⟨by rw [List.length_append, List.flatMap_append]; exact hown, fun r hr => ?_⟩
  have hh : ∀ {A c s}, Firm w B v.ownBlock A c s → Firm w' B (Value.slice (some ⟨g, 0, none⟩) (rs.length + ss.length) cap).ownBlock A c s := fun {A c s} hf =>
    hf.move hg.size (fun k _ h2 h3 => hg.block k h2 (fun e => h3 e.symm)) (by
      rcases hat with e | e
      · exact .inl e.symm
      · exact .inr fun k hk => by
          have : g = k := by simpa [Value.ownBlock] using hk
          omega)
  rcases List.mem_append.1 hr with hr | hr
  · exact ⟨hh (h.firm r hr).1, hh (h.firm r hr).2⟩
  · exact ⟨hh (hf r hr).1, hh (hf r hr).2⟩

theorem RowS.snoc {w w' : World} {B g cap : Nat} {v : Value} {rs : List StR} {r : StR} (h : RowS w B v rs)
    (hown : w'.ownsRow B 53 6 (.slice (some ⟨g, 0, none⟩) (rs.length + 1) cap) (rs.length + 1) (rs.flatMap StR.cells ++ r.cells)) (hg : w.grownBy w' v.ownBlock) (hat : v.ownBlock = some g ∨ g = w.heap.size)
    (h1 : Firm w B v.ownBlock r.At r.ct r.t) (h2 : Firm w B v.ownBlock r.Ae r.ce r.e) : RowS w' B (.slice (some ⟨g, 0, none⟩) (rs.length + 1) cap) (rs ++ [r]) :=
  h.more (ss := [r]) rfl (by simpa using hown) hg hat fun q hq => by
    rw [List.mem_singleton] at hq
    subst hq
    exact ⟨h1, h2⟩

/-- A list of statements lies where the cells of its row do. -/
theorem rep_of_cells {w : World} {lo hi : Nat} : ∀ (rs : List StR) (a : Addr), (∀ j u, (rs.flatMap StR.cells)[j]? = some u → w.cell? (a.add j) = some u) → (∀ r ∈ rs, RepV w lo hi r.t r.At r.ct ∧ RepV w lo hi r.e r.Ae r.ce) → Rep w lo hi (ofR rs) a
  | [], _, _, _ => trivial
  | r :: rs, a, h, hn => by
    have hc : ∀ j u, r.cells[j]? = some u → w.cell? (a.add j) = some u := fun j u hj => h j u (by
      rw [List.flatMap_cons, List.getElem?_append_left (by rw [StR.cells_length]; exact (List.getElem?_eq_some_iff.1 hj).1)]
      exact hj)
    have h0 := hc 0 _ rfl
    have e0 : a.add 0 = a := by simp [Addr.add]
    rw [e0] at h0
    obtain ⟨⟨t1, t2, t3⟩, e1, e2, e3⟩ := hn r (List.mem_cons_self ..)
    refine ⟨⟨h0, hc 1 _ rfl, hc 2 _ rfl, hc 3 _ rfl⟩, ⟨_, _, hc 4 _ rfl, t1, t2, t3⟩, ⟨_, _, hc 5 _ rfl, e1, e2, e3⟩, rep_of_cells rs (a.add 6) (fun j u hj => ?_) (fun q hq => hn q (List.mem_cons_of_mem _ hq))⟩
    rw [add_add]
    refine h (6 + j) u ?_
    rw [List.flatMap_cons, List.getElem?_append_right (by rw [StR.cells_length]; omega), StR.cells_length, show 6 + j - 6 = j from by omega]
    exact hj

/-- A row reads as its list, in blocks from B on. -/
theorem RowS.rep {w : World} {B n c : Nat} {A : Option Addr} {rs : List StR} (h : RowS w B (.slice A n c) rs) : n = rs.length ∧ RepV w B w.heap.size (ofR rs) A c := by
  obtain ⟨A', c', hv, h1, h2, h3⟩ := h.form
  injection hv with e1 e2 e3
  subst e1 e2 e3
  refine ⟨rfl, by rw [ofR_len]; exact h1, h2, fun h0 => ?_⟩
  rw [ofR_len] at h0
  obtain ⟨g, rfl, hB, hg⟩ := h3 h0
  exact ⟨_, rfl, hB, hg, rep_of_cells rs _ (fun j u hj => World.ownsRow.cells h.own (g := g) rfl j u hj) fun r hr => ⟨(h.firm r hr).1.rep, (h.firm r hr).2.rep⟩⟩

end Go.Proofs.Ytcpmodkplikmcaa
