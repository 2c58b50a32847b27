/-
  Stores into a memory that a call owns.
-/
import Derived.Test.YtfkoobdlhdolbaaDoorCelA
namespace Go.Proofs.YtfkoobdlhdolbaaDoor
open Go.RowKit Go.Deep
set_option linter.unusedVariables false

theorem mem_mid {cs : List CellD} {rs : List (CellD × Value)} {i : Nat} {d : CellD} (h : rs.map Prod.fst = cs) (hd : cs[i]? = some d) : ∃ A C u, rs = A ++ (d, u) :: C ∧ A.length = i := by
  subst h
  rw [List.getElem?_map] at hd
  obtain ⟨p, hp, rfl⟩ := Option.map_eq_some_iff.1 hd
  have hi := (List.getElem?_eq_some_iff.1 hp).1
  refine ⟨rs.take i, rs.drop (i + 1), p.2, ?_, by simp; omega⟩
  rw [← (List.getElem?_eq_some_iff.1 hp).2]
  conv => lhs; rw [← List.take_append_drop i rs]
  rw [List.drop_eq_getElem_cons hi]

theorem mid_set {A C : List (CellD × Value)} {p q : CellD × Value} {cs : List CellD} {i : Nat} (h : (A ++ p :: C).map Prod.fst = cs) (hi : A.length = i) : (A ++ q :: C).map Prod.fst = cs.set i q.1 := by
  subst h hi
  rw [List.map_append, List.map_cons, List.map_append, List.map_cons, List.set_append_right _ _ (by simp)]
  simp

/-- A longer stack in the place of one: in its own block, or in a new one. -/
theorem RowU.regrow {w w' : World} {B g n cap : Nat} {A C : List (CellD × Value)} {p : CellD × Value} {ts : List TagD} {v' : Value} (h : RowU w B (.slice (some ⟨g, 0, none⟩) n cap) (A ++ p :: C)) (hn : (A ++ p :: C).length = n)
    (hg : w.grownBy w' p.2.ownBlock) (ht : RowT w' B v' ts) (hv : v'.ownBlock = p.2.ownBlock ∨ v'.ownBlock = some w.heap.size) :
    RowU (w'.setCell ⟨g, A.length * 4 + 3, none⟩ v') B (.slice (some ⟨g, 0, none⟩) n cap) (A ++ ({ p.1 with tags := ts }, v') :: C) := by
  have hpm : (A ++ p :: C)[A.length]? = some p := by simp
  have hgl := (h.own.lt g rfl).2
  have hgp := h.notTag rfl A.length p hpm
  obtain ⟨cur, hcur⟩ := ownBlock_row h.own g rfl
  have hown := own_keep (w' := w') h.own fun k hk => hg.block k (h.own.lt k hk).2 (by
    have : g = k := by simpa [Value.ownBlock] using hk
    subst this
    exact fun e => hgp e.symm)
  have hvg : v'.ownBlock ≠ some g := by
    rcases hv with e | e
    · rw [e]; exact hgp
    · rw [e]
      intro e2
      injection e2 with e2
      omega
  refine ⟨?_, fun j q hq => ?_, ?_⟩
  · have h1 := World.ownsRow.stored' hown hn (A.length * 4 + 3) v'
    rw [flat_mid, flat_set crow_length A C p (crow p) 3 v' (crow_length p) (by omega)] at h1
    have hl : (A ++ (({ p.1 with tags := ts } : CellD), v') :: C).length = n := by rw [← hn]; simp
    rw [hl, flat_mid]
    simpa [crow] using h1
  · rcases mid_get (p := p) hq with ⟨_, rfl⟩ | ⟨hj, hq'⟩
    · exact own_keep ht fun k hk => heap_set fun e => hvg (by rw [hk]; simpa using e)
    · have hne : ∀ k, q.2.ownBlock = some k → k < w.heap.size ∧ some k ≠ p.2.ownBlock ∧ k ≠ g := by
        intro k hk
        refine ⟨(World.ownsRow.lt (h.tags j q hq') k hk).2, fun e => h.apart j A.length q p k k hj hq' hpm hk e.symm rfl, fun e => ?_⟩
        subst e
        exact h.notTag rfl j q hq' hk
      exact own_keep (own_keep (h.tags j q hq') fun k hk => hg.block k (hne k hk).1 (hne k hk).2.1) fun k hk => heap_set fun e => (hne k hk).2.2 (by simpa using e)
  · have hap : ∀ (j : Nat) (q : CellD × Value) (a : Nat), j ≠ A.length → (A ++ p :: C)[j]? = some q → q.2.ownBlock = some a → v'.ownBlock ≠ some a := by
      intro j q a hj hq ha e
      rcases hv with e2 | e2
      · exact h.apart j A.length q p a a hj hq hpm ha (by rw [← e2]; exact e) rfl
      · rw [e2] at e
        injection e with e
        have := (World.ownsRow.lt (h.tags j q hq) a ha).2
        omega
    intro i j q r a b hij hq hr ha hb
    rcases mid_get (p := p) hq with ⟨hi, e1⟩ | ⟨hi, hq'⟩
    · rcases mid_get (p := p) hr with ⟨hj, e2⟩ | ⟨hj, hr'⟩
      · omega
      · subst e1
        intro e
        subst e
        exact hap j r a hj hr' hb ha
    · rcases mid_get (p := p) hr with ⟨hj, e2⟩ | ⟨hj, hr'⟩
      · subst e2
        intro e
        subst e
        exact hap i q a hi hq' ha hb
      · exact h.apart i j q r a b hij hq' hr' ha hb

/-- What lies at a cell of a memory that a call owns, and what stores into it make. -/
structure CellAt (w : World) (B g n c i : Nat) (cs : List CellD) (d : CellD) (Au : Option Addr) (cu : Nat) : Prop where
  bg : B ≤ g
  lt : g < w.heap.size
  len : n = cs.length
  cap : n ≤ c
  max : c ≤ maxLen
  c0 : w.cell? ⟨g, i * 4, none⟩ = some (.int .i64 d.val)
  c1 : w.cell? ⟨g, i * 4 + 1, none⟩ = some (.bool d.alive)
  c2 : w.cell? ⟨g, i * 4 + 2, none⟩ = some (.int .i64 d.next)
  c3 : w.cell? ⟨g, i * 4 + 3, none⟩ = some (.slice Au d.tags.length cu)
  fz : ∀ o, w.frozen? ⟨g, o, none⟩ = false
  tags : RowT w B (.slice Au d.tags.length cu) d.tags
  put0 : ∀ x, RowC (w.setCell ⟨g, i * 4, none⟩ (.int .i64 x)) B (.slice (some ⟨g, 0, none⟩) n c) (cs.set i { d with val := x })
  put1 : ∀ x, RowC (w.setCell ⟨g, i * 4 + 1, none⟩ (.bool x)) B (.slice (some ⟨g, 0, none⟩) n c) (cs.set i { d with alive := x })
  put2 : ∀ x, RowC (w.setCell ⟨g, i * 4 + 2, none⟩ (.int .i64 x)) B (.slice (some ⟨g, 0, none⟩) n c) (cs.set i { d with next := x })
  grow : ∀ (w' : World) (v' : Value) (ts : List TagD), w.grownBy w' (Value.slice Au d.tags.length cu).ownBlock → RowT w' B v' ts → (v'.ownBlock = (Value.slice Au d.tags.length cu).ownBlock ∨ v'.ownBlock = some w.heap.size) →
    RowC (w'.setCell ⟨g, i * 4 + 3, none⟩ v') B (.slice (some ⟨g, 0, none⟩) n c) (cs.set i { d with tags := ts })

theorem RowC.at_ {w : World} {B n c i : Nat} {A : Option Addr} {cs : List CellD} {d : CellD} (h : RowC w B (.slice A n c) cs) (hd : cs[i]? = some d) : ∃ g Au cu, A = some ⟨g, 0, none⟩ ∧ CellAt w B g n c i cs d Au cu := by
  obtain ⟨rs, hrs, hU⟩ := h
  obtain ⟨Ar, Cr, u, rfl, hl⟩ := mem_mid hrs hd
  have hlen : (Ar ++ (d, u) :: Cr).length = cs.length := by rw [← hrs, List.length_map]
  obtain ⟨A', c', e1, k1, k2, e2⟩ := own_form hU.own
  injection e1 with e3 e4 e5
  subst e3 e5
  have hn : n = cs.length := by omega
  obtain ⟨g, rfl, h1, h2⟩ := e2 (by simp; omega)
  have hlen2 : (Ar ++ (d, u) :: Cr).length = n := by omega
  obtain ⟨s0, s1, s2, s3, sf, hT, hng⟩ := hU.cells4 hlen2
  obtain ⟨Au, cu, eu, _, _, _⟩ := own_form hT
  simp only at eu
  subst eu
  have hp0 : ∀ x, _ := fun x => (hU.put hlen2 { d with val := x } 0 (.int .i64 x) (by omega) rfl rfl).1
  have hp1 : ∀ x, _ := fun x => (hU.put hlen2 { d with alive := x } 1 (.bool x) (by omega) rfl rfl).1
  have hp2 : ∀ x, _ := fun x => (hU.put hlen2 { d with next := x } 2 (.int .i64 x) (by omega) rfl rfl).1
  have hp3 := fun (w' : World) (v' : Value) (ts : List TagD) a b c => hU.regrow (w' := w') (v' := v') (ts := ts) hlen2 a b c
  rw [hl] at s0 s1 s2 s3 hp0 hp1 hp2 hp3
  exact ⟨g, Au, cu, rfl, h1, h2, hn, by omega, k2, s0, s1, s2, s3, sf, hT, fun x => ⟨_, mid_set hrs hl, hp0 x⟩, fun x => ⟨_, mid_set hrs hl, hp1 x⟩, fun x => ⟨_, mid_set hrs hl, hp2 x⟩, fun w' v' ts a b c => ⟨_, mid_set hrs hl, hp3 w' v' ts a b c⟩⟩

/-- A store below a row. -/
theorem RowC.setLow {w : World} {B g o : Nat} {v x : Value} {cs : List CellD} (h : RowC w B v cs) (hg : g < B) : RowC (w.setCell ⟨g, o, none⟩ x) B v cs := by
  obtain ⟨rs, h1, h2⟩ := h
  refine ⟨rs, h1, ⟨own_keep h2.own fun k hk => heap_set fun e => ?_, fun j p hp => own_keep (h2.tags j p hp) fun k hk => heap_set fun e => ?_, h2.apart⟩⟩
  · have := (h2.own.lt k hk).1
    simp at e
    omega
  · have := (World.ownsRow.lt (h2.tags j p hp) k hk).1
    simp at e
    omega

/-- A store into a block of another kind. -/
theorem RowC.setType {w : World} {B k o : Nat} {v x : Value} {cs : List CellD} {cur : Array Value} {T : TypeId} {fr : Nat × Nat} (h : RowC w B v cs) (hk : w.heap[k]? = some (.cells cur T fr)) (h1 : T ≠ 33) (h2 : T ≠ 35) : RowC (w.setCell ⟨k, o, none⟩ x) B v cs := by
  obtain ⟨rs, e1, e2⟩ := h
  have hne : ∀ (u : Value) (b size n : Nat) (e : TypeId) (xs : List Value), w.ownsRow b e size u n xs → T ≠ e → ∀ g, u.ownBlock = some g → g ≠ k := by
    intro u b size n e xs hu hT g hg e3
    subst e3
    obtain ⟨cur', hc⟩ := ownBlock_row hu g hg
    rw [hk] at hc
    injection hc with hc
    injection hc with _ hc _
    exact hT hc
  exact ⟨rs, e1, ⟨own_keep e2.own fun g hg => heap_set (hne _ _ _ _ _ _ e2.own h1 g hg), fun j p hp => own_keep (e2.tags j p hp) fun g hg => heap_set (hne _ _ _ _ _ _ (e2.tags j p hp) h2 g hg), e2.apart⟩⟩

end Go.Proofs.YtfkoobdlhdolbaaDoor
