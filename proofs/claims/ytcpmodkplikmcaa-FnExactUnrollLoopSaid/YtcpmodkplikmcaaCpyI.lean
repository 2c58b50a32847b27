/-
  The program's deep copy of statements: a row of its own, and the lists under it share nothing.
-/
import Derived.Test.YtcpmodkplikmcaaTsh
import Derived.Deep.DeepCutAuto
import Derived.Deep.RegionHeld3
namespace Go.Proofs.Ytcpmodkplikmcaa
open Go.RowKit Go.Deep
set_option linter.unusedVariables false

/-- What the copy leaves. -/
def CpyP (s : Sts) (w : World) (E : Ending) (w' : World) : Prop := ∃ (rs : List StR) (A : Option Addr) (c : Nat), E = .returned (.slice A rs.length c) ∧ RowT w' w.heap.size (.slice A rs.length c) rs ∧ ofR rs = s ∧ Below w.heap.size w w'

/-- Statements ahead of a list. -/
def ofB : List StR → Sts → Sts
  | [], u => u
  | r :: rs, u => .cons r.op r.x r.y r.n r.t r.e (ofB rs u)

theorem ofB_snoc : ∀ (rs : List StR) (r : StR) (u : Sts), ofB (rs ++ [r]) u = ofB rs (.cons r.op r.x r.y r.n r.t r.e u)
  | [], _, _ => rfl
  | q :: rs, r, u => by rw [List.cons_append]; unfold ofB; rw [ofB_snoc rs r u]

theorem ofB_nil : ∀ rs : List StR, ofB rs .nil = ofR rs
  | [] => rfl
  | q :: rs => by unfold ofB ofR; rw [ofB_nil rs]

/-- A row and the lists under it read as statements, in blocks of their own. -/
theorem RowT.sub {w : World} {B n c : Nat} {A : Option Addr} {rs : List StR} (h : RowT w B (.slice A n c) rs) : n = rs.length ∧ SubI w B w.heap.size (ofR rs) A c := by
  obtain ⟨A', c', hv, h1, h2, h3⟩ := h.form
  injection hv with e1 e2 e3
  subst e1 e2 e3
  refine ⟨rfl, by rw [ofR_len]; exact h1, h2, h.subs.le, fun h0 => ?_⟩
  rw [ofR_len] at h0
  obtain ⟨g, rfl, hB, hg⟩ := h3 h0
  have hc := World.ownsRow.cells h.own (g := g) rfl
  refine ⟨g, rfl, hB, hg, fun q => ?_, ?_⟩
  · rcases h.own.2 with ⟨e1, e2⟩ | ⟨g', cap, cur, e1, _, e3, _⟩
    · omega
    · simp only [Value.slice.injEq, Option.some.injEq, Addr.mk.injEq, and_true] at e1
      obtain ⟨⟨rfl, _⟩, _⟩ := e1
      exact frozen_of_block e3 q
  · have hs := h.subs
    have hown : (Value.slice (some ⟨g, 0, none⟩) rs.length c).ownBlock = some g := rfl
    rw [hown] at hs
    have key : ∀ (qs : List StR) (o lo hi : Nat), Subs w (some g) lo qs hi → (∀ j u, (qs.flatMap StR.cells)[j]? = some u → w.cell? ⟨g, o + j, none⟩ = some u) → TrI w (ofR qs) g o lo hi := by
      intro qs
      induction qs with
      | nil => intro o lo hi hs _; exact hs
      | cons r qs ih =>
        intro o lo hi hs hc
        obtain ⟨l, m, h', h1, h2, h3, h4, h5, h6, hr⟩ := hs
        have hcr : ∀ j u, r.cells[j]? = some u → w.cell? ⟨g, o + j, none⟩ = some u := fun j u hj => hc j u (by
          rw [List.flatMap_cons, List.getElem?_append_left (by rw [StR.cells_length]; exact (List.getElem?_eq_some_iff.1 hj).1)]
          exact hj)
        refine ⟨⟨hcr 0 _ rfl, hcr 1 _ rfl, hcr 2 _ rfl, hcr 3 _ rfl⟩, l, m, h', h1, h2, h3, h4 g rfl, ⟨_, _, hcr 4 _ rfl, h5.1, h5.2.1, h5.2.2.2⟩, ⟨_, _, hcr 5 _ rfl, h6.1, h6.2.1, h6.2.2.2⟩, ih (o + 6) h' hi hr fun j u hj => ?_⟩
        have := hc (6 + j) u (by
          rw [List.flatMap_cons, List.getElem?_append_right (by rw [StR.cells_length]; omega), StR.cells_length, show 6 + j - 6 = j from by omega]
          exact hj)
        rw [show o + 6 + j = o + (6 + j) from by omega]
        exact this
    exact key rs 0 B w.heap.size hs fun j u hj => by
      have := hc j u hj
      rw [Nat.zero_add]
      rwa [add_block, Nat.zero_add] at this

set_option maxRecDepth 100000 in
set_option maxHeartbeats 4000000 in
theorem copyStmts_any (M : Nat) : ∀ (s : Sts) (A0 : Option Addr) (c0 : Nat) (w : World), s.size < M → s.size ≤ 100000 → RepV w 0 w.heap.size s A0 c0 →
    Calls Try.prog 103 #[.slice A0 s.len c0] w (CpyP s w) := by
  induction M with
  | zero => intro s A0 c0 w h; omega
  | succ M ih =>
    intro s A0 c0 w hM hsz hRep
    obtain ⟨i0, hi, hz0, hz1, hz2⟩ := info_parts Try.infoStmt
    have HI := Lib.hid hi
    have HZ0 := Lib.hid hz0
    have HZ1 := Lib.hid hz1
    have HZ2 := Lib.hid hz2
    have hlc := hRep.1
    have hcm := hRep.2.1
    unfold maxLen at hcm
    have hls := s.len_le_size
    have HREP := Lib.hid hRep
    have HR0 := Lib.hid (RowT.nil0 w w.heap.size (Nat.le_refl _))
    clear hi hz0 hz1 hz2 hRep
    obtain ⟨len, hlen⟩ : ∃ len, s.len = len := ⟨_, rfl⟩
    have HLEN := Lib.hid hlen
    rw [hlen] at hlc hls ⊢
    clear hlen
    replace ih := Lib.hid ih
    go_enter Try.func103, Try.ntmps103
    go_wp2_with fail
    go_loopw [3, 8] (fun o i wr => ∃ (k : Nat) (rs : List StR) (A : Option Addr) (c : Nat), i = .int .i64 (k : Int) ∧ o = .slice A rs.length c ∧ k ≤ len ∧ Hid (rs.length = k) ∧ Hid (RowT wr w.heap.size (.slice A rs.length c) rs) ∧ Hid (ofB rs (s.drop k) = s) ∧ Below w.heap.size w wr) (fun _ i _ => len - (intOf i).toNat)
    case atStart => exact ⟨0, [], none, 0, rfl, rfl, Nat.zero_le _, rfl, HR0, by unfold Hid; rfl, Below.refl _ _⟩
    case round =>
      obtain ⟨k, rs, A, c, rfl, rfl, hk, hl, hR, hof, hb⟩ := hrel
      clear HR0
      have hbz := hb.size
      have hrl : rs.length ≤ 100000 := by rw [hl.out]; omega
      obtain ⟨q, hq⟩ : ∃ q, rs.length = q := ⟨_, rfl⟩
      have HQ := Lib.hid hq
      rw [hq] at hR hrl ⊢
      clear hq
      by_cases hlt : k < len
      · obtain ⟨b, op, x, y, n, t, e, rfl, -, hbb, hdr, At, ct, Ae, ce, ⟨h0, h1, h2, h3, h4, h5⟩, hRt, hRe⟩ := (HREP.out.below hb hb.size).elem (k := k) (by rw [HLEN.out]; exact hlt)
        have hdz := RepV.drop_sizes hdr
        obtain ⟨tl, htl⟩ : ∃ q, t.len = q := ⟨_, rfl⟩
        obtain ⟨el, hel⟩ : ∃ q, e.len = q := ⟨_, rfl⟩
        have HTL := Lib.hid htl
        have HEL := Lib.hid hel
        have hof2 : Hid (∀ At ct Ae ce, ofB (rs ++ [⟨op, x, y, n, t, e, At, ct, Ae, ce⟩]) (s.drop (k + 1)) = s) := fun At ct Ae ce => by
          rw [ofB_snoc]
          have := hof.out
          rw [hdr] at this
          exact this
        rw [htl] at h4
        rw [hel] at h5
        have HRT := Lib.hid hRt
        have HRE := Lib.hid hRe
        have hbk : (b.add (k * 6)).block < wr.heap.size := by rw [block_add]; exact hbb
        clear hdr htl hel hRt hRe hof
        go_upto_region 5 with (fail)
        obtain ⟨W0, hW0⟩ : ∃ z, wr.alloc (.cells #[.int .i64 op, .int .i64 x, .int .i64 y, .int .i64 n, .slice At tl ct, .slice Ae el ce] 53) = z := ⟨_, rfl⟩
        have hz0 : W0.heap.size = wr.heap.size + 1 := by rw [← hW0]; simp
        have hbl : W0.heap[wr.heap.size]? = some (.cells #[.int .i64 op, .int .i64 x, .int .i64 y, .int .i64 n, .slice At tl ct, .slice Ae el ce] 53 (0, 0)) := by rw [← hW0]; exact heap_alloc_new wr _
        have hb0 : Below wr.heap.size wr W0 := by rw [← hW0]; exact (Below.refl _ _).alloc (Nat.le_refl _) _
        have HBL := Lib.hid hbl
        have HB0 := Lib.hid hb0
        have k4 : W0.cell? ⟨wr.heap.size, 4, none⟩ = some (.slice At tl ct) := (cell_of_block hbl 4).trans rfl
        have k5 : W0.cell? ⟨wr.heap.size, 5, none⟩ = some (.slice Ae el ce) := (cell_of_block hbl 5).trans rfl
        have hbox : ∀ W : World, Below W0.heap.size W0 W → W.heap[wr.heap.size]? = some (.cells #[.int .i64 op, .int .i64 x, .int .i64 y, .int .i64 n, .slice At tl ct, .slice Ae el ce] 53 (0, 0)) := fun W hW => (hW.block _ (by omega)).trans hbl
        have HC4 : Hid (∀ W : World, Below W0.heap.size W0 W → W.heap.size = W0.heap.size → Calls Try.prog 103 #[.slice At tl ct] W fun E w' => ∃ (A4 : Option Addr) (c4 : Nat), E = .returned (.slice A4 tl c4) ∧ SubI w' (wr.heap.size + 1) w'.heap.size t A4 c4 ∧ Below W0.heap.size W0 w' ∧ w'.cell? ⟨wr.heap.size, 5, none⟩ = some (.slice Ae el ce)) := fun W hW hWz => by
          have h1 := ih.out t At ct W (by omega) (by omega) (HRT.out.below (hb0.trans (hW.mono (by omega))) (by have := hW.size; omega))
          rw [HTL.out] at h1
          refine h1.mono ?_
          rintro E w' ⟨rs, A, c, rfl, hR, ho, hb⟩
          have hl : rs.length = tl := by rw [← ofR_len, ho]; exact HTL.out
          have hs := hR.sub.2
          rw [ho, hWz, hz0] at hs
          have hbb := hW.trans (hb.mono (by omega))
          exact ⟨A, c, by rw [hl], hs, hbb, (cell_of_block (hbox w' hbb) 5).trans rfl⟩
        have HC5 : Hid (∀ W : World, Below W0.heap.size W0 W → Calls Try.prog 103 #[.slice Ae el ce] W fun E w' => ∃ (A5 : Option Addr) (c5 : Nat), E = .returned (.slice A5 el c5) ∧ SubI w' W.heap.size w'.heap.size e A5 c5 ∧ Below W.heap.size W w' ∧ Below W0.heap.size W0 w' ∧ w'.cell? ⟨wr.heap.size, 4, none⟩ = some (.slice At tl ct) ∧ w'.cell? ⟨wr.heap.size, 5, none⟩ = some (.slice Ae el ce) ∧ w'.frozen? ⟨wr.heap.size, 4, none⟩ = false ∧ w'.frozen? ⟨wr.heap.size, 5, none⟩ = false) := fun W hW => by
          have h1 := ih.out e Ae ce W (by omega) (by omega) (HRE.out.below (hb0.trans (hW.mono (by omega))) (by have := hW.size; omega))
          rw [HEL.out] at h1
          refine h1.mono ?_
          rintro E w' ⟨rs, A, c, rfl, hR, ho, hb⟩
          have hl : rs.length = el := by rw [← ofR_len, ho]; exact HEL.out
          have hs := hR.sub.2
          rw [ho] at hs
          have hbb := hW.trans (hb.mono hW.size)
          exact ⟨A, c, by rw [hl], hs, hb, hbb, (cell_of_block (hbox w' hbb) 4).trans rfl, (cell_of_block (hbox w' hbb) 5).trans rfl, frozen_of_block (hbox w' hbb) 4, frozen_of_block (hbox w' hbb) 5⟩
        clear hbl hb0 hbox h0 h1 h2 h3 h4 h5
        rw [hW0]
        clear hW0
        have tok1 : True := trivial
        go_cut [] (fun wx => ∃ (A4 A5 : Option Addr) (c4 c5 m : Nat), Hid (wx.heap[wr.heap.size]? = some (.cells #[.int .i64 op, .int .i64 x, .int .i64 y, .int .i64 n, .slice A4 tl c4, .slice A5 el c5] 53 (0, 0))) ∧ Hid (SubI wx (wr.heap.size + 1) m t A4 c4) ∧ Hid (SubI wx m wx.heap.size e A5 c5) ∧ Hid (Below wr.heap.size wr wx))
        case first =>
          go_region_with (first
            | (go_at_call 103; have _t := tok1; refine (HC4.out _ ?b4 ?b4z).mono ?_; (case b4 => first | exact Below.refl _ _ | exact (Below.refl _ _).drew); (case b4z => rfl); rintro E w4 ⟨A4, c4, rfl, hR4, hb4, k5⟩; clear tok1)
            | (go_at_call 103; refine (HC5.out _ ?b5).mono ?_; (case b5 => first | exact hb4 | exact hb4.drew); rintro E w5 ⟨A5, c5, rfl, hR5, hb5, hb6, x4, x5, y4, y5⟩))
          all_goals (
            go_wp2_with fail
            go_meet
            have hbx := (hb6.block wr.heap.size (by omega)).trans HBL.out
            have hz6 := hb6.size
            have hz5 : w4.heap.size ≤ w5.heap.size := hb5.size
            refine ⟨A4, A5, c4, c5, w4.heap.size, ?_, ?_, ?_, ?_⟩
            · first | exact block_set (block_set hbx 4 _) 5 _ | exact block_set (block_set hbx 5 _) 4 _
            · exact (hR4.keep fun k h1 h2 => hb5.block k h2).keep fun k h1 h2 => (Below.heap_setCell _ _ _ _ (by show k ≠ wr.heap.size; omega)).trans (Below.heap_setCell _ _ _ _ (by show k ≠ wr.heap.size; omega))
            · exact SubI.wide (SubI.keep hR5 fun k (h1 : w4.heap.size ≤ k) h2 => (Below.heap_setCell _ _ _ _ (by show k ≠ wr.heap.size; have := hb4.size; omega)).trans (Below.heap_setCell _ _ _ _ (by show k ≠ wr.heap.size; have := hb4.size; omega))) (Nat.le_refl _) (by simp [World.setCell])
            · exact ((HB0.out.trans (hb6.mono (by omega))).setCell (by show wr.heap.size ≤ wr.heap.size; omega) _).setCell (by show wr.heap.size ≤ wr.heap.size; omega) _)
        case rest =>
          obtain ⟨A4, A5, c4, c5, m, HBX, HT4, HE5, HBB⟩ := hcut
          have hBX := HBX.out
          have k0 : wc.cell? ⟨wr.heap.size, 0, none⟩ = some (.int .i64 op) := (cell_of_block hBX 0).trans rfl
          have k1 : wc.cell? ⟨wr.heap.size, 1, none⟩ = some (.int .i64 x) := (cell_of_block hBX 1).trans rfl
          have k2 : wc.cell? ⟨wr.heap.size, 2, none⟩ = some (.int .i64 y) := (cell_of_block hBX 2).trans rfl
          have k3 : wc.cell? ⟨wr.heap.size, 3, none⟩ = some (.int .i64 n) := (cell_of_block hBX 3).trans rfl
          have k4 : wc.cell? ⟨wr.heap.size, 4, none⟩ = some (.slice A4 tl c4) := (cell_of_block hBX 4).trans rfl
          have k5 : wc.cell? ⟨wr.heap.size, 5, none⟩ = some (.slice A5 el c5) := (cell_of_block hBX 5).trans rfl
          have HCL : Hid (StR.cells ⟨op, x, y, n, t, e, A4, c4, A5, c5⟩ = [.int .i64 op, .int .i64 x, .int .i64 y, .int .i64 n, .slice A4 tl c4, .slice A5 el c5]) := by unfold Hid StR.cells; simp only [HTL.out, HEL.out]
          have hRw := hR.out.below HBB.out
          have HOWN : Hid (wc.ownsRow w.heap.size 53 6 (.slice A q c) q (rs.flatMap StR.cells)) := by
            have := hRw.own
            rwa [HQ.out] at this
          have HSUB : Hid (Subs wc (Value.slice A q c).ownBlock w.heap.size rs wr.heap.size) := hR.out.subs.keep fun k h1 h2 _ => HBB.out.block k h2
          have hoff : Hid (∀ k, (Value.slice A q c).ownBlock = some k → k < wr.heap.size) := fun k hk => (hR.out.own.lt k hk).2
          have zz := HBB.out.size
          have hmle := HE5.out.2.2.1
          have hmle2 := HT4.out.2.2.1
          clear hBX hRw HC4 HC5 tok1
          go_wp2_with (at_builtin; refine wpList_append_lies _ rfl _ _ 27 rfl w.heap.size 53 i0 (.agg #[.int .i64 0, .int .i64 0, .int .i64 0, .int .i64 0, .slice none 0 0, .slice none 0 0]) 6 80 Try.underlying27 HI.out HZ0.out HZ1.out HZ2.out rfl (by decide) _ _ _ rfl (HOWN.out.alloc _) ⟨_, 0, none⟩ 1 1 [.int .i64 op, .int .i64 x, .int .i64 y, .int .i64 n, .slice A4 tl c4, .slice A5 el c5] rfl rfl ?la1 ?la2 (by decide) ?la3 ?la4 ?la5 _ rfl ?_)
          try (case la1 => exact news1 (by simp) rfl)
          try (case la2 => intro u hu; simp only [List.mem_cons, List.not_mem_nil, or_false] at hu; rcases hu with rfl | rfl | rfl | rfl | rfl | rfl <;> rfl)
          try (case la3 => unfold maxLen; omega)
          try (case la4 => omega)
          try (case la5 => first | omega | (simp; omega))
          intro g2 cap2 w' hown' hg hat hlt'
          have hbA := (Below.refl wc.heap.size wc).alloc (Nat.le_refl _) (.cells #[.int .i64 op, .int .i64 x, .int .i64 y, .int .i64 n, .slice A4 tl c4, .slice A5 el c5] 53)
          have hR' : RowT w' w.heap.size (.slice (some ⟨g2, 0, none⟩) (rs.length + 1) cap2) (rs ++ [⟨op, x, y, n, t, e, A4, c4, A5, c5⟩]) := by
            refine RowT.snoc (l := wr.heap.size + 1) (m := m) ((Subs.wide HSUB.out (Nat.le_refl _) (by omega)).keep fun k h1 h2 _ => hbA.block k (by omega)) (fun k hk => by have := hoff.out k hk; omega) (HT4.out.keep fun k h1 h2 => hbA.block k (by omega)) (SubI.wide (HE5.out.keep fun k h1 h2 => hbA.block k h2) (Nat.le_refl _) (by simp)) ?_ hg (hat.imp id fun e => e.trans (by simp))
            rw [HQ.out, HCL.out]
            exact hown'
          have HR' := Lib.hid hR'
          have hb' : Below w.heap.size w w' := ((hb.trans (HBB.out.mono hbz)).alloc (by omega) _).grown hg (by simp; omega) (fun k hk => (HOWN.out.lt k hk).1)
          clear hown' hg hat hbA hR' HOWN
          go_wp2_with fail
          go_roundw
          case rel => exact ⟨k + 1, rs ++ [⟨op, x, y, n, t, e, A4, c4, A5, c5⟩], _, cap2, by go_num, by rw [List.length_append, HQ.out]; rfl, by omega, by unfold Hid; rw [List.length_append, hl.out]; rfl, by unfold Hid; rw [List.length_append]; exact HR'.out, by unfold Hid; exact hof2.out _ _ _ _, hb'⟩
          case measure => simp [intOf]; omega
      · obtain rfl : k = len := by omega
        have HE : Hid (ofR rs = s) := by
          unfold Hid
          have := hof.out
          rw [← HLEN.out, Sts.drop_len, ofB_nil] at this
          exact this
        clear hof
        go_wp2_with fail
        go_ret
        exact ⟨rs, A, c, by rw [HQ.out]; rfl, by rw [HQ.out]; exact hR.out, HE.out, hb⟩

end Go.Proofs.Ytcpmodkplikmcaa
