/-
  The model's deep copy of statements: a row of its own.
  The model's deep copy of a program: rows of its own.
  The model's copy of a program that is sometimes bent.
  The model's copy of a program that is sometimes bent: the walk.
-/
import Derived.Test.YtlddoookojjleaaGreatDoorZDwB
import Derived.Deep.DeepCutAuto
import Derived.Test.YtlddoookojjleaaGreatDoorZDwC
import Derived.Deep.RegionLaw
import Derived.StillTailTactics
namespace Go.Proofs.YtlddoookojjleaaGreatDoor
open Go.RowKit Go.Deep
set_option linter.unusedVariables false

def CopyP (s : Sts) (w : World) (E : Ending) (w' : World) : Prop := ∃ (rs : List StR) (A : Option Addr) (c : Nat), E = .returned (.slice A rs.length c) ∧ RowS w' w.heap.size (.slice A rs.length c) rs ∧ ofR rs = s ∧ Below w.heap.size w w'

/-- Statements ahead of a list. -/
def ofA : List StR → Sts → Sts
  | [], u => u
  | r :: rs, u => .cons r.op r.x r.y r.n r.t r.e (ofA rs u)

theorem ofA_snoc : ∀ (rs : List StR) (r : StR) (u : Sts), ofA (rs ++ [r]) u = ofA rs (.cons r.op r.x r.y r.n r.t r.e u)
  | [], _, _ => rfl
  | q :: rs, r, u => by rw [List.cons_append]; unfold ofA; rw [ofA_snoc rs r u]

theorem repV_zero {w : World} {lo hi : Nat} {s : Sts} (h : s.len = 0) : RepV w lo hi s none 0 := ⟨by omega, by simp [maxLen], fun h2 => absurd h2 (by omega)⟩

theorem ofA_nil : ∀ rs : List StR, ofA rs .nil = ofR rs
  | [] => rfl
  | q :: rs => by unfold ofA ofR; rw [ofA_nil rs]

/-- What the round knows of the statement under way. -/
structure CpyK (w : World) (g : Nat) (q : Nat) (A : Option Addr) (c : Nat) (rs : List StR) (cs : Array Value) (wb w0 : World) : Prop where
  blk : w0.heap[g]? = some (.cells cs 86 (0, 0))
  row : RowS w0 w.heap.size (.slice A q c) rs
  bel : Below wb.heap.size wb w0

theorem CpyK.call {w : World} {g q : Nat} {A : Option Addr} {c : Nat} {rs : List StR} {cs : Array Value} {wb w0 w1 : World} (h : CpyK w g q A c rs cs wb w0) (hb : Below w0.heap.size w0 w1) : CpyK w g q A c rs cs wb w1 :=
  ⟨(hb.block g (heap_lt h.blk)).trans h.blk, h.row.below hb, h.bel.trans (hb.mono h.bel.size)⟩

theorem CpyK.put {w : World} {g q : Nat} {A : Option Addr} {c : Nat} {rs : List StR} {cs : Array Value} {wb w0 : World} (h : CpyK w g q A c rs cs wb w0) (hg : wb.heap.size ≤ g) (hne : ∀ k, (Value.slice A q c).ownBlock = some k → k < g) (hl : RowS wb w.heap.size (.slice A q c) rs) (o : Nat) (u : Value) :
    CpyK w g q A c rs (cs.setIfInBounds o u) wb (w0.setCell ⟨g, o, none⟩ u) :=
  ⟨block_set h.blk o u, hl.below (h.bel.setCell hg u), h.bel.setCell hg u⟩

set_option maxRecDepth 100000 in
set_option maxHeartbeats 4000000 in
theorem l1Copy_any (M : Nat) : ∀ (s : Sts) (A0 : Option Addr) (c0 : Nat) (w : World), s.size < M → s.size ≤ 100000 → RepV w 0 w.heap.size s A0 c0 →
    Calls Tryz.prog 63 #[.slice A0 s.len c0] w (CopyP s w) := by
  induction M with
  | zero => intro s A0 c0 w h; omega
  | succ M ih =>
    intro s A0 c0 w hM hsz hRep
    obtain ⟨i0, hi, hz0, hz1, hz2⟩ := info_parts Tryz.infoStmt
    have HI := Lib.hid hi
    have HZ0 := Lib.hid hz0
    have HZ1 := Lib.hid hz1
    have HZ2 := Lib.hid hz2
    have hlc := hRep.1
    have hcm := hRep.2.1
    unfold maxLen at hcm
    have hls := s.len_le_size
    have HREP := Lib.hid hRep
    have HR0 := Lib.hid (RowS.lit0 w w.heap.size (Nat.le_refl _))
    have HB0 := Lib.hid ((Below.refl w.heap.size w).alloc (Nat.le_refl _) (.cells #[] 86))
    clear hi hz0 hz1 hz2 hRep
    obtain ⟨len, hlen⟩ : ∃ len, s.len = len := ⟨_, rfl⟩
    have HLEN := Lib.hid hlen
    rw [hlen] at hlc hls ⊢
    clear hlen
    replace ih := Lib.hid ih
    go_enter Tryz.func63, Tryz.ntmps63
    go_wp2_with fail
    go_loopw [3, 4] (fun o i wr => ∃ (k : Nat) (rs : List StR) (A : Option Addr) (c : Nat), i = .int .i64 (k : Int) ∧ o = .slice A rs.length c ∧ k ≤ len ∧ Hid (rs.length = k) ∧ Hid (RowS wr w.heap.size (.slice A rs.length c) rs) ∧ Hid (ofA rs (s.drop k) = s) ∧ Below w.heap.size w wr) (fun _ i _ => len - (intOf i).toNat)
    case atStart => exact ⟨0, [], _, _, rfl, rfl, Nat.zero_le _, rfl, HR0, by unfold Hid; rfl, HB0.out⟩
    case round =>
      obtain ⟨k, rs, A, c, rfl, rfl, hk, hl, hR, hof, hb⟩ := hrel
      clear HR0 HB0
      have hbz := hb.size
      have hrl : rs.length ≤ 100000 := by rw [hl.out]; omega
      obtain ⟨q, hq⟩ : ∃ q, rs.length = q := ⟨_, rfl⟩
      have HQ := Lib.hid hq
      rw [hq] at hR hrl ⊢
      clear hq
      by_cases hlt : k < len
      · obtain ⟨b, op, x, y, n, t, e, rfl, -, hbb, hdr, At, ct, Ae, ce, ⟨h0, h1, h2, h3, h4, h5⟩, hRt, hRe⟩ := (HREP.out.below hb hb.size).elem (k := k) (by rw [HLEN.out]; exact hlt)
        have hdz := RepV.drop_sizes hdr
        obtain ⟨tl, htl⟩ : ∃ q, t.len = q := ⟨_, rfl⟩
        obtain ⟨el, hel⟩ : ∃ q, e.len = q := ⟨_, rfl⟩
        have HTL := Lib.hid htl
        have HEL := Lib.hid hel
        have hof2 : Hid (∀ At ct Ae ce, ofA (rs ++ [⟨op, x, y, n, t, e, At, ct, Ae, ce⟩]) (s.drop (k + 1)) = s) := fun At ct Ae ce => by
          rw [ofA_snoc]
          have := hof.out
          rw [hdr] at this
          exact this
        rw [htl] at h4
        rw [hel] at h5
        have hct := hRt.2.1
        have hce := hRe.2.1
        have htc := hRt.1
        have hec := hRe.1
        rw [htl] at htc
        rw [hel] at hec
        unfold maxLen at hct hce
        have HRT := Lib.hid hRt
        have HRE := Lib.hid hRe
        have h4' : wr.cell? ((b.add (k * 6)).add 4) = some (.slice At tl ct) := by rw [← h4]; congr 1
        have h5' : wr.cell? ((b.add (k * 6)).add 5) = some (.slice Ae el ce) := by rw [← h5]; congr 1
        have hbk : (b.add (k * 6)).block < wr.heap.size := by rw [block_add]; exact hbb
        clear hdr htl hel hRt hRe hof
        go_upto_region 8 with (fail)
        have hown : ∀ k, (Value.slice A q c).ownBlock = some k → k < wr.heap.size := fun k hk => (hR.out.own.lt k hk).2
        replace hown := Lib.hid hown
        have KW0 : Hid (CpyK w wr.heap.size q A c rs #[.int .i64 op, .int .i64 x, .int .i64 y, .int .i64 n, .slice none 0 0, .slice none 0 0] wr (wr.alloc (.cells #[.int .i64 op, .int .i64 x, .int .i64 y, .int .i64 n, .slice none 0 0, .slice none 0 0] 86))) := ⟨heap_alloc_new wr _, hR.out.below ((Below.refl _ _).alloc (Nat.le_refl _) _), (Below.refl _ _).alloc (Nat.le_refl _) _⟩
        have hz0 : wr.heap.size + 1 ≤ (wr.alloc (.cells #[.int .i64 op, .int .i64 x, .int .i64 y, .int .i64 n, .slice none 0 0, .slice none 0 0] 86)).heap.size := Nat.le_of_eq (by simp)
        obtain ⟨W0, hW0⟩ : ∃ z, wr.alloc (.cells #[.int .i64 op, .int .i64 x, .int .i64 y, .int .i64 n, .slice none 0 0, .slice none 0 0] 86) = z := ⟨_, rfl⟩
        rw [hW0] at KW0 hz0 ⊢
        clear hW0 h0 h1 h2 h3
        have s4 : W0.cell? ⟨(b.add (k * 6)).block, (b.add (k * 6)).off + 4, none⟩ = some (.slice At tl ct) := (KW0.out.bel.cell (p := ⟨(b.add (k * 6)).block, (b.add (k * 6)).off + 4, none⟩) hbk).trans h4
        by_cases g4 : 0 < tl
        · have d4 : decide (0 < (tl : Int)) = true := decide_eq_true (by omega)
          have d4' : decide (0 < tl) = true := decide_eq_true g4
          have HC := ih.out t At ct W0 (by omega) (by omega) ((HRT.out.below KW0.out.bel KW0.out.bel.size))
          rw [HTL.out] at HC
          replace HC := Lib.hid HC
          go_wp2_with fail
          refine HC.out.mono ?_
          rintro E W0c ⟨rs4, A4, c4, rfl, hR4, ho4, hb4⟩
          have hl4 : Hid (rs4.length = tl) := by unfold Hid; rw [← ofR_len, ho4]; exact HTL.out
          have KW0c := Lib.hid (KW0.out.call hb4)
          have x4 : W0c.cell? ⟨wr.heap.size, 4, none⟩ = some (.slice none 0 0) := (cell_of_block KW0c.out.blk 4).trans rfl
          have f4 := frozen_of_block KW0c.out.blk 4
          rw [hl4.out]
          have hP4 := hR4.rep.2
          rw [ho4] at hP4
          have Z4 := hb4.size
          obtain ⟨W0s, hw4⟩ : ∃ z, W0c.setCell ⟨wr.heap.size, 4, none⟩ (.slice A4 tl c4) = z := ⟨_, rfl⟩
          have KW0s := Lib.hid (KW0c.out.put (Nat.le_refl _) hown.out hR.out 4 (.slice A4 tl c4))
          have P4 : Hid (RepV (W0c.setCell ⟨wr.heap.size, 4, none⟩ (.slice A4 tl c4)) W0.heap.size (W0c.setCell ⟨wr.heap.size, 4, none⟩ (.slice A4 tl c4)).heap.size t A4 c4) := hP4.keep (Nat.le_refl _) (by simp [World.setCell]) fun p h1 h2 => World.cell?_setCell_other _ _ _ _ (fun e => by subst e; simp at h1; omega)
          have Zs4 : W0.heap.size ≤ (W0c.setCell ⟨wr.heap.size, 4, none⟩ (.slice A4 tl c4)).heap.size := by simp [World.setCell]; exact Z4
          rw [hw4] at KW0s P4 Zs4
          clear hR4 ho4 hb4 hP4 HC g4 s4
          go_upto_region 10 with (fail)
          clear hw4 x4 f4 d4 d4'
          obtain ⟨lo4, hlo4⟩ : ∃ z, W0.heap.size = z := ⟨_, rfl⟩
          rw [hlo4] at P4
          have hlo4' : wr.heap.size < lo4 := by omega
          clear hlo4
          have s5 : W0s.cell? ⟨(b.add (k * 6)).block, (b.add (k * 6)).off + 5, none⟩ = some (.slice Ae el ce) := (KW0s.out.bel.cell (p := ⟨(b.add (k * 6)).block, (b.add (k * 6)).off + 5, none⟩) hbk).trans h5
          by_cases g5 : 0 < el
          · have d5 : decide (0 < (el : Int)) = true := decide_eq_true (by omega)
            have d5' : decide (0 < el) = true := decide_eq_true g5
            have HC := ih.out e Ae ce W0s (by omega) (by omega) ((HRE.out.below KW0s.out.bel KW0s.out.bel.size))
            rw [HEL.out] at HC
            replace HC := Lib.hid HC
            go_wp2_with fail
            refine HC.out.mono ?_
            rintro E W0sc ⟨rs5, A5, c5, rfl, hR5, ho5, hb5⟩
            have hl5 : Hid (rs5.length = el) := by unfold Hid; rw [← ofR_len, ho5]; exact HEL.out
            have KW0sc := Lib.hid (KW0s.out.call hb5)
            have x5 : W0sc.cell? ⟨wr.heap.size, 5, none⟩ = some (.slice none 0 0) := (cell_of_block KW0sc.out.blk 5).trans rfl
            have f5 := frozen_of_block KW0sc.out.blk 5
            rw [hl5.out]
            have hP5 := hR5.rep.2
            rw [ho5] at hP5
            have Z5 := hb5.size
            obtain ⟨W0ss, hw5⟩ : ∃ z, W0sc.setCell ⟨wr.heap.size, 5, none⟩ (.slice A5 el c5) = z := ⟨_, rfl⟩
            have KW0ss := Lib.hid (KW0sc.out.put (Nat.le_refl _) hown.out hR.out 5 (.slice A5 el c5))
            have P5 : Hid (RepV (W0sc.setCell ⟨wr.heap.size, 5, none⟩ (.slice A5 el c5)) W0s.heap.size (W0sc.setCell ⟨wr.heap.size, 5, none⟩ (.slice A5 el c5)).heap.size e A5 c5) := hP5.keep (Nat.le_refl _) (by simp [World.setCell]) fun p h1 h2 => World.cell?_setCell_other _ _ _ _ (fun e => by subst e; simp at h1; omega)
            have Zs5 : W0s.heap.size ≤ (W0sc.setCell ⟨wr.heap.size, 5, none⟩ (.slice A5 el c5)).heap.size := by simp [World.setCell]; exact Z5
            have P4n : Hid (RepV (W0sc.setCell ⟨wr.heap.size, 5, none⟩ (.slice A5 el c5)) lo4 (W0sc.setCell ⟨wr.heap.size, 5, none⟩ (.slice A5 el c5)).heap.size t A4 c4) := ((P4.out.below' hb5 (Nat.le_refl _)).mono (Nat.le_refl _) Z5).keep (Nat.le_refl _) (by simp [World.setCell]) fun p h1 h2 => World.cell?_setCell_other _ _ _ _ (fun e => by subst e; simp at h1; omega)
            rw [hw5] at KW0ss P5 Zs5 P4n
            clear hR5 ho5 hb5 hP5 HC g5 s5 P4
            have P4 := P4n
            clear P4n
            go_upto_region 12 with (fail)
            clear hw5 x5 f5 d5 d5'
            have hBK := KW0ss.out.blk
            have k0 : W0ss.cell? ⟨wr.heap.size, 0, none⟩ = some (.int .i64 op) := (cell_of_block hBK 0).trans rfl
            have k1 : W0ss.cell? ⟨wr.heap.size, 1, none⟩ = some (.int .i64 x) := (cell_of_block hBK 1).trans rfl
            have k2 : W0ss.cell? ⟨wr.heap.size, 2, none⟩ = some (.int .i64 y) := (cell_of_block hBK 2).trans rfl
            have k3 : W0ss.cell? ⟨wr.heap.size, 3, none⟩ = some (.int .i64 n) := (cell_of_block hBK 3).trans rfl
            have k4 : W0ss.cell? ⟨wr.heap.size, 4, none⟩ = some (.slice A4 tl c4) := (cell_of_block hBK 4).trans rfl
            have k5 : W0ss.cell? ⟨wr.heap.size, 5, none⟩ = some (.slice A5 el c5) := (cell_of_block hBK 5).trans rfl
            have N4 : Hid (RepV W0ss wr.heap.size W0ss.heap.size t A4 c4) := (P4.out.mono (by omega) (Nat.le_refl _))
            have N5 : Hid (RepV W0ss wr.heap.size W0ss.heap.size e A5 c5) := (P5.out.mono (by omega) (Nat.le_refl _))
            have HC : Hid (StR.cells ⟨op, x, y, n, t, e, A4, c4, A5, c5⟩ = [.int .i64 op, .int .i64 x, .int .i64 y, .int .i64 n, .slice A4 tl c4, .slice A5 el c5]) := by unfold Hid StR.cells; simp only [HTL.out, HEL.out]
            have HOWN : Hid (W0ss.ownsRow w.heap.size 86 6 (.slice A q c) q (rs.flatMap StR.cells)) := by
              have := KW0ss.out.row.own
              rwa [HQ.out] at this
            have zz := KW0ss.out.bel.size
            clear hBK
            go_wp2_with (at_builtin; refine wpList_append_lies _ rfl _ _ 24 rfl w.heap.size 86 i0 (.agg #[.int .i64 0, .int .i64 0, .int .i64 0, .int .i64 0, .slice none 0 0, .slice none 0 0]) 6 80 Tryz.underlying24 HI.out HZ0.out HZ1.out HZ2.out rfl (by decide) _ _ _ rfl (HOWN.out.alloc _) ⟨_, 0, none⟩ 1 1 [.int .i64 op, .int .i64 x, .int .i64 y, .int .i64 n, .slice A4 tl c4, .slice A5 el c5] rfl rfl ?la1 ?la2 (by decide) ?la3 ?la4 ?la5 _ rfl ?_)
            try (case la1 => exact news1 (by simp) rfl)
            try (case la2 => intro u hu; simp only [List.mem_cons, List.not_mem_nil, or_false] at hu; rcases hu with rfl | rfl | rfl | rfl | rfl | rfl <;> rfl)
            try (case la3 => unfold maxLen; omega)
            try (case la4 => omega)
            try (case la5 => first | omega | (simp; omega))
            intro g2 cap2 w' hown' hg hat hlt'
            have hbA := (Below.refl W0ss.heap.size W0ss).alloc (Nat.le_refl _) (.cells #[.int .i64 op, .int .i64 x, .int .i64 y, .int .i64 n, .slice A4 tl c4, .slice A5 el c5] 86)
            have hR' : RowS w' w.heap.size (.slice (some ⟨g2, 0, none⟩) (rs.length + 1) cap2) (rs ++ [⟨op, x, y, n, t, e, A4, c4, A5, c5⟩]) := by
              refine RowS.snoc (KW0ss.out.row.below hbA) ?_ hg (hat.imp id fun e => e.trans (by simp)) (Firm.of_new N4.out hR.out hbz hbA) (Firm.of_new N5.out hR.out hbz hbA)
              rw [HQ.out, HC.out]
              exact hown'
            have HR' := Lib.hid hR'
            have hb' : Below w.heap.size w w' := ((hb.trans (KW0ss.out.bel.mono hbz)).alloc (by omega) _).grown hg (by simp; omega) (fun k hk => (HOWN.out.lt k hk).1)
            clear hown' hg hat hbA hR' HOWN
            go_wp2_with fail
            go_roundw
            case rel => exact ⟨k + 1, rs ++ [⟨op, x, y, n, t, e, A4, c4, A5, c5⟩], _, cap2, by go_num, by rw [List.length_append, HQ.out]; rfl, by omega, by unfold Hid; rw [List.length_append, hl.out]; rfl, by unfold Hid; rw [List.length_append]; exact HR'.out, by unfold Hid; exact hof2.out _ _ _ _, hb'⟩
            case measure => simp [intOf]; omega
          · obtain rfl : el = 0 := by omega
            have d5 : decide (0 < ((0 : Nat) : Int)) = false := rfl
            go_upto_region 12 with (fail)
            clear d5 g5 s5
            have hBK := KW0s.out.blk
            have k0 : W0s.cell? ⟨wr.heap.size, 0, none⟩ = some (.int .i64 op) := (cell_of_block hBK 0).trans rfl
            have k1 : W0s.cell? ⟨wr.heap.size, 1, none⟩ = some (.int .i64 x) := (cell_of_block hBK 1).trans rfl
            have k2 : W0s.cell? ⟨wr.heap.size, 2, none⟩ = some (.int .i64 y) := (cell_of_block hBK 2).trans rfl
            have k3 : W0s.cell? ⟨wr.heap.size, 3, none⟩ = some (.int .i64 n) := (cell_of_block hBK 3).trans rfl
            have k4 : W0s.cell? ⟨wr.heap.size, 4, none⟩ = some (.slice A4 tl c4) := (cell_of_block hBK 4).trans rfl
            have k5 : W0s.cell? ⟨wr.heap.size, 5, none⟩ = some (.slice none 0 0) := (cell_of_block hBK 5).trans rfl
            have N4 : Hid (RepV W0s wr.heap.size W0s.heap.size t A4 c4) := (P4.out.mono (by omega) (Nat.le_refl _))
            have N5 : Hid (RepV W0s wr.heap.size W0s.heap.size e none 0) := (repV_zero HEL.out)
            have HC : Hid (StR.cells ⟨op, x, y, n, t, e, A4, c4, none, 0⟩ = [.int .i64 op, .int .i64 x, .int .i64 y, .int .i64 n, .slice A4 tl c4, .slice none 0 0]) := by unfold Hid StR.cells; simp only [HTL.out, HEL.out]
            have HOWN : Hid (W0s.ownsRow w.heap.size 86 6 (.slice A q c) q (rs.flatMap StR.cells)) := by
              have := KW0s.out.row.own
              rwa [HQ.out] at this
            have zz := KW0s.out.bel.size
            clear hBK
            go_wp2_with (at_builtin; refine wpList_append_lies _ rfl _ _ 24 rfl w.heap.size 86 i0 (.agg #[.int .i64 0, .int .i64 0, .int .i64 0, .int .i64 0, .slice none 0 0, .slice none 0 0]) 6 80 Tryz.underlying24 HI.out HZ0.out HZ1.out HZ2.out rfl (by decide) _ _ _ rfl (HOWN.out.alloc _) ⟨_, 0, none⟩ 1 1 [.int .i64 op, .int .i64 x, .int .i64 y, .int .i64 n, .slice A4 tl c4, .slice none 0 0] rfl rfl ?la1 ?la2 (by decide) ?la3 ?la4 ?la5 _ rfl ?_)
            try (case la1 => exact news1 (by simp) rfl)
            try (case la2 => intro u hu; simp only [List.mem_cons, List.not_mem_nil, or_false] at hu; rcases hu with rfl | rfl | rfl | rfl | rfl | rfl <;> rfl)
            try (case la3 => unfold maxLen; omega)
            try (case la4 => omega)
            try (case la5 => first | omega | (simp; omega))
            intro g2 cap2 w' hown' hg hat hlt'
            have hbA := (Below.refl W0s.heap.size W0s).alloc (Nat.le_refl _) (.cells #[.int .i64 op, .int .i64 x, .int .i64 y, .int .i64 n, .slice A4 tl c4, .slice none 0 0] 86)
            have hR' : RowS w' w.heap.size (.slice (some ⟨g2, 0, none⟩) (rs.length + 1) cap2) (rs ++ [⟨op, x, y, n, t, e, A4, c4, none, 0⟩]) := by
              refine RowS.snoc (KW0s.out.row.below hbA) ?_ hg (hat.imp id fun e => e.trans (by simp)) (Firm.of_new N4.out hR.out hbz hbA) (Firm.of_new N5.out hR.out hbz hbA)
              rw [HQ.out, HC.out]
              exact hown'
            have HR' := Lib.hid hR'
            have hb' : Below w.heap.size w w' := ((hb.trans (KW0s.out.bel.mono hbz)).alloc (by omega) _).grown hg (by simp; omega) (fun k hk => (HOWN.out.lt k hk).1)
            clear hown' hg hat hbA hR' HOWN
            go_wp2_with fail
            go_roundw
            case rel => exact ⟨k + 1, rs ++ [⟨op, x, y, n, t, e, A4, c4, none, 0⟩], _, cap2, by go_num, by rw [List.length_append, HQ.out]; rfl, by omega, by unfold Hid; rw [List.length_append, hl.out]; rfl, by unfold Hid; rw [List.length_append]; exact HR'.out, by unfold Hid; exact hof2.out _ _ _ _, hb'⟩
            case measure => simp [intOf]; omega
        · obtain rfl : tl = 0 := by omega
          have d4 : decide (0 < ((0 : Nat) : Int)) = false := rfl
          go_upto_region 10 with (fail)
          clear d4 g4 s4
          have s5 : W0.cell? ⟨(b.add (k * 6)).block, (b.add (k * 6)).off + 5, none⟩ = some (.slice Ae el ce) := (KW0.out.bel.cell (p := ⟨(b.add (k * 6)).block, (b.add (k * 6)).off + 5, none⟩) hbk).trans h5
          by_cases g5 : 0 < el
          · have d5 : decide (0 < (el : Int)) = true := decide_eq_true (by omega)
            have d5' : decide (0 < el) = true := decide_eq_true g5
            have HC := ih.out e Ae ce W0 (by omega) (by omega) ((HRE.out.below KW0.out.bel KW0.out.bel.size))
            rw [HEL.out] at HC
            replace HC := Lib.hid HC
            go_wp2_with fail
            refine HC.out.mono ?_
            rintro E W0c ⟨rs5, A5, c5, rfl, hR5, ho5, hb5⟩
            have hl5 : Hid (rs5.length = el) := by unfold Hid; rw [← ofR_len, ho5]; exact HEL.out
            have KW0c := Lib.hid (KW0.out.call hb5)
            have x5 : W0c.cell? ⟨wr.heap.size, 5, none⟩ = some (.slice none 0 0) := (cell_of_block KW0c.out.blk 5).trans rfl
            have f5 := frozen_of_block KW0c.out.blk 5
            rw [hl5.out]
            have hP5 := hR5.rep.2
            rw [ho5] at hP5
            have Z5 := hb5.size
            obtain ⟨W0s, hw5⟩ : ∃ z, W0c.setCell ⟨wr.heap.size, 5, none⟩ (.slice A5 el c5) = z := ⟨_, rfl⟩
            have KW0s := Lib.hid (KW0c.out.put (Nat.le_refl _) hown.out hR.out 5 (.slice A5 el c5))
            have P5 : Hid (RepV (W0c.setCell ⟨wr.heap.size, 5, none⟩ (.slice A5 el c5)) W0.heap.size (W0c.setCell ⟨wr.heap.size, 5, none⟩ (.slice A5 el c5)).heap.size e A5 c5) := hP5.keep (Nat.le_refl _) (by simp [World.setCell]) fun p h1 h2 => World.cell?_setCell_other _ _ _ _ (fun e => by subst e; simp at h1; omega)
            have Zs5 : W0.heap.size ≤ (W0c.setCell ⟨wr.heap.size, 5, none⟩ (.slice A5 el c5)).heap.size := by simp [World.setCell]; exact Z5
            rw [hw5] at KW0s P5 Zs5
            clear hR5 ho5 hb5 hP5 HC g5 s5
            go_upto_region 12 with (fail)
            clear hw5 x5 f5 d5 d5'
            have hBK := KW0s.out.blk
            have k0 : W0s.cell? ⟨wr.heap.size, 0, none⟩ = some (.int .i64 op) := (cell_of_block hBK 0).trans rfl
            have k1 : W0s.cell? ⟨wr.heap.size, 1, none⟩ = some (.int .i64 x) := (cell_of_block hBK 1).trans rfl
            have k2 : W0s.cell? ⟨wr.heap.size, 2, none⟩ = some (.int .i64 y) := (cell_of_block hBK 2).trans rfl
            have k3 : W0s.cell? ⟨wr.heap.size, 3, none⟩ = some (.int .i64 n) := (cell_of_block hBK 3).trans rfl
            have k4 : W0s.cell? ⟨wr.heap.size, 4, none⟩ = some (.slice none 0 0) := (cell_of_block hBK 4).trans rfl
            have k5 : W0s.cell? ⟨wr.heap.size, 5, none⟩ = some (.slice A5 el c5) := (cell_of_block hBK 5).trans rfl
            have N4 : Hid (RepV W0s wr.heap.size W0s.heap.size t none 0) := (repV_zero HTL.out)
            have N5 : Hid (RepV W0s wr.heap.size W0s.heap.size e A5 c5) := (P5.out.mono (by omega) (Nat.le_refl _))
            have HC : Hid (StR.cells ⟨op, x, y, n, t, e, none, 0, A5, c5⟩ = [.int .i64 op, .int .i64 x, .int .i64 y, .int .i64 n, .slice none 0 0, .slice A5 el c5]) := by unfold Hid StR.cells; simp only [HTL.out, HEL.out]
            have HOWN : Hid (W0s.ownsRow w.heap.size 86 6 (.slice A q c) q (rs.flatMap StR.cells)) := by
              have := KW0s.out.row.own
              rwa [HQ.out] at this
            have zz := KW0s.out.bel.size
            clear hBK
            go_wp2_with (at_builtin; refine wpList_append_lies _ rfl _ _ 24 rfl w.heap.size 86 i0 (.agg #[.int .i64 0, .int .i64 0, .int .i64 0, .int .i64 0, .slice none 0 0, .slice none 0 0]) 6 80 Tryz.underlying24 HI.out HZ0.out HZ1.out HZ2.out rfl (by decide) _ _ _ rfl (HOWN.out.alloc _) ⟨_, 0, none⟩ 1 1 [.int .i64 op, .int .i64 x, .int .i64 y, .int .i64 n, .slice none 0 0, .slice A5 el c5] rfl rfl ?la1 ?la2 (by decide) ?la3 ?la4 ?la5 _ rfl ?_)
            try (case la1 => exact news1 (by simp) rfl)
            try (case la2 => intro u hu; simp only [List.mem_cons, List.not_mem_nil, or_false] at hu; rcases hu with rfl | rfl | rfl | rfl | rfl | rfl <;> rfl)
            try (case la3 => unfold maxLen; omega)
            try (case la4 => omega)
            try (case la5 => first | omega | (simp; omega))
            intro g2 cap2 w' hown' hg hat hlt'
            have hbA := (Below.refl W0s.heap.size W0s).alloc (Nat.le_refl _) (.cells #[.int .i64 op, .int .i64 x, .int .i64 y, .int .i64 n, .slice none 0 0, .slice A5 el c5] 86)
            have hR' : RowS w' w.heap.size (.slice (some ⟨g2, 0, none⟩) (rs.length + 1) cap2) (rs ++ [⟨op, x, y, n, t, e, none, 0, A5, c5⟩]) := by
              refine RowS.snoc (KW0s.out.row.below hbA) ?_ hg (hat.imp id fun e => e.trans (by simp)) (Firm.of_new N4.out hR.out hbz hbA) (Firm.of_new N5.out hR.out hbz hbA)
              rw [HQ.out, HC.out]
              exact hown'
            have HR' := Lib.hid hR'
            have hb' : Below w.heap.size w w' := ((hb.trans (KW0s.out.bel.mono hbz)).alloc (by omega) _).grown hg (by simp; omega) (fun k hk => (HOWN.out.lt k hk).1)
            clear hown' hg hat hbA hR' HOWN
            go_wp2_with fail
            go_roundw
            case rel => exact ⟨k + 1, rs ++ [⟨op, x, y, n, t, e, none, 0, A5, c5⟩], _, cap2, by go_num, by rw [List.length_append, HQ.out]; rfl, by omega, by unfold Hid; rw [List.length_append, hl.out]; rfl, by unfold Hid; rw [List.length_append]; exact HR'.out, by unfold Hid; exact hof2.out _ _ _ _, hb'⟩
            case measure => simp [intOf]; omega
          · obtain rfl : el = 0 := by omega
            have d5 : decide (0 < ((0 : Nat) : Int)) = false := rfl
            go_upto_region 12 with (fail)
            clear d5 g5 s5
            have hBK := KW0.out.blk
            have k0 : W0.cell? ⟨wr.heap.size, 0, none⟩ = some (.int .i64 op) := (cell_of_block hBK 0).trans rfl
            have k1 : W0.cell? ⟨wr.heap.size, 1, none⟩ = some (.int .i64 x) := (cell_of_block hBK 1).trans rfl
            have k2 : W0.cell? ⟨wr.heap.size, 2, none⟩ = some (.int .i64 y) := (cell_of_block hBK 2).trans rfl
            have k3 : W0.cell? ⟨wr.heap.size, 3, none⟩ = some (.int .i64 n) := (cell_of_block hBK 3).trans rfl
            have k4 : W0.cell? ⟨wr.heap.size, 4, none⟩ = some (.slice none 0 0) := (cell_of_block hBK 4).trans rfl
            have k5 : W0.cell? ⟨wr.heap.size, 5, none⟩ = some (.slice none 0 0) := (cell_of_block hBK 5).trans rfl
            have N4 : Hid (RepV W0 wr.heap.size W0.heap.size t none 0) := (repV_zero HTL.out)
            have N5 : Hid (RepV W0 wr.heap.size W0.heap.size e none 0) := (repV_zero HEL.out)
            have HC : Hid (StR.cells ⟨op, x, y, n, t, e, none, 0, none, 0⟩ = [.int .i64 op, .int .i64 x, .int .i64 y, .int .i64 n, .slice none 0 0, .slice none 0 0]) := by unfold Hid StR.cells; simp only [HTL.out, HEL.out]
            have HOWN : Hid (W0.ownsRow w.heap.size 86 6 (.slice A q c) q (rs.flatMap StR.cells)) := by
              have := KW0.out.row.own
              rwa [HQ.out] at this
            have zz := KW0.out.bel.size
            clear hBK
            go_wp2_with (at_builtin; refine wpList_append_lies _ rfl _ _ 24 rfl w.heap.size 86 i0 (.agg #[.int .i64 0, .int .i64 0, .int .i64 0, .int .i64 0, .slice none 0 0, .slice none 0 0]) 6 80 Tryz.underlying24 HI.out HZ0.out HZ1.out HZ2.out rfl (by decide) _ _ _ rfl (HOWN.out.alloc _) ⟨_, 0, none⟩ 1 1 [.int .i64 op, .int .i64 x, .int .i64 y, .int .i64 n, .slice none 0 0, .slice none 0 0] rfl rfl ?la1 ?la2 (by decide) ?la3 ?la4 ?la5 _ rfl ?_)
            try (case la1 => exact news1 (by simp) rfl)
            try (case la2 => intro u hu; simp only [List.mem_cons, List.not_mem_nil, or_false] at hu; rcases hu with rfl | rfl | rfl | rfl | rfl | rfl <;> rfl)
            try (case la3 => unfold maxLen; omega)
            try (case la4 => omega)
            try (case la5 => first | omega | (simp; omega))
            intro g2 cap2 w' hown' hg hat hlt'
            have hbA := (Below.refl W0.heap.size W0).alloc (Nat.le_refl _) (.cells #[.int .i64 op, .int .i64 x, .int .i64 y, .int .i64 n, .slice none 0 0, .slice none 0 0] 86)
            have hR' : RowS w' w.heap.size (.slice (some ⟨g2, 0, none⟩) (rs.length + 1) cap2) (rs ++ [⟨op, x, y, n, t, e, none, 0, none, 0⟩]) := by
              refine RowS.snoc (KW0.out.row.below hbA) ?_ hg (hat.imp id fun e => e.trans (by simp)) (Firm.of_new N4.out hR.out hbz hbA) (Firm.of_new N5.out hR.out hbz hbA)
              rw [HQ.out, HC.out]
              exact hown'
            have HR' := Lib.hid hR'
            have hb' : Below w.heap.size w w' := ((hb.trans (KW0.out.bel.mono hbz)).alloc (by omega) _).grown hg (by simp; omega) (fun k hk => (HOWN.out.lt k hk).1)
            clear hown' hg hat hbA hR' HOWN
            go_wp2_with fail
            go_roundw
            case rel => exact ⟨k + 1, rs ++ [⟨op, x, y, n, t, e, none, 0, none, 0⟩], _, cap2, by go_num, by rw [List.length_append, HQ.out]; rfl, by omega, by unfold Hid; rw [List.length_append, hl.out]; rfl, by unfold Hid; rw [List.length_append]; exact HR'.out, by unfold Hid; exact hof2.out _ _ _ _, hb'⟩
            case measure => simp [intOf]; omega
      · obtain rfl : k = len := by omega
        have HE : Hid (ofR rs = s) := by
          unfold Hid
          have := hof.out
          rw [← HLEN.out, Sts.drop_len, ofA_nil] at this
          exact this
        clear hof
        go_wp2_with fail
        go_ret
        exact ⟨rs, A, c, by rw [HQ.out]; rfl, by rw [HQ.out]; exact hR.out, HE.out, hb⟩

end Go.Proofs.YtlddoookojjleaaGreatDoor

namespace Go.Proofs.YtlddoookojjleaaGreatDoor
open Go.RowKit Go.Deep
set_option linter.unusedVariables false

theorem intsV_news {w : World} {lo hi : Nat} {xs : List Int} {a : Addr} {c : Nat} (h : IntsV w lo hi xs (some a) c) : ∀ j u, (xs.map (Value.int .i64))[j]? = some u → w.cell? (a.add j) = some u := by
  intro j u hu
  rw [List.getElem?_map] at hu
  obtain ⟨x, hx, rfl⟩ := Option.map_eq_some_iff.1 hu
  have hj := (List.getElem?_eq_some_iff.1 hx).1
  obtain ⟨b, hb, _, _, hc⟩ := h.2.2 (by omega)
  injection hb with hb
  subst hb
  exact hc j x hx

theorem run_append_ints (w : World) (B : Nat) (v : Value) (xs : List Int) (A : Option Addr) (c : Nat) (ts : List Int) (hown : RowI w B v xs) (hu : IntsV w 0 w.heap.size ts A c) (hl : xs.length + ts.length ≤ 2000000) (hB : B ≤ w.heap.size) :
    ∃ v' w', (Builtin.append_ #[23, 23] 23 #[v, .slice A ts.length c]).run Tryz.prog w = .ok v' w' ∧ RowI w' B v' (xs ++ ts) ∧ w.grownBy w' v.ownBlock ∧ (v'.ownBlock = v.ownBlock ∨ v'.ownBlock = some w.heap.size) := by
  obtain ⟨i0, hi, hz0, hz1, hz2⟩ := info_parts Tryz.infoInt
  cases A with
  | none =>
    have h0 : ts = [] := by
      cases ts with
      | nil => rfl
      | cons t ts =>
        obtain ⟨b, hb, _⟩ := hu.2.2 (by simp)
        cases hb
    subst h0
    refine ⟨v, w, ?_, by rw [List.append_nil]; exact hown, ⟨rfl, rfl, rfl, Nat.le_refl _, fun _ _ _ => rfl⟩, .inl rfl⟩
    have ht := Tryz.underlying23
    rcases hown.2 with ⟨rfl, e0⟩ | ⟨g, cap, cur, rfl, _, _, hnc, _⟩
    · simp [Builtin.append_, run_underlying ht, sizeOf, typeInfo, hi, Builtin.lenOf, Builtin.firstCells]
    · simp [Builtin.append_, run_underlying ht, sizeOf, typeInfo, hi, Builtin.lenOf, Builtin.firstCells, hnc, storeCells]
  | some a =>
    obtain ⟨v', w', hr, k1, k2, _, k4⟩ := run_append_own_at (P := Tryz.prog) w B 23 23 3 i0 (.int .i64 0) 1 8 Tryz.underlying23 hi hz0 hz1 hz2 rfl (by decide) v xs.length (xs.map (Value.int .i64)) hown a ts.length c (ts.map (Value.int .i64))
      (by simp) (intsV_news hu) (fun u hu => by
        obtain ⟨t, _, rfl⟩ := List.mem_map.1 hu
        rfl) (by unfold maxLen; omega) (by omega) hB
    refine ⟨v', w', hr, ?_, k2, k4⟩
    unfold RowI
    rw [List.length_append, List.map_append]
    exact k1

theorem step_append_ints {w : World} {ops : Array Oper} {o : Oper} {a : Act} {K : Act → World → Prop} {Q : Exit → Act → World → Prop} {E : Prop} (hgd : o.guard = none) (s x : Operand)
    (ho : o.op = .call { callee := .builtin .append, args := #[s, x], argTypes := #[23, 23] }) (hty : o.type = 23) (B : Nat) (v : Value) (xs : List Int) (A : Option Addr) (c : Nat) (ts : List Int) (n : Nat) (hn : ts.length = n)
    (hs : a.eval s = v) (hx : a.eval x = .slice A n c) (hown : RowI w B v xs) (hu : IntsV w 0 w.heap.size ts A c) (hl : xs.length + ts.length ≤ 2000000) (hB : B ≤ w.heap.size)
    (h : ∀ v' w', RowI w' B v' (xs ++ ts) → w.grownBy w' v.ownBlock → (v'.ownBlock = v.ownBlock ∨ v'.ownBlock = some w.heap.size) → K (a.put o.dst v') w') :
    if Region.wanted o (yielded ops a.tmps) = true then Oper.wp Tryz.prog o a w K Q else E := by
  have hw : Region.wanted o (yielded ops a.tmps) = true := by simp [Region.wanted, hgd]
  rw [if_pos hw]
  subst hn
  obtain ⟨v', w', hr, h2, h3, h4⟩ := run_append_ints w B v xs A c ts hown hu hl hB
  unfold Oper.wp execOp
  simp only [ho, hty, resolve, invoke, builtin, Sem.run_bind, Sem.run_pure, Result.andThen_ok, List.map_toArray, List.map_cons, List.map_nil, hs, hx, hr]
  exact h v' w' h2 h3 h4

theorem RowI.lit0 (w : World) (B : Nat) (hB : B ≤ w.heap.size) : RowI (w.alloc (.cells #[] 3)) B (.slice (some ⟨w.heap.size, 0, none⟩) 0 0) [] :=
  World.ownsRow_lit (base := B) (e := 3) (size := 1) w #[] 0 hB (by simp [maxLen]) rfl

/-- What the copy of a program leaves. -/
def CopyOfP (ts : List Int) (s : Sts) (w : World) (E : Ending) (w' : World) : Prop := ∃ (rs : List StR) (A A' : Option Addr) (c c' B2 : Nat), E = .returned (.agg #[.slice A ts.length c, .slice A' rs.length c']) ∧
  RowI w' w.heap.size (.slice A ts.length c) ts ∧ RowS w' B2 (.slice A' rs.length c') rs ∧ ofR rs = s ∧ Below w.heap.size w w' ∧ w.heap.size ≤ B2 ∧ B2 ≤ w'.heap.size ∧ ∀ k, (Value.slice A ts.length c).ownBlock = some k → k < B2

/-- What holds while the parts are copied. -/
abbrev CoK (P : Nat) (u0 u1 : Value) (w : World) : Prop := w.cell? ⟨P, 0, none⟩ = some u0 ∧ w.cell? ⟨P, 1, none⟩ = some u1 ∧ w.cell? ⟨P + 1, 0, none⟩ = some (heldC w ⟨P + 1, 0, none⟩) ∧ w.cell? ⟨P + 1, 1, none⟩ = some (heldC w ⟨P + 1, 1, none⟩) ∧ w.frozen? ⟨P + 1, 0, none⟩ = false ∧ w.frozen? ⟨P + 1, 1, none⟩ = false

theorem coK_below {P B : Nat} {u0 u1 : Value} {w w' : World} (h : CoK P u0 u1 w) (hb : Below B w w') (hB : P + 2 ≤ B) : CoK P u0 u1 w' := by
  obtain ⟨h1, h2, h3, h4, h5, h6⟩ := h
  have e0 : ∀ o, w'.cell? ⟨P, o, none⟩ = w.cell? ⟨P, o, none⟩ := fun o => hb.cell (p := ⟨P, o, none⟩) (by show P < B; omega)
  have e1 : ∀ o, w'.cell? ⟨P + 1, o, none⟩ = w.cell? ⟨P + 1, o, none⟩ := fun o => hb.cell (p := ⟨P + 1, o, none⟩) (by show P + 1 < B; omega)
  have e2 : ∀ o, w'.frozen? ⟨P + 1, o, none⟩ = w.frozen? ⟨P + 1, o, none⟩ := fun o => hb.frozen (p := ⟨P + 1, o, none⟩) (by show P + 1 < B; omega)
  refine ⟨(e0 0).trans h1, (e0 1).trans h2, ?_, ?_, (e2 0).trans h5, (e2 1).trans h6⟩
  · rw [e1 0, h3]; unfold heldC; rw [e1 0, h3]
  · rw [e1 1, h4]; unfold heldC; rw [e1 1, h4]

theorem coK_put {P : Nat} {u0 u1 x y : Value} {w : World} (h : CoK P u0 u1 w) : CoK P u0 u1 ((w.setCell ⟨P + 1, 0, none⟩ x).setCell ⟨P + 1, 1, none⟩ y) := by
  obtain ⟨h1, h2, h3, h4, h5, h6⟩ := h
  have n1 : ∀ (o o' : Nat), (⟨P + 1, o, none⟩ : Addr) ≠ ⟨P, o', none⟩ := fun o o' e => by injection e with e; omega
  have c0 : ((w.setCell ⟨P + 1, 0, none⟩ x).setCell ⟨P + 1, 1, none⟩ y).cell? ⟨P + 1, 0, none⟩ = some x := (World.cell?_setCell_other _ _ _ _ (by simp)).trans (World.cell?_setCell_same _ _ _ h3)
  have c1 : ((w.setCell ⟨P + 1, 0, none⟩ x).setCell ⟨P + 1, 1, none⟩ y).cell? ⟨P + 1, 1, none⟩ = some y := World.cell?_setCell_same _ _ _ ((World.cell?_setCell_other _ _ _ _ (by simp)).trans h4)
  refine ⟨((World.cell?_setCell_other _ _ _ _ (n1 1 0)).trans (World.cell?_setCell_other _ _ _ _ (n1 0 0))).trans h1, ((World.cell?_setCell_other _ _ _ _ (n1 1 1)).trans (World.cell?_setCell_other _ _ _ _ (n1 0 1))).trans h2, ?_, ?_, ?_, ?_⟩
  · rw [c0]; unfold heldC; rw [c0]; rfl
  · rw [c1]; unfold heldC; rw [c1]; rfl
  · rw [World.frozen?_setCell, World.frozen?_setCell]; exact h5
  · rw [World.frozen?_setCell, World.frozen?_setCell]; exact h6

set_option maxRecDepth 100000 in
set_option maxHeartbeats 2000000 in
theorem l1CopyOf_any (ts : List Int) (s : Sts) (At As : Option Addr) (ct cs : Nat) (w : World) (hl : ts.length ≤ 100000) (hsz : s.size ≤ 100000) (hT : IntsV w 0 w.heap.size ts At ct) (hS : RepV w 0 w.heap.size s As cs) :
    Calls Tryz.prog 56 #[.agg #[.slice At ts.length ct, .slice As s.len cs]] w (CopyOfP ts s w) := by
  obtain ⟨W, hW⟩ : ∃ W, (w.alloc (.cells #[.slice At ts.length ct, .slice As s.len cs] 26)).alloc (.cells #[.slice none 0 0, .slice none 0 0] 26) = W := ⟨_, rfl⟩
  have hbW : Below w.heap.size w W := by rw [← hW]; exact ((Below.refl _ _).alloc (Nat.le_refl _) _).alloc (by simp) _
  have hWz : w.heap.size + 2 = W.heap.size := by rw [← hW]; simp
  have hWP : W.heap[w.heap.size]? = some (.cells #[.slice At ts.length ct, .slice As s.len cs] 26 (0, 0)) := by
    rw [← hW]
    show ((w.heap.push _).push _)[w.heap.size]? = _
    simp only [Array.getElem?_push, Array.size_push]
    rw [if_neg (by omega), if_pos trivial]
  have hWR : W.heap[w.heap.size + 1]? = some (.cells #[.slice none 0 0, .slice none 0 0] 26 (0, 0)) := by
    rw [← hW]
    show ((w.heap.push _).push _)[w.heap.size + 1]? = _
    simp only [Array.getElem?_push, Array.size_push]
    rw [if_pos trivial]
  have HT := Lib.hid (hT.below hbW hbW.size)
  have HS := Lib.hid (hS.below hbW hbW.size)
  have HWR := Lib.hid hWR
  have hWle : w.heap.size + 2 ≤ W.heap.size := Nat.le_of_eq hWz
  obtain ⟨n, hn⟩ : ∃ n, ts.length = n := ⟨_, rfl⟩
  obtain ⟨m, hm⟩ : ∃ m, s.len = m := ⟨_, rfl⟩
  have HN := Lib.hid hn
  have HM := Lib.hid hm
  have hp0 : W.cell? ⟨w.heap.size, 0, none⟩ = some (.slice At n ct) := (cell_of_block hWP 0).trans (by rw [← hn]; rfl)
  have hp1 : W.cell? ⟨w.heap.size, 1, none⟩ = some (.slice As m cs) := (cell_of_block hWP 1).trans (by rw [← hm]; rfl)
  rw [hn, hm] at hW ⊢
  rw [hn] at hl
  have HBW := Lib.hid hbW
  clear hWP hWR hT hS hWz hn hm hbW
  go_enter Tryz.func56, Tryz.ntmps56
  go_upto_region 1 with (fail)
  clear hW
  have z0 := (cell_of_block HWR.out 0).trans (show _ = some (.slice none 0 0) from rfl)
  have z1 := (cell_of_block HWR.out 1).trans (show _ = some (.slice none 0 0) from rfl)
  have hK0 : CoK w.heap.size (.slice At n ct) (.slice As m cs) W := ⟨hp0, hp1, by rw [z0]; unfold heldC; rw [z0]; rfl, by rw [z1]; unfold heldC; rw [z1]; rfl, frozen_of_block HWR.out 0, frozen_of_block HWR.out 1⟩
  have hK0d : CoK w.heap.size (.slice At n ct) (.slice As m cs) W.drew := hK0
  have hba := ((Below.refl W.heap.size W).alloc (Nat.le_refl _) (.cells #[] 3)).drew
  have hK1 : CoK w.heap.size (.slice At n ct) (.slice As m cs) (W.alloc (.cells #[] 3)).drew := coK_below hK0 hba hWle
  clear hp0 hp1 z0 z1
  have HL0 := Lib.hid (RowI.lit0 W W.heap.size (Nat.le_refl _))
  have HC := Lib.hid (fun (w' : World) (h : RepV w' 0 w'.heap.size s As cs) => l1Copy_any (s.size + 1) s As cs w' (by omega) hsz h)
  rw [HM.out] at HC
  go_region_held3 (CoK w.heap.size (.slice At n ct) (.slice As m cs))
    (first | with_reducible exact hK0 | with_reducible exact hK0d | with_reducible exact hK1 | with_reducible exact hK2 | with_reducible exact hK3 | with_reducible exact coK_put hK3)
    (first
      | (go_at_call 63; refine (HC.out _ (HS.out.below hBa hBa.size)).mono ?_; rintro E wc ⟨rs, A', c', rfl, hR, ho, hb⟩; have hK3 := coK_below hK2 hb (Nat.le_trans hWle hBa.size))
      | (refine step_append_ints (by rfl) _ _ (by rfl) (by rfl) W.heap.size (.slice (some ⟨W.heap.size, 0, none⟩) 0 0) [] At ct ts n HN.out (by rfl) (by rfl) ?hr ?hu ?hl ?hB ?_; (case hr => first | exact HL0.out | exact HL0.out.below (Below.refl _ _).drew); (case hu => exact HT.out.below hba hba.size); (case hl => rw [HN.out]; simp; omega); (case hB => exact hba.size); intro v' wa hown hg hat; have hrow := hown; rw [List.nil_append] at hrow; obtain ⟨Av, cv, hv⟩ := hrow.slice; rw [HN.out] at hv; subst hv; have hBa := hba.grown hg hba.size (fun k hk => by (have : W.heap.size = k := by simpa [Value.ownBlock] using hk); omega); have hK2 := coK_below hK0 hBa hWle))
  have hX := (hb.block (w.heap.size + 1) (by have := hBa.size; omega)).trans ((hBa.block (w.heap.size + 1) (by omega)).trans HWR.out)
  have z0 : wc.cell? ⟨w.heap.size + 1, 0, none⟩ = some (.slice none 0 0) := (cell_of_block hX 0).trans rfl
  have z1 : wc.cell? ⟨w.heap.size + 1, 1, none⟩ = some (.slice none 0 0) := (cell_of_block hX 1).trans rfl
  have y0 := frozen_of_block hX 0
  have y1 := frozen_of_block hX 1
  have hwa := hBa.size
  have hk : ∀ k, W.heap.size ≤ k → ((wc.setCell ⟨w.heap.size + 1, 0, none⟩ (.slice Av n cv)).setCell ⟨w.heap.size + 1, 1, none⟩ (.slice A' rs.length c')).heap[k]? = wc.heap[k]? := fun k hk =>
    (Below.heap_setCell _ _ _ _ (by show k ≠ w.heap.size + 1; omega)).trans (Below.heap_setCell _ _ _ _ (by show k ≠ w.heap.size + 1; omega))
  have hI := Lib.hid (((hrow.below hb).keep fun g hg => hk g ((hrow.below hb).lt g hg).1).mono (show w.heap.size ≤ W.heap.size by omega))
  have hS := Lib.hid ((hR.kept (w' := (wc.setCell ⟨w.heap.size + 1, 0, none⟩ (.slice Av n cv)).setCell ⟨w.heap.size + 1, 1, none⟩ (.slice A' rs.length c')) (by simp [World.setCell]) fun k h1 h2 => hk k (by omega)))
  have hB := Lib.hid ((((HBW.out.trans (hBa.mono (by omega))).trans (hb.mono (by omega))).setCell (p := ⟨w.heap.size + 1, 0, none⟩) (by simp) (.slice Av n cv)).setCell (p := ⟨w.heap.size + 1, 1, none⟩) (by simp) (.slice A' rs.length c'))
  have HO := Lib.hid ho
  have HSEP : Hid (∀ k, (Value.slice Av n cv).ownBlock = some k → k < wa.heap.size) := fun k hk => (hrow.lt k hk).2
  have hz9 : w.heap.size ≤ wa.heap.size := by omega
  have hz8 : wa.heap.size ≤ wc.heap.size := hb.size
  clear hX hwa hk hrow hown hg hat hR ho hb hK0 hK0d hK1 hK2 hK3 hBa hba
  go_wp2_with fail
  exact bodyPost_ret (v := .agg #[.slice Av n cv, .slice A' rs.length c']) (by simp [results, Tryz.results56, go_sem, z0, z1]) rfl ⟨rs, Av, A', cv, c', wa.heap.size, by rw [HN.out], by rw [HN.out]; exact hI.out, hS.out, HO.out, hB.out, hz9, by simpa [World.setCell] using hz8, by rw [HN.out]; exact HSEP.out⟩

end Go.Proofs.YtlddoookojjleaaGreatDoor

namespace Go.Proofs.YtlddoookojjleaaGreatDoor
open Go.RowKit Go.Deep
set_option linter.unusedVariables false

/-- What is known of the program under way: it lies in block O, the answer's place is block A. -/
structure MutS (R Q B B2 A O : Nat) (w w' : World) (v : Value) (ts : List Int) (u : Value) (rs : List StR) : Prop where
  res : w'.heap[A]? = some (.cells #[.slice none 0 0, .slice none 0 0] 26 (0, 0))
  out : w'.heap[O]? = some (.cells #[v, u] 26 (0, 0))
  typ : RowI w' B v ts
  bod : RowS w' B2 u rs
  src : SrcV w' R Q
  but : But R w w'

theorem MutS.below {R Q B B2 A O : Nat} {w w1 w2 : World} {v u : Value} {ts : List Int} {rs : List StR} (h : MutS R Q B B2 A O w w1 v ts u rs) (hb : Below w1.heap.size w1 w2) : MutS R Q B B2 A O w w2 v ts u rs :=
  ⟨(hb.block A (heap_lt h.res)).trans h.res, (hb.block O (heap_lt h.out)).trans h.out, h.typ.below hb, h.bod.below hb, h.src.below hb, h.but.trans (But.of_below hb (Nat.le_refl _))⟩

theorem MutS.one {R Q Q' B B2 A O : Nat} {w w1 w2 : World} {v u : Value} {ts : List Int} {rs : List StR} (h : MutS R Q B B2 A O w w1 v ts u rs) (ho : One R w1 w2) (hs : SrcV w2 R Q') (hR : R < B) (hA : A ≠ R) (hO : O ≠ R) (hB2 : B ≤ B2) : MutS R Q' B B2 A O w w2 v ts u rs :=
  ⟨(ho.block A hA).trans h.res, (ho.block O hO).trans h.out, own_keep h.typ.own fun g hg => ho.block g (by have := (h.typ.own.lt g hg).1; omega), h.bod.but (But.of_one ho) (by omega), hs, h.but.trans (But.of_one ho)⟩

/-- The row of statements lies in a block of its own. -/
theorem MutS.neA {R Q B B2 A O : Nat} {w w1 : World} {v u : Value} {ts : List Int} {rs : List StR} (h : MutS R Q B B2 A O w w1 v ts u rs) : u.ownBlock ≠ some A ∧ u.ownBlock ≠ some O ∧ v.ownBlock ≠ some A ∧ v.ownBlock ≠ some O :=
  ⟨own_type h.bod.own h.res (by decide), own_type h.bod.own h.out (by decide), own_type h.typ h.res (by decide), own_type h.typ h.out (by decide)⟩

theorem MutS.apart {R Q B B2 A O : Nat} {w w1 : World} {v u : Value} {ts : List Int} {rs : List StR} (h : MutS R Q B B2 A O w w1 v ts u rs) {g : Nat} (hg : u.ownBlock = some g) : v.ownBlock ≠ some g := by
  obtain ⟨cur, hc⟩ : ∃ cur, w1.heap[g]? = some (.cells cur 86 (0, 0)) := by
    rcases h.bod.own.2 with ⟨rfl, _⟩ | ⟨g', cap, cur, rfl, _, hc, _⟩
    · simp [Value.ownBlock] at hg
    · simp [Value.ownBlock] at hg
      subst hg
      exact ⟨cur, hc⟩
  exact own_type h.typ hc (by decide)

theorem flatS_set {α : Type} {f : α → List Value} {s : Nat} (hf : ∀ a, (f a).length = s) : ∀ (l : List α) (k i : Nat) (d d' : α) (u : Value), l[k]? = some d → i < s → (f d).set i u = f d' → (l.flatMap f).set (k * s + i) u = (l.set k d').flatMap f
  | [], k, i, d, d', u, h, _, _ => by simp at h
  | e :: l, 0, i, d, d', u, h, hi, he => by
    simp only [List.getElem?_cons_zero, Option.some.injEq] at h
    subst h
    rw [List.flatMap_cons, Nat.zero_mul, Nat.zero_add, List.set_append_left _ _ (by rw [hf]; exact hi), he, List.set_cons_zero, List.flatMap_cons]
  | e :: l, k + 1, i, d, d', u, h, hi, he => by
    rw [List.getElem?_cons_succ] at h
    rw [List.flatMap_cons, List.set_append_right _ _ (by rw [hf, Nat.succ_mul]; omega), hf, show (k + 1) * s + i - s = k * s + i from by rw [Nat.succ_mul]; omega, flatS_set hf l k i d d' u h hi he, List.set_cons_succ, List.flatMap_cons]

/-- Another field of a statement of the row. -/
theorem RowS.put {w : World} {B g n cap k i : Nat} {rs : List StR} {r r' : StR} {x : Value} (h : RowS w B (.slice (some ⟨g, 0, none⟩) n cap) rs) (hn : rs.length = n) (hk : rs[k]? = some r) (hi : i < 6) (he : r.cells.set i x = r'.cells) (ht : r'.t = r.t ∧ r'.At = r.At ∧ r'.ct = r.ct) (hee : r'.e = r.e ∧ r'.Ae = r.Ae ∧ r'.ce = r.ce) :
    RowS (w.setCell ⟨g, k * 6 + i, none⟩ x) B (.slice (some ⟨g, 0, none⟩) n cap) (rs.set k r') := by
  have hB := (h.own.lt g rfl).1
  refine ⟨?_, fun q hq => ?_⟩
  · rw [List.length_set, ← flatS_set StR.cells_length rs k i r r' x hk hi he]
    have := h.own.stored' hn (k * 6 + i) x
    rwa [hn]
  · have hh : ∀ {A c s}, Firm w B (Value.slice (some ⟨g, 0, none⟩) n cap).ownBlock A c s → Firm (w.setCell ⟨g, k * 6 + i, none⟩ x) B (Value.slice (some ⟨g, 0, none⟩) n cap).ownBlock A c s := fun {A c s} hf =>
      hf.move (by simp [World.setCell]) (fun j _ _ h3 => Below.heap_setCell _ _ _ _ (by show j ≠ g; intro e; exact h3 (by rw [e]; rfl))) (.inl rfl)
    have hm : q ∈ rs ∨ q = r' := by
      rcases List.mem_or_eq_of_mem_set hq with h1 | h1
      · exact .inl h1
      · exact .inr h1
    rcases hm with h1 | rfl
    · exact ⟨hh (h.firm q h1).1, hh (h.firm q h1).2⟩
    · have hr : r ∈ rs := List.mem_of_getElem? hk
      obtain ⟨f1, f2⟩ := h.firm r hr
      rw [ht.1, ht.2.1, ht.2.2, hee.1, hee.2.1, hee.2.2]
      exact ⟨hh f1, hh f2⟩

/-- What bending a program leaves. -/
def MutP (R P : Nat) (w : World) (E : Ending) (w' : World) : Prop := ∃ (ts : List Int) (s : Sts) (At As : Option Addr) (ct cs : Nat), E = .returned (.agg #[.slice At ts.length ct, .slice As s.len cs]) ∧
  ReadsP w' w.heap.size ts s At As ct cs ∧ ts.length ≤ 1000 ∧ s.size ≤ 40000 ∧ SrcV w' R (P + 3) ∧ But R w w'

/-- No number lies in a block. -/
def NoInt (w : World) (O : Nat) : Prop := ∀ a : Addr, a.block = O → ∀ x : Int, w.cell? a ≠ some (.int .i64 x)

theorem Rep.keepO {w w' : World} {lo hi O : Nat} (hN : NoInt w O) (hk : ∀ p : Addr, lo ≤ p.block → p.block < hi → p.block ≠ O → w'.cell? p = w.cell? p) (s : Sts) :
    ∀ a : Addr, lo ≤ a.block → a.block < hi → Rep w lo hi s a → Rep w' lo hi s a := by
  induction s with
  | nil => intro _ _ _ _; trivial
  | cons op x y n t e r iht ihe ihr =>
    intro a ha ha' h
    obtain ⟨⟨h0, h1, h2, h3⟩, ⟨A, c, h4, h5, h6, h7⟩, ⟨A', c', h8, h9, h10, h11⟩, hr⟩ := h
    have hO : a.block ≠ O := fun e => hN a e op h0
    have hb : ∀ k, lo ≤ (a.add k).block := fun k => by rw [block_add]; exact ha
    have hb' : ∀ k, (a.add k).block < hi := fun k => by rw [block_add]; exact ha'
    have hbO : ∀ k, (a.add k).block ≠ O := fun k => by rw [block_add]; exact hO
    refine ⟨⟨(hk _ ha ha' hO).trans h0, (hk _ (hb 1) (hb' 1) (hbO 1)).trans h1, (hk _ (hb 2) (hb' 2) (hbO 2)).trans h2, (hk _ (hb 3) (hb' 3) (hbO 3)).trans h3⟩,
      ⟨A, c, (hk _ (hb 4) (hb' 4) (hbO 4)).trans h4, h5, h6, fun hl => ?_⟩, ⟨A', c', (hk _ (hb 5) (hb' 5) (hbO 5)).trans h8, h9, h10, fun hl => ?_⟩, ihr _ (hb 6) (hb' 6) hr⟩
    · obtain ⟨b, rfl, hbb, hbb', hR⟩ := h7 hl
      exact ⟨b, rfl, hbb, hbb', iht _ hbb hbb' hR⟩
    · obtain ⟨b, rfl, hbb, hbb', hR⟩ := h11 hl
      exact ⟨b, rfl, hbb, hbb', ihe _ hbb hbb' hR⟩

theorem RepV.keepO {w w' : World} {lo hi O : Nat} {s : Sts} {A : Option Addr} {c : Nat} (h : RepV w lo hi s A c) (hN : NoInt w O) (hk : ∀ p : Addr, lo ≤ p.block → p.block < hi → p.block ≠ O → w'.cell? p = w.cell? p) : RepV w' lo hi s A c :=
  ⟨h.1, h.2.1, fun hl => by
    obtain ⟨b, rfl, hb, hb', hR⟩ := h.2.2 hl
    exact ⟨b, rfl, hb, hb', Rep.keepO hN hk _ _ hb hb' hR⟩⟩

theorem NoInt.same {w w' : World} {O : Nat} (h : NoInt w O) (hO : w'.heap[O]? = w.heap[O]?) : NoInt w' O := fun a ha x hx => h a ha x (by
  rw [← hx]
  exact (World.cell?_of_block (by rw [ha]; exact hO)).symm)

theorem Firm.keepO {w w2 : World} {lo O : Nat} {g : Option Nat} {A : Option Addr} {c : Nat} {s : Sts} (h : Firm w lo g A c s) (hN : NoInt w O) (hO : O < w.heap.size) (hz : w2.heap.size = w.heap.size) (hk : ∀ k, k ≠ O → w2.heap[k]? = w.heap[k]?) : Firm w2 lo g A c s := by
  intro w' h'
  rw [hz] at h' ⊢
  have hO' : w.heap[O]? = some w.heap[O] := Array.getElem?_eq_getElem hO
  by_cases hb : O < w'.heap.size
  · have hh : ∀ k, ({ w' with heap := w'.heap.set O w.heap[O] } : World).heap[k]? = if O = k then w.heap[O]? else w'.heap[k]? := fun k => by
      show (w'.heap.set O w.heap[O])[k]? = _
      rw [Array.getElem?_set]
      split
      · rw [hO']
      · rfl
    have h2 := h ({ w' with heap := w'.heap.set O w.heap[O] } : World) fun k h1 h2 h3 => by
      rw [hh]
      by_cases e : O = k
      · rw [if_pos e, e]
      · rw [if_neg e, h' k h1 h2 h3, hk k (fun e2 => e e2.symm)]
    refine h2.keepO (O := O) (hN.same (by rw [hh, if_pos rfl])) fun p _ _ hp => ?_
    refine World.cell?_of_block ?_
    rw [hh, if_neg (fun e => hp e.symm)]
  · refine (h w' fun k h1 h2 h3 => ?_)
    by_cases e : k = O
    · exfalso
      have h4 := h' k h1 h2 h3
      rw [Array.getElem?_eq_none (by omega), Array.getElem?_eq_getElem (by omega)] at h4
      cases h4
    · rw [h' k h1 h2 h3, hk k e]

theorem noInt_prog {w : World} {O : Nat} {t : TypeId} {A A' : Option Addr} {n m c c' : Nat} (h : w.heap[O]? = some (.cells #[.slice A n c, .slice A' m c'] t (0, 0))) : NoInt w O := by
  intro a ha x hx
  unfold World.cell? at hx
  rw [ha, h] at hx
  simp only at hx
  split at hx
  · cases hx
  · obtain ⟨o, ho⟩ : ∃ o, a.off = o := ⟨_, rfl⟩
    rw [ho] at hx
    match o, hx with
    | 0, hx => simp at hx
    | 1, hx => simp at hx
    | o + 2, hx => simp at hx

/-- A store into the block of the program. -/
theorem RowS.far {w : World} {B O o : Nat} {u x : Value} {rs : List StR} (h : RowS w B u rs) (hN : NoInt w O) (hO : O < w.heap.size) (hu : u.ownBlock ≠ some O) : RowS (w.setCell ⟨O, o, none⟩ x) B u rs := by
  have hk : ∀ k, k ≠ O → (w.setCell ⟨O, o, none⟩ x).heap[k]? = w.heap[k]? := fun k hk => Below.heap_setCell _ _ _ _ hk
  refine ⟨own_keep h.own fun g hg => hk g (fun e => hu (by rw [hg, e])), fun r hr => ?_⟩
  exact ⟨(h.firm r hr).1.keepO hN hO (by simp [World.setCell]) hk, (h.firm r hr).2.keepO hN hO (by simp [World.setCell]) hk⟩

/-- Another row of statements. -/
theorem MutS.rebody {R Q B B2 A O n c m c' m2 c2 : Nat} {w w' w2 : World} {Av A' A2 : Option Addr} {ts : List Int} {rs rs2 : List StR} (h : MutS R Q B B2 A O w w' (.slice Av n c) ts (.slice A' m c') rs) (hg : w'.grownBy w2 (Value.slice A' m c').ownBlock) (hb : RowS w2 B2 (.slice A2 m2 c2) rs2)
    (hAO : A ≠ O) (hwB : w.heap.size ≤ B2) (hwO : w.heap.size ≤ O) (hR : R < B2) (hRO : R < O) :
    MutS R Q B B2 A O w (w2.setCell ⟨O, 1, none⟩ (.slice A2 m2 c2)) (.slice Av n c) ts (.slice A2 m2 c2) rs2 := by
  obtain ⟨n1, n2, n3, n4⟩ := h.neA
  have hO2 := (hg.block O (heap_lt h.out) (fun e => n2 e.symm)).trans h.out
  have hA2 := (hg.block A (heap_lt h.res) (fun e => n1 e.symm)).trans h.res
  have hT2 : RowI w2 B (.slice Av n c) ts := h.typ.keep fun q hq => hg.block q (h.typ.own.lt q hq).2 fun e => h.apart e.symm hq
  have hr : ∀ k, (Value.slice A' m c').ownBlock = some k → w.heap.size ≤ k := fun k hk => Nat.le_trans hwB (h.bod.own.lt k hk).1
  refine ⟨(Below.heap_setCell _ _ _ _ hAO).trans hA2, block_set hO2 1 _, hT2.keep fun q hq => Below.heap_setCell _ _ _ _ (by show q ≠ O; exact fun e => n4 (by rw [hq, e])),
    hb.far (noInt_prog hO2) (heap_lt hO2) (own_type hb.own hO2 (by decide)), (h.src.keepR fun j hj => hg.block j (by have := h.src.lt; omega) fun e => by have := (h.bod.own.lt j e.symm).1; omega).setB hRO _ _, (h.but.grown hg hr).setCell hwO _⟩

/-- Another row of types. -/
theorem MutS.retype {R Q B B2 A O n c m c' n2 c2 : Nat} {w w' w2 : World} {Av A' A2 : Option Addr} {ts ts2 : List Int} {rs : List StR} (h : MutS R Q B B2 A O w w' (.slice Av n c) ts (.slice A' m c') rs) (hg : w'.grownBy w2 (Value.slice Av n c).ownBlock) (hb : RowI w2 B (.slice A2 n2 c2) ts2) (hsep : ∀ k, (Value.slice Av n c).ownBlock = some k → k < B2)
    (hAO : A ≠ O) (hwB : w.heap.size ≤ B) (hwO : w.heap.size ≤ O) (hR : R < B) (hRO : R < O) :
    MutS R Q B B2 A O w (w2.setCell ⟨O, 0, none⟩ (.slice A2 n2 c2)) (.slice A2 n2 c2) ts2 (.slice A' m c') rs := by
  obtain ⟨n1, n2, n3, n4⟩ := h.neA
  have hO2 := (hg.block O (heap_lt h.out) (fun e => n4 e.symm)).trans h.out
  have hA2 := (hg.block A (heap_lt h.res) (fun e => n3 e.symm)).trans h.res
  have hr : ∀ k, (Value.slice Av n c).ownBlock = some k → w.heap.size ≤ k := fun k hk => Nat.le_trans hwB (h.typ.own.lt k hk).1
  have hf : RowS w2 B2 (.slice A' m c') rs := h.bod.kept hg.size fun k h1 h2 => hg.block k h2 fun e => by have := hsep k e.symm; omega
  refine ⟨(Below.heap_setCell _ _ _ _ hAO).trans hA2, block_set hO2 0 _, hb.keep fun q hq => Below.heap_setCell _ _ _ _ (by show q ≠ O; exact fun e => own_type hb hO2 (by decide) (by rw [hq, e])),
    hf.far (noInt_prog hO2) (heap_lt hO2) n2, (h.src.keepR fun j hj => hg.block j (by have := h.src.lt; omega) fun e => by have := (h.typ.own.lt j e.symm).1; omega).setB hRO _ _, (h.but.grown hg hr).setCell hwO _⟩

theorem intsV_lit1 (w : World) (q : Int) : IntsV (w.alloc (.cells #[.int .i64 q] 3)) 0 (w.alloc (.cells #[.int .i64 q] 3)).heap.size [q] (some ⟨w.heap.size, 0, none⟩) 1 := by
  refine ⟨Nat.le_refl _, by unfold maxLen; omega, fun _ => ⟨_, rfl, Nat.zero_le _, by simp, fun j v hv => ?_⟩⟩
  rw [add_block, Nat.zero_add, cell_of_block (heap_alloc_new w _)]
  match j, hv with
  | 0, hv => simp at hv; subst hv; rfl
  | j + 1, hv => simp at hv

theorem szR_set {rs : List StR} {k : Nat} {r : StR} (r' : StR) (h : rs[k]? = some r) (ht : r'.t = r.t) (he : r'.e = r.e) : szR (rs.set k r') = szR rs := by
  induction rs generalizing k with
  | nil => simp at h
  | cons q rs ih =>
    cases k with
    | zero =>
      simp only [List.getElem?_cons_zero, Option.some.injEq] at h
      subst h
      simp only [List.set_cons_zero, szR, ht, he]
    | succ k =>
      rw [List.getElem?_cons_succ] at h
      simp only [List.set_cons_succ, szR, ih h]

theorem row_cell {w : World} {B g n cap k : Nat} {rs : List StR} {r : StR} (h : RowS w B (.slice (some ⟨g, 0, none⟩) n cap) rs) (hk : rs[k]? = some r) (i : Nat) (hi : i < 6) : ∃ z, w.cell? ⟨g, k * 6 + i, none⟩ = some z := by
  have hc := flatS_get StR.cells_length rs k i r hk hi
  obtain ⟨z, hz⟩ : ∃ z, r.cells[i]? = some z := ⟨r.cells[i]'(by rw [StR.cells_length]; exact hi), List.getElem?_eq_getElem _⟩
  have := World.ownsRow.cells h.own (g := g) rfl (k * 6 + i) z (by rw [hc, hz])
  rw [add_block, Nat.zero_add] at this
  exact ⟨z, this⟩

/-- A store of another field. -/
theorem MutS.put {R Q B B2 A O g m c' k i : Nat} {w w' : World} {v : Value} {ts : List Int} {rs : List StR} {r r' : StR} {x : Value} (h : MutS R Q B B2 A O w w' v ts (.slice (some ⟨g, 0, none⟩) m c') rs) (hn : rs.length = m) (hk : rs[k]? = some r) (hi : i < 6) (he : r.cells.set i x = r'.cells)
    (ht : r'.t = r.t ∧ r'.At = r.At ∧ r'.ct = r.ct) (hee : r'.e = r.e ∧ r'.Ae = r.Ae ∧ r'.ce = r.ce) (hwB : w.heap.size ≤ B) (hgB : B2 ≤ g) (hB2 : B ≤ B2) (hR : R < B) (hgO : g ≠ O) (hgA : g ≠ A) :
    MutS R Q B B2 A O w (w'.setCell ⟨g, k * 6 + i, none⟩ x) v ts (.slice (some ⟨g, 0, none⟩) m c') (rs.set k r') :=
  ⟨(Below.heap_setCell _ _ _ _ (by show A ≠ g; exact fun e => hgA e.symm)).trans h.res, (Below.heap_setCell _ _ _ _ (by show O ≠ g; exact fun e => hgO e.symm)).trans h.out,
    h.typ.keep fun q hq => Below.heap_setCell _ _ _ _ (by show q ≠ g; intro e; exact h.apart (g := g) rfl (by rw [hq, e])), h.bod.put hn hk hi he ht hee, h.src.setB (by omega) _ _, h.but.setCell (by omega) _⟩

/-- The answer reads as the program, behind the store of it. -/
theorem mut_reads {R Q B B2 A O lo n m c c' : Nat} {w w' : World} {Av A' : Option Addr} {ts : List Int} {rs : List StR} {x y : Value} (h : MutS R Q B B2 A O w w' (.slice Av n c) ts (.slice A' m c') rs) (hA : A < B) (hl : lo ≤ B) (hB : B ≤ B2) :
    ReadsP ((w'.setCell ⟨A, 0, none⟩ x).setCell ⟨A, 1, none⟩ y) lo ts (ofR rs) Av A' c c' :=
  have h0 : ReadsP w' B ts (ofR rs) Av A' c c' := ⟨h.typ.intsB, h.bod.rep.2.mono hB (Nat.le_refl _)⟩
  ((h0.setLow hA).setLow hA).mono hl

theorem RowS.more2 {w w' : World} {B : Nat} {v v' : Value} {rs ss : List StR} (h : RowS w B v rs) (hown : w'.ownsRow B 86 6 v' (rs.length + ss.length) (rs.flatMap StR.cells ++ ss.flatMap StR.cells)) (hg : w.grownBy w' v.ownBlock) (hat : v'.ownBlock = v.ownBlock ∨ v'.ownBlock = some w.heap.size)
    (hf : ∀ r ∈ ss, Firm w B v.ownBlock r.At r.ct r.t ∧ Firm w B v.ownBlock r.Ae r.ce r.e) : RowS w' B v' (rs ++ ss) := by
  refine ⟨by rw [List.length_append, List.flatMap_append]; exact hown, fun r hr => ?_⟩
  have hh : ∀ {A c s}, Firm w B v.ownBlock A c s → Firm w' B v'.ownBlock A c s := fun {A c s} hf =>
    hf.move hg.size (fun k _ h2 h3 => hg.block k h2 (fun e => h3 e.symm)) (by
      rcases hat with e | e
      · exact .inl e
      · exact .inr fun k hk => by rw [e] at hk; injection hk with hk; omega)
  rcases List.mem_append.1 hr with hr | hr
  · exact ⟨hh (h.firm r hr).1, hh (h.firm r hr).2⟩
  · exact ⟨hh (hf r hr).1, hh (hf r hr).2⟩

/-- Statements appended to a row, in a region that draws its order. -/
theorem step_append_stmts {w : World} {ops : Array Oper} {o : Oper} {a : Act} {K : Act → World → Prop} {Q : Exit → Act → World → Prop} {E : Prop} (hgd : o.guard = none) (s x : Operand)
    (ho : o.op = .call { callee := .builtin .append, args := #[s, x], argTypes := #[24, 24] }) (hty : o.type = 24) (B : Nat) (v : Value) (rs ss : List StR) (ad : Addr) (m n c : Nat) (hm : ss.length = m) (hn : rs.length = n)
    (hs : a.eval s = v) (hx : a.eval x = .slice (some ad) m c) (hown : RowS w B v rs) (hcells : ∀ j u, (ss.flatMap StR.cells)[j]? = some u → w.cell? (ad.add j) = some u)
    (hf : ∀ r ∈ ss, Firm w B v.ownBlock r.At r.ct r.t ∧ Firm w B v.ownBlock r.Ae r.ce r.e) (hl : n + m ≤ 2000000) (hB : B ≤ w.heap.size)
    (h : ∀ A' c2 w', RowS w' B (.slice A' (n + m) c2) (rs ++ ss) → w.grownBy w' v.ownBlock → K (a.put o.dst (.slice A' (n + m) c2)) w') :
    if Region.wanted o (yielded ops a.tmps) = true then Oper.wp Tryz.prog o a w K Q else E := by
  have hw : Region.wanted o (yielded ops a.tmps) = true := by simp [Region.wanted, hgd]
  rw [if_pos hw]
  subst hm hn
  obtain ⟨i0, hi, hz0, hz1, hz2⟩ := info_parts Tryz.infoStmt
  obtain ⟨v', w', hr, h2, h3, _, h4⟩ := run_append_own_at (P := Tryz.prog) w B 24 24 86 i0 (.agg #[.int .i64 0, .int .i64 0, .int .i64 0, .int .i64 0, .slice none 0 0, .slice none 0 0]) 6 80 Tryz.underlying24 hi hz0 hz1 hz2 rfl (by decide) v rs.length (rs.flatMap StR.cells) hown.own ad ss.length c (ss.flatMap StR.cells)
    (flatS_len StR.cells_length ss) hcells (fun u hu => by
      obtain ⟨r, _, hr⟩ := List.mem_flatMap.1 hu
      simp [StR.cells] at hr
      rcases hr with rfl | rfl | rfl | rfl | rfl | rfl <;> rfl) (by unfold maxLen; omega) (by omega) hB
  have hrow := hown.more2 h2 h3 h4 hf
  obtain ⟨A', c2, hv, _, _, _⟩ := own_form h2
  subst hv
  unfold Oper.wp execOp
  simp only [ho, hty, resolve, invoke, builtin, Sem.run_bind, Sem.run_pure, Result.andThen_ok, List.map_toArray, List.map_cons, List.map_nil, hs, hx, hr]
  exact h A' c2 w' hrow h3

/-- The first statements of a row. -/
theorem RowS.take {w : World} {B g m cap k : Nat} {rs : List StR} (h : RowS w B (.slice (some ⟨g, 0, none⟩) m cap) rs) (hm : rs.length = m) (hk : k ≤ m) : RowS w B (.slice (some ⟨g, 0, none⟩) k cap) (rs.take k) := by
  subst hm
  have hl : (rs.take k).length = k := by rw [List.length_take]; omega
  have hfl : (rs.take k).flatMap StR.cells = (rs.flatMap StR.cells).take (k * 6) := by
    have h1 : rs.flatMap StR.cells = (rs.take k).flatMap StR.cells ++ (rs.drop k).flatMap StR.cells := by rw [← List.flatMap_append, List.take_append_drop]
    have h2 := flatS_len StR.cells_length (rs.take k)
    rw [hl] at h2
    rw [h1, List.take_append_of_le_length (by omega)]
    exact (List.take_of_length_le (by omega)).symm
  refine ⟨?_, fun r hr => h.firm r (List.mem_of_mem_take hr)⟩
  rw [hl, hfl]
  rcases h.own.2 with ⟨h1, _⟩ | ⟨g', cap', cur, h1, h2, h3, h4, h5, h6, h7⟩
  · cases h1
  · injection h1 with e1 _ e3
    injection e1 with e1
    injection e1 with e1
    subst e1 e3
    refine ⟨?_, .inr ⟨g, cap, cur, rfl, h2, h3, by omega, h5, h6, ?_⟩⟩
    · have := flatS_len StR.cells_length rs
      rw [List.length_take]
      omega
    · rw [← h7, List.take_take]
      congr 1
      omega

/-- The cells of the statements from one on. -/
theorem RowS.from_ {w : World} {B g m cap k : Nat} {rs : List StR} (h : RowS w B (.slice (some ⟨g, 0, none⟩) m cap) rs) : ∀ j u, ((rs.drop k).flatMap StR.cells)[j]? = some u → w.cell? ⟨g, k * 6 + j, none⟩ = some u := by
  intro j u hu
  by_cases hk : k ≤ rs.length
  · have h1 : rs.flatMap StR.cells = (rs.take k).flatMap StR.cells ++ (rs.drop k).flatMap StR.cells := by rw [← List.flatMap_append, List.take_append_drop]
    have h2 := flatS_len StR.cells_length (rs.take k)
    rw [List.length_take, Nat.min_eq_left hk] at h2
    have := World.ownsRow.cells h.own (g := g) rfl (k * 6 + j) u (by rw [h1, List.getElem?_append_right (by omega), show k * 6 + j - ((rs.take k).flatMap StR.cells).length = j from by omega]; exact hu)
    rwa [add_block, Nat.zero_add] at this
  · rw [List.drop_of_length_le (by omega)] at hu
    simp at hu

theorem szR_sub {rs ss : List StR} : szR (rs.take 0 ++ ss) = szR ss := by simp

theorem szR_del (rs : List StR) (k : Nat) : szR (rs.take k ++ rs.drop (k + 1)) ≤ szR rs := by
  have h1 : szR rs = szR (rs.take k) + szR (rs.drop k) := by rw [← szR_append, List.take_append_drop]
  have h2 : szR (rs.drop (k + 1)) ≤ szR (rs.drop k) := by
    rw [← List.drop_drop]
    cases rs.drop k with
    | nil => simp
    | cons q l => simp [szR]
  rw [szR_append, h1]
  omega

end Go.Proofs.YtlddoookojjleaaGreatDoor

namespace Go.Proofs.YtlddoookojjleaaGreatDoor
open Go.RowKit Go.Deep
set_option linter.unusedVariables false

set_option maxRecDepth 100000 in
set_option maxHeartbeats 8000000 in
theorem l1Mutate_any (R P : Nat) (ts : List Int) (s : Sts) (At As : Option Addr) (ct cs : Nat) (w : World) (h0 : SrcV w R P) (hP : P ≤ 20000) (hl : ts.length ≤ 900) (hsz : s.size ≤ 1200) (hT : IntsV w 0 w.heap.size ts At ct) (hS : RepV w 0 w.heap.size s As cs) :
    Calls Tryz.prog 47 #[.pointer (some ⟨R, 0, none⟩), .agg #[.slice At ts.length ct, .slice As s.len cs]] w (MutP R P w) := by
  have hRw := h0.lt
  obtain ⟨W, hW⟩ : ∃ W, (w.alloc (.cells #[.slice At ts.length ct, .slice As s.len cs] 26)).alloc (.cells #[.slice none 0 0, .slice none 0 0] 26) = W := ⟨_, rfl⟩
  have hbW : Below w.heap.size w W := by rw [← hW]; exact ((Below.refl _ _).alloc (Nat.le_refl _) _).alloc (by simp) _
  have hWle : w.heap.size + 2 ≤ W.heap.size := by rw [← hW]; exact Nat.le_of_eq (by simp)
  have hWP : W.heap[w.heap.size]? = some (.cells #[.slice At ts.length ct, .slice As s.len cs] 26 (0, 0)) := by
    rw [← hW]
    show ((w.heap.push _).push _)[w.heap.size]? = _
    simp only [Array.getElem?_push, Array.size_push]
    rw [if_neg (by omega), if_pos trivial]
  have hWR : W.heap[w.heap.size + 1]? = some (.cells #[.slice none 0 0, .slice none 0 0] 26 (0, 0)) := by
    rw [← hW]
    show ((w.heap.push _).push _)[w.heap.size + 1]? = _
    simp only [Array.getElem?_push, Array.size_push]
    rw [if_pos trivial]
  have HC := Lib.hid (l1CopyOf_any ts s At As ct cs W (by omega) (by omega) (hT.below hbW hbW.size) (hS.below hbW hbW.size))
  have HWR := Lib.hid hWR
  have HSW := Lib.hid (h0.below hbW)
  have HBW := Lib.hid (But.of_below (R := R) hbW (Nat.le_refl _))
  obtain ⟨n, hn⟩ : ∃ n, ts.length = n := ⟨_, rfl⟩
  have HN := Lib.hid hn
  have p0 : W.cell? ⟨w.heap.size, 0, none⟩ = some (.slice At n ct) := (cell_of_block hWP 0).trans (by rw [← hn]; rfl)
  have p1 : W.cell? ⟨w.heap.size, 1, none⟩ = some (.slice As s.len cs) := (cell_of_block hWP 1).trans rfl
  rw [hn] at hW hl HC ⊢
  clear hWP hWR hT hS hn hbW h0
  go_enter Tryz.func47, Tryz.ntmps47
  go_upto_region 1 with (fail)
  clear hW
  go_wp2_with fail
  refine HC.out.mono ?_
  rintro E w1 ⟨rs, Av, A', cv, c', B2, rfl, hI, hR, ho, hb1, hB2, hB2z, hsep⟩
  rw [HN.out] at hI hsep
  have HSEP := Lib.hid hsep
  clear hsep
  rw [HN.out]
  have hzs : Hid (szR rs ≤ 1200) := by unfold Hid; rw [← ofR_size, ho]; exact hsz
  have hrl : rs.length ≤ 1200 := Nat.le_trans (len_le_szR rs) hzs.out
  obtain ⟨m, hm⟩ : ∃ m, rs.length = m := ⟨_, rfl⟩
  have HM := Lib.hid hm
  rw [hm] at hR hrl ⊢
  have h1z := hb1.size
  obtain ⟨O, hO⟩ : ∃ O, w1.heap.size = O := ⟨_, rfl⟩
  have hba := (Below.refl w1.heap.size w1).alloc (Nat.le_refl _) (.cells #[.slice Av n cv, .slice A' m c'] 26)
  have hOn := heap_alloc_new w1 (.cells #[.slice Av n cv, .slice A' m c'] 26)
  have hO2 : O + 1 ≤ (w1.alloc (.cells #[.slice Av n cv, .slice A' m c'] 26)).heap.size := by rw [← hO]; exact Nat.le_of_eq (by simp)
  have hOle : W.heap.size ≤ O := by rw [← hO]; exact h1z
  have hB2O : B2 ≤ O := by rw [← hO]; exact hB2z
  have M2 : Hid (MutS R P W.heap.size B2 (w.heap.size + 1) O w (w1.alloc (.cells #[.slice Av n cv, .slice A' m c'] 26)) (.slice Av n cv) ts (.slice A' m c') rs) :=
    ⟨(hba.block (w.heap.size + 1) (by omega)).trans ((hb1.block (w.heap.size + 1) (by omega)).trans HWR.out), by rw [← hO]; exact hOn, hI.below hba, hR.below hba, (HSW.out.below hb1).below hba, (HBW.out.trans (But.of_below hb1 (Nat.le_refl _))).trans (But.of_below hba (Nat.le_refl _))⟩
  obtain ⟨w2, hw2⟩ : ∃ w2, w1.alloc (.cells #[.slice Av n cv, .slice A' m c'] 26) = w2 := ⟨_, rfl⟩
  rw [hw2] at M2 hO2
  clear hI hR ho hb1 hm hba hOn p0 p1 HWR HSW HBW HC hsz hB2z
  go_upto_region 2 with (fail)
  clear hw2 hO h1z
  have hAB : w.heap.size + 1 < W.heap.size := by omega
  have x1 : w2.cell? ⟨O, 1, none⟩ = some (.slice A' m c') := (cell_of_block M2.out.out 1).trans rfl
  by_cases hm0 : m = 0
  · subst hm0
    go_upto_region 3 with (fail)
    clear x1
    have hO := M2.out.out
    have hA := M2.out.res
    have z0 : w2.cell? ⟨w.heap.size + 1, 0, none⟩ = some (.slice none 0 0) := (cell_of_block hA 0).trans rfl
    have z1 : w2.cell? ⟨w.heap.size + 1, 1, none⟩ = some (.slice none 0 0) := (cell_of_block hA 1).trans rfl
    have y0 := frozen_of_block hA 0
    have y1 := frozen_of_block hA 1
    have x0 : w2.cell? ⟨O, 0, none⟩ = some (.slice Av n cv) := (cell_of_block hO 0).trans rfl
    have x1 : w2.cell? ⟨O, 1, none⟩ = some ((.slice A' 0 c')) := (cell_of_block hO 1).trans rfl
    clear hO hA
    go_wp2_with fail
    refine bodyPost_ret (v := .agg #[.slice Av n cv, (.slice A' 0 c')]) (by simp [results, Tryz.results47, go_sem, z0, z1]) rfl ⟨ts, ofR (rs), Av, A', cv, c', by rw [HN.out, ofR_len, HM.out], mut_reads M2.out hAB (by omega) hB2, by rw [HN.out]; omega, by rw [ofR_size]; have := hzs.out; omega, ?_, ?_⟩
    · repeat (refine SrcV.setB ?_ (by omega) _ _)
      exact M2.out.src.more (by omega)
    · repeat (refine But.setCell ?_ (by simp) _)
      exact M2.out.but
  have e1 : ((m : Int) == 0) = false := by simp; omega
  have e1' : (m == 0) = false := by simp; omega
  have hmp : 0 < m := by omega
  clear hm0
  have hgf := M2.out.bod.form
  obtain ⟨Ax, cx, hax, hcx1, hcx2, hcx3⟩ := hgf
  obtain ⟨g, hg, hgB, hgl⟩ := hcx3 (by rw [HM.out]; omega)
  injection hax with hax1 hax2 hax3
  subst hax1 hax3
  subst hg
  have hcm : m ≤ c' ∧ c' ≤ 9223372036854775807 := by rw [HM.out] at hcx1; unfold maxLen at hcx2; omega
  have hgO : g ≠ O := fun e => M2.out.neA.2.1 (by rw [← e]; rfl)
  have hgA : g ≠ w.heap.size + 1 := by omega
  clear hcx1 hcx2 hcx3 hax2 hgl
  have HK := Lib.hid (pick_any R P (m : Int) w2 (by omega) (by omega) M2.out.src (by omega))
  have x1 : w2.cell? ⟨O, 1, none⟩ = some (.slice (some ⟨g, 0, none⟩) m c') := (cell_of_block M2.out.out 1).trans rfl
  go_wp2_with fail
  refine HK.out.mono ?_
  rintro E w3 ⟨k, hk, rfl, ks, ko⟩
  have M3 := Lib.hid (M2.out.one ko ks (by omega) (by omega) (by omega) hB2)
  have z3 := Nat.le_of_eq ko.size.symm
  have hkm : k < m := by omega
  clear ks ko hk HK M2 x1
  have HK := Lib.hid (pick_any R (P + 1) 30 w3 (by omega) (by omega) M3.out.src (by omega))
  go_wp2_with fail
  refine HK.out.mono ?_
  rintro E w4 ⟨u, hu, rfl, ks, ko⟩
  have M4 := Lib.hid (M3.out.one ko ks (by omega) (by omega) (by omega) hB2)
  have z4 := Nat.le_of_eq ko.size.symm
  clear ks ko HK M3
  obtain ⟨r, hr⟩ : ∃ r, rs[k]? = some r := ⟨rs[k]'(by rw [HM.out]; exact hkm), List.getElem?_eq_getElem _⟩
  have HR := Lib.hid hr
  clear hr
  obtain ⟨sw, hsw⟩ : ∃ sw : Int, (u : Int) = sw := ⟨_, rfl⟩
  have hcase : sw = 0 ∨ sw = 1 ∨ sw = 2 ∨ sw = 3 ∨ sw = 4 ∨ sw = 5 ∨ sw = 6 ∨ 7 ≤ sw := by omega
  rw [hsw]
  clear hsw hu
  rcases hcase with rfl | rfl | rfl | rfl | rfl | rfl | rfl | hs7
  · go_upto_region 7 with (fail)
    have hrow := M4.out.bod
    have c1 : w4.cell? ⟨O, 1, none⟩ = some (.slice (some ⟨g, 0, none⟩) m c') := (cell_of_block M4.out.out 1).trans rfl
    have cf : w4.frozen? ⟨g, k * 6, none⟩ = false := by
      have := hrow.own
      rw [HM.out] at this
      exact this.frozenAt (k * 6)
    have cv0 : ∃ z, w4.cell? ⟨g, k * 6, none⟩ = some z := row_cell hrow HR.out 0 (by omega)
    obtain ⟨zc, hzc⟩ := cv0
    have hK1 : LdK ⟨O, 1, none⟩ (.slice (some ⟨g, 0, none⟩) m c') ⟨g, k * 6, none⟩ w4.drew := ldK_mk c1 hzc cf
    have hK1' : LdK ⟨O, 1, none⟩ (.slice (some ⟨g, 0, none⟩) m c') ⟨g, k * 6, none⟩ w4 := hK1
    have hbl := ((Below.refl w4.heap.size w4).alloc (Nat.le_refl _) (.cells #[.int .i64 0, .int .i64 11, .int .i64 1, .int .i64 3, .int .i64 8] 3)).drew
    have hK2 := ldK_below hK1' hbl
    have HM5 := Lib.hid (M4.out.below hbl)
    have HNM := Lib.hid (num_any R (P + 1 + 1) w4.heap.size [0, 11, 1, 3, 8] (w4.alloc (.cells #[.int .i64 0, .int .i64 11, .int .i64 1, .int .i64 3, .int .i64 8] 3)).drew (heap_alloc_new w4 _) (by omega) (by decide) (by decide) HM5.out.src (by omega))
    have hkc : k ≤ 1200 := by omega
    clear hrow c1 cf hzc hbl
    go_region_held3 (LdK ⟨O, 1, none⟩ (.slice (some ⟨g, 0, none⟩) m c') ⟨g, k * 6, none⟩)
      (first | with_reducible exact hK1 | with_reducible exact hK1' | with_reducible exact hK2 | with_reducible exact hK3 | with_reducible exact ldK_store hK3 hne _)
      ((go_at_call 25; refine HNM.out.mono ?_; rintro E w7 ⟨q, hq, rfl, ks7, ko7⟩; have hK3 := ldK_but hK2 (But.of_one ko7) (by show O ≠ R; omega) (by show g ≠ R; omega); have hne : (⟨g, k * 6, none⟩ : Addr) ≠ ⟨O, 1, none⟩ := fun e => hgO (by injection e)))
    have M7 := Lib.hid (HM5.out.one ko7 ks7 (by omega) (by omega) (by omega) hB2)
    have M8 := Lib.hid (M7.out.put (r' := ⟨q, r.x, r.y, r.n, r.t, r.e, r.At, r.ct, r.Ae, r.ce⟩) (i := 0) (x := .int .i64 q) HM.out HR.out (by omega) rfl ⟨rfl, rfl, rfl⟩ ⟨rfl, rfl, rfl⟩ (by omega) (by omega) hB2 (by omega) hgO hgA)
    replace M8 : Hid (MutS R (P + 1 + 1 + 1) W.heap.size B2 (w.heap.size + 1) O w (w7.setCell ⟨g, k * 6, none⟩ (.int .i64 q)) (.slice Av n cv) ts (.slice (some ⟨g, 0, none⟩) m c') (rs.set k ⟨q, r.x, r.y, r.n, r.t, r.e, r.At, r.ct, r.Ae, r.ce⟩)) := M8
    obtain ⟨w8, hw8⟩ : ∃ w8, w7.setCell ⟨g, k * 6, none⟩ (.int .i64 q) = w8 := ⟨_, rfl⟩
    rw [hw8] at M8 ⊢
    have hsz8 := szR_set ⟨q, r.x, r.y, r.n, r.t, r.e, r.At, r.ct, r.Ae, r.ce⟩ HR.out rfl rfl
    have HSZ := Lib.hid hsz8
    clear hw8 hK1 hK1' hK2 hK3 HNM hq ks7 ko7 hne HM5 M7 hsz8
    have hO := M8.out.out
    have hA := M8.out.res
    have z0 : w8.cell? ⟨w.heap.size + 1, 0, none⟩ = some (.slice none 0 0) := (cell_of_block hA 0).trans rfl
    have z1 : w8.cell? ⟨w.heap.size + 1, 1, none⟩ = some (.slice none 0 0) := (cell_of_block hA 1).trans rfl
    have y0 := frozen_of_block hA 0
    have y1 := frozen_of_block hA 1
    have x0 : w8.cell? ⟨O, 0, none⟩ = some (.slice Av n cv) := (cell_of_block hO 0).trans rfl
    have x1 : w8.cell? ⟨O, 1, none⟩ = some ((.slice (some ⟨g, 0, none⟩) m c')) := (cell_of_block hO 1).trans rfl
    clear hO hA
    go_wp2_with fail
    refine bodyPost_ret (v := .agg #[.slice Av n cv, (.slice (some ⟨g, 0, none⟩) m c')]) (by simp [results, Tryz.results47, go_sem, z0, z1]) rfl ⟨ts, ofR (rs.set k ⟨q, r.x, r.y, r.n, r.t, r.e, r.At, r.ct, r.Ae, r.ce⟩), Av, some ⟨g, 0, none⟩, cv, c', by rw [HN.out, ofR_len, List.length_set, HM.out], mut_reads M8.out hAB (by omega) hB2, by rw [HN.out]; omega, by rw [ofR_size]; have := HSZ.out; have := hzs.out; omega, ?_, ?_⟩
    · repeat (refine SrcV.setB ?_ (by omega) _ _)
      exact M8.out.src.more (by omega)
    · repeat (refine But.setCell ?_ (by simp) _)
      exact M8.out.but
  · go_upto_region 9 with (fail)
    have hrow := M4.out.bod
    have c1 : w4.cell? ⟨O, 1, none⟩ = some (.slice (some ⟨g, 0, none⟩) m c') := (cell_of_block M4.out.out 1).trans rfl
    have cf : w4.frozen? ⟨g, k * 6 + 1, none⟩ = false := by
      have := hrow.own
      rw [HM.out] at this
      exact this.frozenAt (k * 6 + 1)
    have cv0 : ∃ z, w4.cell? ⟨g, k * 6 + 1, none⟩ = some z := row_cell hrow HR.out 1 (by omega)
    obtain ⟨zc, hzc⟩ := cv0
    have hK1 : LdK ⟨O, 1, none⟩ (.slice (some ⟨g, 0, none⟩) m c') ⟨g, k * 6 + 1, none⟩ w4.drew := ldK_mk c1 hzc cf
    have hK1' : LdK ⟨O, 1, none⟩ (.slice (some ⟨g, 0, none⟩) m c') ⟨g, k * 6 + 1, none⟩ w4 := hK1
    have hbl := ((Below.refl w4.heap.size w4).alloc (Nat.le_refl _) (.cells #[.int .i64 6, .int .i64 (-1), .int .i64 0, .int .i64 1] 3)).drew
    have hK2 := ldK_below hK1' hbl
    have HM5 := Lib.hid (M4.out.below hbl)
    have HNM := Lib.hid (num_any R (P + 1 + 1) w4.heap.size [6, -1, 0, 1] (w4.alloc (.cells #[.int .i64 6, .int .i64 (-1), .int .i64 0, .int .i64 1] 3)).drew (heap_alloc_new w4 _) (by omega) (by decide) (by decide) HM5.out.src (by omega))
    have hkc : k ≤ 1200 := by omega
    clear hrow c1 cf hzc hbl
    go_region_held3 (LdK ⟨O, 1, none⟩ (.slice (some ⟨g, 0, none⟩) m c') ⟨g, k * 6 + 1, none⟩)
      (first | with_reducible exact hK1 | with_reducible exact hK1' | with_reducible exact hK2 | with_reducible exact hK3 | with_reducible exact ldK_store hK3 hne _)
      ((go_at_call 25; refine HNM.out.mono ?_; rintro E w7 ⟨q, hq, rfl, ks7, ko7⟩; have hK3 := ldK_but hK2 (But.of_one ko7) (by show O ≠ R; omega) (by show g ≠ R; omega); have hne : (⟨g, k * 6 + 1, none⟩ : Addr) ≠ ⟨O, 1, none⟩ := fun e => hgO (by injection e)))
    have M7 := Lib.hid (HM5.out.one ko7 ks7 (by omega) (by omega) (by omega) hB2)
    have M8 := Lib.hid (M7.out.put (r' := ⟨r.op, q, r.y, r.n, r.t, r.e, r.At, r.ct, r.Ae, r.ce⟩) (i := 1) (x := .int .i64 q) HM.out HR.out (by omega) rfl ⟨rfl, rfl, rfl⟩ ⟨rfl, rfl, rfl⟩ (by omega) (by omega) hB2 (by omega) hgO hgA)
    obtain ⟨w8, hw8⟩ : ∃ w8, w7.setCell ⟨g, k * 6 + 1, none⟩ (.int .i64 q) = w8 := ⟨_, rfl⟩
    rw [hw8] at M8 ⊢
    have hsz8 := szR_set ⟨r.op, q, r.y, r.n, r.t, r.e, r.At, r.ct, r.Ae, r.ce⟩ HR.out rfl rfl
    have HSZ := Lib.hid hsz8
    clear hw8 hK1 hK1' hK2 hK3 HNM hq ks7 ko7 hne HM5 M7 hsz8
    have hO := M8.out.out
    have hA := M8.out.res
    have z0 : w8.cell? ⟨w.heap.size + 1, 0, none⟩ = some (.slice none 0 0) := (cell_of_block hA 0).trans rfl
    have z1 : w8.cell? ⟨w.heap.size + 1, 1, none⟩ = some (.slice none 0 0) := (cell_of_block hA 1).trans rfl
    have y0 := frozen_of_block hA 0
    have y1 := frozen_of_block hA 1
    have x0 : w8.cell? ⟨O, 0, none⟩ = some (.slice Av n cv) := (cell_of_block hO 0).trans rfl
    have x1 : w8.cell? ⟨O, 1, none⟩ = some ((.slice (some ⟨g, 0, none⟩) m c')) := (cell_of_block hO 1).trans rfl
    clear hO hA
    go_wp2_with fail
    refine bodyPost_ret (v := .agg #[.slice Av n cv, (.slice (some ⟨g, 0, none⟩) m c')]) (by simp [results, Tryz.results47, go_sem, z0, z1]) rfl ⟨ts, ofR (rs.set k ⟨r.op, q, r.y, r.n, r.t, r.e, r.At, r.ct, r.Ae, r.ce⟩), Av, some ⟨g, 0, none⟩, cv, c', by rw [HN.out, ofR_len, List.length_set, HM.out], mut_reads M8.out hAB (by omega) hB2, by rw [HN.out]; omega, by rw [ofR_size]; have := HSZ.out; have := hzs.out; omega, ?_, ?_⟩
    · repeat (refine SrcV.setB ?_ (by omega) _ _)
      exact M8.out.src.more (by omega)
    · repeat (refine But.setCell ?_ (by simp) _)
      exact M8.out.but
  · go_upto_region 11 with (fail)
    have hrow := M4.out.bod
    have c1 : w4.cell? ⟨O, 1, none⟩ = some (.slice (some ⟨g, 0, none⟩) m c') := (cell_of_block M4.out.out 1).trans rfl
    have cf : w4.frozen? ⟨g, k * 6 + 2, none⟩ = false := by
      have := hrow.own
      rw [HM.out] at this
      exact this.frozenAt (k * 6 + 2)
    have cv0 : ∃ z, w4.cell? ⟨g, k * 6 + 2, none⟩ = some z := row_cell hrow HR.out 2 (by omega)
    obtain ⟨zc, hzc⟩ := cv0
    have hK1 : LdK ⟨O, 1, none⟩ (.slice (some ⟨g, 0, none⟩) m c') ⟨g, k * 6 + 2, none⟩ w4.drew := ldK_mk c1 hzc cf
    have hK1' : LdK ⟨O, 1, none⟩ (.slice (some ⟨g, 0, none⟩) m c') ⟨g, k * 6 + 2, none⟩ w4 := hK1
    have hbl := ((Below.refl w4.heap.size w4).alloc (Nat.le_refl _) (.cells #[.int .i64 6, .int .i64 (-1), .int .i64 0, .int .i64 1] 3)).drew
    have hK2 := ldK_below hK1' hbl
    have HM5 := Lib.hid (M4.out.below hbl)
    have HNM := Lib.hid (num_any R (P + 1 + 1) w4.heap.size [6, -1, 0, 1] (w4.alloc (.cells #[.int .i64 6, .int .i64 (-1), .int .i64 0, .int .i64 1] 3)).drew (heap_alloc_new w4 _) (by omega) (by decide) (by decide) HM5.out.src (by omega))
    have hkc : k ≤ 1200 := by omega
    clear hrow c1 cf hzc hbl
    go_region_held3 (LdK ⟨O, 1, none⟩ (.slice (some ⟨g, 0, none⟩) m c') ⟨g, k * 6 + 2, none⟩)
      (first | with_reducible exact hK1 | with_reducible exact hK1' | with_reducible exact hK2 | with_reducible exact hK3 | with_reducible exact ldK_store hK3 hne _)
      ((go_at_call 25; refine HNM.out.mono ?_; rintro E w7 ⟨q, hq, rfl, ks7, ko7⟩; have hK3 := ldK_but hK2 (But.of_one ko7) (by show O ≠ R; omega) (by show g ≠ R; omega); have hne : (⟨g, k * 6 + 2, none⟩ : Addr) ≠ ⟨O, 1, none⟩ := fun e => hgO (by injection e)))
    have M7 := Lib.hid (HM5.out.one ko7 ks7 (by omega) (by omega) (by omega) hB2)
    have M8 := Lib.hid (M7.out.put (r' := ⟨r.op, r.x, q, r.n, r.t, r.e, r.At, r.ct, r.Ae, r.ce⟩) (i := 2) (x := .int .i64 q) HM.out HR.out (by omega) rfl ⟨rfl, rfl, rfl⟩ ⟨rfl, rfl, rfl⟩ (by omega) (by omega) hB2 (by omega) hgO hgA)
    obtain ⟨w8, hw8⟩ : ∃ w8, w7.setCell ⟨g, k * 6 + 2, none⟩ (.int .i64 q) = w8 := ⟨_, rfl⟩
    rw [hw8] at M8 ⊢
    have hsz8 := szR_set ⟨r.op, r.x, q, r.n, r.t, r.e, r.At, r.ct, r.Ae, r.ce⟩ HR.out rfl rfl
    have HSZ := Lib.hid hsz8
    clear hw8 hK1 hK1' hK2 hK3 HNM hq ks7 ko7 hne HM5 M7 hsz8
    have hO := M8.out.out
    have hA := M8.out.res
    have z0 : w8.cell? ⟨w.heap.size + 1, 0, none⟩ = some (.slice none 0 0) := (cell_of_block hA 0).trans rfl
    have z1 : w8.cell? ⟨w.heap.size + 1, 1, none⟩ = some (.slice none 0 0) := (cell_of_block hA 1).trans rfl
    have y0 := frozen_of_block hA 0
    have y1 := frozen_of_block hA 1
    have x0 : w8.cell? ⟨O, 0, none⟩ = some (.slice Av n cv) := (cell_of_block hO 0).trans rfl
    have x1 : w8.cell? ⟨O, 1, none⟩ = some ((.slice (some ⟨g, 0, none⟩) m c')) := (cell_of_block hO 1).trans rfl
    clear hO hA
    go_wp2_with fail
    refine bodyPost_ret (v := .agg #[.slice Av n cv, (.slice (some ⟨g, 0, none⟩) m c')]) (by simp [results, Tryz.results47, go_sem, z0, z1]) rfl ⟨ts, ofR (rs.set k ⟨r.op, r.x, q, r.n, r.t, r.e, r.At, r.ct, r.Ae, r.ce⟩), Av, some ⟨g, 0, none⟩, cv, c', by rw [HN.out, ofR_len, List.length_set, HM.out], mut_reads M8.out hAB (by omega) hB2, by rw [HN.out]; omega, by rw [ofR_size]; have := HSZ.out; have := hzs.out; omega, ?_, ?_⟩
    · repeat (refine SrcV.setB ?_ (by omega) _ _)
      exact M8.out.src.more (by omega)
    · repeat (refine But.setCell ?_ (by simp) _)
      exact M8.out.but
  · go_upto_region 13 with (fail)
    have hrow := M4.out.bod
    have c1 : w4.cell? ⟨O, 1, none⟩ = some (.slice (some ⟨g, 0, none⟩) m c') := (cell_of_block M4.out.out 1).trans rfl
    have cf : w4.frozen? ⟨g, k * 6 + 3, none⟩ = false := by
      have := hrow.own
      rw [HM.out] at this
      exact this.frozenAt (k * 6 + 3)
    have cv0 : ∃ z, w4.cell? ⟨g, k * 6 + 3, none⟩ = some z := row_cell hrow HR.out 3 (by omega)
    obtain ⟨zc, hzc⟩ := cv0
    have hK1 : LdK ⟨O, 1, none⟩ (.slice (some ⟨g, 0, none⟩) m c') ⟨g, k * 6 + 3, none⟩ w4.drew := ldK_mk c1 hzc cf
    have hK1' : LdK ⟨O, 1, none⟩ (.slice (some ⟨g, 0, none⟩) m c') ⟨g, k * 6 + 3, none⟩ w4 := hK1
    have hbl := ((Below.refl w4.heap.size w4).alloc (Nat.le_refl _) (.cells #[.int .i64 10, .int .i64 (-1), .int .i64 5] 3)).drew
    have hK2 := ldK_below hK1' hbl
    have HM5 := Lib.hid (M4.out.below hbl)
    have HNM := Lib.hid (num_any R (P + 1 + 1) w4.heap.size [10, -1, 5] (w4.alloc (.cells #[.int .i64 10, .int .i64 (-1), .int .i64 5] 3)).drew (heap_alloc_new w4 _) (by omega) (by decide) (by decide) HM5.out.src (by omega))
    have hkc : k ≤ 1200 := by omega
    clear hrow c1 cf hzc hbl
    go_region_held3 (LdK ⟨O, 1, none⟩ (.slice (some ⟨g, 0, none⟩) m c') ⟨g, k * 6 + 3, none⟩)
      (first | with_reducible exact hK1 | with_reducible exact hK1' | with_reducible exact hK2 | with_reducible exact hK3 | with_reducible exact ldK_store hK3 hne _)
      ((go_at_call 25; refine HNM.out.mono ?_; rintro E w7 ⟨q, hq, rfl, ks7, ko7⟩; have hK3 := ldK_but hK2 (But.of_one ko7) (by show O ≠ R; omega) (by show g ≠ R; omega); have hne : (⟨g, k * 6 + 3, none⟩ : Addr) ≠ ⟨O, 1, none⟩ := fun e => hgO (by injection e)))
    have M7 := Lib.hid (HM5.out.one ko7 ks7 (by omega) (by omega) (by omega) hB2)
    have M8 := Lib.hid (M7.out.put (r' := ⟨r.op, r.x, r.y, q, r.t, r.e, r.At, r.ct, r.Ae, r.ce⟩) (i := 3) (x := .int .i64 q) HM.out HR.out (by omega) rfl ⟨rfl, rfl, rfl⟩ ⟨rfl, rfl, rfl⟩ (by omega) (by omega) hB2 (by omega) hgO hgA)
    obtain ⟨w8, hw8⟩ : ∃ w8, w7.setCell ⟨g, k * 6 + 3, none⟩ (.int .i64 q) = w8 := ⟨_, rfl⟩
    rw [hw8] at M8 ⊢
    have hsz8 := szR_set ⟨r.op, r.x, r.y, q, r.t, r.e, r.At, r.ct, r.Ae, r.ce⟩ HR.out rfl rfl
    have HSZ := Lib.hid hsz8
    clear hw8 hK1 hK1' hK2 hK3 HNM hq ks7 ko7 hne HM5 M7 hsz8
    have hO := M8.out.out
    have hA := M8.out.res
    have z0 : w8.cell? ⟨w.heap.size + 1, 0, none⟩ = some (.slice none 0 0) := (cell_of_block hA 0).trans rfl
    have z1 : w8.cell? ⟨w.heap.size + 1, 1, none⟩ = some (.slice none 0 0) := (cell_of_block hA 1).trans rfl
    have y0 := frozen_of_block hA 0
    have y1 := frozen_of_block hA 1
    have x0 : w8.cell? ⟨O, 0, none⟩ = some (.slice Av n cv) := (cell_of_block hO 0).trans rfl
    have x1 : w8.cell? ⟨O, 1, none⟩ = some ((.slice (some ⟨g, 0, none⟩) m c')) := (cell_of_block hO 1).trans rfl
    clear hO hA
    go_wp2_with fail
    refine bodyPost_ret (v := .agg #[.slice Av n cv, (.slice (some ⟨g, 0, none⟩) m c')]) (by simp [results, Tryz.results47, go_sem, z0, z1]) rfl ⟨ts, ofR (rs.set k ⟨r.op, r.x, r.y, q, r.t, r.e, r.At, r.ct, r.Ae, r.ce⟩), Av, some ⟨g, 0, none⟩, cv, c', by rw [HN.out, ofR_len, List.length_set, HM.out], mut_reads M8.out hAB (by omega) hB2, by rw [HN.out]; omega, by rw [ofR_size]; have := HSZ.out; have := hzs.out; omega, ?_, ?_⟩
    · repeat (refine SrcV.setB ?_ (by omega) _ _)
      exact M8.out.src.more (by omega)
    · repeat (refine But.setCell ?_ (by simp) _)
      exact M8.out.but
  · go_upto_region 15 with (fail)
    have LIT : True := trivial
    have c0 : w4.cell? ⟨O, 0, none⟩ = some (.slice Av n cv) := (cell_of_block M4.out.out 0).trans rfl
    have cd : w4.drew.cell? ⟨O, 0, none⟩ = some (.slice Av n cv) := (cell_of_block M4.out.out 0).trans rfl
    have hbl := ((Below.refl w4.heap.size w4).drew).trans ((Below.refl w4.drew.heap.size w4.drew).alloc (Nat.le_refl _) (.cells #[.int .i64 1, .int .i64 5, .int .i64 0, .int .i64 4] 3))
    have HM5 := Lib.hid (M4.out.below hbl)
    have ce : (w4.drew.alloc (.cells #[.int .i64 1, .int .i64 5, .int .i64 0, .int .i64 4] 3)).cell? ⟨O, 0, none⟩ = some (.slice Av n cv) := (cell_of_block HM5.out.out 0).trans rfl
    have cg : (w4.alloc (.cells #[.int .i64 1, .int .i64 5, .int .i64 0, .int .i64 4] 3)).cell? ⟨O, 0, none⟩ = some (.slice Av n cv) := ce
    have HNM := Lib.hid (num_any R (P + 1 + 1) w4.heap.size [1, 5, 0, 4] (w4.drew.alloc (.cells #[.int .i64 1, .int .i64 5, .int .i64 0, .int .i64 4] 3)) (heap_alloc_new w4.drew _) (by omega) (by decide) (by decide) HM5.out.src (by omega))
    have h5z : w4.heap.size ≤ (w4.drew.alloc (.cells #[.int .i64 1, .int .i64 5, .int .i64 0, .int .i64 4] 3)).heap.size := hbl.size
    clear hbl
    go_region_law (first
      | (refine step_append_ints rfl (.tmp 65) (.tmp 69) rfl rfl W.heap.size (.slice Av n cv) ts _ 1 [q] 1 rfl (by simp [Act.eval]) (by simp [Act.eval]) M8.out.typ hin8 (by rw [HN.out]; simp; omega) hB8 ?_; intro v9 w9 hrow hgr hat; have hro := hrow; obtain ⟨A9, c9, hv9⟩ := hro.slice; rw [List.length_append, HN.out] at hv9; have hv9' : v9 = .slice A9 (n + 1) c9 := hv9; clear hv9; subst hv9'; have x9 := (cell_of_block ((hgr.block O (heap_lt M8.out.out) (fun e => M8.out.neA.2.2.2 e.symm)).trans M8.out.out) 0).trans (show _ = some (.slice Av n cv) from rfl); have f9 := frozen_of_block ((hgr.block O (heap_lt M8.out.out) (fun e => M8.out.neA.2.2.2 e.symm)).trans M8.out.out) 0)
      | (go_simp; go_at_call 25; refine HNM.out.mono ?_; rintro E w7 ⟨q, hq, rfl, ks7, ko7⟩; have M7 := Lib.hid (HM5.out.one ko7 ks7 (by omega) (by omega) (by omega) hB2); have c7 : w7.cell? ⟨O, 0, none⟩ = some (.slice Av n cv) := (cell_of_block M7.out.out 0).trans rfl; have M8 := Lib.hid (M7.out.below ((Below.refl w7.heap.size w7).alloc (Nat.le_refl _) (.cells #[.int .i64 q] 3))); have c8 : (w7.alloc (.cells #[.int .i64 q] 3)).cell? ⟨O, 0, none⟩ = some (.slice Av n cv) := (cell_of_block M8.out.out 0).trans rfl; have hin8 := intsV_lit1 w7 q; have hB8 : W.heap.size ≤ (w7.alloc (.cells #[.int .i64 q] 3)).heap.size := by (have h7 := ko7.size; have h8 : w7.heap.size ≤ (w7.alloc (.cells #[.int .i64 q] 3)).heap.size := by simp); omega))
    all_goals
      have M9 := Lib.hid (M8.out.retype hgr hrow HSEP.out (by omega) (by omega) (by omega) (by omega) (by omega))
      obtain ⟨w6, hw6⟩ : ∃ z, w9.setCell ⟨O, 0, none⟩ (.slice A9 (n + 1) c9) = z := ⟨_, rfl⟩
      rw [hw6] at M9 ⊢
      clear hw6 hrow hgr x9 f9 c0 cd ce cg HNM hq ks7 ko7 M7 c7 M8 c8 hin8 hB8 hat hro HM5
      have hO := M9.out.out
      have hA := M9.out.res
      have z0 : w6.cell? ⟨w.heap.size + 1, 0, none⟩ = some (.slice none 0 0) := (cell_of_block hA 0).trans rfl
      have z1 : w6.cell? ⟨w.heap.size + 1, 1, none⟩ = some (.slice none 0 0) := (cell_of_block hA 1).trans rfl
      have y0 := frozen_of_block hA 0
      have y1 := frozen_of_block hA 1
      have x0 : w6.cell? ⟨O, 0, none⟩ = some (.slice A9 (n + 1) c9) := (cell_of_block hO 0).trans rfl
      have x1 : w6.cell? ⟨O, 1, none⟩ = some ((.slice (some ⟨g, 0, none⟩) m c')) := (cell_of_block hO 1).trans rfl
      clear hO hA
      go_wp2_with fail
      refine bodyPost_ret (v := .agg #[.slice A9 (n + 1) c9, (.slice (some ⟨g, 0, none⟩) m c')]) (by simp [results, Tryz.results47, go_sem, z0, z1]) rfl ⟨ts ++ [q], ofR (rs), A9, some ⟨g, 0, none⟩, c9, c', by rw [List.length_append, HN.out, ofR_len, HM.out]; rfl, mut_reads M9.out hAB (by omega) hB2, by rw [List.length_append, HN.out]; simp; omega, by rw [ofR_size]; have := hzs.out; omega, ?_, ?_⟩
      · repeat (refine SrcV.setB ?_ (by omega) _ _)
        exact M9.out.src.more (by omega)
      · repeat (refine But.setCell ?_ (by simp) _)
        exact M9.out.but
  · go_upto_region 17 with (fail)
    obtain ⟨r0, hr0⟩ : ∃ r0, rs[0]? = some r0 := ⟨rs[0]'(by rw [HM.out]; omega), List.getElem?_eq_getElem _⟩
    have HR0 := Lib.hid hr0
    have hsz0 : Hid (1 + r0.t.size + r0.e.size ≤ 1200) := Nat.le_trans (szR_mem (List.mem_of_getElem? hr0)) hzs.out
    clear hr0
    have z4' : W.heap.size ≤ w4.heap.size := by omega
    go_wp2_with fail
    go_loopw [7] (fun i wr => ∃ (jj : Nat) (A2 : Option Addr) (c2 m2 : Nat) (rs2 : List StR), i = .int .i64 (jj : Int) ∧ jj ≤ 31 ∧ Hid (m2 = m + jj) ∧ Hid (MutS R (P + 1 + 1) W.heap.size B2 (w.heap.size + 1) O w wr (.slice Av n cv) ts (.slice A2 m2 c2) rs2) ∧ Hid (rs2.length = m2) ∧ Hid (szR rs2 ≤ 1200 * (1 + jj)) ∧ Hid (rs2[0]? = some r0) ∧ w4.heap.size ≤ wr.heap.size) (fun i _ => 31 - (intOf i).toNat)
    case atStart => exact ⟨0, _, _, _, rs, rfl, by omega, by unfold Hid; rfl, M4, HM, by unfold Hid; have := hzs.out; omega, HR0, Nat.le_refl _⟩
    case round =>
      obtain ⟨jj, A2, c2, m2, rs2, rfl, hj, hm2, MM, HM2, HZ2, HQ0, hwz⟩ := hrel
      have hm2a : m2 ≤ m + jj := Nat.le_of_eq hm2.out
      have hm2b : m + jj ≤ m2 := Nat.le_of_eq hm2.out.symm
      by_cases hlt : jj ≤ 30
      · have e30 : decide ((jj : Int) ≤ 30) = true := decide_eq_true (by omega)
        have e30' : decide (jj ≤ 30) = true := decide_eq_true hlt
        obtain ⟨Ax, cx, hax, hcx1, hcx2, hcx3⟩ := MM.out.bod.form
        obtain ⟨g2, hg2, hg2B, hg2l⟩ := hcx3 (by rw [HM2.out]; omega)
        injection hax with hax1 hax2 hax3
        subst hax1 hax3
        subst hg2
        have hcm2 : m2 ≤ c2 ∧ c2 ≤ 9223372036854775807 := by rw [HM2.out] at hcx1; unfold maxLen at hcx2; omega
        have hm2p : 0 < m2 := by omega
        have hm2i : (0 : Int) < (m2 : Int) := by omega
        clear hcx1 hcx2 hcx3 hax2
        go_upto_region 20 with (fail)
        obtain ⟨tl, htl⟩ : ∃ q, r0.t.len = q := ⟨_, rfl⟩
        obtain ⟨el, hel⟩ : ∃ q, r0.e.len = q := ⟨_, rfl⟩
        have HC : Hid (r0.cells = [.int .i64 r0.op, .int .i64 r0.x, .int .i64 r0.y, .int .i64 r0.n, .slice r0.At tl r0.ct, .slice r0.Ae el r0.ce]) := by unfold Hid; rw [← htl, ← hel]; rfl
        have hcell : ∀ i u, r0.cells[i]? = some u → i < 6 → wr.cell? ⟨g2, i, none⟩ = some u := fun i u hu hi => by
          have h1 := flatS_get StR.cells_length rs2 0 i r0 HQ0.out hi
          have h2 := World.ownsRow.cells MM.out.bod.own (g := g2) rfl (0 * 6 + i) u (by rw [h1]; exact hu)
          rw [add_block, Nat.zero_add, Nat.zero_mul, Nat.zero_add] at h2
          exact h2
        rw [HC.out] at hcell
        have k0 := hcell 0 _ rfl (by omega)
        have k1 := hcell 1 _ rfl (by omega)
        have k2 := hcell 2 _ rfl (by omega)
        have k3 := hcell 3 _ rfl (by omega)
        have k4 := hcell 4 _ rfl (by omega)
        have k5 := hcell 5 _ rfl (by omega)
        clear hcell htl hel
        have c1 : wr.cell? ⟨O, 1, none⟩ = some (.slice (some ⟨g2, 0, none⟩) m2 c2) := (cell_of_block MM.out.out 1).trans rfl
        have cd : wr.drew.cell? ⟨O, 1, none⟩ = some (.slice (some ⟨g2, 0, none⟩) m2 c2) := c1
        have hba := ((Below.refl wr.heap.size wr).alloc (Nat.le_refl _) (.cells #[.int .i64 r0.op, .int .i64 r0.x, .int .i64 r0.y, .int .i64 r0.n, .slice r0.At tl r0.ct, .slice r0.Ae el r0.ce] 86)).drew
        have M5 := Lib.hid (MM.out.below hba)
        have cg : (wr.alloc (.cells #[.int .i64 r0.op, .int .i64 r0.x, .int .i64 r0.y, .int .i64 r0.n, .slice r0.At tl r0.ct, .slice r0.Ae el r0.ce] 86)).cell? ⟨O, 1, none⟩ = some (.slice (some ⟨g2, 0, none⟩) m2 c2) := (cell_of_block M5.out.out 1).trans rfl
        have hnw : Hid (∀ j u, ([r0].flatMap StR.cells)[j]? = some u → (wr.alloc (.cells #[.int .i64 r0.op, .int .i64 r0.x, .int .i64 r0.y, .int .i64 r0.n, .slice r0.At tl r0.ct, .slice r0.Ae el r0.ce] 86)).drew.cell? ((⟨wr.heap.size, 0, none⟩ : Addr).add j) = some u) := by
          intro j u hu
          have : [r0].flatMap StR.cells = r0.cells := by simp
          rw [this, HC.out] at hu
          exact news1 (w := wr) rfl rfl j u hu
        have hfm : Hid (∀ r ∈ [r0], Firm (wr.alloc (.cells #[.int .i64 r0.op, .int .i64 r0.x, .int .i64 r0.y, .int .i64 r0.n, .slice r0.At tl r0.ct, .slice r0.Ae el r0.ce] 86)).drew B2 (Value.slice (some ⟨g2, 0, none⟩) m2 c2).ownBlock r.At r.ct r.t ∧ Firm (wr.alloc (.cells #[.int .i64 r0.op, .int .i64 r0.x, .int .i64 r0.y, .int .i64 r0.n, .slice r0.At tl r0.ct, .slice r0.Ae el r0.ce] 86)).drew B2 (Value.slice (some ⟨g2, 0, none⟩) m2 c2).ownBlock r.Ae r.ce r.e) := fun r hr => M5.out.bod.firm r (by rw [List.mem_singleton] at hr; rw [hr]; exact List.mem_of_getElem? HQ0.out)
        have hBz : B2 ≤ (wr.alloc (.cells #[.int .i64 r0.op, .int .i64 r0.x, .int .i64 r0.y, .int .i64 r0.n, .slice r0.At tl r0.ct, .slice r0.Ae el r0.ce] 86)).drew.heap.size := by have := hba.size; omega
        clear hba
        go_region_law ((refine step_append_stmts rfl (.tmp 79) (.tmp 84) rfl rfl B2 (.slice (some ⟨g2, 0, none⟩) m2 c2) rs2 [r0] ⟨wr.heap.size, 0, none⟩ 1 m2 1 rfl HM2.out (by simp [Act.eval]) (by simp [Act.eval]) M5.out.bod hnw.out hfm.out (by omega) hBz ?_; intro A9 c9 w9 hrow hgr; have x9 := (cell_of_block ((hgr.block O (heap_lt M5.out.out) (fun e => M5.out.neA.2.1 e.symm)).trans M5.out.out) 1).trans (show _ = some (.slice (some ⟨g2, 0, none⟩) m2 c2) from rfl); have f9 := frozen_of_block ((hgr.block O (heap_lt M5.out.out) (fun e => M5.out.neA.2.1 e.symm)).trans M5.out.out) 1))
        all_goals
          have M9 := Lib.hid (M5.out.rebody hgr hrow (by omega) (by omega) (by omega) (by omega) (by omega))
          obtain ⟨w6, hw6⟩ : ∃ z, w9.setCell ⟨O, 1, none⟩ (.slice A9 (m2 + 1) c9) = z := ⟨_, rfl⟩
          have hz6 : w4.heap.size ≤ w6.heap.size := by
            rw [← hw6]
            have h1 := hgr.size
            have h2 : wr.heap.size ≤ (wr.alloc (.cells #[.int .i64 r0.op, .int .i64 r0.x, .int .i64 r0.y, .int .i64 r0.n, .slice r0.At tl r0.ct, .slice r0.Ae el r0.ce] 86)).drew.heap.size := by show wr.heap.size ≤ (wr.alloc _).heap.size; simp
            have h3 : (w9.setCell ⟨O, 1, none⟩ (.slice A9 (m2 + 1) c9)).heap.size = w9.heap.size := by simp [World.setCell]
            omega
          rw [hw6] at M9 ⊢
          have HL9 : Hid ((rs2 ++ [r0]).length = m2 + 1) := by unfold Hid; rw [List.length_append, HM2.out]; rfl
          have HZ9 : Hid (szR (rs2 ++ [r0]) ≤ 1200 * (1 + (jj + 1))) := by
            unfold Hid
            rw [szR_append, szR_one]
            have := HZ2.out
            have := hsz0.out
            omega
          have HQ9 : Hid ((rs2 ++ [r0])[0]? = some r0) := by
            unfold Hid
            rw [List.getElem?_append_left (by rw [HM2.out]; omega)]
            exact HQ0.out
          have HM9 : Hid (m2 + 1 = m + (jj + 1)) := by unfold Hid; omega
          clear hw6 hrow hgr x9 f9 c1 cd cg k0 k1 k2 k3 k4 k5 hnw hfm hBz M5 HC
          go_wp2_with fail
          go_roundw
          case rel => exact ⟨jj + 1, A9, c9, m2 + 1, rs2 ++ [r0], by go_num, by omega, HM9, M9, HL9, HZ9, HQ9, hz6⟩
          case measure => simp [intOf]; omega
      · obtain rfl : jj = 31 := by omega
        have e30 : decide (((31 : Nat) : Int) ≤ 30) = false := rfl
        go_upto_region 23 with (fail)
        clear e30
        have hO := MM.out.out
        have hA := MM.out.res
        have z0 : wr.cell? ⟨w.heap.size + 1, 0, none⟩ = some (.slice none 0 0) := (cell_of_block hA 0).trans rfl
        have z1 : wr.cell? ⟨w.heap.size + 1, 1, none⟩ = some (.slice none 0 0) := (cell_of_block hA 1).trans rfl
        have y0 := frozen_of_block hA 0
        have y1 := frozen_of_block hA 1
        have x0 : wr.cell? ⟨O, 0, none⟩ = some (.slice Av n cv) := (cell_of_block hO 0).trans rfl
        have x1 : wr.cell? ⟨O, 1, none⟩ = some ((.slice A2 m2 c2)) := (cell_of_block hO 1).trans rfl
        clear hO hA
        go_wp2_with fail
        refine bodyPost_ret (v := .agg #[.slice Av n cv, (.slice A2 m2 c2)]) (by simp [results, Tryz.results47, go_sem, z0, z1]) rfl ⟨ts, ofR (rs2), Av, A2, cv, c2, by rw [HN.out, ofR_len, HM2.out], mut_reads MM.out hAB (by omega) hB2, by rw [HN.out]; omega, by rw [ofR_size]; have := HZ2.out; omega, ?_, ?_⟩
        · repeat (refine SrcV.setB ?_ (by omega) _ _)
          exact MM.out.src.more (by omega)
        · repeat (refine But.setCell ?_ (by simp) _)
          exact MM.out.but
  · go_upto_region 22 with (fail)
    have M5 := Lib.hid (M4.out.below (Below.refl w4.heap.size w4).drew)
    have z5 : w4.heap.size ≤ w4.drew.heap.size := Nat.le_refl _
    have c1 : w4.cell? ⟨O, 1, none⟩ = some (.slice (some ⟨g, 0, none⟩) m c') := (cell_of_block M4.out.out 1).trans rfl
    have cd : w4.drew.cell? ⟨O, 1, none⟩ = some (.slice (some ⟨g, 0, none⟩) m c') := (cell_of_block M4.out.out 1).trans rfl
    have cf : w4.drew.frozen? ⟨O, 1, none⟩ = false := frozen_of_block M4.out.out 1
    obtain ⟨AD, hAD, hnews⟩ : ∃ AD : Addr, (if c' = k + 1 then some (⟨g, 0, none⟩ : Addr) else some ⟨g, (k + 1) * 6, none⟩) = some AD ∧ Hid (∀ j u, ((rs.drop (k + 1)).flatMap StR.cells)[j]? = some u → w4.drew.cell? (AD.add j) = some u) := by
      by_cases h : c' = k + 1
      · refine ⟨⟨g, 0, none⟩, by simp [h], fun j u hu => ?_⟩
        rw [List.drop_of_length_le (by rw [HM.out]; omega)] at hu
        simp at hu
      · refine ⟨⟨g, (k + 1) * 6, none⟩, by simp [h], fun j u hu => ?_⟩
        rw [add_block]
        exact M5.out.bod.from_ j u hu
    have PRE := Lib.hid (M5.out.bod.take HM.out (Nat.le_of_lt hkm))
    have s1 : Hid ((rs.drop (k + 1)).length = m - (k + 1)) := by unfold Hid; rw [List.length_drop, HM.out]
    have s2 : Hid ((rs.take k).length = k) := by unfold Hid; rw [List.length_take, HM.out]; omega
    have s3 : Hid (∀ r ∈ rs.drop (k + 1), Firm w4.drew B2 (Value.slice (some ⟨g, 0, none⟩) k c').ownBlock r.At r.ct r.t ∧ Firm w4.drew B2 (Value.slice (some ⟨g, 0, none⟩) k c').ownBlock r.Ae r.ce r.e) := fun r hr => M5.out.bod.firm r (List.mem_of_mem_drop hr)
    have hic : k ≤ c' := by have := hcm.1; omega
    have hwr : IntKind.i64.wrap ((k : Int) + 1) = (k : Int) + 1 := IntWalk.i64_in _ (by omega)
    have hp0 : (0 : Int) ≤ (k : Int) + 1 := by omega
    have hp1 : (k : Int) + 1 ≤ (m : Int) := by omega
    have hp2 : ((k : Int) + 1).toNat = k + 1 := by omega
    have hdz : B2 ≤ w4.drew.heap.size := by show B2 ≤ w4.heap.size; omega
    go_region_law ((refine step_append_stmts rfl (.tmp 92) (.tmp 97) rfl rfl B2 (.slice (some ⟨g, 0, none⟩) k c') (rs.take k) (rs.drop (k + 1)) AD (m - (k + 1)) k (c' - (k + 1)) s1.out s2.out (by simp [Act.eval, Act.put]) (by simp [Act.eval, Act.put]) PRE.out hnews.out s3.out (by omega) hdz ?_; intro A2 c2 w5 hrow hgr; have x5 := (cell_of_block ((hgr.block O (heap_lt M5.out.out) (fun e => M5.out.neA.2.1 e.symm)).trans M5.out.out) 1).trans (show _ = some (.slice (some ⟨g, 0, none⟩) m c') from rfl); have f5 := frozen_of_block ((hgr.block O (heap_lt M5.out.out) (fun e => M5.out.neA.2.1 e.symm)).trans M5.out.out) 1))
    all_goals
      have M6 := Lib.hid (M5.out.rebody hgr hrow (by omega) (by omega) (by omega) (by omega) (by omega))
      obtain ⟨w6, hw6⟩ : ∃ z, w5.setCell ⟨O, 1, none⟩ (.slice A2 (k + (m - (k + 1))) c2) = z := ⟨_, rfl⟩
      rw [hw6] at M6 ⊢
      have HSZ := Lib.hid (szR_del rs k)
      have HLN : Hid ((rs.take k ++ rs.drop (k + 1)).length = k + (m - (k + 1))) := by unfold Hid; rw [List.length_append, s1.out, s2.out]
      clear hw6 hrow hgr x5 f5 c1 cd cf hAD hnews PRE s1 s2 s3 hwr hp0 hp1 hp2 M5
      have hO := M6.out.out
      have hA := M6.out.res
      have z0 : w6.cell? ⟨w.heap.size + 1, 0, none⟩ = some (.slice none 0 0) := (cell_of_block hA 0).trans rfl
      have z1 : w6.cell? ⟨w.heap.size + 1, 1, none⟩ = some (.slice none 0 0) := (cell_of_block hA 1).trans rfl
      have y0 := frozen_of_block hA 0
      have y1 := frozen_of_block hA 1
      have x0 : w6.cell? ⟨O, 0, none⟩ = some (.slice Av n cv) := (cell_of_block hO 0).trans rfl
      have x1 : w6.cell? ⟨O, 1, none⟩ = some ((.slice A2 (k + (m - (k + 1))) c2)) := (cell_of_block hO 1).trans rfl
      clear hO hA
      go_wp2_with fail
      refine bodyPost_ret (v := .agg #[.slice Av n cv, (.slice A2 (k + (m - (k + 1))) c2)]) (by simp [results, Tryz.results47, go_sem, z0, z1]) rfl ⟨ts, ofR (rs.take k ++ rs.drop (k + 1)), Av, A2, cv, c2, by rw [HN.out, ofR_len, HLN.out], mut_reads M6.out hAB (by omega) hB2, by rw [HN.out]; omega, by rw [ofR_size]; have := HSZ.out; have := hzs.out; omega, ?_, ?_⟩
      · repeat (refine SrcV.setB ?_ (by omega) _ _)
        exact M6.out.src.more (by omega)
      · repeat (refine But.setCell ?_ (by simp) _)
        exact M6.out.but
  · have s0 : (sw == 0) = false := by simp; omega
    have s1 : (sw == 1) = false := by simp; omega
    have s2 : (sw == 2) = false := by simp; omega
    have s3 : (sw == 3) = false := by simp; omega
    have s4 : (sw == 4) = false := by simp; omega
    have s5 : (sw == 5) = false := by simp; omega
    have s6 : (sw == 6) = false := by simp; omega
    go_upto_region 23 with (fail)
    have hO := M4.out.out
    have hA := M4.out.res
    have z0 : w4.cell? ⟨w.heap.size + 1, 0, none⟩ = some (.slice none 0 0) := (cell_of_block hA 0).trans rfl
    have z1 : w4.cell? ⟨w.heap.size + 1, 1, none⟩ = some (.slice none 0 0) := (cell_of_block hA 1).trans rfl
    have y0 := frozen_of_block hA 0
    have y1 := frozen_of_block hA 1
    have x0 : w4.cell? ⟨O, 0, none⟩ = some (.slice Av n cv) := (cell_of_block hO 0).trans rfl
    have x1 : w4.cell? ⟨O, 1, none⟩ = some ((.slice (some ⟨g, 0, none⟩) m c')) := (cell_of_block hO 1).trans rfl
    clear hO hA
    go_wp2_with fail
    refine bodyPost_ret (v := .agg #[.slice Av n cv, (.slice (some ⟨g, 0, none⟩) m c')]) (by simp [results, Tryz.results47, go_sem, z0, z1]) rfl ⟨ts, ofR (rs), Av, some ⟨g, 0, none⟩, cv, c', by rw [HN.out, ofR_len, HM.out], mut_reads M4.out hAB (by omega) hB2, by rw [HN.out]; omega, by rw [ofR_size]; have := hzs.out; omega, ?_, ?_⟩
    · repeat (refine SrcV.setB ?_ (by omega) _ _)
      exact M4.out.src.more (by omega)
    · repeat (refine But.setCell ?_ (by simp) _)
      exact M4.out.but

end Go.Proofs.YtlddoookojjleaaGreatDoor
