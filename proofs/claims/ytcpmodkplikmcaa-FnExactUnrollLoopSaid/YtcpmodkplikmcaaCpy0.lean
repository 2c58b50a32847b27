/-
  The model's deep copy of statements: a row of its own.
-/
import Derived.Test.YtcpmodkplikmcaaRws
import Derived.Deep.DeepCutAuto
namespace Go.Proofs.Ytcpmodkplikmcaa
open Go.RowKit Go.Deep
set_option linter.unusedVariables false

theorem Firm.of_new {w0 w1 w : World} {B : Nat} {v : Value} {rs : List StR} {A : Option Addr} {c : Nat} {s : Sts} (h : RepV w1 w0.heap.size w1.heap.size s A c) (hr : RowS w0 B v rs) (hB : B ≤ w0.heap.size) (hb : Below w1.heap.size w1 w) : Firm w B v.ownBlock A c s :=
  (Firm.of_rep (g := v.ownBlock) (h.below' hb (Nat.le_refl _) |>.keep (Nat.le_refl _) hb.size fun _ _ _ => rfl) fun k hk => .inl (hr.own.lt k hk).2).wide hB

def CopyP (s : Sts) (w : World) (E : Ending) (w' : World) : Prop := ∃ (rs : List StR) (A : Option Addr) (c : Nat), E = .returned (.slice A rs.length c) ∧ RowS w' w.heap.size (.slice A rs.length c) rs ∧ ofR rs = s ∧ Below w.heap.size w w'

/-- Statements ahead of a list. -/
def ofA : List StR → Sts → Sts
  | [], u => u
  | r :: rs, u => .cons r.op r.x r.y r.n r.t r.e (ofA rs u)

theorem ofA_snoc : ∀ (rs : List StR) (r : StR) (u : Sts), ofA (rs ++ [r]) u = ofA rs (.cons r.op r.x r.y r.n r.t r.e u)
  | [], _, _ => rfl
  | q :: rs, r, u => by rw [List.cons_append]; unfold ofA; rw [ofA_snoc rs r u]

theorem repV_zero {w : World} {lo hi : Nat} {s : Sts} (h : s.len = 0) : RepV w lo hi s none 0 := ⟨by omega, by simp [maxLen], fun h2 => absurd h2 (by omega)⟩

theorem ofA_nil : ∀ rs : List StR, ofA rs .nil = ofR rs
  | [] => rfl
  | q :: rs => by unfold ofA ofR; rw [ofA_nil rs]

/-- What the round knows of the statement under way. -/
structure CpyK (w : World) (g : Nat) (q : Nat) (A : Option Addr) (c : Nat) (rs : List StR) (cs : Array Value) (wb w0 : World) : Prop where
  blk : w0.heap[g]? = some (.cells cs 53 (0, 0))
  row : RowS w0 w.heap.size (.slice A q c) rs
  bel : Below wb.heap.size wb w0

theorem CpyK.call {w : World} {g q : Nat} {A : Option Addr} {c : Nat} {rs : List StR} {cs : Array Value} {wb w0 w1 : World} (h : CpyK w g q A c rs cs wb w0) (hb : Below w0.heap.size w0 w1) : CpyK w g q A c rs cs wb w1 :=
  ⟨(hb.block g (heap_lt h.blk)).trans h.blk, h.row.below hb, h.bel.trans (hb.mono h.bel.size)⟩

theorem CpyK.put {w : World} {g q : Nat} {A : Option Addr} {c : Nat} {rs : List StR} {cs : Array Value} {wb w0 : World} (h : CpyK w g q A c rs cs wb w0) (hg : wb.heap.size ≤ g) (hne : ∀ k, (Value.slice A q c).ownBlock = some k → k < g) (hl : RowS wb w.heap.size (.slice A q c) rs) (o : Nat) (u : Value) :
    CpyK w g q A c rs (cs.setIfInBounds o u) wb (w0.setCell ⟨g, o, none⟩ u) :=
  ⟨block_set h.blk o u, hl.below (h.bel.setCell hg u), h.bel.setCell hg u⟩

set_option maxRecDepth 100000 in
set_option maxHeartbeats 4000000 in
theorem l1Copy_any (M : Nat) : ∀ (s : Sts) (A0 : Option Addr) (c0 : Nat) (w : World), s.size < M → s.size ≤ 100000 → RepV w 0 w.heap.size s A0 c0 →
    Calls Try.prog 53 #[.slice A0 s.len c0] w (CopyP s w) := by
  induction M with
  | zero => intro s A0 c0 w h; omega
  | succ M ih =>
    intro s A0 c0 w hM hsz hRep
    obtain ⟨i0, hi, hz0, hz1, hz2⟩ := info_parts Try.infoStmt
    have HI := Lib.hid hi
    have HZ0 := Lib.hid hz0
    have HZ1 := Lib.hid hz1
    have HZ2 := Lib.hid hz2
    have hlc := hRep.1
    have hcm := hRep.2.1
    unfold maxLen at hcm
    have hls := s.len_le_size
    have HREP := Lib.hid hRep
    have HR0 := Lib.hid (RowS.lit0 w w.heap.size (Nat.le_refl _))
    have HB0 := Lib.hid ((Below.refl w.heap.size w).alloc (Nat.le_refl _) (.cells #[] 53))
    clear hi hz0 hz1 hz2 hRep
    obtain ⟨len, hlen⟩ : ∃ len, s.len = len := ⟨_, rfl⟩
    have HLEN := Lib.hid hlen
    rw [hlen] at hlc hls ⊢
    clear hlen
    replace ih := Lib.hid ih
    go_enter Try.func53, Try.ntmps53
    go_wp2_with fail
    go_loopw [3, 4] (fun o i wr => ∃ (k : Nat) (rs : List StR) (A : Option Addr) (c : Nat), i = .int .i64 (k : Int) ∧ o = .slice A rs.length c ∧ k ≤ len ∧ Hid (rs.length = k) ∧ Hid (RowS wr w.heap.size (.slice A rs.length c) rs) ∧ Hid (ofA rs (s.drop k) = s) ∧ Below w.heap.size w wr) (fun _ i _ => len - (intOf i).toNat)
    case atStart => exact ⟨0, [], _, _, rfl, rfl, Nat.zero_le _, rfl, HR0, by unfold Hid; rfl, HB0.out⟩
    case round =>
      obtain ⟨k, rs, A, c, rfl, rfl, hk, hl, hR, hof, hb⟩ := hrel
      clear HR0 HB0
      have hbz := hb.size
      have hrl : rs.length ≤ 100000 := by rw [hl.out]; omega
      obtain ⟨q, hq⟩ : ∃ q, rs.length = q := ⟨_, rfl⟩
      have HQ := Lib.hid hq
      rw [hq] at hR hrl ⊢
      clear hq
      by_cases hlt : k < len
      · obtain ⟨b, op, x, y, n, t, e, rfl, -, hbb, hdr, At, ct, Ae, ce, ⟨h0, h1, h2, h3, h4, h5⟩, hRt, hRe⟩ := (HREP.out.below hb hb.size).elem (k := k) (by rw [HLEN.out]; exact hlt)
        have hdz := RepV.drop_sizes hdr
        obtain ⟨tl, htl⟩ : ∃ q, t.len = q := ⟨_, rfl⟩
        obtain ⟨el, hel⟩ : ∃ q, e.len = q := ⟨_, rfl⟩
        have HTL := Lib.hid htl
        have HEL := Lib.hid hel
        have hof2 : Hid (∀ At ct Ae ce, ofA (rs ++ [⟨op, x, y, n, t, e, At, ct, Ae, ce⟩]) (s.drop (k + 1)) = s) := fun At ct Ae ce => by
          rw [ofA_snoc]
          have := hof.out
          rw [hdr] at this
          exact this
        rw [htl] at h4
        rw [hel] at h5
        have hct := hRt.2.1
        have hce := hRe.2.1
        have htc := hRt.1
        have hec := hRe.1
        rw [htl] at htc
        rw [hel] at hec
        unfold maxLen at hct hce
        have HRT := Lib.hid hRt
        have HRE := Lib.hid hRe
        have h4' : wr.cell? ((b.add (k * 6)).add 4) = some (.slice At tl ct) := by rw [← h4]; congr 1
        have h5' : wr.cell? ((b.add (k * 6)).add 5) = some (.slice Ae el ce) := by rw [← h5]; congr 1
        have hbk : (b.add (k * 6)).block < wr.heap.size := by rw [block_add]; exact hbb
        clear hdr htl hel hRt hRe hof
        go_upto_region 8 with (fail)
        have hown : ∀ k, (Value.slice A q c).ownBlock = some k → k < wr.heap.size := fun k hk => (hR.out.own.lt k hk).2
        replace hown := Lib.hid hown
        have KW0 : Hid (CpyK w wr.heap.size q A c rs #[.int .i64 op, .int .i64 x, .int .i64 y, .int .i64 n, .slice none 0 0, .slice none 0 0] wr (wr.alloc (.cells #[.int .i64 op, .int .i64 x, .int .i64 y, .int .i64 n, .slice none 0 0, .slice none 0 0] 53))) := ⟨heap_alloc_new wr _, hR.out.below ((Below.refl _ _).alloc (Nat.le_refl _) _), (Below.refl _ _).alloc (Nat.le_refl _) _⟩
        have hz0 : wr.heap.size + 1 ≤ (wr.alloc (.cells #[.int .i64 op, .int .i64 x, .int .i64 y, .int .i64 n, .slice none 0 0, .slice none 0 0] 53)).heap.size := Nat.le_of_eq (by simp)
        obtain ⟨W0, hW0⟩ : ∃ z, wr.alloc (.cells #[.int .i64 op, .int .i64 x, .int .i64 y, .int .i64 n, .slice none 0 0, .slice none 0 0] 53) = z := ⟨_, rfl⟩
        rw [hW0] at KW0 hz0 ⊢
        clear hW0 h0 h1 h2 h3
        have s4 : W0.cell? ⟨(b.add (k * 6)).block, (b.add (k * 6)).off + 4, none⟩ = some (.slice At tl ct) := (KW0.out.bel.cell (p := ⟨(b.add (k * 6)).block, (b.add (k * 6)).off + 4, none⟩) hbk).trans h4
        by_cases g4 : 0 < tl
        · have d4 : decide (0 < (tl : Int)) = true := decide_eq_true (by omega)
          have d4' : decide (0 < tl) = true := decide_eq_true g4
          have HC := ih.out t At ct W0 (by omega) (by omega) ((HRT.out.below KW0.out.bel KW0.out.bel.size))
          rw [HTL.out] at HC
          replace HC := Lib.hid HC
          go_wp2_with fail
          refine HC.out.mono ?_
          rintro E W0c ⟨rs4, A4, c4, rfl, hR4, ho4, hb4⟩
          have hl4 : Hid (rs4.length = tl) := by unfold Hid; rw [← ofR_len, ho4]; exact HTL.out
          have KW0c := Lib.hid (KW0.out.call hb4)
          have x4 : W0c.cell? ⟨wr.heap.size, 4, none⟩ = some (.slice none 0 0) := (cell_of_block KW0c.out.blk 4).trans rfl
          have f4 := frozen_of_block KW0c.out.blk 4
          rw [hl4.out]
          have hP4 := hR4.rep.2
          rw [ho4] at hP4
          have Z4 := hb4.size
          obtain ⟨W0s, hw4⟩ : ∃ z, W0c.setCell ⟨wr.heap.size, 4, none⟩ (.slice A4 tl c4) = z := ⟨_, rfl⟩
          have KW0s := Lib.hid (KW0c.out.put (Nat.le_refl _) hown.out hR.out 4 (.slice A4 tl c4))
          have P4 : Hid (RepV (W0c.setCell ⟨wr.heap.size, 4, none⟩ (.slice A4 tl c4)) W0.heap.size (W0c.setCell ⟨wr.heap.size, 4, none⟩ (.slice A4 tl c4)).heap.size t A4 c4) := hP4.keep (Nat.le_refl _) (by simp [World.setCell]) fun p h1 h2 => World.cell?_setCell_other _ _ _ _ (fun e => by subst e; simp at h1; omega)
          have Zs4 : W0.heap.size ≤ (W0c.setCell ⟨wr.heap.size, 4, none⟩ (.slice A4 tl c4)).heap.size := by simp [World.setCell]; exact Z4
          rw [hw4] at KW0s P4 Zs4
          clear hR4 ho4 hb4 hP4 HC g4 s4
          go_upto_region 10 with (fail)
          clear hw4 x4 f4 d4 d4'
          obtain ⟨lo4, hlo4⟩ : ∃ z, W0.heap.size = z := ⟨_, rfl⟩
          rw [hlo4] at P4
          have hlo4' : wr.heap.size < lo4 := by omega
          clear hlo4
          have s5 : W0s.cell? ⟨(b.add (k * 6)).block, (b.add (k * 6)).off + 5, none⟩ = some (.slice Ae el ce) := (KW0s.out.bel.cell (p := ⟨(b.add (k * 6)).block, (b.add (k * 6)).off + 5, none⟩) hbk).trans h5
          by_cases g5 : 0 < el
          · have d5 : decide (0 < (el : Int)) = true := decide_eq_true (by omega)
            have d5' : decide (0 < el) = true := decide_eq_true g5
            have HC := ih.out e Ae ce W0s (by omega) (by omega) ((HRE.out.below KW0s.out.bel KW0s.out.bel.size))
            rw [HEL.out] at HC
            replace HC := Lib.hid HC
            go_wp2_with fail
            refine HC.out.mono ?_
            rintro E W0sc ⟨rs5, A5, c5, rfl, hR5, ho5, hb5⟩
            have hl5 : Hid (rs5.length = el) := by unfold Hid; rw [← ofR_len, ho5]; exact HEL.out
            have KW0sc := Lib.hid (KW0s.out.call hb5)
            have x5 : W0sc.cell? ⟨wr.heap.size, 5, none⟩ = some (.slice none 0 0) := (cell_of_block KW0sc.out.blk 5).trans rfl
            have f5 := frozen_of_block KW0sc.out.blk 5
            rw [hl5.out]
            have hP5 := hR5.rep.2
            rw [ho5] at hP5
            have Z5 := hb5.size
            obtain ⟨W0ss, hw5⟩ : ∃ z, W0sc.setCell ⟨wr.heap.size, 5, none⟩ (.slice A5 el c5) = z := ⟨_, rfl⟩
            have KW0ss := Lib.hid (KW0sc.out.put (Nat.le_refl _) hown.out hR.out 5 (.slice A5 el c5))
            have P5 : Hid (RepV (W0sc.setCell ⟨wr.heap.size, 5, none⟩ (.slice A5 el c5)) W0s.heap.size (W0sc.setCell ⟨wr.heap.size, 5, none⟩ (.slice A5 el c5)).heap.size e A5 c5) := hP5.keep (Nat.le_refl _) (by simp [World.setCell]) fun p h1 h2 => World.cell?_setCell_other _ _ _ _ (fun e => by subst e; simp at h1; omega)
            have Zs5 : W0s.heap.size ≤ (W0sc.setCell ⟨wr.heap.size, 5, none⟩ (.slice A5 el c5)).heap.size := by simp [World.setCell]; exact Z5
            have P4n : Hid (RepV (W0sc.setCell ⟨wr.heap.size, 5, none⟩ (.slice A5 el c5)) lo4 (W0sc.setCell ⟨wr.heap.size, 5, none⟩ (.slice A5 el c5)).heap.size t A4 c4) := ((P4.out.below' hb5 (Nat.le_refl _)).mono (Nat.le_refl _) Z5).keep (Nat.le_refl _) (by simp [World.setCell]) fun p h1 h2 => World.cell?_setCell_other _ _ _ _ (fun e => by subst e; simp at h1; omega)
            rw [hw5] at KW0ss P5 Zs5 P4n
            clear hR5 ho5 hb5 hP5 HC g5 s5 P4
            have P4 := P4n
            clear P4n
            go_upto_region 12 with (fail)
            clear hw5 x5 f5 d5 d5'
            have hBK := KW0ss.out.blk
            have k0 : W0ss.cell? ⟨wr.heap.size, 0, none⟩ = some (.int .i64 op) := (cell_of_block hBK 0).trans rfl
            have k1 : W0ss.cell? ⟨wr.heap.size, 1, none⟩ = some (.int .i64 x) := (cell_of_block hBK 1).trans rfl
            have k2 : W0ss.cell? ⟨wr.heap.size, 2, none⟩ = some (.int .i64 y) := (cell_of_block hBK 2).trans rfl
            have k3 : W0ss.cell? ⟨wr.heap.size, 3, none⟩ = some (.int .i64 n) := (cell_of_block hBK 3).trans rfl
            have k4 : W0ss.cell? ⟨wr.heap.size, 4, none⟩ = some (.slice A4 tl c4) := (cell_of_block hBK 4).trans rfl
            have k5 : W0ss.cell? ⟨wr.heap.size, 5, none⟩ = some (.slice A5 el c5) := (cell_of_block hBK 5).trans rfl
            have N4 : Hid (RepV W0ss wr.heap.size W0ss.heap.size t A4 c4) := (P4.out.mono (by omega) (Nat.le_refl _))
            have N5 : Hid (RepV W0ss wr.heap.size W0ss.heap.size e A5 c5) := (P5.out.mono (by omega) (Nat.le_refl _))
            have HC : Hid (StR.cells ⟨op, x, y, n, t, e, A4, c4, A5, c5⟩ = [.int .i64 op, .int .i64 x, .int .i64 y, .int .i64 n, .slice A4 tl c4, .slice A5 el c5]) := by unfold Hid StR.cells; simp only [HTL.out, HEL.out]
            have HOWN : Hid (W0ss.ownsRow w.heap.size 53 6 (.slice A q c) q (rs.flatMap StR.cells)) := by
              have := KW0ss.out.row.own
              rwa [HQ.out] at this
            have zz := KW0ss.out.bel.size
            clear hBK
            go_wp2_with (at_builtin; refine wpList_append_lies _ rfl _ _ 27 rfl w.heap.size 53 i0 (.agg #[.int .i64 0, .int .i64 0, .int .i64 0, .int .i64 0, .slice none 0 0, .slice none 0 0]) 6 80 Try.underlying27 HI.out HZ0.out HZ1.out HZ2.out rfl (by decide) _ _ _ rfl (HOWN.out.alloc _) ⟨_, 0, none⟩ 1 1 [.int .i64 op, .int .i64 x, .int .i64 y, .int .i64 n, .slice A4 tl c4, .slice A5 el c5] rfl rfl ?la1 ?la2 (by decide) ?la3 ?la4 ?la5 _ rfl ?_)
            try (case la1 => exact news1 (by simp) rfl)
            try (case la2 => intro u hu; simp only [List.mem_cons, List.not_mem_nil, or_false] at hu; rcases hu with rfl | rfl | rfl | rfl | rfl | rfl <;> rfl)
            try (case la3 => unfold maxLen; omega)
            try (case la4 => omega)
            try (case la5 => first | omega | (simp; omega))
            intro g2 cap2 w' hown' hg hat hlt'
            have hbA := (Below.refl W0ss.heap.size W0ss).alloc (Nat.le_refl _) (.cells #[.int .i64 op, .int .i64 x, .int .i64 y, .int .i64 n, .slice A4 tl c4, .slice A5 el c5] 53)
            have hR' : RowS w' w.heap.size (.slice (some ⟨g2, 0, none⟩) (rs.length + 1) cap2) (rs ++ [⟨op, x, y, n, t, e, A4, c4, A5, c5⟩]) := by
              refine RowS.snoc (KW0ss.out.row.below hbA) ?_ hg (hat.imp id fun e => e.trans (by simp)) (Firm.of_new N4.out hR.out hbz hbA) (Firm.of_new N5.out hR.out hbz hbA)
              rw [HQ.out, HC.out]
              exact hown'
            have HR' := Lib.hid hR'
            have hb' : Below w.heap.size w w' := ((hb.trans (KW0ss.out.bel.mono hbz)).alloc (by omega) _).grown hg (by simp; omega) (fun k hk => (HOWN.out.lt k hk).1)
            clear hown' hg hat hbA hR' HOWN
            go_wp2_with fail
            go_roundw
            case rel => exact ⟨k + 1, rs ++ [⟨op, x, y, n, t, e, A4, c4, A5, c5⟩], _, cap2, by go_num, by rw [List.length_append, HQ.out]; rfl, by omega, by unfold Hid; rw [List.length_append, hl.out]; rfl, by unfold Hid; rw [List.length_append]; exact HR'.out, by unfold Hid; exact hof2.out _ _ _ _, hb'⟩
            case measure => simp [intOf]; omega
          · obtain rfl : el = 0 := by omega
            have d5 : decide (0 < ((0 : Nat) : Int)) = false := rfl
            go_upto_region 12 with (fail)
            clear d5 g5 s5
            have hBK := KW0s.out.blk
            have k0 : W0s.cell? ⟨wr.heap.size, 0, none⟩ = some (.int .i64 op) := (cell_of_block hBK 0).trans rfl
            have k1 : W0s.cell? ⟨wr.heap.size, 1, none⟩ = some (.int .i64 x) := (cell_of_block hBK 1).trans rfl
            have k2 : W0s.cell? ⟨wr.heap.size, 2, none⟩ = some (.int .i64 y) := (cell_of_block hBK 2).trans rfl
            have k3 : W0s.cell? ⟨wr.heap.size, 3, none⟩ = some (.int .i64 n) := (cell_of_block hBK 3).trans rfl
            have k4 : W0s.cell? ⟨wr.heap.size, 4, none⟩ = some (.slice A4 tl c4) := (cell_of_block hBK 4).trans rfl
            have k5 : W0s.cell? ⟨wr.heap.size, 5, none⟩ = some (.slice none 0 0) := (cell_of_block hBK 5).trans rfl
            have N4 : Hid (RepV W0s wr.heap.size W0s.heap.size t A4 c4) := (P4.out.mono (by omega) (Nat.le_refl _))
            have N5 : Hid (RepV W0s wr.heap.size W0s.heap.size e none 0) := (repV_zero HEL.out)
            have HC : Hid (StR.cells ⟨op, x, y, n, t, e, A4, c4, none, 0⟩ = [.int .i64 op, .int .i64 x, .int .i64 y, .int .i64 n, .slice A4 tl c4, .slice none 0 0]) := by unfold Hid StR.cells; simp only [HTL.out, HEL.out]
            have HOWN : Hid (W0s.ownsRow w.heap.size 53 6 (.slice A q c) q (rs.flatMap StR.cells)) := by
              have := KW0s.out.row.own
              rwa [HQ.out] at this
            have zz := KW0s.out.bel.size
            clear hBK
            go_wp2_with (at_builtin; refine wpList_append_lies _ rfl _ _ 27 rfl w.heap.size 53 i0 (.agg #[.int .i64 0, .int .i64 0, .int .i64 0, .int .i64 0, .slice none 0 0, .slice none 0 0]) 6 80 Try.underlying27 HI.out HZ0.out HZ1.out HZ2.out rfl (by decide) _ _ _ rfl (HOWN.out.alloc _) ⟨_, 0, none⟩ 1 1 [.int .i64 op, .int .i64 x, .int .i64 y, .int .i64 n, .slice A4 tl c4, .slice none 0 0] rfl rfl ?la1 ?la2 (by decide) ?la3 ?la4 ?la5 _ rfl ?_)
            try (case la1 => exact news1 (by simp) rfl)
            try (case la2 => intro u hu; simp only [List.mem_cons, List.not_mem_nil, or_false] at hu; rcases hu with rfl | rfl | rfl | rfl | rfl | rfl <;> rfl)
            try (case la3 => unfold maxLen; omega)
            try (case la4 => omega)
            try (case la5 => first | omega | (simp; omega))
            intro g2 cap2 w' hown' hg hat hlt'
            have hbA := (Below.refl W0s.heap.size W0s).alloc (Nat.le_refl _) (.cells #[.int .i64 op, .int .i64 x, .int .i64 y, .int .i64 n, .slice A4 tl c4, .slice none 0 0] 53)
            have hR' : RowS w' w.heap.size (.slice (some ⟨g2, 0, none⟩) (rs.length + 1) cap2) (rs ++ [⟨op, x, y, n, t, e, A4, c4, none, 0⟩]) := by
              refine RowS.snoc (KW0s.out.row.below hbA) ?_ hg (hat.imp id fun e => e.trans (by simp)) (Firm.of_new N4.out hR.out hbz hbA) (Firm.of_new N5.out hR.out hbz hbA)
              rw [HQ.out, HC.out]
              exact hown'
            have HR' := Lib.hid hR'
            have hb' : Below w.heap.size w w' := ((hb.trans (KW0s.out.bel.mono hbz)).alloc (by omega) _).grown hg (by simp; omega) (fun k hk => (HOWN.out.lt k hk).1)
            clear hown' hg hat hbA hR' HOWN
            go_wp2_with fail
            go_roundw
            case rel => exact ⟨k + 1, rs ++ [⟨op, x, y, n, t, e, A4, c4, none, 0⟩], _, cap2, by go_num, by rw [List.length_append, HQ.out]; rfl, by omega, by unfold Hid; rw [List.length_append, hl.out]; rfl, by unfold Hid; rw [List.length_append]; exact HR'.out, by unfold Hid; exact hof2.out _ _ _ _, hb'⟩
            case measure => simp [intOf]; omega
        · obtain rfl : tl = 0 := by omega
          have d4 : decide (0 < ((0 : Nat) : Int)) = false := rfl
          go_upto_region 10 with (fail)
          clear d4 g4 s4
          have s5 : W0.cell? ⟨(b.add (k * 6)).block, (b.add (k * 6)).off + 5, none⟩ = some (.slice Ae el ce) := (KW0.out.bel.cell (p := ⟨(b.add (k * 6)).block, (b.add (k * 6)).off + 5, none⟩) hbk).trans h5
          by_cases g5 : 0 < el
          · have d5 : decide (0 < (el : Int)) = true := decide_eq_true (by omega)
            have d5' : decide (0 < el) = true := decide_eq_true g5
            have HC := ih.out e Ae ce W0 (by omega) (by omega) ((HRE.out.below KW0.out.bel KW0.out.bel.size))
            rw [HEL.out] at HC
            replace HC := Lib.hid HC
            go_wp2_with fail
            refine HC.out.mono ?_
            rintro E W0c ⟨rs5, A5, c5, rfl, hR5, ho5, hb5⟩
            have hl5 : Hid (rs5.length = el) := by unfold Hid; rw [← ofR_len, ho5]; exact HEL.out
            have KW0c := Lib.hid (KW0.out.call hb5)
            have x5 : W0c.cell? ⟨wr.heap.size, 5, none⟩ = some (.slice none 0 0) := (cell_of_block KW0c.out.blk 5).trans rfl
            have f5 := frozen_of_block KW0c.out.blk 5
            rw [hl5.out]
            have hP5 := hR5.rep.2
            rw [ho5] at hP5
            have Z5 := hb5.size
            obtain ⟨W0s, hw5⟩ : ∃ z, W0c.setCell ⟨wr.heap.size, 5, none⟩ (.slice A5 el c5) = z := ⟨_, rfl⟩
            have KW0s := Lib.hid (KW0c.out.put (Nat.le_refl _) hown.out hR.out 5 (.slice A5 el c5))
            have P5 : Hid (RepV (W0c.setCell ⟨wr.heap.size, 5, none⟩ (.slice A5 el c5)) W0.heap.size (W0c.setCell ⟨wr.heap.size, 5, none⟩ (.slice A5 el c5)).heap.size e A5 c5) := hP5.keep (Nat.le_refl _) (by simp [World.setCell]) fun p h1 h2 => World.cell?_setCell_other _ _ _ _ (fun e => by subst e; simp at h1; omega)
            have Zs5 : W0.heap.size ≤ (W0c.setCell ⟨wr.heap.size, 5, none⟩ (.slice A5 el c5)).heap.size := by simp [World.setCell]; exact Z5
            rw [hw5] at KW0s P5 Zs5
            clear hR5 ho5 hb5 hP5 HC g5 s5
            go_upto_region 12 with (fail)
            clear hw5 x5 f5 d5 d5'
            have hBK := KW0s.out.blk
            have k0 : W0s.cell? ⟨wr.heap.size, 0, none⟩ = some (.int .i64 op) := (cell_of_block hBK 0).trans rfl
            have k1 : W0s.cell? ⟨wr.heap.size, 1, none⟩ = some (.int .i64 x) := (cell_of_block hBK 1).trans rfl
            have k2 : W0s.cell? ⟨wr.heap.size, 2, none⟩ = some (.int .i64 y) := (cell_of_block hBK 2).trans rfl
            have k3 : W0s.cell? ⟨wr.heap.size, 3, none⟩ = some (.int .i64 n) := (cell_of_block hBK 3).trans rfl
            have k4 : W0s.cell? ⟨wr.heap.size, 4, none⟩ = some (.slice none 0 0) := (cell_of_block hBK 4).trans rfl
            have k5 : W0s.cell? ⟨wr.heap.size, 5, none⟩ = some (.slice A5 el c5) := (cell_of_block hBK 5).trans rfl
            have N4 : Hid (RepV W0s wr.heap.size W0s.heap.size t none 0) := (repV_zero HTL.out)
            have N5 : Hid (RepV W0s wr.heap.size W0s.heap.size e A5 c5) := (P5.out.mono (by omega) (Nat.le_refl _))
            have HC : Hid (StR.cells ⟨op, x, y, n, t, e, none, 0, A5, c5⟩ = [.int .i64 op, .int .i64 x, .int .i64 y, .int .i64 n, .slice none 0 0, .slice A5 el c5]) := by unfold Hid StR.cells; simp only [HTL.out, HEL.out]
            have HOWN : Hid (W0s.ownsRow w.heap.size 53 6 (.slice A q c) q (rs.flatMap StR.cells)) := by
              have := KW0s.out.row.own
              rwa [HQ.out] at this
            have zz := KW0s.out.bel.size
            clear hBK
            go_wp2_with (at_builtin; refine wpList_append_lies _ rfl _ _ 27 rfl w.heap.size 53 i0 (.agg #[.int .i64 0, .int .i64 0, .int .i64 0, .int .i64 0, .slice none 0 0, .slice none 0 0]) 6 80 Try.underlying27 HI.out HZ0.out HZ1.out HZ2.out rfl (by decide) _ _ _ rfl (HOWN.out.alloc _) ⟨_, 0, none⟩ 1 1 [.int .i64 op, .int .i64 x, .int .i64 y, .int .i64 n, .slice none 0 0, .slice A5 el c5] rfl rfl ?la1 ?la2 (by decide) ?la3 ?la4 ?la5 _ rfl ?_)
            try (case la1 => exact news1 (by simp) rfl)
            try (case la2 => intro u hu; simp only [List.mem_cons, List.not_mem_nil, or_false] at hu; rcases hu with rfl | rfl | rfl | rfl | rfl | rfl <;> rfl)
            try (case la3 => unfold maxLen; omega)
            try (case la4 => omega)
            try (case la5 => first | omega | (simp; omega))
            intro g2 cap2 w' hown' hg hat hlt'
            have hbA := (Below.refl W0s.heap.size W0s).alloc (Nat.le_refl _) (.cells #[.int .i64 op, .int .i64 x, .int .i64 y, .int .i64 n, .slice none 0 0, .slice A5 el c5] 53)
            have hR' : RowS w' w.heap.size (.slice (some ⟨g2, 0, none⟩) (rs.length + 1) cap2) (rs ++ [⟨op, x, y, n, t, e, none, 0, A5, c5⟩]) := by
              refine RowS.snoc (KW0s.out.row.below hbA) ?_ hg (hat.imp id fun e => e.trans (by simp)) (Firm.of_new N4.out hR.out hbz hbA) (Firm.of_new N5.out hR.out hbz hbA)
              rw [HQ.out, HC.out]
              exact hown'
            have HR' := Lib.hid hR'
            have hb' : Below w.heap.size w w' := ((hb.trans (KW0s.out.bel.mono hbz)).alloc (by omega) _).grown hg (by simp; omega) (fun k hk => (HOWN.out.lt k hk).1)
            clear hown' hg hat hbA hR' HOWN
            go_wp2_with fail
            go_roundw
            case rel => exact ⟨k + 1, rs ++ [⟨op, x, y, n, t, e, none, 0, A5, c5⟩], _, cap2, by go_num, by rw [List.length_append, HQ.out]; rfl, by omega, by unfold Hid; rw [List.length_append, hl.out]; rfl, by unfold Hid; rw [List.length_append]; exact HR'.out, by unfold Hid; exact hof2.out _ _ _ _, hb'⟩
            case measure => simp [intOf]; omega
          · obtain rfl : el = 0 := by omega
            have d5 : decide (0 < ((0 : Nat) : Int)) = false := rfl
            go_upto_region 12 with (fail)
            clear d5 g5 s5
            have hBK := KW0.out.blk
            have k0 : W0.cell? ⟨wr.heap.size, 0, none⟩ = some (.int .i64 op) := (cell_of_block hBK 0).trans rfl
            have k1 : W0.cell? ⟨wr.heap.size, 1, none⟩ = some (.int .i64 x) := (cell_of_block hBK 1).trans rfl
            have k2 : W0.cell? ⟨wr.heap.size, 2, none⟩ = some (.int .i64 y) := (cell_of_block hBK 2).trans rfl
            have k3 : W0.cell? ⟨wr.heap.size, 3, none⟩ = some (.int .i64 n) := (cell_of_block hBK 3).trans rfl
            have k4 : W0.cell? ⟨wr.heap.size, 4, none⟩ = some (.slice none 0 0) := (cell_of_block hBK 4).trans rfl
            have k5 : W0.cell? ⟨wr.heap.size, 5, none⟩ = some (.slice none 0 0) := (cell_of_block hBK 5).trans rfl
            have N4 : Hid (RepV W0 wr.heap.size W0.heap.size t none 0) := (repV_zero HTL.out)
            have N5 : Hid (RepV W0 wr.heap.size W0.heap.size e none 0) := (repV_zero HEL.out)
            have HC : Hid (StR.cells ⟨op, x, y, n, t, e, none, 0, none, 0⟩ = [.int .i64 op, .int .i64 x, .int .i64 y, .int .i64 n, .slice none 0 0, .slice none 0 0]) := by unfold Hid StR.cells; simp only [HTL.out, HEL.out]
            have HOWN : Hid (W0.ownsRow w.heap.size 53 6 (.slice A q c) q (rs.flatMap StR.cells)) := by
              have := KW0.out.row.own
              rwa [HQ.out] at this
            have zz := KW0.out.bel.size
            clear hBK
            go_wp2_with (at_builtin; refine wpList_append_lies _ rfl _ _ 27 rfl w.heap.size 53 i0 (.agg #[.int .i64 0, .int .i64 0, .int .i64 0, .int .i64 0, .slice none 0 0, .slice none 0 0]) 6 80 Try.underlying27 HI.out HZ0.out HZ1.out HZ2.out rfl (by decide) _ _ _ rfl (HOWN.out.alloc _) ⟨_, 0, none⟩ 1 1 [.int .i64 op, .int .i64 x, .int .i64 y, .int .i64 n, .slice none 0 0, .slice none 0 0] rfl rfl ?la1 ?la2 (by decide) ?la3 ?la4 ?la5 _ rfl ?_)
            try (case la1 => exact news1 (by simp) rfl)
            try (case la2 => intro u hu; simp only [List.mem_cons, List.not_mem_nil, or_false] at hu; rcases hu with rfl | rfl | rfl | rfl | rfl | rfl <;> rfl)
            try (case la3 => unfold maxLen; omega)
            try (case la4 => omega)
            try (case la5 => first | omega | (simp; omega))
            intro g2 cap2 w' hown' hg hat hlt'
            have hbA := (Below.refl W0.heap.size W0).alloc (Nat.le_refl _) (.cells #[.int .i64 op, .int .i64 x, .int .i64 y, .int .i64 n, .slice none 0 0, .slice none 0 0] 53)
            have hR' : RowS w' w.heap.size (.slice (some ⟨g2, 0, none⟩) (rs.length + 1) cap2) (rs ++ [⟨op, x, y, n, t, e, none, 0, none, 0⟩]) := by
              refine RowS.snoc (KW0.out.row.below hbA) ?_ hg (hat.imp id fun e => e.trans (by simp)) (Firm.of_new N4.out hR.out hbz hbA) (Firm.of_new N5.out hR.out hbz hbA)
              rw [HQ.out, HC.out]
              exact hown'
            have HR' := Lib.hid hR'
            have hb' : Below w.heap.size w w' := ((hb.trans (KW0.out.bel.mono hbz)).alloc (by omega) _).grown hg (by simp; omega) (fun k hk => (HOWN.out.lt k hk).1)
            clear hown' hg hat hbA hR' HOWN
            go_wp2_with fail
            go_roundw
            case rel => exact ⟨k + 1, rs ++ [⟨op, x, y, n, t, e, none, 0, none, 0⟩], _, cap2, by go_num, by rw [List.length_append, HQ.out]; rfl, by omega, by unfold Hid; rw [List.length_append, hl.out]; rfl, by unfold Hid; rw [List.length_append]; exact HR'.out, by unfold Hid; exact hof2.out _ _ _ _, hb'⟩
            case measure => simp [intOf]; omega
      · obtain rfl : k = len := by omega
        have HE : Hid (ofR rs = s) := by
          unfold Hid
          have := hof.out
          rw [← HLEN.out, Sts.drop_len, ofA_nil] at this
          exact this
        clear hof
        go_wp2_with fail
        go_ret
        exact ⟨rs, A, c, by rw [HQ.out]; rfl, by rw [HQ.out]; exact hR.out, HE.out, hb⟩

end Go.Proofs.Ytcpmodkplikmcaa
