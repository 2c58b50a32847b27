/-
  What the laws write over lists of statements that share nothing, and how they read it again.
-/
import Derived.Test.YtcpmodkplikmcaaTsh
import Derived.Test.YtcpmodkplikmcaaMarkB
namespace Go.Proofs.Ytcpmodkplikmcaa
open Go.RowKit Go.Deep
set_option linter.unusedVariables false

/-- The numbers that are written over a list. -/
def numS : Sts → Int → Sts
  | .nil, _ => .nil
  | .cons _ _ _ _ t e r, k => .cons k (k + 1) (k + 1 + 1) (k + 1 + 1 + 1) (numS t (k + 1 + 1 + 1 + 1)) (numS e (k + 1 + 1 + 1 + 1 + 4 * t.size)) (numS r (k + 1 + 1 + 1 + 1 + 4 * t.size + 4 * e.size))

theorem numS_len (s : Sts) : ∀ k, (numS s k).len = s.len := by
  induction s with
  | nil => intro k; rfl
  | cons op x y n t e r iht ihe ihr => intro k; simp only [numS, Sts.len, ihr]

theorem numS_size (s : Sts) : ∀ k, (numS s k).size = s.size := by
  induction s with
  | nil => intro k; rfl
  | cons op x y n t e r iht ihe ihr => intro k; simp only [numS, Sts.size, iht, ihe, ihr]

/-- What is kept: of the row's block the cells from o on, and the blocks under it. -/
theorem TrI.keepc {w w' : World} (s : Sts) : ∀ {g o lo hi : Nat}, TrI w s g o lo hi → (∀ q, o ≤ q → w'.cell? ⟨g, q, none⟩ = w.cell? ⟨g, q, none⟩) → (∀ k, lo ≤ k → k < hi → k ≠ g → w'.heap[k]? = w.heap[k]?) → TrI w' s g o lo hi := by
  induction s with
  | nil => intro g o lo hi h _ _; exact h
  | cons op x y n t e r iht ihe ihr =>
    intro g o lo hi h hc hk
    obtain ⟨⟨c0, c1, c2, c3⟩, l, m, h', h1, h2, h3, h4, ⟨A, c, h5, h6, h7, h8⟩, ⟨A', c', i5, i6, i7, i8⟩, hr⟩ := h
    have hhi := hr.le
    have hne : ∀ q, l ≤ q → q < h' → q ≠ g := fun q q1 q2 e => by
      subst e
      rcases h4 with h4 | h4
      · exact absurd q1 (Nat.not_le_of_lt h4)
      · exact absurd q2 (Nat.not_lt_of_le h4)
    have hkk : ∀ k, l ≤ k → k < h' → w'.heap[k]? = w.heap[k]? := fun k k1 k2 => hk k (Nat.le_trans h1 k1) (Nat.lt_of_lt_of_le k2 hhi) (hne k k1 k2)
    refine ⟨⟨(hc _ (Nat.le_refl _)).trans c0, (hc _ (by omega)).trans c1, (hc _ (by omega)).trans c2, (hc _ (by omega)).trans c3⟩, l, m, h', h1, h2, h3, h4, ⟨A, c, (hc _ (by omega)).trans h5, h6, h7, fun h0 => ?_⟩, ⟨A', c', (hc _ (by omega)).trans i5, i6, i7, fun h0 => ?_⟩, ihr hr (fun q hq => hc q (Nat.le_trans (Nat.le_add_right o 6) hq)) fun k k1 k2 k3 => hk k (Nat.le_trans h1 (Nat.le_trans h2 (Nat.le_trans h3 k1))) k2 k3⟩
    · obtain ⟨b, e1, e2, e3, e4, e5⟩ := h8 h0
      have hb := hkk b e2 (Nat.lt_of_lt_of_le e3 h3)
      exact ⟨b, e1, e2, e3, fun q => (World.frozen?_of_block (a := ⟨b, q, none⟩) hb).trans (e4 q), TrI.keep _ e5 hb fun k k1 k2 => hkk k k1 (Nat.lt_of_lt_of_le k2 h3)⟩
    · obtain ⟨b, e1, e2, e3, e4, e5⟩ := i8 h0
      have hb := hkk b (Nat.le_trans h2 e2) e3
      exact ⟨b, e1, e2, e3, fun q => (World.frozen?_of_block (a := ⟨b, q, none⟩) hb).trans (e4 q), TrI.keep _ e5 hb fun k k1 k2 => hkk k (Nat.le_trans h2 k1) k2⟩

/-- What was written so far reads so, if what is behind it does. -/
def Done (lo hi g : Nat) (s : Sts) (k : Int) (j : Nat) (z : Int) (loj : Nat) (wr : World) : Prop :=
  ∀ w' : World, (∀ p : Addr, (p.block = g ∧ p.off < j * 6 ∧ p.spot = none) ∨ (lo ≤ p.block ∧ p.block < loj ∧ p.block ≠ g) → w'.cell? p = wr.cell? p) → Rep w' lo hi (numS (s.drop j) z) ⟨g, j * 6, none⟩ → Rep w' lo hi (numS s k) ⟨g, 0, none⟩

theorem Rep.mono {w : World} {lo hi lo' hi' : Nat} {s : Sts} {a : Addr} (h : Rep w lo hi s a) (h1 : lo ≤ a.block) (h2 : a.block < hi) (hl : lo' ≤ lo) (hh : hi ≤ hi') : Rep w lo' hi' s a := h.keep hl hh (fun _ _ _ => rfl) _ _ h1 h2

set_option maxRecDepth 100000 in
set_option maxHeartbeats 4000000 in
theorem markStmtS_own (N : Nat) : ∀ (s : Sts) (A : Option Addr) (c lo hi : Nat) (k : Int) (w : World), s.size < N → s.size ≤ 2000000 → 0 ≤ k → k ≤ 100000000 - 4 * s.size → SubI w lo hi s A c →
    Calls Try.prog 46 #[.slice A s.len c, .int .i64 k] w fun E w' => E = .returned (.int .i64 (k + 4 * s.size)) ∧ MarkRel lo hi w w' ∧ RepV w' lo hi (numS s k) A c := by
  induction N with
  | zero => intro s A c lo hi k w h; omega
  | succ N ih =>
    intro s A c lo hi k w hN hsz hk0 hk1 hR
    have hm := hR.2.1
    have hlc := hR.1
    unfold maxLen at hm
    by_cases hs0 : s.len = 0
    · have hs : s = .nil := by
        cases s with
        | nil => rfl
        | cons => simp [Sts.len] at hs0
      subst hs
      have HR := Lib.hid hR
      clear hR
      go_enter Try.func46, Try.ntmps46
      go_wp2_with fail
      go_loop [1, 5] (fun q i => q = .int .i64 k ∧ i = .int .i64 0) (fun _ _ => 0)
      case atStart => exact ⟨rfl, rfl⟩
      case round =>
        obtain ⟨rfl, rfl⟩ := hrel
        have hd0 : (Sts.nil.len : Int) = 0 := rfl
        have hd1 : Sts.nil.len = 0 := rfl
        go_wp2_with fail
        go_ret
        exact ⟨by simp [Sts.size], MarkRel.refl _ _ _, HR.out.1, HR.out.2.1, fun h => absurd h (by simp [numS, Sts.len])⟩
    obtain ⟨g, rfl, hg1, hg2, hfz, hTr⟩ := hR.2.2.2 (by omega)
    have HFZ := Lib.hid hfz
    have HTr := Lib.hid hTr
    have HD0 : Hid (Done lo hi g s k 0 k lo w) := fun w' _ h => h
    clear hR hfz hTr
    obtain ⟨n, hn⟩ : ∃ n, s.len = n := ⟨_, rfl⟩
    have HN := Lib.hid hn
    rw [hn] at hlc hs0 ⊢
    clear hn
    go_enter Try.func46, Try.ntmps46
    go_wp2_with fail
    go_loopw [1, 5] (fun q i wr => ∃ (j loj : Nat) (z : Int), j ≤ n ∧ i = .int .i64 j ∧ q = .int .i64 z ∧ k ≤ z ∧ z + 4 * (s.drop j).size = k + 4 * s.size ∧ lo ≤ loj ∧ Hid (TrI wr (s.drop j) g (j * 6) loj hi) ∧ Hid (MarkRel lo hi w wr) ∧ Hid (Done lo hi g s k j z loj wr)) (fun _ i _ => n - (intOf i).toNat)
    case atStart => exact ⟨0, lo, k, Nat.zero_le _, rfl, rfl, by omega, by simp [Sts.drop], Nat.le_refl _, HTr, MarkRel.refl _ _ _, HD0⟩
    case round =>
      clear HTr HD0
      obtain ⟨j, loj, z, hj, rfl, rfl, hkz, hz, hlo, hT, hM, hD⟩ := hrel
      by_cases hlt : j < n
      · obtain ⟨op, x, y, nn, t, e, hdr⟩ := s.drop_lt j (by rw [HN.out]; exact hlt)
        have hT2 := hT.out
        rw [hdr] at hT2
        obtain ⟨⟨h0, h1, h2, h3⟩, l, m, h', hl1, hl2, hl3, hav, ⟨At, ct, h4, ht1, ht2, ht3⟩, ⟨Ae, ce, h5, he1, he2, he3⟩, hr⟩ := hT2
        have hhi := hr.le
        have hzz := RepV.drop_sizes hdr
        have hdz : (s.drop j).size = 1 + t.size + e.size + (s.drop (j + 1)).size := by rw [hdr]; rfl
        have hz2 : z + 4 + 4 * t.size + 4 * e.size + 4 * (s.drop (j + 1)).size = k + 4 * s.size := by omega
        have hSt : SubI wr l m t At ct := ⟨ht1, ht2, hl2, ht3⟩
        have hSe : SubI wr m h' e Ae ce := ⟨he1, he2, hl3, he3⟩
        have hfr : ∀ q, wr.frozen? ⟨g, q, none⟩ = false := fun q => (hM.out.frozen _).trans (HFZ.out q)
        have hf0 := hfr (j * 6)
        have hf1 := hfr (j * 6 + 1)
        have hf2 := hfr (j * 6 + 2)
        have hf3 := hfr (j * 6 + 3)
        obtain ⟨W4, hW4⟩ : ∃ W4, (((wr.setCell ⟨g, j * 6, none⟩ (.int .i64 z)).setCell ⟨g, j * 6 + 1, none⟩ (.int .i64 (z + 1))).setCell ⟨g, j * 6 + 2, none⟩ (.int .i64 (z + 1 + 1))).setCell ⟨g, j * 6 + 3, none⟩ (.int .i64 (z + 1 + 1 + 1)) = W4 := ⟨_, rfl⟩
        have m1 := (MarkRel.refl lo hi wr).set (p := ⟨g, j * 6, none⟩) z hg1 hg2 h0
        have g1 : (wr.setCell ⟨g, j * 6, none⟩ (.int .i64 z)).cell? ⟨g, j * 6 + 1, none⟩ = some (.int .i64 x) := (World.cell?_setCell_other _ _ _ _ (fun e => by have := congrArg Addr.off e; simp at this)).trans h1
        have m2 := MarkRel.set (p := ⟨g, j * 6 + 1, none⟩) m1 (z + 1) hg1 hg2 g1
        have g2 : ((wr.setCell ⟨g, j * 6, none⟩ (.int .i64 z)).setCell ⟨g, j * 6 + 1, none⟩ (.int .i64 (z + 1))).cell? ⟨g, j * 6 + 2, none⟩ = some (.int .i64 y) := (World.cell?_setCell_other _ _ _ _ (fun e => by have := congrArg Addr.off e; simp at this)).trans ((World.cell?_setCell_other _ _ _ _ (fun e => by have := congrArg Addr.off e; simp at this)).trans h2)
        have m3 := MarkRel.set (p := ⟨g, j * 6 + 2, none⟩) m2 (z + 1 + 1) hg1 hg2 g2
        have g3 : (((wr.setCell ⟨g, j * 6, none⟩ (.int .i64 z)).setCell ⟨g, j * 6 + 1, none⟩ (.int .i64 (z + 1))).setCell ⟨g, j * 6 + 2, none⟩ (.int .i64 (z + 1 + 1))).cell? ⟨g, j * 6 + 3, none⟩ = some (.int .i64 nn) := (World.cell?_setCell_other _ _ _ _ (fun e => by have := congrArg Addr.off e; simp at this)).trans ((World.cell?_setCell_other _ _ _ _ (fun e => by have := congrArg Addr.off e; simp at this)).trans ((World.cell?_setCell_other _ _ _ _ (fun e => by have := congrArg Addr.off e; simp at this)).trans h3))
        have m4 := MarkRel.set (p := ⟨g, j * 6 + 3, none⟩) m3 (z + 1 + 1 + 1) hg1 hg2 g3
        have v3 : W4.cell? ⟨g, j * 6 + 3, none⟩ = some (.int .i64 (z + 1 + 1 + 1)) := by rw [← hW4]; exact World.cell?_setCell_same _ _ _ g3
        have v2 : W4.cell? ⟨g, j * 6 + 2, none⟩ = some (.int .i64 (z + 1 + 1)) := by rw [← hW4]; exact (World.cell?_setCell_other _ _ _ _ (fun e => by have := congrArg Addr.off e; simp at this)).trans (World.cell?_setCell_same _ _ _ g2)
        have v1 : W4.cell? ⟨g, j * 6 + 1, none⟩ = some (.int .i64 (z + 1)) := by rw [← hW4]; exact (World.cell?_setCell_other _ _ _ _ (fun e => by have := congrArg Addr.off e; simp at this)).trans ((World.cell?_setCell_other _ _ _ _ (fun e => by have := congrArg Addr.off e; simp at this)).trans (World.cell?_setCell_same _ _ _ g1))
        have v0 : W4.cell? ⟨g, j * 6, none⟩ = some (.int .i64 z) := by rw [← hW4]; exact (World.cell?_setCell_other _ _ _ _ (fun e => by have := congrArg Addr.off e; simp at this)).trans ((World.cell?_setCell_other _ _ _ _ (fun e => by have := congrArg Addr.off e; simp at this)).trans ((World.cell?_setCell_other _ _ _ _ (fun e => by have := congrArg Addr.off e; simp at this)).trans (World.cell?_setCell_same _ _ _ h0)))
        have vo : ∀ p : Addr, (∀ i, i < 4 → p ≠ ⟨g, j * 6 + i, none⟩) → W4.cell? p = wr.cell? p := fun p hp => by
          rw [← hW4]
          exact (World.cell?_setCell_other _ _ _ _ (fun e => hp 3 (by omega) e.symm)).trans ((World.cell?_setCell_other _ _ _ _ (fun e => hp 2 (by omega) e.symm)).trans ((World.cell?_setCell_other _ _ _ _ (fun e => hp 1 (by omega) e.symm)).trans (World.cell?_setCell_other _ _ _ _ (fun e => hp 0 (by omega) (e.symm.trans (by simp))))))
        have vb : ∀ q, q ≠ g → W4.heap[q]? = wr.heap[q]? := fun q hq => by
          rw [← hW4]
          exact (Below.heap_setCell _ _ _ _ (by show q ≠ g; exact hq)).trans ((Below.heap_setCell _ _ _ _ (by show q ≠ g; exact hq)).trans ((Below.heap_setCell _ _ _ _ (by show q ≠ g; exact hq)).trans (Below.heap_setCell _ _ _ _ (by show q ≠ g; exact hq))))
        rw [hW4] at m4
        have v4 : W4.cell? ⟨g, j * 6 + 4, none⟩ = some (.slice At t.len ct) := (vo _ fun i hi e => by have := congrArg Addr.off e; simp at this; omega).trans h4
        have hne : ∀ q, l ≤ q → q < h' → q ≠ g := fun q q1 q2 e => by
          subst e
          rcases hav with h4 | h4
          · exact absurd q1 (Nat.not_le_of_lt h4)
          · exact absurd q2 (Nat.not_lt_of_le h4)
        have hgl : g < l ∨ m ≤ g := hav.imp id fun h => Nat.le_trans hl3 h
        have hgm : g < m ∨ h' ≤ g := hav.imp (fun h => Nat.lt_of_lt_of_le h hl2) id
        have HST4 : Hid (SubI W4 l m t At ct) := hSt.keep fun q q1 q2 => vb q (hne q q1 (Nat.lt_of_lt_of_le q2 hl3))
        have HSE4 : Hid (SubI W4 m h' e Ae ce) := hSe.keep fun q q1 q2 => vb q (hne q (Nat.le_trans hl2 q1) q2)
        have HR4 : Hid (TrI W4 (s.drop (j + 1)) g (j * 6 + 6) h' hi) := TrI.keepc _ hr (fun q hq => vo _ fun i hi e => by have := congrArg Addr.off e; simp at this; omega) fun q q1 q2 q3 => vb q q3
        have HC5 : Hid (W4.cell? ⟨g, j * 6 + 5, none⟩ = some (.slice Ae e.len ce)) := (vo _ fun i hi e => by have := congrArg Addr.off e; simp at this; omega).trans h5
        have HM4 := Lib.hid (hM.out.trans m4)
        have HV : Hid (W4.cell? ⟨g, j * 6, none⟩ = some (.int .i64 z) ∧ W4.cell? ⟨g, j * 6 + 1, none⟩ = some (.int .i64 (z + 1)) ∧ W4.cell? ⟨g, j * 6 + 2, none⟩ = some (.int .i64 (z + 1 + 1)) ∧ W4.cell? ⟨g, j * 6 + 3, none⟩ = some (.int .i64 (z + 1 + 1 + 1))) := ⟨v0, v1, v2, v3⟩
        have HVO := Lib.hid vo
        have HVB := Lib.hid vb
        have HD := Lib.hid hD.out
        have HDR := Lib.hid hdr
        have HGL := Lib.hid hgl
        have HGM := Lib.hid hgm
        have HNE := Lib.hid hne
        have HT12 := Lib.hid (And.intro ht1 (And.intro ht2 (And.intro he1 he2)))
        have hll : lo ≤ l := Nat.le_trans hlo hl1
        have HLL := Lib.hid (And.intro hl1 (And.intro hl2 (And.intro hl3 (And.intro hhi hll))))
        have HV4 := Lib.hid v4
        have hlo2 : lo ≤ h' := by omega
        have hzt : z + 4 + 4 * t.size + 4 * e.size ≤ 100000000 := by omega
        have HZ2 := Lib.hid hz2
        have hcl4 : 0 ≤ z + 1 + 1 + 1 + 1 := by omega
        have hts : t.size < N := by omega
        have hes : e.size < N := by omega
        have hts2 : t.size ≤ 2000000 := by omega
        have hes2 : e.size ≤ 2000000 := by omega
        clear m1 m2 m3 m4 g1 g2 g3 v0 v1 v2 v3 vo vb hSt hSe hr hD hne hgl hgm hdr hdz hz hz2 hzz hT hM hfr hav ht1 ht2 ht3 he1 he2 he3 h5 hl1 hl2 hl3 hhi hlo hll
        go_wp2_with fail
        clear hW4
        refine (ih t At ct l m (z + 1 + 1 + 1 + 1) W4 hts hts2 hcl4 (by omega) HST4.out).mono ?_
        rintro E w1 ⟨rfl, hM1, hP1⟩
        have HM1 := Lib.hid hM1
        have HP1 := Lib.hid hP1
        have c5 : w1.cell? ⟨g, j * 6 + 5, none⟩ = some (.slice Ae e.len ce) := (hM1.cell HGL.out).trans HC5.out
        have HSE1 : Hid (SubI w1 m h' e Ae ce) := HSE4.out.keep fun q q1 q2 => hM1.block q (.inr q1)
        clear hM1 hP1 v4
        go_wp2_with fail
        refine (ih e Ae ce m h' (z + 1 + 1 + 1 + 1 + 4 * t.size) w1 hes hes2 (by omega) (by omega) HSE1.out).mono ?_
        rintro E w2 ⟨rfl, hM2, hP2⟩
        obtain ⟨hl1, hl2, hl3, hhi, hll⟩ := HLL.out
        have hm2 : lo ≤ m := by omega
        have HM2 := Lib.hid (HM4.out.trans ((HM1.out.wide hll (by omega : m ≤ hi)).trans (hM2.wide hm2 hhi)))
        have hw : ∀ p : Addr, (p.block = g ∨ p.block < l) → w2.cell? p = W4.cell? p := fun p hp => by
          have hp1 : p.block < l ∨ m ≤ p.block := by
            rcases hp with h | h
            · rw [h]; exact HGL.out
            · exact .inl h
          have hp2 : p.block < m ∨ h' ≤ p.block := by
            rcases hp with h | h
            · rw [h]; exact HGM.out
            · exact .inl (Nat.lt_of_lt_of_le h hl2)
          exact (hM2.cell hp2).trans (HM1.out.cell hp1)
        have HR2 : Hid (TrI w2 (s.drop (j + 1)) g ((j + 1) * 6) h' hi) := by
          have h6 : (j + 1) * 6 = j * 6 + 6 := by omega
          unfold Hid
          rw [h6]
          exact TrI.keepc _ HR4.out (fun q _ => hw _ (.inl rfl)) fun q q1 q2 q3 => (hM2.block q (.inr q1)).trans (HM1.out.block q (.inr (Nat.le_trans hl3 q1)))
        have HD2 : Hid (Done lo hi g s k (j + 1) (z + 1 + 1 + 1 + 1 + 4 * t.size + 4 * e.size) h' w2) := fun w' hag hrep => by
          have hcg : ∀ o, o < (j + 1) * 6 → w'.cell? ⟨g, o, none⟩ = W4.cell? ⟨g, o, none⟩ := fun o ho => (hag ⟨g, o, none⟩ (.inl ⟨rfl, ho, rfl⟩)).trans (hw _ (.inl rfl))
          refine HD.out w' (fun p hp => ?_) ?_
          · rcases hp with ⟨h1, h2, h3⟩ | ⟨h1, h2, h3⟩
            · refine (hag p (.inl ⟨h1, by omega, h3⟩)).trans ((hw p (.inl h1)).trans (HVO.out p fun i hi e => ?_))
              rw [e] at h2
              have h2' : j * 6 + i < j * 6 := h2
              omega
            · refine (hag p (.inr ⟨h1, by omega, h3⟩)).trans ((hw p (.inr (by omega))).trans (HVO.out p fun i hi e => h3 (by rw [e])))
          · rw [HDR.out]
            obtain ⟨v0, v1, v2, v3⟩ := HV.out
            have hrep2 : Rep w' lo hi (numS (s.drop (j + 1)) (z + 1 + 1 + 1 + 1 + 4 * t.size + 4 * e.size)) ((⟨g, j * 6, none⟩ : Addr).add 6) := by
              rw [add_block]
              have h6 : (j + 1) * 6 = j * 6 + 6 := by omega
              rw [← h6]
              exact hrep
            have hPt : RepV w' lo hi (numS t (z + 1 + 1 + 1 + 1)) At ct := HP1.out.keep hll (by omega) fun p p1 p2 => (hag p (.inr ⟨by omega, by omega, HNE.out _ p1 (by omega)⟩)).trans (hM2.cell (.inl p2))
            have hPe : RepV w' lo hi (numS e (z + 1 + 1 + 1 + 1 + 4 * t.size)) Ae ce := hP2.keep hm2 hhi fun p p1 p2 => hag p (.inr ⟨by omega, p2, HNE.out _ (by omega) p2⟩)
            have e4 : w'.cell? ((⟨g, j * 6, none⟩ : Addr).add 4) = some (.slice At t.len ct) := by rw [add_block]; exact (hcg _ (by omega)).trans HV4.out
            have e5 : w'.cell? ((⟨g, j * 6, none⟩ : Addr).add 5) = some (.slice Ae e.len ce) := by rw [add_block]; exact (hcg _ (by omega)).trans HC5.out
            refine ⟨⟨(hcg _ (by omega)).trans v0, by rw [add_block]; exact (hcg _ (by omega)).trans v1, by rw [add_block]; exact (hcg _ (by omega)).trans v2, by rw [add_block]; exact (hcg _ (by omega)).trans v3⟩, ⟨At, ct, by rw [numS_len]; exact e4, hPt.1, hPt.2.1, hPt.2.2⟩, ⟨Ae, ce, by rw [numS_len]; exact e5, hPe.1, hPe.2.1, hPe.2.2⟩, hrep2⟩
        clear hw hM2 hP2 c5
        go_wp2_with fail
        go_roundw
        case rel => exact ⟨j + 1, h', _, by omega, by go_num, rfl, by omega, by have := HZ2.out; omega, hlo2, HR2, HM2, HD2⟩
        case measure => simp [intOf]; omega
      · obtain rfl : j = n := by omega
        have hfin : Hid (z = k + 4 * s.size ∧ RepV wr lo hi (numS s k) (some ⟨g, 0, none⟩) c) := by
          rw [← HN.out, s.drop_len] at hz
          have hd := hD.out wr (fun _ _ => rfl) (by rw [← HN.out, s.drop_len]; trivial)
          exact ⟨by simpa [Sts.size] using hz, by rw [numS_len, HN.out]; exact hlc, hm, fun _ => ⟨_, rfl, hg1, hg2, hd⟩⟩
        clear hz
        go_wp2_with fail
        go_ret
        exact ⟨by rw [← hfin.out.1]; rfl, hM.out, hfin.out.2⟩

theorem numS_drop (s : Sts) : ∀ (k : Int) (j : Nat), j < s.len → ∀ z, (numS s k).drop j = numS (s.drop j) z → ∀ op x y n t e, s.drop j = .cons op x y n t e (s.drop (j + 1)) →
    (numS s k).drop (j + 1) = numS (s.drop (j + 1)) (z + 1 + 1 + 1 + 1 + 4 * t.size + 4 * e.size) := by
  intro k j hj z hz op x y n t e hd
  have hlt : j < (numS s k).len := by rw [numS_len]; exact hj
  obtain ⟨op', x', y', n', t', e', h'⟩ := (numS s k).drop_lt j hlt
  rw [hz, hd] at h'
  simp only [numS, Sts.cons.injEq] at h'
  exact h'.2.2.2.2.2.2.symm

set_option maxRecDepth 100000 in
set_option maxHeartbeats 4000000 in
theorem heldStmtS_own (N : Nat) : ∀ (s : Sts) (A : Option Addr) (c lo hi : Nat) (k : Int) (w : World), s.size < N → s.size ≤ 2000000 → 0 ≤ k → k ≤ 100000000 - 4 * s.size → RepV w lo hi (numS s k) A c →
    Calls Try.prog 48 #[.slice A s.len c, .int .i64 k] w fun E w' => E = .returned (.int .i64 (k + 4 * s.size)) ∧ w = w' := by
  induction N with
  | zero => intro s A c lo hi k w h; omega
  | succ N ih =>
    intro s A c lo hi k w hN hsz hk0 hk1 hR
    have hm := hR.2.1
    have hlc := hR.1
    rw [numS_len] at hlc
    unfold maxLen at hm
    have HR := Lib.hid hR
    obtain ⟨n, hn⟩ : ∃ n, s.len = n := ⟨_, rfl⟩
    have HN := Lib.hid hn
    rw [hn] at hlc ⊢
    clear hn hR
    go_enter Try.func48, Try.ntmps48
    go_wp2_with fail
    go_loop [1, 5] (fun q i => ∃ (j : Nat) (z : Int), j ≤ n ∧ i = .int .i64 j ∧ q = .int .i64 z ∧ k ≤ z ∧ z + 4 * (s.drop j).size = k + 4 * s.size ∧ Hid ((numS s k).drop j = numS (s.drop j) z)) (fun _ i => n - (intOf i).toNat)
    case atStart => exact ⟨0, k, Nat.zero_le _, rfl, rfl, by omega, by simp [Sts.drop], rfl⟩
    case round =>
      obtain ⟨j, z, hj, rfl, rfl, hkz, hz, hD⟩ := hrel
      by_cases hlt : j < n
      · obtain ⟨op, x, y, nn, t, e, hdr⟩ := s.drop_lt j (by rw [HN.out]; exact hlt)
        obtain ⟨b, op', x', y', n', t', e', rfl, -, hbb, hdr', At, ct, Ae, ce, ⟨h0, h1, h2, h3, h4, h5⟩, hRt, hRe⟩ := HR.out.elem (k := j) (by rw [numS_len, HN.out]; exact hlt)
        have hzz := RepV.drop_sizes hdr
        have hdz : (s.drop j).size = 1 + t.size + e.size + (s.drop (j + 1)).size := by rw [hdr]; rfl
        have hnx := numS_drop s k j (by rw [HN.out]; exact hlt) z hD.out op x y nn t e hdr
        rw [hD.out, hdr] at hdr'
        simp only [numS, Sts.cons.injEq] at hdr'
        obtain ⟨rfl, rfl, rfl, rfl, rfl, rfl, -⟩ := hdr'
        rw [numS_len] at h4 h5
        have HNX := Lib.hid hnx
        have hz2 : z + 4 + 4 * t.size + 4 * e.size + 4 * (s.drop (j + 1)).size = k + 4 * s.size := by omega
        have hit := ih t At ct lo hi (z + 1 + 1 + 1 + 1) w (by omega) (by omega) (by omega) (by omega) hRt
        have hie := ih e Ae ce lo hi (z + 1 + 1 + 1 + 1 + 4 * t.size) w (by omega) (by omega) (by omega) (by omega) hRe
        have HZ2 := Lib.hid hz2
        have hzt : z + 4 + 4 * t.size + 4 * e.size ≤ 100000000 := by omega
        have hq1 : ¬ z + 1 + 1 + 1 + 1 + 4 * (t.size : Int) < 0 := by omega
        have hq2 : ¬ z + 1 + 1 + 1 + 1 + 4 * (t.size : Int) + 4 * (e.size : Int) < 0 := by omega
        clear hRt hRe hdz hz hdr hz2 hnx hD
        go_wp2_with fail
        refine hit.mono ?_
        rintro E w1 ⟨rfl, rfl⟩
        clear hit
        go_wp2_with fail
        refine hie.mono ?_
        rintro E w1 ⟨rfl, rfl⟩
        clear hie
        go_wp2_with fail
        go_round
        case rel => exact ⟨j + 1, _, by omega, by go_num, rfl, by omega, by have := HZ2.out; omega, HNX⟩
        case measure => simp [intOf]; omega
      · obtain rfl : j = n := by omega
        have hfin : Hid (z = k + 4 * s.size) := by
          unfold Hid
          rw [← HN.out, s.drop_len] at hz
          simpa [Sts.size] using hz
        clear hz
        go_wp2_with fail
        go_ret
        exact ⟨by rw [← hfin.out]; rfl, rfl⟩

end Go.Proofs.Ytcpmodkplikmcaa
