/-
  What the laws write over a program.
-/
import Derived.Test.YtcpmodkplikmcaaMark
namespace Go.Proofs.Ytcpmodkplikmcaa
open Go.RowKit Go.Deep
set_option linter.unusedVariables false

/-- A list of statements lies at an address, whatever its numbers are. -/
def Shp (w : World) (lo hi : Nat) : Sts → Addr → Prop
  | .nil, _ => True
  | .cons _ _ _ _ t e r, a =>
    ((∃ v, w.cell? a = some (.int .i64 v)) ∧ (∃ v, w.cell? (a.add 1) = some (.int .i64 v)) ∧ (∃ v, w.cell? (a.add 2) = some (.int .i64 v)) ∧ ∃ v, w.cell? (a.add 3) = some (.int .i64 v)) ∧
    (∃ A c, w.cell? (a.add 4) = some (.slice A t.len c) ∧ t.len ≤ c ∧ c ≤ maxLen ∧ (0 < t.len → ∃ b, A = some b ∧ lo ≤ b.block ∧ b.block < hi ∧ Shp w lo hi t b)) ∧
    (∃ A c, w.cell? (a.add 5) = some (.slice A e.len c) ∧ e.len ≤ c ∧ c ≤ maxLen ∧ (0 < e.len → ∃ b, A = some b ∧ lo ≤ b.block ∧ b.block < hi ∧ Shp w lo hi e b)) ∧
    Shp w lo hi r (a.add 6)

def ShpV (w : World) (lo hi : Nat) (s : Sts) (A : Option Addr) (c : Nat) : Prop :=
  s.len ≤ c ∧ c ≤ maxLen ∧ (0 < s.len → ∃ b, A = some b ∧ lo ≤ b.block ∧ b.block < hi ∧ Shp w lo hi s b)

theorem Rep.shp {w : World} {lo hi : Nat} (s : Sts) : ∀ a, Rep w lo hi s a → Shp w lo hi s a := by
  induction s with
  | nil => intro a _; trivial
  | cons op x y n t e r iht ihe ihr =>
    intro a h
    obtain ⟨⟨h0, h1, h2, h3⟩, ⟨A, c, h4, h5, h6, h7⟩, ⟨A', c', h8, h9, h10, h11⟩, hr⟩ := h
    refine ⟨⟨⟨_, h0⟩, ⟨_, h1⟩, ⟨_, h2⟩, ⟨_, h3⟩⟩, ⟨A, c, h4, h5, h6, fun hl => ?_⟩, ⟨A', c', h8, h9, h10, fun hl => ?_⟩, ihr _ hr⟩
    · obtain ⟨b, e1, e2, e3, e4⟩ := h7 hl
      exact ⟨b, e1, e2, e3, iht _ e4⟩
    · obtain ⟨b, e1, e2, e3, e4⟩ := h11 hl
      exact ⟨b, e1, e2, e3, ihe _ e4⟩

theorem RepV.shp {w : World} {lo hi : Nat} {s : Sts} {A : Option Addr} {c : Nat} (h : RepV w lo hi s A c) : ShpV w lo hi s A c :=
  ⟨h.1, h.2.1, fun hl => by
    obtain ⟨b, e1, e2, e3, e4⟩ := h.2.2 hl
    exact ⟨b, e1, e2, e3, e4.shp⟩⟩

theorem MarkRel.isInt {lo hi : Nat} {a b : World} (h : MarkRel lo hi a b) {p : Addr} (hi : ∃ v, a.cell? p = some (.int .i64 v)) : ∃ v, b.cell? p = some (.int .i64 v) := by
  rcases h.cells p with e | ⟨_, e⟩
  · obtain ⟨v, hv⟩ := hi
    exact ⟨v, e.trans hv⟩
  · exact e

theorem MarkRel.isSlice {lo hi : Nat} {a b : World} (h : MarkRel lo hi a b) {p : Addr} {A : Option Addr} {n c : Nat} (hs : a.cell? p = some (.slice A n c)) : b.cell? p = some (.slice A n c) := by
  rcases h.cells p with e | ⟨⟨x, e⟩, _⟩
  · exact e.trans hs
  · rw [hs] at e
    cases e

theorem Shp.marked {l h lo hi : Nat} {a b : World} (hM : MarkRel l h a b) (s : Sts) : ∀ p, Shp a lo hi s p → Shp b lo hi s p := by
  induction s with
  | nil => intro p _; trivial
  | cons op x y n t e r iht ihe ihr =>
    intro p hp
    obtain ⟨⟨h0, h1, h2, h3⟩, ⟨A, c, h4, h5, h6, h7⟩, ⟨A', c', h8, h9, h10, h11⟩, hr⟩ := hp
    refine ⟨⟨hM.isInt h0, hM.isInt h1, hM.isInt h2, hM.isInt h3⟩, ⟨A, c, hM.isSlice h4, h5, h6, fun hl => ?_⟩, ⟨A', c', hM.isSlice h8, h9, h10, fun hl => ?_⟩, ihr _ hr⟩
    · obtain ⟨b, e1, e2, e3, e4⟩ := h7 hl
      exact ⟨b, e1, e2, e3, iht _ e4⟩
    · obtain ⟨b, e1, e2, e3, e4⟩ := h11 hl
      exact ⟨b, e1, e2, e3, ihe _ e4⟩

theorem ShpV.marked {l h lo hi : Nat} {a b : World} (hM : MarkRel l h a b) {s : Sts} {A : Option Addr} {c : Nat} (hs : ShpV a lo hi s A c) : ShpV b lo hi s A c :=
  ⟨hs.1, hs.2.1, fun hl => by
    obtain ⟨b, e1, e2, e3, e4⟩ := hs.2.2 hl
    exact ⟨b, e1, e2, e3, Shp.marked hM _ _ e4⟩⟩

theorem Shp.at_ {w : World} {lo hi : Nat} (s : Sts) : ∀ (k : Nat) (a : Addr), Shp w lo hi s a → Shp w lo hi (s.drop k) (a.add (6 * k)) := by
  induction s with
  | nil => intro k a _; cases k <;> trivial
  | cons op x y n t e r iht ihe ihr =>
    intro k a h
    cases k with
    | zero => simpa [Sts.drop, Addr.add] using h
    | succ k =>
      have := ihr k (a.add 6) h.2.2.2
      rw [add_add] at this
      rw [show 6 * (k + 1) = 6 + 6 * k by omega]
      exact this

theorem ShpV.elem {w : World} {lo hi : Nat} {s : Sts} {A : Option Addr} {c : Nat} (h : ShpV w lo hi s A c) {k : Nat} (hk : k < s.len) :
    ∃ b op x y n t e, A = some b ∧ lo ≤ b.block ∧ b.block < hi ∧ s.drop k = .cons op x y n t e (s.drop (k + 1)) ∧ ∃ At ct Ae ce,
      ((∃ v, w.cell? (b.add (k * 6)) = some (.int .i64 v)) ∧ (∃ v, w.cell? ⟨(b.add (k * 6)).block, (b.add (k * 6)).off + 1, none⟩ = some (.int .i64 v)) ∧ (∃ v, w.cell? ⟨(b.add (k * 6)).block, (b.add (k * 6)).off + 2, none⟩ = some (.int .i64 v)) ∧
        (∃ v, w.cell? ⟨(b.add (k * 6)).block, (b.add (k * 6)).off + 3, none⟩ = some (.int .i64 v)) ∧ w.cell? ⟨(b.add (k * 6)).block, (b.add (k * 6)).off + 4, none⟩ = some (.slice At t.len ct) ∧
        w.cell? ⟨(b.add (k * 6)).block, (b.add (k * 6)).off + 5, none⟩ = some (.slice Ae e.len ce)) ∧ ShpV w lo hi t At ct ∧ ShpV w lo hi e Ae ce := by
  obtain ⟨b, rfl, hb, hb', hR⟩ := h.2.2 (by omega)
  obtain ⟨op, x, y, n, t, e, hd⟩ := s.drop_lt k hk
  have hk' := hR.at_ s k b
  rw [hd, Nat.mul_comm] at hk'
  obtain ⟨⟨h0, h1, h2, h3⟩, ⟨At, ct, h4, h5, h6, h7⟩, ⟨Ae, ce, h8, h9, h10, h11⟩, _⟩ := hk'
  exact ⟨b, op, x, y, n, t, e, rfl, hb, hb', hd, At, ct, Ae, ce, ⟨h0, h1, h2, h3, h4, h8⟩, ⟨h5, h6, h7⟩, ⟨h9, h10, h11⟩⟩

set_option maxRecDepth 100000 in
set_option maxHeartbeats 4000000 in
theorem markStmtS_any (N lo hi : Nat) : ∀ (s : Sts) (A : Option Addr) (c : Nat) (k : Int) (w : World), s.size < N → s.size ≤ 2000000 → 0 ≤ k → k ≤ 100000000 - 4 * s.size → ShpV w lo hi s A c → SoftIn lo hi w →
    Calls Try.prog 46 #[.slice A s.len c, .int .i64 k] w fun E w' => E = .returned (.int .i64 (k + 4 * s.size)) ∧ MarkRel lo hi w w' := by
  induction N with
  | zero => intro s A c k w h; omega
  | succ N ih =>
    intro s A c k w hN hsz hk0 hk1 hR hS
    have hm := hR.2.1
    have hlc := hR.1
    unfold maxLen at hm
    go_enter Try.func46, Try.ntmps46
    go_wp2_with fail
    go_loopw [1, 5] (fun q i wr => ∃ (j : Nat) (z : Int), j ≤ s.len ∧ i = .int .i64 j ∧ q = .int .i64 z ∧ k ≤ z ∧ z + 4 * (s.drop j).size = k + 4 * s.size ∧ MarkRel lo hi w wr) (fun _ i _ => s.len - (intOf i).toNat)
    case atStart => exact ⟨0, k, Nat.zero_le _, rfl, rfl, by omega, by simp [Sts.drop], MarkRel.refl _ _ _⟩
    case round =>
      obtain ⟨j, z, hj, rfl, rfl, hkz, hz, hM⟩ := hrel
      by_cases hlt : j < s.len
      · obtain ⟨b, op, x, y, n, t, e, rfl, hbl, hbb, hdr, At, ct, Ae, ce, ⟨⟨v0, h0⟩, ⟨v1, h1⟩, ⟨v2, h2⟩, ⟨v3, h3⟩, h4, h5⟩, hRt, hRe⟩ := (hR.marked hM).elem hlt
        have hzz := RepV.drop_sizes hdr
        have hdz : (s.drop j).size = 1 + t.size + e.size + (s.drop (j + 1)).size := by rw [hdr]; rfl
        have hz2 : z + 4 + 4 * t.size + 4 * e.size + 4 * (s.drop (j + 1)).size = k + 4 * s.size := by omega
        have hbk : (b.add (j * 6)).block = b.block := block_add _ _
        have hlB : lo ≤ (b.add (j * 6)).block := by omega
        have hhB : (b.add (j * 6)).block < hi := by omega
        clear hbk
        have hx1 : ∀ (u : Value) (W : World), (W.setCell (b.add (j * 6)) u).cell? ⟨(b.add (j * 6)).block, (b.add (j * 6)).off + 1, none⟩ = W.cell? ⟨(b.add (j * 6)).block, (b.add (j * 6)).off + 1, none⟩ := fun u W => World.cell?_setCell_other _ _ _ _ (fun e => by have := congrArg Addr.off e; simp at this)
        have hx2 : ∀ (u : Value) (W : World), (W.setCell (b.add (j * 6)) u).cell? ⟨(b.add (j * 6)).block, (b.add (j * 6)).off + 2, none⟩ = W.cell? ⟨(b.add (j * 6)).block, (b.add (j * 6)).off + 2, none⟩ := fun u W => World.cell?_setCell_other _ _ _ _ (fun e => by have := congrArg Addr.off e; simp at this)
        have hx3 : ∀ (u : Value) (W : World), (W.setCell (b.add (j * 6)) u).cell? ⟨(b.add (j * 6)).block, (b.add (j * 6)).off + 3, none⟩ = W.cell? ⟨(b.add (j * 6)).block, (b.add (j * 6)).off + 3, none⟩ := fun u W => World.cell?_setCell_other _ _ _ _ (fun e => by have := congrArg Addr.off e; simp at this)
        have hx4 : ∀ (u : Value) (W : World), (W.setCell (b.add (j * 6)) u).cell? ⟨(b.add (j * 6)).block, (b.add (j * 6)).off + 4, none⟩ = W.cell? ⟨(b.add (j * 6)).block, (b.add (j * 6)).off + 4, none⟩ := fun u W => World.cell?_setCell_other _ _ _ _ (fun e => by have := congrArg Addr.off e; simp at this)
        have hx5 : ∀ (u : Value) (W : World), (W.setCell (b.add (j * 6)) u).cell? ⟨(b.add (j * 6)).block, (b.add (j * 6)).off + 5, none⟩ = W.cell? ⟨(b.add (j * 6)).block, (b.add (j * 6)).off + 5, none⟩ := fun u W => World.cell?_setCell_other _ _ _ _ (fun e => by have := congrArg Addr.off e; simp at this)
        have hSr := hM.softIn hS
        have hf0 : wr.frozen? (b.add (j * 6)) = false := hSr _ hlB hhB
        have hf1 : wr.frozen? ⟨(b.add (j * 6)).block, (b.add (j * 6)).off + 1, none⟩ = false := hSr _ hlB hhB
        have hf2 : wr.frozen? ⟨(b.add (j * 6)).block, (b.add (j * 6)).off + 2, none⟩ = false := hSr _ hlB hhB
        have hf3 : wr.frozen? ⟨(b.add (j * 6)).block, (b.add (j * 6)).off + 3, none⟩ = false := hSr _ hlB hhB
        have m1 := (MarkRel.refl lo hi wr).set z hlB hhB h0
        have g1 : (wr.setCell (b.add (j * 6)) (.int .i64 z)).cell? ⟨(b.add (j * 6)).block, (b.add (j * 6)).off + 1, none⟩ = some (.int .i64 v1) := (hx1 _ _).trans h1
        have m2 := MarkRel.set (p := ⟨(b.add (j * 6)).block, (b.add (j * 6)).off + 1, none⟩) m1 (z + 1) hlB hhB g1
        have g2 : ((wr.setCell (b.add (j * 6)) (.int .i64 z)).setCell ⟨(b.add (j * 6)).block, (b.add (j * 6)).off + 1, none⟩ (.int .i64 (z + 1))).cell? ⟨(b.add (j * 6)).block, (b.add (j * 6)).off + 2, none⟩ = some (.int .i64 v2) := (World.cell?_setCell_other _ _ _ _ (fun e => by have := congrArg Addr.off e; simp at this)).trans ((hx2 _ _).trans h2)
        have m3 := MarkRel.set (p := ⟨(b.add (j * 6)).block, (b.add (j * 6)).off + 2, none⟩) m2 (z + 1 + 1) hlB hhB g2
        have g3 : (((wr.setCell (b.add (j * 6)) (.int .i64 z)).setCell ⟨(b.add (j * 6)).block, (b.add (j * 6)).off + 1, none⟩ (.int .i64 (z + 1))).setCell ⟨(b.add (j * 6)).block, (b.add (j * 6)).off + 2, none⟩ (.int .i64 (z + 1 + 1))).cell? ⟨(b.add (j * 6)).block, (b.add (j * 6)).off + 3, none⟩ = some (.int .i64 v3) := (World.cell?_setCell_other _ _ _ _ (fun e => by have := congrArg Addr.off e; simp at this)).trans ((World.cell?_setCell_other _ _ _ _ (fun e => by have := congrArg Addr.off e; simp at this)).trans ((hx3 _ _).trans h3))
        have m4 := MarkRel.set (p := ⟨(b.add (j * 6)).block, (b.add (j * 6)).off + 3, none⟩) m3 (z + 1 + 1 + 1) hlB hhB g3
        have HRt := Lib.hid (hRt.marked m4)
        have HRe := Lib.hid hRe
        have HM4 := Lib.hid m4
        have HSr := Lib.hid (m4.softIn hSr)
        have HZ2 := Lib.hid hz2
        have hzt : z + 4 + 4 * t.size + 4 * e.size ≤ 100000000 := by omega
        have h5' := Lib.hid h5
        clear m1 m2 m3 m4 g1 g2 g3 hRt hRe hdz hz hdr hz2 h5
        go_wp2_with fail
        refine (ih t At ct (z + 1 + 1 + 1 + 1) _ (by omega) (by omega) (by omega) (by omega) HRt.out HSr.out).mono ?_
        rintro E w1 ⟨rfl, hM1⟩
        have HM1 := Lib.hid (HM4.out.trans hM1)
        have c5 : w1.cell? ⟨(b.add (j * 6)).block, (b.add (j * 6)).off + 5, none⟩ = some (.slice Ae e.len ce) := HM1.out.isSlice h5'.out
        clear hM1 HM4
        go_wp2_with fail
        refine (ih e Ae ce (z + 1 + 1 + 1 + 1 + 4 * t.size) _ (by omega) (by omega) (by omega) (by omega) (HRe.out.marked HM1.out) (HM1.out.softIn hSr)).mono ?_
        rintro E w2 ⟨rfl, hM2⟩
        have HM2 := Lib.hid (hM.trans (HM1.out.trans hM2))
        clear hM2
        go_wp2_with fail
        go_roundw
        case rel => exact ⟨j + 1, _, by omega, by go_num, rfl, by omega, by have := HZ2.out; omega, HM2.out⟩
        case measure => simp [intOf]; omega
      · have hj' : j = s.len := by omega
        subst hj'
        have hfin : Hid (z = k + 4 * s.size) := by
          unfold Hid
          rw [s.drop_len] at hz
          simpa [Sts.size] using hz
        clear hz
        go_wp2_with fail
        go_ret
        exact ⟨by rw [← hfin.out]; rfl, hM⟩

end Go.Proofs.Ytcpmodkplikmcaa
