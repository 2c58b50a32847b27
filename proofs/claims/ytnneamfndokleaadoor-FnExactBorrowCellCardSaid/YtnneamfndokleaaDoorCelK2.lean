/-
  What the laws write over rows of cells, and how they read it again.
-/
import Derived.Test.YtnneamfndokleaaDoorCelK
namespace Go.Proofs.YtnneamfndokleaaDoor
open Go.RowKit Go.Deep
set_option linter.unusedVariables false

theorem RowU.cells4 {w : World} {B g n cap : Nat} {A C : List (CellD × Value)} {p : CellD × Value} (h : RowU w B (.slice (some ⟨g, 0, none⟩) n cap) (A ++ p :: C)) (hn : (A ++ p :: C).length = n) :
    w.cell? ⟨g, A.length * 4, none⟩ = some (.int .i64 p.1.val) ∧ w.cell? ⟨g, A.length * 4 + 1, none⟩ = some (.bool p.1.alive) ∧ w.cell? ⟨g, A.length * 4 + 2, none⟩ = some (.int .i64 p.1.next) ∧ w.cell? ⟨g, A.length * 4 + 3, none⟩ = some p.2 ∧
      (∀ o, w.frozen? ⟨g, o, none⟩ = false) ∧ RowT w B p.2 p.1.tags ∧ p.2.ownBlock ≠ some g := by
  subst hn
  have hp : (A ++ p :: C)[A.length]? = some p := by simp
  have hl : A.length * 4 + 3 < (A ++ p :: C).length * 4 := by simp; omega
  have hc : ∀ i, i < 4 → w.cell? ⟨g, A.length * 4 + i, none⟩ = (crow p)[i]? := fun i hi => (h.own.cellAt (A.length * 4 + i) (by omega)).trans (flat_get crow_length _ A.length i p hp hi)
  exact ⟨hc 0 (by omega), hc 1 (by omega), hc 2 (by omega), hc 3 (by omega), fun o => h.own.frozenAt o, h.tags A.length p hp, h.notTag rfl A.length p hp⟩

theorem Span.of_oneV {v : Value} {w w' : World} {lo hi : Nat} (h : OneV v w w') (hv : ∀ g, v.ownBlock = some g → lo ≤ g ∧ g < hi) : Span lo hi w w' :=
  ⟨h.os, h.tape, h.output, Nat.le_of_eq h.size.symm, fun k hk hd => h.block k fun e => by have := hv k e; omega⟩

theorem OneV.cell {v : Value} {w w' : World} (h : OneV v w w') (p : Addr) (hp : v.ownBlock ≠ some p.block) : w'.cell? p = w.cell? p := World.cell?_of_block (h.block _ hp)

set_option maxRecDepth 100000 in
set_option maxHeartbeats 4000000 in
theorem markCellS_row (rs : List (CellD × Value)) (B g n cap : Nat) (k : Int) (w : World) (h : RowU w B (.slice (some ⟨g, 0, none⟩) n cap) rs) (hn : rs.length = n) (hsz : rs.length + tagSum (rs.map Prod.fst) ≤ 10000000) (hk : 0 ≤ k) (hk2 : k ≤ 10000) (hi : Nat) (hin : InU hi (.slice (some ⟨g, 0, none⟩) n cap) rs) :
    Calls Tryd.prog 14 #[.slice (some ⟨g, 0, none⟩) n cap, .int .i64 k] w fun E w' => E = .returned (.int .i64 (endC k (rs.map Prod.fst))) ∧ RowU w' B (.slice (some ⟨g, 0, none⟩) n cap) (mkR k rs) ∧ Span B hi w w' ∧ w'.heap.size = w.heap.size := by
  obtain ⟨hnc, hcm, hown⟩ : n ≤ cap ∧ cap ≤ maxLen ∧ (0 < rs.length → ∃ g', some (⟨g, 0, none⟩ : Addr) = some ⟨g', 0, none⟩ ∧ B ≤ g' ∧ g' < w.heap.size) := by
    obtain ⟨A0, c0, e0, hnc, hcm, hown⟩ := own_form h.own
    injection e0 with e00 e1 e2
    subst e2 e00
    exact ⟨by omega, hcm, hown⟩
  have HIN := Lib.hid hin
  clear hin
  have HBg : Hid (n = 0 ∨ (B ≤ g ∧ g < hi)) := by
    rcases Nat.eq_zero_or_pos n with e | e
    · exact .inl e
    · obtain ⟨g', eg, h1, h2⟩ := hown (by omega)
      injection eg with eg
      injection eg with eg
      subst eg
      exact .inr ⟨h1, HIN.out.1 g rfl⟩
  clear hown
  unfold maxLen at hcm
  have HN := Lib.hid hn
  have H := Lib.hid h
  have HZ := Lib.hid hsz
  obtain ⟨S, hS⟩ : ∃ S, S = w.heap.size := ⟨_, rfl⟩
  have HS := Lib.hid hS
  have HB2 := HBg
  clear hn h hsz hS HBg
  go_enter Tryd.func14, Tryd.ntmps14
  go_wp2_with fail
  go_loopw [1, 5] (fun q i wr => ∃ (j : Nat) (z : Int), j ≤ n ∧ i = .int .i64 j ∧ q = .int .i64 z ∧ Hid (z = endC k ((rs.take j).map Prod.fst)) ∧ Hid (Span B hi w wr ∧ wr.heap.size = S) ∧ Hid (RowU wr B (.slice (some ⟨g, 0, none⟩) n cap) (mkR k (rs.take j) ++ rs.drop j))) (fun _ i _ => n - (intOf i).toNat)
  case atStart => exact ⟨0, k, Nat.zero_le _, rfl, rfl, rfl, ⟨Span.refl _ _ _, HS.out.symm⟩, by simpa [mkR, mkC] using H⟩
  case round =>
    clear H
    obtain ⟨j, z, hj, rfl, rfl, hz, HSp, HR⟩ := hrel
    by_cases hlt : j < n
    · have hjt : j < rs.length := by rw [HN.out]; exact hlt
      obtain ⟨p, hp⟩ : ∃ p, rs[j]? = some p := ⟨_, List.getElem?_eq_getElem hjt⟩
      have hR := HR.out
      rw [List.drop_eq_getElem_cons hjt, ← Option.some.inj (hp.symm.trans (List.getElem?_eq_getElem hjt))] at hR
      obtain ⟨Y, hY⟩ : ∃ Y, Y = mkR k (rs.take j) := ⟨_, rfl⟩
      have hYl : Y.length = j := by rw [hY, mkR_length, List.length_take]; omega
      obtain ⟨C, hC⟩ : ∃ C, C = rs.drop (j + 1) := ⟨_, rfl⟩
      rw [← hY, ← hC] at hR
      have hlen : (Y ++ p :: C).length = n := by
        have := HN.out
        simp [hYl, hC]
        omega
      have hzb : k ≤ z ∧ z + 3 + 2 * p.1.tags.length ≤ 100000000 := by
        have h1 := endC_eq ((rs.take (j + 1)).map Prod.fst) k
        have h2 := endC_eq ((rs.take j).map Prod.fst) k
        have h3 : tagSum ((rs.take (j + 1)).map Prod.fst) ≤ tagSum (rs.map Prod.fst) := by
          rw [List.map_take]
          exact tagSum_take_le _ _
        have h4 : tagSum ((rs.take (j + 1)).map Prod.fst) = tagSum ((rs.take j).map Prod.fst) + p.1.tags.length := by
          rw [take_snoc hp, List.map_append]
          exact tagSum_snoc p.1 _
        have h5 : ((rs.take j).map Prod.fst).length ≤ rs.length := by simp; omega
        have h6 := HZ.out
        rw [hz.out, h2]
        omega
      obtain ⟨hz0, hz1⟩ := hzb
      obtain ⟨a0, a1, a2, a3, fz, hT, hpg⟩ := hR.cells4 hlen
      rw [hYl] at a0 a1 a2 a3
      have f0 := fz (j * 4)
      have f1 := fz (j * 4 + 1)
      have f2 := fz (j * 4 + 2)
      obtain ⟨u1, o1⟩ := hR.put hlen ⟨z, p.1.alive, p.1.next, p.1.tags⟩ 0 (.int .i64 z) (by omega) rfl rfl
      have hlen1 : (Y ++ ((⟨z, p.1.alive, p.1.next, p.1.tags⟩ : CellD), p.2) :: C).length = n := by rw [← hlen]; simp
      obtain ⟨u2, o2⟩ := u1.put hlen1 ⟨z, b3 (z + 1), p.1.next, p.1.tags⟩ 1 (.bool (b3 (z + 1))) (by omega) rfl rfl
      have hlen2 : (Y ++ ((⟨z, b3 (z + 1), p.1.next, p.1.tags⟩ : CellD), p.2) :: C).length = n := by rw [← hlen]; simp
      obtain ⟨u3, o3⟩ := u2.put hlen2 ⟨z, b3 (z + 1), z + 2, p.1.tags⟩ 2 (.int .i64 (z + 2)) (by omega) rfl rfl
      have hlen3 : (Y ++ ((⟨z, b3 (z + 1), z + 2, p.1.tags⟩ : CellD), p.2) :: C).length = n := by rw [← hlen]; simp
      rw [hYl, Nat.add_zero] at u1 u2 u3 o1 o2 o3
      have HO : Hid (One g wr (((wr.setCell ⟨g, j * 4, none⟩ (.int .i64 z)).setCell ⟨g, j * 4 + 1, none⟩ (.bool (b3 (z + 1)))).setCell ⟨g, j * 4 + 2, none⟩ (.int .i64 (z + 2)))) := (((One.refl g wr).set _ _).set _ _).set _ _
      have HU := Lib.hid u3
      obtain ⟨b0, b1, b2, b3', fz3, hT3, hpg3⟩ := u3.cells4 hlen3
      rw [hYl] at b0 b1 b2 b3'
      have hz3 : Hid (z + 1 + 1 + 1 + 2 * (p.1.tags.length : Int) = endC k ((rs.take (j + 1)).map Prod.fst)) := by
        show z + 1 + 1 + 1 + 2 * (p.1.tags.length : Int) = endC k ((rs.take (j + 1)).map Prod.fst)
        rw [take_snoc hp, List.map_append]
        show _ = endC k ((rs.take j).map Prod.fst ++ [p.1])
        rw [endC_snoc, ← hz.out]
        omega
      have hM := markTagS_any p.1.tags B p.2 (z + 1 + 1 + 1) (((wr.setCell ⟨g, j * 4, none⟩ (.int .i64 z)).setCell ⟨g, j * 4 + 1, none⟩ (.bool (b3 (z + 1)))).setCell ⟨g, j * 4 + 2, none⟩ (.int .i64 (z + 2))) hT3 (by omega) (by omega) (by omega)
      have hzz : Hid (z + 1 + 1 = z + 2) := by show z + 1 + 1 = z + 2; omega
      have HTl := Lib.hid (own_form hT3)
      obtain ⟨At, ct, hpv, -, -, -⟩ := HTl.out
      have HPV := Lib.hid hpv
      have e2' : (Value.int IntKind.i64 (z + 2)) = .int .i64 (z + 1 + 1) := by rw [hzz.out]
      rw [e2'] at hM HO HU b3'
      have HM := Lib.hid hM
      have HYC := Lib.hid (And.intro hY hC)
      have HYl := Lib.hid hYl
      have HL3 := Lib.hid hlen3
      have HP := Lib.hid hp
      rw [hpv] at b3'
      have HB3 := Lib.hid b3'
      unfold b3 at HM HO HU HB3
      replace b3' := HB3.out
      have HPG := Lib.hid hpg3
      clear hR u1 u2 u3 o1 o2 o3 hlen hlen1 hlen2 hlen3 hYl hY hC hp hT hT3 hpg hpg3 hpv e2' hM fz fz3 b0 b1 b2 HR hjt
      have hne0 : n ≠ 0 := by omega
      have hgS : B ≤ g ∧ g < hi := by
        rcases HB2.out with e | e
        · exact absurd e hne0
        · exact e
      have HGS := Lib.hid hgS
      clear hne0 hgS
      go_wp2_with fail
      rw [← HPV.out]
      refine HM.out.mono ?_
      rintro E w' ⟨rfl, hRt, hOv⟩
      have hU2 := (HU.out.retag hOv (mkT (z + 1 + 1 + 1) p.1.tags.length) hRt)
      have HU2 : Hid (RowU w' B (.slice (some ⟨g, 0, none⟩) n cap) (mkR k (rs.take (j + 1)) ++ rs.drop (j + 1))) := by
        show RowU w' B (.slice (some ⟨g, 0, none⟩) n cap) (mkR k (rs.take (j + 1)) ++ rs.drop (j + 1))
        rw [take_snoc HP.out, mkR_snoc, ← HYC.out.1, ← HYC.out.2, List.append_assoc]
        have e3 : z + 1 + 1 + 1 = z + 3 := by omega
        rw [e3] at hU2
        have hm : mk1 (endC k ((rs.take j).map Prod.fst)) p.1 = ⟨z, (z + 1) % 3 == 0, z + 2, mkT (z + 3) p.1.tags.length⟩ := by
          rw [← hz.out]
          rfl
        rw [hm]
        exact hU2
      have HSp2 : Hid (Span B hi w w' ∧ w'.heap.size = S) := by
        obtain ⟨hs1, hs2⟩ := HSp.out
        have ht := (HU.out.cells4 HL3.out).2.2.2.2.2.1
        have hlt2 := World.ownsRow.lt ht
        refine ⟨(hs1.trans (HO.out.span HGS.out.1 HGS.out.2)).trans (Span.of_oneV hOv fun g' hg' => ?_), hOv.size.trans (HO.out.size.trans hs2)⟩
        exact ⟨(hlt2 g' hg').1, HIN.out.2 j p g' HP.out hg'⟩
      clear hU2 hRt hOv
      rw [HPV.out]
      go_wp2_with fail
      go_roundw
      case rel => exact ⟨j + 1, _, by omega, by go_num, rfl, hz3, HSp2, HU2⟩
      case measure => simp [intOf]; omega
    · have hjn : j = n := by omega
      subst hjn
      have hzz : Hid (z = endC k (rs.map Prod.fst)) := by
        show z = endC k (rs.map Prod.fst)
        have := hz.out
        rwa [← HN.out, List.take_length] at this
      go_wp2_with fail
      go_ret
      refine ⟨by rw [← hzz.out]; rfl, ?_, ?_, ?_⟩
      · have := HR.out
        rwa [← HN.out, List.take_length, List.drop_length, List.append_nil, HN.out] at this
      · exact HSp.out.1
      · rw [← HS.out]; exact HSp.out.2

theorem markCellS_nil (A : Option Addr) (c : Nat) (k : Int) (w : World) : Calls Tryd.prog 14 #[.slice A 0 c, .int .i64 k] w fun E w' => E = .returned (.int .i64 k) ∧ w = w' := by
  go_enter Tryd.func14, Tryd.ntmps14
  go_wp2_with fail
  go_loop [1, 5] (fun q i => q = .int .i64 k ∧ i = .int .i64 0) (fun _ _ => 0)
  case atStart => exact ⟨rfl, rfl⟩
  case round =>
    obtain ⟨rfl, rfl⟩ := hrel
    go_wp2_with fail
    go_ret
    exact ⟨rfl, rfl⟩

/-- What is written over a memory. -/
theorem markCellS_any (cs : List CellD) (lo hi : Nat) (v : Value) (k : Int) (w : World) (h : RowCI w lo hi v cs) (hsz : cs.length + tagSum cs ≤ 10000000) (hk : 0 ≤ k) (hk2 : k ≤ 10000) :
    Calls Tryd.prog 14 #[v, .int .i64 k] w fun E w' => E = .returned (.int .i64 (endC k cs)) ∧ RowCI w' lo hi v (mkC k cs) ∧ Span lo hi w w' ∧ w'.heap.size = w.heap.size := by
  obtain ⟨rs, rfl, hR, hin⟩ := h
  rw [List.length_map] at hsz
  rcases hR.own.2 with ⟨hv, h0⟩ | ⟨g, cap, cur, hv, _⟩
  · subst hv
    refine (markCellS_nil none 0 k w).mono ?_
    rintro E w' ⟨rfl, rfl⟩
    obtain rfl := List.eq_nil_of_length_eq_zero h0
    exact ⟨rfl, ⟨[], rfl, hR, hin⟩, Span.refl _ _ _, rfl⟩
  · subst hv
    refine (markCellS_row rs lo g rs.length cap k w hR rfl hsz hk hk2 hi hin).mono ?_
    rintro E w' ⟨rfl, hR', hS, hz⟩
    refine ⟨rfl, ⟨_, mkR_fst k rs, hR', hin.1, fun j p a hp ha => ?_⟩, hS, hz⟩
    have hj : j < rs.length := by
      have := (List.getElem?_eq_some_iff.1 hp).1
      rwa [mkR_length] at this
    refine hin.2 j rs[j] a (List.getElem?_eq_getElem hj) ?_
    have : p.2 = rs[j].2 := by
      unfold mkR at hp
      rw [List.getElem?_zip_eq_some] at hp
      have h2 := hp.2
      rw [List.getElem?_map, List.getElem?_eq_getElem hj] at h2
      simp at h2
      exact h2.symm
    rw [← this]
    exact ha

set_option maxRecDepth 100000 in
set_option maxHeartbeats 4000000 in
theorem heldCellS_any (cs : List CellD) (A : Option Addr) (n c : Nat) (k : Int) (w : World) (h : RdC w (.slice A n c) (mkC k cs)) (hsz : cs.length + tagSum cs ≤ 10000000) (hk : 0 ≤ k) (hk2 : k ≤ 10000) :
    Calls Tryd.prog 15 #[.slice A n c, .int .i64 k] w fun E w' => E = .returned (.int .i64 (endC k cs)) ∧ w = w' := by
  obtain ⟨hn, hc1, hc2⟩ := h.len
  rw [mkC_length] at hn
  unfold maxLen at hc2
  have HN := Lib.hid hn
  have H := Lib.hid h
  have HZ := Lib.hid hsz
  clear hn h hsz
  go_enter Tryd.func15, Tryd.ntmps15
  go_wp2_with fail
  go_loop [1, 5] (fun q i => ∃ (j : Nat) (z : Int), j ≤ n ∧ i = .int .i64 j ∧ q = .int .i64 z ∧ Hid (z = endC k (cs.take j))) (fun _ i => n - (intOf i).toNat)
  case atStart => exact ⟨0, k, Nat.zero_le _, rfl, rfl, rfl⟩
  case round =>
    obtain ⟨j, z, hj, rfl, rfl, hz⟩ := hrel
    by_cases hlt : j < n
    · have hjt : j < cs.length := by rw [← HN.out]; exact hlt
      obtain ⟨p, hp⟩ : ∃ p, cs[j]? = some p := ⟨_, List.getElem?_eq_getElem hjt⟩
      obtain ⟨b, val, al, nx, ts, Au, cu, rfl, hbb, hd, ⟨a0, a1, a2, a3⟩, hT, t1, t2⟩ := H.out.elem (k := j) (by rw [mkC_length]; exact hjt)
      have hzb : k ≤ z ∧ z + 3 + 2 * p.tags.length ≤ 100000000 := by
        have h1 := endC_eq (cs.take (j + 1)) k
        have h2 := endC_eq (cs.take j) k
        have h3 := tagSum_take_le cs (j + 1)
        have h4 : tagSum (cs.take (j + 1)) = tagSum (cs.take j) + p.tags.length := by
          rw [take_snoc hp]
          exact tagSum_snoc p _
        have h5 : (cs.take j).length ≤ cs.length := by simp; omega
        have h6 := HZ.out
        rw [hz.out, h2]
        omega
      obtain ⟨hz0, hz1⟩ := hzb
      have hz3 : Hid (z + 1 + 1 + 1 + 2 * (p.tags.length : Int) = endC k (cs.take (j + 1))) := by
        show z + 1 + 1 + 1 + 2 * (p.tags.length : Int) = endC k (cs.take (j + 1))
        rw [take_snoc hp, endC_snoc, ← hz.out]
        omega
      rw [mkC_get cs k j p hp, ← hz.out] at hd
      injection hd with hd
      unfold mk1 at hd
      injection hd with e1 e2 e3 e4
      subst e1 e2 e3 e4
      have hzz : z + 2 = z + 1 + 1 := by omega
      have hz33 : z + 3 = z + 1 + 1 + 1 := by omega
      rw [hzz] at a2
      rw [hz33, mkT_length] at hT
      rw [mkT_length] at a3
      have hM := heldTagS_any Au p.tags.length cu (z + 1 + 1 + 1) w hT (by omega) (by omega) (by omega)
      have hneg : ¬ z + 1 + 1 + 1 + 2 * (p.tags.length : Int) < 0 := by omega
      unfold b3 at a1
      clear hzz hz33 hT t1 t2 hjt hp
      go_wp2_with fail
      refine hM.mono ?_
      rintro E w' ⟨rfl, rfl⟩
      clear hM
      go_wp2_with fail
      go_round
      case rel => exact ⟨j + 1, _, by omega, by go_num, rfl, hz3⟩
      case measure => simp [intOf]; omega
    · have hjn : j = n := by omega
      subst hjn
      have hzz : Hid (z = endC k cs) := by
        show z = endC k cs
        have := hz.out
        rwa [HN.out, List.take_length] at this
      go_wp2_with fail
      go_ret
      exact ⟨by rw [← hzz.out]; rfl, rfl⟩

end Go.Proofs.YtnneamfndokleaaDoor
