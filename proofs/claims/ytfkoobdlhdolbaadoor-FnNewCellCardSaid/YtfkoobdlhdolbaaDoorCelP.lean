/-
  Copies of memories, and the place of a pointer, by the model.
-/
import Derived.Test.YtfkoobdlhdolbaaDoorCelA
import Derived.Test.YtfkoobdlhdolbaaDoorCelW
namespace Go.Proofs.YtfkoobdlhdolbaaDoor
open Go.RowKit Go.Deep
set_option linter.unusedVariables false

set_option maxRecDepth 100000 in
set_option maxHeartbeats 4000000 in
theorem l6Copy_any (cs : List CellD) (A : Option Addr) (q c : Nat) (w : World) (h : RdC w (.slice A q c) cs) (hl : cs.length + tagSum cs ≤ 1048600) :
    Calls Tryd.prog 45 #[.slice A q c] w fun E w' => ∃ v, E = .returned v ∧ RowC w' w.heap.size v cs ∧ Below w.heap.size w w' := by
  obtain ⟨hq, hc1, hc2⟩ := h.len
  unfold maxLen at hc2
  have HN := Lib.hid hq
  have H := Lib.hid h
  have HL := Lib.hid hl
  have hql : q ≤ 1048600 := by omega
  obtain ⟨i0, hi, hzz0, hzz1, hzz2⟩ := info_parts Tryd.infoCell
  have HI := Lib.hid hi
  have HZ0 := Lib.hid hzz0
  have HZ1 := Lib.hid hzz1
  have HZ2 := Lib.hid hzz2
  have hb0 := (Below.refl w.heap.size w).alloc (Nat.le_refl _) (.cells #[] 33)
  have hrow0 : RowU (w.alloc (.cells #[] 33)) w.heap.size (.slice (some ⟨w.heap.size, 0, none⟩) 0 0) [] :=
    ⟨World.ownsRow_lit (base := w.heap.size) (e := 33) (size := 4) w #[] 0 (Nat.le_refl _) (by simp [maxLen]) rfl, fun j p hp => by simp at hp, fun i j p q a b hij hp => by simp at hp⟩
  have HR0 := Lib.hid hrow0
  clear hi hzz0 hzz1 hzz2 hq h hl hrow0
  go_enter Tryd.func45, Tryd.ntmps45
  go_wp2_with fail
  go_loopw [3, 4] (fun o i wr => ∃ k : Nat, i = .int .i64 k ∧ k ≤ q ∧ Hid (∃ rs, rs.map Prod.fst = cs.take k ∧ RowU wr w.heap.size o rs) ∧ Below w.heap.size w wr) (fun _ i _ => q - (intOf i).toNat)
  case atStart => exact ⟨0, rfl, Nat.zero_le _, ⟨[], rfl, HR0⟩, hb0⟩
  case round =>
    clear HR0 hb0
    obtain ⟨k, rfl, hk, HR, hb⟩ := hrel
    have hbz := hb.size
    by_cases hlt : k < q
    · obtain ⟨b, val, al, nx, ts, Au, cu, rfl, hbb, hd, ⟨a0, a1, a2, a3⟩, hT, t1, t2⟩ := (H.out.below hb).elem (k := k) (by rw [← HN.out]; exact hlt)
      have HD := Lib.hid hd
      have htl : ts.length ≤ 1048600 := by
        have h9 := tagSum_take_le cs (k + 1)
        rw [take_snoc hd, tagSum_snoc] at h9
        have := HL.out
        simp only at h9
        omega
      have HT := Lib.hid hT
      clear hd hT
      obtain ⟨rs, hrs, hU⟩ := HR.out
      have HU := Lib.hid hU
      have hrl : rs.length = k := by
        have h9 := congrArg List.length hrs
        have := HN.out
        simp at h9
        omega
      have HRS := Lib.hid hrs
      have HRL := Lib.hid hrl
      obtain ⟨Ao, co, hvo, -, -, -⟩ := own_form hU.own
      rw [hrl] at hvo
      subst hvo
      clear hU hrl hrs HR
      have hbx : ∀ o, Below w.heap.size w (wr.alloc o) := fun o => hb.alloc hbz o
      have HBX := Lib.hid hbx
      clear hbx
      go_wp2_with (at_builtin; refine wpList_append_tags rfl _ _ rfl rfl (wr.heap.size + 1) (.slice (some ⟨wr.heap.size + 1, 0, none⟩) 0 0) [] (.slice Au ts.length cu) ts rfl rfl ?rown ?rrd ?rl ?rB ?_)
      case rown => exact own_empty (by simp) (Nat.le_refl _)
      case rrd => exact (HT.out.below ((Below.refl _ _).alloc (Nat.le_refl _) _)).below ((Below.refl _ _).alloc (Nat.le_refl _) _)
      case rl => simp; omega
      case rB => simp
      intro v1 w1 hR1 hg1 hv1
      try rw [List.nil_append] at hR1
      obtain ⟨A1, c1, rfl, -, -, -⟩ := own_form hR1
      have hX := (hg1.block wr.heap.size (by simp; omega) (by simp [Value.ownBlock])).trans ((Below.heap_alloc _ _ _ (by simp)).trans (heap_alloc_new wr (.cells #[.int .i64 val, .bool al, .int .i64 nx, .slice Au ts.length cu] 33)))
      have hb1 : Below (wr.heap.size + 1) (wr.alloc (.cells #[.int .i64 val, .bool al, .int .i64 nx, .slice Au ts.length cu] 33)) w1 := ((Below.refl _ _).alloc (by simp) _).grown hg1 (by simp) (fun g hg => by simp [Value.ownBlock] at hg; omega)
      have hbw : Below wr.heap.size wr w1 := ((Below.refl wr.heap.size wr).alloc (Nat.le_refl _) _).trans (hb1.mono (by omega))
      have hz1 := hb1.size
      have hz2 : wr.heap.size + 1 ≤ w1.heap.size := by simp at hz1; omega
      have x0 : w1.cell? ⟨wr.heap.size, 0, none⟩ = some (.int .i64 val) := (cell_of_block hX 0).trans rfl
      have x1 : w1.cell? ⟨wr.heap.size, 1, none⟩ = some (.bool al) := (cell_of_block hX 1).trans rfl
      have x2 : w1.cell? ⟨wr.heap.size, 2, none⟩ = some (.int .i64 nx) := (cell_of_block hX 2).trans rfl
      have x3 : w1.cell? ⟨wr.heap.size, 3, none⟩ = some (.slice Au ts.length cu) := (cell_of_block hX 3).trans rfl
      have xf := frozen_of_block hX 3
      have HBW := Lib.hid hbw
      have hUw : Hid (RowU (w1.setCell ⟨wr.heap.size, 3, none⟩ (.slice A1 ts.length c1)) w.heap.size (.slice Ao k co) rs) := by
        have hU := HU.out
        have h8 := hU.below hbw
        refine ⟨own_keep h8.own fun g hg => heap_set fun e => ?_, fun j p hp => own_keep (h8.tags j p hp) fun g hg => heap_set fun e => ?_, h8.apart⟩
        · have := (hU.own.lt g hg).2
          simp at e
          omega
        · have := (World.ownsRow.lt (hU.tags j p hp) g hg).2
          simp at e
          omega
      have hR2 : Hid (RowT (w1.setCell ⟨wr.heap.size, 3, none⟩ (.slice A1 ts.length c1)) (wr.heap.size + 1) (.slice A1 ts.length c1) ts) := own_keep hR1 fun g hg => heap_set fun e => by
        have := (World.ownsRow.lt hR1 g hg).1
        simp at e
        omega
      have hbs : Below w.heap.size w (w1.setCell ⟨wr.heap.size, 3, none⟩ (.slice A1 ts.length c1)) := (hb.trans (hbw.mono hbz)).setCell hbz _
      clear hX hb1 hz1 hbw hR1 hg1 hv1 a0 a1 a2 a3
      have hq2 : k + 1 ≤ 2000000 := by omega
      go_wp2_with (at_builtin; refine wpList_append_own _ rfl _ _ 23 rfl w.heap.size 33 i0 (.agg #[.int .i64 0, .bool false, .int .i64 0, .slice none 0 0]) 4 48 Tryd.underlying23 HI.out HZ0.out HZ1.out HZ2.out rfl (by decide) _ _ _ rfl (hUw.out.own.alloc _) ⟨_, 0, none⟩ 1 1 [.int .i64 val, .bool al, .int .i64 nx, .slice A1 ts.length c1] rfl rfl ?ra1 ?ra2 ?ra3 ?ra4 ?ra5 ?_)
      try (case ra1 => exact news1 (by simp) rfl)
      try (case ra2 => intro u hu; simp only [List.mem_cons, List.not_mem_nil, or_false] at hu; rcases hu with rfl | rfl | rfl | rfl <;> rfl)
      try (case ra3 => unfold maxLen; have := HRL.out; omega)
      try (case ra4 => have := HRL.out; omega)
      try (case ra5 => simp; omega)
      intro v' w' hown' hgr hne
      have hzs : w.heap.size ≤ (w1.setCell ⟨wr.heap.size, 3, none⟩ (.slice A1 ts.length c1)).heap.size := hbs.size
      have hbf := (hbs.alloc hzs (.cells #[.int .i64 val, .bool al, .int .i64 nx, .slice A1 ts.length c1] 33)).grown hgr (by simp at hzs ⊢; omega) (fun g hg => (hUw.out.own.lt g hg).1)
      have hba : Below (w1.setCell ⟨wr.heap.size, 3, none⟩ (.slice A1 ts.length c1)).heap.size (w1.setCell ⟨wr.heap.size, 3, none⟩ (.slice A1 ts.length c1)) ((w1.setCell ⟨wr.heap.size, 3, none⟩ (.slice A1 ts.length c1)).alloc (.cells #[.int .i64 val, .bool al, .int .i64 nx, .slice A1 ts.length c1] 33)) := (Below.refl _ _).alloc (Nat.le_refl _) _
      have hfin := RowU.snoc (p := (⟨val, al, nx, ts⟩, .slice A1 ts.length c1)) (hUw.out.below hba) (own_mono (own_below hR2.out hba) (by omega)) (fun j r a hr ha e => by
        have e1 := (World.ownsRow.lt (HU.out.tags j r hr) a ha).2
        have e2 := (World.ownsRow.lt hR2.out a e).1
        omega) hgr hown'
      have HF : Hid (∃ rs, rs.map Prod.fst = cs.take (k + 1) ∧ RowU w' w.heap.size v' rs) := ⟨rs ++ [(⟨val, al, nx, ts⟩, .slice A1 ts.length c1)], by rw [take_snoc HD.out, List.map_append, HRS.out]; rfl, hfin⟩
      clear hfin hba hown' hgr hne hzs hbs
      go_wp2_with fail
      refine ⟨⟨k + 1, by simp, by omega, HF, hbf⟩, ?_⟩
      simp only [intOf]
      omega
    · have hke : k = q := by omega
      subst hke
      obtain ⟨rs, hrs, hU⟩ := HR.out
      have HC := Lib.hid (show RowC wr w.heap.size _ cs from ⟨rs, by rw [hrs, HN.out, List.take_length], hU⟩)
      clear hrs hU
      go_wp2_with fail
      go_ret
      exact ⟨_, rfl, HC.out, hb⟩

end Go.Proofs.YtfkoobdlhdolbaaDoor
