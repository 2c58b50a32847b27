/-
  The cells that are alive, by the model and by the program.
-/
import Derived.Test.YtboadhlhpnbpiaaCelW
import Derived.Test.YtboadhlhpnbpiaaCelI
import Derived.Test.YtboadhlhpnbpiaaIntR
namespace Go.Proofs.Ytboadhlhpnbpiaa
open Go.RowKit Go.Deep
set_option linter.unusedVariables false

theorem Try.infoInt : (Try.prog.info? 3).map (fun i => (i.zero, i.size, i.bytes)) = some (some (.int .i64 0), 1, 8) := by kernel_rfl

theorem info_parts {P : Program} {t : TypeId} {z : Value} {s b : Nat} (h : (P.info? t).map (fun i => (i.zero, i.size, i.bytes)) = some (some z, s, b)) : ∃ i, P.info? t = some i ∧ i.zero = some z ∧ i.size = s ∧ i.bytes = b := by
  obtain ⟨i, hi, h2⟩ := Option.map_eq_some_iff.1 h
  simp only [Prod.mk.injEq] at h2
  exact ⟨i, hi, h2.1, h2.2.1, h2.2.2⟩

theorem news1 {w : World} {H : Nat} {cs : Array Value} {t : TypeId} {l : List Value} (hH : w.heap.size = H) (hl : l.toArray = cs) : ∀ j u, l[j]? = some u → (w.alloc (.cells cs t)).cell? ((⟨H, 0, none⟩ : Addr).add j) = some u := by
  subst hH hl
  intro j u hj
  rw [add_block, Nat.zero_add, cell_of_block (heap_alloc_new _ _)]
  simpa using hj

theorem aliveFrom_len : ∀ (cs : List CellD) (k : Nat), (aliveFrom k cs).length ≤ cs.length
  | [], k => by simp [aliveFrom]
  | c :: cs, k => by
    have := aliveFrom_len cs (k + 1)
    simp only [aliveFrom]
    split <;> simp <;> omega

theorem alive_yes {cs : List CellD} {k : Nat} {c : CellD} (h : cs[k]? = some c) (ha : c.alive = true) : aliveFrom 0 (cs.take (k + 1)) = aliveFrom 0 (cs.take k) ++ [(k : Int)] := by
  have hk := (List.getElem?_eq_some_iff.1 h).1
  rw [take_snoc h, aliveFrom_snoc, if_pos ha]
  have : (cs.take k).length = k := by simp; omega
  rw [this, Nat.zero_add]

theorem alive_no {cs : List CellD} {k : Nat} {c : CellD} (h : cs[k]? = some c) (ha : c.alive = false) : aliveFrom 0 (cs.take (k + 1)) = aliveFrom 0 (cs.take k) := by
  rw [take_snoc h, aliveFrom_snoc, if_neg (by simp [ha]), List.append_nil]

set_option maxRecDepth 100000 in
set_option maxHeartbeats 4000000 in
theorem specAliveCells_any (cs : List CellD) (A : Option Addr) (q c : Nat) (w : World) (h : RdC w (.slice A q c) cs) :
    Calls Try.prog 10 #[.slice A q c] w fun E w' => ∃ v, E = .returned v ∧ RowI w' w.heap.size v (aliveA cs) ∧ Below w.heap.size w w' := by
  obtain ⟨hq, hc1, hc2⟩ := h.len
  unfold maxLen at hc2
  have HN := Lib.hid hq
  have H := Lib.hid h
  have hb0 := (Below.refl w.heap.size w).alloc (Nat.le_refl _) (.cells #[] 3)
  have hrow0 : RowI (w.alloc (.cells #[] 3)) w.heap.size (.slice (some ⟨w.heap.size, 0, none⟩) 0 0) [] := World.ownsRow_lit (base := w.heap.size) (e := 3) (size := 1) w #[] 0 (Nat.le_refl _) (by simp [maxLen]) rfl
  have HR0 := Lib.hid hrow0
  obtain ⟨i0, hi, hzz0, hzz1, hzz2⟩ := info_parts Try.infoInt
  have HI := Lib.hid hi
  have HZ0 := Lib.hid hzz0
  have HZ1 := Lib.hid hzz1
  have HZ2 := Lib.hid hzz2
  clear hi hzz0 hzz1 hzz2 hrow0 hq h
  go_enter Try.func10, Try.ntmps10
  go_wp2_with fail
  go_loopw [3, 4] (fun o i wr => ∃ k : Nat, i = .int .i64 k ∧ k ≤ q ∧ Hid (RowI wr w.heap.size o (aliveFrom 0 (cs.take k))) ∧ Below w.heap.size w wr ∧ Hid (memB cs = false → k = 0)) (fun _ i _ => q - (intOf i).toNat)
  case atStart => exact ⟨0, rfl, Nat.zero_le _, HR0, hb0, fun _ => rfl⟩
  case round =>
    clear HR0 hb0
    obtain ⟨k, rfl, hk, hrow, hb, hm⟩ := hrel
    have hbz := hb.size
    by_cases hlt : k < q
    · have hcall := specCellsValid_any cs A q c _ (H.out.below hb)
      by_cases hB' : memB cs = true
      case neg =>
        have hB : memB cs = false := by simpa using hB'
        clear hB'
        rw [hB] at hcall
        have hk0 := hm.out hB
        have HA : Hid (aliveFrom 0 (cs.take k) = aliveA cs) := by
          show aliveFrom 0 (cs.take k) = aliveA cs
          rw [hk0]
          unfold aliveA
          rw [hB]
          simp [aliveFrom]
        clear hk0 hB hm
        go_wp2_with fail
        refine hcall.mono ?_
        rintro E w1 ⟨rfl, hb1⟩
        have HRow := Lib.hid (hrow.out.below hb1)
        have hbb := hb.trans (hb1.mono hbz)
        clear hcall hb1
        go_wp2_with fail
        go_ret
        exact ⟨_, rfl, by rw [← HA.out]; exact HRow.out, hbb⟩
      case pos =>
        have hB := hB'
        have h200 : q ≤ 200 := by have := (memB_out hB).1; have := HN.out; omega
        clear hB'
        rw [hB] at hcall
        have hm2 : Hid (memB cs = false → k + 1 = 0) := fun h => by rw [h] at hB; cases hB
        clear hB hm
        go_wp2_with fail
        refine hcall.mono ?_
        rintro E w1 ⟨rfl, hb1⟩
        have HRow := Lib.hid (hrow.out.below hb1)
        have hbb := hb.trans (hb1.mono hbz)
        have hbbz := hbb.size
        clear hcall hb1 hrow hb hbz
        obtain ⟨b, val, al, nx, ts, Au, cu, rfl, hbk, hd, ⟨a0, a1, a2, a3⟩, hT, t1, t2⟩ := (H.out.below hbb).elem (k := k) (by rw [← HN.out]; exact hlt)
        have hln := aliveFrom_len (cs.take k) 0
        have hln2 : (cs.take k).length ≤ k := List.length_take_le _ _
        cases al with
        | false =>
          have e := Lib.hid (alive_no hd rfl)
          clear hT hd
          go_wp2_with fail
          refine ⟨⟨k + 1, by simp, by omega, by rw [e.out]; exact HRow, hbb, hm2⟩, ?_⟩
          simp only [intOf]
          omega
        | true =>
          have e := Lib.hid (alive_yes hd rfl)
          clear hT hd
          go_wp2_with (at_builtin; refine wpList_append_own _ rfl _ _ 29 rfl w.heap.size 3 i0 (.int .i64 0) 1 8 Try.underlying29 HI.out HZ0.out HZ1.out HZ2.out rfl (by decide) _ _ _ rfl ((RowI.own HRow.out).alloc _) ⟨_, 0, none⟩ 1 1 [.int .i64 (k : Int)] rfl rfl ?ra1 ?ra2 ?ra3 ?ra4 ?ra5 ?_)
          try (case ra1 => exact news1 (by simp) rfl)
          try (case ra2 => intro u hu; simp only [List.mem_cons, List.not_mem_nil, or_false] at hu; subst hu; rfl)
          try (case ra3 => unfold maxLen; omega)
          try (case ra4 => omega)
          try (case ra5 => simp; omega)
          intro v' w' hown' hgr hne
          have hb' := (hbb.alloc hbbz (.cells #[Value.int .i64 (k : Int)] 3)).grown hgr (by simp; omega) (fun g hg' => ((RowI.own HRow.out).lt g hg').1)
          have HR' : Hid (RowI w' w.heap.size v' (aliveFrom 0 (cs.take k) ++ [(k : Int)])) := RowI.snoc hown'
          clear hown' hgr hne
          go_wp2_with fail
          refine ⟨⟨k + 1, by simp, by omega, by rw [e.out]; exact HR', hb', hm2⟩, ?_⟩
          simp only [intOf]
          omega
    · have hke : k = q := by omega
      subst hke
      have HA : Hid (aliveFrom 0 (cs.take k) = aliveA cs) := by
        show aliveFrom 0 (cs.take k) = aliveA cs
        rw [HN.out, List.take_length]
        unfold aliveA
        cases hB : memB cs with
        | true => simp
        | false =>
          have := hm.out hB
          have hn := HN.out
          rw [List.eq_nil_of_length_eq_zero (by omega : cs.length = 0)]
          simp [aliveFrom]
      go_wp2_with fail
      go_ret
      exact ⟨_, rfl, by rw [← HA.out]; exact hrow.out, hb⟩

set_option maxRecDepth 100000 in
set_option maxHeartbeats 4000000 in
theorem implAliveCells_any (cs : List CellD) (A : Option Addr) (q c : Nat) (w : World) (h : RdC w (.slice A q c) cs) :
    Calls Try.prog 11 #[.slice A q c] w fun E w' => ∃ v, E = .returned v ∧ RowI w' w.heap.size v (aliveA cs) ∧ Below w.heap.size w w' := by
  obtain ⟨hq, hc1, hc2⟩ := h.len
  unfold maxLen at hc2
  have HN := Lib.hid hq
  have H := Lib.hid h
  obtain ⟨i0, hi, hzz0, hzz1, hzz2⟩ := info_parts Try.infoInt
  have HI := Lib.hid hi
  have HZ0 := Lib.hid hzz0
  have HZ1 := Lib.hid hzz1
  have HZ2 := Lib.hid hzz2
  have hcall := implCellsValid_any cs A q c w h
  clear hi hzz0 hzz1 hzz2 hq h
  cases hB : memB cs with
  | false =>
    have HA : Hid (aliveA cs = []) := by
      show aliveA cs = []
      unfold aliveA
      rw [hB]
      simp
    rw [hB] at hcall
    clear hB
    go_enter Try.func11, Try.ntmps11
    go_wp2_with fail
    refine hcall.mono ?_
    rintro E w1 ⟨rfl, hb1⟩
    clear hcall
    go_wp2_with fail
    go_ret
    exact ⟨_, rfl, by rw [HA.out]; exact World.ownsRow_nil _ _ _ _, hb1⟩
  | true =>
    have HA : Hid (aliveA cs = aliveFrom 0 cs) := by
      show aliveA cs = aliveFrom 0 cs
      unfold aliveA
      rw [hB]
      simp
    rw [hB] at hcall
    have h200 : q ≤ 200 := by have := (memB_out hB).1; have := HN.out; omega
    clear hB
    go_enter Try.func11, Try.ntmps11
    go_wp2_with fail
    refine hcall.mono ?_
    rintro E w1 ⟨rfl, hb1⟩
    have HR0 := Lib.hid (show RowI w1 w.heap.size (.slice none 0 0) [] from World.ownsRow_nil _ _ _ _)
    clear hcall
    go_wp2_with fail
    go_loopw [3, 11] (fun o i wr => ∃ k : Nat, i = .int .i64 k ∧ k ≤ q ∧ Hid (RowI wr w.heap.size o (aliveFrom 0 (cs.take k))) ∧ Below w.heap.size w wr) (fun _ i _ => q - (intOf i).toNat)
    case atStart => exact ⟨0, rfl, Nat.zero_le _, HR0, hb1⟩
    case round =>
      clear HR0 hb1
      obtain ⟨k, rfl, hk, hrow, hb⟩ := hrel
      have hbz := hb.size
      by_cases hlt : k < q
      · obtain ⟨b, val, al, nx, ts, Au, cu, rfl, hbk, hd, ⟨a0, a1, a2, a3⟩, hT, t1, t2⟩ := (H.out.below hb).elem (k := k) (by rw [← HN.out]; exact hlt)
        have hln := aliveFrom_len (cs.take k) 0
        have hln2 : (cs.take k).length ≤ k := List.length_take_le _ _
        have hbo : ∀ o, Below w.heap.size w (wr.alloc o) := fun o => hb.alloc hbz o
        have HBO := Lib.hid hbo
        have HRo : Hid (∀ o, RowI (wr.alloc o) w.heap.size _ (aliveFrom 0 (cs.take k))) := fun o => (RowI.own hrow.out).alloc o
        clear hbo
        cases al with
        | false =>
          have e := Lib.hid (alive_no hd rfl)
          clear hT hd
          go_wp2_with fail
          refine ⟨⟨k + 1, by simp, by omega, by rw [e.out]; exact HRo.out _, HBO.out _⟩, ?_⟩
          simp only [intOf]
          omega
        | true =>
          have e := Lib.hid (alive_yes hd rfl)
          clear hT hd
          go_wp2_with (at_builtin; refine wpList_append_own _ rfl _ _ 29 rfl w.heap.size 3 i0 (.int .i64 0) 1 8 Try.underlying29 HI.out HZ0.out HZ1.out HZ2.out rfl (by decide) _ _ _ rfl ((RowI.own (HRo.out _)).alloc _) ⟨_, 0, none⟩ 1 1 [.int .i64 (k : Int)] rfl rfl ?ra1 ?ra2 ?ra3 ?ra4 ?ra5 ?_)
          try (case ra1 => exact news1 (by simp) rfl)
          try (case ra2 => intro u hu; simp only [List.mem_cons, List.not_mem_nil, or_false] at hu; subst hu; rfl)
          try (case ra3 => unfold maxLen; omega)
          try (case ra4 => omega)
          try (case ra5 => simp; omega)
          intro v' w' hown' hgr hne
          have hb' := ((HBO.out _).alloc (by simp; omega) (.cells #[Value.int .i64 (k : Int)] 3)).grown hgr (by simp; omega) (fun g hg' => ((RowI.own hrow.out).lt g hg').1)
          have HR' : Hid (RowI w' w.heap.size v' (aliveFrom 0 (cs.take k) ++ [(k : Int)])) := RowI.snoc hown'
          clear hown' hgr hne
          go_wp2_with fail
          refine ⟨⟨k + 1, by simp, by omega, by rw [e.out]; exact HR', hb'⟩, ?_⟩
          simp only [intOf]
          omega
      · have hke : k = q := by omega
        subst hke
        have HA2 : Hid (aliveFrom 0 (cs.take k) = aliveA cs) := by
          show aliveFrom 0 (cs.take k) = aliveA cs
          rw [HA.out, HN.out, List.take_length]
        go_wp2_with fail
        go_ret
        exact ⟨_, rfl, by rw [← HA2.out]; exact hrow.out, hb⟩

end Go.Proofs.Ytboadhlhpnbpiaa
