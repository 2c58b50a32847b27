/-
  LoansOf of the model.
  At every program, LoansOf answers as its model does, writes into nothing, and its answer is its own. Conditions: none.
-/
import Derived.Test.YtidjphifgemicaaGreatDoorZLoI
import Derived.Test.YtidjphifgemicaaGreatDoorZL2Xb
import Derived.Test.YtidjphifgemicaaGreatDoorZArgs
import Derived.Test.YtidjphifgemicaaGreatDoorZMarks
import Derived.Deep.RegionHeld3
import Derived.Test.YtidjphifgemicaaGreatDoorZTab
import Derived.Test.YtidjphifgemicaaGreatDoorRows
import Derived.Test.YtidjphifgemicaaGreatDoorCards
import Derived.Test.YtidjphifgemicaaGreatDoorTie
import Derived.LaidMore
import Derived.SevenTiedAt
namespace Go.Proofs.YtidjphifgemicaaGreatDoor
open Go.RowKit Go.Deep
set_option linter.unusedVariables false

set_option maxRecDepth 100000 in
set_option maxHeartbeats 4000000 in
theorem l4Loans_any (ns : List Nd) (v : Value) (B : Nat) (w : World) (hn : ns.length ≤ 1000000) (h : PRow w B v ns) :
    Calls Tryz.prog 46 #[v] w fun E w' => ∃ v', E = .returned v' ∧ RowN w' w.heap.size v' (loansK ns ns.length) ∧ Below w.heap.size w w' := by
  obtain ⟨A0, c0, hv⟩ := h.slice
  subst hv
  obtain ⟨i0, hi0, hzz0, hzz1, hzz2⟩ := info_parts Tryz.infoLoan
  have HI := Lib.hid hi0
  have HZ0 := Lib.hid hzz0
  have HZ1 := Lib.hid hzz1
  have HZ2 := Lib.hid hzz2
  have HP := Lib.hid h
  have hlit := World.ownsRow_lit (base := w.heap.size) (e := 51) (size := 3) w #[] 0 (Nat.le_refl _) (by simp [maxLen]) rfl
  have HLIT : Hid (RowN (w.alloc (.cells #[] 51)) w.heap.size (.slice (some ⟨w.heap.size, 0, none⟩) 0 0) (loansK ns 0)) := hlit
  have HBA := Lib.hid ((Below.refl w.heap.size w).alloc (Nat.le_refl _) (.cells #[] 51))
  clear hi0 hzz0 hzz1 hzz2 h hlit
  go_enter Tryz.func46, Tryz.ntmps46
  go_wp2_with fail
  go_loopw [3, 4] (fun qv i wr => ∃ k : Nat, i = .int .i64 k ∧ k ≤ ns.length ∧ Hid (RowN wr w.heap.size qv (loansK ns k)) ∧ Hid (Below w.heap.size w wr)) (fun _ i _ => ns.length - (intOf i).toNat)
  case atStart => exact ⟨0, rfl, Nat.zero_le _, HLIT, HBA⟩
  case round =>
    clear HLIT HBA
    obtain ⟨k, rfl, hk, HRW, HB⟩ := hrel
    obtain ⟨Ao, co, ho⟩ := HRW.out.slice
    subst ho
    by_cases hlt : k < ns.length
    · obtain ⟨d, hd⟩ : ∃ d, ns[k]? = some d := ⟨ns[k], List.getElem?_eq_getElem hlt⟩
      obtain ⟨g, cap, hgv, hBg, hgl, hgc, hcm⟩ := HP.out.form (by omega)
      injection hgv with hg1 _ hg2
      subst hg1 hg2
      obtain ⟨u, ⟨q0, q1, q2, q3, q4⟩, -⟩ := HP.out.cells hd
      have hlT := loansK_length ns k
      obtain ⟨op, hop⟩ : ∃ op, op = d.op := ⟨_, rfl⟩
      rw [← hop] at q0
      have HQ0 := Lib.hid q0
      have HQ2 := Lib.hid q2
      have HGL := Lib.hid hgl
      have r0 := (HB.out.cell (p := ⟨g, k * 5, none⟩) hgl).trans q0
      have ki0 : (0 : Int) ≤ (k : Int) := by omega
      have ki1 : (k : Int) < (ns.length : Int) := by omega
      unfold maxLen at hcm
      by_cases h45 : op = 4 ∨ op = 5
      · have hy : isLoan ns k = true := by rw [isLoan_at hd, ← hop]; exact decide_eq_true h45
        have HNX := Lib.hid (show loansK ns (k + 1) = loansK ns k ++ [⟨(k : Int), decide (op = 5), d.y⟩] from by rw [loansK_yes hy, ldOf_at hd, hop])
        have n45 : (decide (op = 4) || decide (op = 5)) = true := by rcases h45 with h9 | h9 <;> simp [h9]
        clear hy hd hop q0 q1 q2 q3 q4 hBg
        rcases h45 with h4 | h5
        · subst h4
          replace HNX := Lib.hid (show loansK ns (k + 1) = loansK ns k ++ [⟨(k : Int), false, d.y⟩] from HNX.out.trans (by simp))
          clear n45
          go_upto_region 6 with fail
          refine wp_region_held_drew (S := fun w' => Below w.heap.size w w') (by kernel_rfl) HB.out.drew (fun hHeld => ?_)
          replace HRW : Hid (RowN wr.drew w.heap.size (.slice Ao (loansK ns k).length co) (loansK ns k)) := RowN.keep HRW.out fun _ _ => rfl
          generalize wr.drew = wd at *
          clear HB r0
          refine wpAnyH_take (i := 0) (oi := { dst := some 26, op := Op.move (Operand.tmp 3), type := 27, pos := "l4_loans.go:10", after := #[], guard := none }) (v := .slice Ao (loansK ns k).length co) rfl (by kernel_rfl) (by kernel_rfl) (by kernel_rfl) (fun _ _ _ h => h) (Or.inl ⟨by rfl, fun w hSw => by go_simp⟩) hHeld ?_
          try simp only [Act.put, List.setIfInBounds_toArray, List.set_cons_zero, List.set_cons_succ]
          refine wpAnyH_take (i := 1) (oi := { dst := some 27, op := Op.move (Operand.tmp 4), type := 3, pos := "l4_loans.go:10", after := #[], guard := none }) (v := .int .i64 (k : Int)) rfl (by kernel_rfl) (by kernel_rfl) (by kernel_rfl) (fun _ _ _ h => h) (Or.inl ⟨by rfl, fun w hSw => by go_simp⟩) hHeld ?_
          try simp only [Act.put, List.setIfInBounds_toArray, List.set_cons_zero, List.set_cons_succ]
          refine wpAnyH_take (i := 2) (oi := { dst := some 28, op := Op.move (Operand.tmp 0), type := 60, pos := "l4_loans.go:10", after := #[], guard := none }) (v := .slice (some ⟨g, 0, none⟩) ns.length c0) rfl (by kernel_rfl) (by kernel_rfl) (by kernel_rfl) (fun _ _ _ h => h) (Or.inl ⟨by rfl, fun w hSw => by go_simp⟩) hHeld ?_
          try simp only [Act.put, List.setIfInBounds_toArray, List.set_cons_zero, List.set_cons_succ]
          refine wpAnyH_take (i := 3) (oi := { dst := some 29, op := Op.move (Operand.tmp 4), type := 3, pos := "l4_loans.go:10", after := #[], guard := none }) (v := .int .i64 (k : Int)) rfl (by kernel_rfl) (by kernel_rfl) (by kernel_rfl) (fun _ _ _ h => h) (Or.inl ⟨by rfl, fun w hSw => by go_simp⟩) hHeld ?_
          try simp only [Act.put, List.setIfInBounds_toArray, List.set_cons_zero, List.set_cons_succ]
          refine wpAnyH_take (i := 4) (oi := { dst := some 30, op := Op.indexAddr 60 (Operand.tmp 28) (Operand.tmp 29), type := 0, pos := "l4_loans.go:10", after := #[{ on := 2, ground := Ground.data }, { on := 3, ground := Ground.data }], guard := none }) (v := .pointer (some ⟨g, k * 5, none⟩)) rfl (by kernel_rfl) (by kernel_rfl) (by kernel_rfl) (fun _ _ _ h => h) (Or.inl ⟨by rfl, fun w hSw => by go_simp⟩) hHeld ?_
          try simp only [Act.put, List.setIfInBounds_toArray, List.set_cons_zero, List.set_cons_succ]
          refine wpAnyH_take (i := 5) (oi := { dst := some 31, op := Op.fieldAddr 114 (Operand.tmp 30) 0, type := 0, pos := "l4_loans.go:10", after := #[{ on := 4, ground := Ground.data }], guard := none }) (v := .pointer (some ⟨g, k * 5, none⟩)) rfl (by kernel_rfl) (by kernel_rfl) (by kernel_rfl) (fun _ _ _ h => h) (Or.inl ⟨by rfl, fun w hSw => by go_simp⟩) hHeld ?_
          try simp only [Act.put, List.setIfInBounds_toArray, List.set_cons_zero, List.set_cons_succ]
          refine wpAnyH_take (i := 6) (oi := { dst := some 32, op := Op.load 3 (Operand.tmp 31), type := 3, pos := "l4_loans.go:10", after := #[{ on := 5, ground := Ground.data }], guard := none }) (v := .int .i64 4) rfl (by kernel_rfl) (by kernel_rfl) (by kernel_rfl) (fun _ _ _ h => h) (Or.inl ⟨by rfl, fun w9 hSw => by have h9 := (hSw.cell (p := ⟨g, k * 5, none⟩) HGL.out).trans HQ0.out; go_simp⟩) hHeld ?_
          try simp only [Act.put, List.setIfInBounds_toArray, List.set_cons_zero, List.set_cons_succ]
          refine wpAnyH_take (i := 7) (oi := { dst := some 33, op := Op.binOp BinOp.eql 3 (Operand.tmp 32) (Operand.const (Value.int IntKind.i64 5)) 3, type := 4, pos := "l4_loans.go:10", after := #[{ on := 6, ground := Ground.data }], guard := none }) (v := .bool (false)) rfl (by kernel_rfl) (by kernel_rfl) (by kernel_rfl) (fun _ _ _ h => h) (Or.inl ⟨by rfl, fun w9 hSw => by go_simp⟩) hHeld ?_
          try simp only [Act.put, List.setIfInBounds_toArray, List.set_cons_zero, List.set_cons_succ]
          refine wpAnyH_take (i := 8) (oi := { dst := some 34, op := Op.move (Operand.tmp 0), type := 60, pos := "l4_loans.go:10", after := #[], guard := none }) (v := .slice (some ⟨g, 0, none⟩) ns.length c0) rfl (by kernel_rfl) (by kernel_rfl) (by kernel_rfl) (fun _ _ _ h => h) (Or.inl ⟨by rfl, fun w hSw => by go_simp⟩) hHeld ?_
          try simp only [Act.put, List.setIfInBounds_toArray, List.set_cons_zero, List.set_cons_succ]
          refine wpAnyH_take (i := 9) (oi := { dst := some 35, op := Op.move (Operand.tmp 4), type := 3, pos := "l4_loans.go:10", after := #[], guard := none }) (v := .int .i64 (k : Int)) rfl (by kernel_rfl) (by kernel_rfl) (by kernel_rfl) (fun _ _ _ h => h) (Or.inl ⟨by rfl, fun w hSw => by go_simp⟩) hHeld ?_
          try simp only [Act.put, List.setIfInBounds_toArray, List.set_cons_zero, List.set_cons_succ]
          refine wpAnyH_take (i := 10) (oi := { dst := some 36, op := Op.indexAddr 60 (Operand.tmp 34) (Operand.tmp 35), type := 0, pos := "l4_loans.go:10", after := #[{ on := 8, ground := Ground.data }, { on := 9, ground := Ground.data }], guard := none }) (v := .pointer (some ⟨g, k * 5, none⟩)) rfl (by kernel_rfl) (by kernel_rfl) (by kernel_rfl) (fun _ _ _ h => h) (Or.inl ⟨by rfl, fun w hSw => by go_simp⟩) hHeld ?_
          try simp only [Act.put, List.setIfInBounds_toArray, List.set_cons_zero, List.set_cons_succ]
          refine wpAnyH_take (i := 11) (oi := { dst := some 37, op := Op.fieldAddr 114 (Operand.tmp 36) 2, type := 0, pos := "l4_loans.go:10", after := #[{ on := 10, ground := Ground.data }], guard := none }) (v := .pointer (some ⟨g, k * 5 + 2, none⟩)) rfl (by kernel_rfl) (by kernel_rfl) (by kernel_rfl) (fun _ _ _ h => h) (Or.inl ⟨by rfl, fun w hSw => by go_simp⟩) hHeld ?_
          try simp only [Act.put, List.setIfInBounds_toArray, List.set_cons_zero, List.set_cons_succ]
          refine wpAnyH_take (i := 12) (oi := { dst := some 38, op := Op.load 3 (Operand.tmp 37), type := 3, pos := "l4_loans.go:10", after := #[{ on := 11, ground := Ground.data }], guard := none }) (v := .int .i64 d.y) rfl (by kernel_rfl) (by kernel_rfl) (by kernel_rfl) (fun _ _ _ h => h) (Or.inl ⟨by rfl, fun w9 hSw => by have h9 := (hSw.cell (p := ⟨g, k * 5 + 2, none⟩) HGL.out).trans HQ2.out; go_simp⟩) hHeld ?_
          try simp only [Act.put, List.setIfInBounds_toArray, List.set_cons_zero, List.set_cons_succ]
          refine wpAnyH_take (i := 13) (oi := { dst := some 39, op := Op.build 51 #[(0, Operand.tmp 27), (1, Operand.tmp 33), (2, Operand.tmp 38)], type := 51, pos := "l4_loans.go:10", after := #[{ on := 1, ground := Ground.data }, { on := 7, ground := Ground.data }, { on := 12, ground := Ground.data }], guard := none }) (v := .agg #[.int .i64 (k : Int), .bool (false), .int .i64 d.y]) rfl (by kernel_rfl) (by kernel_rfl) (by kernel_rfl) (fun _ _ _ h => h) (Or.inl ⟨by rfl, fun w9 hSw => by go_simp⟩) hHeld ?_
          try simp only [Act.put, List.setIfInBounds_toArray, List.set_cons_zero, List.set_cons_succ]
          refine wpAnyH_ready (rs := [14]) (by kernel_rfl) (by simp) ?_
          refine AllReadyH.cons (o := { dst := some 40, op := Op.buildSlice 27 1 #[(0, Operand.tmp 39)], type := 27, pos := "l4_loans.go:10", after := #[{ on := 13, ground := Ground.data }], guard := none }) rfl (fun K hK => ?_) AllReadyH.nil
          go_simp
          have hnw := heap_alloc_new wd (.cells #[.int .i64 (k : Int), .bool (false), .int .i64 d.y] 51)
          have hra := RowN.below HRW.out ((Below.refl wd.heap.size wd).alloc (Nat.le_refl _) (.cells #[.int .i64 (k : Int), .bool (false), .int .i64 d.y] 51))
          have hsz := hHeld.size
          refine hK.out _ _ (hHeld.alloc hHeld.size (.cells #[.int .i64 (k : Int), .bool (false), .int .i64 d.y] 51)) (fun hHeld => ?_)
          have hzz : (wd.alloc (.cells #[.int .i64 (k : Int), .bool (false), .int .i64 d.y] 51)).heap.size = wd.heap.size + 1 := by simp
          generalize wd.alloc (.cells #[.int .i64 (k : Int), .bool (false), .int .i64 d.y] 51) = we at *
          have HNW := Lib.hid hnw
          have HRA := Lib.hid hra
          have HZZ := Lib.hid hzz
          clear hK K hnw hra hzz
          refine wpAnyH_ready (rs := [15]) (by kernel_rfl) (by simp) ?_
          refine AllReadyH.cons (o := { dst := some 41, op := Op.call { callee := Callee.builtin Builtin.append, args := #[Operand.tmp 26, Operand.tmp 40], argTypes := #[27, 27] }, type := 27, pos := "l4_loans.go:10", after := #[{ on := 0, ground := Ground.data }, { on := 14, ground := Ground.data }], guard := none }) rfl (fun K hK => ?_) AllReadyH.nil
          refine step_append_lies _ rfl _ _ 27 rfl w.heap.size 51 i0 (.agg #[.int .i64 0, .bool false, .int .i64 0]) 3 24 Tryz.underlying27 HI.out HZ0.out HZ1.out HZ2.out rfl (by decide) _ _ _ rfl (RowN.own HRA.out) ⟨wd.heap.size, 0, none⟩ 1 1 [.int .i64 (k : Int), .bool (false), .int .i64 d.y] rfl rfl (World.news_of_block HNW.out) (by intro u9 hu9; simp only [List.mem_cons, List.not_mem_nil, or_false] at hu9; rcases hu9 with rfl | rfl | rfl <;> rfl) (by decide) (by unfold maxLen; have := hlT; omega) (by have := hlT; omega) (by have := HZZ.out; omega) _ rfl ?_
          intro g9 cap9 w9 hown9 hgg9 hat9 hlt9
          refine hK.out _ _ (hHeld.grown hgg9 hHeld.size (fun k9 hk9 => (RowN.lt HRA.out k9 hk9).1)) (fun hHeld => ?_)
          have HR9 := Lib.hid (RowN.snoc (d := ⟨(k : Int), false, d.y⟩) hown9)
          clear hK K hown9 hgg9 hat9 hlt9
          refine wpAnyH_take (i := 16) (oi := { dst := some 3, op := Op.assign (Operand.tmp 41), type := 27, pos := "l4_loans.go:10", after := #[{ on := 15, ground := Ground.data }, { on := 15, ground := Ground.chain }, { on := 0, ground := Ground.phase }, { on := 1, ground := Ground.phase }, { on := 2, ground := Ground.phase }, { on := 3, ground := Ground.phase }, { on := 4, ground := Ground.phase }, { on := 5, ground := Ground.phase }, { on := 6, ground := Ground.phase }, { on := 7, ground := Ground.phase }, { on := 8, ground := Ground.phase }, { on := 9, ground := Ground.phase }, { on := 10, ground := Ground.phase }, { on := 11, ground := Ground.phase }, { on := 12, ground := Ground.phase }, { on := 13, ground := Ground.phase }, { on := 14, ground := Ground.phase }, { on := 15, ground := Ground.phase }], guard := none }) (v := .slice (some ⟨g9, 0, none⟩) ((loansK ns k).length + 1) cap9) rfl (by kernel_rfl) (by kernel_rfl) (by kernel_rfl) (fun _ _ _ h => h) (Or.inl ⟨by rfl, fun w hSw => by go_simp⟩) hHeld ?_
          try simp only [Act.put, List.setIfInBounds_toArray, List.set_cons_zero, List.set_cons_succ]
          refine wpAnyH_done (by kernel_rfl) ?_ _
          clear HRA HNW HZZ
          have HB9 := Lib.hid hHeld
          clear hHeld
          go_wp2_with fail
          refine ⟨⟨k + 1, by simp, by omega, (by rw [HNX.out]; exact HR9), HB9⟩, ?_⟩
          simp only [intOf]
          omega
        · subst h5
          replace HNX := Lib.hid (show loansK ns (k + 1) = loansK ns k ++ [⟨(k : Int), true, d.y⟩] from HNX.out.trans (by simp))
          clear n45
          go_upto_region 6 with fail
          refine wp_region_held_drew (S := fun w' => Below w.heap.size w w') (by kernel_rfl) HB.out.drew (fun hHeld => ?_)
          replace HRW : Hid (RowN wr.drew w.heap.size (.slice Ao (loansK ns k).length co) (loansK ns k)) := RowN.keep HRW.out fun _ _ => rfl
          generalize wr.drew = wd at *
          clear HB r0
          refine wpAnyH_take (i := 0) (oi := { dst := some 26, op := Op.move (Operand.tmp 3), type := 27, pos := "l4_loans.go:10", after := #[], guard := none }) (v := .slice Ao (loansK ns k).length co) rfl (by kernel_rfl) (by kernel_rfl) (by kernel_rfl) (fun _ _ _ h => h) (Or.inl ⟨by rfl, fun w hSw => by go_simp⟩) hHeld ?_
          try simp only [Act.put, List.setIfInBounds_toArray, List.set_cons_zero, List.set_cons_succ]
          refine wpAnyH_take (i := 1) (oi := { dst := some 27, op := Op.move (Operand.tmp 4), type := 3, pos := "l4_loans.go:10", after := #[], guard := none }) (v := .int .i64 (k : Int)) rfl (by kernel_rfl) (by kernel_rfl) (by kernel_rfl) (fun _ _ _ h => h) (Or.inl ⟨by rfl, fun w hSw => by go_simp⟩) hHeld ?_
          try simp only [Act.put, List.setIfInBounds_toArray, List.set_cons_zero, List.set_cons_succ]
          refine wpAnyH_take (i := 2) (oi := { dst := some 28, op := Op.move (Operand.tmp 0), type := 60, pos := "l4_loans.go:10", after := #[], guard := none }) (v := .slice (some ⟨g, 0, none⟩) ns.length c0) rfl (by kernel_rfl) (by kernel_rfl) (by kernel_rfl) (fun _ _ _ h => h) (Or.inl ⟨by rfl, fun w hSw => by go_simp⟩) hHeld ?_
          try simp only [Act.put, List.setIfInBounds_toArray, List.set_cons_zero, List.set_cons_succ]
          refine wpAnyH_take (i := 3) (oi := { dst := some 29, op := Op.move (Operand.tmp 4), type := 3, pos := "l4_loans.go:10", after := #[], guard := none }) (v := .int .i64 (k : Int)) rfl (by kernel_rfl) (by kernel_rfl) (by kernel_rfl) (fun _ _ _ h => h) (Or.inl ⟨by rfl, fun w hSw => by go_simp⟩) hHeld ?_
          try simp only [Act.put, List.setIfInBounds_toArray, List.set_cons_zero, List.set_cons_succ]
          refine wpAnyH_take (i := 4) (oi := { dst := some 30, op := Op.indexAddr 60 (Operand.tmp 28) (Operand.tmp 29), type := 0, pos := "l4_loans.go:10", after := #[{ on := 2, ground := Ground.data }, { on := 3, ground := Ground.data }], guard := none }) (v := .pointer (some ⟨g, k * 5, none⟩)) rfl (by kernel_rfl) (by kernel_rfl) (by kernel_rfl) (fun _ _ _ h => h) (Or.inl ⟨by rfl, fun w hSw => by go_simp⟩) hHeld ?_
          try simp only [Act.put, List.setIfInBounds_toArray, List.set_cons_zero, List.set_cons_succ]
          refine wpAnyH_take (i := 5) (oi := { dst := some 31, op := Op.fieldAddr 114 (Operand.tmp 30) 0, type := 0, pos := "l4_loans.go:10", after := #[{ on := 4, ground := Ground.data }], guard := none }) (v := .pointer (some ⟨g, k * 5, none⟩)) rfl (by kernel_rfl) (by kernel_rfl) (by kernel_rfl) (fun _ _ _ h => h) (Or.inl ⟨by rfl, fun w hSw => by go_simp⟩) hHeld ?_
          try simp only [Act.put, List.setIfInBounds_toArray, List.set_cons_zero, List.set_cons_succ]
          refine wpAnyH_take (i := 6) (oi := { dst := some 32, op := Op.load 3 (Operand.tmp 31), type := 3, pos := "l4_loans.go:10", after := #[{ on := 5, ground := Ground.data }], guard := none }) (v := .int .i64 5) rfl (by kernel_rfl) (by kernel_rfl) (by kernel_rfl) (fun _ _ _ h => h) (Or.inl ⟨by rfl, fun w9 hSw => by have h9 := (hSw.cell (p := ⟨g, k * 5, none⟩) HGL.out).trans HQ0.out; go_simp⟩) hHeld ?_
          try simp only [Act.put, List.setIfInBounds_toArray, List.set_cons_zero, List.set_cons_succ]
          refine wpAnyH_take (i := 7) (oi := { dst := some 33, op := Op.binOp BinOp.eql 3 (Operand.tmp 32) (Operand.const (Value.int IntKind.i64 5)) 3, type := 4, pos := "l4_loans.go:10", after := #[{ on := 6, ground := Ground.data }], guard := none }) (v := .bool (true)) rfl (by kernel_rfl) (by kernel_rfl) (by kernel_rfl) (fun _ _ _ h => h) (Or.inl ⟨by rfl, fun w9 hSw => by go_simp⟩) hHeld ?_
          try simp only [Act.put, List.setIfInBounds_toArray, List.set_cons_zero, List.set_cons_succ]
          refine wpAnyH_take (i := 8) (oi := { dst := some 34, op := Op.move (Operand.tmp 0), type := 60, pos := "l4_loans.go:10", after := #[], guard := none }) (v := .slice (some ⟨g, 0, none⟩) ns.length c0) rfl (by kernel_rfl) (by kernel_rfl) (by kernel_rfl) (fun _ _ _ h => h) (Or.inl ⟨by rfl, fun w hSw => by go_simp⟩) hHeld ?_
          try simp only [Act.put, List.setIfInBounds_toArray, List.set_cons_zero, List.set_cons_succ]
          refine wpAnyH_take (i := 9) (oi := { dst := some 35, op := Op.move (Operand.tmp 4), type := 3, pos := "l4_loans.go:10", after := #[], guard := none }) (v := .int .i64 (k : Int)) rfl (by kernel_rfl) (by kernel_rfl) (by kernel_rfl) (fun _ _ _ h => h) (Or.inl ⟨by rfl, fun w hSw => by go_simp⟩) hHeld ?_
          try simp only [Act.put, List.setIfInBounds_toArray, List.set_cons_zero, List.set_cons_succ]
          refine wpAnyH_take (i := 10) (oi := { dst := some 36, op := Op.indexAddr 60 (Operand.tmp 34) (Operand.tmp 35), type := 0, pos := "l4_loans.go:10", after := #[{ on := 8, ground := Ground.data }, { on := 9, ground := Ground.data }], guard := none }) (v := .pointer (some ⟨g, k * 5, none⟩)) rfl (by kernel_rfl) (by kernel_rfl) (by kernel_rfl) (fun _ _ _ h => h) (Or.inl ⟨by rfl, fun w hSw => by go_simp⟩) hHeld ?_
          try simp only [Act.put, List.setIfInBounds_toArray, List.set_cons_zero, List.set_cons_succ]
          refine wpAnyH_take (i := 11) (oi := { dst := some 37, op := Op.fieldAddr 114 (Operand.tmp 36) 2, type := 0, pos := "l4_loans.go:10", after := #[{ on := 10, ground := Ground.data }], guard := none }) (v := .pointer (some ⟨g, k * 5 + 2, none⟩)) rfl (by kernel_rfl) (by kernel_rfl) (by kernel_rfl) (fun _ _ _ h => h) (Or.inl ⟨by rfl, fun w hSw => by go_simp⟩) hHeld ?_
          try simp only [Act.put, List.setIfInBounds_toArray, List.set_cons_zero, List.set_cons_succ]
          refine wpAnyH_take (i := 12) (oi := { dst := some 38, op := Op.load 3 (Operand.tmp 37), type := 3, pos := "l4_loans.go:10", after := #[{ on := 11, ground := Ground.data }], guard := none }) (v := .int .i64 d.y) rfl (by kernel_rfl) (by kernel_rfl) (by kernel_rfl) (fun _ _ _ h => h) (Or.inl ⟨by rfl, fun w9 hSw => by have h9 := (hSw.cell (p := ⟨g, k * 5 + 2, none⟩) HGL.out).trans HQ2.out; go_simp⟩) hHeld ?_
          try simp only [Act.put, List.setIfInBounds_toArray, List.set_cons_zero, List.set_cons_succ]
          refine wpAnyH_take (i := 13) (oi := { dst := some 39, op := Op.build 51 #[(0, Operand.tmp 27), (1, Operand.tmp 33), (2, Operand.tmp 38)], type := 51, pos := "l4_loans.go:10", after := #[{ on := 1, ground := Ground.data }, { on := 7, ground := Ground.data }, { on := 12, ground := Ground.data }], guard := none }) (v := .agg #[.int .i64 (k : Int), .bool (true), .int .i64 d.y]) rfl (by kernel_rfl) (by kernel_rfl) (by kernel_rfl) (fun _ _ _ h => h) (Or.inl ⟨by rfl, fun w9 hSw => by go_simp⟩) hHeld ?_
          try simp only [Act.put, List.setIfInBounds_toArray, List.set_cons_zero, List.set_cons_succ]
          refine wpAnyH_ready (rs := [14]) (by kernel_rfl) (by simp) ?_
          refine AllReadyH.cons (o := { dst := some 40, op := Op.buildSlice 27 1 #[(0, Operand.tmp 39)], type := 27, pos := "l4_loans.go:10", after := #[{ on := 13, ground := Ground.data }], guard := none }) rfl (fun K hK => ?_) AllReadyH.nil
          go_simp
          have hnw := heap_alloc_new wd (.cells #[.int .i64 (k : Int), .bool (true), .int .i64 d.y] 51)
          have hra := RowN.below HRW.out ((Below.refl wd.heap.size wd).alloc (Nat.le_refl _) (.cells #[.int .i64 (k : Int), .bool (true), .int .i64 d.y] 51))
          have hsz := hHeld.size
          refine hK.out _ _ (hHeld.alloc hHeld.size (.cells #[.int .i64 (k : Int), .bool (true), .int .i64 d.y] 51)) (fun hHeld => ?_)
          have hzz : (wd.alloc (.cells #[.int .i64 (k : Int), .bool (true), .int .i64 d.y] 51)).heap.size = wd.heap.size + 1 := by simp
          generalize wd.alloc (.cells #[.int .i64 (k : Int), .bool (true), .int .i64 d.y] 51) = we at *
          have HNW := Lib.hid hnw
          have HRA := Lib.hid hra
          have HZZ := Lib.hid hzz
          clear hK K hnw hra hzz
          refine wpAnyH_ready (rs := [15]) (by kernel_rfl) (by simp) ?_
          refine AllReadyH.cons (o := { dst := some 41, op := Op.call { callee := Callee.builtin Builtin.append, args := #[Operand.tmp 26, Operand.tmp 40], argTypes := #[27, 27] }, type := 27, pos := "l4_loans.go:10", after := #[{ on := 0, ground := Ground.data }, { on := 14, ground := Ground.data }], guard := none }) rfl (fun K hK => ?_) AllReadyH.nil
          refine step_append_lies _ rfl _ _ 27 rfl w.heap.size 51 i0 (.agg #[.int .i64 0, .bool false, .int .i64 0]) 3 24 Tryz.underlying27 HI.out HZ0.out HZ1.out HZ2.out rfl (by decide) _ _ _ rfl (RowN.own HRA.out) ⟨wd.heap.size, 0, none⟩ 1 1 [.int .i64 (k : Int), .bool (true), .int .i64 d.y] rfl rfl (World.news_of_block HNW.out) (by intro u9 hu9; simp only [List.mem_cons, List.not_mem_nil, or_false] at hu9; rcases hu9 with rfl | rfl | rfl <;> rfl) (by decide) (by unfold maxLen; have := hlT; omega) (by have := hlT; omega) (by have := HZZ.out; omega) _ rfl ?_
          intro g9 cap9 w9 hown9 hgg9 hat9 hlt9
          refine hK.out _ _ (hHeld.grown hgg9 hHeld.size (fun k9 hk9 => (RowN.lt HRA.out k9 hk9).1)) (fun hHeld => ?_)
          have HR9 := Lib.hid (RowN.snoc (d := ⟨(k : Int), true, d.y⟩) hown9)
          clear hK K hown9 hgg9 hat9 hlt9
          refine wpAnyH_take (i := 16) (oi := { dst := some 3, op := Op.assign (Operand.tmp 41), type := 27, pos := "l4_loans.go:10", after := #[{ on := 15, ground := Ground.data }, { on := 15, ground := Ground.chain }, { on := 0, ground := Ground.phase }, { on := 1, ground := Ground.phase }, { on := 2, ground := Ground.phase }, { on := 3, ground := Ground.phase }, { on := 4, ground := Ground.phase }, { on := 5, ground := Ground.phase }, { on := 6, ground := Ground.phase }, { on := 7, ground := Ground.phase }, { on := 8, ground := Ground.phase }, { on := 9, ground := Ground.phase }, { on := 10, ground := Ground.phase }, { on := 11, ground := Ground.phase }, { on := 12, ground := Ground.phase }, { on := 13, ground := Ground.phase }, { on := 14, ground := Ground.phase }, { on := 15, ground := Ground.phase }], guard := none }) (v := .slice (some ⟨g9, 0, none⟩) ((loansK ns k).length + 1) cap9) rfl (by kernel_rfl) (by kernel_rfl) (by kernel_rfl) (fun _ _ _ h => h) (Or.inl ⟨by rfl, fun w hSw => by go_simp⟩) hHeld ?_
          try simp only [Act.put, List.setIfInBounds_toArray, List.set_cons_zero, List.set_cons_succ]
          refine wpAnyH_done (by kernel_rfl) ?_ _
          clear HRA HNW HZZ
          have HB9 := Lib.hid hHeld
          clear hHeld
          go_wp2_with fail
          refine ⟨⟨k + 1, by simp, by omega, (by rw [HNX.out]; exact HR9), HB9⟩, ?_⟩
          simp only [intOf]
          omega
      · have n4 : ¬ op = 4 := fun h9 => h45 (.inl h9)
        have n5 : ¬ op = 5 := fun h9 => h45 (.inr h9)
        have b4 : (op == 4) = false := by simp [n4]
        have b5 : (op == 5) = false := by simp [n5]
        have d4 : decide (op = 4) = false := decide_eq_false n4
        have d5 : decide (op = 5) = false := decide_eq_false n5
        have hno : isLoan ns k = false := by rw [isLoan_at hd, ← hop]; exact decide_eq_false h45
        have e := Lib.hid (loansK_no hno)
        clear h45 hno hd hop q0 q1 q2 q3 q4 hBg
        go_wp2_with fail
        refine ⟨⟨k + 1, by simp, by omega, by rw [e.out]; exact HRW, HB⟩, ?_⟩
        simp only [intOf]
        omega
    · have hke : k = ns.length := by omega
      have kd : decide (k < ns.length) = false := decide_eq_false hlt
      have HRF : Hid (RowN wr w.heap.size (.slice Ao (loansK ns k).length co) (loansK ns ns.length)) := by
        have h9 := HRW.out
        rw [hke] at h9 ⊢
        exact h9
      clear HRW hke hlt hk
      go_wp2_with fail
      go_ret
      exact ⟨_, rfl, HRF.out, HB.out⟩

theorem AnsLoans.length {ts : List Int} {s : Sts} {l : List LoanD} (h : AnsLoans (validB ts s) s l) : l.length ≤ 64 := by
  rcases h with ⟨h1, rfl⟩ | ⟨_, rfl⟩
  · have := loansK_length (progPts s) (progPts s).length
    have := valid_size h1
    have := s.npts_le
    have := progPts_len s
    omega
  · simp

set_option maxHeartbeats 2000000 in
theorem specLoansOf_any (ts : List Int) (s : Sts) (At As : Option Addr) (ct cs : Nat) (w : World) (hsz : s.size ≤ 1048576) (hT : IntsV w 0 w.heap.size ts At ct) (hR : RepV w 0 w.heap.size s As cs) :
    Calls Tryz.prog 12 #[.agg #[.slice At ts.length ct, .slice As s.len cs]] w fun E w' => ∃ v l, E = .returned v ∧ RowN w' w.heap.size v l ∧ AnsLoans (validB ts s) s l ∧ Below w.heap.size w w' := by
  have hb0 := (Below.refl w.heap.size w).alloc (Nat.le_refl _) (.cells #[.slice At ts.length ct, .slice As s.len cs] 31)
  have hz0 : (w.alloc (.cells #[.slice At ts.length ct, .slice As s.len cs] 31)).heap.size = w.heap.size + 1 := by simp
  have HZ := Lib.hid hz0
  have hp := specPointsOf_any ts s At As ct cs _ hsz (hT.below hb0 (by simp)) (hR.below hb0 (by simp))
  have hlen : (pointsB (validB ts s) s).length ≤ 1000000 := by
    unfold pointsB
    split
    · rename_i h
      have := valid_size h
      have := s.npts_le
      rw [progPts_len]
      omega
    · simp
  have hans : AnsLoans (validB ts s) s (loansK (pointsB (validB ts s) s) (pointsB (validB ts s) s).length) := by
    unfold pointsB
    cases validB ts s
    · exact .inr ⟨rfl, rfl⟩
    · exact .inl ⟨rfl, rfl⟩
  generalize pointsB (validB ts s) s = ns at *
  have HANS := Lib.hid hans
  have HLEN := Lib.hid hlen
  clear hz0 hT hR hans hlen
  go_enter Tryz.func12, Tryz.ntmps12
  go_wp2_with fail
  refine hp.mono ?_
  rintro E w1 ⟨v, rfl, hpr, hb1⟩
  rw [HZ.out] at hb1
  have hb : Below w.heap.size w w1 := hb0.trans (hb1.mono (by omega))
  have HB := Lib.hid hb
  have hl := l4Loans_any ns v _ w1 HLEN.out hpr
  have hbz := hb.size
  clear hb1 hb hp hpr hb0
  go_wp2_with fail
  refine hl.mono ?_
  rintro E w2 ⟨v', rfl, hrw, hb2⟩
  have HRW := Lib.hid (RowN.mono hrw hbz)
  have HB2 := Lib.hid (HB.out.trans (hb2.mono hbz))
  clear hl hrw hb2
  go_wp2_with fail
  go_ret
  exact ⟨v', _, rfl, HRW.out, HANS.out, HB2.out⟩

end Go.Proofs.YtidjphifgemicaaGreatDoor

namespace Go.Proofs.YtidjphifgemicaaGreatDoor.fnLoansOf
open Go.ChangeShapes Go.WideShapes Go.ChangeAt Go.RowKit Go.Deep Go.Joins
set_option linter.unusedVariables false

/-- What holds all along the third test: what was there stays, and so the cells that the test loads. -/
theorem held_P {C B K : Nat} {w1 wo w' : World} {b0 b1 c0 c1 : Value} (hb : Below wo.heap.size wo w') (h : Below K w1 wo) (hK : K = w1.heap.size) (hC : C < w1.heap.size) (hB : B < w1.heap.size)
    (q0 : w1.cell? ⟨B, 0, none⟩ = some b0) (q1 : w1.cell? ⟨B, 1, none⟩ = some b1) (q2 : w1.cell? ⟨C, 0, none⟩ = some c0) (q3 : w1.cell? ⟨C, 1, none⟩ = some c1) :
    Below K w1 w' ∧ w'.cell? ⟨B, 0, none⟩ = some b0 ∧ w'.cell? ⟨B, 1, none⟩ = some b1 ∧ w'.cell? ⟨C, 0, none⟩ = some c0 ∧ w'.cell? ⟨C, 1, none⟩ = some c1 := by
  subst hK
  have hbb : Below w1.heap.size w1 w' := h.trans (hb.mono h.size)
  exact ⟨hbb, (hbb.cell hB).trans q0, (hbb.cell hB).trans q1, (hbb.cell hC).trans q2, (hbb.cell hC).trans q3⟩

set_option maxRecDepth 100000 in
set_option maxHeartbeats 8000000 in
theorem walk (ts : List Int) (s : Sts) (At As : Option Addr) (ct cs : Nat) (W : World) (hT : IntsV W 0 W.heap.size ts At ct) (hR : RepV W 0 W.heap.size s As cs) (hTab : TabAt 0 Lib.deBruijn64tab W) (hg : 0 < W.heap.size) :
    Calls Tryz.prog 3 #[.agg #[.slice At ts.length ct, .slice As s.len cs]] W fun e w' => e = .returned (.bool true) ∧ Below W.heap.size W w' := by
  have hTl := hT.1
  have hTm := hT.2.1
  have hb0 := (Below.refl W.heap.size W).alloc (Nat.le_refl _) (.cells #[.slice At ts.length ct, .slice As s.len cs] 25)
  have hz0 : (W.alloc (.cells #[.slice At ts.length ct, .slice As s.len cs] 25)).heap.size = W.heap.size + 1 := by simp
  have hT0 : IntsV (W.alloc (.cells #[.slice At ts.length ct, .slice As s.len cs] 25)) 0 (W.alloc (.cells #[.slice At ts.length ct, .slice As s.len cs] 25)).heap.size ts At ct := hT.below hb0 (by simp)
  have hR0 : RepV (W.alloc (.cells #[.slice At ts.length ct, .slice As s.len cs] 25)) 0 (W.alloc (.cells #[.slice At ts.length ct, .slice As s.len cs] 25)).heap.size s As cs := hR.below hb0 (by simp)
  have hB := heap_alloc_new W (.cells #[.slice At ts.length ct, .slice As s.len cs] 25)
  have HB := Lib.hid hB
  have HZ := Lib.hid hz0
  clear hB hz0
  by_cases hsz : ts.length + s.size ≤ 1048576
  · have hsub : Hid (subI 1048576 (ts.length + s.size) = 1048576 - (ts.length + s.size : Nat)) := if_pos (by omega)
    go_enter Tryz.func3, Tryz.ntmps3
    go_wp2_with fail
    refine (szProgram_any ts.length ct At s As cs 1048576 _ hTl hTm hR0 (by omega) (by omega)).mono ?_
    rintro E w1 ⟨he, hb1⟩
    rw [hsub.out] at he
    subst he
    rw [HZ.out] at hb1
    have hs1 := hb1.size
    rw [HZ.out] at hs1
    have hB1 := (hb1.block W.heap.size (by omega)).trans HB.out
    have p0 : w1.cell? ⟨W.heap.size, 0, none⟩ = some (.slice At ts.length ct) := (cell_of_block hB1 0).trans rfl
    have p1 : w1.cell? ⟨W.heap.size, 1, none⟩ = some (.slice As s.len cs) := (cell_of_block hB1 1).trans rfl
    have hbb1 : Below W.heap.size W w1 := hb0.trans (hb1.mono (by omega))
    have HB1 := Lib.hid hB1
    clear hB1 hb1 hT0 hR0
    go_wp2_with fail
    refine (toProgram_any ts s At As ct cs _ (by omega) (by omega) (hT.below hbb1 hbb1.size) (hR.below hbb1 hbb1.size)).mono ?_
    rintro E w2 ⟨g1, g2, rfl, hI2, hS2, hb2⟩
    have hs2 := hb2.size
    have HB2 := Lib.hid ((hb2.block W.heap.size (by omega)).trans HB1.out)
    have hbb2 : Below W.heap.size W w2 := hbb1.trans (hb2.mono (by omega))
    clear hb2 p0 p1
    go_wp2_with fail
    refine (specLoansOf_any ts s _ _ _ _ w2 (by omega) (hI2.keep (Nat.zero_le _) (Nat.le_refl _) fun _ _ _ => rfl) (hS2.keep (Nat.zero_le _) (Nat.le_refl _) fun _ _ _ => rfl)).mono ?_
    rintro E w3 ⟨vs, rl, rfl, hvs, hans, hb3⟩
    have HANS := Lib.hid hans
    have hrl := hans.length
    have hvso := Lib.hid hvs.lt
    have hs3 := hb3.size
    have HVS := Lib.hid hvs
    have hB3 := (hb3.block W.heap.size (by omega)).trans HB2.out
    have p0 : w3.cell? ⟨W.heap.size, 0, none⟩ = some (.slice At ts.length ct) := (cell_of_block hB3 0).trans rfl
    have p1 : w3.cell? ⟨W.heap.size, 1, none⟩ = some (.slice As s.len cs) := (cell_of_block hB3 1).trans rfl
    have hbb3 : Below W.heap.size W w3 := hbb2.trans (hb3.mono (by omega))
    have HB3 := Lib.hid hB3
    clear hB3 hb3 hvs hI2 hS2 hans
    go_wp2_with fail
    refine (toProgram_s ts s At As ct cs _ (by omega) (by omega) (hT.below hbb3 hbb3.size) (hR.below hbb3 hbb3.size)).mono ?_
    rintro E w4 ⟨⟨k1, k2, rfl, hI4, hS4, hb4⟩, hsf4⟩
    have hs4 := hb4.size
    have HB4 := Lib.hid ((hb4.block W.heap.size (by omega)).trans HB3.out)
    have hbb4 : Below W.heap.size W w4 := hbb3.trans (hb4.mono (by omega))
    have HI4 := Lib.hid hI4
    have HS4 := Lib.hid hS4
    have HF4 := Lib.hid hsf4
    have h34 := hb4
    clear hb4 p0 p1 hI4 hS4 hsf4
    have hba := (Below.refl w4.heap.size w4).alloc (Nat.le_refl _) (.cells #[.slice (some ⟨k1, 0, none⟩) ts.length ts.length, .slice (some ⟨k2, 0, none⟩) s.len s.len] 31)
    have hza : (w4.alloc (.cells #[.slice (some ⟨k1, 0, none⟩) ts.length ts.length, .slice (some ⟨k2, 0, none⟩) s.len s.len] 31)).heap.size = w4.heap.size + 1 := by simp
    have hXa := heap_alloc_new w4 (.cells #[.slice (some ⟨k1, 0, none⟩) ts.length ts.length, .slice (some ⟨k2, 0, none⟩) s.len s.len] 31)
    have HXA := Lib.hid hXa
    have HZA := Lib.hid hza
    have hIa : IntsV (w4.alloc (.cells #[.slice (some ⟨k1, 0, none⟩) ts.length ts.length, .slice (some ⟨k2, 0, none⟩) s.len s.len] 31)) 0 (w4.alloc (.cells #[.slice (some ⟨k1, 0, none⟩) ts.length ts.length, .slice (some ⟨k2, 0, none⟩) s.len s.len] 31)).heap.size ts (some ⟨k1, 0, none⟩) ts.length := HI4.out.below hba (by simp)
    have hSa : RepV (w4.alloc (.cells #[.slice (some ⟨k1, 0, none⟩) ts.length ts.length, .slice (some ⟨k2, 0, none⟩) s.len s.len] 31)) 0 (w4.alloc (.cells #[.slice (some ⟨k1, 0, none⟩) ts.length ts.length, .slice (some ⟨k2, 0, none⟩) s.len s.len] 31)).heap.size s (some ⟨k2, 0, none⟩) s.len := HS4.out.below hba (by simp)
    have HIa := Lib.hid hIa
    have HSa := Lib.hid hSa
    have hbb4a := hbb4.trans (hba.mono (by omega))
    have hgz := hba.size
    clear hXa hza hIa hSa
    go_wp2_with fail
    refine (implLoansOf_any ts s _ _ _ _ _ HIa.out HSa.out (tab_below hTab hg hbb4a) (by omega)).mono ?_
    rintro E w6 ⟨vg, rl2, rfl, hvg, hans2, hb6⟩
    obtain rfl := hans2.unique HANS.out
    rw [HZA.out] at hvg hb6
    have hs6 := hb6.size
    rw [HZA.out] at hs6
    have h46 : Below w4.heap.size w4 w6 := hba.trans (hb6.mono (by omega))
    have hbb6 : Below W.heap.size W w6 := hbb4.trans (h46.mono (by omega))
    have HB6 := Lib.hid ((h46.block W.heap.size (by omega)).trans HB4.out)
    have HX6a := Lib.hid ((hb6.block w4.heap.size (by omega)).trans HXA.out)
    have HVG := Lib.hid hvg
    have hvgo := Lib.hid hvg.lt
    have HVS6 := Lib.hid ((HVS.out.below h34).below h46)
    clear hvg hba hb6 HIa HSa hans2 hbb4a hgz
    have HIg := Lib.hid (RowN.reads HVG.out)
    have HIs := Lib.hid (RowN.reads HVS6.out)
    go_wp2_with fail
    refine (eqLoanS_any rl2 _ _ w6 (by omega) HIg.out HIs.out).mono ?_
    rintro E w7 ⟨rfl, hb7⟩
    have hs7 := hb7.size
    have hB7 := (hb7.block W.heap.size (by omega)).trans HB6.out
    have hX7a := (hb7.block w4.heap.size (by omega)).trans HX6a.out
    have h47 : Below w4.heap.size w4 w7 := h46.trans (hb7.mono (by omega))
    have hbb7 : Below W.heap.size W w7 := hbb6.trans (hb7.mono (by omega))
    have hI7 : IntsV w7 0 w7.heap.size ts (some ⟨k1, 0, none⟩) ts.length := HI4.out.below h47 h47.size
    have hS7 : RepV w7 0 w7.heap.size s (some ⟨k2, 0, none⟩) s.len := HS4.out.below h47 h47.size
    have HB7 := Lib.hid hB7
    have HX7a := Lib.hid hX7a
    have HVG7 := Lib.hid (HVG.out.below hb7)
    have HVS7 := Lib.hid (HVS6.out.below hb7)
    have p0 : w7.cell? ⟨W.heap.size, 0, none⟩ = some (.slice At ts.length ct) := (cell_of_block hB7 0).trans rfl
    have p1 : w7.cell? ⟨W.heap.size, 1, none⟩ = some (.slice As s.len cs) := (cell_of_block hB7 1).trans rfl
    have x0 : w7.cell? ⟨w4.heap.size, 0, none⟩ = some (.slice (some ⟨k1, 0, none⟩) ts.length ts.length) := (cell_of_block hX7a 0).trans rfl
    have x1 : w7.cell? ⟨w4.heap.size, 1, none⟩ = some (.slice (some ⟨k2, 0, none⟩) s.len s.len) := (cell_of_block hX7a 1).trans rfl
    clear hB7 hX7a hb7 HIg HIs
    go_wp2_with fail
    go_region_held3 (fun w' => Below w7.heap.size w7 w' ∧ w'.cell? ⟨W.heap.size, 0, none⟩ = some (.slice At ts.length ct) ∧ w'.cell? ⟨W.heap.size, 1, none⟩ = some (.slice As s.len cs) ∧ w'.cell? ⟨w4.heap.size, 0, none⟩ = some (.slice (some ⟨k1, 0, none⟩) ts.length ts.length) ∧ w'.cell? ⟨w4.heap.size, 1, none⟩ = some (.slice (some ⟨k2, 0, none⟩) s.len s.len))
      (first | exact ⟨(Below.refl w7.heap.size w7).drew, p0, p1, x0, x1⟩ | exact held_P hbn (And.left ‹Below w7.heap.size w7 _ ∧ _›) rfl (by omega) (by omega) p0 p1 x0 x1)
      (first
        | (go_at_call 13; refine (toProgram_any ts s At As ct cs _ (by omega) (by omega) ?_ ?_).mono ?_; (have hbx := And.left ‹Below w7.heap.size w7 _ ∧ _›; exact hT.below (hbb7.trans (hbx.mono (by omega))) (by have := hbx.size; omega)); (have hbx := And.left ‹Below w7.heap.size w7 _ ∧ _›; exact hR.below (hbb7.trans (hbx.mono (by omega))) (by have := hbx.size; omega)); rintro E w' ⟨j1, j2, rfl, hI8, hS8, hbn⟩)
        | (go_at_call 16; refine (eqProgram_any ts s _ _ _ _ _ _ _ _ _ ?_ (hI8.keep (Nat.zero_le _) (Nat.le_refl _) fun _ _ _ => rfl) ?_ (hS8.keep (Nat.zero_le _) (Nat.le_refl _) fun _ _ _ => rfl)).mono ?_; (have hbx := And.left ‹Below w7.heap.size w7 _ ∧ _›; exact hI7.below hbx hbx.size); (have hbx := And.left ‹Below w7.heap.size w7 _ ∧ _›; exact hS7.below hbx hbx.size); rintro E w' ⟨rfl, hbn⟩))
    obtain ⟨hbl, p0', p1', x0', x1'⟩ := ‹Below w7.heap.size w7 _ ∧ _›
    have hsl := hbl.size
    clear p0 p1 x0 x1 hI7 hS7 p0' p1'
    have h4l := h47.trans (hbl.mono (by omega))
    have hszl := h4l.size
    have HVGl := Lib.hid (HVG7.out.below hbl)
    have HVSl := Lib.hid (HVS7.out.below hbl)
    have HIl := Lib.hid (HI4.out.below' h4l (Nat.le_refl _))
    have HSl := Lib.hid (HS4.out.below' h4l (Nat.le_refl _))
    have HFl : Hid (SoftIn w3.heap.size w4.heap.size _) := fun p h1 h2 => (World.frozen?_of_block (h4l.block p.block h2)).trans (HF4.out _ _ h1)
    have HBl := Lib.hid ((hbl.block W.heap.size (by omega)).trans HB7.out)
    have hbbl : Below W.heap.size W _ := hbb7.trans (hbl.mono (by omega))
    have h3l := h34.trans (h4l.mono (by omega))
    go_wp2_with fail
    refine (markProgram_any ts s k1 k2 w3.heap.size w4.heap.size 1 _ (by omega) (by omega) (by omega) (by omega) hszl hs4 HIl.out HSl.out HFl.out).mono ?_
    rintro E wb ⟨rfl, hspb⟩
    have hsb := hspb.size
    have HVGb := Lib.hid (HVGl.out.keep fun g hg => hspb.block g (by have := hvgo.out g hg; omega) (.inr (by have := hvgo.out g hg; omega)))
    have HVSb := Lib.hid (HVSl.out.keep fun g hg => hspb.block g (by have := hvso.out g hg; omega) (.inl (by have := hvso.out g hg; omega)))
    have HBb := Lib.hid ((hspb.block W.heap.size (by omega) (.inl (by omega))).trans HBl.out)
    have hbbb : Below W.heap.size W wb := hbbl.trans (hspb.below (by omega) (by omega))
    have hkd : decide ((1 : Int) + ts.length + 4 * s.size < 0) = false := decide_eq_false (by omega)
    clear hspb x0' x1' hbl h4l h3l hbbl
    go_wp2_with fail
    refine (eqLoanS_any rl2 _ _ wb (by omega) (RowN.reads HVGb.out) (RowN.reads HVSb.out)).mono ?_
    rintro E wd ⟨rfl, hbd⟩
    have hsd := hbd.size
    have HVGd := Lib.hid (HVGb.out.below hbd)
    have HVSd := Lib.hid (HVSb.out.below hbd)
    have HBd := Lib.hid ((hbd.block W.heap.size (by omega)).trans HBb.out)
    have hbbd : Below W.heap.size W wd := hbbb.trans (hbd.mono (by omega))
    clear hbd
    go_wp2_with fail
    refine (markLoanS_val (w4.heap.size + 1) _ rl2 1 wd HVGd.out (by omega) (by omega) (by omega)).mono ?_
    rintro E we ⟨rfl, hmk, hbe⟩
    have hse := hbe.size
    have HMK := Lib.hid hmk
    have HVSe := Lib.hid (HVSd.out.keep fun g hg => hbe.block g (by have := hvso.out g hg; omega))
    have hBe2 := Lib.hid ((hbe.block W.heap.size (by omega)).trans HBd.out)
    have hbbe : Below W.heap.size W we := hbbd.trans (hbe.mono (by omega))
    clear hmk hbe
    go_wp2_with fail
    refine (heldLoanS_val _ rl2.length 1 we HMK.out (by omega) (by omega) (by omega)).mono ?_
    rintro E we2 ⟨rfl, hbe2⟩
    have hq0 : ¬ (1 : Int) + 3 * rl2.length < 0 := by omega
    have hse2 := hbe2.size
    replace HMK := Lib.hid (HMK.out.below hbe2)
    replace HVSe := Lib.hid (HVSe.out.below hbe2)
    have hBe := (hbe2.block W.heap.size (by have := hbbe.size; have := Array.getElem?_eq_some_iff.mp hBe2.out; omega)).trans hBe2.out
    have p0 : we2.cell? ⟨W.heap.size, 0, none⟩ = some (.slice At ts.length ct) := (cell_of_block hBe 0).trans rfl
    have p1 : we2.cell? ⟨W.heap.size, 1, none⟩ = some (.slice As s.len cs) := (cell_of_block hBe 1).trans rfl
    have hbbe := hbbe.trans (hbe2.mono (by omega))
    clear hbe2 hBe hBe2
    go_wp2_with fail
    refine (toProgram_any ts s At As ct cs we2 (by omega) (by omega) (hT.below hbbe (by omega)) (hR.below hbbe (by omega))).mono ?_
    rintro E wf ⟨j1, j2, rfl, hIf, hSf, hbf⟩
    have hsf := hbf.size
    have hbbf : Below W.heap.size W wf := hbbe.trans (hbf.mono (by omega))
    have hS9 := implLoansOf_any ts s _ _ _ _ wf (hIf.keep (Nat.zero_le _) (Nat.le_refl _) fun _ _ _ => rfl) (hSf.keep (Nat.zero_le _) (Nat.le_refl _) fun _ _ _ => rfl) (tab_below hTab hg hbbf) (by omega)
    clear hIf hSf
    go_wp2_with fail
    refine hS9.mono ?_
    rintro E wh ⟨vh, rl3, rfl, hvh, hans3, hbh⟩
    obtain rfl := hans3.unique HANS.out
    have hsh := hbh.size
    have hIh := RowN.reads hvh
    have hbeh := hbf.trans (hbh.mono hsf)
    have HIh := Lib.hid hIh
    have HVSh := Lib.hid (HVSe.out.below hbeh)
    have hbbh : Below W.heap.size W wh := hbbf.trans (hbh.mono (by omega))
    clear hvh hIh hS9 hbh hbf hans3
    go_wp2_with fail
    refine (eqLoanS_any rl3 _ _ wh (by omega) HIh.out (RowN.reads HVSh.out)).mono ?_
    rintro E wi ⟨rfl, hbi⟩
    have HMKi := Lib.hid (HMK.out.below (hbeh.trans (hbi.mono (by omega))))
    have hbbi : Below W.heap.size W wi := hbbh.trans (hbi.mono (by omega))
    clear hbi hbeh
    go_wp2_with fail
    refine (heldLoanS_val _ rl3.length 1 wi HMKi.out (by omega) (by omega) (by omega)).mono ?_
    rintro E wj ⟨rfl, hbj⟩
    have hbbj : Below W.heap.size W wj := hbbi.trans (hbj.mono hbbi.size)
    clear hbj
    go_wp2_with fail
    go_ret
    exact ⟨rfl, hbbj⟩
  · have hsub : Hid (subI 1048576 (ts.length + s.size) = -1) := if_neg (by omega)
    go_enter Tryz.func3, Tryz.ntmps3
    go_wp2_with fail
    refine (szProgram_any ts.length ct At s As cs 1048576 _ hTl hTm hR0 (by omega) (by omega)).mono ?_
    rintro E w1 ⟨he, hb1⟩
    rw [hsub.out] at he
    subst he
    rw [HZ.out] at hb1
    go_wp2_with fail
    go_ret
    exact ⟨rfl, hb0.trans (hb1.mono (by omega))⟩

theorem own : ownKnob Tryz.prog.godebug = none := by kernel_rfl
theorem laidOut : laidOutB Tryz.prog = true := by kernel_rfl

set_option maxRecDepth 100000 in
theorem lifted (os : Os) (started : os.Started) (H : Type) (enc : TypeId × Value → H) :
    ReturnsInHanded {} Tryz.checked os 3 .any (fun w args => (Rows.fnExactLoansOfSpec.pre enc Tryz.prog Tryz.f3 [] false w args ∧ laidMetH Tryz.prog listed w) ∧ sizedMet enc Tryz.prog Tryz.f3 (OpenSpec.ofChange Rows.fnExactLoansOfSpec) false w args)
      (Rows.fnExactLoansOfSpec.post enc Tryz.prog Tryz.f3 false true false false) := by
  refine returnsInHanded_of_change_and (C := Tryz.checked) (X := fun w _ => laidMetH Tryz.prog listed w) (fun _ _ _ hh h => h.of_heap hh) own started (by kernel_rfl) Tryz.func3
    (ChangeSpec.witness_shaped (enc := enc) (C := Tryz.checked) (os := os) (X := fun w _ => laidMetH Tryz.prog listed w) false (World.doorLaid Tryz.prog 400 os) #[.agg #[.slice none 0 0, .slice none 0 0]] 8 rfl (World.shaped_of_RefB (by kernel_rfl) (by kernel_rfl)) (by kernel_rfl) (by kernel_rfl) (by kernel_rfl) (door_met os _)) ?_
  intro W base args ds gs before hval0 hW _ _ hL _
  have hval : ∀ (j : Nat) t v, Tryz.f3.params[j]? = some t → args[j]? = some v → Value.okWide Tryz.prog W .any base t v := hval0
  have hW' := hW
  obtain ⟨p, q, hA0, hV, rfl, hfz, hnd⟩ := hW
  have hA : DataW.TrodAll enc Tryz.prog W 0 (fun _ => true) true Tryz.f3.params.toList args.toList ds p := hA0
  rw [Tryz.params3] at hA hval
  obtain ⟨v0, vs0, d0, ds0, p0, q0, hargs, rfl, rfl, h0, r0⟩ := trodAll_cons hA
  obtain ⟨rfl, rfl, rfl⟩ := trodAll_nil r0
  obtain rfl : args = #[v0] := by cases args; simp_all
  obtain ⟨rfl, rfl⟩ := trodVars_none hV
  have k0 := h0
  have lt0 : ∀ x ∈ p0, x.block < W.heap.size := by obtain ⟨m, hm⟩ := k0; exact DataW.trod_lt m _ _ _ hm
  obtain ⟨c0, e0, y0, z0, n0, rfl, hd0, hp0, hy0, hz0⟩ := open_agg2 Tryz.underlying25 (by kernel_rfl) Tryz.cellsProgR (hval 0 25 v0 rfl rfl) h0
  obtain ⟨ts0, At0, ct0, rfl, hT0⟩ := read_ints hy0
  obtain ⟨s0, As0, cs0, rfl, hR0⟩ := read_stmts _ _ _ hz0
  obtain ⟨hTab, hTabLt⟩ := tab_of_laid hL
  clear hA0 hval0
  simp only [List.append_nil] at hW'
  refine (walk ts0 s0 At0 As0 ct0 cs0 W hT0 hR0 hTab hTabLt).mono fun e W' ⟨he, bel⟩ => ?_
  subst he
  exact ⟨_, rfl, _, _, _, [], _, [], hW', trodAll_mk1 (shut_bool Tryz.underlying4 _), (trodAll_cons_mk (Below.trod laidOut (by kernel_rfl) (of_decide_eq_true (by kernel_rfl)) k0 bel lt0) trodAll_mk0), rfl, bel.frame _, fun h => by cases h⟩

theorem over : Rows.fnExactLoansOfRow.holds Tryz.pinned (OpenSpec.ofChange Rows.fnExactLoansOfSpec) :=
  OpenClaim.holds_of_wide 3 Tryz.f3 rfl rfl rfl rfl rfl rfl rfl ⟨rfl, rfl, rfl, rfl, rfl⟩ rfl rfl rfl rfl rfl (by kernel_rfl) Tryz.func3 (by kernel_rfl)
    (of_decide_eq_true (by kernel_rfl)) (by unfold Func.isWrapper; first | (rw [if_pos (by decide +kernel)]; kernel_rfl) | (rw [if_neg (by decide +kernel)]; exact ⟨rfl, rfl⟩))
    (fun os started H enc _ => lifted os started H enc)

set_option maxRecDepth 100000 in
theorem proved : Rows.FnExactLoansOfCardSaid :=
  Claim7.holds_tied_plain_at .later [] [.data] true (true, "2d980463ff887a466bc62581025fec2c6c3fca02220bae4487770537fdc006ce") false
    over (fun _ h => by cases h) (by kernel_rfl) (fun _ h => by cases h) fnExactLoansOf_row_tie rfl ⟨rfl, rfl⟩ (by kernel_rfl) rfl
    (fun f fn hf hfn => by
      obtain rfl : f = 3 := Option.some.inj ((show Tryz.prog.funcNamed "loop.example/borrowcheck/laws.FnExactLoansOf" = some 3 by kernel_rfl).symm.trans hf) |>.symm
      obtain rfl : fn = Tryz.f3 := (Option.some.inj (Tryz.func3.symm.trans hfn)).symm
      exact ⟨by kernel_rfl, fun j t ht => by
        rw [Tryz.params3] at ht
        have hm : t ∈ [25] := by simpa using Array.mem_of_getElem? ht
        have hall : ([25].all fun u => !Tryz.prog.wantsStandIn u) = true := by kernel_rfl
        exact (show Tryz.prog.wantsStandIn t = false by simpa using List.all_eq_true.1 hall t hm)⟩)
    (by kernel_rfl)
#print axioms proved
end Go.Proofs.YtidjphifgemicaaGreatDoor.fnLoansOf
