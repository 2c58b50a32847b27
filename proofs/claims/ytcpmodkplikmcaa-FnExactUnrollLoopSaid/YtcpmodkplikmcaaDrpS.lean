/-
  Removing a statement, as the model does it.
-/
import Derived.Test.YtcpmodkplikmcaaDrpI
import Derived.Test.YtcpmodkplikmcaaSpecD
import Derived.Test.YtcpmodkplikmcaaCof0
import Derived.Deep.DeepCutAuto
import Derived.Deep.RegionLaw
namespace Go.Proofs.Ytcpmodkplikmcaa
open Go.RowKit Go.Deep
set_option linter.unusedVariables false

/-- An answer of the model: a program, or none. -/
def AnsS (w : World) (B : Nat) (ok : Bool) (ts : List Int) (s : Sts) (v : Value) : Prop := if ok then ∃ (A A' : Option Addr) (c c' : Nat), v = .agg #[.slice A ts.length c, .slice A' s.len c'] ∧ IntsV w B w.heap.size ts A c ∧ RepV w B w.heap.size s A' c' else v = .agg #[.slice none 0 0, .slice none 0 0]

theorem ownsRow_front {w : World} {B n k c : Nat} {A : Option Addr} {rs : List StR} (h : w.ownsRow B 53 6 (.slice A n c) rs.length (rs.flatMap StR.cells)) (hn : n = rs.length) (hk : k ≤ n) (h0 : 0 < n) : w.ownsRow B 53 6 (.slice A k c) (rs.take k).length ((rs.take k).flatMap StR.cells) := by
  subst hn
  have hl : (rs.take k).length = k := by rw [List.length_take]; omega
  rw [hl]
  rcases h.2 with ⟨h1, h2⟩ | ⟨g, cap, cur, h1, h2, h3, h4, h5, h6, h7⟩
  · omega
  · injection h1 with e1 e2 e3
    subst e1 e3
    refine ⟨by rw [flatS_len StR.cells_length, hl], .inr ⟨g, c, cur, rfl, h2, h3, by omega, h5, h6, ?_⟩⟩
    have hs : rs.flatMap StR.cells = (rs.take k).flatMap StR.cells ++ (rs.drop k).flatMap StR.cells := by rw [← List.flatMap_append, List.take_append_drop]
    have hfl : ((rs.take k).flatMap StR.cells).length = k * 6 := by rw [flatS_len StR.cells_length, hl]
    have h8 : cur.toList.take (k * 6) = (cur.toList.take (rs.length * 6)).take (k * 6) := by
      rw [List.take_take]
      congr 1
      omega
    rw [h8, h7, hs, ← hfl, List.take_left]

theorem RowI.intsLo {w : World} {B n c : Nat} {A : Option Addr} {xs : List Int} (h : RowI w B (.slice A n c) xs) : IntsV w B w.heap.size xs A c := by
  obtain ⟨h1, h2, h3⟩ := h.intsV
  refine ⟨h1, h2, fun h0 => ?_⟩
  obtain ⟨b, e1, _, e3, e4⟩ := h3 h0
  subst e1
  exact ⟨b, rfl, (h.lt b.block rfl).1, e3, e4⟩

theorem step_append_run {w : World} {ops : Array Oper} {o : Oper} {a : Act} {K : Act → World → Prop} {Q : Exit → Act → World → Prop} {E : Prop} (hgd : o.guard = none) (s x : Operand) {t1 t2 : TypeId}
    (ho : o.op = .call { callee := .builtin .append, args := #[s, x], argTypes := #[t1, t2] }) (vs vx : Value) (hs : a.eval s = vs) (hx : a.eval x = vx) (v' : Value) (w' : World) (hr : (Builtin.append_ #[t1, t2] o.type #[vs, vx]).run Try.prog w = .ok v' w') (h : K (a.put o.dst v') w') :
    if Region.wanted o (yielded ops a.tmps) = true then Oper.wp Try.prog o a w K Q else E := by
  have hw : Region.wanted o (yielded ops a.tmps) = true := by simp [Region.wanted, hgd]
  rw [if_pos hw]
  exact Lib.wp_append_run w s x t1 t2 ho vs vx hs hx v' w' hr h

theorem srcR_of_own {w : World} {B c : Nat} {A : Option Addr} {rs : List StR} (h : w.ownsRow B 53 6 (.slice A rs.length c) rs.length (rs.flatMap StR.cells)) : SrcR w A c rs := by
  obtain ⟨A', c', hv, h1, h2, h3⟩ := own_form h
  injection hv with e1 e2 e3
  subst e1 e3
  exact ⟨h1, h2, fun h0 => by
    obtain ⟨g, rfl, hB, hg⟩ := h3 h0
    exact ⟨_, rfl, hg, fun j u hj => World.ownsRow.cells h (g := g) rfl j u hj⟩⟩

set_option maxRecDepth 100000 in
set_option maxHeartbeats 2000000 in
theorem specDropStmt_any (ts : List Int) (s : Sts) (At As : Option Addr) (ct cs : Nat) (k : Int) (w : World) (hsz : s.size ≤ 1048576) (hT : IntsV w 0 w.heap.size ts At ct) (hS : RepV w 0 w.heap.size s As cs) :
    Calls Try.prog 29 #[.agg #[.slice At ts.length ct, .slice As s.len cs], .int .i64 k] w fun E w' => ∃ v, E = .returned (.tuple #[v, .bool (dropOk ts s k)]) ∧ AnsS w' w.heap.size (dropOk ts s k) ts (s.del k.toNat) v ∧ Below w.heap.size w w' := by
  obtain ⟨W, hW⟩ : ∃ W, (w.alloc (.cells #[.slice At ts.length ct, .slice As s.len cs] 29)).alloc (.cells #[.slice none 0 0, .slice none 0 0] 29) = W := ⟨_, rfl⟩
  have hbW : Below w.heap.size w W := by rw [← hW]; exact ((Below.refl _ _).alloc (Nat.le_refl _) _).alloc (by simp) _
  obtain ⟨hWP, hWR, hWz⟩ := heap2 w (.cells #[.slice At ts.length ct, .slice As s.len cs] 29) (.cells #[.slice none 0 0, .slice none 0 0] 29)
  rw [hW] at hWP hWR hWz
  have hv := specProgramValid_any ts s At As ct cs W hsz (hT.below hbW hbW.size) (hS.below hbW hbW.size)
  have HT := Lib.hid (hT.below hbW hbW.size)
  have HS := Lib.hid (hS.below hbW hbW.size)
  have HBW := Lib.hid hbW
  have HWP := Lib.hid hWP
  have HWR := Lib.hid hWR
  have p0 : W.cell? ⟨w.heap.size, 0, none⟩ = some (.slice At ts.length ct) := (cell_of_block hWP 0).trans rfl
  have p1 : W.cell? ⟨w.heap.size, 1, none⟩ = some (.slice As s.len cs) := (cell_of_block hWP 1).trans rfl
  have hcm := hS.2.1
  have hlc := hS.1
  unfold maxLen at hcm
  clear hT hS hbW hWP hWR
  go_enter Try.func29, Try.ntmps29
  go_wp2_with fail
  clear hW
  refine hv.mono ?_
  rintro E w1 ⟨rfl, hb1⟩
  have HB1 := Lib.hid (HBW.out.trans (hb1.mono (by omega)))
  have hP1 := (hb1.block w.heap.size (by omega)).trans HWP.out
  have hR1 := (hb1.block (w.heap.size + 1) (by omega)).trans HWR.out
  have q0 : w1.cell? ⟨w.heap.size, 0, none⟩ = some (.slice At ts.length ct) := (cell_of_block hP1 0).trans rfl
  have q1 : w1.cell? ⟨w.heap.size, 1, none⟩ = some (.slice As s.len cs) := (cell_of_block hP1 1).trans rfl
  have r0 : w1.cell? ⟨w.heap.size + 1, 0, none⟩ = some (.slice none 0 0) := (cell_of_block hR1 0).trans rfl
  have r1 : w1.cell? ⟨w.heap.size + 1, 1, none⟩ = some (.slice none 0 0) := (cell_of_block hR1 1).trans rfl
  have y0 := frozen_of_block hR1 0
  have y1 := frozen_of_block hR1 1
  have hwz := hb1.size
  have HR1 := Lib.hid hR1
  have HT1 := Lib.hid (HT.out.below hb1 hwz)
  have HS1 := Lib.hid (HS.out.below hb1 hwz)
  have hno : Hid (∀ v, dropOk ts s k = false → v = Value.agg #[.slice none 0 0, .slice none 0 0] → ∀ w', AnsS w' w.heap.size (dropOk ts s k) ts (s.del k.toNat) v) := fun v h hv w' => by unfold AnsS; rw [h, if_neg (by simp)]; exact hv
  have hBz := Lib.hid ((HB1.out.setCell (p := ⟨w.heap.size + 1, 0, none⟩) (by simp) (.slice none 0 0)).setCell (p := ⟨w.heap.size + 1, 1, none⟩) (by simp) (.slice none 0 0))
  clear hv hb1 hP1 hR1 p0 p1
  cases hvb : validB ts s
  · have hd : dropOk ts s k = false := by unfold dropOk; rw [hvb]; rfl
    have HD := Lib.hid hd
    clear hd hvb HT1 HS1
    go_wp2_with fail
    exact bodyPost_ret (v := .tuple #[.agg #[.slice none 0 0, .slice none 0 0], .bool false]) (by simp [results, Try.results29, go_sem, r0, r1]) rfl ⟨_, by rw [HD.out], hno.out _ HD.out rfl _, hBz.out⟩
  · by_cases hk0 : 0 ≤ k
    · by_cases hk1 : k < (s.len : Int)
      · have hd : dropOk ts s k = true := by unfold dropOk; rw [hvb, decide_eq_true hk0, decide_eq_true hk1]; rfl
        have HD := Lib.hid hd
        obtain ⟨K, rfl⟩ : ∃ K : Nat, k = (K : Int) := ⟨k.toNat, by omega⟩
        have hsize : s.size ≤ 30 := by
          have := hvb
          unfold validB at this
          simp at this
          omega
        have htl : ts.length ≤ 6 := by
          have := hvb
          unfold validB typesB at this
          simp at this
          omega
        have hco := l1CopyOf_any ts s At As ct cs w1 (by omega) (by omega) HT1.out HS1.out
        clear hd hvb
        go_wp2_with fail
        refine hco.mono ?_
        rintro E w3 ⟨rs, A, A', c, c', B2, rfl, hI, hRS, hof, hb3, hB2a, hB2b, hsep⟩
        have hrl : rs.length = s.len := by rw [← hof, ofR_len]
        have hown := hRS.own
        obtain ⟨a, ha⟩ : ∃ a, A' = some a := by
          obtain ⟨A2, c2, hv2, _, _, h3⟩ := own_form hown
          injection hv2 with e1 e2 e3
          obtain ⟨g, hg, _⟩ := h3 (by omega)
          exact ⟨_, e1.trans hg⟩
        subst ha
        obtain ⟨W3, hW3⟩ : ∃ z, w3.alloc (.cells #[.slice A ts.length c, .slice (some a) rs.length c'] 29) = z := ⟨_, rfl⟩
        have hba : Below w3.heap.size w3 W3 := by rw [← hW3]; exact (Below.refl _ _).alloc (Nat.le_refl _) _
        have hOB : W3.heap[w3.heap.size]? = some (.cells #[.slice A ts.length c, .slice (some a) rs.length c'] 29 (0, 0)) := by rw [← hW3]; exact heap_alloc_new w3 _
        have hWz3 : W3.heap.size = w3.heap.size + 1 := by rw [← hW3]; simp
        have hz3 := hb3.size
        have hownW := own_below hown hba
        have hfr := ownsRow_front (k := K) hownW rfl (by omega) (by omega)
        have hsr := srcR_of_own hownW
        have hcap := hsr.cap
        have hmost := hsr.most
        unfold maxLen at hmost
        have hbk := hsr.back (K + 1) (by omega)
        obtain ⟨a2, ha2e⟩ : ∃ a2, (if c' = K + 1 then a else a.add ((K + 1) * 6)) = a2 := ⟨_, rfl⟩
        rw [ha2e] at hbk
        have hsl1 := fun X => slice_front (a := a) (n := rs.length) (c := c') (k := K) (by omega) (by omega) (by omega) X
        have hsl2 := fun X => slice_back (a := a) (n := rs.length) (c := c') (m := K + 1) (by omega) (by omega) (by omega) X
        rw [ha2e] at hsl2
        have hk9 : (K : Int) + 1 ≤ 1000000 := by have := s.len_le_size; omega
        have hkw : IntKind.i64.wrap ((K : Int) + 1) = (K : Int) + 1 := by rw [IntKind.wrap_i64]; omega
        have hki : ((K : Int) + 1) = ((K + 1 : Nat) : Int) := by omega
        rw [← hki] at hsl2
        clear hki
        have hbl : (rs.drop (K + 1)).length = rs.length - (K + 1) := by rw [List.length_drop]
        have hdel := ofR_del rs K
        rw [hof] at hdel
        have HAP : Hid (∀ X : World, X.heap = W3.heap → X.os = W3.os → X.tape = W3.tape → X.output = W3.output → ∃ (Av : Option Addr) (cv : Nat) (w' : World), (Builtin.append_ #[27, 27] 27 #[.slice (some a) K c', .slice (some a2) (rs.length - (K + 1)) (c' - (K + 1))]).run Try.prog X = .ok (.slice Av (s.del K).len cv) w' ∧ (∀ w6 : World, w6.heap.size = w'.heap.size → (∀ q, q ≠ w3.heap.size → w6.heap[q]? = w'.heap[q]?) → RepV w6 B2 w6.heap.size (s.del K) Av cv) ∧ Below B2 W3 w' ∧ w'.heap[w3.heap.size]? = some (.cells #[.slice A ts.length c, .slice (some a) rs.length c'] 29 (0, 0))) := fun X h1 h2 h3 h4 => by
          have hXb : Below X.heap.size W3 X := ⟨h2, h3, h4, by rw [h1]; exact Nat.le_refl _, fun q _ => by rw [h1]⟩
          have hXz : X.heap.size = W3.heap.size := by rw [h1]
          have hf2 := own_keep hfr (w' := X) fun g _ => by rw [h1]
          have hb2 := hbk.below hXb (by omega)
          obtain ⟨v', w', hr, ho, hg, hat⟩ := run_append_stmts X B2 (.slice (some a) K c') (rs.take K) (some a2) (c' - (K + 1)) (rs.drop (K + 1)) hf2 hb2 (by rw [List.length_take, List.length_drop]; have := s.len_le_size; omega) (by omega)
          rw [hbl] at hr
          obtain ⟨Av, cv, rfl, o1, o2, o3⟩ := own_form ho
          have hle : (rs.take K ++ rs.drop (K + 1)).length = (s.del K).len := by rw [← hdel, ofR_len]
          have hblk : ∀ q, q < W3.heap.size → (Value.slice (some a) K c').ownBlock ≠ some q → w'.heap[q]? = W3.heap[q]? := fun q q1 q2 => (hg.block q (by omega) (fun e => q2 e.symm)).trans (by rw [h1])
          have hoff : ∀ q, (Value.slice (some a) K c').ownBlock = some q → B2 ≤ q ∧ q < w3.heap.size := fun q hq => hown.lt q hq
          refine ⟨Av, cv, w', by rw [← hle]; exact hr, fun w6 h6z h6 => ⟨by rw [← hle]; exact o1, o2, fun h0 => ?_⟩, ⟨hg.os.trans h2, hg.tape.trans h3, hg.output.trans h4, by have := hg.size; omega, fun q hq => hblk q (by omega) fun e => by have := hoff q e; omega⟩, (hblk _ (by omega) fun e => by have := hoff _ e; omega).trans hOB⟩
          rw [← hle] at h0
          obtain ⟨g, rfl, g1, g2⟩ := o3 h0
          have hgne : g ≠ w3.heap.size := by
            rcases hat with h | h
            · have := hoff g (by rw [← h]; rfl)
              omega
            · have : g = X.heap.size := by simpa [Value.ownBlock] using h
              omega
          have ho6 := own_keep ho (w' := w6) fun q hq => h6 q (by
            have : g = q := by simpa [Value.ownBlock] using hq
            omega)
          refine ⟨_, rfl, g1, by rw [h6z]; exact g2, ?_⟩
          rw [← hdel]
          refine rep_of_cells _ _ (fun j u hj => World.ownsRow.cells ho6 (g := g) rfl j u hj) fun r hr => ?_
          have hr2 : r ∈ rs := by
            rcases List.mem_append.1 hr with hr | hr
            · exact List.mem_of_mem_take hr
            · exact List.mem_of_mem_drop hr
          have hkeep : ∀ q, B2 ≤ q → q < w3.heap.size → (Value.slice (some a) rs.length c').ownBlock ≠ some q → w6.heap[q]? = w3.heap[q]? := fun q _ q2 q3 => (h6 q (by omega)).trans ((hblk q (by omega) q3).trans (hba.block q q2))
          have hsz' := hg.size
          exact ⟨((hRS.firm r hr2).1 w6 hkeep).keep (Nat.le_refl _) (by omega) fun _ _ _ => rfl, ((hRS.firm r hr2).2 w6 hkeep).keep (Nat.le_refl _) (by omega) fun _ _ _ => rfl⟩
        have HI3 : Hid (∀ w', Below B2 W3 w' → IntsV w' w1.heap.size w'.heap.size ts A c) := fun w' hw => by
          have h1 : RowI w' w1.heap.size (.slice A ts.length c) ts := hI.keep fun g hg => (hw.block g (hsep g hg)).trans (hba.block g (by have := hsep g hg; omega))
          exact h1.intsLo
        have HB3 := Lib.hid ((HB1.out.trans (hb3.mono (by omega))).trans (hba.mono (by omega)))
        have HR3 := Lib.hid ((hba.block (w.heap.size + 1) (by omega)).trans ((hb3.block (w.heap.size + 1) (by omega)).trans HR1.out))
        obtain ⟨M, hM⟩ : ∃ M, rs.length = M := ⟨_, rfl⟩
        obtain ⟨n, hn⟩ : ∃ n, ts.length = n := ⟨_, rfl⟩
        have HN := Lib.hid hn
        have HKM : Hid (K + 1 ≤ M ∧ M ≤ c') := ⟨by omega, by omega⟩
        rw [hM] at hsl1 hsl2 HAP hOB hW3 hcap ⊢
        rw [hn] at HAP hOB hW3 ⊢
        have o0 : W3.cell? ⟨w3.heap.size, 0, none⟩ = some (.slice A n c) := (cell_of_block hOB 0).trans rfl
        have o1 : W3.cell? ⟨w3.heap.size, 1, none⟩ = some (.slice (some a) M c') := (cell_of_block hOB 1).trans rfl
        clear hco hI hRS hof hb3 hsep hown hownW hfr hsr hbk hbl hdel hba hM hn q0 q1 r0 r1 y0 y1 hBz hno HT1 HS1
        go_upto_region 4 with (fail)
        clear hW3
        go_cut [] (fun wx => ∃ (Av : Option Addr) (cv : Nat), Hid (wx.heap[w3.heap.size]? = some (.cells #[.slice A n c, .slice Av (s.del K).len cv] 29 (0, 0))) ∧ Hid (RepV wx B2 wx.heap.size (s.del K) Av cv) ∧ Hid (Below B2 W3 wx))
        case first =>
          obtain ⟨Av, cv, w5, hr5, hR5, hb5, hbx5⟩ := HAP.out W3.drew rfl rfl rfl rfl
          have z1 : w5.cell? ⟨w3.heap.size, 1, none⟩ = some (.slice (some a) M c') := (cell_of_block hbx5 1).trans rfl
          have zf := frozen_of_block hbx5 1
          have HR5 := Lib.hid hR5
          have HB5 := Lib.hid hb5
          have HX5 := Lib.hid hbx5
          obtain ⟨D, hD⟩ : ∃ D, (s.del K).len = D := ⟨_, rfl⟩
          have HD5 := Lib.hid hD
          rw [hD] at hr5
          clear hR5 hb5 hbx5 HAP hD
          go_region_law (refine step_append_run rfl _ _ rfl _ _ (by rfl) (by rfl) _ w5 hr5 ?_)
          all_goals (
            go_wp2_with fail
            go_meet
            refine ⟨Av, cv, ?_, ?_, ?_⟩
            · rw [HD5.out]
              exact block_set HX5.out 1 _
            · exact HR5.out _ (by simp [World.setCell]) fun q hq => Below.heap_setCell _ _ _ _ (by show q ≠ w3.heap.size; exact hq)
            · exact HB5.out.setCell (by show B2 ≤ w3.heap.size; omega) _)
        case rest =>
          obtain ⟨Av, cv, HX, HRv, HBv⟩ := hcut
          have hX := HX.out
          have o0 : wc.cell? ⟨w3.heap.size, 0, none⟩ = some (.slice A n c) := (cell_of_block hX 0).trans rfl
          have o1 : wc.cell? ⟨w3.heap.size, 1, none⟩ = some (.slice Av (s.del K).len cv) := (cell_of_block hX 1).trans rfl
          have hR3 := (HBv.out.block (w.heap.size + 1) (by omega)).trans HR3.out
          have u0 : wc.cell? ⟨w.heap.size + 1, 0, none⟩ = some (.slice none 0 0) := (cell_of_block hR3 0).trans rfl
          have u1 : wc.cell? ⟨w.heap.size + 1, 1, none⟩ = some (.slice none 0 0) := (cell_of_block hR3 1).trans rfl
          have f0 := frozen_of_block hR3 0
          have f1 := frozen_of_block hR3 1
          have hkp : ∀ p : Addr, w1.heap.size ≤ p.block → ((wc.setCell ⟨w.heap.size + 1, 0, none⟩ (.slice A n c)).setCell ⟨w.heap.size + 1, 1, none⟩ (.slice Av (s.del K).len cv)).cell? p = wc.cell? p := fun p hp =>
            (World.cell?_setCell_other _ _ _ _ (fun e => by have h9 : w.heap.size + 1 = p.block := congrArg Addr.block e; omega)).trans (World.cell?_setCell_other _ _ _ _ (fun e => by have h9 : w.heap.size + 1 = p.block := congrArg Addr.block e; omega))
          have HI4 := Lib.hid ((HI3.out wc HBv.out).keep (lo' := w.heap.size) (hi' := ((wc.setCell ⟨w.heap.size + 1, 0, none⟩ (.slice A n c)).setCell ⟨w.heap.size + 1, 1, none⟩ (.slice Av (s.del K).len cv)).heap.size) (by omega) (by simp [World.setCell]) fun p hp _ => hkp p hp)
          have HR4 := Lib.hid (HRv.out.keep (lo' := w.heap.size) (hi' := ((wc.setCell ⟨w.heap.size + 1, 0, none⟩ (.slice A n c)).setCell ⟨w.heap.size + 1, 1, none⟩ (.slice Av (s.del K).len cv)).heap.size) (by omega) (by simp [World.setCell]) fun p hp _ => hkp p (by omega))
          have HB4 := Lib.hid (((HB3.out.trans (HBv.out.mono (by omega))).setCell (p := ⟨w.heap.size + 1, 0, none⟩) (by simp) (.slice A n c)).setCell (p := ⟨w.heap.size + 1, 1, none⟩) (by simp) (.slice Av (s.del K).len cv))
          clear hX hR3 hkp
          go_wp2_with fail
          exact bodyPost_ret (v := .tuple #[.agg #[.slice A n c, .slice Av (s.del K).len cv], .bool true]) (by simp [results, Try.results29, go_sem, u0, u1]) rfl ⟨_, by rw [HD.out], by rw [HD.out]; unfold AnsS; rw [if_pos rfl]; exact ⟨A, Av, c, cv, by rw [HN.out]; rfl, HI4.out, HR4.out⟩, HB4.out⟩
      · have hd : dropOk ts s k = false := by unfold dropOk; rw [decide_eq_false hk1]; simp
        have HD := Lib.hid hd
        have hk2 : (s.len : Int) ≤ k := by omega
        clear hd hvb HT1 HS1
        go_wp2_with fail
        exact bodyPost_ret (v := .tuple #[.agg #[.slice none 0 0, .slice none 0 0], .bool false]) (by simp [results, Try.results29, go_sem, r0, r1]) rfl ⟨_, by rw [HD.out], hno.out _ HD.out rfl _, hBz.out⟩
    · have hd : dropOk ts s k = false := by unfold dropOk; rw [decide_eq_false hk0]; simp
      have HD := Lib.hid hd
      have hk2 : k < 0 := by omega
      clear hd hvb HT1 HS1
      go_wp2_with fail
      exact bodyPost_ret (v := .tuple #[.agg #[.slice none 0 0, .slice none 0 0], .bool false]) (by simp [results, Try.results29, go_sem, r0, r1]) rfl ⟨_, by rw [HD.out], hno.out _ HD.out rfl _, hBz.out⟩

end Go.Proofs.Ytcpmodkplikmcaa
