/-
  The way that a search leads to a point, by the program.
-/
import Derived.Test.YtlddoookojjleaaGreatDoorZSrI
import Derived.Test.YtlddoookojjleaaGreatDoorZRev
import Derived.Test.YtlddoookojjleaaGreatDoorZMem
namespace Go.Proofs.YtlddoookojjleaaGreatDoor
open Go.RowKit Go.Deep
set_option linter.unusedVariables false

/-- One step back on a way. -/
theorem toR_snoc {nx : Nat → List Nat} {f : Nat} {R : List (Nat × Nat)} (h : OkR nx f R) {t : Nat} (ht : t ∈ nmsR R) : ∃ pre, toR f R (parR R t) = pre ++ [parR R t] ∧ (pre ≠ [] → pre ++ [parR R t] = wayR f R (parR R t) ∧ parR R t ∈ nmsR R) := by
  by_cases e : parR R t = f
  · refine ⟨[], ?_, fun h => absurd rfl h⟩
    unfold toR
    rw [if_pos e, e]
    rfl
  · have hm := (parR_mem h ht).2 e
    have hw := wayR_step h hm
    refine ⟨toR f R (parR R (parR R t)), ?_, fun _ => ⟨hw.symm, hm⟩⟩
    unfold toR
    rw [if_neg e]
    exact hw

set_option maxRecDepth 100000 in
set_option maxHeartbeats 400000 in
theorem way_any (nx : Nat → List Nat) (f to S n B : Nat) (w : World) (hs : f ∉ nx f) (hn : ∀ a, ∀ x ∈ nx a, x < n) (hle : n ≤ 61) (hto : to < n) (hM : SrM w S (bfsE nx f)) :
    Calls Tryz.prog 15 #[.pointer (some ⟨S, 0, none⟩), .int .i64 to] w (WayPost13 nx f to w) := by
  obtain ⟨y, hy, hylt, hyb⟩ := hM.bits
  have hbit := bitHas_any y to hylt (by omega) w
  have hyb := hyb to (by omega)
  by_cases hm : to ∈ nmsR (bfsE nx f)
  · have hyt : y.testBit to = true := hyb.mpr hm
    rw [hyt] at hbit
    have hok := bfsE_ok hs
    have hlen := wayR_length hok hm
    have hdl := dstR_le (bfsE nx f) to
    have hRl := bfsE_len hs hn
    have hd0 := hM.dst (x := to) (by omega)
    have hst := wayR_step hok hm
    obtain ⟨D, hD⟩ : ∃ D, dstR (bfsE nx f) to = D := ⟨_, rfl⟩
    have hprl : (toR f (bfsE nx f) (parR (bfsE nx f) to)).length = D := by
      rw [hst, List.length_append] at hlen
      simp only [List.length_cons, List.length_nil] at hlen
      omega
    rw [hD] at hd0 hdl
    have hb1 := (Below.refl w.heap.size w).alloc (Nat.le_refl _) (.cells #[.int .i64 (to : Int)] 3)
    have hrow0 : RowI (w.alloc (.cells #[.int .i64 (to : Int)] 3)) w.heap.size (.slice (some ⟨w.heap.size, 0, none⟩) 1 1) (intsW [to].reverse) := World.ownsRow_lit (base := w.heap.size) (e := 3) (size := 1) w #[.int .i64 (to : Int)] 1 (by omega) (by simp [maxLen]) rfl
    have hSl := hM.lt
    have hd1 : (w.alloc (.cells #[.int .i64 (to : Int)] 3)).cell? ⟨S, 62 + to, none⟩ = some (.int .i64 (D : Int)) := (hb1.cell (show S < w.heap.size from hSl)).trans hd0
    have HST : Hid (∃ (k t : Nat) (pre rest : List Nat), Value.int .i64 (to : Int) = .int .i64 (t : Int) ∧ Value.int .i64 0 = .int .i64 (k : Int) ∧ k ≤ D ∧ D = D - k ∧ Hid (RowI (w.alloc (.cells #[.int .i64 (to : Int)] 3)) w.heap.size (.slice (some ⟨w.heap.size, 0, none⟩) 1 1) (intsW (t :: rest).reverse)) ∧ Hid (pre ++ t :: rest = wayE nx f to) ∧ Hid (pre.length = D - k) ∧ Hid (pre ≠ [] → pre ++ [t] = wayR f (bfsE nx f) t ∧ t ∈ nmsR (bfsE nx f)) ∧ Hid (Below w.heap.size w (w.alloc (.cells #[.int .i64 (to : Int)] 3)))) :=
      ⟨0, to, toR f (bfsE nx f) (parR (bfsE nx f) to), [], rfl, rfl, Nat.zero_le _, rfl, hrow0, hst.symm, hprl, fun _ => ⟨hst.symm, hm⟩, hb1⟩
    have HM := Lib.hid hM
    have HOK := Lib.hid hok
    have HN := Lib.hid hn
    have HMEM := Lib.hid hm
    have HWL : Hid ((wayE nx f to).length = D + 1) := by rw [← hD]; exact hlen
    have hD61 : D ≤ 61 := by omega
    clear hlen hdl hRl hd0 hst hprl hD hrow0 hok hM hyb hyt hn hm hs hb1
    go_enter Tryz.func15, Tryz.ntmps15
    go_wp2_with fail
    refine hbit.mono ?_
    rintro E w6 ⟨rfl, e6⟩
    rw [e6]
    clear hbit e6
    go_wp2_with fail
    generalize w.alloc (.cells #[.int .i64 (to : Int)] 3) = w1 at *
    clear hd1
    go_loopg [1, 6, 22] D (fun gg tv o kk wr => ∃ (k t : Nat) (pre rest : List Nat), tv = .int .i64 (t : Int) ∧ kk = .int .i64 (k : Int) ∧ k ≤ D ∧ gg = D - k ∧ Hid (RowI wr w.heap.size o (intsW (t :: rest).reverse)) ∧ Hid (pre ++ t :: rest = wayE nx f to) ∧ Hid (pre.length = D - k) ∧ Hid (pre ≠ [] → pre ++ [t] = wayR f (bfsE nx f) t ∧ t ∈ nmsR (bfsE nx f)) ∧ Hid (Below w.heap.size w wr))
    case atStart => exact HST
    case round =>
      clear HST
      obtain ⟨k, t, pre, rest, rfl, rfl, hk, hgg, HO, HE, HP, HT, HB⟩ := hrel
      have hbz := HB.out.size
      obtain ⟨Ao, co, ho⟩ := HO.out.slice
      rw [intsW_length, List.length_reverse, List.length_cons] at ho
      have hcl : (t :: rest).length ≤ 62 := by
        have h1 := congrArg List.length HE.out
        rw [List.length_append, HWL.out] at h1
        omega
      by_cases hlt : k < D
      · have hpne : pre ≠ [] := fun e => by
          have := HP.out
          rw [e] at this
          simp at this
          omega
        obtain ⟨hw1, htm⟩ := HT.out hpne
        have hpe : pre = toR f (bfsE nx f) (parR (bfsE nx f) t) := by
          rw [wayR_step HOK.out htm] at hw1
          exact List.append_cancel_right hw1
        obtain ⟨pre', hp1, hp2⟩ := toR_snoc HOK.out htm
        have htn : t < n := HN.out _ _ (parR_mem HOK.out htm).1
        have hti : (t : Int) < 61 := by omega
        have hpc := (HM.out.kept (HB.out.block S hSl)).par (x := t) (by omega)
        rw [hp1] at hpe
        obtain ⟨p, hp⟩ : ∃ p, parR (bfsE nx f) t = p := ⟨_, rfl⟩
        rw [hp] at hpe hp2 hpc
        have HE2 : Hid (pre' ++ p :: t :: rest = wayE nx f to) := Lib.hid (by rw [← HE.out, hpe, List.append_assoc]; rfl)
        have HP2 : Hid (pre'.length = D - (k + 1)) := Lib.hid (by
          have := HP.out
          rw [hpe, List.length_append] at this
          simp only [List.length_cons, List.length_nil] at this
          omega)
        have HT2 : Hid (pre' ≠ [] → pre' ++ [p] = wayR f (bfsE nx f) p ∧ p ∈ nmsR (bfsE nx f)) := hp2
        have HGG := Lib.hid hgg
        have hrowL : RowI (wr.alloc (.cells #[.int .i64 (p : Int)] 3)) wr.heap.size (.slice (some ⟨wr.heap.size, 0, none⟩) 1 1) [(p : Int)] := World.ownsRow_lit (base := wr.heap.size) (e := 3) (size := 1) wr #[.int .i64 (p : Int)] 1 (by omega) (by simp [maxLen]) rfl
        have hba := (Below.refl wr.heap.size wr).alloc (Nat.le_refl _) (.cells #[.int .i64 (p : Int)] 3)
        have HRL := Lib.hid hrowL
        have HO2 := Lib.hid (HO.out.below hba)
        have HB2 := Lib.hid (HB.out.alloc hbz (.cells #[.int .i64 (p : Int)] 3))
        have hcl2 : (intsW (t :: rest).reverse).length ≤ 62 := by rw [intsW_length, List.length_reverse]; exact hcl
        clear hpne hw1 htm hpe hp1 hp2 htn hp hgg HE HP HT HO hrowL hba
        subst ho
        go_wp2_with (at_builtin; refine wpList_append_rows rfl _ _ rfl w.heap.size wr.heap.size _ _ (intsW (t :: rest).reverse) [(p : Int)] (by rfl) rfl HO2.out HRL.out ?rb1 ?rb2 ?_)
        try (case rb1 => simp only [List.length_cons, List.length_nil]; omega)
        try (case rb2 => simp; omega)
        intro v' w' hr' hgr'
        have hown := HO2.out
        have hb' := HB2.out.grown hgr' (by simp; omega) (fun k hk => ((RowI.own hown).lt k hk).1)
        have HR' : Hid (RowI w' w.heap.size v' (intsW (p :: t :: rest).reverse)) := Lib.hid (by
          rw [List.reverse_cons, intsW_append, List.reverse_cons]
          exact hr')
        have HBB := Lib.hid hb'
        clear hr' hgr' hb' hown
        go_wp2_with fail
        go_roundg (D - (k + 1))
        case measure => rw [HGG.out]; omega
        case rel => exact ⟨k + 1, p, pre', t :: rest, rfl, by go_num, by omega, rfl, HR', HE2, HP2, HT2, HBB⟩
      · have hkd : k = D := by omega
        have hpn : pre = [] := List.eq_nil_of_length_eq_zero (by rw [HP.out]; omega)
        have hwe : t :: rest = wayE nx f to := by rw [← HE.out, hpn]; rfl
        have hl1 : rest.length + 1 = (wayE nx f to).length := by rw [← hwe]; rfl
        rw [hwe] at HO hcl
        have hrl : (intsW (wayE nx f to).reverse).length = (wayE nx f to).length := by rw [intsW_length, List.length_reverse]
        have hown := HO.out
        rw [ho] at hown
        obtain ⟨g, hAg, hgB⟩ : ∃ g, Ao = some ⟨g, 0, none⟩ ∧ w.heap.size ≤ g := by
          rcases hown.2 with ⟨h1, h2⟩ | ⟨g, cap, cur, h1, h2, h3⟩
          · rw [hrl, HWL.out] at h2
            omega
          · simp only [Value.slice.injEq] at h1
            exact ⟨g, h1.1, h2⟩
        subst hAg
        have hrev := reverse_any (intsW (wayE nx f to).reverse) g co w.heap.size wr hgB (by rw [hrl, HWL.out]; omega) (by rw [hrl, ← hl1]; exact hown)
        rw [hrl, ← hl1] at hrev
        rw [show (intsW (wayE nx f to).reverse).reverse = intsW (wayE nx f to) by unfold intsW; rw [List.map_reverse, List.reverse_reverse]] at hrev
        clear hkd hpn hwe hrl hown HE HP HT HO hgg hl1
        subst ho
        go_wp2_with fail
        refine hrev.mono ?_
        rintro E w5 ⟨rfl, hr5, hb5⟩
        have HR5 := Lib.hid hr5
        have HB5 := Lib.hid (HB.out.trans (hb5.mono hgB))
        clear hrev hr5 hb5
        go_wp2_with fail
        go_ret2
        exact ⟨_, .inl ⟨HMEM.out, rfl, HR5.out⟩, HB5.out⟩
  · have hyt : y.testBit to = false := by
      cases hh : y.testBit to
      · rfl
      · exact absurd (hyb.mp hh) hm
    rw [hyt] at hbit
    have HMEM := Lib.hid hm
    have HRW : Hid (RowI w w.heap.size (.slice none 0 0) []) := World.ownsRow_nil w w.heap.size 3 1
    clear hyt hyb hm hM
    go_enter Tryz.func15, Tryz.ntmps15
    go_wp2_with fail
    refine hbit.mono ?_
    rintro E w6 ⟨rfl, e6⟩
    rw [e6]
    clear hbit e6
    go_wp2_with fail
    go_ret2
    exact ⟨_, .inr ⟨HMEM.out, rfl, HRW.out⟩, Below.refl _ _⟩

end Go.Proofs.YtlddoookojjleaaGreatDoor
