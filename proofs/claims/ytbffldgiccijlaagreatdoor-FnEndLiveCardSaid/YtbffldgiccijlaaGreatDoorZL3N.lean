/-
  The places that are set in a list, by the model.
-/
import Derived.Test.YtbffldgiccijlaaGreatDoorZL2Xa
import Derived.Test.YtbffldgiccijlaaGreatDoorZBase
namespace Go.Proofs.YtbffldgiccijlaaGreatDoor
open Go.RowKit Go.Deep
set_option linter.unusedVariables false

set_option maxRecDepth 100000 in
set_option maxHeartbeats 4000000 in
theorem l3Numbers_any (F T c : Nat) (fl : Nat → Bool) (w : World) (hT : T ≤ 64) (hFw : F < w.heap.size) (hfl : FlAt w F T fl) :
    Calls Tryz.prog 62 #[.slice (some ⟨F, 0, none⟩) T c] w fun E w' => ∃ v, E = .returned v ∧ RowI w' w.heap.size v (firstN fl T) ∧ Below w.heap.size w w' := by
  have hb0 := (Below.refl w.heap.size w).alloc (Nat.le_refl _) (.cells #[] 3)
  have hrow0 : RowI (w.alloc (.cells #[] 3)) w.heap.size (.slice (some ⟨w.heap.size, 0, none⟩) 0 0) [] := World.ownsRow_lit (base := w.heap.size) (e := 3) (size := 1) w #[] 0 (Nat.le_refl _) (by simp [maxLen]) rfl
  have hf0 := hfl.keep (hb0.block F hFw)
  have HR0 := Lib.hid hrow0
  have HFL := Lib.hid hf0
  obtain ⟨i0, hi, hzz0, hzz1, hzz2⟩ := info_parts Tryz.infoInt
  have HI := Lib.hid hi
  have HZ0 := Lib.hid hzz0
  have HZ1 := Lib.hid hzz1
  have HZ2 := Lib.hid hzz2
  clear hi hzz0 hzz1 hzz2 hrow0 hf0 hfl
  go_enter Tryz.func62, Tryz.ntmps62
  go_wp2_with fail
  go_loopw [3, 4] (fun o i wr => ∃ k : Nat, i = .int .i64 k ∧ k ≤ T ∧ Hid (RowI wr w.heap.size o (firstN fl k)) ∧ Hid (FlAt wr F T fl) ∧ Below w.heap.size w wr) (fun _ i _ => T - (intOf i).toNat)
  case atStart => exact ⟨0, rfl, Nat.zero_le _, HR0, HFL, hb0⟩
  case round =>
    clear HR0 HFL hb0
    obtain ⟨k, rfl, hk, hrow, hfl, hb⟩ := hrel
    have hbz := hb.size
    by_cases hlt : k < T
    · have hcell := hfl.out.cell hlt
      have hln := firstN_length fl k
      cases hflk : fl k
      · rw [hflk] at hcell
        have e := Lib.hid (firstN_no hflk)
        go_wp2_with fail
        refine ⟨⟨k + 1, by simp, by omega, by rw [e.out]; exact hrow, hfl, hb⟩, ?_⟩
        simp only [intOf]
        omega
      · rw [hflk] at hcell
        have e := Lib.hid (firstN_yes hflk)
        have hap := hfl.out.apart hrow.out
        go_wp2_with (at_builtin; refine wpList_append_own _ rfl _ _ 23 rfl w.heap.size 3 i0 (.int .i64 0) 1 8 Tryz.underlying23 HI.out HZ0.out HZ1.out HZ2.out rfl (by decide) _ _ _ rfl ((RowI.own hrow.out).alloc _) ⟨_, 0, none⟩ 1 1 [.int .i64 (k : Int)] rfl rfl ?ra1 ?ra2 ?ra3 ?ra4 ?ra5 ?_)
        try (case ra1 => exact news1 (by simp) rfl)
        try (case ra2 => intro u hu; simp only [List.mem_cons, List.not_mem_nil, or_false] at hu; subst hu; rfl)
        try (case ra3 => unfold maxLen; omega)
        try (case ra4 => omega)
        try (case ra5 => simp; omega)
        intro v' w' hown' hgr hne
        have hb' := (hb.alloc hbz (.cells #[Value.int .i64 (k : Int)] 3)).grown hgr (by simp; omega) (fun g hg' => ((RowI.own hrow.out).lt g hg').1)
        have HR' : Hid (RowI w' w.heap.size v' (firstN fl k ++ [(k : Int)])) := RowI.snoc hown'
        have hF0 : F < wr.heap.size := by omega
        have hfl1 : FlAt (wr.alloc (.cells #[Value.int .i64 (k : Int)] 3)) F T fl := hfl.out.keep (((Below.refl wr.heap.size wr).alloc (Nat.le_refl _) _).block F hF0)
        have HF' := Lib.hid (hfl1.keep (hgr.block F (by simp; omega) (fun e => hap e.symm)))
        clear hown' hgr hne hfl1
        go_wp2_with fail
        refine ⟨⟨k + 1, by simp, by omega, by rw [e.out]; exact HR', HF', hb'⟩, ?_⟩
        simp only [intOf]
        omega
    · have hke : k = T := by omega
      subst hke
      go_wp2_with fail
      go_ret
      exact ⟨_, rfl, hrow.out, hb⟩

end Go.Proofs.YtbffldgiccijlaaGreatDoor
