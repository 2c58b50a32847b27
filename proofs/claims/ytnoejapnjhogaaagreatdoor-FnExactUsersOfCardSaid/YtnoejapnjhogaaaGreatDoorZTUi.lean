/-
  UsersOf of the program.
-/
import Derived.Test.YtnoejapnjhogaaaGreatDoorZTUs
import Derived.Test.YtnoejapnjhogaaaGreatDoorZTIm
import Derived.Test.YtnoejapnjhogaaaGreatDoorZT4P
import Derived.Test.YtnoejapnjhogaaaGreatDoorZBase
namespace Go.Proofs.YtnoejapnjhogaaaGreatDoor.tr
open Go.RowKit Go.Deep
set_option linter.unusedVariables false

theorem index_set {cs : Array Value} {us : Nat → Nat} (h : ∀ i, i < 61 → cs[i]? = some (.int .u64 (us i : Int))) {k : Nat} (hk : k < 61) (w : World) : (Instr.index 87 (.agg cs) (.int .i64 (k : Int))).run Tryz.prog w = .ok (.int .u64 (us k : Int)) w := by
  have hu := Tryz.underlying87
  have hs : (sizeOf 59).run Tryz.prog w = .ok 1 w := by kernel_rfl
  have hb : (0 : Int) ≤ (k : Int) ∧ (k : Int) < 61 := by omega
  have hc := h k hk
  simp [Instr.index, run_underlying hu, asIntOf, hs, hb, hk, hc, Result.andThen, go_sem]

theorem userB_lt {ts : List Int} {ns : List Nd} {s a : Nat} (hle : ns.length ≤ 61) (h : UserB ts ns s a) : a < 64 := by
  have := h.1
  omega

theorem ans_users {ts : List Int} {s : Sts} {k : Nat} {x : Nat} (hv : validB ts s = true) (hk : k < (progPts s).length) (hx : ∀ a, (x.testBit a = true ↔ UserB ts (progPts s) k a)) : AnsAt (UserB ts) (validB ts s) s (k : Int) (intsOf x) := by
  have hle : (progPts s).length ≤ 61 := by
    have h8 := s.npts_le
    have h9 := valid_size hv
    rw [progPts_len]
    omega
  refine .inl ⟨hv, by omega, by omega, fun j => x.testBit j, by unfold intsOf; rw [bitsOf_filter], fun l => ?_⟩
  rw [Int.toNat_natCast]
  exact ⟨fun h => (hx l).mp h.2, fun h => ⟨userB_lt hle h, (hx l).mpr h⟩⟩

set_option maxRecDepth 100000 in
set_option maxHeartbeats 4000000 in
theorem implUsersOf_any (ts : List Int) (s : Sts) (At As : Option Addr) (ct cs : Nat) (a : Int) (w : World) (hT : IntsV w 0 w.heap.size ts At ct) (hR : RepV w 0 w.heap.size s As cs)
    (hTab : TabAt 0 Lib.deBruijn64tab w) (hg : 0 < w.heap.size) :
    Calls Tryz.prog 29 #[.agg #[.slice At ts.length ct, .slice As s.len cs], .int .i64 a] w fun E w' => ∃ v' l, E = .returned v' ∧ RowI w' w.heap.size v' l ∧ AnsAt (UserB ts) (validB ts s) s a l ∧ Below w.heap.size w w' := by
  have hb0 := (Below.refl w.heap.size w).alloc (Nat.le_refl _) (.cells #[.slice At ts.length ct, .slice As s.len cs] 30)
  have hz0 : (w.alloc (.cells #[.slice At ts.length ct, .slice As s.len cs] 30)).heap.size = w.heap.size + 1 := by simp
  have HZ := Lib.hid hz0
  have hnil : ∀ W : World, RowI W w.heap.size (.slice none 0 0) [] := fun W => World.ownsRow_nil W w.heap.size 3 1
  cases hok : validB ts s
  · have hS := flowsOf_no ts s At As ct cs _ hok (hT.below hb0 (by simp)) (hR.below hb0 (by simp))
    clear hz0 hok
    go_enter Tryz.func29, Tryz.ntmps29
    go_wp2_with fail
    refine hS.mono ?_
    rintro E w1 ⟨rfl, hb1⟩
    rw [HZ.out] at hb1
    have hb : Below w.heap.size w w1 := hb0.trans (hb1.mono (by omega))
    clear hb1 hS hb0
    go_wp2_with fail
    go_ret
    exact ⟨_, [], rfl, hnil _, .inr ⟨fun h => (by cases h.1), rfl⟩, by first | exact hb | exact hb.drew⟩
  · have hS := flowsOf_yes ts s At As ct cs _ hok (hT.below hb0 (by simp)) (hR.below hb0 (by simp))
    have hA := progPts_allTyped hok
    have hD := progPts_ok s (valid_ok hok).2.1
    by_cases hin : 0 ≤ a ∧ a < ((progPts s).length : Int)
    · obtain ⟨h0, h1⟩ := hin
      obtain ⟨k, rfl⟩ : ∃ k : Nat, a = (k : Int) := ⟨a.toNat, by omega⟩
      have hmk : ∀ x : Nat, (∀ b, (x.testBit b = true ↔ UserB ts (progPts s) k b)) → AnsAt (UserB ts) true s (k : Int) (intsOf x) := fun x hx => by
        have h9 := ans_users hok (by omega) hx
        rwa [hok] at h9
      generalize progPts s = ds at hS h1 hA hD hmk
      generalize s.npts = zq at hD
      have hkl : k < ds.length := by omega
      have HD := Lib.hid hD
      have HA := Lib.hid hA
      have HMK := Lib.hid hmk
      clear hz0 hok hA hD hT hR hmk
      go_enter Tryz.func29, Tryz.ntmps29
      go_wp2_with fail
      refine hS.mono ?_
      rintro E w1 ⟨C, F, hi, A2, c2, ah, bk, rfl, hF, hfl, hb1⟩
      rw [HZ.out] at hb1
      have HB := Lib.hid (hb0.trans (hb1.mono (by omega)))
      have hgc := hfl.grCell
      have hhas := has_yes C k ds w1 hfl.gr hkl
      have HFL := Lib.hid hfl
      have hk61 : k < 61 := by have := hfl.gr.le; omega
      clear hfl hb1 hS hb0
      go_wp2_with fail
      refine hhas.mono ?_
      rintro E w2 ⟨rfl, hb2⟩
      have HFL2 := Lib.hid (HFL.out.keep hb2)
      have HB2 := Lib.hid (HB.out.trans (hb2.mono HB.out.size))
      have hus := users_any ts ds zq C F hi A2 c2 ah bk w2 HFL2.out HD.out HA.out (tab_below hTab hg HB2.out) (by have := HB2.out.size; omega)
      clear hhas hb2 hgc HFL HB
      go_wp2_with fail
      refine hus.mono ?_
      rintro E w5 ⟨csU, us, rfl, u1, u2, u3, u4, hb5⟩
      have HB5 := Lib.hid (HB2.out.trans (hb5.mono HB2.out.size))
      have ki0 : (0 : Int) ≤ (k : Int) := by omega
      have ki1 : (k : Int) < 61 := by omega
      have hix := index_set u2 hk61 w5
      have HANS := Lib.hid (HMK.out (us k) (u4 k hk61))
      have hlt : us k < 18446744073709551616 := Nat.lt_trans (u3 k) (by decide)
      obtain ⟨y, hy⟩ : ∃ y, y = us k := ⟨_, rfl⟩
      rw [← hy] at hix HANS hlt
      have hls := setList_any y hlt w5 (tab_below hTab hg HB5.out) (by have := HB5.out.size; omega)
      clear hus hb5 u1 u2 u3 u4 hy HFL2 HB2 hlt
      go_wp2_with fail
      refine hls.mono ?_
      rintro E w6 ⟨v', rfl, hrow, hb6⟩
      have HROW := Lib.hid (hrow.mono HB5.out.size)
      have HB6 := Lib.hid (HB5.out.trans (hb6.mono HB5.out.size))
      clear hls hrow hb6
      go_wp2_with fail
      go_ret
      exact ⟨v', intsOf y, rfl, HROW.out, HANS.out, HB6.out⟩
    · have hr : a < 0 ∨ ((progPts s).length : Int) ≤ a := by
        by_cases h0 : a < 0
        · exact .inl h0
        · rcases Int.lt_or_le a ((progPts s).length : Int) with h1 | h1
          · exact absurd ⟨by omega, h1⟩ hin
          · exact .inr h1
      have hans : AnsAt (UserB ts) true s a [] := .inr ⟨fun h => hin h.2, rfl⟩
      have HANS := Lib.hid hans
      generalize progPts s = ds at hS hr
      clear hz0 hok hin hA hD hT hR hans
      go_enter Tryz.func29, Tryz.ntmps29
      go_wp2_with fail
      refine hS.mono ?_
      rintro E w1 ⟨C, F, hi, A2, c2, ah, bk, rfl, hF, hfl, hb1⟩
      rw [HZ.out] at hb1
      have HB := Lib.hid (hb0.trans (hb1.mono (by omega)))
      have hgc := hfl.grCell
      have hhas := has_no C a ds w1 hfl.gr hr
      clear hfl hb1 hS hb0 hr
      go_wp2_with fail
      refine hhas.mono ?_
      rintro E w2 ⟨rfl, hb2⟩
      have HB2 := Lib.hid (HB.out.trans (hb2.mono HB.out.size))
      clear hhas hb2 hgc HB
      go_wp2_with fail
      go_ret
      exact ⟨_, [], rfl, hnil _, HANS.out, HB2.out⟩

end Go.Proofs.YtnoejapnjhogaaaGreatDoor.tr
