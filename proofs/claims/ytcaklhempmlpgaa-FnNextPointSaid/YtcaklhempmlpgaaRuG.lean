/-
  The program's runs.
  The program's RunPath.
  The model's RunPath.
  The model's RunPath: every case.
  Runs as plain data: how long they are, longer runs, and other choices.
  The laws' comparison of lists of numbers.
-/
import Derived.Test.YtcaklhempmlpgaaRunP
import Derived.Test.YtcaklhempmlpgaaRunA
import Derived.Test.YtcaklhempmlpgaaGrD
import Derived.Test.YtcaklhempmlpgaaRow
import Derived.Test.YtcaklhempmlpgaaOk
import Derived.Test.YtcaklhempmlpgaaTextD
import Derived.Test.YtcaklhempmlpgaaL2Q
import Derived.Test.YtcaklhempmlpgaaCC0
import Derived.Test.YtcaklhempmlpgaaOwD
import Derived.Deep.QuietTactic
import Derived.BigQuiet
namespace Go.Proofs.Ytcaklhempmlpgaa
open Go.RowKit Go.Deep
set_option linter.unusedVariables false

theorem last_any (C : Nat) (ns : List Nd) (w : World) (hG : Gr C w ns) (h0 : 0 < ns.length) : Calls Try.prog 41 #[.pointer (some ⟨C, 0, none⟩)] w fun E w' => E = .returned (.int .i64 ((ns.length : Int) - 1)) ∧ Below w.heap.size w w' := by
  have hc := hG.count
  have hle := hG.le
  have HG := Lib.hid hG
  clear hG
  go_enter Try.func41, Try.ntmps41
  go_wp2_with fail
  go_ret
  exact ⟨rfl, by first | exact Below.refl _ _ | exact (Below.refl _ _).drew⟩

set_option maxRecDepth 100000 in
set_option maxHeartbeats 4000000 in
theorem run_any (C q m : Nat) (ds : List Nd) (xs : List Int) (A : Option Addr) (c : Nat) (w : World) (hD : PtsOk q ds) (hG : Gr C w ds) (hm : m ≤ 1000) (hX : IntsV w 0 w.heap.size xs A c) :
    Calls Try.prog 25 #[.pointer (some ⟨C, 0, none⟩), .slice A xs.length c, .int .i64 m] w fun E w' => ∃ v, E = .returned (.tuple #[v, .bool (runP ds m 0 xs).2]) ∧ RowI w' w.heap.size v (runP ds m 0 xs).1 ∧ Below w.heap.size w w' := by
  obtain ⟨i0, hi, hz0, hz1, hz2⟩ := info_parts Try.infoInt
  have HI := Lib.hid hi
  have HZ0 := Lib.hid hz0
  have HZ1 := Lib.hid hz1
  have HZ2 := Lib.hid hz2
  clear hi hz0 hz1 hz2
  have hC := hG.lt
  have hq60 : q ≤ 60 := by have := hG.le; have := hD.1; omega
  have HG := Lib.hid hG
  have HD := Lib.hid hD
  have HX : Hid (∃ A' c', Value.slice A xs.length c = .slice A' xs.length c' ∧ IntsV w 0 w.heap.size xs A' c') := ⟨A, c, rfl, hX⟩
  obtain ⟨all, hall⟩ : ∃ all, all = runP ds m 0 xs := ⟨_, rfl⟩
  have hst : Hid (RunAt ds all [] (m - 0) 0 xs) := by unfold Hid RunAt; rw [hall]; rfl
  rw [← hall]
  have hrow0 : Hid (RowI w w.heap.size (.slice none 0 0) []) := World.ownsRow_nil w w.heap.size 3 1
  clear hall hG hD hX
  go_enter Try.func25, Try.ntmps25
  go_wp2_with fail
  go_step3
  go_wp2_with fail
  go_step3
  go_wp2_with fail
  go_loopw [1, 8, 9, 13] (fun x p at_ i wr => ∃ (k a : Nat) (cur rest : List Int), k ≤ m ∧ i = .int .i64 k ∧ at_ = .int .i64 a ∧ a ≤ q ∧ Hid (cur.length = k) ∧ Hid (RowI wr w.heap.size p cur) ∧ Hid (∃ A' c', x = .slice A' rest.length c' ∧ IntsV w 0 w.heap.size rest A' c') ∧ Hid (RunAt ds all cur (m - k) a rest) ∧ Below w.heap.size w wr) (fun _ _ _ i _ => m - (intOf i).toNat)
  case atStart => exact ⟨0, 0, [], xs, Nat.zero_le _, rfl, rfl, Nat.zero_le _, rfl, hrow0, HX, hst, Below.refl _ _⟩
  case round =>
    clear hst hrow0 HX
    obtain ⟨k, a, cur, rest, hk, rfl, rfl, haq, hcl, hrow, hx, hrun, hb⟩ := hrel
    have hGr := Lib.hid (HG.out.kept (hb.block C hC))
    have hbz := hb.size
    have hcl2 : cur.length ≤ 1000 := by rw [hcl.out]; omega
    have HQ : Hid ((ds.length : Int) - 1 = q) := by unfold Hid; rw [HD.out.1]; omega
    by_cases hlt : k < m
    · by_cases hend : a = q
      · subst hend
        have hn0 : nextP ds a = [] := by rw [nextP_some HD.out.2.1]
        have hall := Lib.hid (hrun.out.last hn0)
        have hno := nextOf_any C a _ ds wr hGr.out HD.out.2.1
        clear hrun hn0
        go_wp2_with fail
        refine hno.mono ?_
        rintro E w2 ⟨rfl, hb2⟩
        have hbB := hb.trans (hb2.mono hbz)
        have HRB := Lib.hid (hrow.out.below hb2)
        clear hno hb2
        have hl := last_any C ds w2 (HG.out.kept (hbB.block C hC)) (by rw [HD.out.1]; omega)
        rw [HQ.out] at hl
        go_wp2_with fail
        refine hl.mono ?_
        rintro E wl ⟨rfl, hbl⟩
        have hbL := hbB.trans (hbl.mono hbB.size)
        have HRL := Lib.hid (HRB.out.below hbl)
        have hzL := hbL.size
        clear hl hbl
        go_wp2_with (at_builtin; refine wpList_append_own _ rfl _ _ 23 rfl w.heap.size 3 i0 (.int .i64 0) 1 8 Try.underlying23 HI.out HZ0.out HZ1.out HZ2.out rfl (by decide) _ _ _ rfl ((RowI.own HRL.out).alloc _) ⟨_, 0, none⟩ 1 1 [.int .i64 (a : Int)] rfl rfl ?ra1 ?ra2 ?ra3 ?ra4 ?ra5 ?_)
        try (case ra1 => exact news1 (by simp) rfl)
        try (case ra2 => intro u hu; simp only [List.mem_cons, List.not_mem_nil, or_false] at hu; subst hu; rfl)
        try (case ra3 => unfold maxLen; omega)
        try (case ra4 => omega)
        try (case ra5 => simp; omega)
        intro v' w' hown' hg hne
        have hb' := (hbL.alloc hzL (.cells #[Value.int .i64 (a : Int)] 3)).grown hg (by simp; omega) (fun g hg' => ((RowI.own HRL.out).lt g hg').1)
        have HR' : Hid (RowI w' w.heap.size v' (cur ++ [(a : Int)])) := RowI.snoc hown'
        clear hown' hg hne
        go_wp2_with fail
        unfold Exit.noGoto
        go_ret2
        exact ⟨v', by rw [hall.out]; rfl, by rw [hall.out]; exact HR'.out, hb'⟩
      · obtain ⟨d, hd, hN⟩ := HD.out.2.2 a (by omega)
        have hnx : nextP ds a = d.next := nextP_some hd
        have hne0 : nextP ds a ≠ [] := by
          rw [hnx]
          intro e
          have := hN.one
          rw [e] at this
          simp at this
        have hmk : m - k = (m - (k + 1)) + 1 := by omega
        have hrun2 : Hid (RunAt ds all cur ((m - (k + 1)) + 1) a rest) := by unfold Hid; rw [← hmk]; exact hrun.out
        have hno := nextOf_any C a d ds wr hGr.out hd
        rcases list12 hN.one hN.two with ⟨p, hp⟩ | ⟨p, r, hp⟩
        · have hd1 : d.next.length = 1 := by rw [hp]; rfl
          have hpr := hN.le p (by rw [hp]; simp)
          obtain ⟨p', hp'⟩ : ∃ p' : Nat, p = (p' : Int) := ⟨p.toNat, by omega⟩
          subst hp'
          have hpq : p' ≤ q := by omega
          have hstep := Lib.hid (hrun2.out.step hne0 (k' := p') (ch' := rest) (by rw [hnx, hp]; rfl))
          rw [hd1] at hno
          have hget : d.next[0]? = some (p' : Int) := by rw [hp]; rfl
          have HD' := Lib.hid (And.intro hd hget)
          clear hrun hrun2 hne0 hnx hN hp hd hpr hd1 hget
          go_wp2_with fail
          refine hno.mono ?_
          rintro E w2 ⟨rfl, hb2⟩
          have hbB := hb.trans (hb2.mono hbz)
          have HRB := Lib.hid (hrow.out.below hb2)
          have hzB := hbB.size
          clear hno hb2
          go_wp2_with (at_builtin; refine wpList_append_own _ rfl _ _ 23 rfl w.heap.size 3 i0 (.int .i64 0) 1 8 Try.underlying23 HI.out HZ0.out HZ1.out HZ2.out rfl (by decide) _ _ _ rfl ((RowI.own HRB.out).alloc _) ⟨_, 0, none⟩ 1 1 [.int .i64 (a : Int)] rfl rfl ?rc1 ?rc2 ?rc3 ?rc4 ?rc5 ?_)
          try (case rc1 => exact news1 (by simp) rfl)
          try (case rc2 => intro u hu; simp only [List.mem_cons, List.not_mem_nil, or_false] at hu; subst hu; rfl)
          try (case rc3 => unfold maxLen; omega)
          try (case rc4 => omega)
          try (case rc5 => simp; omega)
          intro v' w' hown' hg hne
          have hb' := (hbB.alloc hzB (.cells #[Value.int .i64 (a : Int)] 3)).grown hg (by simp; omega) (fun g hg' => ((RowI.own HRB.out).lt g hg').1)
          have HR' : Hid (RowI w' w.heap.size v' (cur ++ [(a : Int)])) := RowI.snoc hown'
          have hnx0 : w'.cell? ⟨C, a * 7 + 4, none⟩ = some (.int .i64 (p' : Int)) := ((HG.out.kept (hb'.block C hC)).node HD'.out.1).2.1 0 _ HD'.out.2
          have hnx1 : w'.cell? ((⟨C, a * 7 + 4, none⟩ : Addr).add 0) = some (.int .i64 (p' : Int)) := by simpa [Addr.add] using hnx0
          clear hown' hg hne
          go_wp2_with fail
          go_roundw
          case rel => exact ⟨k + 1, p', cur ++ [(a : Int)], rest, by omega, by go_num, rfl, hpq, by unfold Hid; rw [List.length_append, hcl.out]; rfl, HR', hx, hstep, hb'⟩
          case measure => simp [intOf]; omega
        · have hd2 : d.next.length = 2 := by rw [hp]; rfl
          have hpr := hN.le p (by rw [hp]; simp)
          have hrr := hN.le r (by rw [hp]; simp)
          obtain ⟨p', hp'⟩ : ∃ p' : Nat, p = (p' : Int) := ⟨p.toNat, by omega⟩
          subst hp'
          obtain ⟨r', hr'⟩ : ∃ r' : Nat, r = (r' : Int) := ⟨r.toNat, by omega⟩
          subst hr'
          have hpq : p' ≤ q := by omega
          have hrq : r' ≤ q := by omega
          rw [hd2] at hno
          have hget0 : d.next[0]? = some (p' : Int) := by rw [hp]; rfl
          have hget1 : d.next[1]? = some (r' : Int) := by rw [hp]; rfl
          obtain ⟨A', c', hx', hI⟩ := hx.out
          subst hx'
          cases rest with
          | nil =>
            have hstep := Lib.hid (hrun2.out.step hne0 (k' := r') (ch' := []) (by rw [hnx, hp]; rfl))
            have HD' := Lib.hid (And.intro hd hget1)
            have hfc := fun W => firstChoice_nil A' c' W
            clear hrun hrun2 hne0 hnx hN hp hd hpr hrr hd2 hget0 hget1 hI hx
            go_wp2_with fail
            refine hno.mono ?_
            rintro E w2 ⟨rfl, hb2⟩
            have hbB := hb.trans (hb2.mono hbz)
            have HRB := Lib.hid (hrow.out.below hb2)
            have hzB := hbB.size
            clear hno hb2
            go_wp2_with fail
            refine (hfc _).mono ?_
            rintro E w3 ⟨rfl, hb3⟩
            have hbC := hbB.trans (hb3.mono hzB)
            have HRC := Lib.hid (HRB.out.below hb3)
            have hzC := hbC.size
            clear hfc hb3
            go_wp2_with (at_builtin; refine wpList_append_own _ rfl _ _ 23 rfl w.heap.size 3 i0 (.int .i64 0) 1 8 Try.underlying23 HI.out HZ0.out HZ1.out HZ2.out rfl (by decide) _ _ _ rfl ((RowI.own HRC.out).alloc _) ⟨_, 0, none⟩ 1 1 [.int .i64 (a : Int)] rfl rfl ?rd1 ?rd2 ?rd3 ?rd4 ?rd5 ?_)
            try (case rd1 => exact news1 (by simp) rfl)
            try (case rd2 => intro u hu; simp only [List.mem_cons, List.not_mem_nil, or_false] at hu; subst hu; rfl)
            try (case rd3 => unfold maxLen; omega)
            try (case rd4 => omega)
            try (case rd5 => simp; omega)
            intro v' w' hown' hg hne
            have hb' := (hbC.alloc hzC (.cells #[Value.int .i64 (a : Int)] 3)).grown hg (by simp; omega) (fun g hg' => ((RowI.own HRC.out).lt g hg').1)
            have HR' : Hid (RowI w' w.heap.size v' (cur ++ [(a : Int)])) := RowI.snoc hown'
            have hnx1 : w'.cell? ⟨C, a * 7 + 4 + 1, none⟩ = some (.int .i64 (r' : Int)) := ((HG.out.kept (hb'.block C hC)).node HD'.out.1).2.1 1 _ HD'.out.2
            have HX' : Hid (∃ A' c', Value.slice none 0 0 = .slice A' ([] : List Int).length c' ∧ IntsV w 0 w.heap.size [] A' c') := ⟨none, 0, rfl, by simp, by simp [maxLen], fun h => absurd h (by simp)⟩
            clear hown' hg hne
            go_wp2_with fail
            go_roundw
            case rel => exact ⟨k + 1, r', cur ++ [(a : Int)], [], by omega, by go_num, rfl, hrq, by unfold Hid; rw [List.length_append, hcl.out]; rfl, HR', HX', hstep, hb'⟩
            case measure => simp [intOf]; omega
          | cons z cs =>
            obtain ⟨b, hA, hb0, hb1, hcells⟩ := hI.2.2 (by simp)
            subst hA
            have hcc : cs.length + 1 ≤ c' := hI.1
            have hcm := hI.2.1
            have hz0' : w.cell? b = some (.int .i64 z) := by simpa [Addr.add] using hcells 0 z rfl
            have HCE := Lib.hid hcells
            clear hcells hI hx
            go_wp2_with fail
            refine hno.mono ?_
            rintro E w2 ⟨rfl, hb2⟩
            have hbB := hb.trans (hb2.mono hbz)
            have HRB := Lib.hid (hrow.out.below hb2)
            have hzB := hbB.size
            have hfc := firstChoice_cons b z cs.length c' w2 hcc hcm ((hbB.cell hb1).trans hz0')
            clear hno hb2
            go_wp2_with fail
            refine hfc.mono ?_
            rintro E w3 ⟨⟨zz, A2, rfl, hzz, hA2⟩, hb3⟩
            have hbC := hbB.trans (hb3.mono hzB)
            have HRC := Lib.hid (HRB.out.below hb3)
            have hzC := hbC.size
            have HX' : Hid (∃ A' cx, Value.slice A2 cs.length (c' - 1) = .slice A' cs.length cx ∧ IntsV w 0 w.heap.size cs A' cx) := by
              refine ⟨A2, c' - 1, rfl, by omega, by unfold maxLen at hcm ⊢; omega, fun h0 => ⟨b.add 1, hA2 h0, Nat.zero_le _, by rw [block_add]; exact hb1, fun j v hv => ?_⟩⟩
              rw [add_add]
              exact HCE.out (1 + j) v (by rw [Nat.add_comm]; exact hv)
            clear hfc hb3 hA2 HCE hz0'
            rcases Int.emod_two_eq z with hz2 | hz2
            · have hz0 : zz = 0 := by omega
              subst hz0
              have hstep := Lib.hid (hrun2.out.step hne0 (k' := p') (ch' := cs) (by rw [hnx, hp]; simp [stepP, hz2]))
              have HD' := Lib.hid (And.intro hd hget0)
              clear hrun hrun2 hne0 hnx hN hp hd hpr hrr hd2 hget0 hget1 hzz hz2
              go_wp2_with (at_builtin; refine wpList_append_own _ rfl _ _ 23 rfl w.heap.size 3 i0 (.int .i64 0) 1 8 Try.underlying23 HI.out HZ0.out HZ1.out HZ2.out rfl (by decide) _ _ _ rfl ((RowI.own HRC.out).alloc _) ⟨_, 0, none⟩ 1 1 [.int .i64 (a : Int)] rfl rfl ?re1 ?re2 ?re3 ?re4 ?re5 ?_)
              try (case re1 => exact news1 (by simp) rfl)
              try (case re2 => intro u hu; simp only [List.mem_cons, List.not_mem_nil, or_false] at hu; subst hu; rfl)
              try (case re3 => unfold maxLen; omega)
              try (case re4 => omega)
              try (case re5 => simp; omega)
              intro v' w' hown' hg hne
              have hb' := (hbC.alloc hzC (.cells #[Value.int .i64 (a : Int)] 3)).grown hg (by simp; omega) (fun g hg' => ((RowI.own HRC.out).lt g hg').1)
              have HR' : Hid (RowI w' w.heap.size v' (cur ++ [(a : Int)])) := RowI.snoc hown'
              have hnx1 : w'.cell? ⟨C, a * 7 + 4, none⟩ = some (.int .i64 (p' : Int)) := ((HG.out.kept (hb'.block C hC)).node HD'.out.1).2.1 0 _ HD'.out.2
              have hnx2 : w'.cell? ((⟨C, a * 7 + 4, none⟩ : Addr).add 0) = some (.int .i64 (p' : Int)) := by simpa [Addr.add] using hnx1
              clear hown' hg hne
              go_wp2_with fail
              go_roundw
              case rel => exact ⟨k + 1, p', cur ++ [(a : Int)], cs, by omega, by go_num, rfl, hpq, by unfold Hid; rw [List.length_append, hcl.out]; rfl, HR', HX', hstep, hb'⟩
              case measure => simp [intOf]; omega
            · have hz0 : zz = 1 := by omega
              subst hz0
              have hstep := Lib.hid (hrun2.out.step hne0 (k' := r') (ch' := cs) (by rw [hnx, hp]; simp [stepP, hz2]))
              have HD' := Lib.hid (And.intro hd hget1)
              clear hrun hrun2 hne0 hnx hN hp hd hpr hrr hd2 hget0 hget1 hzz hz2
              go_wp2_with (at_builtin; refine wpList_append_own _ rfl _ _ 23 rfl w.heap.size 3 i0 (.int .i64 0) 1 8 Try.underlying23 HI.out HZ0.out HZ1.out HZ2.out rfl (by decide) _ _ _ rfl ((RowI.own HRC.out).alloc _) ⟨_, 0, none⟩ 1 1 [.int .i64 (a : Int)] rfl rfl ?rf1 ?rf2 ?rf3 ?rf4 ?rf5 ?_)
              try (case rf1 => exact news1 (by simp) rfl)
              try (case rf2 => intro u hu; simp only [List.mem_cons, List.not_mem_nil, or_false] at hu; subst hu; rfl)
              try (case rf3 => unfold maxLen; omega)
              try (case rf4 => omega)
              try (case rf5 => simp; omega)
              intro v' w' hown' hg hne
              have hb' := (hbC.alloc hzC (.cells #[Value.int .i64 (a : Int)] 3)).grown hg (by simp; omega) (fun g hg' => ((RowI.own HRC.out).lt g hg').1)
              have HR' : Hid (RowI w' w.heap.size v' (cur ++ [(a : Int)])) := RowI.snoc hown'
              have hnx1 : w'.cell? ⟨C, a * 7 + 4 + 1, none⟩ = some (.int .i64 (r' : Int)) := ((HG.out.kept (hb'.block C hC)).node HD'.out.1).2.1 1 _ HD'.out.2
              have hnx2 : w'.cell? ((⟨C, a * 7 + 4 + 1, none⟩ : Addr).add 0) = some (.int .i64 (r' : Int)) := by simpa [Addr.add] using hnx1
              clear hown' hg hne
              go_wp2_with fail
              go_roundw
              case rel => exact ⟨k + 1, r', cur ++ [(a : Int)], cs, by omega, by go_num, rfl, hrq, by unfold Hid; rw [List.length_append, hcl.out]; rfl, HR', HX', hstep, hb'⟩
              case measure => simp [intOf]; omega
    · have hkm : k = m := by omega
      subst hkm
      rw [Nat.sub_self] at hrun
      by_cases hend : a = q
      · subst hend
        have hn0 : nextP ds a = [] := by rw [nextP_some HD.out.2.1]
        have hall := Lib.hid (hrun.out.last hn0)
        clear hrun hn0
        have hl := last_any C ds wr (HG.out.kept (hb.block C hC)) (by rw [HD.out.1]; omega)
        rw [HQ.out] at hl
        go_wp2_with fail
        refine hl.mono ?_
        rintro E wl ⟨rfl, hbl⟩
        have hbL := hb.trans (hbl.mono hb.size)
        have HRL := Lib.hid (hrow.out.below hbl)
        have hzL := hbL.size
        clear hl hbl
        go_wp2_with (at_builtin; refine wpList_append_own _ rfl _ _ 23 rfl w.heap.size 3 i0 (.int .i64 0) 1 8 Try.underlying23 HI.out HZ0.out HZ1.out HZ2.out rfl (by decide) _ _ _ rfl ((RowI.own HRL.out).alloc _) ⟨_, 0, none⟩ 1 1 [.int .i64 (a : Int)] rfl rfl ?rb1 ?rb2 ?rb3 ?rb4 ?rb5 ?_)
        try (case rb1 => exact news1 (by simp) rfl)
        try (case rb2 => intro u hu; simp only [List.mem_cons, List.not_mem_nil, or_false] at hu; subst hu; rfl)
        try (case rb3 => unfold maxLen; omega)
        try (case rb4 => omega)
        try (case rb5 => simp; omega)
        intro v' w' hown' hg hne
        have hb' := (hbL.alloc hzL (.cells #[Value.int .i64 (a : Int)] 3)).grown hg (by simp; omega) (fun g hg' => ((RowI.own HRL.out).lt g hg').1)
        have HR' : Hid (RowI w' w.heap.size v' (cur ++ [(a : Int)])) := RowI.snoc hown'
        clear hown' hg hne
        go_wp2_with fail
        unfold Exit.noGoto
        go_ret2
        exact ⟨v', by rw [hall.out]; rfl, by rw [hall.out]; exact HR'.out, hb'⟩
      · obtain ⟨d, hd, hN⟩ := HD.out.2.2 a (by omega)
        have hne0 : nextP ds a ≠ [] := by
          rw [nextP_some hd]
          intro e
          have := hN.one
          rw [e] at this
          simp at this
        have hall := Lib.hid (hrun.out.stop hne0)
        have hl := last_any C ds wr hGr.out (by rw [HD.out.1]; omega)
        rw [HQ.out] at hl
        have haq2 : ((a : Int) == q) = false := by simp; omega
        clear hrun hne0 hd hN
        go_wp2_with fail
        refine hl.mono ?_
        rintro E wl ⟨rfl, hbl⟩
        have HRL := Lib.hid (hrow.out.below hbl)
        clear hl
        go_wp2_with fail
        unfold Exit.noGoto
        go_ret2
        exact ⟨_, by rw [hall.out]; rfl, by rw [hall.out]; exact HRL.out, hb.trans (hbl.mono hbz)⟩

end Go.Proofs.Ytcaklhempmlpgaa

namespace Go.Proofs.Ytcaklhempmlpgaa
open Go.RowKit Go.Deep
set_option linter.unusedVariables false

set_option maxRecDepth 100000 in
set_option maxHeartbeats 2000000 in
theorem implRunPath_any (ts : List Int) (s : Sts) (At As : Option Addr) (ct cs : Nat) (xs : List Int) (A : Option Addr) (c : Nat) (most : Int) (w : World) (hT : IntsV w 0 w.heap.size ts At ct) (hR : RepV w 0 w.heap.size s As cs) (hX : IntsV w 0 w.heap.size xs A c) :
    Calls Try.prog 9 #[.agg #[.slice At ts.length ct, .slice As s.len cs], .slice A xs.length c, .int .i64 most] w fun E w' => ∃ v, E = .returned (.tuple #[v, .bool (runI (validB ts s) s xs most).2]) ∧ RowI w' w.heap.size v (runI (validB ts s) s xs most).1 ∧ Below w.heap.size w w' := by
  have hb0 := (Below.refl w.heap.size w).alloc (Nat.le_refl _) (.cells #[.slice At ts.length ct, .slice As s.len cs] 26)
  have hT1 : IntsV (w.alloc (.cells #[.slice At ts.length ct, .slice As s.len cs] 26)) 0 (w.alloc (.cells #[.slice At ts.length ct, .slice As s.len cs] 26)).heap.size ts At ct := hT.below hb0 (by simp)
  have hR1 : RepV (w.alloc (.cells #[.slice At ts.length ct, .slice As s.len cs] 26)) 0 (w.alloc (.cells #[.slice At ts.length ct, .slice As s.len cs] 26)).heap.size s As cs := hR.below hb0 (by simp)
  have hz0 : (w.alloc (.cells #[.slice At ts.length ct, .slice As s.len cs] 26)).heap.size = w.heap.size + 1 := by simp
  by_cases h1 : validB ts s = true
  · by_cases h2 : most < 0
    · have e0 : Hid (runI (validB ts s) s xs most = ([], false)) := by
        unfold Hid runI
        rw [if_neg (fun h => by omega)]
      have hrow : ∀ (W : World), Hid (RowI W w.heap.size (.slice none 0 0) []) := fun W => World.ownsRow_nil W w.heap.size 3 1
      have hS := graphOf_yes ts s At As ct cs _ h1 hT1 hR1
      have HZ := Lib.hid hz0
      clear h1 hz0
      go_enter Try.func9, Try.ntmps9
      go_wp2_with fail
      refine hS.mono ?_
      rintro E w1 ⟨C, rfl, hC, hG, hb1⟩
      rw [HZ.out] at hb1
      clear hS hG hC
      go_wp2_with fail
      go_ret2
      exact ⟨_, by rw [e0.out]; rfl, by rw [e0.out]; exact (hrow _).out, hb0.trans (hb1.mono (by omega))⟩
    · by_cases h3 : 1000 < most
      · have e0 : Hid (runI (validB ts s) s xs most = ([], false)) := by
          unfold Hid runI
          rw [if_neg (fun h => by omega)]
        have hrow : ∀ (W : World), Hid (RowI W w.heap.size (.slice none 0 0) []) := fun W => World.ownsRow_nil W w.heap.size 3 1
        have hS := graphOf_yes ts s At As ct cs _ h1 hT1 hR1
        have HZ := Lib.hid hz0
        have h2' : 0 ≤ most := by omega
        clear h1 hz0 h2
        go_enter Try.func9, Try.ntmps9
        go_wp2_with fail
        refine hS.mono ?_
        rintro E w1 ⟨C, rfl, hC, hG, hb1⟩
        rw [HZ.out] at hb1
        clear hS hG hC
        go_wp2_with fail
        go_ret2
        exact ⟨_, by rw [e0.out]; rfl, by rw [e0.out]; exact (hrow _).out, hb0.trans (hb1.mono (by omega))⟩
      · obtain ⟨m, hm⟩ : ∃ m : Nat, most = (m : Int) := ⟨most.toNat, by omega⟩
        subst hm
        have hm3 : m ≤ 1000 := by omega
        have e0 : Hid (runI (validB ts s) s xs m = runP (progPts s) m 0 xs) := by
          unfold Hid runI
          rw [if_pos ⟨h1, by omega, by omega⟩, Int.toNat_natCast]
        obtain ⟨hty, hok, h30⟩ := valid_ok h1
        have HD := Lib.hid (progPts_ok s hok)
        have hS := graphOf_yes ts s At As ct cs _ h1 hT1 hR1
        have HZ := Lib.hid hz0
        clear h1 hz0 hty hok h2 h3
        go_enter Try.func9, Try.ntmps9
        go_wp2_with fail
        refine hS.mono ?_
        rintro E w1 ⟨C, rfl, hC, hG, hb1⟩
        rw [HZ.out] at hC hb1
        have hb := hb0.trans (hb1.mono (by omega))
        have HG := Lib.hid hG
        have hX1 := Lib.hid (hX.below hb hb.size)
        clear hS hG hb1
        go_wp2_with fail
        refine (run_any C s.npts m (progPts s) xs A c w1 HD.out HG.out hm3 hX1.out).mono ?_
        rintro E w2 ⟨v, rfl, hrow, hb2⟩
        have hzz := hb.size
        have HR := Lib.hid hrow
        clear hrow
        go_wp2_with fail
        go_ret2
        exact ⟨v, by rw [e0.out]; rfl, by rw [e0.out]; exact HR.out.mono hzz, hb.trans (hb2.mono hzz)⟩
  · have h1' : validB ts s = false := by simpa using h1
    have e0 : Hid (runI (validB ts s) s xs most = ([], false)) := by
      unfold Hid runI
      rw [if_neg (fun h => h1 h.1)]
    have hrow : ∀ (W : World), Hid (RowI W w.heap.size (.slice none 0 0) []) := fun W => World.ownsRow_nil W w.heap.size 3 1
    have hS := graphOf_no ts s At As ct cs _ h1' hT1 hR1
    have HZ := Lib.hid hz0
    clear h1 h1' hz0
    go_enter Try.func9, Try.ntmps9
    go_wp2_with fail
    refine hS.mono ?_
    rintro E w1 ⟨rfl, hb1⟩
    rw [HZ.out] at hb1
    clear hS
    go_wp2_with fail
    go_ret2
    exact ⟨_, by rw [e0.out]; rfl, by rw [e0.out]; exact (hrow _).out, hb0.trans (hb1.mono (by omega))⟩

end Go.Proofs.Ytcaklhempmlpgaa

namespace Go.Proofs.Ytcaklhempmlpgaa
open Go.RowKit Go.Deep
set_option linter.unusedVariables false

theorem tmod_two (z : Int) : z.tmod 2 = 0 ↔ z % 2 = 0 := ⟨fun h => Int.emod_eq_zero_of_dvd (Int.dvd_of_tmod_eq_zero h), fun h => Int.tmod_eq_zero_of_dvd (Int.dvd_of_emod_eq_zero h)⟩

def lenV : Value → Nat
  | .slice _ n _ => n
  | _ => 0

theorem onto_of {w w' : World} {v : Value} {g n cap : Nat} (hg : w.grownBy w' v.ownBlock) (hat : v.ownBlock = some g ∨ g = w.heap.size) : Onto w w' v (.slice (some ⟨g, 0, none⟩) n cap) := by
  refine ⟨hg, ?_⟩
  rcases hat with h | h
  · exact .inl h.symm
  · refine .inr fun k hk => ?_
    have hk' : g = k := by simpa [Value.ownBlock] using hk
    omega

/-- A row of points stays where another row is lengthened that lies below it, or in new memory. -/
theorem PRow.onto {w w' : World} {B : Nat} {v x y : Value} {ns : List Nd} (h : PRow w B v ns) (hO : Onto w w' x y) (hx : ∀ g, x.ownBlock = some g → g < B) : PRow w' B v ns := by
  obtain ⟨xs, ho, hc⟩ := h
  have hb : ∀ k, B ≤ k → k < w.heap.size → w'.heap[k]? = w.heap[k]? := fun k hk hl => hO.1.block k hl (fun e => by have := hx k e.symm; omega)
  refine ⟨xs, ⟨ho.1, ?_⟩, fun k d hd => ?_⟩
  · rcases ho.2 with h | ⟨g, cap, cur, h1, h2, h3, h4⟩
    · exact .inl h
    · exact .inr ⟨g, cap, cur, h1, h2, (hb g h2 (heap_lt h3)).trans h3, h4⟩
  · obtain ⟨u, h5, hn⟩ := hc k d hd
    refine ⟨u, h5, ?_⟩
    rcases hn with hn | ⟨g, e1, e2, e3⟩
    · exact .inl hn
    · exact .inr ⟨g, e1, e2, (hb g e2 (heap_lt e3)).trans e3⟩

theorem Onto.belowI {w w' : World} {B : Nat} {v v' : Value} (h : Onto w w' v v') (hB : B ≤ w.heap.size) (hv : ∀ g, v.ownBlock = some g → B ≤ g) : Below B w w' :=
  ⟨h.1.os, h.1.tape, h.1.output, h.1.size, fun k hk => h.1.block k (by omega) fun e => by have := hv k e.symm; omega⟩

/-- The next points of a point that has some, as they lie in memory. -/
theorem NextV.cells {w : World} {B : Nat} {u : Value} {next : List Int} (h : NextV w B u next) (h0 : 0 < next.length) : ∃ g, u = .slice (some ⟨g, 0, none⟩) next.length next.length ∧ ∀ j v, next[j]? = some v → w.cell? ⟨g, j, none⟩ = some (.int .i64 v) := by
  rcases h with ⟨h1, _⟩ | ⟨g, h1, _, h3⟩
  · subst h1
    simp at h0
  · refine ⟨g, h1, fun j v hj => ?_⟩
    rw [cell_of_block h3]
    simp [hj]

set_option maxRecDepth 100000 in
set_option maxHeartbeats 4000000 in
theorem specRun_loop (ts : List Int) (s : Sts) (At As : Option Addr) (ct cs : Nat) (xs : List Int) (A : Option Addr) (c m : Nat) (w : World) (hsz : s.size ≤ 1048576) (h1 : validB ts s = true) (hm3 : m ≤ 1000) (hT : IntsV w 0 w.heap.size ts At ct) (hR : RepV w 0 w.heap.size s As cs) (hX : IntsV w 0 w.heap.size xs A c) :
    Calls Try.prog 10 #[.agg #[.slice At ts.length ct, .slice As s.len cs], .slice A xs.length c, .int .i64 (m : Int)] w fun E w' => ∃ v, E = .returned (.tuple #[v, .bool (runP (progPts s) m 0 xs).2]) ∧ RowI w' w.heap.size v (runP (progPts s) m 0 xs).1 ∧ Below w.heap.size w w' := by
  have hb0 := (((Below.refl w.heap.size w).alloc (Nat.le_refl _) (.cells #[.slice At ts.length ct, .slice As s.len cs] 26)).alloc (by simp) (.cells #[] 3))
  have hT1 := hT.below hb0 (by simp; omega : w.heap.size ≤ ((w.alloc (.cells #[.slice At ts.length ct, .slice As s.len cs] 26)).alloc (.cells #[] 3)).heap.size)
  have hR1 := hR.below hb0 (by simp; omega : w.heap.size ≤ ((w.alloc (.cells #[.slice At ts.length ct, .slice As s.len cs] 26)).alloc (.cells #[] 3)).heap.size)
  have hz0 : ((w.alloc (.cells #[.slice At ts.length ct, .slice As s.len cs] 26)).alloc (.cells #[] 3)).heap.size = w.heap.size + 2 := by simp
  have hc0 : (w.alloc (.cells #[.slice At ts.length ct, .slice As s.len cs] 26)).heap[w.heap.size]? = _ := heap_alloc_new w _
  obtain ⟨hty, hok, h30⟩ := valid_ok h1
  have HD := Lib.hid (progPts_ok s hok)
  have hS := specPointsOf_any ts s At As ct cs _ hsz hT1 hR1
  have e0 : pointsB (validB ts s) s = progPts s := by simp [pointsB, h1]
  rw [e0] at hS
  generalize progPts s = ds at hS HD ⊢
  generalize s.npts = q at HD
  obtain ⟨all, hall⟩ : ∃ all, all = runP ds m 0 xs := ⟨_, rfl⟩
  have hst : Hid (RunAt ds all [] (m - 0) 0 (xs.drop 0)) := by unfold Hid RunAt; rw [hall]; rfl
  rw [← hall]
  obtain ⟨i0, hi, hzz0, hzz1, hzz2⟩ := info_parts Try.infoInt
  have HI := Lib.hid hi
  have HZ0 := Lib.hid hzz0
  have HZ1 := Lib.hid hzz1
  have HZ2 := Lib.hid hzz2
  have HZ := Lib.hid hz0
  have hrow0 : RowI ((w.alloc (.cells #[.slice At ts.length ct, .slice As s.len cs] 26)).alloc (.cells #[] 3)) w.heap.size (.slice (some ⟨w.heap.size + 1, 0, none⟩) 0 0) [] := by
    have := World.ownsRow_lit (base := w.heap.size) (e := 3) (size := 1) (w.alloc (.cells #[.slice At ts.length ct, .slice As s.len cs] 26)) #[] 0 (by simp) (by simp [maxLen]) rfl
    have hz : (w.alloc (.cells #[.slice At ts.length ct, .slice As s.len cs] 26)).heap.size = w.heap.size + 1 := by simp
    rw [hz] at this
    exact this
  have HROW0 := Lib.hid hrow0
  have hXl := hX.1
  have hXm := hX.2.1
  unfold maxLen at hXm
  have HX := Lib.hid hX
  clear hi hzz0 hzz1 hzz2 hall e0 h1 hty hok hz0 hrow0 hX hT1 hR1
  go_enter Try.func10, Try.ntmps10
  go_wp2_with fail
  refine hS.mono ?_
  rintro E w1 ⟨v, rfl, hP, hb1⟩
  rw [HZ.out] at hP hb1
  have hs1 := hb1.size
  rw [HZ.out] at hs1
  have hbw : Below w.heap.size w w1 := hb0.trans (hb1.mono (by omega))
  have HN : Hid (ds.length = q + 1) := HD.out.1
  obtain ⟨g, cap, hv, hgB, hgl⟩ := hP.named HN (by omega)
  subst hv
  have HP := Lib.hid hP
  have HR0 : Hid (RowI w1 w.heap.size (.slice (some ⟨w.heap.size + 1, 0, none⟩) 0 0) []) := HROW0.out.below (by rw [HZ.out]; exact hb1)
  clear hP hb1 hS HROW0
  have hq1 : ((q : Int) + 1 == 0) = false := by simp; omega
  have hd1 : decide ((m : Int) < 0) = false := decide_eq_false (by omega)
  have hd2 : decide ((1000 : Int) < m) = false := decide_eq_false (by omega)
  go_wp2_with fail
  clear hq1 hd1 hd2
  have hgB2 : w.heap.size + 2 ≤ g := hgB
  have HOWN0 : Hid (∀ k, (Value.slice (some ⟨w.heap.size + 1, 0, none⟩) 0 0).ownBlock = some k → k = w.heap.size + 1) := by
    intro k hk
    have : w.heap.size + 1 = k := by simpa [Value.ownBlock] using hk
    exact this.symm
  go_loopw [8, 10, 11] (fun o at_ us wr => ∃ (a used : Nat) (cur : List Int), at_ = .int .i64 a ∧ a ≤ q ∧ us = .int .i64 used ∧ used ≤ cur.length ∧ cur.length ≤ m ∧ lenV o = cur.length ∧ Hid (RowI wr w.heap.size o cur) ∧ Hid (RunAt ds all cur (m - cur.length) a (xs.drop used)) ∧ Onto w1 wr (.slice (some ⟨w.heap.size + 1, 0, none⟩) 0 0) o) (fun o _ _ _ => m - lenV o)
  case atStart => exact ⟨0, 0, [], rfl, Nat.zero_le _, rfl, Nat.le_refl _, Nat.zero_le _, rfl, HR0, hst, Onto.refl _ _⟩
  case round =>
    clear hst HR0
    obtain ⟨a, used, cur, rfl, haq, rfl, hus, hcm, hlv, hrow, hrun, hO⟩ := hrel
    obtain ⟨Ao, co, ho⟩ := hrow.out.slice
    subst ho
    have hzr := hO.size
    have hHP := Lib.hid (HP.out.onto hO (fun k hk => by have := HOWN0.out k hk; omega))
    have hbr : Below w.heap.size w1 wr := hO.belowI (by omega) (fun k hk => by have := HOWN0.out k hk; omega)
    have hbW := hbw.trans hbr
    have hzw : w.heap.size ≤ wr.heap.size := by omega
    by_cases hend : a = q
    · subst hend
      have hn0 : nextP ds a = [] := by rw [nextP_some HD.out.2.1]
      have hall := Lib.hid (hrun.out.last hn0)
      obtain ⟨u, ⟨h0, -, -, -, -⟩, -⟩ := hHP.out.cells_at HN HD.out.2.1
      have hlt1 : a < a + 1 := by omega
      clear hrun hn0
      go_wp2_with (at_builtin; refine wpList_append_lies _ rfl _ _ 23 rfl w.heap.size 3 i0 (.int .i64 0) 1 8 Try.underlying23 HI.out HZ0.out HZ1.out HZ2.out rfl (by decide) _ _ _ rfl ((RowI.own hrow.out).alloc _) ⟨_, 0, none⟩ 1 1 [.int .i64 (a : Int)] rfl rfl ?sa1 ?sa2 (by decide) ?sa3 ?sa4 ?sa5 _ rfl ?_)
      try (case sa1 => exact news1 (by simp) rfl)
      try (case sa2 => rfl)
      try (case sa2 => intro u hu; simp only [List.mem_cons, List.not_mem_nil, or_false] at hu; subst hu; rfl)
      try (case sa3 => unfold maxLen; omega)
      try (case sa4 => omega)
      try (case sa5 => first | omega | (simp; omega) | (simp only [World.heap_size_alloc]; omega) | (have := hzw; simp; exact Nat.le_succ_of_le this))
      intro g2 cap2 w' hown' hg hat hlt'
      have hbA := (Below.refl wr.heap.size wr).alloc (Nat.le_refl _) (.cells #[Value.int .i64 (a : Int)] 3)
      have hO2 := (Onto.of_below hbA (Value.slice Ao cur.length co)).trans (onto_of (n := cur.length + 1) (cap := cap2) hg (hat.imp id fun e => e.trans (by simp)))
      have HO' := Lib.hid (hO.trans hO2)
      have HR' : Hid (RowI w' w.heap.size (.slice (some ⟨g2, 0, none⟩) (cur.length + 1) cap2) (cur ++ [(a : Int)])) := RowI.snoc hown'
      clear hown' hg hat hbA hO2
      have hb' : Below w.heap.size w w' := hbw.trans (HO'.out.belowI (by omega) (fun k hk => by have := HOWN0.out k hk; omega))
      go_wp2_with fail
      go_ret2
      exact ⟨_, by rw [hall.out]; rfl, by rw [hall.out]; exact HR'.out, hb'⟩
    · obtain ⟨d, hd, hN⟩ := HD.out.2.2 a (by omega)
      have hnx : nextP ds a = d.next := nextP_some hd
      have hne0 : nextP ds a ≠ [] := by
        rw [hnx]
        intro e
        have := hN.one
        rw [e] at this
        simp at this
      obtain ⟨u, ⟨h0, -, -, -, -⟩, -⟩ := hHP.out.cells_at HN hd
      have h11 : (d.op == 11) = false := by simpa using hN.op
      have hlt1 : a < q + 1 := by omega
      by_cases hfull : cur.length = m
      · have hall : Hid (all = (cur, false)) := by
          have := hrun.out
          rw [hfull, Nat.sub_self] at this
          exact this.stop hne0
        have hcm2 : ((cur.length : Int) == m) = true := by simp; omega
        clear hrun hne0 hnx hN hd hfull
        go_wp2_with fail
        go_ret2
        exact ⟨_, by rw [hall.out]; rfl, by rw [hall.out]; exact hrow.out, hbW⟩
      · have hcm2 : ((cur.length : Int) == m) = false := by simp; omega
        have hmk : m - cur.length = (m - (cur.length + 1)) + 1 := by omega
        have hcl1 : cur.length + 1 ≤ m := by omega
        have hrun2 : Hid (RunAt ds all cur ((m - (cur.length + 1)) + 1) a (xs.drop used)) := by unfold Hid; rw [← hmk]; exact hrun.out
        rcases list12 hN.one hN.two with ⟨p, hp⟩ | ⟨p, r, hp⟩
        · have hpr := hN.le p (by rw [hp]; simp)
          obtain ⟨p', hp'⟩ : ∃ p' : Nat, p = (p' : Int) := ⟨p.toNat, by omega⟩
          subst hp'
          have hpq : p' ≤ q := by omega
          have hstep := Lib.hid (hrun2.out.step hne0 (k' := p') (ch' := xs.drop used) (by rw [hnx, hp]; rfl))
          have HD' := Lib.hid (And.intro hd hp)
          clear hrun hrun2 hne0 hnx hN hd hp hpr hmk hfull
          go_wp2_with (at_builtin; refine wpList_append_lies _ rfl _ _ 23 rfl w.heap.size 3 i0 (.int .i64 0) 1 8 Try.underlying23 HI.out HZ0.out HZ1.out HZ2.out rfl (by decide) _ _ _ rfl ((RowI.own hrow.out).alloc _) ⟨_, 0, none⟩ 1 1 [.int .i64 (a : Int)] rfl rfl ?sb1 ?sb2 (by decide) ?sb3 ?sb4 ?sb5 _ rfl ?_)
          try (case sb1 => exact news1 (by simp) rfl)
          try (case sb2 => rfl)
          try (case sb2 => intro u hu; simp only [List.mem_cons, List.not_mem_nil, or_false] at hu; subst hu; rfl)
          try (case sb3 => unfold maxLen; omega)
          try (case sb4 => omega)
          try (case sb5 => first | omega | (simp; omega) | (simp only [World.heap_size_alloc]; omega) | (have := hzw; simp; exact Nat.le_succ_of_le this))
          intro g2 cap2 w' hown' hg hat hlt'
          have hbA := (Below.refl wr.heap.size wr).alloc (Nat.le_refl _) (.cells #[Value.int .i64 (a : Int)] 3)
          have hO2 := (Onto.of_below hbA (Value.slice Ao cur.length co)).trans (onto_of (n := cur.length + 1) (cap := cap2) hg (hat.imp id fun e => e.trans (by simp)))
          have HO' := Lib.hid (hO.trans hO2)
          have HR' : Hid (RowI w' w.heap.size (.slice (some ⟨g2, 0, none⟩) (cur.length + 1) cap2) (cur ++ [(a : Int)])) := RowI.snoc hown'
          clear hown' hg hat hbA hO2
          have hHP' := HP.out.onto HO'.out (fun k hk => by have := HOWN0.out k hk; omega)
          obtain ⟨u', ⟨-, -, -, -, hu4⟩, hnv⟩ := hHP'.cells_at HN HD'.out.1
          rw [HD'.out.2] at hnv
          obtain ⟨gn, hun, hcn⟩ := hnv.cells (by simp)
          have hun' : u' = .slice (some ⟨gn, 0, none⟩) 1 1 := hun
          subst hun'
          have hv0 : w'.cell? ⟨gn, 0, none⟩ = some (.int .i64 (p' : Int)) := hcn 0 _ rfl
          clear hcn hun hnv hHP'
          go_wp2_with fail
          go_roundw
          case rel => exact ⟨p', used, cur ++ [(a : Int)], rfl, hpq, rfl, by simp; omega, by simp; omega, by simp [lenV], HR', by unfold Hid; rw [List.length_append]; exact hstep.out, HO'.out⟩
          case measure => simp [lenV]; omega
        · have hpr := hN.le p (by rw [hp]; simp)
          have hrr := hN.le r (by rw [hp]; simp)
          obtain ⟨p', hp'⟩ : ∃ p' : Nat, p = (p' : Int) := ⟨p.toNat, by omega⟩
          subst hp'
          obtain ⟨r', hr'⟩ : ∃ r' : Nat, r = (r' : Int) := ⟨r.toNat, by omega⟩
          subst hr'
          have hpq : p' ≤ q := by omega
          have hrq : r' ≤ q := by omega
          have HD' := Lib.hid (And.intro hd hp)
          by_cases hul : used < xs.length
          · obtain ⟨b, z, hA, -, hbl, hxz, hcz⟩ := HX.out.elem hul
            subst hA
            have hdrop : xs.drop used = z :: xs.drop (used + 1) := by
              rw [List.drop_eq_getElem_cons hul]
              rw [List.getElem?_eq_getElem hul] at hxz
              injection hxz with hxz
              rw [hxz]
            rcases Int.emod_two_eq z with hz2 | hz2
            · have hstep := Lib.hid (hrun2.out.step hne0 (k' := p') (ch' := xs.drop (used + 1)) (by rw [hnx, hp, hdrop]; simp [stepP, hz2]))
              have hrm : (z.tmod 2 == 0) = true := by rw [beq_iff_eq]; exact (tmod_two z).2 hz2
              clear hrun hrun2 hne0 hnx hN hd hp hpr hrr hmk hfull hdrop hz2 hxz
              go_wp2_with (at_builtin; refine wpList_append_lies _ rfl _ _ 23 rfl w.heap.size 3 i0 (.int .i64 0) 1 8 Try.underlying23 HI.out HZ0.out HZ1.out HZ2.out rfl (by decide) _ _ _ rfl ((RowI.own hrow.out).alloc _) ⟨_, 0, none⟩ 1 1 [.int .i64 (a : Int)] rfl rfl ?sc1 ?sc2 (by decide) ?sc3 ?sc4 ?sc5 _ rfl ?_)
              try (case sc1 => exact news1 (by simp) rfl)
              try (case sc2 => rfl)
              try (case sc2 => intro u hu; simp only [List.mem_cons, List.not_mem_nil, or_false] at hu; subst hu; rfl)
              try (case sc3 => unfold maxLen; omega)
              try (case sc4 => omega)
              try (case sc5 => first | omega | (simp; omega) | (simp only [World.heap_size_alloc]; omega) | (have := hzw; simp; exact Nat.le_succ_of_le this))
              intro g2 cap2 w' hown' hg hat hlt'
              have hbA := (Below.refl wr.heap.size wr).alloc (Nat.le_refl _) (.cells #[Value.int .i64 (a : Int)] 3)
              have hO2 := (Onto.of_below hbA (Value.slice Ao cur.length co)).trans (onto_of (n := cur.length + 1) (cap := cap2) hg (hat.imp id fun e => e.trans (by simp)))
              have HO' := Lib.hid (hO.trans hO2)
              have HR' : Hid (RowI w' w.heap.size (.slice (some ⟨g2, 0, none⟩) (cur.length + 1) cap2) (cur ++ [(a : Int)])) := RowI.snoc hown'
              clear hown' hg hat hbA hO2
              have hHP' := HP.out.onto HO'.out (fun k hk => by have := HOWN0.out k hk; omega)
              have hb' : Below w.heap.size w w' := hbw.trans (HO'.out.belowI (by omega) (fun k hk => by have := HOWN0.out k hk; omega))
              obtain ⟨u', ⟨-, -, -, -, hu4⟩, hnv⟩ := hHP'.cells_at HN HD'.out.1
              rw [HD'.out.2] at hnv
              obtain ⟨gn, hun, hcn⟩ := hnv.cells (by simp)
              have hun' : u' = .slice (some ⟨gn, 0, none⟩) 2 2 := hun
              subst hun'
              have hv0 : w'.cell? ⟨gn, 0, none⟩ = some (.int .i64 (p' : Int)) := hcn 0 _ rfl
              have hcz' : w'.cell? (b.add used) = some (.int .i64 z) := (hb'.cell (by rw [block_add]; exact hbl)).trans hcz
              clear hcn hun hnv hHP'
              go_wp2_with fail
              go_roundw
              case rel => exact ⟨p', used + 1, cur ++ [(a : Int)], rfl, hpq, by go_num, by simp; omega, by simp; omega, by simp [lenV], HR', by unfold Hid; rw [List.length_append]; exact hstep.out, HO'.out⟩
              case measure => simp [lenV]; omega
            · have hstep := Lib.hid (hrun2.out.step hne0 (k' := r') (ch' := xs.drop (used + 1)) (by rw [hnx, hp, hdrop]; simp [stepP, hz2]))
              have hrm : (z.tmod 2 == 0) = false := by
                rw [beq_eq_false_iff_ne]
                intro e
                have := (tmod_two z).1 e
                omega
              clear hrun hrun2 hne0 hnx hN hd hp hpr hrr hmk hfull hdrop hz2 hxz
              go_wp2_with (at_builtin; refine wpList_append_lies _ rfl _ _ 23 rfl w.heap.size 3 i0 (.int .i64 0) 1 8 Try.underlying23 HI.out HZ0.out HZ1.out HZ2.out rfl (by decide) _ _ _ rfl ((RowI.own hrow.out).alloc _) ⟨_, 0, none⟩ 1 1 [.int .i64 (a : Int)] rfl rfl ?sd1 ?sd2 (by decide) ?sd3 ?sd4 ?sd5 _ rfl ?_)
              try (case sd1 => exact news1 (by simp) rfl)
              try (case sd2 => rfl)
              try (case sd2 => intro u hu; simp only [List.mem_cons, List.not_mem_nil, or_false] at hu; subst hu; rfl)
              try (case sd3 => unfold maxLen; omega)
              try (case sd4 => omega)
              try (case sd5 => first | omega | (simp; omega) | (simp only [World.heap_size_alloc]; omega) | (have := hzw; simp; exact Nat.le_succ_of_le this))
              intro g2 cap2 w' hown' hg hat hlt'
              have hbA := (Below.refl wr.heap.size wr).alloc (Nat.le_refl _) (.cells #[Value.int .i64 (a : Int)] 3)
              have hO2 := (Onto.of_below hbA (Value.slice Ao cur.length co)).trans (onto_of (n := cur.length + 1) (cap := cap2) hg (hat.imp id fun e => e.trans (by simp)))
              have HO' := Lib.hid (hO.trans hO2)
              have HR' : Hid (RowI w' w.heap.size (.slice (some ⟨g2, 0, none⟩) (cur.length + 1) cap2) (cur ++ [(a : Int)])) := RowI.snoc hown'
              clear hown' hg hat hbA hO2
              have hHP' := HP.out.onto HO'.out (fun k hk => by have := HOWN0.out k hk; omega)
              have hb' : Below w.heap.size w w' := hbw.trans (HO'.out.belowI (by omega) (fun k hk => by have := HOWN0.out k hk; omega))
              obtain ⟨u', ⟨-, -, -, -, hu4⟩, hnv⟩ := hHP'.cells_at HN HD'.out.1
              rw [HD'.out.2] at hnv
              obtain ⟨gn, hun, hcn⟩ := hnv.cells (by simp)
              have hun' : u' = .slice (some ⟨gn, 0, none⟩) 2 2 := hun
              subst hun'
              have hv0 : w'.cell? ⟨gn, 1, none⟩ = some (.int .i64 (r' : Int)) := hcn 1 _ rfl
              have hcz' : w'.cell? (b.add used) = some (.int .i64 z) := (hb'.cell (by rw [block_add]; exact hbl)).trans hcz
              clear hcn hun hnv hHP'
              go_wp2_with fail
              go_roundw
              case rel => exact ⟨r', used + 1, cur ++ [(a : Int)], rfl, hrq, by go_num, by simp; omega, by simp; omega, by simp [lenV], HR', by unfold Hid; rw [List.length_append]; exact hstep.out, HO'.out⟩
              case measure => simp [lenV]; omega
          · have hdrop : xs.drop used = [] := List.drop_of_length_le (by omega)
            have hdrop2 : xs.drop (used + 1) = [] := List.drop_of_length_le (by omega)
            have hstep := Lib.hid (hrun2.out.step hne0 (k' := r') (ch' := xs.drop (used + 1)) (by rw [hnx, hp, hdrop, hdrop2]; rfl))
            have hdu : decide ((used : Int) < xs.length) = false := decide_eq_false (by omega)
            clear hrun hrun2 hne0 hnx hN hd hp hpr hrr hmk hfull hdrop hdrop2
            go_wp2_with (at_builtin; refine wpList_append_lies _ rfl _ _ 23 rfl w.heap.size 3 i0 (.int .i64 0) 1 8 Try.underlying23 HI.out HZ0.out HZ1.out HZ2.out rfl (by decide) _ _ _ rfl ((RowI.own hrow.out).alloc _) ⟨_, 0, none⟩ 1 1 [.int .i64 (a : Int)] rfl rfl ?se1 ?se2 (by decide) ?se3 ?se4 ?se5 _ rfl ?_)
            try (case se1 => exact news1 (by simp) rfl)
            try (case se2 => rfl)
            try (case se2 => intro u hu; simp only [List.mem_cons, List.not_mem_nil, or_false] at hu; subst hu; rfl)
            try (case se3 => unfold maxLen; omega)
            try (case se4 => omega)
            try (case se5 => first | omega | (simp; omega) | (simp only [World.heap_size_alloc]; omega) | (have := hzw; simp; exact Nat.le_succ_of_le this))
            intro g2 cap2 w' hown' hg hat hlt'
            have hbA := (Below.refl wr.heap.size wr).alloc (Nat.le_refl _) (.cells #[Value.int .i64 (a : Int)] 3)
            have hO2 := (Onto.of_below hbA (Value.slice Ao cur.length co)).trans (onto_of (n := cur.length + 1) (cap := cap2) hg (hat.imp id fun e => e.trans (by simp)))
            have HO' := Lib.hid (hO.trans hO2)
            have HR' : Hid (RowI w' w.heap.size (.slice (some ⟨g2, 0, none⟩) (cur.length + 1) cap2) (cur ++ [(a : Int)])) := RowI.snoc hown'
            clear hown' hg hat hbA hO2
            have hHP' := HP.out.onto HO'.out (fun k hk => by have := HOWN0.out k hk; omega)
            have hb' : Below w.heap.size w w' := hbw.trans (HO'.out.belowI (by omega) (fun k hk => by have := HOWN0.out k hk; omega))
            obtain ⟨u', ⟨-, -, -, -, hu4⟩, hnv⟩ := hHP'.cells_at HN HD'.out.1
            rw [HD'.out.2] at hnv
            obtain ⟨gn, hun, hcn⟩ := hnv.cells (by simp)
            have hun' : u' = .slice (some ⟨gn, 0, none⟩) 2 2 := hun
            subst hun'
            have hv0 : w'.cell? ⟨gn, 1, none⟩ = some (.int .i64 (r' : Int)) := hcn 1 _ rfl
            clear hcn hun hnv hHP'
            go_wp2_with fail
            go_roundw
            case rel => exact ⟨r', used + 1, cur ++ [(a : Int)], rfl, hrq, by go_num, by simp; omega, by simp; omega, by simp [lenV], HR', by unfold Hid; rw [List.length_append]; exact hstep.out, HO'.out⟩
            case measure => simp [lenV]; omega

end Go.Proofs.Ytcaklhempmlpgaa

namespace Go.Proofs.Ytcaklhempmlpgaa
open Go.RowKit Go.Deep
set_option linter.unusedVariables false

set_option maxRecDepth 100000 in
set_option maxHeartbeats 2000000 in
theorem specRunPath_any (ts : List Int) (s : Sts) (At As : Option Addr) (ct cs : Nat) (xs : List Int) (A : Option Addr) (c : Nat) (most : Int) (w : World) (hsz : s.size ≤ 1048576) (hT : IntsV w 0 w.heap.size ts At ct) (hR : RepV w 0 w.heap.size s As cs) (hX : IntsV w 0 w.heap.size xs A c) :
    Calls Try.prog 10 #[.agg #[.slice At ts.length ct, .slice As s.len cs], .slice A xs.length c, .int .i64 most] w fun E w' => ∃ v, E = .returned (.tuple #[v, .bool (runI (validB ts s) s xs most).2]) ∧ RowI w' w.heap.size v (runI (validB ts s) s xs most).1 ∧ Below w.heap.size w w' := by
  have hb0 := (((Below.refl w.heap.size w).alloc (Nat.le_refl _) (.cells #[.slice At ts.length ct, .slice As s.len cs] 26)).alloc (by simp) (.cells #[] 3))
  have hT1 := hT.below hb0 (by simp; omega : w.heap.size ≤ ((w.alloc (.cells #[.slice At ts.length ct, .slice As s.len cs] 26)).alloc (.cells #[] 3)).heap.size)
  have hR1 := hR.below hb0 (by simp; omega : w.heap.size ≤ ((w.alloc (.cells #[.slice At ts.length ct, .slice As s.len cs] 26)).alloc (.cells #[] 3)).heap.size)
  have hz0 : ((w.alloc (.cells #[.slice At ts.length ct, .slice As s.len cs] 26)).alloc (.cells #[] 3)).heap.size = w.heap.size + 2 := by simp
  by_cases h1 : validB ts s = true
  · by_cases h2 : 0 ≤ most ∧ most ≤ 1000
    · obtain ⟨m, hm⟩ : ∃ m : Nat, most = (m : Int) := ⟨most.toNat, by omega⟩
      subst hm
      have e0 : runI (validB ts s) s xs m = runP (progPts s) m 0 xs := by
        unfold runI
        rw [if_pos ⟨h1, by omega, by omega⟩, Int.toNat_natCast]
      rw [e0]
      exact specRun_loop ts s At As ct cs xs A c m w hsz h1 (by omega) hT hR hX
    · have e0 : Hid (runI (validB ts s) s xs most = ([], false)) := by
        unfold Hid runI
        rw [if_neg (fun h => h2 h.2)]
      have HN : Hid ((pointsB (validB ts s) s).length = s.npts + 1) := by
        unfold Hid pointsB
        rw [if_pos h1, progPts_len]
      clear h1
      by_cases h3 : most < 0
      · have hrow0 : RowI ((w.alloc (.cells #[.slice At ts.length ct, .slice As s.len cs] 26)).alloc (.cells #[] 3)) w.heap.size (.slice (some ⟨w.heap.size + 1, 0, none⟩) 0 0) [] := by
          have := World.ownsRow_lit (base := w.heap.size) (e := 3) (size := 1) (w.alloc (.cells #[.slice At ts.length ct, .slice As s.len cs] 26)) #[] 0 (by simp) (by simp [maxLen]) rfl
          have hz : (w.alloc (.cells #[.slice At ts.length ct, .slice As s.len cs] 26)).heap.size = w.heap.size + 1 := by simp
          rw [hz] at this
          exact this
        have HROW0 := Lib.hid hrow0
        have HZ := Lib.hid hz0
        have hS := specPointsOf_any ts s At As ct cs _ hsz hT1 hR1
        have hq0 : (pointsB (validB ts s) s).length ≤ 3000000 := by
          have := s.npts_le
          unfold pointsB
          split
          · rw [progPts_len]; omega
          · simp
        have hd1 : decide (most < 0) = true := decide_eq_true h3
        have hq1 : ((s.npts : Int) + 1 == 0) = false := by simp; omega
        clear hrow0 hz0
        go_enter Try.func10, Try.ntmps10
        go_wp2_with fail
        refine hS.mono ?_
        rintro E w1 ⟨v, rfl, hP, hb1⟩
        rw [HZ.out] at hP hb1
        have hbw : Below w.heap.size w w1 := hb0.trans (hb1.mono (by omega))
        obtain ⟨Av, cv, hv⟩ := hP.slice
        rw [HN.out] at hv
        subst hv
        have HR0 : Hid (RowI w1 w.heap.size (.slice (some ⟨w.heap.size + 1, 0, none⟩) 0 0) []) := HROW0.out.below (by rw [HZ.out]; exact hb1)
        clear hP hb1 hS HROW0
        go_wp2_with fail
        go_ret2
        exact ⟨_, by rw [e0.out]; rfl, by rw [e0.out]; exact HR0.out, hbw⟩

      · have h4 : 1000 < most := by omega
        have hrow0 : RowI ((w.alloc (.cells #[.slice At ts.length ct, .slice As s.len cs] 26)).alloc (.cells #[] 3)) w.heap.size (.slice (some ⟨w.heap.size + 1, 0, none⟩) 0 0) [] := by
          have := World.ownsRow_lit (base := w.heap.size) (e := 3) (size := 1) (w.alloc (.cells #[.slice At ts.length ct, .slice As s.len cs] 26)) #[] 0 (by simp) (by simp [maxLen]) rfl
          have hz : (w.alloc (.cells #[.slice At ts.length ct, .slice As s.len cs] 26)).heap.size = w.heap.size + 1 := by simp
          rw [hz] at this
          exact this
        have HROW0 := Lib.hid hrow0
        have HZ := Lib.hid hz0
        have hS := specPointsOf_any ts s At As ct cs _ hsz hT1 hR1
        have hq0 : (pointsB (validB ts s) s).length ≤ 3000000 := by
          have := s.npts_le
          unfold pointsB
          split
          · rw [progPts_len]; omega
          · simp
        have hd1 : decide (most < 0) = false := decide_eq_false h3
        have hd2 : decide (1000 < most) = true := decide_eq_true h4
        have hq1 : ((s.npts : Int) + 1 == 0) = false := by simp; omega
        clear hrow0 hz0
        go_enter Try.func10, Try.ntmps10
        go_wp2_with fail
        refine hS.mono ?_
        rintro E w1 ⟨v, rfl, hP, hb1⟩
        rw [HZ.out] at hP hb1
        have hbw : Below w.heap.size w w1 := hb0.trans (hb1.mono (by omega))
        obtain ⟨Av, cv, hv⟩ := hP.slice
        rw [HN.out] at hv
        subst hv
        have HR0 : Hid (RowI w1 w.heap.size (.slice (some ⟨w.heap.size + 1, 0, none⟩) 0 0) []) := HROW0.out.below (by rw [HZ.out]; exact hb1)
        clear hP hb1 hS HROW0
        go_wp2_with fail
        go_ret2
        exact ⟨_, by rw [e0.out]; rfl, by rw [e0.out]; exact HR0.out, hbw⟩

  · have h1' : validB ts s = false := by simpa using h1
    have e0 : Hid (runI (validB ts s) s xs most = ([], false)) := by
      unfold Hid runI
      rw [if_neg (fun h => h1 h.1)]
    have HN : Hid ((pointsB (validB ts s) s).length = 0) := by
      unfold Hid pointsB
      rw [h1']
      rfl
    clear h1 h1'
    have hrow0 : RowI ((w.alloc (.cells #[.slice At ts.length ct, .slice As s.len cs] 26)).alloc (.cells #[] 3)) w.heap.size (.slice (some ⟨w.heap.size + 1, 0, none⟩) 0 0) [] := by
      have := World.ownsRow_lit (base := w.heap.size) (e := 3) (size := 1) (w.alloc (.cells #[.slice At ts.length ct, .slice As s.len cs] 26)) #[] 0 (by simp) (by simp [maxLen]) rfl
      have hz : (w.alloc (.cells #[.slice At ts.length ct, .slice As s.len cs] 26)).heap.size = w.heap.size + 1 := by simp
      rw [hz] at this
      exact this
    have HROW0 := Lib.hid hrow0
    have HZ := Lib.hid hz0
    have hS := specPointsOf_any ts s At As ct cs _ hsz hT1 hR1
    have hq0 : (pointsB (validB ts s) s).length ≤ 3000000 := by
      have := s.npts_le
      unfold pointsB
      split
      · rw [progPts_len]; omega
      · simp
    clear hrow0 hz0
    go_enter Try.func10, Try.ntmps10
    go_wp2_with fail
    refine hS.mono ?_
    rintro E w1 ⟨v, rfl, hP, hb1⟩
    rw [HZ.out] at hP hb1
    have hbw : Below w.heap.size w w1 := hb0.trans (hb1.mono (by omega))
    obtain ⟨Av, cv, hv⟩ := hP.slice
    rw [HN.out] at hv
    subst hv
    have HR0 : Hid (RowI w1 w.heap.size (.slice (some ⟨w.heap.size + 1, 0, none⟩) 0 0) []) := HROW0.out.below (by rw [HZ.out]; exact hb1)
    clear hP hb1 hS HROW0
    go_wp2_with fail
    go_ret2
    exact ⟨_, by rw [e0.out]; rfl, by rw [e0.out]; exact HR0.out, hbw⟩

end Go.Proofs.Ytcaklhempmlpgaa

namespace Go.Proofs.Ytcaklhempmlpgaa
open Go.RowKit Go.Deep
set_option linter.unusedVariables false

theorem runP_len_le (ds : List Nd) (m : Nat) : ∀ k ch, (runP ds m k ch).1.length ≤ m + 1 := by
  induction m with
  | zero => intro k ch; unfold runP; split <;> simp
  | succ m ih =>
    intro k ch
    unfold runP
    split
    · simp
    · have := ih (stepP (nextP ds k) ch).1.toNat (stepP (nextP ds k) ch).2
      simp only [List.length_cons]
      omega

theorem runI_len_le (ok : Bool) (s : Sts) (ch : List Int) (most : Int) : (runI ok s ch most).1.length ≤ 1001 := by
  unfold runI
  split
  · rename_i h
    have := runP_len_le (progPts s) most.toNat 0 ch
    omega
  · simp

/-- A run that may be longer begins as the shorter one, and is the same where that one ends. -/
theorem runP_more (ds : List Nd) (d m : Nat) : ∀ k ch, (∃ r, (runP ds (m + d) k ch).1 = (runP ds m k ch).1 ++ r) ∧ ((runP ds m k ch).2 = true → runP ds (m + d) k ch = runP ds m k ch) := by
  induction m with
  | zero =>
    intro k ch
    by_cases h : nextP ds k = []
    · rw [runP_end h, runP_end h]
      exact ⟨⟨[], by simp⟩, fun _ => rfl⟩
    · rw [runP_zero h]
      exact ⟨⟨_, (List.nil_append _).symm⟩, fun e => by cases e⟩
  | succ m ih =>
    intro k ch
    by_cases h : nextP ds k = []
    · rw [runP_end h, runP_end h]
      exact ⟨⟨[], by simp⟩, fun _ => rfl⟩
    · rw [show m + 1 + d = (m + d) + 1 from by omega, runP, if_neg h, runP, if_neg h]
      obtain ⟨⟨r, hr⟩, he⟩ := ih (stepP (nextP ds k) ch).1.toNat (stepP (nextP ds k) ch).2
      exact ⟨⟨r, by simp only [hr, List.cons_append]⟩, fun e => by rw [he e]⟩

theorem runI_more (ok : Bool) (s : Sts) (ch : List Int) (most : Int) (h0 : 0 ≤ most) (h1 : most ≤ 900) : (∃ r, (runI ok s ch (most + 100)).1 = (runI ok s ch most).1 ++ r) ∧ ((runI ok s ch most).2 = true → runI ok s ch (most + 100) = runI ok s ch most) := by
  unfold runI
  by_cases hk : ok = true
  · rw [if_pos ⟨hk, by omega, by omega⟩, if_pos ⟨hk, by omega, by omega⟩, show (most + 100).toNat = most.toNat + 100 from by omega]
    exact runP_more _ _ _ _ _
  · rw [if_neg (fun h => hk h.1), if_neg (fun h => hk h.1)]
    exact ⟨⟨[], rfl⟩, fun _ => rfl⟩

/-- Choices that go the same ways. -/
inductive Same : List Int → List Int → Prop
  | tail : Same [] []
  | last (c : Int) (h : c % 2 ≠ 0) : Same [] [c]
  | cons (c d : Int) (cs ds : List Int) (h : c % 2 = 0 ↔ d % 2 = 0) (hs : Same cs ds) : Same (c :: cs) (d :: ds)

theorem stepP_same {nx ch ch' : List Int} (h : Same ch ch') : (stepP nx ch').1 = (stepP nx ch).1 ∧ Same (stepP nx ch).2 (stepP nx ch').2 := by
  match nx with
  | [] => exact ⟨rfl, h⟩
  | [a] => exact ⟨rfl, h⟩
  | a :: b :: l =>
    cases h with
    | tail => exact ⟨rfl, .tail⟩
    | last c hc => exact ⟨by show (if c % 2 = 0 then a else b) = b; rw [if_neg hc], .tail⟩
    | cons c d cs ds hcd hs =>
      refine ⟨?_, hs⟩
      show (if d % 2 = 0 then a else b) = (if c % 2 = 0 then a else b)
      by_cases hc : c % 2 = 0
      · rw [if_pos hc, if_pos (hcd.1 hc)]
      · rw [if_neg hc, if_neg (fun e => hc (hcd.2 e))]

theorem runP_same (ds : List Nd) (m : Nat) : ∀ k ch ch', Same ch ch' → runP ds m k ch' = runP ds m k ch := by
  induction m with
  | zero => intro k ch ch' _; unfold runP; rfl
  | succ m ih =>
    intro k ch ch' h
    obtain ⟨h1, h2⟩ := stepP_same (nx := nextP ds k) h
    rw [runP, runP, h1, ih _ _ _ h2]

theorem same_even (f : Int → Int) (hf : ∀ c, c % 2 = 0 ↔ f c % 2 = 0) : ∀ ch : List Int, Same ch (ch.map f ++ [1])
  | [] => .last 1 (by decide)
  | c :: cs => .cons c (f c) cs _ (hf c) (same_even f hf cs)

theorem runI_even (ok : Bool) (s : Sts) (ch : List Int) (most : Int) : runI ok s (ch.map (fun c => c.tmod 2) ++ [1]) most = runI ok s ch most := by
  unfold runI
  rw [runP_same _ _ _ _ _ (same_even (fun c => c.tmod 2) (fun c => by
    show c % 2 = 0 ↔ c.tmod 2 % 2 = 0
    constructor
    · intro h
      rw [Int.tmod_eq_zero_of_dvd (Int.dvd_of_emod_eq_zero h)]
      rfl
    · intro h
      have h1 := Int.mul_tdiv_add_tmod c 2
      omega) ch)]

end Go.Proofs.Ytcaklhempmlpgaa

namespace Go.Proofs.Ytcaklhempmlpgaa
open Go.RowKit Go.Deep
set_option linter.unusedVariables false

/-- Lists that are alike up to an index. -/
def Alike (xs ys : List Int) (k : Nat) : Prop := ∀ j, j < k → xs[j]? = ys[j]?

theorem Alike.all {xs ys : List Int} (h : Alike xs ys xs.length) (hl : xs.length = ys.length) : xs = ys := by
  apply List.ext_getElem? 
  intro j
  by_cases hj : j < xs.length
  · exact h j hj
  · rw [List.getElem?_eq_none (by omega), List.getElem?_eq_none (by omega)]

set_option maxHeartbeats 400000 in
theorem bcInts_any (xs ys : List Int) (A A' : Option Addr) (c c' : Nat) (w : World) (hR : IntsV w 0 w.heap.size xs A c) (hR' : IntsV w 0 w.heap.size ys A' c') :
    Calls Try.prog 11 #[.slice A xs.length c, .slice A' ys.length c'] w fun e w' => e = .returned (.bool (decide (xs = ys))) ∧ Below w.heap.size w w' := by
  have hm := hR.2.1
  have hlc := hR.1
  have hm' := hR'.2.1
  have hlc' := hR'.1
  unfold maxLen at hm hm'
  by_cases hl : xs.length = ys.length
  · have H := Lib.hid hR
    have H' := Lib.hid hR'
    have HL := Lib.hid hl
    have hle : xs.length ≤ ys.length := Nat.le_of_eq hl
    have hne : ((xs.length : Int) != (ys.length : Int)) = false := by simp; omega
    clear hl hR hR'
    go_enter Try.func11, Try.ntmps11
    go_wp2_with fail
    go_loopw [5] (fun i wr => ∃ k : Nat, k ≤ xs.length ∧ i = .int .i64 k ∧ Hid (Alike xs ys k) ∧ Below w.heap.size w wr) (fun i _ => xs.length - (intOf i).toNat)
    case atStart => exact ⟨0, Nat.zero_le _, rfl, fun j hj => absurd hj (by omega), Below.refl _ _⟩
    case round =>
      obtain ⟨k, hk, rfl, hA, hb⟩ := hrel
      by_cases hlt : k < xs.length
      · obtain ⟨b, v, rfl, -, hbb, hx, hc⟩ := (H.out.below hb hb.size).elem hlt
        obtain ⟨b', v', rfl, -, hbb', hx', hc'⟩ := (H'.out.below hb hb.size).elem (show k < ys.length by omega)
        have hlt' : k < ys.length := by omega
        by_cases hv : v = v'
        · subst hv
          have hA2 : Hid (Alike xs ys (k + 1)) := by
            intro j hj
            by_cases e : j = k
            · subst e; rw [hx, hx']
            · exact hA.out j (by omega)
          have hnv : ((v != v) : Bool) = false := by simp
          clear hx hx' hA
          go_wp2_with fail
          go_quiet (fail)
          go_wp2_with fail
          go_roundw
          case rel => exact ⟨k + 1, by omega, by go_num, hA2, hb.trans ⟨rfl, rfl, rfl, Nat.le_refl _, fun _ _ => rfl⟩⟩
          case measure => simp [intOf]; omega
        · have hnv : ((v != v') : Bool) = true := by simpa using hv
          have hdec : Hid (decide (xs = ys) = false) := by
            refine decide_eq_false fun e => hv ?_
            rw [e, hx'] at hx
            injection hx with hx
            exact hx.symm
          clear hx hx' hA hv
          go_wp2_with fail
          go_quiet (fail)
          go_wp2_with fail
          go_ret
          exact ⟨by rw [hdec.out]; rfl, hb.trans ⟨rfl, rfl, rfl, Nat.le_refl _, fun _ _ => rfl⟩⟩
      · have hdec : Hid (decide (xs = ys) = true) := decide_eq_true ((show Alike xs ys xs.length by have := hA.out; rwa [show k = xs.length from by omega] at this).all HL.out)
        go_wp2_with fail
        go_ret
        exact ⟨by rw [hdec.out]; rfl, hb⟩
  · have hdec : Hid (decide (xs = ys) = false) := decide_eq_false fun e => hl (by rw [e])
    have hne : ((xs.length : Int) != (ys.length : Int)) = true := by simp; omega
    clear hl
    go_enter Try.func11, Try.ntmps11
    go_wp2_with fail
    go_ret
    exact ⟨by rw [hdec.out]; rfl, Below.refl _ _⟩

theorem IntsV.front {w : World} {lo hi : Nat} {xs r : List Int} {A : Option Addr} {c : Nat} (h : IntsV w lo hi (xs ++ r) A c) : IntsV w lo hi xs A c := by
  have hl : (xs ++ r).length = xs.length + r.length := List.length_append
  refine ⟨by have := h.1; omega, h.2.1, fun h0 => ?_⟩
  obtain ⟨b, rfl, h1, h2, h3⟩ := h.2.2 (by omega)
  exact ⟨b, rfl, h1, h2, fun j v hv => h3 j v (by rw [List.getElem?_append_left (List.getElem?_eq_some_iff.1 hv).1]; exact hv)⟩

end Go.Proofs.Ytcaklhempmlpgaa
