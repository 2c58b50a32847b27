/-
  The program's runs.
-/
import Derived.Test.YtlddoookojjleaaZBase
import Derived.Test.YtlddoookojjleaaZRunA
import Derived.Test.YtlddoookojjleaaZStmtY
import Derived.Test.YtlddoookojjleaaZMem
namespace Go.Proofs.Ytlddoookojjleaa
open Go.RowKit Go.Deep
set_option linter.unusedVariables false

theorem last_anyR (C : Nat) (ns : List Nd) (w : World) (hG : Gr C w ns) (h0 : 0 < ns.length) : Calls Try.prog 66 #[.pointer (some ⟨C, 0, none⟩)] w fun E w' => E = .returned (.int .i64 ((ns.length : Int) - 1)) ∧ Below w.heap.size w w' := by
  have hc := hG.count
  have hle := hG.le
  have HG := Lib.hid hG
  clear hG
  go_enter Try.func66, Try.ntmps66
  go_wp2_with fail
  go_ret
  exact ⟨rfl, by first | exact Below.refl _ _ | exact (Below.refl _ _).drew⟩

set_option maxRecDepth 100000 in
set_option maxHeartbeats 4000000 in
theorem run_any (C q m : Nat) (ds : List Nd) (xs : List Int) (A : Option Addr) (c : Nat) (w : World) (hD : PtsOk q ds) (hG : Gr C w ds) (hm : m ≤ 1000) (hX : IntsV w 0 w.heap.size xs A c) :
    Calls Try.prog 45 #[.pointer (some ⟨C, 0, none⟩), .slice A xs.length c, .int .i64 m] w fun E w' => ∃ v, E = .returned (.tuple #[v, .bool (runP ds m 0 xs).2]) ∧ RowI w' w.heap.size v (runP ds m 0 xs).1 ∧ Below w.heap.size w w' := by
  obtain ⟨i0, hi, hz0, hz1, hz2⟩ := info_parts Try.infoInt
  have HI := Lib.hid hi
  have HZ0 := Lib.hid hz0
  have HZ1 := Lib.hid hz1
  have HZ2 := Lib.hid hz2
  clear hi hz0 hz1 hz2
  have hC := hG.lt
  have hq60 : q ≤ 60 := by have := hG.le; have := hD.1; omega
  have HG := Lib.hid hG
  have HD := Lib.hid hD
  have HX : Hid (∃ A' c', Value.slice A xs.length c = .slice A' xs.length c' ∧ IntsV w 0 w.heap.size xs A' c') := ⟨A, c, rfl, hX⟩
  obtain ⟨all, hall⟩ : ∃ all, all = runP ds m 0 xs := ⟨_, rfl⟩
  have hst : Hid (RunAt ds all [] (m - 0) 0 xs) := by unfold Hid RunAt; rw [hall]; rfl
  rw [← hall]
  have hrow0 : Hid (RowI w w.heap.size (.slice none 0 0) []) := World.ownsRow_nil w w.heap.size 3 1
  clear hall hG hD hX
  go_enter Try.func45, Try.ntmps45
  go_wp2_with fail
  go_step3
  go_wp2_with fail
  go_step3
  go_wp2_with fail
  go_loopw [1, 8, 9, 13] (fun x p at_ i wr => ∃ (k a : Nat) (cur rest : List Int), k ≤ m ∧ i = .int .i64 k ∧ at_ = .int .i64 a ∧ a ≤ q ∧ Hid (cur.length = k) ∧ Hid (RowI wr w.heap.size p cur) ∧ Hid (∃ A' c', x = .slice A' rest.length c' ∧ IntsV w 0 w.heap.size rest A' c') ∧ Hid (RunAt ds all cur (m - k) a rest) ∧ Below w.heap.size w wr) (fun _ _ _ i _ => m - (intOf i).toNat)
  case atStart => exact ⟨0, 0, [], xs, Nat.zero_le _, rfl, rfl, Nat.zero_le _, rfl, hrow0, HX, hst, Below.refl _ _⟩
  case round =>
    clear hst hrow0 HX
    obtain ⟨k, a, cur, rest, hk, rfl, rfl, haq, hcl, hrow, hx, hrun, hb⟩ := hrel
    have hGr := Lib.hid (HG.out.kept (hb.block C hC))
    have hbz := hb.size
    have hcl2 : cur.length ≤ 1000 := by rw [hcl.out]; omega
    have HQ : Hid ((ds.length : Int) - 1 = q) := by unfold Hid; rw [HD.out.1]; omega
    by_cases hlt : k < m
    · by_cases hend : a = q
      · subst hend
        have hn0 : nextP ds a = [] := by rw [nextP_some HD.out.2.1]
        have hall := Lib.hid (hrun.out.last hn0)
        have hno := nextOf_any C a _ ds wr hGr.out HD.out.2.1
        clear hrun hn0
        go_wp2_with fail
        refine hno.mono ?_
        rintro E w2 ⟨rfl, hb2⟩
        have hbB := hb.trans (hb2.mono hbz)
        have HRB := Lib.hid (hrow.out.below hb2)
        clear hno hb2
        have hl := last_anyR C ds w2 (HG.out.kept (hbB.block C hC)) (by rw [HD.out.1]; omega)
        rw [HQ.out] at hl
        go_wp2_with fail
        refine hl.mono ?_
        rintro E wl ⟨rfl, hbl⟩
        have hbL := hbB.trans (hbl.mono hbB.size)
        have HRL := Lib.hid (HRB.out.below hbl)
        have hzL := hbL.size
        clear hl hbl
        go_wp2_with (at_builtin; refine wpList_append_own _ rfl _ _ 22 rfl w.heap.size 3 i0 (.int .i64 0) 1 8 Try.underlying22 HI.out HZ0.out HZ1.out HZ2.out rfl (by decide) _ _ _ rfl ((RowI.own HRL.out).alloc _) ⟨_, 0, none⟩ 1 1 [.int .i64 (a : Int)] rfl rfl ?ra1 ?ra2 ?ra3 ?ra4 ?ra5 ?_)
        try (case ra1 => exact news1 (by simp) rfl)
        try (case ra2 => intro u hu; simp only [List.mem_cons, List.not_mem_nil, or_false] at hu; subst hu; rfl)
        try (case ra3 => unfold maxLen; omega)
        try (case ra4 => omega)
        try (case ra5 => simp; omega)
        intro v' w' hown' hg hne
        have hb' := (hbL.alloc hzL (.cells #[Value.int .i64 (a : Int)] 3)).grown hg (by simp; omega) (fun g hg' => ((RowI.own HRL.out).lt g hg').1)
        have HR' : Hid (RowI w' w.heap.size v' (cur ++ [(a : Int)])) := RowI.snoc hown'
        clear hown' hg hne
        go_wp2_with fail
        unfold Exit.noGoto
        go_ret2
        exact ⟨v', by rw [hall.out]; rfl, by rw [hall.out]; exact HR'.out, hb'⟩
      · obtain ⟨d, hd, hN⟩ := HD.out.2.2 a (by omega)
        have hnx : nextP ds a = d.next := nextP_some hd
        have hne0 : nextP ds a ≠ [] := by
          rw [hnx]
          intro e
          have := hN.one
          rw [e] at this
          simp at this
        have hmk : m - k = (m - (k + 1)) + 1 := by omega
        have hrun2 : Hid (RunAt ds all cur ((m - (k + 1)) + 1) a rest) := by unfold Hid; rw [← hmk]; exact hrun.out
        have hno := nextOf_any C a d ds wr hGr.out hd
        rcases list12 hN.one hN.two with ⟨p, hp⟩ | ⟨p, r, hp⟩
        · have hd1 : d.next.length = 1 := by rw [hp]; rfl
          have hpr := hN.le p (by rw [hp]; simp)
          obtain ⟨p', hp'⟩ : ∃ p' : Nat, p = (p' : Int) := ⟨p.toNat, by omega⟩
          subst hp'
          have hpq : p' ≤ q := by omega
          have hstep := Lib.hid (hrun2.out.step hne0 (k' := p') (ch' := rest) (by rw [hnx, hp]; rfl))
          rw [hd1] at hno
          have hget : d.next[0]? = some (p' : Int) := by rw [hp]; rfl
          have HD' := Lib.hid (And.intro hd hget)
          clear hrun hrun2 hne0 hnx hN hp hd hpr hd1 hget
          go_wp2_with fail
          refine hno.mono ?_
          rintro E w2 ⟨rfl, hb2⟩
          have hbB := hb.trans (hb2.mono hbz)
          have HRB := Lib.hid (hrow.out.below hb2)
          have hzB := hbB.size
          clear hno hb2
          go_wp2_with (at_builtin; refine wpList_append_own _ rfl _ _ 22 rfl w.heap.size 3 i0 (.int .i64 0) 1 8 Try.underlying22 HI.out HZ0.out HZ1.out HZ2.out rfl (by decide) _ _ _ rfl ((RowI.own HRB.out).alloc _) ⟨_, 0, none⟩ 1 1 [.int .i64 (a : Int)] rfl rfl ?rc1 ?rc2 ?rc3 ?rc4 ?rc5 ?_)
          try (case rc1 => exact news1 (by simp) rfl)
          try (case rc2 => intro u hu; simp only [List.mem_cons, List.not_mem_nil, or_false] at hu; subst hu; rfl)
          try (case rc3 => unfold maxLen; omega)
          try (case rc4 => omega)
          try (case rc5 => simp; omega)
          intro v' w' hown' hg hne
          have hb' := (hbB.alloc hzB (.cells #[Value.int .i64 (a : Int)] 3)).grown hg (by simp; omega) (fun g hg' => ((RowI.own HRB.out).lt g hg').1)
          have HR' : Hid (RowI w' w.heap.size v' (cur ++ [(a : Int)])) := RowI.snoc hown'
          have hnx0 : w'.cell? ⟨C, a * 7 + 4, none⟩ = some (.int .i64 (p' : Int)) := ((HG.out.kept (hb'.block C hC)).node HD'.out.1).2.1 0 _ HD'.out.2
          have hnx1 : w'.cell? ((⟨C, a * 7 + 4, none⟩ : Addr).add 0) = some (.int .i64 (p' : Int)) := by simpa [Addr.add] using hnx0
          clear hown' hg hne
          go_wp2_with fail
          go_roundw
          case rel => exact ⟨k + 1, p', cur ++ [(a : Int)], rest, by omega, by go_num, rfl, hpq, by unfold Hid; rw [List.length_append, hcl.out]; rfl, HR', hx, hstep, hb'⟩
          case measure => simp [intOf]; omega
        · have hd2 : d.next.length = 2 := by rw [hp]; rfl
          have hpr := hN.le p (by rw [hp]; simp)
          have hrr := hN.le r (by rw [hp]; simp)
          obtain ⟨p', hp'⟩ : ∃ p' : Nat, p = (p' : Int) := ⟨p.toNat, by omega⟩
          subst hp'
          obtain ⟨r', hr'⟩ : ∃ r' : Nat, r = (r' : Int) := ⟨r.toNat, by omega⟩
          subst hr'
          have hpq : p' ≤ q := by omega
          have hrq : r' ≤ q := by omega
          rw [hd2] at hno
          have hget0 : d.next[0]? = some (p' : Int) := by rw [hp]; rfl
          have hget1 : d.next[1]? = some (r' : Int) := by rw [hp]; rfl
          obtain ⟨A', c', hx', hI⟩ := hx.out
          subst hx'
          cases rest with
          | nil =>
            have hstep := Lib.hid (hrun2.out.step hne0 (k' := r') (ch' := []) (by rw [hnx, hp]; rfl))
            have HD' := Lib.hid (And.intro hd hget1)
            have hfc := fun W => firstChoice_nil A' c' W
            clear hrun hrun2 hne0 hnx hN hp hd hpr hrr hd2 hget0 hget1 hI hx
            go_wp2_with fail
            refine hno.mono ?_
            rintro E w2 ⟨rfl, hb2⟩
            have hbB := hb.trans (hb2.mono hbz)
            have HRB := Lib.hid (hrow.out.below hb2)
            have hzB := hbB.size
            clear hno hb2
            go_wp2_with fail
            refine (hfc _).mono ?_
            rintro E w3 ⟨rfl, hb3⟩
            have hbC := hbB.trans (hb3.mono hzB)
            have HRC := Lib.hid (HRB.out.below hb3)
            have hzC := hbC.size
            clear hfc hb3
            go_wp2_with (at_builtin; refine wpList_append_own _ rfl _ _ 22 rfl w.heap.size 3 i0 (.int .i64 0) 1 8 Try.underlying22 HI.out HZ0.out HZ1.out HZ2.out rfl (by decide) _ _ _ rfl ((RowI.own HRC.out).alloc _) ⟨_, 0, none⟩ 1 1 [.int .i64 (a : Int)] rfl rfl ?rd1 ?rd2 ?rd3 ?rd4 ?rd5 ?_)
            try (case rd1 => exact news1 (by simp) rfl)
            try (case rd2 => intro u hu; simp only [List.mem_cons, List.not_mem_nil, or_false] at hu; subst hu; rfl)
            try (case rd3 => unfold maxLen; omega)
            try (case rd4 => omega)
            try (case rd5 => simp; omega)
            intro v' w' hown' hg hne
            have hb' := (hbC.alloc hzC (.cells #[Value.int .i64 (a : Int)] 3)).grown hg (by simp; omega) (fun g hg' => ((RowI.own HRC.out).lt g hg').1)
            have HR' : Hid (RowI w' w.heap.size v' (cur ++ [(a : Int)])) := RowI.snoc hown'
            have hnx1 : w'.cell? ⟨C, a * 7 + 4 + 1, none⟩ = some (.int .i64 (r' : Int)) := ((HG.out.kept (hb'.block C hC)).node HD'.out.1).2.1 1 _ HD'.out.2
            have HX' : Hid (∃ A' c', Value.slice none 0 0 = .slice A' ([] : List Int).length c' ∧ IntsV w 0 w.heap.size [] A' c') := ⟨none, 0, rfl, by simp, by simp [maxLen], fun h => absurd h (by simp)⟩
            clear hown' hg hne
            go_wp2_with fail
            go_roundw
            case rel => exact ⟨k + 1, r', cur ++ [(a : Int)], [], by omega, by go_num, rfl, hrq, by unfold Hid; rw [List.length_append, hcl.out]; rfl, HR', HX', hstep, hb'⟩
            case measure => simp [intOf]; omega
          | cons z cs =>
            obtain ⟨b, hA, hb0, hb1, hcells⟩ := hI.2.2 (by simp)
            subst hA
            have hcc : cs.length + 1 ≤ c' := hI.1
            have hcm := hI.2.1
            have hz0' : w.cell? b = some (.int .i64 z) := by simpa [Addr.add] using hcells 0 z rfl
            have HCE := Lib.hid hcells
            clear hcells hI hx
            go_wp2_with fail
            refine hno.mono ?_
            rintro E w2 ⟨rfl, hb2⟩
            have hbB := hb.trans (hb2.mono hbz)
            have HRB := Lib.hid (hrow.out.below hb2)
            have hzB := hbB.size
            have hfc := firstChoice_cons b z cs.length c' w2 hcc hcm ((hbB.cell hb1).trans hz0')
            clear hno hb2
            go_wp2_with fail
            refine hfc.mono ?_
            rintro E w3 ⟨⟨zz, A2, rfl, hzz, hA2⟩, hb3⟩
            have hbC := hbB.trans (hb3.mono hzB)
            have HRC := Lib.hid (HRB.out.below hb3)
            have hzC := hbC.size
            have HX' : Hid (∃ A' cx, Value.slice A2 cs.length (c' - 1) = .slice A' cs.length cx ∧ IntsV w 0 w.heap.size cs A' cx) := by
              refine ⟨A2, c' - 1, rfl, by omega, by unfold maxLen at hcm ⊢; omega, fun h0 => ⟨b.add 1, hA2 h0, Nat.zero_le _, by rw [block_add]; exact hb1, fun j v hv => ?_⟩⟩
              rw [add_add]
              exact HCE.out (1 + j) v (by rw [Nat.add_comm]; exact hv)
            clear hfc hb3 hA2 HCE hz0'
            rcases Int.emod_two_eq z with hz2 | hz2
            · have hz0 : zz = 0 := by omega
              subst hz0
              have hstep := Lib.hid (hrun2.out.step hne0 (k' := p') (ch' := cs) (by rw [hnx, hp]; simp [stepP, hz2]))
              have HD' := Lib.hid (And.intro hd hget0)
              clear hrun hrun2 hne0 hnx hN hp hd hpr hrr hd2 hget0 hget1 hzz hz2
              go_wp2_with (at_builtin; refine wpList_append_own _ rfl _ _ 22 rfl w.heap.size 3 i0 (.int .i64 0) 1 8 Try.underlying22 HI.out HZ0.out HZ1.out HZ2.out rfl (by decide) _ _ _ rfl ((RowI.own HRC.out).alloc _) ⟨_, 0, none⟩ 1 1 [.int .i64 (a : Int)] rfl rfl ?re1 ?re2 ?re3 ?re4 ?re5 ?_)
              try (case re1 => exact news1 (by simp) rfl)
              try (case re2 => intro u hu; simp only [List.mem_cons, List.not_mem_nil, or_false] at hu; subst hu; rfl)
              try (case re3 => unfold maxLen; omega)
              try (case re4 => omega)
              try (case re5 => simp; omega)
              intro v' w' hown' hg hne
              have hb' := (hbC.alloc hzC (.cells #[Value.int .i64 (a : Int)] 3)).grown hg (by simp; omega) (fun g hg' => ((RowI.own HRC.out).lt g hg').1)
              have HR' : Hid (RowI w' w.heap.size v' (cur ++ [(a : Int)])) := RowI.snoc hown'
              have hnx1 : w'.cell? ⟨C, a * 7 + 4, none⟩ = some (.int .i64 (p' : Int)) := ((HG.out.kept (hb'.block C hC)).node HD'.out.1).2.1 0 _ HD'.out.2
              have hnx2 : w'.cell? ((⟨C, a * 7 + 4, none⟩ : Addr).add 0) = some (.int .i64 (p' : Int)) := by simpa [Addr.add] using hnx1
              clear hown' hg hne
              go_wp2_with fail
              go_roundw
              case rel => exact ⟨k + 1, p', cur ++ [(a : Int)], cs, by omega, by go_num, rfl, hpq, by unfold Hid; rw [List.length_append, hcl.out]; rfl, HR', HX', hstep, hb'⟩
              case measure => simp [intOf]; omega
            · have hz0 : zz = 1 := by omega
              subst hz0
              have hstep := Lib.hid (hrun2.out.step hne0 (k' := r') (ch' := cs) (by rw [hnx, hp]; simp [stepP, hz2]))
              have HD' := Lib.hid (And.intro hd hget1)
              clear hrun hrun2 hne0 hnx hN hp hd hpr hrr hd2 hget0 hget1 hzz hz2
              go_wp2_with (at_builtin; refine wpList_append_own _ rfl _ _ 22 rfl w.heap.size 3 i0 (.int .i64 0) 1 8 Try.underlying22 HI.out HZ0.out HZ1.out HZ2.out rfl (by decide) _ _ _ rfl ((RowI.own HRC.out).alloc _) ⟨_, 0, none⟩ 1 1 [.int .i64 (a : Int)] rfl rfl ?rf1 ?rf2 ?rf3 ?rf4 ?rf5 ?_)
              try (case rf1 => exact news1 (by simp) rfl)
              try (case rf2 => intro u hu; simp only [List.mem_cons, List.not_mem_nil, or_false] at hu; subst hu; rfl)
              try (case rf3 => unfold maxLen; omega)
              try (case rf4 => omega)
              try (case rf5 => simp; omega)
              intro v' w' hown' hg hne
              have hb' := (hbC.alloc hzC (.cells #[Value.int .i64 (a : Int)] 3)).grown hg (by simp; omega) (fun g hg' => ((RowI.own HRC.out).lt g hg').1)
              have HR' : Hid (RowI w' w.heap.size v' (cur ++ [(a : Int)])) := RowI.snoc hown'
              have hnx1 : w'.cell? ⟨C, a * 7 + 4 + 1, none⟩ = some (.int .i64 (r' : Int)) := ((HG.out.kept (hb'.block C hC)).node HD'.out.1).2.1 1 _ HD'.out.2
              have hnx2 : w'.cell? ((⟨C, a * 7 + 4 + 1, none⟩ : Addr).add 0) = some (.int .i64 (r' : Int)) := by simpa [Addr.add] using hnx1
              clear hown' hg hne
              go_wp2_with fail
              go_roundw
              case rel => exact ⟨k + 1, r', cur ++ [(a : Int)], cs, by omega, by go_num, rfl, hrq, by unfold Hid; rw [List.length_append, hcl.out]; rfl, HR', HX', hstep, hb'⟩
              case measure => simp [intOf]; omega
    · have hkm : k = m := by omega
      subst hkm
      rw [Nat.sub_self] at hrun
      by_cases hend : a = q
      · subst hend
        have hn0 : nextP ds a = [] := by rw [nextP_some HD.out.2.1]
        have hall := Lib.hid (hrun.out.last hn0)
        clear hrun hn0
        have hl := last_anyR C ds wr (HG.out.kept (hb.block C hC)) (by rw [HD.out.1]; omega)
        rw [HQ.out] at hl
        go_wp2_with fail
        refine hl.mono ?_
        rintro E wl ⟨rfl, hbl⟩
        have hbL := hb.trans (hbl.mono hb.size)
        have HRL := Lib.hid (hrow.out.below hbl)
        have hzL := hbL.size
        clear hl hbl
        go_wp2_with (at_builtin; refine wpList_append_own _ rfl _ _ 22 rfl w.heap.size 3 i0 (.int .i64 0) 1 8 Try.underlying22 HI.out HZ0.out HZ1.out HZ2.out rfl (by decide) _ _ _ rfl ((RowI.own HRL.out).alloc _) ⟨_, 0, none⟩ 1 1 [.int .i64 (a : Int)] rfl rfl ?rb1 ?rb2 ?rb3 ?rb4 ?rb5 ?_)
        try (case rb1 => exact news1 (by simp) rfl)
        try (case rb2 => intro u hu; simp only [List.mem_cons, List.not_mem_nil, or_false] at hu; subst hu; rfl)
        try (case rb3 => unfold maxLen; omega)
        try (case rb4 => omega)
        try (case rb5 => simp; omega)
        intro v' w' hown' hg hne
        have hb' := (hbL.alloc hzL (.cells #[Value.int .i64 (a : Int)] 3)).grown hg (by simp; omega) (fun g hg' => ((RowI.own HRL.out).lt g hg').1)
        have HR' : Hid (RowI w' w.heap.size v' (cur ++ [(a : Int)])) := RowI.snoc hown'
        clear hown' hg hne
        go_wp2_with fail
        unfold Exit.noGoto
        go_ret2
        exact ⟨v', by rw [hall.out]; rfl, by rw [hall.out]; exact HR'.out, hb'⟩
      · obtain ⟨d, hd, hN⟩ := HD.out.2.2 a (by omega)
        have hne0 : nextP ds a ≠ [] := by
          rw [nextP_some hd]
          intro e
          have := hN.one
          rw [e] at this
          simp at this
        have hall := Lib.hid (hrun.out.stop hne0)
        have hl := last_anyR C ds wr hGr.out (by rw [HD.out.1]; omega)
        rw [HQ.out] at hl
        have haq2 : ((a : Int) == q) = false := by simp; omega
        clear hrun hne0 hd hN
        go_wp2_with fail
        refine hl.mono ?_
        rintro E wl ⟨rfl, hbl⟩
        have HRL := Lib.hid (hrow.out.below hbl)
        clear hl
        go_wp2_with fail
        unfold Exit.noGoto
        go_ret2
        exact ⟨_, by rw [hall.out]; rfl, by rw [hall.out]; exact HRL.out, hb.trans (hbl.mono hbz)⟩

end Go.Proofs.Ytlddoookojjleaa
