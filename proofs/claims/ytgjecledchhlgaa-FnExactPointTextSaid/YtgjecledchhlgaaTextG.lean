/-
  The program's texts of lists of statements.
-/
import Derived.Test.YtgjecledchhlgaaTextD
import Derived.Test.YtgjecledchhlgaaTextF
import Derived.Test.YtgjecledchhlgaaKindsB
import Derived.Test.YtgjecledchhlgaaShelf
namespace Go.Proofs.Ytgjecledchhlgaa
open Go.RowKit Go.Deep
set_option linter.unusedVariables false

theorem textAt_1 (v : Value) (w : World) : (method 334 113 v "loop.example/borrowcheck/impl.text").run Try.prog w = .ok (167, v) w := by kernel_rfl
theorem textAt_2 (v : Value) (w : World) : (method 334 114 v "loop.example/borrowcheck/impl.text").run Try.prog w = .ok (186, v) w := by kernel_rfl
theorem textAt_3 (v : Value) (w : World) : (method 334 116 v "loop.example/borrowcheck/impl.text").run Try.prog w = .ok (189, v) w := by kernel_rfl
theorem textAt_4 (v : Value) (w : World) : (method 334 117 v "loop.example/borrowcheck/impl.text").run Try.prog w = .ok (192, v) w := by kernel_rfl
theorem textAt_5 (v : Value) (w : World) : (method 334 118 v "loop.example/borrowcheck/impl.text").run Try.prog w = .ok (196, v) w := by kernel_rfl
theorem textAt_6 (v : Value) (w : World) : (method 334 119 v "loop.example/borrowcheck/impl.text").run Try.prog w = .ok (200, v) w := by kernel_rfl
theorem textAt_7 (v : Value) (w : World) : (method 334 120 v "loop.example/borrowcheck/impl.text").run Try.prog w = .ok (203, v) w := by kernel_rfl
theorem textAt_8 (v : Value) (w : World) : (method 334 122 v "loop.example/borrowcheck/impl.text").run Try.prog w = .ok (206, v) w := by kernel_rfl
theorem textAt_9 (v : Value) (w : World) : (method 334 124 v "loop.example/borrowcheck/impl.text").run Try.prog w = .ok (209, v) w := by kernel_rfl
theorem textAt_10 (v : Value) (w : World) : (method 334 126 v "loop.example/borrowcheck/impl.text").run Try.prog w = .ok (212, v) w := by kernel_rfl

theorem Try.infoString : (Try.prog.info? 9).map (fun i => (i.zero, i.size, i.bytes)) = some (some (.string ⟨#[]⟩), 1, 16) := by kernel_rfl

/-- The texts of the statements of a list, one by one. -/
def textsOf : Sts → List (List UInt8)
  | .nil => []
  | .cons op x y n t e r => stmtT op x y n (listT t) (listT e) :: textsOf r

def xsOf (s : Sts) : List Value := (textsOf s).map fun l => Value.string ⟨l.toArray⟩

theorem textsOf_len (s : Sts) : (textsOf s).length = s.len := by
  induction s with
  | nil => rfl
  | cons op x y n t e r iht ihe ihr => simp [textsOf, Sts.len, ihr]

theorem textsOf_drop (s : Sts) : ∀ (k : Nat) (op x y n : Int) (t e r : Sts), s.drop k = .cons op x y n t e r → (textsOf s)[k]? = some (stmtT op x y n (listT t) (listT e)) := by
  induction s with
  | nil => intro k op x y n t e r h; cases k <;> cases h
  | cons op x y n t e r iht ihe ihr =>
    intro k op' x' y' n' t' e' r' h
    cases k with
    | zero =>
      injection h with h1 h2 h3 h4 h5 h6
      subst h1 h2 h3 h4 h5 h6
      rfl
    | succ k => exact ihr k op' x' y' n' t' e' r' h

theorem take_succ_xs (s : Sts) {k : Nat} {st : List UInt8} (h : (textsOf s)[k]? = some st) : (xsOf s).take k ++ [.string ⟨st.toArray⟩] = (xsOf s).take (k + 1) := by
  rw [List.take_add_one]
  simp [xsOf, h]

theorem ownsRow_below {w w' : World} {B : Nat} {e : TypeId} {size n : Nat} {v : Value} {xs : List Value} (h : w.ownsRow B e size v n xs) (hb : Below w.heap.size w w') : w'.ownsRow B e size v n xs := by
  refine ⟨h.1, ?_⟩
  rcases h.2 with h2 | ⟨g, cap, cur, hv, hB, hg, r⟩
  · exact Or.inl h2
  · exact Or.inr ⟨g, cap, cur, hv, hB, (hb.block g (heap_lt hg)).trans hg, r⟩

theorem listT_join (s : Sts) : listT s = Lib.join (textsOf s) [59] := by
  induction s with
  | nil => rfl
  | cons op x y n t e r iht ihe ihr =>
    cases r with
    | nil => simp [listT, textsOf, Sts.len, Lib.join]
    | cons op2 x2 y2 n2 t2 e2 r2 =>
      have : (Sts.cons op2 x2 y2 n2 t2 e2 r2).len ≠ 0 := by simp [Sts.len]
      rw [listT, if_neg this, ihr]
      simp [textsOf, Lib.join]

set_option maxRecDepth 100000 in
set_option maxHeartbeats 8000000 in
theorem listText_of (s : Sts) (A : Option Addr) (c : Nat) (w : World) (hsz : s.size ≤ 1000) (hok : okT s) (hR : RepV w 0 w.heap.size s A c)
    (H9 : ∀ (k : Nat) (x y n : Int) (t e : Sts) (At Ae : Option Addr) (ct ce : Nat) (w' wr : World), s.drop k = .cons 9 x y n t e (s.drop (k + 1)) → Below w.heap.size w wr → RepV wr 0 w.heap.size t At ct → RepV wr 0 w.heap.size e Ae ce → Below w.heap.size w w' →
      Calls Try.prog 209 #[.agg #[.slice At t.len ct, .slice Ae e.len ce]] w' (Txt w' (stmtT 9 x y n (listT t) (listT e))))
    (H10 : ∀ (k : Nat) (x y n : Int) (t e : Sts) (At Ae : Option Addr) (ct ce : Nat) (w' wr : World), s.drop k = .cons 10 x y n t e (s.drop (k + 1)) → Below w.heap.size w wr → RepV wr 0 w.heap.size t At ct → RepV wr 0 w.heap.size e Ae ce → Below w.heap.size w w' →
      Calls Try.prog 212 #[.agg #[.slice At t.len ct]] w' (Txt w' (stmtT 10 x y n (listT t) (listT e)))) :
    Calls Try.prog 66 #[.slice A s.len c] w (Txt w (listT s)) := by
  have hm := hR.2.1
  have hlc := hR.1
  unfold maxLen at hm
  have hls := s.len_le_size
  obtain ⟨i0, hi, hz0, hz1, hz2⟩ := info_parts Try.infoString
  have HI := Lib.hid hi
  have HZ0 := Lib.hid hz0
  have HZ1 := Lib.hid hz1
  have HZ2 := Lib.hid hz2
  clear hi hz0 hz1 hz2
  have hnil := Lib.hid (World.ownsRow_nil w w.heap.size 9 1)
  go_enter Try.func66, Try.ntmps66
  go_wp2_with fail
  go_loopw [3, 10] (fun v i wr => ∃ k : Nat, k ≤ s.len ∧ i = .int .i64 k ∧ wr.ownsRow w.heap.size 9 1 v k ((xsOf s).take k) ∧ Below w.heap.size w wr) (fun _ i _ => s.len - (intOf i).toNat)
  case atStart => exact ⟨0, Nat.zero_le _, rfl, hnil.out, Below.refl _ _⟩
  case round =>
    clear hnil
    obtain ⟨k, hk, rfl, hown, hb⟩ := hrel
    by_cases hlt : k < s.len
    · obtain ⟨b, op, x, y, n, t, e, rfl, -, hbb, hdr, At, ct, Ae, ce, ⟨h0, h1, h2, h3, h4, h5⟩, hRt, hRe⟩ := (hR.below hb (Nat.le_refl _)).elem hlt
      have hbz := hb.size
      have hx := textsOf_drop s k op x y n t e _ hdr
      have hd := okT_drop s k hok
      rw [hdr] at hd
      obtain ⟨⟨o1, o10, h8⟩, -⟩ := hd
      by_cases e1 : op = 1
      · subst e1
        have hr := h8 (by omega)
        have HT : ∀ w', Below w.heap.size w w' → Calls Try.prog 167 #[.agg #[.int .i64 x, .int .i64 n]] w' (Txt w' (stmtT 1 x y n (listT t) (listT e))) := fun w' _ => text_1 x n w' ⟨hr.1, hr.2.1⟩ ⟨hr.2.2.2.2.1, hr.2.2.2.2.2⟩
        have HX := Lib.hid hx
        have HTH := Lib.hid HT
        have ta := textAt_1
        have hba := hb.alloc hbz (.cells #[.int .i64 1, .int .i64 x, .int .i64 y, .int .i64 n, .slice At t.len ct, .slice Ae e.len ce] 63)
        have hown1 := hown.alloc (.cells #[.int .i64 1, .int .i64 x, .int .i64 y, .int .i64 n, .slice At t.len ct, .slice Ae e.len ce] 63)
        clear hx HT hdr H9 H10 h8 hRt hRe hok
        go_wp2_with fail
        refine (kindOf_1 x y n At Ae t.len ct e.len ce _).mono ?_
        rintro E w1 ⟨rfl, hb1⟩
        have hb2 : Below w.heap.size w w1 := hba.trans (hb1.mono hba.size)
        have hown2 : w1.ownsRow w.heap.size 9 1 u3 k ((xsOf s).take k) := ownsRow_below hown1 hb1
        have hs2 := hb2.size
        clear hb1 hba hown1 hown
        go_wp2_with fail
        refine (HTH.out _ hb2).mono ?_
        unfold Txt
        rintro E w2 ⟨rfl, hb3⟩
        have hb4 : Below w.heap.size w w2 := hb2.trans (hb3.mono hs2)
        have hown3 : w2.ownsRow w.heap.size 9 1 u3 k ((xsOf s).take k) := ownsRow_below hown2 hb3
        have hs4 := hb4.size
        clear hb3 hb2 hown2 HTH
        generalize stmtT 1 x y n (listT t) (listT e) = st at HX
        go_wp2_with (at_builtin; refine wpList_append_own _ rfl _ _ 136 rfl w.heap.size 9 i0 (.string ⟨#[]⟩) 1 16 Try.underlying136 HI.out HZ0.out HZ1.out HZ2.out rfl (by decide) _ _ _ rfl (hown3.alloc _) ⟨w2.heap.size, 0, none⟩ 1 1 [.string ⟨st.toArray⟩] rfl rfl ?c1 ?c2 ?c3 ?c4 ?c5 ?_)
        case c1 =>
          intro j u hj
          cases j with
          | zero =>
            simp at hj
            subst hj
            exact (cell_of_block (heap_alloc_new _ _) 0).trans rfl
          | succ j => simp at hj
        case c2 =>
          intro u hu
          simp at hu
          subst hu
          rfl
        case c3 => unfold maxLen; omega
        case c4 => omega
        case c5 => simp; omega
        intro v' w' hown' hg hne
        have hb' := (hb4.alloc hs4 (.cells #[Value.string ⟨st.toArray⟩] 9)).grown hg (by simp; omega) (fun g hg' => (hown3.lt g hg').1)
        have hown4 := take_succ_xs s HX.out ▸ hown'
        clear hown' hg hown3 hb4 hne HI HZ0 HZ1 HZ2
        go_wp2_with fail
        go_roundw
        case rel => exact ⟨k + 1, by omega, by go_num, hown4, hb'⟩
        case measure => simp [intOf]; omega
      by_cases e2 : op = 2
      · subst e2
        have hr := h8 (by omega)
        have HT : ∀ w', Below w.heap.size w w' → Calls Try.prog 186 #[.agg #[.int .i64 x, .int .i64 n]] w' (Txt w' (stmtT 2 x y n (listT t) (listT e))) := fun w' _ => text_2 x n w' ⟨hr.1, hr.2.1⟩ ⟨hr.2.2.2.2.1, hr.2.2.2.2.2⟩
        have HX := Lib.hid hx
        have HTH := Lib.hid HT
        have ta := textAt_2
        have hba := hb.alloc hbz (.cells #[.int .i64 2, .int .i64 x, .int .i64 y, .int .i64 n, .slice At t.len ct, .slice Ae e.len ce] 63)
        have hown1 := hown.alloc (.cells #[.int .i64 2, .int .i64 x, .int .i64 y, .int .i64 n, .slice At t.len ct, .slice Ae e.len ce] 63)
        clear hx HT hdr H9 H10 h8 hRt hRe hok
        go_wp2_with fail
        refine (kindOf_2 x y n At Ae t.len ct e.len ce _).mono ?_
        rintro E w1 ⟨rfl, hb1⟩
        have hb2 : Below w.heap.size w w1 := hba.trans (hb1.mono hba.size)
        have hown2 : w1.ownsRow w.heap.size 9 1 u3 k ((xsOf s).take k) := ownsRow_below hown1 hb1
        have hs2 := hb2.size
        clear hb1 hba hown1 hown
        go_wp2_with fail
        refine (HTH.out _ hb2).mono ?_
        unfold Txt
        rintro E w2 ⟨rfl, hb3⟩
        have hb4 : Below w.heap.size w w2 := hb2.trans (hb3.mono hs2)
        have hown3 : w2.ownsRow w.heap.size 9 1 u3 k ((xsOf s).take k) := ownsRow_below hown2 hb3
        have hs4 := hb4.size
        clear hb3 hb2 hown2 HTH
        generalize stmtT 2 x y n (listT t) (listT e) = st at HX
        go_wp2_with (at_builtin; refine wpList_append_own _ rfl _ _ 136 rfl w.heap.size 9 i0 (.string ⟨#[]⟩) 1 16 Try.underlying136 HI.out HZ0.out HZ1.out HZ2.out rfl (by decide) _ _ _ rfl (hown3.alloc _) ⟨w2.heap.size, 0, none⟩ 1 1 [.string ⟨st.toArray⟩] rfl rfl ?c1 ?c2 ?c3 ?c4 ?c5 ?_)
        case c1 =>
          intro j u hj
          cases j with
          | zero =>
            simp at hj
            subst hj
            exact (cell_of_block (heap_alloc_new _ _) 0).trans rfl
          | succ j => simp at hj
        case c2 =>
          intro u hu
          simp at hu
          subst hu
          rfl
        case c3 => unfold maxLen; omega
        case c4 => omega
        case c5 => simp; omega
        intro v' w' hown' hg hne
        have hb' := (hb4.alloc hs4 (.cells #[Value.string ⟨st.toArray⟩] 9)).grown hg (by simp; omega) (fun g hg' => (hown3.lt g hg').1)
        have hown4 := take_succ_xs s HX.out ▸ hown'
        clear hown' hg hown3 hb4 hne HI HZ0 HZ1 HZ2
        go_wp2_with fail
        go_roundw
        case rel => exact ⟨k + 1, by omega, by go_num, hown4, hb'⟩
        case measure => simp [intOf]; omega
      by_cases e3 : op = 3
      · subst e3
        have hr := h8 (by omega)
        have HT : ∀ w', Below w.heap.size w w' → Calls Try.prog 189 #[.agg #[.int .i64 x, .int .i64 y]] w' (Txt w' (stmtT 3 x y n (listT t) (listT e))) := fun w' _ => text_3 x y w' ⟨hr.1, hr.2.1⟩ ⟨hr.2.2.1, hr.2.2.2.1⟩
        have HX := Lib.hid hx
        have HTH := Lib.hid HT
        have ta := textAt_3
        have hba := hb.alloc hbz (.cells #[.int .i64 3, .int .i64 x, .int .i64 y, .int .i64 n, .slice At t.len ct, .slice Ae e.len ce] 63)
        have hown1 := hown.alloc (.cells #[.int .i64 3, .int .i64 x, .int .i64 y, .int .i64 n, .slice At t.len ct, .slice Ae e.len ce] 63)
        clear hx HT hdr H9 H10 h8 hRt hRe hok
        go_wp2_with fail
        refine (kindOf_3 x y n At Ae t.len ct e.len ce _).mono ?_
        rintro E w1 ⟨rfl, hb1⟩
        have hb2 : Below w.heap.size w w1 := hba.trans (hb1.mono hba.size)
        have hown2 : w1.ownsRow w.heap.size 9 1 u3 k ((xsOf s).take k) := ownsRow_below hown1 hb1
        have hs2 := hb2.size
        clear hb1 hba hown1 hown
        go_wp2_with fail
        refine (HTH.out _ hb2).mono ?_
        unfold Txt
        rintro E w2 ⟨rfl, hb3⟩
        have hb4 : Below w.heap.size w w2 := hb2.trans (hb3.mono hs2)
        have hown3 : w2.ownsRow w.heap.size 9 1 u3 k ((xsOf s).take k) := ownsRow_below hown2 hb3
        have hs4 := hb4.size
        clear hb3 hb2 hown2 HTH
        generalize stmtT 3 x y n (listT t) (listT e) = st at HX
        go_wp2_with (at_builtin; refine wpList_append_own _ rfl _ _ 136 rfl w.heap.size 9 i0 (.string ⟨#[]⟩) 1 16 Try.underlying136 HI.out HZ0.out HZ1.out HZ2.out rfl (by decide) _ _ _ rfl (hown3.alloc _) ⟨w2.heap.size, 0, none⟩ 1 1 [.string ⟨st.toArray⟩] rfl rfl ?c1 ?c2 ?c3 ?c4 ?c5 ?_)
        case c1 =>
          intro j u hj
          cases j with
          | zero =>
            simp at hj
            subst hj
            exact (cell_of_block (heap_alloc_new _ _) 0).trans rfl
          | succ j => simp at hj
        case c2 =>
          intro u hu
          simp at hu
          subst hu
          rfl
        case c3 => unfold maxLen; omega
        case c4 => omega
        case c5 => simp; omega
        intro v' w' hown' hg hne
        have hb' := (hb4.alloc hs4 (.cells #[Value.string ⟨st.toArray⟩] 9)).grown hg (by simp; omega) (fun g hg' => (hown3.lt g hg').1)
        have hown4 := take_succ_xs s HX.out ▸ hown'
        clear hown' hg hown3 hb4 hne HI HZ0 HZ1 HZ2
        go_wp2_with fail
        go_roundw
        case rel => exact ⟨k + 1, by omega, by go_num, hown4, hb'⟩
        case measure => simp [intOf]; omega
      by_cases e4 : op = 4
      · subst e4
        have hr := h8 (by omega)
        have HT : ∀ w', Below w.heap.size w w' → Calls Try.prog 192 #[.agg #[.int .i64 x, .int .i64 y]] w' (Txt w' (stmtT 4 x y n (listT t) (listT e))) := fun w' _ => text_4 x y w' ⟨hr.1, hr.2.1⟩ ⟨hr.2.2.1, hr.2.2.2.1⟩
        have HX := Lib.hid hx
        have HTH := Lib.hid HT
        have ta := textAt_4
        have hba := hb.alloc hbz (.cells #[.int .i64 4, .int .i64 x, .int .i64 y, .int .i64 n, .slice At t.len ct, .slice Ae e.len ce] 63)
        have hown1 := hown.alloc (.cells #[.int .i64 4, .int .i64 x, .int .i64 y, .int .i64 n, .slice At t.len ct, .slice Ae e.len ce] 63)
        clear hx HT hdr H9 H10 h8 hRt hRe hok
        go_wp2_with fail
        refine (kindOf_4 x y n At Ae t.len ct e.len ce _).mono ?_
        rintro E w1 ⟨rfl, hb1⟩
        have hb2 : Below w.heap.size w w1 := hba.trans (hb1.mono hba.size)
        have hown2 : w1.ownsRow w.heap.size 9 1 u3 k ((xsOf s).take k) := ownsRow_below hown1 hb1
        have hs2 := hb2.size
        clear hb1 hba hown1 hown
        go_wp2_with fail
        refine (HTH.out _ hb2).mono ?_
        unfold Txt
        rintro E w2 ⟨rfl, hb3⟩
        have hb4 : Below w.heap.size w w2 := hb2.trans (hb3.mono hs2)
        have hown3 : w2.ownsRow w.heap.size 9 1 u3 k ((xsOf s).take k) := ownsRow_below hown2 hb3
        have hs4 := hb4.size
        clear hb3 hb2 hown2 HTH
        generalize stmtT 4 x y n (listT t) (listT e) = st at HX
        go_wp2_with (at_builtin; refine wpList_append_own _ rfl _ _ 136 rfl w.heap.size 9 i0 (.string ⟨#[]⟩) 1 16 Try.underlying136 HI.out HZ0.out HZ1.out HZ2.out rfl (by decide) _ _ _ rfl (hown3.alloc _) ⟨w2.heap.size, 0, none⟩ 1 1 [.string ⟨st.toArray⟩] rfl rfl ?c1 ?c2 ?c3 ?c4 ?c5 ?_)
        case c1 =>
          intro j u hj
          cases j with
          | zero =>
            simp at hj
            subst hj
            exact (cell_of_block (heap_alloc_new _ _) 0).trans rfl
          | succ j => simp at hj
        case c2 =>
          intro u hu
          simp at hu
          subst hu
          rfl
        case c3 => unfold maxLen; omega
        case c4 => omega
        case c5 => simp; omega
        intro v' w' hown' hg hne
        have hb' := (hb4.alloc hs4 (.cells #[Value.string ⟨st.toArray⟩] 9)).grown hg (by simp; omega) (fun g hg' => (hown3.lt g hg').1)
        have hown4 := take_succ_xs s HX.out ▸ hown'
        clear hown' hg hown3 hb4 hne HI HZ0 HZ1 HZ2
        go_wp2_with fail
        go_roundw
        case rel => exact ⟨k + 1, by omega, by go_num, hown4, hb'⟩
        case measure => simp [intOf]; omega
      by_cases e5 : op = 5
      · subst e5
        have hr := h8 (by omega)
        have HT : ∀ w', Below w.heap.size w w' → Calls Try.prog 196 #[.agg #[.int .i64 x, .int .i64 y]] w' (Txt w' (stmtT 5 x y n (listT t) (listT e))) := fun w' _ => text_5 x y w' ⟨hr.1, hr.2.1⟩ ⟨hr.2.2.1, hr.2.2.2.1⟩
        have HX := Lib.hid hx
        have HTH := Lib.hid HT
        have ta := textAt_5
        have hba := hb.alloc hbz (.cells #[.int .i64 5, .int .i64 x, .int .i64 y, .int .i64 n, .slice At t.len ct, .slice Ae e.len ce] 63)
        have hown1 := hown.alloc (.cells #[.int .i64 5, .int .i64 x, .int .i64 y, .int .i64 n, .slice At t.len ct, .slice Ae e.len ce] 63)
        clear hx HT hdr H9 H10 h8 hRt hRe hok
        go_wp2_with fail
        refine (kindOf_5 x y n At Ae t.len ct e.len ce _).mono ?_
        rintro E w1 ⟨rfl, hb1⟩
        have hb2 : Below w.heap.size w w1 := hba.trans (hb1.mono hba.size)
        have hown2 : w1.ownsRow w.heap.size 9 1 u3 k ((xsOf s).take k) := ownsRow_below hown1 hb1
        have hs2 := hb2.size
        clear hb1 hba hown1 hown
        go_wp2_with fail
        refine (HTH.out _ hb2).mono ?_
        unfold Txt
        rintro E w2 ⟨rfl, hb3⟩
        have hb4 : Below w.heap.size w w2 := hb2.trans (hb3.mono hs2)
        have hown3 : w2.ownsRow w.heap.size 9 1 u3 k ((xsOf s).take k) := ownsRow_below hown2 hb3
        have hs4 := hb4.size
        clear hb3 hb2 hown2 HTH
        generalize stmtT 5 x y n (listT t) (listT e) = st at HX
        go_wp2_with (at_builtin; refine wpList_append_own _ rfl _ _ 136 rfl w.heap.size 9 i0 (.string ⟨#[]⟩) 1 16 Try.underlying136 HI.out HZ0.out HZ1.out HZ2.out rfl (by decide) _ _ _ rfl (hown3.alloc _) ⟨w2.heap.size, 0, none⟩ 1 1 [.string ⟨st.toArray⟩] rfl rfl ?c1 ?c2 ?c3 ?c4 ?c5 ?_)
        case c1 =>
          intro j u hj
          cases j with
          | zero =>
            simp at hj
            subst hj
            exact (cell_of_block (heap_alloc_new _ _) 0).trans rfl
          | succ j => simp at hj
        case c2 =>
          intro u hu
          simp at hu
          subst hu
          rfl
        case c3 => unfold maxLen; omega
        case c4 => omega
        case c5 => simp; omega
        intro v' w' hown' hg hne
        have hb' := (hb4.alloc hs4 (.cells #[Value.string ⟨st.toArray⟩] 9)).grown hg (by simp; omega) (fun g hg' => (hown3.lt g hg').1)
        have hown4 := take_succ_xs s HX.out ▸ hown'
        clear hown' hg hown3 hb4 hne HI HZ0 HZ1 HZ2
        go_wp2_with fail
        go_roundw
        case rel => exact ⟨k + 1, by omega, by go_num, hown4, hb'⟩
        case measure => simp [intOf]; omega
      by_cases e6 : op = 6
      · subst e6
        have hr := h8 (by omega)
        have HT : ∀ w', Below w.heap.size w w' → Calls Try.prog 200 #[.agg #[.int .i64 x, .int .i64 y]] w' (Txt w' (stmtT 6 x y n (listT t) (listT e))) := fun w' _ => text_6 x y w' ⟨hr.1, hr.2.1⟩ ⟨hr.2.2.1, hr.2.2.2.1⟩
        have HX := Lib.hid hx
        have HTH := Lib.hid HT
        have ta := textAt_6
        have hba := hb.alloc hbz (.cells #[.int .i64 6, .int .i64 x, .int .i64 y, .int .i64 n, .slice At t.len ct, .slice Ae e.len ce] 63)
        have hown1 := hown.alloc (.cells #[.int .i64 6, .int .i64 x, .int .i64 y, .int .i64 n, .slice At t.len ct, .slice Ae e.len ce] 63)
        clear hx HT hdr H9 H10 h8 hRt hRe hok
        go_wp2_with fail
        refine (kindOf_6 x y n At Ae t.len ct e.len ce _).mono ?_
        rintro E w1 ⟨rfl, hb1⟩
        have hb2 : Below w.heap.size w w1 := hba.trans (hb1.mono hba.size)
        have hown2 : w1.ownsRow w.heap.size 9 1 u3 k ((xsOf s).take k) := ownsRow_below hown1 hb1
        have hs2 := hb2.size
        clear hb1 hba hown1 hown
        go_wp2_with fail
        refine (HTH.out _ hb2).mono ?_
        unfold Txt
        rintro E w2 ⟨rfl, hb3⟩
        have hb4 : Below w.heap.size w w2 := hb2.trans (hb3.mono hs2)
        have hown3 : w2.ownsRow w.heap.size 9 1 u3 k ((xsOf s).take k) := ownsRow_below hown2 hb3
        have hs4 := hb4.size
        clear hb3 hb2 hown2 HTH
        generalize stmtT 6 x y n (listT t) (listT e) = st at HX
        go_wp2_with (at_builtin; refine wpList_append_own _ rfl _ _ 136 rfl w.heap.size 9 i0 (.string ⟨#[]⟩) 1 16 Try.underlying136 HI.out HZ0.out HZ1.out HZ2.out rfl (by decide) _ _ _ rfl (hown3.alloc _) ⟨w2.heap.size, 0, none⟩ 1 1 [.string ⟨st.toArray⟩] rfl rfl ?c1 ?c2 ?c3 ?c4 ?c5 ?_)
        case c1 =>
          intro j u hj
          cases j with
          | zero =>
            simp at hj
            subst hj
            exact (cell_of_block (heap_alloc_new _ _) 0).trans rfl
          | succ j => simp at hj
        case c2 =>
          intro u hu
          simp at hu
          subst hu
          rfl
        case c3 => unfold maxLen; omega
        case c4 => omega
        case c5 => simp; omega
        intro v' w' hown' hg hne
        have hb' := (hb4.alloc hs4 (.cells #[Value.string ⟨st.toArray⟩] 9)).grown hg (by simp; omega) (fun g hg' => (hown3.lt g hg').1)
        have hown4 := take_succ_xs s HX.out ▸ hown'
        clear hown' hg hown3 hb4 hne HI HZ0 HZ1 HZ2
        go_wp2_with fail
        go_roundw
        case rel => exact ⟨k + 1, by omega, by go_num, hown4, hb'⟩
        case measure => simp [intOf]; omega
      by_cases e7 : op = 7
      · subst e7
        have hr := h8 (by omega)
        have HT : ∀ w', Below w.heap.size w w' → Calls Try.prog 203 #[.agg #[.int .i64 x, .int .i64 y]] w' (Txt w' (stmtT 7 x y n (listT t) (listT e))) := fun w' _ => text_7 x y w' ⟨hr.1, hr.2.1⟩ ⟨hr.2.2.1, hr.2.2.2.1⟩
        have HX := Lib.hid hx
        have HTH := Lib.hid HT
        have ta := textAt_7
        have hba := hb.alloc hbz (.cells #[.int .i64 7, .int .i64 x, .int .i64 y, .int .i64 n, .slice At t.len ct, .slice Ae e.len ce] 63)
        have hown1 := hown.alloc (.cells #[.int .i64 7, .int .i64 x, .int .i64 y, .int .i64 n, .slice At t.len ct, .slice Ae e.len ce] 63)
        clear hx HT hdr H9 H10 h8 hRt hRe hok
        go_wp2_with fail
        refine (kindOf_7 x y n At Ae t.len ct e.len ce _).mono ?_
        rintro E w1 ⟨rfl, hb1⟩
        have hb2 : Below w.heap.size w w1 := hba.trans (hb1.mono hba.size)
        have hown2 : w1.ownsRow w.heap.size 9 1 u3 k ((xsOf s).take k) := ownsRow_below hown1 hb1
        have hs2 := hb2.size
        clear hb1 hba hown1 hown
        go_wp2_with fail
        refine (HTH.out _ hb2).mono ?_
        unfold Txt
        rintro E w2 ⟨rfl, hb3⟩
        have hb4 : Below w.heap.size w w2 := hb2.trans (hb3.mono hs2)
        have hown3 : w2.ownsRow w.heap.size 9 1 u3 k ((xsOf s).take k) := ownsRow_below hown2 hb3
        have hs4 := hb4.size
        clear hb3 hb2 hown2 HTH
        generalize stmtT 7 x y n (listT t) (listT e) = st at HX
        go_wp2_with (at_builtin; refine wpList_append_own _ rfl _ _ 136 rfl w.heap.size 9 i0 (.string ⟨#[]⟩) 1 16 Try.underlying136 HI.out HZ0.out HZ1.out HZ2.out rfl (by decide) _ _ _ rfl (hown3.alloc _) ⟨w2.heap.size, 0, none⟩ 1 1 [.string ⟨st.toArray⟩] rfl rfl ?c1 ?c2 ?c3 ?c4 ?c5 ?_)
        case c1 =>
          intro j u hj
          cases j with
          | zero =>
            simp at hj
            subst hj
            exact (cell_of_block (heap_alloc_new _ _) 0).trans rfl
          | succ j => simp at hj
        case c2 =>
          intro u hu
          simp at hu
          subst hu
          rfl
        case c3 => unfold maxLen; omega
        case c4 => omega
        case c5 => simp; omega
        intro v' w' hown' hg hne
        have hb' := (hb4.alloc hs4 (.cells #[Value.string ⟨st.toArray⟩] 9)).grown hg (by simp; omega) (fun g hg' => (hown3.lt g hg').1)
        have hown4 := take_succ_xs s HX.out ▸ hown'
        clear hown' hg hown3 hb4 hne HI HZ0 HZ1 HZ2
        go_wp2_with fail
        go_roundw
        case rel => exact ⟨k + 1, by omega, by go_num, hown4, hb'⟩
        case measure => simp [intOf]; omega
      by_cases e8 : op = 8
      · subst e8
        have hr := h8 (by omega)
        have HT : ∀ w', Below w.heap.size w w' → Calls Try.prog 206 #[.agg #[.int .i64 x]] w' (Txt w' (stmtT 8 x y n (listT t) (listT e))) := fun w' _ => text_8 x w' ⟨hr.1, hr.2.1⟩
        have HX := Lib.hid hx
        have HTH := Lib.hid HT
        have ta := textAt_8
        have hba := hb.alloc hbz (.cells #[.int .i64 8, .int .i64 x, .int .i64 y, .int .i64 n, .slice At t.len ct, .slice Ae e.len ce] 63)
        have hown1 := hown.alloc (.cells #[.int .i64 8, .int .i64 x, .int .i64 y, .int .i64 n, .slice At t.len ct, .slice Ae e.len ce] 63)
        clear hx HT hdr H9 H10 h8 hRt hRe hok
        go_wp2_with fail
        refine (kindOf_8 x y n At Ae t.len ct e.len ce _).mono ?_
        rintro E w1 ⟨rfl, hb1⟩
        have hb2 : Below w.heap.size w w1 := hba.trans (hb1.mono hba.size)
        have hown2 : w1.ownsRow w.heap.size 9 1 u3 k ((xsOf s).take k) := ownsRow_below hown1 hb1
        have hs2 := hb2.size
        clear hb1 hba hown1 hown
        go_wp2_with fail
        refine (HTH.out _ hb2).mono ?_
        unfold Txt
        rintro E w2 ⟨rfl, hb3⟩
        have hb4 : Below w.heap.size w w2 := hb2.trans (hb3.mono hs2)
        have hown3 : w2.ownsRow w.heap.size 9 1 u3 k ((xsOf s).take k) := ownsRow_below hown2 hb3
        have hs4 := hb4.size
        clear hb3 hb2 hown2 HTH
        generalize stmtT 8 x y n (listT t) (listT e) = st at HX
        go_wp2_with (at_builtin; refine wpList_append_own _ rfl _ _ 136 rfl w.heap.size 9 i0 (.string ⟨#[]⟩) 1 16 Try.underlying136 HI.out HZ0.out HZ1.out HZ2.out rfl (by decide) _ _ _ rfl (hown3.alloc _) ⟨w2.heap.size, 0, none⟩ 1 1 [.string ⟨st.toArray⟩] rfl rfl ?c1 ?c2 ?c3 ?c4 ?c5 ?_)
        case c1 =>
          intro j u hj
          cases j with
          | zero =>
            simp at hj
            subst hj
            exact (cell_of_block (heap_alloc_new _ _) 0).trans rfl
          | succ j => simp at hj
        case c2 =>
          intro u hu
          simp at hu
          subst hu
          rfl
        case c3 => unfold maxLen; omega
        case c4 => omega
        case c5 => simp; omega
        intro v' w' hown' hg hne
        have hb' := (hb4.alloc hs4 (.cells #[Value.string ⟨st.toArray⟩] 9)).grown hg (by simp; omega) (fun g hg' => (hown3.lt g hg').1)
        have hown4 := take_succ_xs s HX.out ▸ hown'
        clear hown' hg hown3 hb4 hne HI HZ0 HZ1 HZ2
        go_wp2_with fail
        go_roundw
        case rel => exact ⟨k + 1, by omega, by go_num, hown4, hb'⟩
        case measure => simp [intOf]; omega
      by_cases e9 : op = 9
      · subst e9
        have HT : ∀ w', Below w.heap.size w w' → Calls Try.prog 209 #[.agg #[.slice At t.len ct, .slice Ae e.len ce]] w' (Txt w' (stmtT 9 x y n (listT t) (listT e))) := fun w' hb' => H9 k x y n t e At Ae ct ce w' wr hdr hb hRt hRe hb'
        have HX := Lib.hid hx
        have HTH := Lib.hid HT
        have ta := textAt_9
        have hba := hb.alloc hbz (.cells #[.int .i64 9, .int .i64 x, .int .i64 y, .int .i64 n, .slice At t.len ct, .slice Ae e.len ce] 63)
        have hown1 := hown.alloc (.cells #[.int .i64 9, .int .i64 x, .int .i64 y, .int .i64 n, .slice At t.len ct, .slice Ae e.len ce] 63)
        clear hx HT hdr H9 H10 h8 hRt hRe hok
        go_wp2_with fail
        refine (kindOf_9 x y n At Ae t.len ct e.len ce _).mono ?_
        rintro E w1 ⟨rfl, hb1⟩
        have hb2 : Below w.heap.size w w1 := hba.trans (hb1.mono hba.size)
        have hown2 : w1.ownsRow w.heap.size 9 1 u3 k ((xsOf s).take k) := ownsRow_below hown1 hb1
        have hs2 := hb2.size
        clear hb1 hba hown1 hown
        go_wp2_with fail
        refine (HTH.out _ hb2).mono ?_
        unfold Txt
        rintro E w2 ⟨rfl, hb3⟩
        have hb4 : Below w.heap.size w w2 := hb2.trans (hb3.mono hs2)
        have hown3 : w2.ownsRow w.heap.size 9 1 u3 k ((xsOf s).take k) := ownsRow_below hown2 hb3
        have hs4 := hb4.size
        clear hb3 hb2 hown2 HTH
        generalize stmtT 9 x y n (listT t) (listT e) = st at HX
        go_wp2_with (at_builtin; refine wpList_append_own _ rfl _ _ 136 rfl w.heap.size 9 i0 (.string ⟨#[]⟩) 1 16 Try.underlying136 HI.out HZ0.out HZ1.out HZ2.out rfl (by decide) _ _ _ rfl (hown3.alloc _) ⟨w2.heap.size, 0, none⟩ 1 1 [.string ⟨st.toArray⟩] rfl rfl ?c1 ?c2 ?c3 ?c4 ?c5 ?_)
        case c1 =>
          intro j u hj
          cases j with
          | zero =>
            simp at hj
            subst hj
            exact (cell_of_block (heap_alloc_new _ _) 0).trans rfl
          | succ j => simp at hj
        case c2 =>
          intro u hu
          simp at hu
          subst hu
          rfl
        case c3 => unfold maxLen; omega
        case c4 => omega
        case c5 => simp; omega
        intro v' w' hown' hg hne
        have hb' := (hb4.alloc hs4 (.cells #[Value.string ⟨st.toArray⟩] 9)).grown hg (by simp; omega) (fun g hg' => (hown3.lt g hg').1)
        have hown4 := take_succ_xs s HX.out ▸ hown'
        clear hown' hg hown3 hb4 hne HI HZ0 HZ1 HZ2
        go_wp2_with fail
        go_roundw
        case rel => exact ⟨k + 1, by omega, by go_num, hown4, hb'⟩
        case measure => simp [intOf]; omega
      obtain rfl : op = 10 := by omega
      have HT : ∀ w', Below w.heap.size w w' → Calls Try.prog 212 #[.agg #[.slice At t.len ct]] w' (Txt w' (stmtT 10 x y n (listT t) (listT e))) := fun w' hb' => H10 k x y n t e At Ae ct ce w' wr hdr hb hRt hRe hb'
      have HX := Lib.hid hx
      have HTH := Lib.hid HT
      have ta := textAt_10
      have hba := hb.alloc hbz (.cells #[.int .i64 10, .int .i64 x, .int .i64 y, .int .i64 n, .slice At t.len ct, .slice Ae e.len ce] 63)
      have hown1 := hown.alloc (.cells #[.int .i64 10, .int .i64 x, .int .i64 y, .int .i64 n, .slice At t.len ct, .slice Ae e.len ce] 63)
      clear hx HT hdr H9 H10 h8 hRt hRe hok
      go_wp2_with fail
      refine (kindOf_10 x y n At Ae t.len ct e.len ce _).mono ?_
      rintro E w1 ⟨rfl, hb1⟩
      have hb2 : Below w.heap.size w w1 := hba.trans (hb1.mono hba.size)
      have hown2 : w1.ownsRow w.heap.size 9 1 u3 k ((xsOf s).take k) := ownsRow_below hown1 hb1
      have hs2 := hb2.size
      clear hb1 hba hown1 hown
      go_wp2_with fail
      refine (HTH.out _ hb2).mono ?_
      unfold Txt
      rintro E w2 ⟨rfl, hb3⟩
      have hb4 : Below w.heap.size w w2 := hb2.trans (hb3.mono hs2)
      have hown3 : w2.ownsRow w.heap.size 9 1 u3 k ((xsOf s).take k) := ownsRow_below hown2 hb3
      have hs4 := hb4.size
      clear hb3 hb2 hown2 HTH
      generalize stmtT 10 x y n (listT t) (listT e) = st at HX
      go_wp2_with (at_builtin; refine wpList_append_own _ rfl _ _ 136 rfl w.heap.size 9 i0 (.string ⟨#[]⟩) 1 16 Try.underlying136 HI.out HZ0.out HZ1.out HZ2.out rfl (by decide) _ _ _ rfl (hown3.alloc _) ⟨w2.heap.size, 0, none⟩ 1 1 [.string ⟨st.toArray⟩] rfl rfl ?c1 ?c2 ?c3 ?c4 ?c5 ?_)
      case c1 =>
        intro j u hj
        cases j with
        | zero =>
          simp at hj
          subst hj
          exact (cell_of_block (heap_alloc_new _ _) 0).trans rfl
        | succ j => simp at hj
      case c2 =>
        intro u hu
        simp at hu
        subst hu
        rfl
      case c3 => unfold maxLen; omega
      case c4 => omega
      case c5 => simp; omega
      intro v' w' hown' hg hne
      have hb' := (hb4.alloc hs4 (.cells #[Value.string ⟨st.toArray⟩] 9)).grown hg (by simp; omega) (fun g hg' => (hown3.lt g hg').1)
      have hown4 := take_succ_xs s HX.out ▸ hown'
      clear hown' hg hown3 hb4 hne HI HZ0 HZ1 HZ2
      go_wp2_with fail
      go_roundw
      case rel => exact ⟨k + 1, by omega, by go_num, hown4, hb'⟩
      case measure => simp [intOf]; omega
    · have hk' : k = s.len := by omega
      subst hk'
      have hall : (xsOf s).take s.len = xsOf s := List.take_of_length_le (by simp [xsOf, textsOf_len])
      rw [hall] at hown
      have hlx : ((textsOf s).map fun l => (⟨l.toArray⟩ : ByteArray)).length = s.len := by simp [textsOf_len]
      have hjn : Lib.join (((textsOf s).map fun l => (⟨l.toArray⟩ : ByteArray)).map (·.data.toList)) [59] = listT s := by
        rw [listT_join s, List.map_map]
        congr 1
        simp [Function.comp_def]
      have hjl := listT_le s
      by_cases h0 : s.len = 0
      · obtain ⟨a0, c0, hv⟩ : ∃ a0 c0, u3 = .slice a0 0 c0 := by
          rcases hown.2 with ⟨hv, _⟩ | ⟨g, cap, cur, hv, _⟩
          · exact ⟨_, _, hv⟩
          · rw [h0] at hv
            exact ⟨_, _, hv⟩
        subst hv
        have hJ := Try.strings_Join_none a0 c0 ⟨#[59]⟩ wr
        have hnilT : Hid (listT s = []) := by
          unfold Hid
          cases s with
          | nil => rfl
          | cons => simp [Sts.len] at h0
        have hlz : (s.len : Int) ≤ 0 := by omega
        clear hjn hlx hall hown H9 H10 h0
        go_wp2_with fail
        refine hJ.mono ?_
        rintro E w2 ⟨rfl, rfl⟩
        go_wp2_with fail
        go_ret
        exact ⟨by rw [hnilT.out]; rfl, hb⟩
      · obtain ⟨g, cap, hv, hgl, hcap⟩ : ∃ g cap, u3 = .slice (some ⟨g, 0, none⟩) s.len cap ∧ g < wr.heap.size ∧ s.len ≤ cap := by
          rcases hown.2 with ⟨_, h1⟩ | ⟨g, cap, cur, hv, _, hg, hn, _⟩
          · omega
          · exact ⟨g, cap, hv, heap_lt hg, hn⟩
        have hcell : ∀ (j : Nat) x, ((textsOf s).map fun l => (⟨l.toArray⟩ : ByteArray))[j]? = some x → wr.cell? ⟨g, 0 + j, none⟩ = some (.string x) := by
          intro j x hx
          have h1 := World.ownsRow.cells hown (g := g) (by rw [hv]; rfl) j (.string x) (by
            rw [List.getElem?_map] at hx
            unfold xsOf
            rw [List.getElem?_map]
            cases hq : (textsOf s)[j]? with
            | none => rw [hq] at hx; cases hx
            | some l =>
              rw [hq] at hx
              simp only [Option.map_some, Option.some.injEq] at hx ⊢
              rw [hx])
          rwa [add_block] at h1
        have hJ := Try.strings_Join g 0 cap ((textsOf s).map fun l => (⟨l.toArray⟩ : ByteArray)) ⟨#[59]⟩ wr hcell hgl (by rw [hlx]; omega) (by rw [hlx]; exact hcap) (by
          show (Lib.join _ [59]).length ≤ _
          rw [hjn]
          omega)
        rw [hlx] at hJ
        have hjn2 : Lib.join (((textsOf s).map fun l => (⟨l.toArray⟩ : ByteArray)).map (·.data.toList)) (⟨#[59]⟩ : ByteArray).data.toList = listT s := hjn
        rw [hjn2] at hJ
        subst hv
        clear hcell hjn hjn2 hlx hall hown H9 H10
        go_wp2_with fail
        refine hJ.mono ?_
        rintro E w2 ⟨rfl, hb2⟩
        go_wp2_with fail
        go_ret
        exact ⟨rfl, hb.trans (hb2.mono hb.size)⟩

end Go.Proofs.Ytgjecledchhlgaa
