/-
  Texts of statements as plain data; the model's texts of lists.
-/
import Derived.Test.YtcaklhempmlpgaaTextB
import Derived.Test.YtcaklhempmlpgaaValid
import Derived.Deep.RegionHeld3
import Derived.Test.YtcaklhempmlpgaaOk0
namespace Go.Proofs.Ytcaklhempmlpgaa
open Go.RowKit Go.Deep
set_option linter.unusedVariables false

/-- The text of a statement, its lists' texts given. -/
def stmtT (op x y n : Int) (tt te : List UInt8) : List UInt8 :=
  if op = 1 then [byteOf 97 x, 61, byteOf 48 n]
  else if op = 2 then [byteOf 97 x, 61, 98, 111, 120, 32, byteOf 48 n]
  else if op = 3 then [byteOf 97 x, 61, byteOf 97 y]
  else if op = 4 then [byteOf 97 x, 61, 38, byteOf 97 y]
  else if op = 5 then [byteOf 97 x, 61, 38, 109, 117, 116, 32, byteOf 97 y]
  else if op = 6 then [byteOf 97 x, 61, 42, byteOf 97 y]
  else if op = 7 then [42, byteOf 97 x, 61, byteOf 97 y]
  else if op = 8 then [100, 114, 111, 112, 32, byteOf 97 x]
  else if op = 10 then ([108, 111, 111, 112, 123] ++ tt) ++ [125]
  else (([105, 102, 123] ++ tt) ++ [125, 123] ++ te) ++ [125]

/-- The text of a list: the statements' texts, with semicolons between them. -/
def listT : Sts → List UInt8
  | .nil => []
  | .cons op x y n t e r => stmtT op x y n (listT t) (listT e) ++ (if r.len = 0 then [] else 59 :: listT r)

/-- What is still to be written behind the first k statements. -/
def tailT (k : Nat) (d : Sts) : List UInt8 := if d.len = 0 then [] else if k = 0 then listT d else 59 :: listT d

theorem stmtT_le (op x y n : Int) (tt te : List UInt8) : (stmtT op x y n tt te).length ≤ 8 + tt.length + te.length := by
  unfold stmtT
  repeat' split
  all_goals simp
  all_goals omega

theorem listT_le (s : Sts) : (listT s).length ≤ 9 * s.size := by
  induction s with
  | nil => simp [listT]
  | cons op x y n t e r iht ihe ihr =>
    have h1 := stmtT_le op x y n (listT t) (listT e)
    simp only [listT, Sts.size, List.length_append]
    split
    · simp; omega
    · simp; omega

theorem okT_drop (s : Sts) : ∀ k, okT s → okT (s.drop k) := by
  induction s with
  | nil => intro k _; cases k <;> trivial
  | cons op x y n t e r iht ihe ihr =>
    intro k h
    cases k with
    | zero => exact h
    | succ k => exact ihr k h.2.2.2

theorem Sts.drop_len_eq (s : Sts) : ∀ k, (s.drop k).len = s.len - k := by
  induction s with
  | nil => intro k; cases k <;> simp [Sts.drop, Sts.len]
  | cons op x y n t e r iht ihe ihr =>
    intro k
    cases k with
    | zero => rfl
    | succ k => simp only [Sts.drop, Sts.len, ihr k]; omega

theorem tailT_cons (k : Nat) (op x y n : Int) (t e r : Sts) : tailT k (.cons op x y n t e r) = (if k = 0 then [] else [59]) ++ stmtT op x y n (listT t) (listT e) ++ tailT (k + 1) r := by
  unfold tailT
  rw [if_neg (by simp [Sts.len])]
  by_cases hk : k = 0 <;> by_cases hr : r.len = 0 <;> simp [hk, hr, listT]

/-- The bytes of a string. -/
def Txt (w : World) (l : List UInt8) (E : Ending) (w' : World) : Prop := E = .returned (.string ⟨l.toArray⟩) ∧ Below w.heap.size w w'

set_option maxHeartbeats 1000000 in
theorem l1List_of (s : Sts) (A : Option Addr) (c : Nat) (w : World) (hsz : s.size ≤ 100000) (hR : RepV w 0 w.heap.size s A c)
    (HS : ∀ (k : Nat) (op x y n : Int) (t e : Sts) (At Ae : Option Addr) (ct ce : Nat) (w' : World), s.drop k = .cons op x y n t e (s.drop (k + 1)) → Below w.heap.size w w' → RepV w' 0 w'.heap.size t At ct → RepV w' 0 w'.heap.size e Ae ce →
      Calls Try.prog 65 #[.agg #[.int .i64 op, .int .i64 x, .int .i64 y, .int .i64 n, .slice At t.len ct, .slice Ae e.len ce]] w' (Txt w' (stmtT op x y n (listT t) (listT e)))) :
    Calls Try.prog 58 #[.slice A s.len c] w (Txt w (listT s)) := by
  have hm := hR.2.1
  have hlc := hR.1
  unfold maxLen at hm
  have hstart : Hid (listT s = [] ++ tailT 0 (s.drop 0)) := by
    unfold Hid tailT
    cases s with
    | nil => rfl
    | cons op x y n t e r => simp [Sts.drop, Sts.len]
  have hle := listT_le s
  go_enter Try.func58, Try.ntmps58
  go_wp2_with fail
  go_loopw [3, 4] (fun v i wr => ∃ k : Nat, ∃ l : List UInt8, k ≤ s.len ∧ i = .int .i64 k ∧ v = .string ⟨l.toArray⟩ ∧ Below w.heap.size w wr ∧ Hid (listT s = l ++ tailT k (s.drop k))) (fun _ i _ => s.len - (intOf i).toNat)
  case atStart => exact ⟨0, [], Nat.zero_le _, rfl, rfl, Below.refl _ _, hstart⟩
  case round =>
    clear hstart
    obtain ⟨k, l, hk, rfl, rfl, hb, hl⟩ := hrel
    by_cases hlt : k < s.len
    · obtain ⟨b, op, x, y, n, t, e, rfl, -, hbb, hdr, At, ct, Ae, ce, ⟨h0, h1, h2, h3, h4, h5⟩, hRt, hRe⟩ := (hR.below hb hb.size).elem hlt
      have hc := HS k op x y n t e At Ae ct ce wr hdr hb hRt hRe
      have hl2 : Hid (listT s = (l ++ (if k = 0 then [] else [59]) ++ stmtT op x y n (listT t) (listT e)) ++ tailT (k + 1) (s.drop (k + 1))) := by
        unfold Hid
        rw [hl.out, hdr, tailT_cons]
        simp
      have hll : l.length + 1 + (stmtT op x y n (listT t) (listT e)).length ≤ 900001 := by
        have := congrArg List.length hl2.out
        simp only [List.length_append] at this
        omega
      generalize stmtT op x y n (listT t) (listT e) = st at hc hl2 hll
      have hbz := hb.size
      by_cases hk0 : k = 0
      · have hkz : (k : Int) ≤ 0 := by omega
        have ka : ∀ W, (Op.stringOp .add ⟨l.toArray⟩ ⟨st.toArray⟩).run Try.prog W = .ok (.string ⟨(l ++ st).toArray⟩) W := fun W => run_string_add_lists W l st (by omega) (by omega)
        rw [if_pos hk0, List.append_nil] at hl2
        clear hdr HS hl hk0
        go_wp2_with fail
        refine hc.mono ?_
        rintro E w1 ⟨rfl, hb1⟩
        go_wp2_with fail
        go_roundw
        case rel => exact ⟨k + 1, l ++ st, by omega, by go_num, rfl, hb.trans (hb1.mono hbz), hl2⟩
        case measure => simp [intOf]; omega
      · have ka : ∀ W, (Op.stringOp .add ⟨l.toArray⟩ ⟨#[59]⟩).run Try.prog W = .ok (.string ⟨(l ++ [59]).toArray⟩) W := fun W => run_string_add_lists W l [59] (by omega) (by simp)
        have kb : ∀ W, (Op.stringOp .add ⟨(l ++ [59]).toArray⟩ ⟨st.toArray⟩).run Try.prog W = .ok (.string ⟨((l ++ [59]) ++ st).toArray⟩) W := fun W => run_string_add_lists W (l ++ [59]) st (by simp; omega) (by omega)
        rw [if_neg hk0] at hl2
        have hkp : (0 : Int) < k := by omega
        clear hdr HS hl
        go_wp2_with fail
        refine hc.mono ?_
        rintro E w1 ⟨rfl, hb1⟩
        go_wp2_with fail
        go_roundw
        case rel => exact ⟨k + 1, l ++ 59 :: st, by omega, by go_num, rfl, hb.trans (hb1.mono hbz), hl2.out.trans (by simp)⟩
        case measure => simp [intOf]; omega
    · have hk' : k = s.len := by omega
      subst hk'
      have hfin : Hid (listT s = l) := by
        unfold Hid
        rw [hl.out, s.drop_len]
        simp [tailT, Sts.len]
      clear hl HS
      go_wp2_with fail
      go_ret
      exact ⟨by rw [hfin.out]; rfl, hb⟩

theorem bytes_add (P : Program) (a b : List UInt8) (W : World) (ha : a.length ≤ 1000000) (hb : b.length ≤ 1000000) : (Op.stringOp .add ⟨a.toArray⟩ ⟨b.toArray⟩).run P W = .ok (.string ⟨(a ++ b).toArray⟩) W := run_string_add_lists W a b (by omega) (by omega)

set_option maxRecDepth 100000 in
set_option maxHeartbeats 2000000 in
theorem specText_10 (x y n : Int) (t e : Sts) (At Ae : Option Addr) (ct ce : Nat) (w : World) (hs : t.size ≤ 100000)
    (HT : ∀ w', Below w.heap.size w w' → Calls Try.prog 58 #[.slice At t.len ct] w' (Txt w' (listT t))) :
    Calls Try.prog 65 #[.agg #[.int .i64 10, .int .i64 x, .int .i64 y, .int .i64 n, .slice At t.len ct, .slice Ae e.len ce]] w (Txt w (stmtT 10 x y n (listT t) (listT e))) := by
  have hb0 := (Below.refl w.heap.size w).alloc (Nat.le_refl _) (.cells #[.int .i64 10, .int .i64 x, .int .i64 y, .int .i64 n, .slice At t.len ct, .slice Ae e.len ce] 41)
  have hle := listT_le t
  have ka := fun W => bytes_add Try.prog [108, 111, 111, 112, 123] (listT t) W (by simp) (by omega)
  have kb := fun W => bytes_add Try.prog ([108, 111, 111, 112, 123] ++ listT t) [125] W (by simp; omega) (by simp)
  have hst : Hid (stmtT 10 x y n (listT t) (listT e) = ([108, 111, 111, 112, 123] ++ listT t) ++ [125]) := rfl
  go_enter Try.func65, Try.ntmps65
  go_wp2_with fail
  refine (HT _ hb0).mono ?_
  rintro E w1 ⟨rfl, hb1⟩
  generalize listT t = tt at *
  go_wp2_with fail
  go_ret
  exact ⟨by rw [hst.out]; rfl, hb0.trans (hb1.mono (by simp))⟩

theorem held_2 {B K : Nat} {w1 wo w' : World} {b4 b5 : Value} (hb : Below wo.heap.size wo w') (h : Below K w1 wo) (hK : K = w1.heap.size) (hB : B < w1.heap.size)
    (q4 : w1.cell? ⟨B, 4, none⟩ = some b4) (q5 : w1.cell? ⟨B, 5, none⟩ = some b5) : Below K w1 w' ∧ w'.cell? ⟨B, 4, none⟩ = some b4 ∧ w'.cell? ⟨B, 5, none⟩ = some b5 := by
  subst hK
  have hbb : Below w1.heap.size w1 w' := h.trans (hb.mono h.size)
  exact ⟨hbb, (hbb.cell hB).trans q4, (hbb.cell hB).trans q5⟩

set_option maxRecDepth 100000 in
set_option maxHeartbeats 4000000 in
theorem specText_9 (x y n : Int) (t e : Sts) (At Ae : Option Addr) (ct ce : Nat) (w : World) (hs : t.size + e.size ≤ 100000)
    (HT : ∀ w', Below w.heap.size w w' → Calls Try.prog 58 #[.slice At t.len ct] w' (Txt w' (listT t)))
    (HE : ∀ w', Below w.heap.size w w' → Calls Try.prog 58 #[.slice Ae e.len ce] w' (Txt w' (listT e))) :
    Calls Try.prog 65 #[.agg #[.int .i64 9, .int .i64 x, .int .i64 y, .int .i64 n, .slice At t.len ct, .slice Ae e.len ce]] w (Txt w (stmtT 9 x y n (listT t) (listT e))) := by
  have hb0 := (Below.refl w.heap.size w).alloc (Nat.le_refl _) (.cells #[.int .i64 9, .int .i64 x, .int .i64 y, .int .i64 n, .slice At t.len ct, .slice Ae e.len ce] 41)
  have hle := listT_le t
  have hle2 := listT_le e
  have hst : stmtT 9 x y n (listT t) (listT e) = ((([105, 102, 123] ++ listT t) ++ [125, 123]) ++ listT e) ++ [125] := rfl
  rw [hst]
  have ka := fun W => bytes_add Try.prog [105, 102, 123] (listT t) W (by simp) (by omega)
  have kb := fun W => bytes_add Try.prog ([105, 102, 123] ++ listT t) [125, 123] W (by simp; omega) (by simp)
  have kc := fun W => bytes_add Try.prog (([105, 102, 123] ++ listT t) ++ [125, 123]) (listT e) W (by simp; omega) (by omega)
  have kd := fun W => bytes_add Try.prog ((([105, 102, 123] ++ listT t) ++ [125, 123]) ++ listT e) [125] W (by simp; omega) (by simp)
  unfold Txt at HT HE ⊢
  generalize (⟨(((([105, 102, 123] ++ listT t) ++ [125, 123]) ++ listT e) ++ [125]).toArray⟩ : ByteArray) = S4 at kd ⊢
  generalize (⟨((([105, 102, 123] ++ listT t) ++ [125, 123]) ++ listT e).toArray⟩ : ByteArray) = S3 at kc kd
  generalize (⟨(([105, 102, 123] ++ listT t) ++ [125, 123]).toArray⟩ : ByteArray) = S2 at kb kc
  generalize (⟨([105, 102, 123] ++ listT t).toArray⟩ : ByteArray) = S1 at ka kb
  generalize (⟨(listT t).toArray⟩ : ByteArray) = T1 at ka HT
  generalize (⟨(listT e).toArray⟩ : ByteArray) = T2 at kc HE
  have hbw : w.heap.size < (w.alloc (.cells #[.int .i64 9, .int .i64 x, .int .i64 y, .int .i64 n, .slice At t.len ct, .slice Ae e.len ce] 41)).heap.size := by simp
  have hg := heap_alloc_new w (.cells #[.int .i64 9, .int .i64 x, .int .i64 y, .int .i64 n, .slice At t.len ct, .slice Ae e.len ce] 41)
  have q4 : (w.alloc (.cells #[.int .i64 9, .int .i64 x, .int .i64 y, .int .i64 n, .slice At t.len ct, .slice Ae e.len ce] 41)).cell? ⟨w.heap.size, 4, none⟩ = some (.slice At t.len ct) := (cell_of_block hg 4).trans rfl
  have q5 : (w.alloc (.cells #[.int .i64 9, .int .i64 x, .int .i64 y, .int .i64 n, .slice At t.len ct, .slice Ae e.len ce] 41)).cell? ⟨w.heap.size, 5, none⟩ = some (.slice Ae e.len ce) := (cell_of_block hg 5).trans rfl
  have HQ4 := Lib.hid q4
  have HQ5 := Lib.hid q5
  clear hg q4 q5 hle hle2 hst
  go_enter Try.func65, Try.ntmps65
  go_wp2_with fail
  obtain ⟨w1, hw1⟩ : ∃ w1, w1 = w.alloc (.cells #[.int .i64 9, .int .i64 x, .int .i64 y, .int .i64 n, .slice At t.len ct, .slice Ae e.len ce] 41) := ⟨_, rfl⟩
  rw [← hw1] at hb0 hbw HQ4 HQ5 ⊢
  clear hw1
  have q4 := HQ4.out
  have q5 := HQ5.out
  clear HQ4 HQ5
  go_region_held3 (fun w' => Below w1.heap.size w1 w' ∧ w'.cell? ⟨w.heap.size, 4, none⟩ = some (.slice At t.len ct) ∧ w'.cell? ⟨w.heap.size, 5, none⟩ = some (.slice Ae e.len ce))
    (first | exact ⟨(Below.refl w1.heap.size w1).drew, q4, q5⟩ | exact held_2 hbn (And.left ‹Below w1.heap.size w1 _ ∧ _›) rfl (by omega) q4 q5)
    (first
      | (go_at_call_of 58 At; refine (HT _ ?_).mono ?_; (have hbx := And.left ‹Below w1.heap.size w1 _ ∧ _›; exact hb0.trans (hbx.mono (by omega))); rintro E w' ⟨rfl, hbn⟩)
      | (go_at_call_of 58 Ae; refine (HE _ ?_).mono ?_; (have hbx := And.left ‹Below w1.heap.size w1 _ ∧ _›; exact hb0.trans (hbx.mono (by omega))); rintro E w' ⟨rfl, hbn⟩))
  have hbl := And.left ‹Below w1.heap.size w1 _ ∧ _›
  go_wp2_with fail
  go_ret
  exact ⟨rfl, hb0.trans (hbl.mono (by omega))⟩

end Go.Proofs.Ytcaklhempmlpgaa
