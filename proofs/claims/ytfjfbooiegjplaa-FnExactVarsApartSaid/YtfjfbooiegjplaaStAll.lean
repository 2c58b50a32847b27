/-
  The laws on one statement: its size, its copy, its comparison.
-/
import Derived.Test.YtfjfbooiegjplaaCopy
import Derived.Test.YtfjfbooiegjplaaSize
import Derived.Test.YtfjfbooiegjplaaEqual
namespace Go.Proofs.Ytfjfbooiegjplaa
open Go.RowKit Go.Deep
theorem toStmt_all (op x y n : Int) (t e : Sts) (At Ae : Option Addr) (ct ce : Nat) (w : World) (h1 : t.size ≤ 1048576) (h2 : e.size ≤ 1048576) (hRt : RepV w 0 w.heap.size t At ct) (hRe : RepV w 0 w.heap.size e Ae ce) :
    Calls Try.prog 11 #[.agg #[.int .i64 op, .int .i64 x, .int .i64 y, .int .i64 n, .slice At t.len ct, .slice Ae e.len ce]] w (StmtPost w op x y n t e) :=
  toStmt_any op x y n t e At Ae ct ce w (fun w' hb => toStmtS_any (t.size + 1) t At ct w' (by omega) h1 (hRt.below hb hb.size)) (fun w' hb => toStmtS_any (e.size + 1) e Ae ce w' (by omega) h2 (hRe.below hb hb.size))

theorem szStmt_all (op x y n : Int) (t e : Sts) (At Ae : Option Addr) (ct ce : Nat) (L : Int) (w : World) (hL : 0 ≤ L) (hL2 : L ≤ 1048576) (hRt : RepV w 0 w.heap.size t At ct) (hRe : RepV w 0 w.heap.size e Ae ce) :
    Calls Try.prog 9 #[.agg #[.int .i64 op, .int .i64 x, .int .i64 y, .int .i64 n, .slice At t.len ct, .slice Ae e.len ce], .int .i64 L] w fun e' w' => e' = .returned (.int .i64 (subI L (t.size + e.size))) ∧ Below w.heap.size w w' :=
  szStmt_any op x y n t e At Ae ct ce L w hL hL2 (fun L' w' hb h1 h2 => szStmtS_any (t.size + 1) t At ct L' w' (by omega) (hRt.below hb hb.size) h1 h2) (fun L' w' hb h1 h2 => szStmtS_any (e.size + 1) e Ae ce L' w' (by omega) (hRe.below hb hb.size) h1 h2)

theorem eqStmt_all (op x y n : Int) (t e : Sts) (At Ae At' Ae' : Option Addr) (ct ce ct' ce' : Nat) (w : World) (hRt : RepV w 0 w.heap.size t At ct) (hRe : RepV w 0 w.heap.size e Ae ce) (hRt' : RepV w 0 w.heap.size t At' ct') (hRe' : RepV w 0 w.heap.size e Ae' ce') :
    Calls Try.prog 14 #[.agg #[.int .i64 op, .int .i64 x, .int .i64 y, .int .i64 n, .slice At t.len ct, .slice Ae e.len ce], .agg #[.int .i64 op, .int .i64 x, .int .i64 y, .int .i64 n, .slice At' t.len ct', .slice Ae' e.len ce']] w fun e w' => e = .returned (.bool true) ∧ Below w.heap.size w w' :=
  eqStmt_any op x y n t e At Ae At' Ae' ct ce ct' ce' w (fun w' hb => eqStmtS_any (t.size + 1) t At At' ct ct' w' (by omega) (hRt.below hb hb.size) (hRt'.below hb hb.size)) (fun w' hb => eqStmtS_any (e.size + 1) e Ae Ae' ce ce' w' (by omega) (hRe.below hb hb.size) (hRe'.below hb hb.size))

end Go.Proofs.Ytfjfbooiegjplaa
