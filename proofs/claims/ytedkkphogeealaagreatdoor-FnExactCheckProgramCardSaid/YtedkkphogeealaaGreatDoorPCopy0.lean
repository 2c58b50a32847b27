/- Facts about memory for the copies that the laws make of their arguments. -/
import Derived.Test.YtedkkphogeealaaGreatDoorRows
import Derived.Test.YtedkkphogeealaaGreatDoorPBase
import Derived.WalkKit
import Derived.WalkSpells
import Derived.Lib.Hide
import Derived.Deep.OwnRows
namespace Go.Proofs.YtedkkphogeealaaGreatDoor
open Go.RowKit Go.Deep
theorem Tryz.infoInt:(Tryz.prog.info? 3).map (fun i=>(i.zero,i.size,i.bytes))=some (some (.int .i64 0),1,8):=by kernel_rfl
def FillI (B:Nat) (w0 wr:World) (T:TypeId) (xs:List Int) (k:Nat):Prop :=
 Below B w0 wr∧∃ cs,wr.heap[B]?=some (.cells cs T (0,0))∧cs.size=xs.length∧∀ j,j<k→∀ v,xs[j]?=some v→cs[j]?=some (.int .i64 v)
theorem heap_lt {w:World} {g:Nat} {o:Obj} (h:w.heap[g]?=some o):g<w.heap.size:=by
 rcases Nat.lt_or_ge g w.heap.size with hlt | hge
 ·exact hlt
 ·rw [Array.getElem?_eq_none hge] at h;cases h
theorem cB {w:World} {g:Nat} {cs:Array Value} {t:TypeId} {fr:Nat × Nat} (h:w.heap[g]?=some (.cells cs t fr)) (i:Nat):w.cell? ⟨g,i,none⟩=cs[i]?:=by
 simp [World.cell?,h]
theorem fB {w:World} {g:Nat} {cs:Array Value} {t:TypeId} (h:w.heap[g]?=some (.cells cs t (0,0))) (i:Nat):w.frozen? ⟨g,i,none⟩=false:=by
 simp [World.frozen?,h]
theorem block_set {w:World} {g:Nat} {cs:Array Value} {t:TypeId} {fr:Nat × Nat} (h:w.heap[g]?=some (.cells cs t fr)) (i:Nat) (u:Value):(w.setCell ⟨g,i,none⟩ u).heap[g]?=some (.cells (cs.setIfInBounds i u) t fr):=by
 simp [World.setCell,Array.getElem?_modify,h]
theorem FillI.start (w:World) (T:TypeId) (xs:List Int):FillI w.heap.size w (w.alloc (.cells (madeCells #[Value.int .i64 0] xs.length) T)) T xs 0 :=
 ⟨(Below.refl _ _).alloc (Nat.le_refl _) _,_,heap_alloc_new w _,size_madeCells _ _,fun j hj=>absurd hj (by omega)⟩
theorem FillI.cell {B:Nat} {w0 wr:World} {T:TypeId} {xs:List Int} {k:Nat} (h:FillI B w0 wr T xs k) (hk:k<xs.length):∃ u,wr.cell? ⟨B,k,none⟩=some u:=by
 obtain ⟨_,cs,hc,hs,_⟩:=h
 exact ⟨cs[k],by rw [cB hc];exact Array.getElem?_eq_getElem (by omega)⟩
theorem FillI.frozen {B:Nat} {w0 wr:World} {T:TypeId} {xs:List Int} {k:Nat} (h:FillI B w0 wr T xs k) (j:Nat):wr.frozen? ⟨B,j,none⟩=false:=by
 obtain ⟨_,cs,hc,hs,_⟩:=h
 exact fB hc j
theorem FillI.set_ {B:Nat} {w0 wr:World} {T:TypeId} {xs:List Int} {k:Nat} {v:Int} (h:FillI B w0 wr T xs k) (hk:xs[k]?=some v):FillI B w0 (wr.setCell ⟨B,k,none⟩ (.int .i64 v)) T xs (k+1):=by
 obtain ⟨hb,cs,hc,hs,hf⟩:=h
 have hkl:=(List.getElem?_eq_some_iff.1 hk).1
 refine ⟨hb.setCell (Nat.le_refl _) _,_,block_set hc k _,by simpa using hs,fun j hj u hu=>?_⟩
 rw [Array.getElem?_setIfInBounds]
 by_cases e:k=j
 ·subst e
  rw [if_pos rfl,if_pos (by omega)]
  rw [hk] at hu
  injection hu with hu
  rw [hu]
 ·rw [if_neg e]
  exact hf j (by omega) u hu
theorem FillI.done {B:Nat} {w0 wr:World} {T:TypeId} {xs:List Int} (h:FillI B w0 wr T xs xs.length) (hm:xs.length≤maxLen):IntsV wr B wr.heap.size xs (some ⟨B,0,none⟩) xs.length:=by
 obtain ⟨hb,cs,hc,hs,hf⟩:=h
 refine ⟨Nat.le_refl _,hm,fun _=>⟨_,rfl,Nat.le_refl _,heap_lt hc,fun j v hv=>?_⟩⟩
 rw [add_block,Nat.zero_add,cB hc]
 exact hf j (List.getElem?_eq_some_iff.1 hv).1 v hv
def StmtPost (w:World) (op x y n:Int) (t e:Sts) (E:Ending) (w':World):Prop :=
 ∃ g1 g2,E=.returned (.agg #[.int .i64 op,.int .i64 x,.int .i64 y,.int .i64 n,.slice (some ⟨g1,0,none⟩) t.len t.len,.slice (some ⟨g2,0,none⟩) e.len e.len]) ∧
  RepV w' w.heap.size w'.heap.size t (some ⟨g1,0,none⟩) t.len∧RepV w' w.heap.size w'.heap.size e (some ⟨g2,0,none⟩) e.len∧Below w.heap.size w w'
def StsPost (w:World) (s:Sts) (E:Ending) (w':World):Prop :=
 ∃ g,w.heap.size≤g∧E=.returned (.slice (some ⟨g,0,none⟩) s.len s.len)∧RepV w' w.heap.size w'.heap.size s (some ⟨g,0,none⟩) s.len∧Below w.heap.size w w'
theorem heap3 (w:World) (o1 o2 o3:Obj):(((w.alloc o1).alloc o2).alloc o3).heap[w.heap.size]?=some o1∧(((w.alloc o1).alloc o2).alloc o3).heap[w.heap.size+1]?=some o2 ∧
  (((w.alloc o1).alloc o2).alloc o3).heap[w.heap.size+2]?=some o3∧(((w.alloc o1).alloc o2).alloc o3).heap.size=w.heap.size+3:=by
 refine ⟨?_,?_,?_,?_⟩
 ·show (((w.heap.push o1).push o2).push o3)[w.heap.size]?=_
  simp only [Array.getElem?_push,Array.size_push]
  rw [if_neg (by omega),if_neg (by omega),if_pos trivial]
 ·show (((w.heap.push o1).push o2).push o3)[w.heap.size+1]?=_
  simp only [Array.getElem?_push,Array.size_push]
  rw [if_neg (by omega),if_pos trivial]
 ·show (((w.heap.push o1).push o2).push o3)[w.heap.size+2]?=_
  simp only [Array.getElem?_push,Array.size_push]
  rw [if_pos trivial]
 ·simp
theorem run_make_rows {P:Program} (t e:TypeId) (z:Value) (zc:Array Value) (size bytes:Nat) (ht:P.underlying t=some (.slice e)) (hinfo:(P.info? e).map (fun i=>(i.zero,i.size,i.bytes))=some (some z,size,bytes)) (hzc:z.cells=zc)
  (kl kc:IntKind) (n:Nat) (hbytes:bytes*n≤281474976710656) (h63:n≤9223372036854775807) (w:World) :
  (Instr.makeSlice t (.int kl (n:Int)) (.int kc (n:Int))).run P w=.ok (.slice (some ⟨w.heap.size,0,none⟩) n n) (w.alloc (.cells (madeCells zc (n*size)) e)):=by
 obtain ⟨i,hi,hzz⟩:=Option.map_eq_some_iff.1 hinfo
 simp only [Prod.mk.injEq] at hzz
 obtain ⟨hz,hs,hb⟩:=hzz
 have hb':(i.bytes:Int)*(n:Int)≤281474976710656:=by
  have h:((i.bytes*n:Nat):Int)≤281474976710656:=by rw [hb];omega
  rwa [Int.natCast_mul] at h
 have hr:=run_make (P:=P) w t e i z ht hi hz kl kc n n (by omega) (Int.le_refl _) hb' (by omega)
 simp only [Int.toNat_natCast,hs,hzc] at hr
 exact hr
theorem Tryz.infoStmt:(Tryz.prog.info? 121).map (fun i=>(i.zero,i.size,i.bytes))=some (some (.agg #[.int .i64 0,.int .i64 0,.int .i64 0,.int .i64 0,.slice none 0 0,.slice none 0 0]),6,80):=by kernel_rfl
def set6 (w:World) (B o:Nat) (a b c d e f:Value):World :=
 (((((w.setCell ⟨B,o,none⟩ a).setCell ⟨B,o+1,none⟩ b).setCell ⟨B,o+2,none⟩ c).setCell ⟨B,o+3,none⟩ d).setCell ⟨B,o+4,none⟩ e).setCell ⟨B,o+5,none⟩ f
theorem set6_block {w:World} {B:Nat} {cs:Array Value} {t:TypeId} (h:w.heap[B]?=some (.cells cs t (0,0))) (o:Nat) (a b c d e f:Value) :
  (set6 w B o a b c d e f).heap[B]?=some (.cells ((((((cs.setIfInBounds o a).setIfInBounds (o+1) b).setIfInBounds (o+2) c).setIfInBounds (o+3) d).setIfInBounds (o+4) e).setIfInBounds (o+5) f) t (0,0)) :=
 block_set (block_set (block_set (block_set (block_set (block_set h _ _) _ _) _ _) _ _) _ _) _ _
theorem set6_other {w:World} {B o:Nat} {a b c d e f:Value} (p:Addr) (hp:∀ j,j<6→p≠⟨B,o+j,none⟩):(set6 w B o a b c d e f).cell? p=w.cell? p:=by
 have h0:(⟨B,o,none⟩:Addr)≠p:=by simpa using (hp 0 (by omega)).symm
 unfold set6
 rw [World.cell?_setCell_other _ _ _ _ (hp 5 (by omega)).symm,World.cell?_setCell_other _ _ _ _ (hp 4 (by omega)).symm,World.cell?_setCell_other _ _ _ _ (hp 3 (by omega)).symm,
  World.cell?_setCell_other _ _ _ _ (hp 2 (by omega)).symm,World.cell?_setCell_other _ _ _ _ (hp 1 (by omega)).symm,World.cell?_setCell_other _ _ _ _ h0]
theorem set6_size (w:World) (B o:Nat) (a b c d e f:Value):(set6 w B o a b c d e f).heap.size=w.heap.size:=by simp [set6,World.setCell]
theorem set6_below {B0:Nat} {w0 w:World} {B o:Nat} {a b c d e f:Value} (h:Below B0 w0 w) (hB:B0≤B):Below B0 w0 (set6 w B o a b c d e f) :=
 (((((h.setCell hB _).setCell hB _).setCell hB _).setCell hB _).setCell hB _).setCell hB _
def FillS (B:Nat) (w0 wr:World) (T:TypeId) (s:Sts) (k:Nat):Prop :=
 Below B w0 wr∧(∃ cs,wr.heap[B]?=some (.cells cs T (0,0))∧cs.size=s.len*6)∧Filled wr (B+1) wr.heap.size B s k
theorem FillS.start (w:World) (T:TypeId) (s:Sts) (zc:Array Value):FillS w.heap.size w (w.alloc (.cells (madeCells zc (s.len*6)) T)) T s 0 :=
 ⟨(Below.refl _ _).alloc (Nat.le_refl _) _,⟨_,heap_alloc_new w _,size_madeCells _ _⟩,fun j hj=>absurd hj (by omega)⟩
theorem FillS.lt {B:Nat} {w0 wr:World} {T:TypeId} {s:Sts} {k:Nat} (h:FillS B w0 wr T s k):B<wr.heap.size:=by
 obtain ⟨_,⟨cs,hc,_⟩,_⟩:=h
 exact heap_lt hc
theorem FillS.cell {B:Nat} {w0 wr w1:World} {T:TypeId} {s:Sts} {k:Nat} (h:FillS B w0 wr T s k) (hk:k<s.len) (hb:Below wr.heap.size wr w1) (j:Nat) (hj:j<6) :
  (∃ u,w1.cell? ⟨B,k*6+j,none⟩=some u)∧w1.frozen? ⟨B,k*6+j,none⟩=false:=by
 obtain ⟨_,⟨cs,hc,hs⟩,_⟩:=h
 have hc':=(hb.block B (heap_lt hc)).trans hc
 exact ⟨⟨cs[k*6+j]'(by omega),by rw [cB hc'];exact Array.getElem?_eq_getElem (by omega)⟩,fB hc' _⟩
theorem FillS.set_ {B:Nat} {w0 wr w1:World} {T:TypeId} {s:Sts} {k:Nat} {op x y n:Int} {t e:Sts} {At Ae:Option Addr} {ct ce:Nat} (h:FillS B w0 wr T s k) (hk:k<s.len) (hd:s.drop k=.cons op x y n t e (s.drop (k+1)))
  (hb:Below wr.heap.size wr w1) (hRt:RepV w1 wr.heap.size w1.heap.size t At ct) (hRe:RepV w1 wr.heap.size w1.heap.size e Ae ce) :
  FillS B w0 (set6 w1 B (k*6) (.int .i64 op) (.int .i64 x) (.int .i64 y) (.int .i64 n) (.slice At t.len ct) (.slice Ae e.len ce)) T s (k+1):=by
 have hlt:=h.lt
 obtain ⟨h0,⟨cs,hc,hs⟩,hF⟩:=h
 have hc':=(hb.block B hlt).trans hc
 have hz:=hb.size
 have hblk:=set6_block hc' (k*6) (.int .i64 op) (.int .i64 x) (.int .i64 y) (.int .i64 n) (.slice At t.len ct) (.slice Ae e.len ce)
 refine ⟨set6_below (h0.trans (hb.mono (by omega))) (Nat.le_refl _),⟨_,hblk,by simpa using hs⟩,fun j hj op' x' y' n' t' e' hd'=>?_⟩
 rw [set6_size]
 have hkeep:∀ p:Addr,B+1≤p.block→(set6 w1 B (k*6) (.int .i64 op) (.int .i64 x) (.int .i64 y) (.int .i64 n) (.slice At t.len ct) (.slice Ae e.len ce)).cell? p=w1.cell? p :=
  fun p hp=>set6_other p fun j _ e=>by rw [e] at hp;exact absurd hp (by simp)
 by_cases hjk:j=k
 ·subst hjk
  rw [hd] at hd'
  injection hd' with e1 e2 e3 e4 e5 e6
  subst e1 e2 e3 e4 e5 e6
  have hsz:j*6+5<cs.size:=by omega
  refine ⟨At,ct,Ae,ce,⟨?_,?_,?_,?_,?_,?_⟩,hRt.keep (by omega) (Nat.le_refl _) fun p hp _=>hkeep p (by omega),hRe.keep (by omega) (Nat.le_refl _) fun p hp _=>hkeep p (by omega)⟩
  all_goals
   rw [cB hblk]
   simp only [Array.getElem?_setIfInBounds,Array.size_setIfInBounds]
  ·rw [if_neg (by omega),if_neg (by omega),if_neg (by omega),if_neg (by omega),if_neg (by omega),if_pos trivial,if_pos (by omega)]
  ·rw [if_neg (by omega),if_neg (by omega),if_neg (by omega),if_neg (by omega),if_pos trivial,if_pos (by omega)]
  ·rw [if_neg (by omega),if_neg (by omega),if_neg (by omega),if_pos trivial,if_pos (by omega)]
  ·rw [if_neg (by omega),if_neg (by omega),if_pos trivial,if_pos (by omega)]
  ·rw [if_neg (by omega),if_pos trivial,if_pos (by omega)]
  ·rw [if_pos trivial,if_pos (by omega)]
 ·obtain ⟨At',ct',Ae',ce',⟨g0,g1,g2,g3,g4,g5⟩,hRt',hRe'⟩:=hF j (by omega) _ _ _ _ _ _ hd'
  have hold:∀ i,i<6→(set6 w1 B (k*6) (.int .i64 op) (.int .i64 x) (.int .i64 y) (.int .i64 n) (.slice At t.len ct) (.slice Ae e.len ce)).cell? ⟨B,j*6+i,none⟩=wr.cell? ⟨B,j*6+i,none⟩ :=
   fun i hi=>(set6_other _ fun i' hi' e=>by injection e with _ e;omega).trans (hb.cell hlt)
  exact ⟨At',ct',Ae',ce',⟨(hold 0 (by omega)).trans g0,(hold 1 (by omega)).trans g1,(hold 2 (by omega)).trans g2,(hold 3 (by omega)).trans g3,(hold 4 (by omega)).trans g4,(hold 5 (by omega)).trans g5⟩,
   hRt'.keep (Nat.le_refl _) hz fun p hp hp'=>(hkeep p hp).trans (hb.cell hp'),hRe'.keep (Nat.le_refl _) hz fun p hp hp'=>(hkeep p hp).trans (hb.cell hp')⟩
def ProgPost (w:World) (ts:List Int) (s:Sts) (E:Ending) (w':World):Prop :=
 ∃ g1 g2,E=.returned (.agg #[.slice (some ⟨g1,0,none⟩) ts.length ts.length,.slice (some ⟨g2,0,none⟩) s.len s.len]) ∧
  IntsV w' w.heap.size w'.heap.size ts (some ⟨g1,0,none⟩) ts.length∧RepV w' w.heap.size w'.heap.size s (some ⟨g2,0,none⟩) s.len∧Below w.heap.size w w'
end Go.Proofs.YtedkkphogeealaaGreatDoor
