/- The program's graph in memory,and what its writes make of it. -/
import Derived.Test.YtedkkphogeealaaGreatDoorRows
import Derived.Test.YtedkkphogeealaaGreatDoorPCopy0
import Derived.Test.YtedkkphogeealaaGreatDoorPBase
import Derived.WalkKit
import Derived.WalkSpells
import Derived.Laws.OwnMore
import Derived.Lib.Hide
import Derived.Deep.RegionWith
import Derived.Deep.QuietTactic
import Derived.BigQuiet
namespace Go.Proofs.YtedkkphogeealaaGreatDoor
open Go.RowKit Go.Deep
set_option linter.unusedVariables false
set_option maxRecDepth 100000
set_option maxHeartbeats 4000000
def setN (cs:Array Value) (o:Nat):List Value→Array Value
 | []=>cs
 | v :: vs=>setN (cs.setIfInBounds o v) (o+1) vs
theorem setN_size (vs:List Value):∀ (cs:Array Value) (o:Nat),(setN cs o vs).size=cs.size:=by
 induction vs with
 | nil=>intro cs o;rfl
 | cons v vs ih=>intro cs o;rw [setN,ih];simp
theorem setN_get (vs:List Value):∀ (cs:Array Value) (o j:Nat),o+vs.length≤cs.size→(setN cs o vs)[j]?=if o≤j∧j<o+vs.length then vs[j-o]? else cs[j]?:=by
 induction vs with
 | nil =>
  intro cs o j _
  rw [setN,if_neg (by simp)]
 | cons v vs ih =>
  intro cs o j hz
  simp only [List.length_cons] at hz
  rw [setN,ih _ _ _ (by simp;omega),List.length_cons]
  by_cases h1:o+1≤j∧j<o+1+vs.length
  ·rw [if_pos h1,if_pos (by omega),show j-o=(j-(o+1))+1 by omega,List.getElem?_cons_succ]
  ·rw [if_neg h1,Array.getElem?_setIfInBounds]
   by_cases h2:o=j
   ·subst h2
    rw [if_pos rfl,if_pos (by omega),if_pos (by omega),Nat.sub_self]
    rfl
   ·rw [if_neg h2,if_neg (by omega)]
structure NdAt (cs:Array Value) (k:Nat) (d:Nd):Prop where
 op:cs[k*7]?=some (.int .i64 d.op)
 x:cs[k*7+1]?=some (.int .i64 d.x)
 y:cs[k*7+2]?=some (.int .i64 d.y)
 n:cs[k*7+3]?=some (.int .i64 d.n)
 next:∀ j v,d.next[j]?=some v→cs[k*7+4+j]?=some (.int .i64 v)
 ways:cs[k*7+6]?=some (.int .i64 d.next.length)
 two:d.next.length≤2
def Gr (C:Nat) (w:World) (ns:List Nd):Prop :=
 ∃ cs,w.heap[C]?=some (.cells cs 133 (0,0))∧cs.size=428∧cs[427]?=some (.int .i64 ns.length)∧(ns.length≤61∧∀ j,j<428→∃ v,cs[j]?=some (.int .i64 v))∧∀ k d,ns[k]?=some d→NdAt cs k d
structure Turn (C:Nat) (w w':World):Prop where
 os:w'.os=w.os
 tape:w'.tape=w.tape
 output:w'.output=w.output
 size:w.heap.size≤w'.heap.size
 block:∀ k,k<w.heap.size→k≠C→w'.heap[k]?=w.heap[k]?
theorem Turn.refl (C:Nat) (w:World):Turn C w w:=⟨rfl,rfl,rfl,Nat.le_refl _,fun _ _ _=>rfl⟩
theorem Turn.trans {C:Nat} {a b c:World} (h:Turn C a b) (k:Turn C b c):Turn C a c :=
 ⟨k.os.trans h.os,k.tape.trans h.tape,k.output.trans h.output,Nat.le_trans h.size k.size,fun i hi hne=>(k.block i (Nat.lt_of_lt_of_le hi h.size) hne).trans (h.block i hi hne)⟩
theorem Turn.of_below {C:Nat} {a b:World} (h:Below a.heap.size a b):Turn C a b:=⟨h.os,h.tape,h.output,h.size,fun i hi _=>h.block i hi⟩
theorem Turn.alloc {C:Nat} {a b:World} (h:Turn C a b) (o:Obj):Turn C a (b.alloc o):=h.trans (.of_below ((Below.refl _ _).alloc (Nat.le_refl _) o))
theorem Turn.setCell {C:Nat} {a b:World} (h:Turn C a b) (i:Nat) (u:Value):Turn C a (b.setCell ⟨C,i,none⟩ u) :=
 h.trans ⟨rfl,rfl,rfl,by simp [World.setCell],fun k _ hne=>Below.heap_setCell _ _ _ _ (by simpa using hne)⟩
theorem Turn.drew {C:Nat} {a b:World} (h:Turn C a b):Turn C a b.drew:=⟨h.os,h.tape,h.output,h.size,h.block⟩
theorem Turn.cellAt {C:Nat} {a b:World} (h:Turn C a b) {p:Addr} (hp:p.block<a.heap.size) (hne:p.block≠C):b.cell? p=a.cell? p:=World.cell?_of_block (w:=a) (h.block p.block hp hne)
theorem Gr.lt {C:Nat} {w:World} {ns:List Nd} (h:Gr C w ns):C<w.heap.size:=by
 obtain ⟨cs,hc,_⟩:=h
 exact heap_lt hc
theorem Gr.count {C:Nat} {w:World} {ns:List Nd} (h:Gr C w ns):w.cell? ⟨C,427,none⟩=some (.int .i64 ns.length):=by
 obtain ⟨cs,hc,_,h1,_⟩:=h
 rw [cB hc]
 exact h1
theorem Gr.le {C:Nat} {w:World} {ns:List Nd} (h:Gr C w ns):ns.length≤61:=by
 obtain ⟨cs,hc,_,_,h2,_⟩:=h
 exact h2.1
theorem Gr.frozen {C:Nat} {w:World} {ns:List Nd} (h:Gr C w ns) (j:Nat):w.frozen? ⟨C,j,none⟩=false:=by
 obtain ⟨cs,hc,_⟩:=h
 exact fB hc j
theorem Gr.kept {C:Nat} {w w':World} {ns:List Nd} (h:Gr C w ns) (hb:w'.heap[C]?=w.heap[C]?):Gr C w' ns:=by
 obtain ⟨cs,hc,r⟩:=h
 exact ⟨cs,hb.trans hc,r⟩
theorem Gr.drew {C:Nat} {w:World} {ns:List Nd} (h:Gr C w ns):Gr C w.drew ns:=h
theorem Gr.alloc {C:Nat} {w:World} {ns:List Nd} (h:Gr C w ns) (o:Obj):Gr C (w.alloc o) ns:=h.kept (Below.heap_alloc _ _ C h.lt)
theorem Gr.node {C:Nat} {w:World} {ns:List Nd} {k:Nat} {d:Nd} (h:Gr C w ns) (hd:ns[k]?=some d):w.cell? ⟨C,k*7+6,none⟩=some (.int .i64 d.next.length)∧(∀ j v,d.next[j]?=some v→w.cell? ⟨C,k*7+4+j,none⟩=some (.int .i64 v))∧d.next.length≤2 ∧
  w.cell? ⟨C,k*7,none⟩=some (.int .i64 d.op)∧w.cell? ⟨C,k*7+1,none⟩=some (.int .i64 d.x)∧w.cell? ⟨C,k*7+2,none⟩=some (.int .i64 d.y)∧w.cell? ⟨C,k*7+3,none⟩=some (.int .i64 d.n):=by
 obtain ⟨cs,hc,_,_,_,hn⟩:=h
 have a:=hn k d hd
 refine ⟨?_,fun j v hv=>?_,a.two,?_,?_,?_,?_⟩
 ·rw [cB hc];exact a.ways
 ·rw [cB hc];exact a.next j v hv
 ·rw [cB hc];exact a.op
 ·rw [cB hc];exact a.x
 ·rw [cB hc];exact a.y
 ·rw [cB hc];exact a.n
theorem Gr.some_ {C:Nat} {w:World} {ns:List Nd} (h:Gr C w ns) {j:Nat} (hj:j<428):∃ u,w.cell? ⟨C,j,none⟩=some u:=by
 obtain ⟨cs,hc,hz,_⟩:=h
 exact ⟨cs[j],by rw [cB hc];exact Array.getElem?_eq_getElem (by omega)⟩
theorem Gr.int_ {C:Nat} {w:World} {ns:List Nd} (h:Gr C w ns) {j:Nat} (hj:j<428):∃ v,w.cell? ⟨C,j,none⟩=some (.int .i64 v):=by
 obtain ⟨cs,hc,hz,_,h2,_⟩:=h
 obtain ⟨v,hv⟩:=h2.2 j hj
 exact ⟨v,by rw [cB hc];exact hv⟩
theorem ints_set {cs:Array Value} (h:∀ j,j<428→∃ v,cs[j]?=some (.int .i64 v)) (hz:cs.size=428) (o:Nat) (u:Int):∀ j,j<428→∃ v,(cs.setIfInBounds o (.int .i64 u))[j]?=some (.int .i64 v):=by
 intro j hj
 rw [Array.getElem?_setIfInBounds]
 by_cases e:o=j
 ·rw [if_pos e,if_pos (by omega)]
  exact ⟨u,rfl⟩
 ·rw [if_neg e]
  exact h j hj
theorem Gr.snoc {C:Nat} {w w':World} {ns:List Nd} {d:Nd} (h:Gr C w ns) (h60:ns.length<61) (hd:d.next=[])
  (hw:∀ cs,w.heap[C]?=some (.cells cs 133 (0,0))→w'.heap[C]?=some (.cells ((((((((cs.setIfInBounds (ns.length*7) (.int .i64 d.op)).setIfInBounds (ns.length*7+1) (.int .i64 d.x)).setIfInBounds (ns.length*7+2) (.int .i64 d.y)).setIfInBounds (ns.length*7+3) (.int .i64 d.n)).setIfInBounds (ns.length*7+4) (.int .i64 0)).setIfInBounds (ns.length*7+5) (.int .i64 0)).setIfInBounds (ns.length*7+6) (.int .i64 0)).setIfInBounds 427 (.int .i64 ((ns.length:Int)+1))) 133 (0,0))):Gr C w' (ns++[d]):=by
 obtain ⟨cs,hc,hz,hn,hl,hk⟩:=h
 have hl61:=hl.1
 have hc':=hw cs hc
 obtain ⟨a,ha⟩:∃ a,a=Value.int .i64 0:=⟨_,rfl⟩
 obtain ⟨b,hb⟩:∃ b,b=Value.int .i64 0:=⟨_,rfl⟩
 have he:((((((((cs.setIfInBounds (ns.length*7) (.int .i64 d.op)).setIfInBounds (ns.length*7+1) (.int .i64 d.x)).setIfInBounds (ns.length*7+2) (.int .i64 d.y)).setIfInBounds (ns.length*7+3) (.int .i64 d.n)).setIfInBounds (ns.length*7+4) (.int .i64 0)).setIfInBounds (ns.length*7+5) (.int .i64 0)).setIfInBounds (ns.length*7+6) (.int .i64 0)).setIfInBounds 427 (.int .i64 ((ns.length:Int)+1)))=(setN cs (ns.length*7) [.int .i64 d.op,.int .i64 d.x,.int .i64 d.y,.int .i64 d.n,a,b,.int .i64 0]).setIfInBounds 427 (.int .i64 ((ns.length+1:Nat):Int)):=by
  subst ha hb
  simp only [setN,Nat.add_assoc,Int.natCast_add,Int.natCast_one]
 have hints:=ints_set (ints_set (ints_set (ints_set (ints_set (ints_set (ints_set (ints_set hl.2 hz (ns.length*7) d.op) (by simp [hz]) (ns.length*7+1) d.x) (by simp [hz]) (ns.length*7+2) d.y) (by simp [hz]) (ns.length*7+3) d.n) (by simp [hz]) (ns.length*7+4) 0) (by simp [hz]) (ns.length*7+5) 0) (by simp [hz]) (ns.length*7+6) 0) (by simp [hz]) 427 ((ns.length:Int)+1)
 rw [he] at hc' hints
 refine ⟨_,hc',by simp [setN_size,hz],?_,⟨by simp;omega,hints⟩,fun k e he=>?_⟩
 ·rw [Array.getElem?_setIfInBounds,if_pos rfl,if_pos (by simp [setN_size,hz])]
  simp
 ·have hget:∀ j,j<427→((setN cs (ns.length*7) [.int .i64 d.op,.int .i64 d.x,.int .i64 d.y,.int .i64 d.n,a,b,.int .i64 0]).setIfInBounds 427 (.int .i64 ((ns.length+1:Nat):Int)))[j]? =
    if ns.length*7≤j∧j<ns.length*7+7 then ([.int .i64 d.op,.int .i64 d.x,.int .i64 d.y,.int .i64 d.n,a,b,.int .i64 0]:List Value)[j-ns.length*7]? else cs[j]?:=by
   intro j hj
   rw [Array.getElem?_setIfInBounds,if_neg (by omega),setN_get _ _ _ _ (by simp;omega)]
   rfl
  rcases Nat.lt_or_ge k ns.length with hkl | hkl
  ·rw [List.getElem?_append_left hkl] at he
   have q:=hk k e he
   have q2:=q.two
   refine ⟨?_,?_,?_,?_,fun j v hv=>?_,?_,q.two⟩
   ·rw [hget _ (by omega),if_neg (by omega)];exact q.op
   ·rw [hget _ (by omega),if_neg (by omega)];exact q.x
   ·rw [hget _ (by omega),if_neg (by omega)];exact q.y
   ·rw [hget _ (by omega),if_neg (by omega)];exact q.n
   ·have:=(List.getElem?_eq_some_iff.1 hv).1
    rw [hget _ (by omega),if_neg (by omega)];exact q.next j v hv
   ·rw [hget _ (by omega),if_neg (by omega)];exact q.ways
  ·rw [List.getElem?_append_right hkl] at he
   have hk':k=ns.length:=by
    have:=(List.getElem?_eq_some_iff.1 he).1
    simp at this
    omega
   subst hk'
   simp at he
   subst he
   refine ⟨?_,?_,?_,?_,fun j v hv=>?_,?_,by simp [hd]⟩
   ·rw [hget _ (by omega),if_pos (by omega),Nat.sub_self];rfl
   ·rw [hget _ (by omega),if_pos (by omega),show ns.length*7+1-ns.length*7=1 by omega];rfl
   ·rw [hget _ (by omega),if_pos (by omega),show ns.length*7+2-ns.length*7=2 by omega];rfl
   ·rw [hget _ (by omega),if_pos (by omega),show ns.length*7+3-ns.length*7=3 by omega];rfl
   ·rw [hd] at hv;simp at hv
   ·rw [hget _ (by omega),if_pos (by omega),show ns.length*7+6-ns.length*7=6 by omega,hd];rfl
theorem Gr.led {C:Nat} {w w':World} {ns:List Nd} {k:Nat} {d:Nd} {to:Int} (h:Gr C w ns) (hd:ns[k]?=some d) (h1:d.next.length<2)
  (hw:∀ cs,w.heap[C]?=some (.cells cs 133 (0,0))→w'.heap[C]?=some (.cells ((cs.setIfInBounds (k*7+4+d.next.length) (.int .i64 to)).setIfInBounds (k*7+6) (.int .i64 ((d.next.length+1:Nat):Int))) 133 (0,0))) :
  Gr C w' (ns.set k { d with next:=d.next++[to] }):=by
 obtain ⟨cs,hc,hz,hn,hl,hk⟩:=h
 have hl61:=hl.1
 have hc':=hw cs hc
 have hkl:=(List.getElem?_eq_some_iff.1 hd).1
 have hints:=ints_set (ints_set hl.2 hz (k*7+4+d.next.length) to) (by simp [hz]) (k*7+6) ((d.next.length+1:Nat):Int)
 have hget:∀ j,j≠k*7+6→j≠k*7+4+d.next.length→((cs.setIfInBounds (k*7+4+d.next.length) (.int .i64 to)).setIfInBounds (k*7+6) (.int .i64 ((d.next.length+1:Nat):Int)))[j]?=cs[j]?:=by
  intro j h1 h2
  rw [Array.getElem?_setIfInBounds,if_neg (by omega),Array.getElem?_setIfInBounds,if_neg (by omega)]
 refine ⟨_,hc',by simp [hz],?_,⟨by simpa using hl.1,hints⟩,fun i e he=>?_⟩
 ·rw [hget _ (by omega) (by omega),List.length_set];exact hn
 ·by_cases hi:k=i
  ·subst hi
   rw [List.getElem?_set_self hkl] at he
   injection he with he
   subst he
   have q:=hk k d hd
   refine ⟨?_,?_,?_,?_,fun j v hv=>?_,?_,by simp;omega⟩
   ·rw [hget _ (by omega) (by omega)];exact q.op
   ·rw [hget _ (by omega) (by omega)];exact q.x
   ·rw [hget _ (by omega) (by omega)];exact q.y
   ·rw [hget _ (by omega) (by omega)];exact q.n
   ·have hv':(d.next++[to])[j]?=some v:=hv
    rcases Nat.lt_or_ge j d.next.length with hj | hj
    ·rw [List.getElem?_append_left hj] at hv'
     rw [hget _ (by omega) (by omega)]
     exact q.next j v hv'
    ·rw [List.getElem?_append_right hj] at hv'
     have hj':j=d.next.length:=by
      have:=(List.getElem?_eq_some_iff.1 hv').1
      simp at this
      omega
     subst hj'
     simp at hv'
     subst hv'
     rw [Array.getElem?_setIfInBounds,if_neg (by omega),Array.getElem?_setIfInBounds,if_pos rfl,if_pos (by omega)]
   ·rw [Array.getElem?_setIfInBounds,if_pos rfl,if_pos (by simp;omega)]
    simp
  ·rw [List.getElem?_set_ne hi] at he
   have hil:=(List.getElem?_eq_some_iff.1 he).1
   have q:=hk i e he
   have q2:=q.two
   refine ⟨?_,?_,?_,?_,fun j v hv=>?_,?_,q.two⟩
   ·rw [hget _ (by omega) (by omega)];exact q.op
   ·rw [hget _ (by omega) (by omega)];exact q.x
   ·rw [hget _ (by omega) (by omega)];exact q.y
   ·rw [hget _ (by omega) (by omega)];exact q.n
   ·have:=(List.getElem?_eq_some_iff.1 hv).1
    rw [hget _ (by omega) (by omega)];exact q.next j v hv
   ·rw [hget _ (by omega) (by omega)];exact q.ways
theorem add_any (C:Nat) (op x y n:Int) (ns:List Nd) (w:World) (hG:Gr C w ns) (h60:ns.length<61) :
  Calls Tryz.prog 128 #[.pointer (some ⟨C,0,none⟩),.agg #[.int .i64 op,.int .i64 x,.int .i64 y,.int .i64 n,.int .i64 0,.int .i64 0,.int .i64 0]] w
   fun E w'=>E=.returned (.int .i64 ns.length)∧Gr C w' (ns++[⟨op,x,y,n,[]⟩])∧Turn C w w':=by
 have hlt:=hG.lt
 have hG1:Gr C (w.alloc (.cells #[.int .i64 op,.int .i64 x,.int .i64 y,.int .i64 n,.int .i64 0,.int .i64 0,.int .i64 0] 130)) ns:=hG.alloc _
 have hT1:Turn C w (w.alloc (.cells #[.int .i64 op,.int .i64 x,.int .i64 y,.int .i64 n,.int .i64 0,.int .i64 0,.int .i64 0] 130)):=(Turn.refl C w).alloc _
 have hcount:=hG.count
 have hbx:∀ j u,(#[Value.int .i64 op,.int .i64 x,.int .i64 y,.int .i64 n,.int .i64 0,.int .i64 0,.int .i64 0]:Array Value)[j]?=some u→(w.alloc (.cells #[.int .i64 op,.int .i64 x,.int .i64 y,.int .i64 n,.int .i64 0,.int .i64 0,.int .i64 0] 130)).cell? ⟨w.heap.size,j,none⟩=some u:=fun j u hu=>(cB (heap_alloc_new w _) j).trans hu
 have b0:=hbx 0 (.int .i64 op) rfl
 have b1:=hbx 1 (.int .i64 x) rfl
 have b2:=hbx 2 (.int .i64 y) rfl
 have b3:=hbx 3 (.int .i64 n) rfl
 have b4:=hbx 4 (.int .i64 0) rfl
 have b5:=hbx 5 (.int .i64 0) rfl
 have b6:=hbx 6 (.int .i64 0) rfl
 have HX:=Lib.hid hT1
 have HG:=Lib.hid hG1
 have HB:=Lib.hid (And.intro b0 (And.intro b1 (And.intro b2 (And.intro b3 (And.intro b4 (And.intro b5 b6))))))
 clear hG hG1 hT1 hbx b0 b1 b2 b3 b4 b5 b6
 go_enter Tryz.func128,Tryz.ntmps128
 go_wp2_with fail
 generalize w.alloc (.cells #[.int .i64 op,.int .i64 x,.int .i64 y,.int .i64 n,.int .i64 0,.int .i64 0,.int .i64 0] 130)=w1 at HX HG HB ⊢
 obtain ⟨b0,b1,b2,b3,b4,b5,b6⟩:=HB.out
 have hfz:=HG.out.frozen
 have hcount1:=HG.out.count
 obtain ⟨u0,g0⟩:=HG.out.some_ (j:=ns.length*7) (by omega)
 obtain ⟨u1,g1⟩:=HG.out.some_ (j:=ns.length*7+1) (by omega)
 obtain ⟨u2,g2⟩:=HG.out.some_ (j:=ns.length*7+2) (by omega)
 obtain ⟨u3,g3⟩:=HG.out.some_ (j:=ns.length*7+3) (by omega)
 obtain ⟨u4,g4⟩:=HG.out.some_ (j:=ns.length*7+4) (by omega)
 obtain ⟨u5,g5⟩:=HG.out.some_ (j:=ns.length*7+5) (by omega)
 obtain ⟨u6,g6⟩:=HG.out.some_ (j:=ns.length*7+6) (by omega)
 clear HB hcount
 go_region_with (fail)
 go_wp2_with fail
 go_ret
 refine ⟨rfl,Gr.drew (Gr.snoc HG.out h60 rfl fun cs hc=>?_),?_⟩
 ·have k0:=block_set hc (ns.length*7) (.int .i64 op)
  have k1:=block_set k0 (ns.length*7+1) (.int .i64 x)
  have k2:=block_set k1 (ns.length*7+2) (.int .i64 y)
  have k3:=block_set k2 (ns.length*7+3) (.int .i64 n)
  have k4:=block_set k3 (ns.length*7+4) (.int .i64 0)
  have k5:=block_set k4 (ns.length*7+5) (.int .i64 0)
  have k6:=block_set k5 (ns.length*7+6) (.int .i64 0)
  have k7:=block_set k6 427 (.int .i64 ((ns.length:Int)+1))
  exact k7
 ·exact (HX.out.trans (((((((((Turn.refl C w1).setCell _ _).setCell _ _).setCell _ _).setCell _ _).setCell _ _).setCell _ _).setCell _ _).setCell _ _)).drew
theorem lead_any (C k:Nat) (to:Int) (d:Nd) (ns:List Nd) (w:World) (hG:Gr C w ns) (hd:ns[k]?=some d) (h1:d.next.length<2) :
  Calls Tryz.prog 142 #[.pointer (some ⟨C,0,none⟩),.int .i64 k,.int .i64 to] w
   fun E w'=>E=.returned (.tuple #[])∧Gr C w' (ns.set k { d with next:=d.next++[to] })∧Turn C w w':=by
 have hle:=hG.le
 have hk:=(List.getElem?_eq_some_iff.1 hd).1
 have hways:=(hG.node hd).1
 have hfz:=hG.frozen
 have hlt:=hG.lt
 obtain ⟨u0,g0⟩:=hG.some_ (j:=k*7+4+d.next.length) (by omega)
 have HG:=Lib.hid hG
 have HD:=Lib.hid hd
 clear hG hd
 go_enter Tryz.func142,Tryz.ntmps142
 go_wp2_with fail
 go_region_with (fail)
 go_wp2_with fail
 go_end0
 refine ⟨rfl,Gr.drew (Gr.led HG.out HD.out h1 fun cs hc=>?_),?_⟩
 ·exact block_set (block_set hc (k*7+4+d.next.length) (.int .i64 to)) (k*7+6) (.int .i64 ((d.next.length:Int)+1))
 ·exact (((Turn.refl C w).setCell _ _).setCell _ _).drew
theorem set_mid {α:Type} (A:List α) (d d':α) (B:List α):(A++d :: B).set A.length d'=A++d' :: B:=by simp
theorem get_mid {α:Type} (A:List α) (d:α) (B:List α):(A++d :: B)[A.length]?=some d:=by simp
theorem leadHere_any (C k:Nat) (d:Nd) (ns:List Nd) (w:World) (hG:Gr C w ns) (hd:ns[k]?=some d) (h1:d.next.length<2) :
  Calls Tryz.prog 141 #[.pointer (some ⟨C,0,none⟩),.int .i64 k] w
   fun E w'=>E=.returned (.tuple #[])∧Gr C w' (ns.set k { d with next:=d.next++[(ns.length:Int)] })∧Turn C w w':=by
 have hcount:=hG.count
 have HG:=Lib.hid hG
 have HD:=Lib.hid hd
 clear hG hd
 go_enter Tryz.func141,Tryz.ntmps141
 go_wp2_with fail
 refine (lead_any C k ns.length d ns w HG.out HD.out h1).mono ?_
 rintro E w1 ⟨rfl,hG1,hT1⟩
 have HG1:=Lib.hid hG1
 clear hG1
 go_wp2_with fail
 go_end0
 exact ⟨rfl,HG1.out,hT1⟩
def AddPost (C:Nat) (w:World) (ns ds:List Nd) (E:Ending) (w':World):Prop:=E=.returned (.tuple #[])∧Gr C w' (ns++ds)∧Turn C w w'
theorem add_at (C k:Nat) (op x y n:Int) (ns:List Nd) (w:World) (hG:Gr C w ns) (hk:Hid (ns.length=k)) (h60:k<61) :
  Calls Tryz.prog 128 #[.pointer (some ⟨C,0,none⟩),.agg #[.int .i64 op,.int .i64 x,.int .i64 y,.int .i64 n,.int .i64 0,.int .i64 0,.int .i64 0]] w
   fun E w'=>E=.returned (.int .i64 k)∧Gr C w' (ns++[⟨op,x,y,n,[]⟩])∧Turn C w w':=by
 have:=hk.out
 subst this
 exact add_any C op x y n ns w hG h60
theorem lead_at (C k:Nat) (to:Int) (d:Nd) (A B:List Nd) (w:World) (hG:Gr C w (A++d :: B)) (hk:Hid (A.length=k)) (h1:d.next.length<2) :
  Calls Tryz.prog 142 #[.pointer (some ⟨C,0,none⟩),.int .i64 k,.int .i64 to] w
   fun E w'=>E=.returned (.tuple #[])∧Gr C w' (A++{ d with next:=d.next++[to] } :: B)∧Turn C w w':=by
 have:=hk.out
 subst this
 refine (lead_any C A.length to d _ w hG (get_mid A d B) h1).mono fun E w' h=>?_
 rw [set_mid] at h
 exact h
theorem leadHere_at (C k m:Nat) (d:Nd) (A B:List Nd) (w:World) (hG:Gr C w (A++d :: B)) (hk:Hid (A.length=k)) (hm:Hid (A.length+(B.length+1)=m)) (h1:d.next.length<2) :
  Calls Tryz.prog 141 #[.pointer (some ⟨C,0,none⟩),.int .i64 k] w
   fun E w'=>E=.returned (.tuple #[])∧Gr C w' (A++{ d with next:=d.next++[(m:Int)] } :: B)∧Turn C w w':=by
 have:=hk.out
 subst this
 have:=hm.out
 subst this
 refine (leadHere_any C A.length d _ w hG (get_mid A d B) h1).mono fun E w' h=>?_
 rw [set_mid,List.length_append,List.length_cons] at h
 exact h
theorem addStmt_simple (C:Nat) (op x y n:Int) (nt ct ne ce:Nat) (At Ae:Option Addr) (T E':List Nd) (kt ke:Nat) (ns:List Nd) (w:World) (hG:Gr C w ns) (h9:(op==9)=false) (h10:(op==10)=false) (hl:ns.length+1≤61) :
  Calls Tryz.prog 139 #[.pointer (some ⟨C,0,none⟩),.agg #[.int .i64 op,.int .i64 x,.int .i64 y,.int .i64 n,.slice At nt ct,.slice Ae ne ce]] w (AddPost C w ns (stPts op x y n ns.length kt ke T E')):=by
 have hst:Hid (stPts op x y n ns.length kt ke T E'=[⟨op,x,y,n,[((ns.length+1:Nat):Int)]⟩]):=by
  have e9:¬ op=9:=by simpa using h9
  have e10:¬ op=10:=by simpa using h10
  simp [Hid,stPts,e9,e10]
 have hT0:=(Turn.refl C w).alloc (.cells #[.int .i64 op,.int .i64 x,.int .i64 y,.int .i64 n,.slice At nt ct,.slice Ae ne ce] 121)
 have hG0:=hG.alloc (.cells #[.int .i64 op,.int .i64 x,.int .i64 y,.int .i64 n,.slice At nt ct,.slice Ae ne ce] 121)
 have HG0:=Lib.hid hG0
 clear hG0 hG
 go_enter Tryz.func139,Tryz.ntmps139
 go_wp2_with fail
 refine (add_at C ns.length op x y n ns _ HG0.out rfl (by omega)).mono ?_
 rintro E w1 ⟨rfl,hG1,hT1⟩
 have HG1:=Lib.hid hG1
 clear hG1
 go_wp2_with fail
 refine (leadHere_at C ns.length (ns.length+1) ⟨op,x,y,n,[]⟩ ns [] _ HG1.out rfl rfl (by simp)).mono ?_
 rintro E w2 ⟨rfl,hG2,hT2⟩
 have HG2:=Lib.hid hG2
 clear hG2
 go_wp2_with fail
 go_end0
 exact ⟨rfl,by rw [hst.out];exact HG2.out,hT0.trans (hT1.trans hT2)⟩
theorem addStmt_10 (C:Nat) (x y n:Int) (t e:Sts) (At Ae:Option Addr) (ct ce:Nat) (ns:List Nd) (w:World) (hG:Gr C w ns) (hl:ns.length+(2+t.npts)≤61)
  (HT:∀ ns' w',Turn C w w'→Gr C w' ns'→ns'.length+t.npts≤61→Calls Tryz.prog 127 #[.pointer (some ⟨C,0,none⟩),.slice At t.len ct] w' (AddPost C w' ns' (t.pts ns'.length))) :
  Calls Tryz.prog 139 #[.pointer (some ⟨C,0,none⟩),.agg #[.int .i64 10,.int .i64 x,.int .i64 y,.int .i64 n,.slice At t.len ct,.slice Ae e.len ce]] w
   (AddPost C w ns (stPts 10 x y n ns.length t.npts e.npts (t.pts (ns.length+1)) (e.pts (ns.length+2+t.npts)))):=by
 obtain ⟨T,hTT⟩:∃ T,T=t.pts (ns.length+1):=⟨_,rfl⟩
 obtain ⟨m,hm⟩:∃ m,m=ns.length+1+t.npts:=⟨_,rfl⟩
 have htl:T.length=t.npts:=by rw [hTT,Sts.pts_len]
 have hst:Hid (stPts 10 x y n ns.length t.npts e.npts (t.pts (ns.length+1)) (e.pts (ns.length+2+t.npts))=⟨10,0,0,0,[((ns.length+1:Nat):Int),((m+1:Nat):Int)]⟩ :: (T++[⟨10,0,0,1,[(ns.length:Int)]⟩])):=by
  unfold Hid
  rw [← hTT,hm,show ns.length+1+t.npts+1=ns.length+2+t.npts by omega]
  rfl
 have h2:ns.length+1+t.npts≤61:=by omega
 have h3:m<61:=by omega
 have HA:Hid ((ns++⟨10,0,0,0,[((ns.length+1:Nat):Int)]⟩ :: T).length=m):=by unfold Hid;simp;omega
 have HM:Hid (ns.length+((T++[(⟨10,0,0,1,[(ns.length:Int)]⟩:Nd)]).length+1)=m+1):=by unfold Hid;simp;omega
 have HTT:=Lib.hid hTT
 clear hTT hm htl
 have hT0:=(Turn.refl C w).alloc (.cells #[.int .i64 10,.int .i64 x,.int .i64 y,.int .i64 n,.slice At t.len ct,.slice Ae e.len ce] 121)
 have hG0:=hG.alloc (.cells #[.int .i64 10,.int .i64 x,.int .i64 y,.int .i64 n,.slice At t.len ct,.slice Ae e.len ce] 121)
 have hz0:(w.alloc (.cells #[.int .i64 10,.int .i64 x,.int .i64 y,.int .i64 n,.slice At t.len ct,.slice Ae e.len ce] 121)).heap.size=w.heap.size+1:=by simp
 have hB0:=heap_alloc_new w (.cells #[.int .i64 10,.int .i64 x,.int .i64 y,.int .i64 n,.slice At t.len ct,.slice Ae e.len ce] 121)
 have hCw:=hG.lt
 have HG0:=Lib.hid hG0
 have HB0:=Lib.hid hB0
 have HZ0:=Lib.hid hz0
 clear hG0 hG hB0 hz0
 go_enter Tryz.func139,Tryz.ntmps139
 go_wp2_with fail
 refine (add_at C ns.length 10 0 0 0 ns _ HG0.out rfl (by omega)).mono ?_
 rintro E w1 ⟨rfl,hG1,hT1⟩
 have HG1:=Lib.hid hG1
 clear hG1
 go_wp2_with fail
 refine (leadHere_at C ns.length (ns.length+1) ⟨10,0,0,0,[]⟩ ns [] _ HG1.out rfl rfl (by simp)).mono ?_
 rintro E w2 ⟨rfl,hG2,hT2⟩
 have HG2:=Lib.hid hG2
 have hTa:=hT1.trans hT2
 have hs2:=hTa.size
 rw [HZ0.out] at hs2
 have HB2:=Lib.hid ((hTa.block w.heap.size (by rw [HZ0.out];omega) (by omega)).trans HB0.out)
 have hTb:=hT0.trans hTa
 have c4:w2.cell? ⟨w.heap.size,4,none⟩=some (.slice At t.len ct):=(cB HB2.out 4).trans rfl
 clear hG2 hT1 hT2 hTa hT0 HG0 HG1
 go_wp2_with fail
 refine (HT _ _ hTb HG2.out (by simp;omega)).mono ?_
 rintro E w3 ⟨rfl,hG3,hT3⟩
 have HG3:Hid (Gr C w3 (ns++⟨10,0,0,0,[((ns.length+1:Nat):Int)]⟩ :: T)):=by
  unfold Hid
  rw [HTT.out]
  have hln:(ns++[(⟨10,0,0,0,[]++[((ns.length+1:Nat):Int)]⟩:Nd)]).length=ns.length+1:=by simp
  have:=hG3
  rw [hln,List.append_assoc] at this
  exact this
 have hTc:=hTb.trans hT3
 clear hG3 hT3 hTb c4 HG2
 go_wp2_with fail
 refine (add_at C m 10 0 0 1 _ _ HG3.out HA h3).mono ?_
 rintro E w4 ⟨rfl,hG4,hT4⟩
 have HG4:=Lib.hid hG4
 have hTd:=hTc.trans hT4
 clear hG4 hT4 hTc
 go_wp2_with fail
 refine (lead_at C m ns.length ⟨10,0,0,1,[]⟩ (ns++⟨10,0,0,0,[((ns.length+1:Nat):Int)]⟩ :: T) [] _ HG4.out HA (by simp)).mono ?_
 rintro E w5 ⟨rfl,hG5,hT5⟩
 have HG5:Hid (Gr C w5 (ns++⟨10,0,0,0,[((ns.length+1:Nat):Int)]⟩ :: (T++[⟨10,0,0,1,[(ns.length:Int)]⟩]))):=by
  unfold Hid
  have:=hG5
  rw [List.append_assoc,List.cons_append] at this
  exact this
 have hTe:=hTd.trans hT5
 clear hG5 hT5 hTd
 go_wp2_with fail
 refine (leadHere_at C ns.length (m+1) ⟨10,0,0,0,[((ns.length+1:Nat):Int)]⟩ ns (T++[⟨10,0,0,1,[(ns.length:Int)]⟩]) _ HG5.out rfl HM (by simp)).mono ?_
 rintro E w6 ⟨rfl,hG6,hT6⟩
 have HG6:=Lib.hid hG6
 clear hG6
 go_wp2_with fail
 go_end0
 exact ⟨rfl,by rw [hst.out];exact HG6.out,hTe.trans hT6⟩
theorem addStmt_9 (C:Nat) (x y n:Int) (t e:Sts) (At Ae:Option Addr) (ct ce:Nat) (ns:List Nd) (w:World) (hG:Gr C w ns) (hl:ns.length+(2+t.npts+e.npts)≤61)
  (HT:∀ ns' w',Turn C w w'→Gr C w' ns'→ns'.length+t.npts≤61→Calls Tryz.prog 127 #[.pointer (some ⟨C,0,none⟩),.slice At t.len ct] w' (AddPost C w' ns' (t.pts ns'.length)))
  (HE:∀ ns' w',Turn C w w'→Gr C w' ns'→ns'.length+e.npts≤61→Calls Tryz.prog 127 #[.pointer (some ⟨C,0,none⟩),.slice Ae e.len ce] w' (AddPost C w' ns' (e.pts ns'.length))) :
  Calls Tryz.prog 139 #[.pointer (some ⟨C,0,none⟩),.agg #[.int .i64 9,.int .i64 x,.int .i64 y,.int .i64 n,.slice At t.len ct,.slice Ae e.len ce]] w
   (AddPost C w ns (stPts 9 x y n ns.length t.npts e.npts (t.pts (ns.length+1)) (e.pts (ns.length+2+t.npts)))):=by
 obtain ⟨T,hTT⟩:∃ T,T=t.pts (ns.length+1):=⟨_,rfl⟩
 obtain ⟨L,hLL⟩:∃ L,L=e.pts (ns.length+2+t.npts):=⟨_,rfl⟩
 obtain ⟨m,hm⟩:∃ m,m=ns.length+1+t.npts:=⟨_,rfl⟩
 obtain ⟨q,hq⟩:∃ q,q=ns.length+2+t.npts+e.npts:=⟨_,rfl⟩
 have htl:T.length=t.npts:=by rw [hTT,Sts.pts_len]
 have hll:L.length=e.npts:=by rw [hLL,Sts.pts_len]
 have hst:Hid (stPts 9 x y n ns.length t.npts e.npts (t.pts (ns.length+1)) (e.pts (ns.length+2+t.npts))=⟨9,0,0,0,[((ns.length+1:Nat):Int),((m+1:Nat):Int)]⟩ :: (T++⟨10,0,0,1,[(q:Int)]⟩ :: L)):=by
  unfold Hid
  rw [← hTT,← hLL,hm,hq,show ns.length+1+t.npts+1=ns.length+2+t.npts by omega]
  rfl
 have h3:m<61:=by omega
 have h4:m+1+e.npts≤61:=by omega
 have HA:Hid ((ns++⟨9,0,0,0,[((ns.length+1:Nat):Int)]⟩ :: T).length=m):=by unfold Hid;simp;omega
 have HA2:Hid ((ns++⟨9,0,0,0,[((ns.length+1:Nat):Int),((m+1:Nat):Int)]⟩ :: T).length=m):=by unfold Hid;simp;omega
 have HM:Hid (ns.length+((T++[(⟨10,0,0,1,[]⟩:Nd)]).length+1)=m+1):=by unfold Hid;simp;omega
 have HQ:Hid ((ns++⟨9,0,0,0,[((ns.length+1:Nat):Int),((m+1:Nat):Int)]⟩ :: T).length+(L.length+1)=q):=by unfold Hid;simp;omega
 have HMM:Hid (m=ns.length+1+t.npts):=hm
 have HTT:=Lib.hid hTT
 have HLL:=Lib.hid hLL
 clear hTT hLL hm hq htl hll
 have hT0:=(Turn.refl C w).alloc (.cells #[.int .i64 9,.int .i64 x,.int .i64 y,.int .i64 n,.slice At t.len ct,.slice Ae e.len ce] 121)
 have hG0:=hG.alloc (.cells #[.int .i64 9,.int .i64 x,.int .i64 y,.int .i64 n,.slice At t.len ct,.slice Ae e.len ce] 121)
 have hz0:(w.alloc (.cells #[.int .i64 9,.int .i64 x,.int .i64 y,.int .i64 n,.slice At t.len ct,.slice Ae e.len ce] 121)).heap.size=w.heap.size+1:=by simp
 have hB0:=heap_alloc_new w (.cells #[.int .i64 9,.int .i64 x,.int .i64 y,.int .i64 n,.slice At t.len ct,.slice Ae e.len ce] 121)
 have hCw:=hG.lt
 have HG0:=Lib.hid hG0
 have HB0:=Lib.hid hB0
 have HZ0:=Lib.hid hz0
 clear hG0 hG hB0 hz0
 go_enter Tryz.func139,Tryz.ntmps139
 go_wp2_with fail
 refine (add_at C ns.length 9 0 0 0 ns _ HG0.out rfl (by omega)).mono ?_
 rintro E w1 ⟨rfl,hG1,hT1⟩
 have HG1:=Lib.hid hG1
 clear hG1
 go_wp2_with fail
 refine (leadHere_at C ns.length (ns.length+1) ⟨9,0,0,0,[]⟩ ns [] _ HG1.out rfl rfl (by simp)).mono ?_
 rintro E w2 ⟨rfl,hG2,hT2⟩
 have HG2:=Lib.hid hG2
 have hTa:=hT1.trans hT2
 have hs2:=hTa.size
 rw [HZ0.out] at hs2
 have HB2:=Lib.hid ((hTa.block w.heap.size (by rw [HZ0.out];omega) (by omega)).trans HB0.out)
 have hTb:=hT0.trans hTa
 have c4:w2.cell? ⟨w.heap.size,4,none⟩=some (.slice At t.len ct):=(cB HB2.out 4).trans rfl
 clear hG2 hT1 hT2 hTa hT0 HG0 HG1
 go_wp2_with fail
 refine (HT _ _ hTb HG2.out (by simp;omega)).mono ?_
 rintro E w3 ⟨rfl,hG3,hT3⟩
 have HG3:Hid (Gr C w3 (ns++⟨9,0,0,0,[((ns.length+1:Nat):Int)]⟩ :: T)):=by
  unfold Hid
  rw [HTT.out]
  have hln:(ns++[(⟨9,0,0,0,[]++[((ns.length+1:Nat):Int)]⟩:Nd)]).length=ns.length+1:=by simp
  have:=hG3
  rw [hln,List.append_assoc] at this
  exact this
 have hs3:=hT3.size
 have HB3:=Lib.hid ((hT3.block w.heap.size (by omega) (by omega)).trans HB2.out)
 have hTc:=hTb.trans hT3
 clear hG3 hT3 hTb c4 HG2 HB2
 go_wp2_with fail
 refine (add_at C m 10 0 0 1 _ _ HG3.out HA h3).mono ?_
 rintro E w4 ⟨rfl,hG4,hT4⟩
 have HG4:Hid (Gr C w4 (ns++⟨9,0,0,0,[((ns.length+1:Nat):Int)]⟩ :: (T++[⟨10,0,0,1,[]⟩]))):=by
  unfold Hid
  have:=hG4
  rw [List.append_assoc,List.cons_append] at this
  exact this
 have hs4:=hT4.size
 have HB4:=Lib.hid ((hT4.block w.heap.size (by omega) (by omega)).trans HB3.out)
 have hTd:=hTc.trans hT4
 clear hG4 hT4 hTc HB3
 go_wp2_with fail
 refine (leadHere_at C ns.length (m+1) ⟨9,0,0,0,[((ns.length+1:Nat):Int)]⟩ ns (T++[⟨10,0,0,1,[]⟩]) _ HG4.out rfl HM (by simp)).mono ?_
 rintro E w5 ⟨rfl,hG5,hT5⟩
 have HG5:Hid (Gr C w5 ((ns++⟨9,0,0,0,[((ns.length+1:Nat):Int),((m+1:Nat):Int)]⟩ :: T)++[⟨10,0,0,1,[]⟩])):=by
  unfold Hid
  rw [List.append_assoc,List.cons_append]
  exact hG5
 have hs5:=hT5.size
 have HB5:=Lib.hid ((hT5.block w.heap.size (by omega) (by omega)).trans HB4.out)
 have c5:w5.cell? ⟨w.heap.size,5,none⟩=some (.slice Ae e.len ce):=(cB HB5.out 5).trans rfl
 have hTe:=hTd.trans hT5
 have HL5:Hid (((ns++⟨9,0,0,0,[((ns.length+1:Nat):Int),((m+1:Nat):Int)]⟩ :: T)++[(⟨10,0,0,1,[]⟩:Nd)]).length=m+1):=by
  unfold Hid
  rw [List.length_append,HA2.out]
  rfl
 clear hG5 hT5 hTd HB4 HB5
 go_wp2_with fail
 refine (HE _ _ hTe HG5.out (by rw [HL5.out];exact h4)).mono ?_
 rintro E w6 ⟨rfl,hG6,hT6⟩
 have HG6:Hid (Gr C w6 ((ns++⟨9,0,0,0,[((ns.length+1:Nat):Int),((m+1:Nat):Int)]⟩ :: T)++⟨10,0,0,1,[]⟩ :: L)):=by
  unfold Hid
  have:=hG6
  rw [HL5.out,List.append_assoc,show m+1=ns.length+2+t.npts by have:=HMM.out;omega,← HLL.out] at this
  have h5:((ns.length+2+t.npts:Nat):Int)=((m+1:Nat):Int):=by have:=HMM.out;omega
  rw [← h5]
  exact this
 have hTf:=hTe.trans hT6
 clear hG6 hT6 hTe c5
 go_wp2_with fail
 refine (leadHere_at C m q ⟨10,0,0,1,[]⟩ _ L _ HG6.out HA2 HQ (by simp)).mono ?_
 rintro E w7 ⟨rfl,hG7,hT7⟩
 have HG7:=Lib.hid hG7
 clear hG7
 go_wp2_with fail
 go_end0
 refine ⟨rfl,?_,hTf.trans hT7⟩
 rw [hst.out]
 have:=HG7.out
 rw [List.append_assoc,List.cons_append] at this
 exact this
theorem addStmt_of (C:Nat) (op x y n:Int) (t e:Sts) (At Ae:Option Addr) (ct ce:Nat) (ns:List Nd) (w:World) (hG:Gr C w ns) (hl:ns.length+stN op t.npts e.npts≤61)
  (HT:∀ ns' w',Turn C w w'→Gr C w' ns'→ns'.length+t.npts≤61→Calls Tryz.prog 127 #[.pointer (some ⟨C,0,none⟩),.slice At t.len ct] w' (AddPost C w' ns' (t.pts ns'.length)))
  (HE:∀ ns' w',Turn C w w'→Gr C w' ns'→ns'.length+e.npts≤61→Calls Tryz.prog 127 #[.pointer (some ⟨C,0,none⟩),.slice Ae e.len ce] w' (AddPost C w' ns' (e.pts ns'.length))) :
  Calls Tryz.prog 139 #[.pointer (some ⟨C,0,none⟩),.agg #[.int .i64 op,.int .i64 x,.int .i64 y,.int .i64 n,.slice At t.len ct,.slice Ae e.len ce]] w
   (AddPost C w ns (stPts op x y n ns.length t.npts e.npts (t.pts (ns.length+1)) (e.pts (ns.length+2+t.npts)))):=by
 by_cases h9:op=9
 ·subst h9
  exact addStmt_9 C x y n t e At Ae ct ce ns w hG (by simpa [stN] using hl) HT HE
 ·by_cases h10:op=10
  ·subst h10
   exact addStmt_10 C x y n t e At Ae ct ce ns w hG (by simpa [stN] using hl) HT
  ·exact addStmt_simple C op x y n t.len ct e.len ce At Ae _ _ _ _ ns w hG (by simpa using h9) (by simpa using h10) (by simpa [stN,h9,h10] using hl)
theorem Sts.pts_drop (s:Sts) (k:Nat) (op x y n:Int) (t e r:Sts) (cur:List Nd) (h:s.drop k=.cons op x y n t e r) :
  cur++(s.drop k).pts cur.length=(cur++stPts op x y n cur.length t.npts e.npts (t.pts (cur.length+1)) (e.pts (cur.length+2+t.npts)))++r.pts (cur++stPts op x y n cur.length t.npts e.npts (t.pts (cur.length+1)) (e.pts (cur.length+2+t.npts))).length:=by
 rw [h,Sts.pts_cons,List.length_append,stPts_len _ _ _ _ _ _ _ _ _ (t.pts_len _) (e.pts_len _),List.append_assoc]
theorem addList_any (N C:Nat):∀ (s:Sts) (A:Option Addr) (c:Nat) (ns:List Nd) (w:World),s.size<N→s.size≤1000000→RepV w 0 C s A c→Gr C w ns→ns.length+s.npts≤61 →
  Calls Tryz.prog 127 #[.pointer (some ⟨C,0,none⟩),.slice A s.len c] w (AddPost C w ns (s.pts ns.length)):=by
 induction N with
 | zero=>intro s A c ns w h;omega
 | succ N ih =>
  intro s A c ns w hN hsz hR hG hl
  have hm:=hR.2.1
  have hlc:=hR.1
  have hls:=s.len_le_size
  unfold maxLen at hm
  have HG:=Lib.hid hG
  have hCw0:=hG.lt
  have hT0:=Turn.refl C w
  have HL:Hid ((ns++s.pts ns.length).length≤61):=by unfold Hid;rw [List.length_append,Sts.pts_len];exact hl
  clear hG
  go_enter Tryz.func127,Tryz.ntmps127
  go_wp2_with fail
  go_loopw [8] (fun i wr=>∃ (k:Nat) (cur:List Nd),k≤s.len∧i=.int .i64 k∧Turn C w wr∧Hid (Gr C wr cur)∧Hid (ns++s.pts ns.length=cur++(s.drop k).pts cur.length)) (fun i _=>s.len-(intOf i).toNat)
  case atStart=>exact ⟨0,ns,Nat.zero_le _,rfl,hT0,HG,rfl⟩
  case round =>
   obtain ⟨k,cur,hk,rfl,hT,hGc,hpt⟩:=hrel
   clear hT0 HG
   have hCw:=hGc.out.lt
   by_cases hlt:k<s.len
   ·have hR1:RepV wr 0 C s A c:=hR.keep (Nat.le_refl _) (Nat.le_refl _) fun p _ hp=>hT.cellAt (by omega) (by omega)
    obtain ⟨b,op,x,y,n,t,e,rfl,-,hbb,hdr,At,ct,Ae,ce,⟨h0,h1,h2,h3,h4,h5⟩,hRt,hRe⟩:=hR1.elem hlt
    have hz:=RepV.drop_sizes hdr
    have hpd:=Sts.pts_drop s k op x y n t e _ cur hdr
    have hlen:cur.length+stN op t.npts e.npts≤61:=by
     have h1:=HL.out
     rw [hpt.out,hpd,List.length_append,List.length_append,stPts_len _ _ _ _ _ _ _ _ _ (t.pts_len _) (e.pts_len _)] at h1
     omega
    have hpt2:Hid (ns++s.pts ns.length=(cur++stPts op x y n cur.length t.npts e.npts (t.pts (cur.length+1)) (e.pts (cur.length+2+t.npts)))++(s.drop (k+1)).pts (cur++stPts op x y n cur.length t.npts e.npts (t.pts (cur.length+1)) (e.pts (cur.length+2+t.npts))).length):=by
     unfold Hid
     rw [hpt.out,hpd]
    have hTA:=(Turn.refl C wr).alloc (.cells #[.int .i64 op,.int .i64 x,.int .i64 y,.int .i64 n,.slice At t.len ct,.slice Ae e.len ce] 121)
    have hA:=addStmt_of C op x y n t e At Ae ct ce cur _ (hGc.out.alloc (.cells #[.int .i64 op,.int .i64 x,.int .i64 y,.int .i64 n,.slice At t.len ct,.slice Ae e.len ce] 121)) hlen
     (fun ns' w' hT' hG' hl'=>ih t At ct ns' w' (by omega) (by omega) (hRt.keep (Nat.le_refl _) (Nat.le_refl _) fun p _ hp=>(hTA.trans hT').cellAt (by omega) (by omega)) hG' hl')
     (fun ns' w' hT' hG' hl'=>ih e Ae ce ns' w' (by omega) (by omega) (hRe.keep (Nat.le_refl _) (Nat.le_refl _) fun p _ hp=>(hTA.trans hT').cellAt (by omega) (by omega)) hG' hl')
    clear hpt hpd hdr hR1 hRt hRe hlen
    generalize stPts op x y n cur.length t.npts e.npts (t.pts (cur.length+1)) (e.pts (cur.length+2+t.npts))=ds at hpt2 hA
    go_wp2_with fail
    refine hA.mono ?_
    rintro E w1 ⟨rfl,hG1,hT1⟩
    have HG1:=Lib.hid hG1
    clear hG1
    go_wp2_with fail
    go_roundw
    case rel=>exact ⟨k+1,cur++ds,by omega,by go_num,hT.trans (hTA.trans hT1),HG1,hpt2⟩
    case measure=>simp [intOf];omega
   ·have hk':k=s.len:=by omega
    subst hk'
    have hfin:Hid (ns++s.pts ns.length=cur):=by
     unfold Hid
     rw [hpt.out,s.drop_len]
     simp [Sts.pts]
    clear hpt
    go_wp2_with fail
    go_end0
    exact ⟨rfl,by rw [hfin.out];exact hGc.out,hT⟩
end Go.Proofs.YtedkkphogeealaaGreatDoor
