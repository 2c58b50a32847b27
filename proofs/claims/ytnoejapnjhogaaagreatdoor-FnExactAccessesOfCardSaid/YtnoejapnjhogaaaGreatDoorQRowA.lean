/- Rows of access values: owned,read,compared,written over and read again. -/
import Derived.Test.YtnoejapnjhogaaaGreatDoorQMem
import Derived.Test.YtnoejapnjhogaaaGreatDoorQAnsG
import Derived.Test.YtnoejapnjhogaaaGreatDoorQMarks
import Derived.StillTailTactics
import Derived.Deep.MidRow
namespace Go.Proofs.YtnoejapnjhogaaaGreatDoor
open Go.RowKit Go.Deep
set_option linter.unusedVariables false
set_option maxHeartbeats 1000000 in
theorem eqAccess_any (d:AccD) (w:World):Calls Tryz.prog 62 #[.agg #[.int .i64 d.v,.bool d.u],.agg #[.int .i64 d.v,.bool d.u]] w fun e w'=>e=.returned (.bool true)∧Below w.heap.size w w':=by
 have hbw:∀ o1 o2:Obj,Below w.heap.size w ((w.alloc o1).alloc o2):=fun o1 o2=>((Below.refl w.heap.size w).alloc (Nat.le_refl _) o1).alloc (by simp) o2
 have hbw1:∀ o1:Obj,Below w.heap.size w (w.alloc o1):=fun o1=>(Below.refl w.heap.size w).alloc (Nat.le_refl _) o1
 go_enter Tryz.func62,Tryz.ntmps62
 go_wp2_with fail
 go_ret
 exact ⟨rfl,by first | exact hbw _ _ | exact hbw1 _ | exact Below.refl _ _⟩
set_option maxRecDepth 100000 in
set_option maxHeartbeats 2000000 in
theorem eqAccessS_any (ns:List AccD) (v v':Value) (w:World) (hn:ns.length≤10000000) (h:RdA w v ns) (h':RdA w v' ns) :
  Calls Tryz.prog 32 #[v,v'] w fun e w'=>e=.returned (.bool true)∧Below w.heap.size w w':=by
 obtain ⟨A,c,hv,hc1,hc2,-⟩:=id h
 obtain ⟨A',c',hv',hc1',hc2',-⟩:=id h'
 obtain ⟨q,hq⟩:∃ q,q=ns.length:=⟨_,rfl⟩
 rw [← hq] at hv hv' hc1 hc1' hn
 subst hv hv'
 unfold maxLen at hc2 hc2'
 have HN:=Lib.hid hq
 have H:=Lib.hid h
 have H':=Lib.hid h'
 clear hq h h'
 go_enter Tryz.func32,Tryz.ntmps32
 go_wp2_with fail
 go_loopw [5] (fun i wr=>∃ k:Nat,k≤q∧i=.int .i64 k∧Below w.heap.size w wr) (fun i _=>q-(intOf i).toNat)
 case atStart=>exact ⟨0,Nat.zero_le _,rfl,Below.refl _ _⟩
 case round =>
  obtain ⟨k,hk,rfl,hb⟩:=hrel
  by_cases hlt:k<q
  ·have hkd:k<ns.length:=by rw [← HN.out];exact hlt
   obtain ⟨A1,c1,e1,-,-,h4⟩:=H.out.below hb
   obtain ⟨A2,c2,e2,-,-,h4'⟩:=H'.out.below hb
   injection e1 with e1 e1m e1'
   subst e1 e1'
   injection e2 with e2 e2m e2'
   subst e2 e2'
   obtain ⟨g,rfl,hg,hc⟩:=h4 (by omega)
   obtain ⟨g',rfl,hg',hc'⟩:=h4' (by omega)
   obtain ⟨d,hd⟩:∃ d,ns[k]?=some d:=⟨ns[k],List.getElem?_eq_getElem hkd⟩
   have hcd:=hc k d hd
   have hcd':=hc' k d hd
   clear hd hc hc'
   obtain ⟨x0,x1⟩:=d
   obtain ⟨a0,a1⟩:=hcd
   obtain ⟨b0,b1⟩:=hcd'
   dsimp only at a0 b0 a1 b1
   clear h4 h4' e1m e2m
   go_wp2_with fail
   go_still_tail 8,(by kernel_rfl)
   change wpList _ _ _ _ _ wr.drew
   have hbd:Below w.heap.size w wr.drew:=hb.drew
   have hE:=eqAccess_any ⟨x0,x1⟩ wr.drew
   dsimp only at hE
   have hbz:=hbd.size
   clear hb a0 b0 a1 b1
   generalize wr.drew=w2 at *
   go_wp2_with fail
   refine hE.mono ?_
   rintro E w3 ⟨rfl,hb3⟩
   go_wp2_with fail
   go_roundw
   case rel=>exact ⟨k+1,by omega,by go_num,hbd.trans (hb3.mono hbz)⟩
   case measure=>simp [intOf];omega
  ·have hk':k=q:=by omega
   subst hk'
   go_wp2_with fail
   go_ret
   exact ⟨rfl,hb⟩
def b3A (z:Int):Bool:=z % 3==0
def MkA (w:World) (g n:Nat) (k:Int):Prop:=∀ j:Nat,j<n→w.cell? ⟨g,j*2,none⟩=some (.int .i64 (k+2*j+0))∧w.cell? ⟨g,j*2+1,none⟩=some (.bool (b3A (k+2*j+1)))
theorem markAccessS_nil (A:Option Addr) (c:Nat) (k:Int) (w:World):Calls Tryz.prog 33 #[.slice A 0 c,.int .i64 k] w fun E w'=>E=.returned (.int .i64 k)∧w=w':=by
 go_enter Tryz.func33,Tryz.ntmps33
 go_wp2_with fail
 go_loop [1,5] (fun q i=>q=.int .i64 k∧i=.int .i64 0) (fun _ _=>0)
 case atStart=>exact ⟨rfl,rfl⟩
 case round =>
  obtain ⟨rfl,rfl⟩:=hrel
  go_wp2_with fail
  go_ret
  exact ⟨rfl,rfl⟩
theorem heldAccessS_nil (A:Option Addr) (c:Nat) (k:Int) (w:World):Calls Tryz.prog 34 #[.slice A 0 c,.int .i64 k] w fun E w'=>E=.returned (.int .i64 k)∧w=w':=by
 go_enter Tryz.func34,Tryz.ntmps34
 go_wp2_with fail
 go_loop [1,5] (fun q i=>q=.int .i64 k∧i=.int .i64 0) (fun _ _=>0)
 case atStart=>exact ⟨rfl,rfl⟩
 case round =>
  obtain ⟨rfl,rfl⟩:=hrel
  go_wp2_with fail
  go_ret
  exact ⟨rfl,rfl⟩
theorem isSome_setA (a:World) (g o o':Nat) (x:Value) (h:(a.cell? ⟨g,o',none⟩).isSome=true):((a.setCell ⟨g,o,none⟩ x).cell? ⟨g,o',none⟩).isSome=true :=
 World.isSome_setCells g [x] o a ⟨g,o',none⟩ h
structure OneA (g:Nat) (w w':World):Prop where
 os:w'.os=w.os
 tape:w'.tape=w.tape
 output:w'.output=w.output
 size:w'.heap.size=w.heap.size
 block:∀ k,k≠g→w'.heap[k]?=w.heap[k]?
 frozen:∀ p:Addr,w'.frozen? p=w.frozen? p
theorem OneA.refl (g:Nat) (w:World):OneA g w w:=⟨rfl,rfl,rfl,rfl,fun _ _=>rfl,fun _=>rfl⟩
theorem OneA.set {g:Nat} {a b:World} (h:OneA g a b) (o:Nat) (x:Value):OneA g a (b.setCell ⟨g,o,none⟩ x) :=
 ⟨h.os,h.tape,h.output,by rw [← h.size];simp [World.setCell],fun k hk=>(heap_setCell_other _ _ _ _ (fun e=>hk e)).trans (h.block k hk),fun p=>by rw [World.frozen?_setCell];exact h.frozen p⟩
set_option maxRecDepth 100000 in
set_option maxHeartbeats 4000000 in
theorem markAccessS_row (n c g:Nat) (k:Int) (w:World) (hn:n≤c) (hn2:n≤1000) (hc:c≤maxLen) (hk:0≤k) (hk2:k≤1000) (hcell:∀ o,o<n*2→∃ v,w.cell? ⟨g,o,none⟩=some v) (hf:∀ o,w.frozen? ⟨g,o,none⟩=false) :
  Calls Tryz.prog 33 #[.slice (some ⟨g,0,none⟩) n c,.int .i64 k] w fun E w'=>E=.returned (.int .i64 (k+2*n))∧OneA g w w'∧MkA w' g n k:=by
 unfold maxLen at hc
 have HC:=Lib.hid hcell
 clear hcell
 go_enter Tryz.func33,Tryz.ntmps33
 go_wp2_with fail
 go_loopw [1,5] (fun q i wr=>∃ j:Nat,j≤n∧i=.int .i64 j∧q=.int .i64 (k+2*j)∧Hid (OneA g w wr)∧Hid (∀ o,o<n*2→∃ v,wr.cell? ⟨g,o,none⟩=some v)∧Hid (MkA wr g j k)) (fun _ i _=>n-(intOf i).toNat)
 case atStart=>exact ⟨0,Nat.zero_le _,rfl,by simp,OneA.refl _ _,HC,fun i hi=>absurd hi (by omega)⟩
 case round =>
  clear HC
  obtain ⟨j,hj,rfl,rfl,hO,HC,hmk⟩:=hrel
  by_cases hlt:j<n
  ·obtain ⟨v0,h0⟩:=HC.out (j*2) (by omega)
   obtain ⟨v1,h1⟩:=HC.out (j*2+1) (by omega)
   have hfr:∀ o,wr.frozen? ⟨g,o,none⟩=false:=fun o=>(hO.out.frozen _).trans (hf o)
   have hfr0:=hfr (j*2)
   have hfr1:=hfr (j*2+1)
   have hz:∀ x:Int,k+2*((j:Nat):Int)=x→x<10000∧0≤x:=fun x hx=>by omega
   have hO2:Hid (OneA g w ((wr.setCell ⟨g,j*2,none⟩ (.int .i64 (k+2*j))).setCell ⟨g,j*2+1,none⟩ (.bool (b3A (k+2*j+1))))):=((hO.out.set (j*2) (.int .i64 (k+2*j))).set (j*2+1) (.bool (b3A (k+2*j+1))))
   have HC2:Hid (∀ o,o<n*2→∃ v,((wr.setCell ⟨g,j*2,none⟩ (.int .i64 (k+2*j))).setCell ⟨g,j*2+1,none⟩ (.bool (b3A (k+2*j+1)))).cell? ⟨g,o,none⟩=some v):=fun o ho=>by
    obtain ⟨v,hv⟩:=HC.out o ho
    have i0:(wr.cell? ⟨g,o,none⟩).isSome=true:=by rw [hv];rfl
    have i1:=isSome_setA wr g (j*2) o (.int .i64 (k+2*j)) i0
    have i2:=isSome_setA (wr.setCell ⟨g,j*2,none⟩ (.int .i64 (k+2*j))) g (j*2+1) o (.bool (b3A (k+2*j+1))) i1
    exact Option.isSome_iff_exists.mp i2
   have hmk2:Hid (MkA ((wr.setCell ⟨g,j*2,none⟩ (.int .i64 (k+2*j))).setCell ⟨g,j*2+1,none⟩ (.bool (b3A (k+2*j+1)))) g (j+1) k):=by
    intro i hi
    have e:∀ (o o':Nat) (x:Value) (a:World),o≠o'→(a.setCell ⟨g,o,none⟩ x).cell? ⟨g,o',none⟩=a.cell? ⟨g,o',none⟩:=fun o o' x a h=>World.cell?_setCell_other _ _ _ _ (fun e=>by injection e with _ e;exact h e)
    by_cases hij:i=j
    ·subst hij
     refine ⟨?_,?_⟩
     ·rw [e _ _ _ _ (by omega)];rw [World.cell?_setCell_same _ _ _ (u:=v0) (by exact h0)];try simp;try omega
     · rw [World.cell?_setCell_same _ _ _ (u:=v1) (by rw [e _ _ _ _ (by omega)];exact h1)];try simp;try omega
    ·have hm:=hmk.out i (by omega)
     refine ⟨?_,?_⟩
     ·rw [e _ _ _ _ (by omega)];rw [e _ _ _ _ (by omega)];exact hm.1
     ·rw [e _ _ _ _ (by omega)];rw [e _ _ _ _ (by omega)];exact hm.2
   unfold b3A at hO2 HC2 hmk2
   clear hmk HC hf hfr hO
   go_wp2_with fail
   go_roundw
   case rel=>exact ⟨j+1,by omega,by go_num,by first | go_num | (congr 1;omega),hO2,HC2,hmk2⟩
   case measure=>simp [intOf];omega
  ·have hjn:j=n:=by omega
   subst hjn
   go_wp2_with fail
   go_ret
   exact ⟨rfl,hO.out,hmk.out⟩
set_option maxRecDepth 100000 in
set_option maxHeartbeats 4000000 in
theorem heldAccessS_row (n c g:Nat) (k:Int) (w:World) (hn:n≤c) (hn2:n≤1000) (hc:c≤maxLen) (hk:0≤k) (hk2:k≤1000) (hgl:g<w.heap.size) (hcell:MkA w g n k) :
  Calls Tryz.prog 34 #[.slice (some ⟨g,0,none⟩) n c,.int .i64 k] w fun E w'=>E=.returned (.int .i64 (k+2*n))∧Below w.heap.size w w':=by
 unfold maxLen at hc
 have HC:=Lib.hid hcell
 clear hcell
 go_enter Tryz.func34,Tryz.ntmps34
 go_wp2_with fail
 go_loopw [1,5] (fun q i wr=>∃ j:Nat,j≤n∧i=.int .i64 j∧q=.int .i64 (k+2*j)∧Hid (Below w.heap.size w wr)) (fun _ i _=>n-(intOf i).toNat)
 case atStart=>exact ⟨0,Nat.zero_le _,rfl,by simp,Below.refl _ _⟩
 case round =>
  obtain ⟨j,hj,rfl,rfl,HB⟩:=hrel
  by_cases hlt:j<n
  ·have hm:=HC.out j hlt
   unfold b3A at hm
   obtain ⟨h0,h1⟩:=hm
   have h0:=(HB.out.cell (p:=⟨g,j*2,none⟩) hgl).trans h0
   have h1:=(HB.out.cell (p:=⟨g,j*2+1,none⟩) hgl).trans h1
   go_wp2_with fail
   go_roundw
   case rel=>exact ⟨j+1,by omega,by go_num,by first | go_num | (congr 1;omega),HB⟩
   case measure=>simp [intOf];omega
  ·have hjn:j=n:=by omega
   subst hjn
   go_wp2_with fail
   go_ret
   exact ⟨rfl,HB.out⟩
def MarkedA (w:World) (v:Value) (n:Nat) (k:Int):Prop :=
 (n=0∧∃ A c,v=.slice A 0 c)∨∃ g c,v=.slice (some ⟨g,0,none⟩) n c∧n≤c∧c≤maxLen∧g<w.heap.size∧MkA w g n k
theorem MarkedA.below {w w':World} {v:Value} {n:Nat} {k:Int} (h:MarkedA w v n k) (hb:Below w.heap.size w w'):MarkedA w' v n k:=by
 rcases h with h | ⟨g,c,h1,h2,h3,h4,h5⟩
 ·exact .inl h
 ·refine .inr ⟨g,c,h1,h2,h3,Nat.lt_of_lt_of_le h4 hb.size,fun j hj=>?_⟩
  have hc:=h5 j hj
  exact ⟨(hb.cell h4).trans hc.1,(hb.cell h4).trans hc.2⟩
theorem markAccessS_val (B:Nat) (v:Value) (l:List AccD) (k:Int) (w:World) (h:RowA w B v l) (hn:l.length≤1000) (hk:0≤k) (hk2:k≤1000) :
  Calls Tryz.prog 33 #[v,.int .i64 k] w fun E w'=>E=.returned (.int .i64 (k+2*l.length))∧MarkedA w' v l.length k∧Below B w w':=by
 rcases h.2 with ⟨hv,h0⟩ | ⟨g,cap,cur,hv,h2,h3,h4,h5,h6,h7⟩
 ·subst hv
  refine (markAccessS_nil none 0 k w).mono ?_
  rintro E w' ⟨rfl,rfl⟩
  exact ⟨by rw [h0];simp,.inl ⟨h0,none,0,rfl⟩,Below.refl _ _⟩
 ·have hcell:∀ o,o<l.length*2→∃ z,w.cell? ⟨g,o,none⟩=some z:=fun o ho=>⟨_,by
   rw [cB h3,Array.getElem?_eq_getElem (by rw [h6];have:=Nat.mul_le_mul_right 2 h4;omega)]⟩
  subst hv
  refine (markAccessS_row l.length cap g k w h4 hn h5 hk hk2 hcell (fun o=>fB h3 o)).mono ?_
  rintro E w' ⟨rfl,hM,hc⟩
  exact ⟨rfl,.inr ⟨g,cap,rfl,h4,h5,by rw [hM.size];exact heap_lt h3,hc⟩,⟨hM.os,hM.tape,hM.output,Nat.le_of_eq hM.size.symm,fun k hk=>hM.block k (by omega)⟩⟩
theorem heldAccessS_val (v:Value) (n:Nat) (k:Int) (w:World) (h:MarkedA w v n k) (hn:n≤1000) (hk:0≤k) (hk2:k≤1000) :
  Calls Tryz.prog 34 #[v,.int .i64 k] w fun E w'=>E=.returned (.int .i64 (k+2*n))∧Below w.heap.size w w':=by
 rcases h with ⟨h0,A,c,hv⟩ | ⟨g,c,hv,h2,h3,h4,h5⟩
 ·subst hv h0
  refine (heldAccessS_nil A c k w).mono ?_
  rintro E w' ⟨rfl,rfl⟩
  exact ⟨by simp,Below.refl _ _⟩
 ·subst hv
  exact heldAccessS_row n c g k w h2 hn h3 hk hk2 h4 h5
end Go.Proofs.YtnoejapnjhogaaaGreatDoor
