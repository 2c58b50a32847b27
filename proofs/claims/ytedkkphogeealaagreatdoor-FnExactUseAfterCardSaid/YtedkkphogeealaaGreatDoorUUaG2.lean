/- The program's search in the order of breadth. -/
import Derived.Test.YtedkkphogeealaaGreatDoorUUaG1
import Derived.Test.YtedkkphogeealaaGreatDoorUQue
import Derived.Test.YtedkkphogeealaaGreatDoorUStmtY
import Derived.Test.YtedkkphogeealaaGreatDoorUMem
import Derived.Test.YtedkkphogeealaaGreatDoorUBase
import Derived.Deep.RegionHeld3
import Derived.Deep.LoopGhost
import Derived.Deep.RegionWith
import Derived.Test.YtedkkphogeealaaGreatDoorUBits
import Derived.Test.YtedkkphogeealaaGreatDoorULpI00
import Derived.Test.YtedkkphogeealaaGreatDoorUFloG
import Derived.Test.YtedkkphogeealaaGreatDoorULimB
import Derived.Test.YtedkkphogeealaaGreatDoorUGrX
namespace Go.Proofs.YtedkkphogeealaaGreatDoor
open Go.RowKit Go.Deep
set_option linter.unusedVariables false
set_option maxRecDepth 100000
set_option maxHeartbeats 4000000
def SrM (w:World) (S:Nat) (R:List (Nat × Nat)):Prop :=
 ∃ (cur:Array Value) (y:Nat),w.heap[S]?=some (.cells cur 170 (0,0))∧cur.size=123∧cur[0]?=some (.int .u64 (y:Int))∧y<18446744073709551616∧(∀ x,x<64→(y.testBit x=true↔x∈nmsR R))∧(∀ x,x<61→cur[1+x]?=some (.int .i64 (parR R x:Int)))∧(∀ x,x<61→cur[62+x]?=some (.int .i64 (dstR R x:Int)))
theorem SrM.kept {w w':World} {S:Nat} {R:List (Nat × Nat)} (h:SrM w S R) (hb:w'.heap[S]?=w.heap[S]?):SrM w' S R:=by
 obtain ⟨cur,y,h1,h2⟩:=h
 exact ⟨cur,y,hb.trans h1,h2⟩
theorem SrM.lt {w:World} {S:Nat} {R:List (Nat × Nat)} (h:SrM w S R):S<w.heap.size:=by
 obtain ⟨cur,y,h1,h2⟩:=h
 exact heap_lt h1
theorem SrM.soft {w:World} {S:Nat} {R:List (Nat × Nat)} (h:SrM w S R) (j:Nat):w.frozen? ⟨S,j,none⟩=false:=by
 obtain ⟨cur,y,h1,h2⟩:=h
 exact frozen_of_row _ _ _ _ _ h1
theorem SrM.dst {w:World} {S x:Nat} {R:List (Nat × Nat)} (h:SrM w S R) (hx:x<61):w.cell? ⟨S,62+x,none⟩=some (.int .i64 (dstR R x:Int)):=by
 obtain ⟨cur,y,h1,h2,h3,h4,h5,h6,h7⟩:=h
 rw [cB h1]
 exact h7 x hx
theorem SrM.bits {w:World} {S:Nat} {R:List (Nat × Nat)} (h:SrM w S R):∃ y:Nat,w.cell? ⟨S,0,none⟩=some (.int .u64 (y:Int))∧y<18446744073709551616∧∀ x,x<64→(y.testBit x=true↔x∈nmsR R):=by
 obtain ⟨cur,y,h1,h2,h3,h4,h5,h6,h7⟩:=h
 exact ⟨y,(cB h1 _).trans h3,h4,h5⟩
theorem SrM.put {w:World} {S n a y:Nat} {R:List (Nat × Nat)} (h:SrM w S R) (hy:w.cell? ⟨S,0,none⟩=some (.int .u64 (y:Int))) (hn:n<61) :
  SrM (((w.setCell ⟨S,0,none⟩ (.int .u64 ((y|||2 ^ n:Nat):Int))).setCell ⟨S,1+n,none⟩ (.int .i64 (a:Int))).setCell ⟨S,62+n,none⟩ (.int .i64 ((dstR R a+1:Nat):Int))) S ((n,a) :: R):=by
 obtain ⟨cur,y',h1,h2,h3,h4,h5,h6,h7⟩:=h
 have e:y'=y:=by
  rw [cB h1,h3] at hy
  simp only [Option.some.injEq,Value.int.injEq,true_and] at hy
  omega
 subst e
 refine ⟨_,y'|||2 ^ n,heap_setCell_same _ _ _ _ _ _ (heap_setCell_same _ _ _ _ _ _ (heap_setCell_same _ _ _ _ _ _ h1)),by simp [h2],?_,?_,fun x hx=>?_,fun x hx=>?_,fun x hx=>?_⟩
 ·rw [Array.getElem?_setIfInBounds,if_neg (by omega),Array.getElem?_setIfInBounds,if_neg (by omega),Array.getElem?_setIfInBounds,if_pos rfl,if_pos (by omega)]
 ·have h8:2 ^ n<2 ^ 64:=Nat.pow_lt_pow_right (by decide) (by omega)
  have h9:y'|||2 ^ n<2 ^ 64:=Nat.or_lt_two_pow (by omega) h8
  omega
 ·rw [Nat.testBit_or,Nat.testBit_two_pow,nmsR_cons,List.mem_cons,Bool.or_eq_true,h5 x hx,decide_eq_true_eq]
  constructor
  ·rintro (h | h)
   ·exact .inr h
   ·exact .inl h.symm
  ·rintro (h | h)
   ·exact .inr h.symm
   ·exact .inl h
 ·rw [Array.getElem?_setIfInBounds,if_neg (by omega),Array.getElem?_setIfInBounds]
  by_cases e:n=x
  ·subst e
   rw [if_pos rfl,if_pos (by simp;omega)]
   simp [parR]
  ·rw [if_neg (by omega),Array.getElem?_setIfInBounds,if_neg (by omega),h6 x hx]
   simp [parR,e]
 ·rw [Array.getElem?_setIfInBounds]
  by_cases e:n=x
  ·subst e
   rw [if_pos rfl,if_pos (by simp;omega)]
   simp [dstR]
  ·rw [if_neg (by omega),Array.getElem?_setIfInBounds,if_neg (by omega),Array.getElem?_setIfInBounds,if_neg (by omega),h7 x hx]
   simp [dstR,e]
theorem SrM.mid {w:World} {S n a:Nat} {R:List (Nat × Nat)} {v0 v1:Value} (h:SrM w S R) (hn:n<61) (ha:a<61) :
  (w.setCell ⟨S,0,none⟩ v0).cell? ⟨S,1+n,none⟩=some (.int .i64 (parR R n:Int))∧(w.setCell ⟨S,0,none⟩ v0).frozen? ⟨S,1+n,none⟩=false∧((w.setCell ⟨S,0,none⟩ v0).setCell ⟨S,1+n,none⟩ v1).cell? ⟨S,62+a,none⟩=some (.int .i64 (dstR R a:Int))∧((w.setCell ⟨S,0,none⟩ v0).setCell ⟨S,1+n,none⟩ v1).cell? ⟨S,62+n,none⟩=some (.int .i64 (dstR R n:Int))∧((w.setCell ⟨S,0,none⟩ v0).setCell ⟨S,1+n,none⟩ v1).frozen? ⟨S,62+n,none⟩=false:=by
 obtain ⟨cur,y,h1,h2,h3,h4,h5,h6,h7⟩:=h
 have k1:=heap_setCell_same w S 0 _ _ v0 h1
 have k2:=heap_setCell_same _ S (1+n) _ _ v1 k1
 refine ⟨?_,frozen_of_row _ _ _ _ _ k1,?_,?_,frozen_of_row _ _ _ _ _ k2⟩
 ·rw [cB k1,Array.getElem?_setIfInBounds,if_neg (by omega),h6 n hn]
 ·rw [cB k2,Array.getElem?_setIfInBounds,if_neg (by omega),Array.getElem?_setIfInBounds,if_neg (by omega),h7 a ha]
 ·rw [cB k2,Array.getElem?_setIfInBounds,if_neg (by omega),Array.getElem?_setIfInBounds,if_neg (by omega),h7 n hn]
theorem zero_search:Tryz.zeroCells170=#[.int .u64 0]++Array.replicate 122 (.int .i64 0):=by kernel_rfl
theorem SrM.zero (w:World):SrM (w.alloc (.cells Tryz.zeroCells170 170)) w.heap.size []:=by
 refine ⟨_,0,heap_alloc_new w _,?_,?_,by decide,fun x hx=>by simp [nmsR],fun x hx=>?_,fun x hx=>?_⟩
 ·rw [zero_search,Array.size_append,Array.size_replicate];rfl
 ·rw [zero_search,Array.getElem?_append_left (by decide)];rfl
 ·rw [zero_search,Array.getElem?_append_right (show (#[Value.int .u64 0]:Array Value).size≤_ from by show 1≤_;omega)]
  have:(parR [] x:Int)=0:=rfl
  rw [this,Array.getElem?_replicate,if_pos (by show _-1<122;omega)]
 ·rw [zero_search,Array.getElem?_append_right (show (#[Value.int .u64 0]:Array Value).size≤_ from by show 1≤_;omega)]
  have:(dstR [] x:Int)=0:=rfl
  rw [this,Array.getElem?_replicate,if_pos (by show _-1<122;omega)]
theorem search_any (C q f:Nat) (ns:List Nd) (w:World) (hD:PtsOk q ns) (hle:ns.length≤61) (hs:f ∉ nextN ns f) (hf:f<ns.length) (hG:Gr C w ns) :
  Calls Tryz.prog 94 #[.pointer (some ⟨C,0,none⟩),.int .i64 f] w fun E w'=>∃ S,E=.returned (.pointer (some ⟨S,0,none⟩))∧w.heap.size≤S∧SrM w' S (bfsE (nextN ns) f)∧Below w.heap.size w w':=by
 have hb1:=(Below.refl w.heap.size w).alloc (Nat.le_refl _) (.cells Tryz.zeroCells170 170)
 have hz1:(w.alloc (.cells Tryz.zeroCells170 170)).heap.size=w.heap.size+1:=by simp
 have hS0:=SrM.zero w
 have hb2:=(Below.refl (w.alloc (.cells Tryz.zeroCells170 170)).heap.size (w.alloc (.cells Tryz.zeroCells170 170))).alloc (Nat.le_refl _) (.cells #[.int .i64 (f:Int)] 3)
 have hq1:=heap_alloc_new (w.alloc (.cells Tryz.zeroCells170 170)) (.cells #[.int .i64 (f:Int)] 3)
 rw [hz1] at hb2 hq1
 have HB1:Hid (Below w.heap.size w ((w.alloc (.cells Tryz.zeroCells170 170)).alloc (.cells #[.int .i64 (f:Int)] 3))):=Lib.hid (hb1.trans (hb2.mono (by omega)))
 have HS1:Hid (SrM ((w.alloc (.cells Tryz.zeroCells170 170)).alloc (.cells #[.int .i64 (f:Int)] 3)) w.heap.size []):=Lib.hid (hS0.kept (hb2.block w.heap.size (by omega)))
 have HQ1:Hid (QRow ((w.alloc (.cells Tryz.zeroCells170 170)).alloc (.cells #[.int .i64 (f:Int)] 3)) (w.heap.size+1) (.slice (some ⟨w.heap.size+1,0,none⟩) 1 1) [f]):=by
  refine ⟨w.heap.size+1,0,1,#[.int .i64 (f:Int)],rfl,Nat.le_refl _,hq1,Nat.le_refl _,Nat.le_refl _,by unfold maxLen;omega,fun i x hx=>?_⟩
  cases i with
  | zero=>simp at hx;subst hx;rfl
  | succ i=>simp at hx
 have HG:=Lib.hid hG
 have HD:=Lib.hid hD
 have HS:=Lib.hid hs
 have hC:=hG.lt
 clear hG hD hs hb1 hz1 hS0 hb2 hq1
 go_enter Tryz.func94,Tryz.ntmps94
 go_wp2_with fail
 generalize (w.alloc (.cells Tryz.zeroCells170 170)).alloc (.cells #[.int .i64 (f:Int)] 3)=w2 at *
 go_loopg [6] 62 (fun gg wk wr=>∃ (i:Nat) (W:List Nat) (g2 off c2:Nat),wk=.slice (some ⟨g2,off,none⟩) W.length c2∧gg=62-i∧Hid (QRow wr (w.heap.size+1) (.slice (some ⟨g2,off,none⟩) W.length c2) W)∧Hid (W=(qR f (bfsR (nextN ns) f i)).drop i)∧Hid (SrM wr w.heap.size (bfsR (nextN ns) f i))∧Hid (Below w.heap.size w wr))
 case atStart=>exact ⟨0,[f],w.heap.size+1,0,1,rfl,rfl,HQ1,Lib.hid rfl,HS1,HB1⟩
 case round =>
  clear HQ1 HS1 HB1
  obtain ⟨i,W,g2,off,c2,rfl,hgg,HQ,HE,HSM,HW⟩:=hrel
  have hbz:=HW.out.size
  cases W with
  | nil =>
   have hfin:bfsR (nextN ns) f i=bfsE (nextN ns) f:=by
    have h1:=HE.out
    have h2:(qR f (bfsR (nextN ns) f i)).length≤i:=List.drop_eq_nil_iff.mp h1.symm
    rw [qR_length] at h2
    exact bfsE_of HS.out (fun a x hx=>nextN_lt HD.out a x hx) hle h2
   rw [hfin] at HSM
   clear hgg HQ HE hfin
   go_wp2_with fail
   go_ret
   exact ⟨w.heap.size,rfl,Nat.le_refl _,HSM.out,HW.out⟩
  | cons a V =>
   obtain ⟨ha1,ha2,ha3⟩:=drop_cons_of HE.out.symm
   have hokR:=bfsR_ok (nx:=nextN ns) HS.out i
   have hRl:=hokR.length (fun a x hx=>nextN_lt HD.out a x hx)
   rw [qR_length] at ha3
   have hi62:i<62:=by omega
   have han:a<ns.length:=by
    cases i with
    | zero=>cases ha1;exact hf
    | succ i=>exact nextN_lt HD.out _ _ (parR_mem hokR (qR_succ ha1)).1
   obtain ⟨R0,hR0⟩:∃ R0,R0=bfsR (nextN ns) f i:=⟨_,rfl⟩
   have HBI:Hid (BfI (nextN ns) f i a 0 R0):=Lib.hid (by rw [hR0];exact BfI.start HE.out.symm)
   have HVE:Hid (a :: V=(qR f R0).drop i):=Lib.hid (by rw [hR0];exact HE.out)
   obtain ⟨hc1,hc2,hqa,-⟩:=QRow.tail HQ.out
   unfold maxLen at hc2
   obtain ⟨d,hd⟩:∃ d,ns[a]?=some d:=⟨ns[a],List.getElem?_eq_getElem han⟩
   have htwo:=nextN_two HD.out hd
   have hint:=nextN_ints HD.out hd
   have hno:=nextOf_any C a d ns wr (HG.out.kept (HW.out.block C hC)) hd
   have HDA:=Lib.hid hd
   have HINT:=Lib.hid hint
   have HGG:=Lib.hid hgg
   have hVl:V.length+1≤62:=by
    have h1:=congrArg List.length HVE.out
    rw [List.length_drop,qR_length,hR0,List.length_cons] at h1
    omega
   rw [← hR0] at HSM
   clear ha1 ha2 ha3 hokR hRl hd hint hgg HE hR0
   go_wp2_with fail
   refine hno.mono ?_
   rintro E w5 ⟨rfl,hb5⟩
   have HQ5:=Lib.hid (HQ.out.below hb5)
   have HW5:=Lib.hid (HW.out.trans (hb5.mono hbz))
   have HSM5:=Lib.hid (HSM.out.kept (hb5.block w.heap.size HSM.out.lt))
   clear hno hb5 HQ HW HSM
   go_wp2_with fail
   go_loopg [6,26] d.next.length (fun gg wk kk wr=>∃ (j:Nat) (R:List (Nat × Nat)) (W:List Nat) (g2 off c2:Nat),wk=.slice (some ⟨g2,off,none⟩) W.length c2∧kk=.int .i64 j∧j≤d.next.length∧gg=d.next.length-j∧Hid (QRow wr (w.heap.size+1) (.slice (some ⟨g2,off,none⟩) W.length c2) W)∧Hid (W=(qR f R).drop i)∧Hid (BfI (nextN ns) f i a j R)∧Hid (SrM wr w.heap.size R)∧Hid (Below w.heap.size w wr))
   case atStart=>exact ⟨0,R0,a :: V,g2,off,c2,rfl,rfl,Nat.zero_le _,rfl,HQ5,HVE,HBI,HSM5,HW5⟩
   case round =>
    clear HQ5 HVE HBI HSM5 HW5 hbz hqa hc1 hc2 hVl
    rename_i gO JO KO hJO hKO
    obtain ⟨j,R,W,g2,off,c2,rfl,rfl,hj,hgj,HQ,HE,HBI,HSM,HW⟩:=hrel
    have hbz:=HW.out.size
    have hnl:(nextN ns a).length=d.next.length:=by rw [← HINT.out.1,intsW_length]
    have HNL:=Lib.hid hnl
    have HGJ:=Lib.hid hgj
    clear hgj hnl
    by_cases hjl:j<d.next.length
    ·obtain ⟨n,hnx⟩:∃ n,(nextN ns a)[j]?=some n:=⟨(nextN ns a)[j]'(by rw [HNL.out];exact hjl),List.getElem?_eq_getElem (by rw [HNL.out];exact hjl)⟩
     have hbx:d.next[j]?=some (n:Int):=by
      rw [← HINT.out.1]
      unfold intsW
      rw [List.getElem?_map,hnx]
      rfl
     have hnn:n<ns.length:=HINT.out.2 n (List.mem_of_getElem? hnx)
     have hn61:n<61:=by omega
     have hcb:=((HG.out.kept (HW.out.block C hC)).node HDA.out).2.1 j _ hbx
     obtain ⟨y,hy,hylt,hyb⟩:=HSM.out.bits
     have hbit:=bitHas_any y n hylt (by omega) wr
     have hnxt:=HBI.out.next hnx
     have hWl:W.length≤62:=by
      have h1:=congrArg List.length HE.out
      have h2:=(HBI.out.ok HS.out).length (fun a x hx=>nextN_lt HD.out a x hx)
      rw [List.length_drop,qR_length] at h1
      omega
     have HIL:=Lib.hid HBI.out.lt
     have HYB:=Lib.hid (hyb n (by omega))
     clear hbx hnx hyb
     by_cases hm:n∈nmsR R
     ·have hyt:y.testBit n=true:=HYB.out.mpr hm
      rw [hyt] at hbit
      have hfe:fnd1 a R n=R:=by unfold fnd1;rw [if_pos hm]
      rw [hfe] at hnxt
      have HNXT:=Lib.hid hnxt
      clear hyt hfe hnxt HYB
      go_wp2_with fail
      refine hbit.mono ?_
      rintro E w6 ⟨rfl,rfl⟩
      clear hbit
      go_wp2_with fail
      go_roundg (d.next.length-(j+1))
      case measure=>rw [HGJ.out];omega
      case rel=>exact ⟨j+1,R,W,g2,off,c2,rfl,by go_num,by omega,rfl,HQ,HE,HNXT,HSM,HW⟩
     ·have hyt:y.testBit n=false:=by
       cases hh:y.testBit n
       ·rfl
       ·exact absurd (HYB.out.mp hh) hm
      rw [hyt] at hbit
      have hfe:fnd1 a R n=(n,a) :: R:=by unfold fnd1;rw [if_neg hm]
      rw [hfe] at hnxt
      have HNXT:=Lib.hid hnxt
      have hwith:=with_any y n hylt (by omega) wr
      clear hyt hfe hnxt HYB
      go_wp2_with fail
      refine hbit.mono ?_
      rintro E w6 ⟨rfl,e6⟩
      rw [e6]
      clear hbit e6
      go_wp2_with fail
      refine hwith.mono ?_
      rintro E w6 ⟨rfl,hb6⟩
      have HSM6:=Lib.hid (HSM.out.kept (hb6.block w.heap.size HSM.out.lt))
      have HW6:=Lib.hid (HW.out.trans (hb6.mono hbz))
      have HQ6:=Lib.hid (HQ.out.below hb6)
      have hy6:=(hb6.cell (show w.heap.size<wr.heap.size from HSM.out.lt)).trans hy
      have hs0:=HSM6.out.soft 0
      obtain ⟨m1,m2,m3,m4,m5⟩:=HSM6.out.mid (v0:=.int .u64 ((y|||2 ^ n:Nat):Int)) (v1:=.int .i64 (a:Int)) hn61 (show a<61 by omega)
      have hputs:=HSM6.out.put (n:=n) (a:=a) hy6 hn61
      clear hwith hb6 HSM HW HQ hy
      go_wp2_with fail
      generalize hW7:(w6.setCell ⟨w.heap.size,0,none⟩ (.int .u64 ((y|||2 ^ n:Nat):Int))).setCell ⟨w.heap.size,1+n,none⟩ (.int .i64 (a:Int))=w7 at m3 m4 m5 hputs ⊢
      have hai:(a:Int)<61:=by omega
      have hni:(n:Int)<61:=by omega
      have hd61:=(dstR_le R a)
      have hR61:=(HBI.out.ok HS.out).length (fun a x hx=>nextN_lt HD.out a x hx)
      have hdi:((dstR R a:Int)+1≤100):=by omega
      have m3d:w7.drew.cell? ⟨w.heap.size,62+a,none⟩=some (.int .i64 (dstR R a:Int)):=m3
      have m4d:w7.drew.cell? ⟨w.heap.size,62+n,none⟩=some (.int .i64 (dstR R n:Int)):=m4
      have m5d:w7.drew.frozen? ⟨w.heap.size,62+n,none⟩=false:=m5
      have HPUT:Hid (SrM (w7.drew.setCell ⟨w.heap.size,62+n,none⟩ (.int .i64 ((dstR R a:Int)+1))) w.heap.size ((n,a) :: R)):=hputs.kept (by rfl)
      have HW7:Hid (Below w.heap.size w (w7.drew.setCell ⟨w.heap.size,62+n,none⟩ (.int .i64 ((dstR R a:Int)+1)))):=Lib.hid (below_set13 (by rw [← hW7];exact (below_set13 (below_set13 HW6.out (Nat.le_refl _)) (Nat.le_refl _)).drew) (Nat.le_refl _))
      have HQ7:Hid (QRow (w7.drew.setCell ⟨w.heap.size,62+n,none⟩ (.int .i64 ((dstR R a:Int)+1))) (w.heap.size+1) (.slice (some ⟨g2,off,none⟩) W.length c2) W):=Lib.hid (QRow.apart (by rw [← hW7];exact (HQ6.out.apart (Nat.lt_succ_self _)).apart (Nat.lt_succ_self _)) (Nat.lt_succ_self _))
      have hs7:(w7.drew.setCell ⟨w.heap.size,62+n,none⟩ (.int .i64 ((dstR R a:Int)+1))).heap.size=w6.heap.size:=by rw [← hW7];simp [World.setCell,World.drew]
      have HS7:=Lib.hid hs7
      have hwr:IntKind.i64.wrap ((dstR R a:Int)+1)=(dstR R a:Int)+1:=IntWalk.i64_in _ (by omega)
      clear hs7 m3 m4 m5 hputs hW7 HW6 HQ6 HSM6 hy6 hs0 m1 m2
      refine wp_region_held_drew (S:=fun _=>True) (by kernel_rfl) trivial (fun hHeld=>?_)
      generalize w7.drew=wd at *
      refine tkd (i:=0) (v:=.pointer (some ⟨w.heap.size,0,none⟩)) rfl hHeld ?_
      try simp only [Act.put,sA,sB,sC]
      refine tkd (i:=1) (v:=.int .i64 (n:Int)) rfl hHeld ?_
      try simp only [Act.put,sA,sB,sC]
      refine tkd (i:=2) (v:=.pointer (some ⟨w.heap.size,0,none⟩)) rfl hHeld ?_
      try simp only [Act.put,sA,sB,sC]
      refine tkd (i:=3) (v:=.int .i64 (a:Int)) rfl hHeld ?_
      try simp only [Act.put,sA,sB,sC]
      refine tkd (i:=4) (v:=.pointer (some ⟨w.heap.size,0,none⟩)) rfl hHeld ?_
      try simp only [Act.put,sA,sB,sC]
      refine tkd (i:=5) (v:=.pointer (some ⟨w.heap.size,62,none⟩)) rfl hHeld ?_
      try simp only [Act.put,sA,sB,sC]
      refine tkd (i:=6) (v:=.pointer (some ⟨w.heap.size,62+a,none⟩)) rfl hHeld ?_
      try simp only [Act.put,sA,sB,sC]
      refine tkd (i:=9) (v:=.pointer (some ⟨w.heap.size,0,none⟩)) rfl hHeld ?_
      try simp only [Act.put,sA,sB,sC]
      refine tkd (i:=10) (v:=.pointer (some ⟨w.heap.size,62,none⟩)) rfl hHeld ?_
      try simp only [Act.put,sA,sB,sC]
      refine wpAnyH_ready (rs:=[7]) (by kernel_rfl) (by simp) ?_
      refine AllReadyH.cons (o:=⟨_,_,_,_,_,_⟩) rfl (fun K hK=>?_) AllReadyH.nil
      go_simp
      refine hK.out _ _ trivial (fun hHeld=>?_)
      clear hK K
      refine tkd (i:=8) (v:=.int .i64 ((dstR R a:Int)+1)) rfl hHeld ?_
      try simp only [Act.put,sA,sB,sC]
      refine tkd (i:=11) (v:=.pointer (some ⟨w.heap.size,62+n,none⟩)) rfl hHeld ?_
      try simp only [Act.put,sA,sB,sC]
      refine wpAnyH_ready (rs:=[12]) (by kernel_rfl) (by simp) ?_
      refine AllReadyH.cons (o:=⟨_,_,_,_,_,_⟩) rfl (fun K hK=>?_) AllReadyH.nil
      go_simp
      refine hK.out _ _ trivial (fun hHeld=>?_)
      clear hK K
      refine wpAnyH_done (by kernel_rfl) ?_ _
      clear hHeld
      clear m3d m4d m5d hwr hai hni hd61 hR61 hdi
      generalize wd.setCell ⟨w.heap.size,62+n,none⟩ (.int .i64 ((dstR R a:Int)+1))=w8 at *
      have HEN:Hid (W++[n]=(qR f ((n,a) :: R)).drop i):=Lib.hid (by rw [qR_drop_snoc (by have:=HIL.out;omega),← HE.out])
      have hz8:=HW7.out.size
      clear HS7 HE hm
      go_wp2_with (at_builtin;refine wpList_append_queue rfl _ _ rfl (w.heap.size+1) _ _ (by rfl) (HQ7.out.below ((Below.refl _ _).alloc (Nat.le_refl _) _)) _ _ n (by rfl) ?pq1 (by omega) ?pr1 ?_)
      try (case pq1=>exact (cB (heap_alloc_new _ _) 0).trans rfl)
      try (case pr1=>simp;omega)
      intro v7 w7 hq7 hg7
      have hkb:Below w8.heap.size w8 (w8.alloc (.cells #[.int .i64 (n:Int)] 3)):=(Below.refl _ _).alloc (Nat.le_refl _) _
      have hql:=(HQ7.out.below hkb).lt
      have hbb:=(HW7.out.trans (hkb.mono HW7.out.size)).grown hg7 (by have:=hkb.size;omega) (fun k hk=>by have:=(hql k hk).1;omega)
      have hS9:=(HPUT.out.kept (hkb.block w.heap.size HPUT.out.lt)).kept (hg7.block w.heap.size (by have:=hkb.size;have:=HPUT.out.lt;omega) (fun e=>by have:=(hql _ e.symm).1;omega))
      have HQ9:=Lib.hid hq7
      have HS9:=Lib.hid hS9
      have HW9:=Lib.hid hbb
      clear hq7 hg7 hkb hql hbb hS9 HPUT HW7 HQ7
      go_wp2_with fail
      obtain ⟨g8,off8,c8,cur8,hv8,hq8⟩:=id HQ9.out
      go_roundg (d.next.length-(j+1))
      case measure=>rw [HGJ.out];omega
      case rel=>exact ⟨j+1,(n,a) :: R,W++[n],g8,off8,c8,hv8,by go_num,by omega,rfl,Lib.hid (by rw [← hv8];exact HQ9.out),HEN,HNXT,HS9,HW9⟩
    ·have hje:j=d.next.length:=by omega
     have hdn:R=bfsR (nextN ns) f (i+1):=BfI.done (by rw [HNL.out,← hje];exact HBI.out)
     have hBl:=HBI.out.lt
     have hWE:W=(qR f R).drop i:=HE.out
     obtain ⟨b,V2,hWb⟩:∃ b V2,W=b :: V2:=by
      cases W with
      | nil =>
       have:=List.drop_eq_nil_iff.mp hWE.symm
       omega
      | cons b V2=>exact ⟨b,V2,rfl⟩
     subst hWb
     obtain ⟨-,hV2,-⟩:=drop_cons_of hWE.symm
     have HE2:Hid (V2=(qR f (bfsR (nextN ns) f (i+1))).drop (i+1)):=Lib.hid (by rw [← hdn];exact hV2)
     have HS2:Hid (SrM wr w.heap.size (bfsR (nextN ns) f (i+1))):=Lib.hid (by rw [← hdn];exact HSM.out)
     obtain ⟨hc1,hc2,hqa,hqt⟩:=QRow.tail HQ.out
     unfold maxLen at hc2
     have hsl:=slice_tail g2 off V2.length c2 hc1
     obtain ⟨g3,off3,h3⟩:∃ g3 off3,(if c2=1 then (⟨g2,off,none⟩:Addr) else ⟨g2,off+1,none⟩)=⟨g3,off3,none⟩:=by
      by_cases h:c2=1
      ·exact ⟨g2,off,by rw [if_pos h]⟩
      ·exact ⟨g2,off+1,by rw [if_neg h]⟩
     simp only [h3] at hsl hqt
     have HQT:=Lib.hid hqt
     subst hje
     have hjd:decide ((d.next.length:Int)<(d.next.length:Int))=false:=decide_eq_false (by omega)
     clear hdn HE HBI HSM hWE hV2 hqa hqt h3 HQ hBl
     go_wp2_with fail
     go_roundg (62-(i+1))
     case measure=>rw [HGG.out];omega
     case rel=>exact ⟨i+1,V2,g3,off3,c2-1,rfl,rfl,HQT,HE2,HS2,HW⟩
theorem RowI.intsUA {w:World} {B n c:Nat} {A:Option Addr} {xs:List Int} (h:RowI w B (.slice A n c) xs):IntsV w 0 w.heap.size xs A c:=by
 rcases h.2 with ⟨hv,h0⟩ | ⟨g,cap,cur,hv,h2,h3,h4,h5,h6,h7⟩
 ·have:xs=[]:=List.eq_nil_of_length_eq_zero h0
  subst this
  injection hv with e1 _ e2
  subst e1 e2
  exact ⟨by simp,by simp [maxLen],fun h=>absurd h (by simp)⟩
 ·injection hv with e1 _ e2
  subst e1 e2
  refine ⟨h4,h5,fun h0=>⟨_,rfl,Nat.zero_le _,heap_lt h3,fun j u hj=>?_⟩⟩
  exact World.ownsRow.cells h (g:=g) rfl j _ (by rw [List.getElem?_map,hj];rfl)
theorem isNaN_any (x:Int) (w:World) :
  Calls Tryz.prog 134 #[.int .i64 x] w fun E w'=>E=.returned (.bool false)∧w=w':=by
 have e:(x != x)=false:=by simp
 go_enter Tryz.func134,Tryz.ntmps134
 go_wp2_with fail
 go_ret
 exact ⟨rfl,rfl⟩
def cmpI (a b:Int):Int:=if a<b then -1 else if b<a then 1 else 0
theorem cmpInt_any (a b:Int) (w:World) :
  Calls Tryz.prog 120 #[.int .i64 a,.int .i64 b] w fun E w'=>E=.returned (.int .i64 (cmpI a b))∧w=w':=by
 have h1:=isNaN_any a w
 have h2:=isNaN_any b w
 go_enter Tryz.func120,Tryz.ntmps120
 go_wp2_with fail
 refine h1.mono ?_
 rintro E w1 ⟨rfl,rfl⟩
 clear h1
 go_wp2_with fail
 refine h2.mono ?_
 rintro E w2 ⟨rfl,rfl⟩
 clear h2
 have hc:a<b∨b<a∨a=b:=by omega
 rcases hc with hc | hc | hc
 ·have d1:decide (a<b)=true:=decide_eq_true hc
  have e:cmpI a b=-1:=by unfold cmpI;rw [if_pos hc]
  go_wp2_with fail
  go_ret
  exact ⟨by rw [e] <;> rfl,rfl⟩
 ·have d1:decide (a<b)=false:=decide_eq_false (by omega)
  have d2:decide (b<a)=true:=decide_eq_true hc
  have e:cmpI a b=1:=by unfold cmpI;rw [if_neg (by omega),if_pos hc]
  go_wp2_with fail
  go_ret
  exact ⟨by rw [e] <;> rfl,rfl⟩
 ·have d1:decide (a<b)=false:=decide_eq_false (by omega)
  have d2:decide (b<a)=false:=decide_eq_false (by omega)
  have e:cmpI a b=0:=by unfold cmpI;rw [if_neg (by omega),if_neg (by omega)]
  go_wp2_with fail
  go_ret
  exact ⟨by rw [e] <;> rfl,rfl⟩
theorem heldUA {K:Nat} {w1 wo w':World} {a0 a1:Addr} {b0 b1:Value} (hb:Below wo.heap.size wo w') (h:Below K w1 wo) (hK:K=w1.heap.size) (h0:a0.block<w1.heap.size) (h1:a1.block<w1.heap.size) (q0:w1.cell? a0=some b0) (q1:w1.cell? a1=some b1) :
  Below K w1 w'∧w'.cell? a0=some b0∧w'.cell? a1=some b1:=by
 subst hK
 have hbb:Below w1.heap.size w1 w':=h.trans (hb.mono h.size)
 exact ⟨hbb,(hbb.cell h0).trans q0,(hbb.cell h1).trans q1⟩
theorem compare_any (S a b:Nat) (R:List (Nat × Nat)) (w:World) (ha:a<61) (hb:b<61) (hS:SrM w S R) :
  Calls Tryz.prog 98 #[.pointer (some ⟨S,0,none⟩),.int .i64 (a:Int),.int .i64 (b:Int)] w fun E w'=>E=.returned (.int .i64 (cmpI (dstR R a:Int) (dstR R b:Int)))∧Below w.heap.size w w':=by
 have q0:=hS.dst ha
 have q1:=hS.dst hb
 have hl0:(⟨S,62+a,none⟩:Addr).block<w.heap.size:=hS.lt
 have hl1:(⟨S,62+b,none⟩:Addr).block<w.heap.size:=hS.lt
 have a0:(0:Int)≤(a:Int):=by omega
 have a1:(a:Int)<61:=by omega
 have b0:(0:Int)≤(b:Int):=by omega
 have b1:(b:Int)<61:=by omega
 have hc:∀ W:World,Calls Tryz.prog 120 #[.int .i64 (dstR R a:Int),.int .i64 (dstR R b:Int)] W fun E w'=>E=.returned (.int .i64 (cmpI (dstR R a:Int) (dstR R b:Int)))∧Below W.heap.size W w':=fun W=>(cmpInt_any _ _ W).mono (by rintro E w' ⟨rfl,rfl⟩;exact ⟨rfl,Below.refl _ _⟩)
 generalize (dstR R a:Int)=x at q0 hc ⊢
 generalize (dstR R b:Int)=y at q1 hc ⊢
 generalize cmpI x y=z at hc ⊢
 clear hS
 go_enter Tryz.func98,Tryz.ntmps98
 go_wp2_with fail
 go_region_held3 (fun w'=>Below w.heap.size w w'∧w'.cell? ⟨S,62+a,none⟩=some (.int .i64 x)∧w'.cell? ⟨S,62+b,none⟩=some (.int .i64 y))
  (first | exact ⟨(Below.refl w.heap.size w).drew,q0,q1⟩ | exact heldUA hbn (And.left ‹Below w.heap.size w _∧_›) rfl hl0 hl1 q0 q1)
  (first | (go_at_call 120;refine (hc _).mono ?_;rintro E w' ⟨rfl,hbn⟩))
 all_goals
  obtain ⟨hbl,-⟩:=‹Below w.heap.size w _∧_›
  go_wp2_with fail
  go_ret
  exact ⟨rfl,hbl⟩
theorem cmpI_lt {a b:Nat}:cmpI (a:Int) (b:Int)<0↔a<b:=by
 unfold cmpI
 split
 ·exact ⟨fun _=>by omega,fun _=>by decide⟩
 ·split
  ·exact ⟨fun h=>absurd h (by decide),fun h=>by omega⟩
  ·exact ⟨fun h=>absurd h (by decide),fun h=>by omega⟩
theorem minFunc_any (S n c B x:Nat) (A:Option Addr) (xs:List Nat) (R:List (Nat × Nat)) (w:World) (hn:(x :: xs).length=n) (hx:∀ y∈x :: xs,y<61) (hn61:n≤61) (hR:RowI w B (.slice A n c) ((x :: xs).map Int.ofNat)) (hS:SrM w S R) :
  Calls Tryz.prog 97 #[.slice A n c,.func (.func 98) #[.pointer (some ⟨S,0,none⟩)] #[]] w fun E w'=>E=.returned (.int .i64 (minL (dstR R) x xs:Nat))∧Below w.heap.size w w':=by
 have HI:=Lib.hid hR.intsUA
 have HX:=Lib.hid hx
 have HS:=Lib.hid hS
 have hn':xs.length+1=n:=by rw [← hn];rfl
 have HEL:Hid (∀ k,k<n→∃ (b:Addr) (y:Nat),A=some b∧b.block<w.heap.size∧(x :: xs)[k]?=some y∧y<61∧∀ W:World,Below w.heap.size w W→W.cell? (b.add k)=some (.int .i64 (y:Int))):=by
  intro k hk
  obtain ⟨b,v,hA,-,hbl,hv,hc⟩:=HI.out.elem (k:=k) (by simp;omega)
  rw [List.getElem?_map] at hv
  cases hy:(x :: xs)[k]? with
  | none=>rw [hy] at hv;cases hv
  | some y =>
   rw [hy] at hv
   injection hv with hv
   subst hv
   refine ⟨b,y,hA,hbl,rfl,HX.out y (List.mem_of_getElem? hy),fun W hW=>?_⟩
   exact (hW.cell (by rw [block_add];exact hbl)).trans hc
 have d1:decide ((n:Int)<1)=false:=decide_eq_false (by omega)
 obtain ⟨b0,y0,hA,hbl0,hy0,-,hc0⟩:=HEL.out 0 (by omega)
 injection hy0 with hy0
 subst hy0
 subst hA
 have c0:=hc0 w (Below.refl _ _)
 rw [show b0.add 0=b0 by cases b0;rfl] at c0
 have n0:(0:Int)<(n:Int):=by omega
 clear hR hx hS hn hc0
 go_enter Tryz.func97,Tryz.ntmps97
 go_wp2_with fail
 go_loopw [5,6] (fun q i wr=>∃ k m:Nat,q=.int .i64 (m:Int)∧i=.int .i64 k∧1≤k∧k≤n∧m<61∧Hid (m=minL (dstR R) x (xs.take (k-1)))∧Below w.heap.size w wr) (fun _ i _=>n-(intOf i).toNat)
 case atStart=>exact ⟨1,x,rfl,rfl,Nat.le_refl _,by omega,HX.out x List.mem_cons_self,rfl,Below.refl _ _⟩
 case round =>
  clear c0
  obtain ⟨k,m,rfl,rfl,hk1,hk,hm61,HM,hb⟩:=hrel
  have hbz:=hb.size
  by_cases hlt:k<n
  ·have hdk:decide ((k:Int)<(n:Int))=true:=decide_eq_true (by omega)
   have f1:IntKind.i64.wrap ((k:Int)+1)=(k:Int)+1:=IntWalk.i64_in _ (by omega)
   obtain ⟨b1,y,hA,hbl1,hy,hy61,hcy⟩:=HEL.out k hlt
   injection hA with hA
   subst hA
   have cy:=hcy wr hb
   have hyx:xs[k-1]?=some y:=by
    obtain ⟨j,rfl⟩:∃ j,k=j+1:=⟨k-1,by omega⟩
    simpa using hy
   have hcm:=compare_any S y m R wr hy61 hm61 (HS.out.kept (hb.block S HS.out.lt))
   have k0:(0:Int)≤(k:Int):=by omega
   have k1:(k:Int)<(n:Int):=by omega
   have hstep:Hid (∀ m2:Nat,m2=(if dstR R y<dstR R m then y else m)→m2=minL (dstR R) x (xs.take (k+1-1))):=by
    intro m2 h2
    rw [show k+1-1=(k-1)+1 by omega,List.take_add_one,hyx]
    show m2=minL (dstR R) x (xs.take (k-1)++[y])
    rw [minL_snoc,← HM.out]
    exact h2
   clear hcy hy hyx HM
   by_cases hl:dstR R y<dstR R m
   ·have d3:decide (cmpI (dstR R y:Int) (dstR R m:Int)<0)=true:=decide_eq_true (cmpI_lt.mpr hl)
    have HM2:=Lib.hid (hstep.out y (by rw [if_pos hl]))
    clear hstep hl
    generalize cmpI (dstR R y:Int) (dstR R m:Int)=z at hcm d3
    go_wp2_with fail
    refine hcm.mono ?_
    rintro E w2 ⟨rfl,hb2⟩
    have HB2:=Lib.hid (hb.trans (hb2.mono hbz))
    have cy2:=(hb2.cell (by rw [block_add];omega)).trans cy
    clear hcm hb2 cy
    go_wp2_with fail
    go_roundw
    case rel=>exact ⟨k+1,y,rfl,by go_num,by omega,by omega,hy61,HM2,HB2.out⟩
    case measure=>simp [intOf];omega
   ·have d3:decide (cmpI (dstR R y:Int) (dstR R m:Int)<0)=false:=decide_eq_false (fun h=>hl (cmpI_lt.mp h))
    have HM2:=Lib.hid (hstep.out m (by rw [if_neg hl]))
    clear hstep hl
    generalize cmpI (dstR R y:Int) (dstR R m:Int)=z at hcm d3
    go_wp2_with fail
    refine hcm.mono ?_
    rintro E w2 ⟨rfl,hb2⟩
    have HB2:=Lib.hid (hb.trans (hb2.mono hbz))
    clear hcm hb2 cy
    go_wp2_with fail
    go_roundw
    case rel=>exact ⟨k+1,m,rfl,by go_num,by omega,by omega,hm61,HM2,HB2.out⟩
    case measure=>simp [intOf];omega
  ·have hdk:decide ((k:Int)<(n:Int))=false:=decide_eq_false (by omega)
   have hke:k-1=xs.length:=by omega
   have e:minL (dstR R) x xs=m:=by rw [HM.out,hke,List.take_length]
   go_wp2_with fail
   go_ret
   exact ⟨by rw [e] <;> rfl,hb⟩
theorem testBit_withUA {y a x:Nat}:(y|||2 ^ a).testBit x=true↔y.testBit x=true∨a=x:=by
 rw [Nat.testBit_or,Bool.or_eq_true,Nat.testBit_two_pow,decide_eq_true_eq]
theorem usesOf_any (ts:List Int) (ns:List Nd) (C F hi:Nat) (A:Option Addr) (c:Nat) (ah bk:Nat→Nat) (L:Nat) (mb lv:Nat→Nat) (kn:Nat→Nat→Nat) (l:Nat) (w:World) (h:Lend ts ns C F hi A c ah bk L mb lv kn w) (hA:AllTyped ts ns) (hl:l<ns.length)
  (hTab:TabAt 0 Lib.deBruijn64tab w) (hg:0<w.heap.size) :
  Calls Tryz.prog 95 #[.pointer (some ⟨L,0,none⟩),.int .i64 (l:Int)] w fun E w'=>∃ z:Nat,E=.returned (.int .u64 (z:Int))∧z<2305843009213693952∧(∀ i,z.testBit i=true↔i<ns.length∧UsP ts ns l i)∧Below w.heap.size w w':=by
 have hle:=h.ln.fl.gr.le
 have hF:=h.ln.flCell
 have hgc:=h.ln.fl.grCell
 have hcnt:=h.ln.fl.gr.count
 have HLE:=Lib.hid hle
 have HLN:=Lib.hid h
 have HTAB:=Lib.hid hTab
 have HA:=Lib.hid hA
 clear h hTab hA
 go_enter Tryz.func95,Tryz.ntmps95
 go_wp2_with fail
 clear hF hgc hcnt
 go_loopw [5,19] (fun p i wr=>∃ (k y:Nat),p=.int .u64 (y:Int)∧i=.int .i64 k∧k≤ns.length∧y<2305843009213693952∧Hid (∀ x,y.testBit x=true↔x<k∧UsP ts ns l x)∧Below w.heap.size w wr) (fun _ i _=>ns.length-(intOf i).toNat)
 case atStart=>exact ⟨0,0,rfl,rfl,Nat.zero_le _,by decide,fun x=>by simp,Below.refl _ _⟩
 case round =>
  obtain ⟨k,y,rfl,rfl,hk,hy,HY,hb⟩:=hrel
  have hbz:=hb.size
  by_cases hkl:k<ns.length
  ·obtain ⟨d,hd⟩:∃ d,ns[k]?=some d:=⟨ns[k],List.getElem?_eq_getElem hkl⟩
   have hdk:decide ((k:Int)<(ns.length:Int))=true:=decide_eq_true (by omega)
   have hk61:k<61:=by omega
   have he:=effD_ok HA.out.1 (HA.out.2 k d hd)
   have HLr:=HLN.out.keep hb
   obtain ⟨e1,e2,e3,e4⟩:=HLr.ln.fl.effCell hd
   have hF:=HLr.ln.flCell
   have ki0:(0:Int)≤(k:Int):=by omega
   have ki1:(k:Int)<61:=by omega
   have hr:=he.rlt
   have ht:=he.tlt
   have hc:=he.clt
   have hs:=he.slt
   have hu:=uses_any (effD ts d).r (effD ts d).t (effD ts d).c (effD ts d).s hr ht hc wr
   obtain ⟨U,hU⟩:∃ U,U=(effD ts d).r|||(effD ts d).t|||(effD ts d).c:=⟨_,rfl⟩
   have hul:U<64:=by rw [hU];exact Nat.or_lt_two_pow (n:=6) (Nat.or_lt_two_pow (n:=6) hr ht) hc
   have hub:∀ v:Nat,v<64→(U.testBit v=true↔useI ts d (v:Int)≠0):=fun v hv=>by rw [hU];exact he.uses v hv
   have HUB:=Lib.hid hub
   rw [← hU] at hu
   have hls:∀ W:World,Below w.heap.size w W→Calls Tryz.prog 96 #[.int .u64 (U:Int)] W fun E w'=>∃ v,E=.returned v∧RowI w' W.heap.size v (intsOf U)∧Below W.heap.size W w':=fun W hW=>setList_any U (by omega) W (tab_below HTAB.out hg hW) (by have:=hW.size;omega)
   have HLS:=Lib.hid hls
   have HD:=Lib.hid hd
   clear hU hub hls he HLr hd
   generalize (effD ts d).r=er at *
   generalize (effD ts d).t=et at *
   generalize (effD ts d).c=ec at *
   generalize (effD ts d).s=es at *
   go_wp2_with fail
   refine hu.mono ?_
   rintro E w2 ⟨rfl,hb2⟩
   have hbB:=hb.trans (hb2.mono hbz)
   have hls:=HLS.out w2 hbB
   clear hu hb2 e1 e2 e3 e4 hF
   go_wp2_with fail
   refine hls.mono ?_
   rintro E w3 ⟨v,rfl,hrow,hb3⟩
   have hbC:=hbB.trans (hb3.mono hbB.size)
   obtain ⟨Ar,cr,hvs⟩:=hrow.slice
   subst hvs
   obtain ⟨bl,hbl⟩:∃ bl,bl=bitsOf U:=⟨_,rfl⟩
   have hll:(intsOf U).length=bl.length:=by rw [hbl];simp [intsOf]
   have hlen64:=intsOf_length U
   have HROW:Hid (RowI w3 w.heap.size (.slice Ar bl.length cr) (intsOf U)):=by rw [← hll];exact hrow.mono hbB.size
   have HBL:=Lib.hid hbl
   have HLI:Hid (intsOf U=bl.map (fun (k:Nat)=>(k:Int))):=by rw [hbl];rfl
   rw [hll] at hlen64 ⊢
   clear hls hrow hb3 hll hbl
   go_wp2_with fail
   go_loopw [5,34] (fun p i wr=>∃ (j y:Nat),p=.int .u64 (y:Int)∧i=.int .i64 j∧j≤bl.length∧y<2305843009213693952∧Hid (∀ x,y.testBit x=true↔(x<k∧UsP ts ns l x)∨(x=k∧∃ i v,i<j∧bl[i]?=some v∧(kn k v).testBit l=true))∧Hid (RowI wr w.heap.size (.slice Ar bl.length cr) (intsOf U))∧Hid (Below w.heap.size w wr)) (fun _ i _=>bl.length-(intOf i).toNat)
   case atStart=>exact ⟨0,y,rfl,rfl,Nat.zero_le _,hy,fun x=>by rw [HY.out x];simp,HROW,hbC⟩
   case round =>
    clear HROW hbC hbB hb
    obtain ⟨j,y2,rfl,rfl,hj,hy2,HY2,HROW,HB⟩:=hrel
    by_cases hjl:j<bl.length
    ·obtain ⟨b,hb⟩:∃ b,bl[j]?=some b:=⟨bl[j],List.getElem?_eq_getElem hjl⟩
     have hdj:decide ((j:Int)<(bl.length:Int))=true:=decide_eq_true (by omega)
     have hbm:b∈bitsOf U:=by rw [← HBL.out];exact List.mem_of_getElem? hb
     have hb6:b<6:=by
      have h9:=((mem_bitsOf _ _).mp hbm).2
      rcases Nat.lt_or_ge b 6 with h8 | h8
      ·exact h8
      ·rw [Nat.testBit_lt_two_pow (Nat.lt_of_lt_of_le hul (Nat.pow_le_pow_right (by decide) h8:2 ^ 6≤2 ^ b))] at h9
       cases h9
     obtain ⟨b0,u,hb0,-,hbb,hxx,hc⟩:=(RowI.intsV HROW.out).elem (k:=j) (by rw [HLI.out];simpa using hjl)
     subst hb0
     have hub:u=(b:Int):=by
      rw [HLI.out,List.getElem?_map,hb] at hxx
      simpa using hxx.symm
     subst hub
     have HLr:=HLN.out.keep HB.out
     have hkc:=HLr.cell hk61 (v:=b) (by omega)
     have bi0:(0:Int)≤(b:Int):=by omega
     have bi1:(b:Int)<6:=by omega
     have ji0:(0:Int)≤(j:Int):=by omega
     have ji1:(j:Int)<(bl.length:Int):=by omega
     have hk9:=HLN.out.lt k b
     have hhas:=bitHas_any (kn k b) l (by omega) (by omega) wr
     obtain ⟨kb,hkb⟩:∃ kb,kb=kn k b:=⟨_,rfl⟩
     have HKB:=Lib.hid hkb
     rw [← hkb] at hkc hk9 hhas
     clear hbm hxx HLr hkb
     have HBJ:=Lib.hid hb
     clear hb
     cases hbit:kb.testBit l
     ·have HY3:Hid (∀ x,y2.testBit x=true↔(x<k∧UsP ts ns l x)∨(x=k∧∃ i v,i<j+1∧bl[i]?=some v∧(kn k v).testBit l=true)):=by
       intro x
       rw [HY2.out x]
       constructor
       ·rintro (h1 | ⟨h1,i,v,h2,h3⟩)
        ·exact .inl h1
        ·exact .inr ⟨h1,i,v,by omega,h3⟩
       ·rintro (h1 | ⟨h1,i,v,h2,h3,h4⟩)
        ·exact .inl h1
        ·by_cases e:i=j
         ·subst e
          rw [HBJ.out] at h3
          injection h3 with h3
          subst h3
          rw [← HKB.out,hbit] at h4
          cases h4
         ·exact .inr ⟨h1,i,v,by omega,h3,h4⟩
      rw [hbit] at hhas
      clear hbit HY2
      go_wp2_with fail
      refine hhas.mono ?_
      rintro E w5 ⟨rfl,rfl⟩
      clear hhas
      go_wp2_with fail
      refine ⟨⟨j+1,y2,rfl,by simp,by omega,hy2,HY3,HROW,HB⟩,?_⟩
      simp only [intOf]
      omega
     ·have HY3:Hid (∀ x,(y2|||2 ^ k).testBit x=true↔(x<k∧UsP ts ns l x)∨(x=k∧∃ i v,i<j+1∧bl[i]?=some v∧(kn k v).testBit l=true)):=by
       intro x
       rw [testBit_withUA,HY2.out x]
       constructor
       ·rintro ((h1 | ⟨h1,i,v,h2,h3⟩) | h1)
        ·exact .inl h1
        ·exact .inr ⟨h1,i,v,by omega,h3⟩
        ·exact .inr ⟨h1.symm,j,b,by omega,HBJ.out,by rw [← HKB.out];exact hbit⟩
       ·rintro (h1 | ⟨h1,i,v,h2,h3,h4⟩)
        ·exact .inl (.inl h1)
        ·exact .inr h1.symm
      have hwi:=with_any y2 k (by omega) (by omega) wr
      have hz61:y2|||2 ^ k<2305843009213693952:=or_lt61 hy2 (Nat.lt_of_lt_of_le (Nat.pow_lt_pow_right (by decide) hk61:2 ^ k<2 ^ 61) (by decide))
      rw [hbit] at hhas
      generalize y2|||2 ^ k=y3 at hwi hz61 HY3
      clear hbit HY2
      go_wp2_with fail
      refine hhas.mono ?_
      rintro E w5 ⟨rfl,rfl⟩
      clear hhas
      go_wp2_with fail
      refine hwi.mono ?_
      rintro E w6 ⟨rfl,hb6'⟩
      have HB6:=Lib.hid (HB.out.trans (hb6'.mono HB.out.size))
      have HROW6:Hid (RowI w6 w.heap.size (.slice (some b0) bl.length cr) (intsOf U)):=HROW.out.below hb6'
      clear hwi hb6'
      go_wp2_with fail
      refine ⟨⟨j+1,y3,rfl,by simp,by omega,hz61,HY3,HROW6,HB6⟩,?_⟩
      simp only [intOf]
      omega
    ·have jd:decide ((j:Int)<(bl.length:Int))=false:=decide_eq_false (by omega)
     have HY3:Hid (∀ x,y2.testBit x=true↔x<k+1∧UsP ts ns l x):=by
      intro x
      rw [HY2.out x]
      have hT6:=HA.out.1
      constructor
      ·rintro (h1 | ⟨rfl,i,v,h2,h3,h4⟩)
       ·exact ⟨by omega,h1.2⟩
       ·have hm:v∈bitsOf U:=by rw [← HBL.out];exact List.mem_of_getElem? h3
        have hm2:=(mem_bitsOf _ _).mp hm
        have hu:=(HUB.out v hm2.1).mp hm2.2
        have h10:=typed_use (HA.out.2 x d HD.out) _ hu
        exact ⟨by omega,v,d,by omega,HD.out,(HLN.out.bit hkl (by omega)).mp h4,hu⟩
      ·rintro ⟨h1,h2⟩
       by_cases e:x=k
       ·subst e
        obtain ⟨v,d',h3,h4,h5,h6⟩:=h2
        rw [HD.out] at h4
        injection h4 with h4
        subst h4
        have hm:v∈bl:=by
         rw [HBL.out,mem_bitsOf]
         exact ⟨by omega,(HUB.out v (by omega)).mpr h6⟩
        obtain ⟨i,hi',him⟩:=List.mem_iff_getElem.mp hm
        exact .inr ⟨rfl,i,v,by omega,by rw [List.getElem?_eq_getElem hi',him],(HLN.out.bit hkl (by omega)).mpr h5⟩
       ·exact .inl ⟨by omega,h2⟩
     clear HY2
     go_wp2_with fail
     refine ⟨⟨k+1,y2,rfl,by simp,by omega,hy2,HY3,HB.out⟩,?_⟩
     simp only [intOf]
     omega
  ·have hdk:decide ((k:Int)<(ns.length:Int))=false:=decide_eq_false (by omega)
   have hke:k=ns.length:=by omega
   subst hke
   go_wp2_with fail
   go_ret
   exact ⟨y,rfl,hy,HY.out,hb⟩
theorem heldUA1 {K:Nat} {w1 wo w':World} {a0:Addr} {b0:Value} (hb:Below wo.heap.size wo w') (h:Below K w1 wo) (hK:K=w1.heap.size) (h0:a0.block<w1.heap.size) (q0:w1.cell? a0=some b0) :
  Below K w1 w'∧w'.cell? a0=some b0:=by
 subst hK
 have hbb:Below w1.heap.size w1 w':=h.trans (hb.mono h.size)
 exact ⟨hbb,(hbb.cell h0).trans q0⟩
theorem uses_row {ts:List Int} {ns:List Nd} {q a l y z:Nat} (hD:PtsOk q ns) (hle:ns.length≤61) (hs:a ∉ nextN ns a) (hy:∀ x,x<64→(y.testBit x=true↔x∈nmsR (bfsE (nextN ns) a))) (hz:∀ i,z.testBit i=true↔i<ns.length∧UsP ts ns l i) :
  bitsOf (y&&&z)=(List.range ns.length).filter (uaB ts ns a l):=by
 rw [bitsOf_filter]
 have h1:(List.range 64).filter (fun k=>(y&&&z).testBit k)=(List.range 64).filter (uaB ts ns a l):=by
  apply List.filter_congr
  intro x hx
  have hx64:x<64:=List.mem_range.mp hx
  rw [Bool.eq_iff_iff,Nat.testBit_and,Bool.and_eq_true,hy x hx64,hz x,uaB_iff,mem_bfsE hs (nextN_lt hD) hle]
  constructor
  ·rintro ⟨h1,h2,h3⟩
   exact ⟨h1,h3⟩
  ·rintro ⟨h1,h3⟩
   obtain ⟨v,d,h4,h5,h6⟩:=id h3
   exact ⟨h1,(List.getElem?_eq_some_iff.mp h5).1,h3⟩
 rw [h1]
 have h2:64=ns.length+(64-ns.length):=by omega
 rw [h2]
 refine filter_more _ _ (fun i hi=>?_) _
 obtain ⟨h3,v,d,h4,h5,h6⟩:=uaB_iff.mp hi
 exact (List.getElem?_eq_some_iff.mp h5).1
theorem useAfter_any (ts:List Int) (ns:List Nd) (C F hi:Nat) (A:Option Addr) (c:Nat) (ah bk:Nat→Nat) (L:Nat) (mb lv:Nat→Nat) (kn:Nat→Nat→Nat) (q a l:Nat) (w:World) (h:Lend ts ns C F hi A c ah bk L mb lv kn w) (hA:AllTyped ts ns) (hD:PtsOk q ns) (hs:a ∉ nextN ns a) (ha:a<ns.length) (hl:l<ns.length)
  (hTab:TabAt 0 Lib.deBruijn64tab w) (hg:0<w.heap.size) :
  Calls Tryz.prog 57 #[.pointer (some ⟨L,0,none⟩),.int .i64 (a:Int),.int .i64 (l:Int)] w fun E w'=>∃ (u:Int) (r:Bool),E=.returned (.tuple #[.int .i64 u,.bool r])∧((∃ b:Nat,u=(b:Int)∧r=true∧bestF (dstR (bfsE (nextN ns) a)) (uaB ts ns a l) ns.length=some b)∨(u=0∧r=false∧bestF (dstR (bfsE (nextN ns) a)) (uaB ts ns a l) ns.length=none))∧Below w.heap.size w w':=by
 have hle:=h.ln.fl.gr.le
 have hF:=h.ln.flCell
 have hgc:=h.ln.fl.grCell
 have hse:=search_any C q a ns w hD hle hs ha h.ln.fl.gr
 have hmf:∀ (fn:Fn) (first cap:Array Value) (w:World),(Instr.makeFunc fn first cap).run Tryz.prog w=.ok (.func fn first cap) w:=fun _ _ _ _=>rfl
 have HLN:=Lib.hid h
 have HTAB:=Lib.hid hTab
 have HA:=Lib.hid hA
 have HMF:=Lib.hid hmf
 have HROWS:Hid (∀ y z:Nat,(∀ x,x<64→(y.testBit x=true↔x∈nmsR (bfsE (nextN ns) a)))→(∀ i,z.testBit i=true↔i<ns.length∧UsP ts ns l i)→bitsOf (y&&&z)=(List.range ns.length).filter (uaB ts ns a l)):=fun y z=>uses_row hD hle hs
 have HLE:=Lib.hid hle
 clear h hTab hA hmf hD hs hle
 go_enter Tryz.func57,Tryz.ntmps57
 go_wp2_with fail
 refine hse.mono ?_
 rintro E w1 ⟨S,rfl,hSb,hSM,hb1⟩
 have hz1:=hb1.size
 obtain ⟨y,q0,hy64,hyb⟩:=hSM.bits
 have hl0:(⟨S,0,none⟩:Addr).block<w1.heap.size:=hSM.lt
 have HSM:=Lib.hid hSM
 have HYB:=Lib.hid hyb
 have HB1:=Lib.hid hb1
 have hus:∀ W:World,Below w1.heap.size w1 W→Calls Tryz.prog 95 #[.pointer (some ⟨L,0,none⟩),.int .i64 (l:Int)] W fun E w'=>∃ z:Nat,E=.returned (.int .u64 (z:Int))∧z<2305843009213693952∧(∀ i,z.testBit i=true↔i<ns.length∧UsP ts ns l i)∧Below W.heap.size W w':=fun W hW=>by
  have hbW:=HB1.out.trans (hW.mono hz1)
  exact usesOf_any ts ns C F hi A c ah bk L mb lv kn l W (HLN.out.keep hbW) HA.out hl (tab_below HTAB.out hg hbW) (by have:=hbW.size;omega)
 have hls:∀ (W:World) (z:Nat),Below w1.heap.size w1 W→Calls Tryz.prog 96 #[.int .u64 ((y&&&z:Nat):Int)] W fun E w'=>∃ v,E=.returned v∧RowI w' w1.heap.size v (intsOf (y&&&z))∧Below W.heap.size W w':=fun W z hW=>by
  have hbW:=HB1.out.trans (hW.mono hz1)
  exact (setList_any (y&&&z) (Nat.lt_of_le_of_lt Nat.and_le_left hy64) W (tab_below HTAB.out hg hbW) (by have:=hbW.size;omega)).mono (by rintro E w' ⟨v,rfl,hr,hb⟩;exact ⟨v,rfl,hr.mono hW.size,hb⟩)
 have hand:∀ z:Nat,z<2305843009213693952→bits .and .u64 (y:Int) (z:Int)=((y&&&z:Nat):Int):=fun z hz=>bits_and_u64 y z hy64 (by omega)
 have HUS:=Lib.hid hus
 have HLS:=Lib.hid hls
 have HAND:=Lib.hid hand
 clear hse hF hgc hSM hyb hb1 hus hls hand
 go_wp2_with fail
 go_region_held3 (fun w'=>Below w1.heap.size w1 w'∧w'.cell? ⟨S,0,none⟩=some (.int .u64 (y:Int)))
  (first | exact ⟨(Below.refl w1.heap.size w1).drew,q0⟩ | exact heldUA1 hbn (And.left ‹Below w1.heap.size w1 _∧_›) rfl hl0 q0)
  (first
   | (go_at_call 95;refine (HUS.out _ (And.left ‹Below w1.heap.size w1 _∧_›)).mono ?_;rintro E w' ⟨z,rfl,hz61,hzb,hbn⟩;have HZB:=Lib.hid hzb;have hnd:=HAND.out z hz61;clear hzb)
   | (go_at_call 96;refine (HLS.out _ _ (And.left ‹Below w1.heap.size w1 _∧_›)).mono ?_;rintro E w' ⟨v,rfl,hrow,hbn⟩;have HROW:=Lib.hid hrow;clear hrow))
 all_goals
  obtain ⟨hbl,-⟩:=‹Below w1.heap.size w1 _∧_›
  have HBL:=Lib.hid hbl
  have HBF:=Lib.hid (HB1.out.trans (hbl.mono hz1))
  obtain ⟨Lr,hLr⟩:∃ Lr,Lr=(List.range ns.length).filter (uaB ts ns a l):=⟨_,rfl⟩
  have hbits:=HROWS.out y z HYB.out HZB.out
  rw [← hLr] at hbits
  have hbest:=bestF_list (dstR (bfsE (nextN ns) a)) (uaB ts ns a l) ns.length
  rw [← hLr] at hbest
  have HX61:Hid (∀ x∈Lr,x<61):=by
   intro x hx
   rw [hLr] at hx
   have:=List.mem_range.mp (List.mem_filter.mp hx).1
   have:=HLE.out
   omega
  have hlen:Lr.length≤61:=by
   rw [hLr]
   have:=List.length_filter_le (uaB ts ns a l) (List.range ns.length)
   rw [List.length_range] at this
   have:=HLE.out
   omega
  have hints:intsOf (y&&&z)=Lr.map Int.ofNat:=by unfold intsOf;rw [hbits];rfl
  have hrow2:=HROW.out
  rw [hints] at hrow2
  obtain ⟨Ar,cr,hv⟩:=hrow2.slice
  rw [List.length_map] at hv
  subst hv
  have HR2:=Lib.hid hrow2
  have HBEST:=Lib.hid hbest
  have HSM2:=Lib.hid (HSM.out.kept (hbl.block S HSM.out.lt))
  clear hrow2 hbest hints hbits hLr hbl hnd hz61 HROW HZB HYB HROWS HAND HLS HUS HSM q0
  cases Lr with
  | nil =>
   have HN:Hid (bestF (dstR (bfsE (nextN ns) a)) (uaB ts ns a l) ns.length=none):=HBEST.out
   clear HBEST HR2 HX61
   go_wp2_with fail
   go_ret2
   exact ⟨0,false,rfl,.inr ⟨rfl,rfl,HN.out⟩,HBF.out⟩
  | cons x xs =>
   have HN:Hid (bestF (dstR (bfsE (nextN ns) a)) (uaB ts ns a l) ns.length=some (minL (dstR (bfsE (nextN ns) a)) x xs)):=HBEST.out
   obtain ⟨n,hn⟩:∃ n,(x :: xs).length=n:=⟨_,rfl⟩
   have hmin:=minFunc_any S n cr _ x Ar xs (bfsE (nextN ns) a) _ hn HX61.out (by omega) (by rw [← hn];exact HR2.out) HSM2.out
   have hn0:((n:Int)==0)=false:=by
    rw [beq_eq_false_iff_ne]
    have:(x :: xs).length=xs.length+1:=rfl
    omega
   have hmf:=HMF.out
   rw [hn]
   clear HBEST HR2 HX61 hn
   generalize minL (dstR (bfsE (nextN ns) a)) x xs=m at HN hmin
   go_wp2_with fail
   refine hmin.mono ?_
   rintro E w9 ⟨rfl,hb9⟩
   have HB9:=Lib.hid (HBF.out.trans (hb9.mono HBF.out.size))
   clear hmin hb9
   go_wp2_with fail
   go_ret2
   exact ⟨(m:Int),true,rfl,.inl ⟨m,rfl,rfl,HN.out⟩,HB9.out⟩
theorem implUseAfter_any (ts:List Int) (s:Sts) (At As:Option Addr) (ct cs:Nat) (a b:Int) (w:World) (hT:IntsV w 0 w.heap.size ts At ct) (hR:RepV w 0 w.heap.size s As cs)
  (hTab:TabAt 0 Lib.deBruijn64tab w) (hg:0<w.heap.size) :
  Calls Tryz.prog 26 #[.agg #[.slice At ts.length ct,.slice As s.len cs],.int .i64 a,.int .i64 b] w fun E w'=>∃ (u:Int) (r:Bool),E=.returned (.tuple #[.int .i64 u,.bool r])∧AnsUA ts s a b u r∧Below w.heap.size w w':=by
 have hb0:=(Below.refl w.heap.size w).alloc (Nat.le_refl _) (.cells #[.slice At ts.length ct,.slice As s.len cs] 30)
 have hT1:IntsV (w.alloc (.cells #[.slice At ts.length ct,.slice As s.len cs] 30)) 0 (w.alloc (.cells #[.slice At ts.length ct,.slice As s.len cs] 30)).heap.size ts At ct:=hT.below hb0 (by simp)
 have hR1:RepV (w.alloc (.cells #[.slice At ts.length ct,.slice As s.len cs] 30)) 0 (w.alloc (.cells #[.slice At ts.length ct,.slice As s.len cs] 30)).heap.size s As cs:=hR.below hb0 (by simp)
 have hz0:(w.alloc (.cells #[.slice At ts.length ct,.slice As s.len cs] 30)).heap.size=w.heap.size+1:=by simp
 have HZ:=Lib.hid hz0
 have HTAB:=Lib.hid hTab
 have hTab1:=tab_below hTab hg hb0
 have hg1:0<(w.alloc (.cells #[.slice At ts.length ct,.slice As s.len cs] 30)).heap.size:=by rw [hz0];omega
 clear hz0 hTab
 cases hv:validB ts s
 ·have hS:=lendingOf_no ts s At As ct cs _ hv hT1 hR1
  have e:Hid (AnsUA ts s a b 0 false):=ansUA_out (fun h=>by have h9:=h.1;rw [hv] at h9;cases h9)
  clear hT1 hR1 hv hTab1 hg1
  go_enter Tryz.func26,Tryz.ntmps26
  go_wp2_with fail
  refine hS.mono ?_
  rintro E w1 ⟨rfl,hb1⟩
  rw [HZ.out] at hb1
  have hb:Below w.heap.size w w1:=hb0.trans (hb1.mono (by omega))
  clear hb1 hS
  go_wp2_with fail
  go_ret2
  exact ⟨_,_,rfl,e.out,hb⟩
 have hS:=lendingOf_yes ts s At As ct cs _ hv hT1 hR1 hTab1 hg1
 have hA:=progPts_allTyped hv
 have hD:=progPts_ok s (valid_ok hv).2.1
 have hsf:=fun a:Nat=>nextN_self s a
 have hin:InUA ts s a b↔0≤a∧a<(progPts s).length∧0≤b∧b<(progPts s).length:=⟨fun h=>h.2,fun h=>⟨hv,h⟩⟩
 have hout:Hid (¬ (0≤a∧a<((progPts s).length:Int)∧0≤b∧b<((progPts s).length:Int))→AnsUA ts s a b 0 false):=fun h=>ansUA_out (fun h9=>h (hin.mp h9))
 have hins:Hid (∀ k l:Nat,a=(k:Int)→b=(l:Int)→k<(progPts s).length→l<(progPts s).length→(∀ x:Nat,bestF (dstR (bfsE (nextN (progPts s)) k)) (uaB ts (progPts s) k l) (progPts s).length=some x→AnsUA ts s a b (x:Int) true)∧(bestF (dstR (bfsE (nextN (progPts s)) k)) (uaB ts (progPts s) k l) (progPts s).length=none→AnsUA ts s a b 0 false)):=by
  rintro k l rfl rfl hk hl
  have hi:InUA ts s (k:Int) (l:Int):=hin.mpr ⟨by omega,by omega,by omega,by omega⟩
  exact ⟨fun x hx=>ansUA_some hi hx,fun hx=>ansUA_none hi hx⟩
 generalize s.npts=q at hD
 generalize progPts s=ds at hS hA hD hsf hout hins
 have HD:=Lib.hid hD
 have HA:=Lib.hid hA
 have HSF:=Lib.hid hsf
 clear hT1 hR1 hv hTab1 hg1 hin hD hA hsf hT hR
 by_cases ha:a<0∨(ds.length:Int)≤a
 ·have e:=Lib.hid (hout.out (by omega))
  go_enter Tryz.func26,Tryz.ntmps26
  go_wp2_with fail
  refine hS.mono ?_
  rintro E w1 ⟨C,F,hi,A2,c2,ah,bk,L,mb,lv,kn,rfl,hl,hLb,hb1⟩
  rw [HZ.out] at hLb hb1
  have hb:Below w.heap.size w w1:=hb0.trans (hb1.mono (by omega))
  have hbz:=hb.size
  have hfc:=hl.ln.flCell
  have hgc:=hl.ln.fl.grCell
  have hhas:=has_no C a ds w1 hl.ln.fl.gr ha
  clear hl hb1 hS ha
  go_wp2_with fail
  refine hhas.mono ?_
  rintro E w2 ⟨rfl,hb2⟩
  have hbB:=hb.trans (hb2.mono hbz)
  clear hhas hb2
  go_wp2_with fail
  go_ret2
  exact ⟨_,_,rfl,e.out,hbB⟩
 obtain ⟨k,rfl⟩:∃ n:Nat,a=(n:Int):=⟨a.toNat,by omega⟩
 have hk:k<ds.length:=by omega
 by_cases hbn:b<0∨(ds.length:Int)≤b
 ·have e:=Lib.hid (hout.out (by omega))
  go_enter Tryz.func26,Tryz.ntmps26
  go_wp2_with fail
  refine hS.mono ?_
  rintro E w1 ⟨C,F,hi,A2,c2,ah,bk,L,mb,lv,kn,rfl,hl,hLb,hb1⟩
  rw [HZ.out] at hLb hb1
  have hb:Below w.heap.size w w1:=hb0.trans (hb1.mono (by omega))
  have hbz:=hb.size
  have hfc:=hl.ln.flCell
  have hgc:=hl.ln.fl.grCell
  have hhas:=has_yes C k ds w1 hl.ln.fl.gr hk
  have HLN:=Lib.hid hl
  clear hl hb1 hS
  go_wp2_with fail
  refine hhas.mono ?_
  rintro E w2 ⟨rfl,hb2⟩
  have hbB:=hb.trans (hb2.mono hbz)
  have hzB:=hbB.size
  have HL2:=Lib.hid (HLN.out.keep hb2)
  have hfc2:=HL2.out.ln.flCell
  have hgc2:=HL2.out.ln.fl.grCell
  have hhas2:=has_no C b ds w2 HL2.out.ln.fl.gr hbn
  clear hhas hb2 hbn hfc hgc
  go_wp2_with fail
  refine hhas2.mono ?_
  rintro E w3 ⟨rfl,hb3⟩
  have hbC:=hbB.trans (hb3.mono hzB)
  clear hhas2 hb3
  go_wp2_with fail
  go_ret2
  exact ⟨_,_,rfl,e.out,hbC⟩
 obtain ⟨l,rfl⟩:∃ n:Nat,b=(n:Int):=⟨b.toNat,by omega⟩
 have hl':l<ds.length:=by omega
 obtain ⟨hyes,hno⟩:=hins.out k l rfl rfl hk hl'
 have HYES:=Lib.hid hyes
 have HNO:=Lib.hid hno
 clear hyes hno hins hout
 go_enter Tryz.func26,Tryz.ntmps26
 go_wp2_with fail
 refine hS.mono ?_
 rintro E w1 ⟨C,F,hi,A2,c2,ah,bk,L,mb,lv,kn,rfl,hl,hLb,hb1⟩
 rw [HZ.out] at hLb hb1
 have hb:Below w.heap.size w w1:=hb0.trans (hb1.mono (by omega))
 have hbz:=hb.size
 have hfc:=hl.ln.flCell
 have hgc:=hl.ln.fl.grCell
 have hhas:=has_yes C k ds w1 hl.ln.fl.gr hk
 have HLN:=Lib.hid hl
 clear hl hb1 hS
 go_wp2_with fail
 refine hhas.mono ?_
 rintro E w2 ⟨rfl,hb2⟩
 have hbB:=hb.trans (hb2.mono hbz)
 have hzB:=hbB.size
 have HL2:=Lib.hid (HLN.out.keep hb2)
 have hfc2:=HL2.out.ln.flCell
 have hgc2:=HL2.out.ln.fl.grCell
 have hhas2:=has_yes C l ds w2 HL2.out.ln.fl.gr hl'
 clear hhas hb2 hfc hgc
 go_wp2_with fail
 refine hhas2.mono ?_
 rintro E w3 ⟨rfl,hb3⟩
 have hbC:=hbB.trans (hb3.mono hzB)
 have hzC:=hbC.size
 have hua:=useAfter_any ts ds C F hi A2 c2 ah bk L mb lv kn q k l w3 (HL2.out.keep hb3) HA.out HD.out (HSF.out k) hk hl' (tab_below HTAB.out hg hbC) (by omega)
 clear hhas2 hb3 hfc2 hgc2
 go_wp2_with fail
 refine hua.mono ?_
 rintro E w4 ⟨u,r,rfl,hans,hb4⟩
 have HB4:=Lib.hid (hbC.trans (hb4.mono hzC))
 have HANS:Hid (AnsUA ts s (k:Int) (l:Int) u r):=by
  rcases hans with ⟨x,rfl,rfl,h9⟩ | ⟨rfl,rfl,h9⟩
  ·exact HYES.out x h9
  ·exact HNO.out h9
 clear hua hans hb4 HYES HNO
 go_wp2_with fail
 go_ret2
 exact ⟨u,r,rfl,HANS.out,HB4.out⟩
end Go.Proofs.YtedkkphogeealaaGreatDoor
