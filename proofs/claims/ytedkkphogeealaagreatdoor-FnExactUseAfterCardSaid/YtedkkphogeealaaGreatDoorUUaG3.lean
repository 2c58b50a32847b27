/- The model's question whether a point uses a loan. -/
import Derived.Test.YtedkkphogeealaaGreatDoorULmoX
import Derived.Test.YtedkkphogeealaaGreatDoorUL3G
import Derived.Test.YtedkkphogeealaaGreatDoorUUaG1
import Derived.Deep.RegionHeld3
import Derived.Deep.DeepCutAuto
import Derived.Deep.QuietTactic
import Derived.Test.YtedkkphogeealaaGreatDoorUQue
import Derived.Test.YtedkkphogeealaaGreatDoorUMem
import Derived.Test.YtedkkphogeealaaGreatDoorUL2Xa
import Derived.Test.YtedkkphogeealaaGreatDoorUBase
import Derived.Deep.LoopGhost
import Derived.Test.YtedkkphogeealaaGreatDoorUUaG2
import Derived.Test.YtedkkphogeealaaGreatDoorUL2Xb
import Derived.Test.YtedkkphogeealaaGreatDoorUStmtY
namespace Go.Proofs.YtedkkphogeealaaGreatDoor
open Go.RowKit Go.Deep
set_option linter.unusedVariables false
set_option maxRecDepth 100000
set_option maxHeartbeats 4000000
theorem l13Uses_any (ts:List Int) (At:Option Addr) (ct K n l:Nat) (d:Nd) (u:Value) (m:M4) (S:Nat→Nat→Bool) (w:World) (hl:l<n) (ht6:ts.length≤6) (hK:K≤w.heap.size) (hT:IntsV w 0 w.heap.size ts At ct) (hS:S4 w K ts.length n m S) :
  Calls Tryz.prog 53 #[.slice At ts.length ct,.agg #[.int .i64 d.op,.int .i64 d.x,.int .i64 d.y,.int .i64 d.n,u],.agg #[.slice m.fa ts.length m.cf,.slice (some ⟨m.bl 6,0,none⟩) n (m.cp 6)],.int .i64 (l:Int)] w fun E w'=>∃ b,E=.returned (.bool b)∧(b=true↔∃ v:Nat,v<ts.length∧S v l=true∧useI ts d (v:Int)≠0)∧Below w.heap.size w w':=by
 have hbX:=((Below.refl w.heap.size w).alloc (Nat.le_refl _) (.cells #[.int .i64 d.op,.int .i64 d.x,.int .i64 d.y,.int .i64 d.n,u] 75)).alloc (by simp) (.cells #[.slice m.fa ts.length m.cf,.slice (some ⟨m.bl 6,0,none⟩) n (m.cp 6)] 81)
 have htm:=hT.2.1
 unfold maxLen at htm
 obtain ⟨W,hW⟩:∃ W,W=((w.alloc (.cells #[.int .i64 d.op,.int .i64 d.x,.int .i64 d.y,.int .i64 d.n,u] 75)).alloc (.cells #[.slice m.fa ts.length m.cf,.slice (some ⟨m.bl 6,0,none⟩) n (m.cp 6)] 81)):=⟨_,rfl⟩
 have hT2:IntsV W 0 W.heap.size ts At ct:=by rw [hW];exact hT.below hbX (by simp;omega)
 have hS2:S4 W K ts.length n m S:=by rw [hW];exact hS.keep hbX
 have hz:W.heap.size=w.heap.size+2:=by rw [hW];simp
 have hP:W.heap[w.heap.size]?=some (.cells #[.int .i64 d.op,.int .i64 d.x,.int .i64 d.y,.int .i64 d.n,u] 75):=by
  rw [hW]
  exact (((Below.refl _ _).alloc (Nat.le_refl _) _:Below (w.alloc (.cells #[.int .i64 d.op,.int .i64 d.x,.int .i64 d.y,.int .i64 d.n,u] 75)).heap.size (w.alloc (.cells #[.int .i64 d.op,.int .i64 d.x,.int .i64 d.y,.int .i64 d.n,u] 75)) _).block w.heap.size (by simp)).trans (heap_alloc_new w _)
 have hQ:W.heap[w.heap.size+1]?=some (.cells #[.slice m.fa ts.length m.cf,.slice (some ⟨m.bl 6,0,none⟩) n (m.cp 6)] 81):=by
  have h9:=heap_alloc_new (w.alloc (.cells #[.int .i64 d.op,.int .i64 d.x,.int .i64 d.y,.int .i64 d.n,u] 75)) (.cells #[.slice m.fa ts.length m.cf,.slice (some ⟨m.bl 6,0,none⟩) n (m.cp 6)] 81)
  rw [show (w.alloc (.cells #[.int .i64 d.op,.int .i64 d.x,.int .i64 d.y,.int .i64 d.n,u] 75)).heap.size=w.heap.size+1 by simp] at h9
  rw [hW]
  exact h9
 have hBW:Below w.heap.size w W:=by rw [hW];exact hbX
 have HT:=Lib.hid hT2
 have HS:=Lib.hid hS2
 have HP:=Lib.hid hP
 have HQ:=Lib.hid hQ
 have HBW:=Lib.hid hBW
 clear hT hS hT2 hS2 hP hQ hBW hbX
 go_enter Tryz.func53,Tryz.ntmps53
 go_wp2_with fail
 simp only [← hW]
 clear hW
 go_loopw [9] (fun i wr=>∃ k:Nat,i=.int .i64 k∧k≤ts.length∧Hid (∀ v:Nat,v<k→¬ (S v l=true∧useI ts d (v:Int)≠0))∧Below W.heap.size W wr) (fun i _=>ts.length-(intOf i).toNat)
 case atStart=>exact ⟨0,rfl,Nat.zero_le _,fun v h=>by omega,Below.refl _ _⟩
 case round =>
  obtain ⟨k,rfl,hk,hno,hb⟩:=hrel
  have hbz:=hb.size
  have hbw:=HBW.out.trans (hb.mono (by omega))
  by_cases hlt:k<ts.length
  ·have hdk:decide ((k:Int)<(ts.length:Int))=true:=decide_eq_true (by omega)
   have f1:IntKind.i64.wrap ((k:Int)+1)=(k:Int)+1:=IntWalk.i64_in _ (by omega)
   have hSr:=HS.out.keep hb
   have hfa:=hSr.fa (by omega)
   have hBP:=(hb.block w.heap.size (by omega)).trans HP.out
   have hBQ:=(hb.block (w.heap.size+1) (by omega)).trans HQ.out
   have p0:wr.cell? ⟨w.heap.size,0,none⟩=some (.int .i64 d.op):=(cB hBP 0).trans rfl
   have p1:wr.cell? ⟨w.heap.size,1,none⟩=some (.int .i64 d.x):=(cB hBP 1).trans rfl
   have p2:wr.cell? ⟨w.heap.size,2,none⟩=some (.int .i64 d.y):=(cB hBP 2).trans rfl
   have p3:wr.cell? ⟨w.heap.size,3,none⟩=some (.int .i64 d.n):=(cB hBP 3).trans rfl
   have p4:wr.cell? ⟨w.heap.size,4,none⟩=some u:=(cB hBP 4).trans rfl
   have q0:wr.cell? ⟨w.heap.size+1,0,none⟩=some (.slice m.fa ts.length m.cf):=(cB hBQ 0).trans rfl
   rw [hfa] at q0
   have c2:=hSr.slot hlt
   have hcf:=hSr.cf
   have hcp:=hSr.cp k (.inl hlt)
   have hcf2:=hcf.2
   have hcp2:=hcp.2
   unfold maxLen at hcf2 hcp2
   have c3:=(hSr.fl k (.inl hlt)).cell hl
   have hu:=l3Use_any ts At ct d.op d.x d.y d.n d.next u k wr hlt (HT.out.below hb (by omega))
   obtain ⟨sv,hsv⟩:∃ sv,S k l=sv:=⟨_,rfl⟩
   rw [hsv] at c3
   have HSV:=Lib.hid hsv
   clear hSr hBP hBQ hfa hsv
   cases sv
   ·have hno2:Hid (∀ v:Nat,v<k+1→¬ (S v l=true∧useI ts d (v:Int)≠0)):=by
     intro v hv h
     by_cases e:v=k
     ·subst e
      rw [HSV.out] at h
      cases h.1
     ·exact hno.out v (by omega) h
    clear hu p0 p1 p2 p3 p4
    go_wp2_with fail
    refine ⟨⟨k+1,by simp,by omega,hno2,hb⟩,?_⟩
    simp only [intOf]
    omega
   ·go_wp2_with fail
    refine hu.mono ?_
    rintro E w5 ⟨rfl,hb5⟩
    have HB5:=Lib.hid (hb.trans (hb5.mono hbz))
    obtain ⟨z,hz⟩:∃ z,useI ts d (k:Int)=z:=⟨_,rfl⟩
    have HU:=Lib.hid hz
    clear hu hb5 p0 p1 p2 p3 p4 q0 c2 c3
    try rw [hz]
    by_cases h0:z=0
    ·have hno2:Hid (∀ v:Nat,v<k+1→¬ (S v l=true∧useI ts d (v:Int)≠0)):=by
      intro v hv h
      by_cases e:v=k
      ·subst e
       exact h.2 (HU.out.trans h0)
      ·exact hno.out v (by omega) h
     subst h0
     clear hz
     go_wp2_with fail
     refine ⟨⟨k+1,by simp,by omega,hno2,HB5.out⟩,?_⟩
     simp only [intOf]
     omega
    ·have hzn:(z != 0)=true:=by simpa using h0
     have HEX:Hid (∃ v:Nat,v<ts.length∧S v l=true∧useI ts d (v:Int)≠0):=⟨k,hlt,HSV.out,by rw [HU.out];exact h0⟩
     have HBF:=Lib.hid (HBW.out.trans (HB5.out.mono (by omega)))
     clear hz
     go_wp2_with fail
     go_ret
     exact ⟨true,rfl,⟨fun _=>HEX.out,fun _=>rfl⟩,HBF.out⟩
  ·have hdk:decide ((k:Int)<(ts.length:Int))=false:=decide_eq_false (by omega)
   have hke:k=ts.length:=by omega
   go_wp2_with fail
   go_ret
   exact ⟨false,rfl,⟨fun h=>(by cases h),fun ⟨v,h1,h2⟩=>absurd h2 (hno.out v (by omega))⟩,hbw⟩
def befI (R:List (Nat × Nat)) (x:Nat):Int:=if x∈nmsR R then (parR R x:Int) else -1
def BfM (w:World) (G n:Nat) (b:Nat→Int):Prop:=∃ cur,w.heap[G]?=some (.cells cur 3 (0,0))∧cur.size=n∧∀ x,x<n→cur[x]?=some (.int .i64 (b x))
theorem BfM.kept {w w':World} {G n:Nat} {b:Nat→Int} (h:BfM w G n b) (hb:w'.heap[G]?=w.heap[G]?):BfM w' G n b:=by
 obtain ⟨cur,h1,h2⟩:=h
 exact ⟨cur,hb.trans h1,h2⟩
theorem BfM.lt {w:World} {G n:Nat} {b:Nat→Int} (h:BfM w G n b):G<w.heap.size:=by
 obtain ⟨cur,h1,h2⟩:=h
 exact heap_lt h1
theorem BfM.cell {w:World} {G n x:Nat} {b:Nat→Int} (h:BfM w G n b) (hx:x<n):w.cell? ⟨G,x,none⟩=some (.int .i64 (b x)):=by
 obtain ⟨cur,h1,h2,h3⟩:=h
 rw [cB h1]
 exact h3 x hx
theorem BfM.soft {w:World} {G n:Nat} {b:Nat→Int} (h:BfM w G n b) (x:Nat):w.frozen? ⟨G,x,none⟩=false:=by
 obtain ⟨cur,h1,h2,h3⟩:=h
 exact frozen_of_row _ _ _ _ _ h1
theorem BfM.put {w:World} {G n x:Nat} {b b':Nat→Int} {v:Int} (h:BfM w G n b) (hx:x<n) (h1:b' x=v) (h2:∀ z,z<n→z≠x→b' z=b z):BfM (w.setCell ⟨G,x,none⟩ (.int .i64 v)) G n b':=by
 obtain ⟨cur,c1,c2,c3⟩:=h
 refine ⟨_,heap_setCell_same _ _ _ _ _ _ c1,by simp [c2],fun z hz=>?_⟩
 rw [Array.getElem?_setIfInBounds]
 by_cases e:x=z
 ·subst e
  rw [if_pos rfl,if_pos (by omega),h1]
 ·rw [if_neg e,c3 z hz,h2 z hz (fun h=>e h.symm)]
theorem BfM.congr {w:World} {G n:Nat} {b b':Nat→Int} (h:BfM w G n b) (hb:∀ z,z<n→b' z=b z):BfM w G n b':=by
 obtain ⟨cur,c1,c2,c3⟩:=h
 exact ⟨cur,c1,c2,fun z hz=>by rw [hb z hz];exact c3 z hz⟩
theorem befI_new {R:List (Nat × Nat)} {n a:Nat}:befI ((n,a) :: R) n=(a:Int)∧∀ z,z≠n→befI ((n,a) :: R) z=befI R z:=by
 constructor
 ·simp [befI,nmsR_cons,parR]
 ·intro z hz
  unfold befI
  by_cases h:z∈nmsR R
  ·rw [if_pos (by rw [nmsR_cons];exact List.mem_cons_of_mem _ h),if_pos h]
   rw [show parR ((n,a) :: R) z=parR R z by show (if n=z then a else parR R z)=_;rw [if_neg (fun e=>hz e.symm)]]
  ·rw [if_neg (fun e=>by rw [nmsR_cons,List.mem_cons] at e;exact e.elim hz h),if_neg h]
theorem l13Back_any (nx:Nat→List Nat) (R:List (Nat × Nat)) (G n f tz cap:Nat) (w:World) (hR:OkR nx f R) (hx:tz∈nmsR R) (hn:∀ a,∀ x∈nx a,x<n) (hn61:n≤61) (hcap:n≤cap) (hcm:cap≤maxLen) (hM:BfM w G n (befI R)) :
  Calls Tryz.prog 87 #[.slice (some ⟨G,0,none⟩) n cap,.int .i64 f,.int .i64 tz] w fun E w'=>∃ v,E=.returned v∧RowI w' w.heap.size v (intsW (wayR f R tz))∧Below w.heap.size w w':=by
 have hton:tz<n:=by
  have:=(parR_mem hR hx).1
  exact hn _ _ this
 have hlen:=wayR_length hR hx
 have hdl:=dstR_le R tz
 have hRl:=hR.length hn
 have hc0:=hM.cell hton
 have hb0:befI R tz=(parR R tz:Int):=by unfold befI;rw [if_pos hx]
 rw [hb0] at hc0
 have hGl:=hM.lt
 unfold maxLen at hcm
 have hb1:=(Below.refl w.heap.size w).alloc (Nat.le_refl _) (.cells #[.int .i64 (tz:Int)] 3)
 have hrow0:RowI (w.alloc (.cells #[.int .i64 (tz:Int)] 3)) w.heap.size (.slice (some ⟨w.heap.size,0,none⟩) 1 1) (intsW [tz]):=World.ownsRow_lit (base:=w.heap.size) (e:=3) (size:=1) w #[.int .i64 (tz:Int)] 1 (by omega) (by simp [maxLen]) rfl
 have hc1:(w.alloc (.cells #[.int .i64 (tz:Int)] 3)).cell? ⟨G,tz,none⟩=some (.int .i64 (parR R tz:Int)):=(hb1.cell (show G<w.heap.size from hGl)).trans hc0
 have hst:toR f R (parR R tz)++[tz]=wayR f R tz:=(wayR_step hR hx).symm
 have hpm:=(parR_mem hR hx).2
 have HST:Hid (∃ (t:Nat) (cur:List Nat),Value.int .i64 (parR R tz:Int)=.int .i64 (t:Int)∧(toR f R t).length=(toR f R (parR R tz)).length∧Hid (RowI (w.alloc (.cells #[.int .i64 (tz:Int)] 3)) w.heap.size (.slice (some ⟨w.heap.size,0,none⟩) 1 1) (intsW cur))∧Hid (toR f R t++cur=wayR f R tz)∧Hid (t≠f→t∈nmsR R)∧Hid (Below w.heap.size w (w.alloc (.cells #[.int .i64 (tz:Int)] 3)))):=⟨parR R tz,[tz],rfl,rfl,hrow0,hst,hpm,hb1⟩
 have HM:=Lib.hid hM
 have HR:=Lib.hid hR
 have HN:=Lib.hid hn
 have HB0:=Lib.hid hb1
 have HLW:Hid ((wayR f R tz).length≤62):=by unfold Hid;omega
 clear hR hx hn hlen hdl hRl hc0 hb0 hM hb1 hrow0 hst hpm
 go_enter Tryz.func87,Tryz.ntmps87
 go_wp2_with fail
 generalize w.alloc (.cells #[.int .i64 (tz:Int)] 3)=w1 at *
 clear hc1
 go_loopg [7,8] (toR f R (parR R tz)).length (fun gg o a wr=>∃ (t:Nat) (cur:List Nat),a=.int .i64 (t:Int)∧(toR f R t).length=gg∧Hid (RowI wr w.heap.size o (intsW cur))∧Hid (toR f R t++cur=wayR f R tz)∧Hid (t≠f→t∈nmsR R)∧Hid (Below w.heap.size w wr))
 case atStart=>exact HST
 case round =>
  clear HST HB0
  obtain ⟨t,cur,rfl,hgg,HO,HE,HT,HB⟩:=hrel
  obtain ⟨Ao,co,ho⟩:=HO.out.slice
  rw [intsW_length] at ho
  have hcl:cur.length≤62:=by
   have h1:=HE.out
   have h2:=HLW.out
   rw [← h1,List.length_append] at h2
   omega
  have hbz:=HB.out.size
  by_cases htf:t=f
  ·have HEE:Hid ([f]++cur=wayR f R tz):=by
    have h1:=HE.out
    unfold toR at h1
    rw [if_pos htf] at h1
    exact h1
   have hne:((t:Int) != (f:Int))=false:=by simp [htf]
   clear hgg HE HT
   have hrowL:RowI (wr.alloc (.cells #[.int .i64 (f:Int)] 3)) w.heap.size (.slice (some ⟨wr.heap.size,0,none⟩) 1 1) (intsW [f]):=World.ownsRow_lit (base:=w.heap.size) (e:=3) (size:=1) wr #[.int .i64 (f:Int)] 1 (by omega) (by simp [maxLen]) rfl
   have HRL:=Lib.hid hrowL
   have HO2:=Lib.hid (HO.out.below ((Below.refl wr.heap.size wr).alloc (Nat.le_refl _) (.cells #[.int .i64 (f:Int)] 3)))
   have HB2:=Lib.hid (HB.out.alloc hbz (.cells #[.int .i64 (f:Int)] 3))
   clear hrowL HO
   subst ho
   go_wp2_with (at_builtin;refine wpList_append_rows rfl _ _ rfl w.heap.size w.heap.size _ _ (intsW [f]) (intsW cur) (by rfl) rfl HRL.out HO2.out ?rb1 ?rb2 ?_)
   try (case rb1=>rw [intsW_length,intsW_length];simp;omega)
   try (case rb2=>simp;omega)
   intro v' w' hr' hgr'
   have hb':=HB2.out.grown hgr' (by simp;omega) (fun k hk=>((RowI.own HRL.out).lt k hk).1)
   rw [← intsW_append,HEE.out] at hr'
   have HR':=Lib.hid hr'
   have HBB:=Lib.hid hb'
   clear hr' hgr' hb'
   go_wp2_with fail
   go_ret
   exact ⟨v',rfl,HR'.out,HBB.out⟩
  ·have hne:((t:Int) != (f:Int))=true:=by simp;omega
   have htm:=HT.out htf
   have htn:t<n:=HN.out _ _ (parR_mem HR.out htm).1
   have hway:=wayR_step HR.out htm
   have htoR:toR f R t=wayR f R t:=by unfold toR;rw [if_neg htf]
   have hb0:befI R t=(parR R t:Int):=by unfold befI;rw [if_pos htm]
   have hGc:=(HM.out.kept (HB.out.block G hGl)).cell htn
   rw [hb0] at hGc
   have HE2:Hid (toR f R (parR R t)++([t]++cur)=wayR f R tz):=by
    have h1:=HE.out
    rw [htoR,hway,List.append_assoc] at h1
    exact h1
   have HT2:=Lib.hid (parR_mem HR.out htm).2
   have hgl:(toR f R (parR R t)).length<gk:=by
    rw [← hgg,htoR,hway,List.length_append]
    simp
   have HGL:=Lib.hid hgl
   clear hgg HE HT htoR hb0 hway hgl
   have hrowL:RowI (wr.alloc (.cells #[.int .i64 (t:Int)] 3)) w.heap.size (.slice (some ⟨wr.heap.size,0,none⟩) 1 1) (intsW [t]):=World.ownsRow_lit (base:=w.heap.size) (e:=3) (size:=1) wr #[.int .i64 (t:Int)] 1 (by omega) (by simp [maxLen]) rfl
   have HRL:=Lib.hid hrowL
   have hba:=(Below.refl wr.heap.size wr).alloc (Nat.le_refl _) (.cells #[.int .i64 (t:Int)] 3)
   have HO2:=Lib.hid (HO.out.below hba)
   have HB2:=Lib.hid (HB.out.alloc hbz (.cells #[.int .i64 (t:Int)] 3))
   have hGc2:(wr.alloc (.cells #[.int .i64 (t:Int)] 3)).cell? ⟨G,t,none⟩=some (.int .i64 (parR R t:Int)):=(hba.cell (show G<wr.heap.size by omega)).trans hGc
   clear hrowL HO hba
   subst ho
   go_wp2_with (at_builtin;refine wpList_append_rows rfl _ _ rfl w.heap.size w.heap.size _ _ (intsW [t]) (intsW cur) (by rfl) rfl HRL.out HO2.out ?rc1 ?rc2 ?_)
   try (case rc1=>rw [intsW_length,intsW_length];simp;omega)
   try (case rc2=>simp;omega)
   intro v' w' hr' hgr'
   have hb':=HB2.out.grown hgr' (by simp;omega) (fun k hk=>((RowI.own HRL.out).lt k hk).1)
   rw [← intsW_append] at hr'
   have hGc3:w'.cell? ⟨G,t,none⟩=some (.int .i64 (parR R t:Int)):=by
    have h1:=(HM.out.kept (hb'.block G hGl)).cell htn
    rw [show befI R t=(parR R t:Int) by unfold befI;rw [if_pos htm]] at h1
    exact h1
   have HR':=Lib.hid hr'
   have HBB:=Lib.hid hb'
   clear hr' hgr' hb' hGc hGc2
   go_wp2_with fail
   go_roundg (toR f R (parR R t)).length
   case measure=>exact HGL.out
   case rel=>exact ⟨parR R t,[t]++cur,rfl,rfl,HR',HE2,HT2,HBB⟩
theorem NextV.cellAt13 {w:World} {B:Nat} {u:Value} {next:List Int} (h:NextV w B u next) {x:Nat} (hx:x<next.length):∃ g,u=.slice (some ⟨g,0,none⟩) next.length next.length∧∀ v,next[x]?=some v→w.cell? ⟨g,x,none⟩=some (.int .i64 v):=by
 rcases h with ⟨h1,_⟩ | ⟨g,h1,_,h3⟩
 ·rw [h1] at hx
  exact absurd hx (Nat.not_lt_zero _)
 ·refine ⟨g,h1,fun v hv=>?_⟩
  rw [cB h3]
  simp [hv]
theorem NextV.asSlice13 {w:World} {B:Nat} {u:Value} {next:List Int} (h:NextV w B u next):∃ A c,u=.slice A next.length c:=by
 rcases h with ⟨h1,h2⟩ | ⟨g,h1,_,_⟩
 ·exact ⟨none,0,by rw [h2,h1];rfl⟩
 ·exact ⟨_,_,h1⟩
theorem BfM.made (w:World) (n:Nat):∃ b,BfM (w.alloc (.cells (madeCells #[.int .i64 0] n) 3)) w.heap.size n b:=by
 refine ⟨fun _=>0,_,heap_alloc_new w _,by simp [madeCells],fun i hi=>?_⟩
 simp [madeCells,hi,Nat.mod_one]
theorem l13Way_any (q f tz g cap B:Nat) (ns:List Nd) (w:World) (hD:PtsOk q ns) (hle:ns.length≤61) (hs:f ∉ nextN ns f) (hf:f<ns.length) (hto:tz<ns.length) (hg:g<w.heap.size) (hP:PRow w B (.slice (some ⟨g,0,none⟩) ns.length cap) ns) :
  Calls Tryz.prog 54 #[.slice (some ⟨g,0,none⟩) ns.length cap,.int .i64 f,.int .i64 tz] w (WayPost13 (nextN ns) f tz w):=by
 have hmk:=run_make_row' (P:=Tryz.prog) 22 3 (.int .i64 0) 8 Tryz.underlying22 Tryz.infoInt rfl .i64 .i64 ns.length (by omega) (by omega) w
 obtain ⟨b0,hbm⟩:=BfM.made w ns.length
 have hbw:=(Below.refl w.heap.size w).alloc (Nat.le_refl _) (.cells (madeCells #[.int .i64 0] ns.length) 3)
 have hz1:(w.alloc (.cells (madeCells #[.int .i64 0] ns.length) 3)).heap.size=w.heap.size+1:=by simp
 generalize w.alloc (.cells (madeCells #[.int .i64 0] ns.length) 3)=w1 at hmk hbm hbw hz1
 have HP:=Lib.hid hP
 have HD:=Lib.hid hD
 have HS:=Lib.hid hs
 have HZ1:=Lib.hid hz1
 have HBM:Hid (BfM w1 w.heap.size ns.length (fun z=>if z<0 then -1 else b0 z)):=hbm.congr (fun z hz=>by rw [if_neg (by omega)])
 have HBW:=Lib.hid hbw
 clear hP hD hs hz1 hbm hbw
 go_enter Tryz.func54,Tryz.ntmps54
 go_wp2_with fail
 clear hmk
 go_loopw [9] (fun i wr=>∃ k:Nat,i=.int .i64 k∧k≤ns.length∧Hid (BfM wr w.heap.size ns.length (fun z=>if z<k then -1 else b0 z))∧Hid (Below w.heap.size w wr)∧Hid (wr.heap.size=w.heap.size+1)) (fun i _=>ns.length-(intOf i).toNat)
 case atStart=>exact ⟨0,rfl,Nat.zero_le _,HBM,HBW,HZ1⟩
 case round =>
  clear HBM HBW HZ1
  obtain ⟨k,rfl,hk,HB,HW,HZ⟩:=hrel
  by_cases hlt:k<ns.length
  ·have hc:=HB.out.cell hlt
   have hsf:=HB.out.soft k
   have HB2:Hid (BfM (wr.setCell ⟨w.heap.size,k,none⟩ (.int .i64 (-1))) w.heap.size ns.length (fun z=>if z<k+1 then -1 else b0 z)):=HB.out.put hlt (by simp) (fun z hz hne=>by
    by_cases h:z<k
    ·rw [if_pos (by omega),if_pos h]
    ·rw [if_neg (by omega),if_neg h])
   have HW2:Hid (Below w.heap.size w (wr.setCell ⟨w.heap.size,k,none⟩ (.int .i64 (-1)))):=below_set13 HW.out (Nat.le_refl _)
   have HZ2:Hid ((wr.setCell ⟨w.heap.size,k,none⟩ (.int .i64 (-1))).heap.size=w.heap.size+1):=Lib.hid (by rw [← HZ.out];simp [World.setCell])
   clear HB HW HZ
   go_wp2_with fail
   refine ⟨⟨k+1,by simp,by omega,HB2,HW2,HZ2⟩,?_⟩
   simp only [intOf]
   omega
  ·have hke:k=ns.length:=by omega
   subst hke
   have HB0:Hid (BfM wr w.heap.size ns.length (befI [])):=HB.out.congr (fun z hz=>by rw [if_pos hz];simp [befI,nmsR])
   clear HB
   have hQ0:QRow (wr.alloc (.cells #[.int .i64 (f:Int)] 3)) (w.heap.size+1) (.slice (some ⟨wr.heap.size,0,none⟩) 1 1) [f]:=by
    refine ⟨wr.heap.size,0,1,#[.int .i64 (f:Int)],rfl,by rw [HZ.out];exact Nat.le_refl _,heap_alloc_new wr _,Nat.le_refl _,Nat.le_refl _,by unfold maxLen;omega,fun i x hx=>?_⟩
    cases i with
    | zero=>simp at hx;subst hx;rfl
    | succ i=>simp at hx
   have hb2:=(Below.refl wr.heap.size wr).alloc (Nat.le_refl _) (.cells #[.int .i64 (f:Int)] 3)
   have HB1:=Lib.hid (HB0.out.kept (hb2.block w.heap.size HB0.out.lt))
   have HW1:=Lib.hid (HW.out.alloc HW.out.size (.cells #[.int .i64 (f:Int)] 3))
   have HQ0:=Lib.hid hQ0
   clear hQ0 hb2 HW HZ HB0
   go_wp2_with fail
   generalize hw2:wr.alloc (.cells #[.int .i64 (f:Int)] 3)=w2 at *
   generalize wr.heap.size=G0 at HQ0 ⊢
   clear hw2
   go_loopg [10] 62 (fun gg wk wr=>∃ (i:Nat) (W:List Nat) (g2 off c2:Nat),wk=.slice (some ⟨g2,off,none⟩) W.length c2∧gg=62-i∧Hid (QRow wr (w.heap.size+1) (.slice (some ⟨g2,off,none⟩) W.length c2) W)∧Hid (W=(qR f (bfsR (nextN ns) f i)).drop i)∧Hid (BfM wr w.heap.size ns.length (befI (bfsR (nextN ns) f i)))∧Hid (tz ∉ nmsR (bfsR (nextN ns) f i))∧Hid (Below w.heap.size w wr))
   case atStart=>exact ⟨0,[f],G0,0,1,rfl,rfl,HQ0,Lib.hid rfl,HB1,Lib.hid (by simp [bfsR,nmsR]),HW1⟩
   case round =>
    clear HB1 HQ0 HW1
    obtain ⟨i,W,g2,off,c2,rfl,hgg,HQ,HE,HB,HT,HW⟩:=hrel
    have hbz:=HW.out.size
    have hGl:=HB.out.lt
    cases W with
    | nil =>
     have hfin:tz ∉ nmsR (bfsE (nextN ns) f):=by
      have h1:=HE.out
      have h2:(qR f (bfsR (nextN ns) f i)).length≤i:=List.drop_eq_nil_iff.mp h1.symm
      rw [qR_length] at h2
      rw [← bfsE_of HS.out (fun a x hx=>nextN_lt HD.out a x hx) hle h2]
      exact HT.out
     have hrowN:RowI (wr.alloc (.cells #[] 3)) w.heap.size (.slice (some ⟨wr.heap.size,0,none⟩) 0 0) []:=World.ownsRow_lit (base:=w.heap.size) (e:=3) (size:=1) wr #[] 0 (by omega) (by simp [maxLen]) rfl
     have HFIN:=Lib.hid hfin
     have HRN:=Lib.hid hrowN
     have HW2:=Lib.hid (HW.out.alloc hbz (.cells #[] 3))
     clear hgg HQ HE HB HT HW hfin hrowN
     go_wp2_with fail
     go_ret2
     exact ⟨.slice (some ⟨wr.heap.size,0,none⟩) 0 0,.inr ⟨HFIN.out,rfl,HRN.out⟩,HW2.out⟩
    | cons a V =>
     obtain ⟨ha1,ha2,ha3⟩:=drop_cons_of HE.out.symm
     have hokR:=bfsR_ok (nx:=nextN ns) HS.out i
     have hRl:=hokR.length (fun a x hx=>nextN_lt HD.out a x hx)
     rw [qR_length] at ha3
     have hi62:i<62:=by omega
     have han:a<ns.length:=by
      cases i with
      | zero=>cases ha1;exact hf
      | succ i=>exact nextN_lt HD.out _ _ (parR_mem hokR (qR_succ ha1)).1
     obtain ⟨R0,hR0⟩:∃ R0,R0=bfsR (nextN ns) f i:=⟨_,rfl⟩
     have HBI:Hid (BfI (nextN ns) f i a 0 R0):=Lib.hid (by rw [hR0];exact BfI.start HE.out.symm)
     have HVE:Hid (V=(qR f R0).drop (i+1)):=Lib.hid (by rw [hR0];exact ha2)
     obtain ⟨hc1,hc2,hqa,hqt⟩:=QRow.tail HQ.out
     unfold maxLen at hc2
     have hsl:=slice_tail g2 off V.length c2 hc1
     obtain ⟨g3,off3,h3⟩:∃ g3 off3,(if c2=1 then (⟨g2,off,none⟩:Addr) else ⟨g2,off+1,none⟩)=⟨g3,off3,none⟩:=by
      by_cases h:c2=1
      ·exact ⟨g2,off,by rw [if_pos h]⟩
      ·exact ⟨g2,off+1,by rw [if_neg h]⟩
     simp only [h3] at hsl hqt
     clear h3
     obtain ⟨d,hd⟩:∃ d,ns[a]?=some d:=⟨ns[a],List.getElem?_eq_getElem han⟩
     have htwo:=nextN_two HD.out hd
     have hint:=nextN_ints HD.out hd
     have HDA:=Lib.hid hd
     have HINT:=Lib.hid hint
     have HQT:=Lib.hid hqt
     have HGG:=Lib.hid hgg
     have hVl:V.length+1≤62:=by
      have h1:=congrArg List.length HVE.out
      rw [List.length_drop,qR_length,hR0] at h1
      omega
     rw [← hR0] at HB HT
     clear ha1 ha2 ha3 hokR hRl hd hint hqt hgg HQ HE hR0
     obtain ⟨ua,⟨-,-,-,-,q4⟩,hua⟩:=(HP.out.below HW.out).cells HDA.out
     clear hua
     go_wp2_with fail
     go_loopg [10,12] d.next.length (fun gg wk kk wr=>∃ (j:Nat) (R:List (Nat × Nat)) (W:List Nat) (g2 off c2:Nat),wk=.slice (some ⟨g2,off,none⟩) W.length c2∧kk=.int .i64 j∧j≤d.next.length∧gg=d.next.length-j∧Hid (QRow wr (w.heap.size+1) (.slice (some ⟨g2,off,none⟩) W.length c2) W)∧Hid (W=(qR f R).drop (i+1))∧Hid (BfI (nextN ns) f i a j R)∧Hid (BfM wr w.heap.size ns.length (befI R))∧Hid (tz ∉ nmsR R)∧Hid (Below w.heap.size w wr))
     case atStart=>exact ⟨0,R0,V,g3,off3,c2-1,rfl,rfl,Nat.zero_le _,rfl,HQT,HVE,HBI,HB,HT,HW⟩
     case round =>
      clear HQT HVE HBI HB HT HW hbz hGl hsl hqa hc1 hc2 hVl q4
      rename_i gO JO KO hJO hKO
      obtain ⟨j,R,W,g2,off,c2,rfl,rfl,hj,hgj,HQ,HE,HBI,HB,HT,HW⟩:=hrel
      have hbz:=HW.out.size
      have hGl:=HB.out.lt
      have hnl:(nextN ns a).length=d.next.length:=by rw [← HINT.out.1,intsW_length]
      have HNL:=Lib.hid hnl
      have HGJ:=Lib.hid hgj
      obtain ⟨un,⟨-,-,-,-,a4⟩,hun⟩:=(HP.out.below HW.out).cells HDA.out
      clear hgj hnl
      by_cases hjl:j<d.next.length
      ·obtain ⟨b0,hsb,hcell⟩:=NextV.cellAt13 hun hjl
       subst hsb
       obtain ⟨n,hnx⟩:∃ n,(nextN ns a)[j]?=some n:=⟨(nextN ns a)[j]'(by rw [HNL.out];exact hjl),List.getElem?_eq_getElem (by rw [HNL.out];exact hjl)⟩
       have hbx:d.next[j]?=some (n:Int):=by
        rw [← HINT.out.1]
        unfold intsW
        rw [List.getElem?_map,hnx]
        rfl
       have hnn:n<ns.length:=HINT.out.2 n (List.mem_of_getElem? hnx)
       have hcb:=hcell _ hbx
       have hcB:=HB.out.cell hnn
       have hsB:=HB.out.soft n
       have hnxt:=HBI.out.next hnx
       have hWl:W.length≤62:=by
        have h1:=congrArg List.length HE.out
        have h2:=(HBI.out.ok HS.out).length (fun a x hx=>nextN_lt HD.out a x hx)
        rw [List.length_drop,qR_length] at h1
        omega
       have HIL:=Lib.hid HBI.out.lt
       clear hcell hbx hun hnx
       by_cases hm:n∈nmsR R
       ·have hbv:befI R n=(parR R n:Int):=by unfold befI;rw [if_pos hm]
        rw [hbv] at hcB
        have hfe:fnd1 a R n=R:=by unfold fnd1;rw [if_pos hm]
        rw [hfe] at hnxt
        have HNXT:=Lib.hid hnxt
        clear hbv hfe hnxt
        go_wp2_with fail
        go_roundg (d.next.length-(j+1))
        case measure=>rw [HGJ.out];omega
        case rel=>exact ⟨j+1,R,W,g2,off,c2,rfl,by go_num,by omega,rfl,HQ,HE,HNXT,HB,HT,HW⟩
       ·have hbv:befI R n=-1:=by unfold befI;rw [if_neg hm]
        rw [hbv] at hcB
        have hfe:fnd1 a R n=(n,a) :: R:=by unfold fnd1;rw [if_neg hm]
        rw [hfe] at hnxt
        have HNXT:=Lib.hid hnxt
        have HB2:Hid (BfM (wr.setCell ⟨w.heap.size,n,none⟩ (.int .i64 (a:Int))) w.heap.size ns.length (befI ((n,a) :: R))):=HB.out.put hnn befI_new.1 (fun z _ hz=>befI_new.2 z hz)
        have HW2:Hid (Below w.heap.size w (wr.setCell ⟨w.heap.size,n,none⟩ (.int .i64 (a:Int)))):=below_set13 HW.out (Nat.le_refl _)
        clear hbv hfe hnxt HB
        by_cases hnt:n=tz
        ·subst hnt
         have hbk:=l13Back_any (nextN ns) ((n,a) :: R) w.heap.size ns.length f n ns.length (wr.setCell ⟨w.heap.size,n,none⟩ (.int .i64 (a:Int))) (HNXT.out.ok HS.out) (by rw [nmsR_cons];simp) (fun a x hx=>nextN_lt HD.out a x hx) hle (Nat.le_refl _) (by unfold maxLen;omega) HB2.out
         have hwy:=HNXT.out.way HS.out (fun a x hx=>nextN_lt HD.out a x hx) hle (x:=n) (by rw [nmsR_cons];simp)
         have HWY:=Lib.hid hwy
         clear hwy HQ HE HBI HT HW HB2
         go_wp2_with fail
         refine hbk.mono ?_
         rintro E w5 ⟨v,rfl,hrow,hb5⟩
         have HRW:=Lib.hid hrow
         have HBF:=Lib.hid (HW2.out.trans (hb5.mono HW2.out.size))
         have hz2:=HW2.out.size
         clear hbk hrow hb5
         go_wp2_with fail
         go_ret2
         exact ⟨v,.inl ⟨HWY.out.1,rfl,by rw [HWY.out.2];exact HRW.out.mono hz2⟩,HBF.out⟩
        ·have hne:((n:Int)==(tz:Int))=false:=by simp;omega
         have hTn:tz ∉ nmsR ((n,a) :: R):=by
          rw [nmsR_cons,List.mem_cons]
          rintro (h | h)
          ·exact hnt h.symm
          ·exact HT.out h
         have HTN:=Lib.hid hTn
         have HEN:Hid (W++[n]=(qR f ((n,a) :: R)).drop (i+1)):=Lib.hid (by rw [qR_drop_snoc HIL.out,← HE.out])
         have hs5:(wr.setCell ⟨w.heap.size,n,none⟩ (.int .i64 (a:Int))).heap.size=wr.heap.size:=by simp [World.setCell]
         have hQ5:QRow (wr.setCell ⟨w.heap.size,n,none⟩ (.int .i64 (a:Int))) (w.heap.size+1) (.slice (some ⟨g2,off,none⟩) W.length c2) W:=HQ.out.apart (Nat.lt_succ_self _)
         have HQ5:=Lib.hid hQ5
         clear hTn HT HE HQ HW hQ5
         go_wp2_with (at_builtin;refine wpList_append_queue rfl _ _ rfl (w.heap.size+1) _ _ (by rfl) (HQ5.out.below ((Below.refl _ _).alloc (Nat.le_refl _) _)) _ _ n (by rfl) ?pq1 (by omega) ?pr1 ?_)
         try (case pq1=>first | exact (cB (heap_alloc_new _ _) 0).trans rfl | exact (cB (by rw [← hs5];exact heap_alloc_new _ _) 0).trans rfl)
         try (case pr1=>simp [World.setCell];omega)
         intro v7 w7 hq7 hg7
         have hkb:Below (wr.setCell ⟨w.heap.size,n,none⟩ (.int .i64 (a:Int))).heap.size (wr.setCell ⟨w.heap.size,n,none⟩ (.int .i64 (a:Int))) ((wr.setCell ⟨w.heap.size,n,none⟩ (.int .i64 (a:Int))).alloc (.cells #[.int .i64 (n:Int)] 3)):=(Below.refl _ _).alloc (Nat.le_refl _) _
         have hql:=(HQ5.out.below hkb).lt
         have hbb:=(HW2.out.trans (hkb.mono HW2.out.size)).grown hg7 (by have:=HW2.out.size;have:=hkb.size;omega) (fun k hk=>by have:=(hql k hk).1;omega)
         have hB7:=(HB2.out.kept (hkb.block w.heap.size HB2.out.lt)).kept (hg7.block w.heap.size (by have:=hkb.size;omega) (fun e=>by have:=(hql _ e.symm).1;omega))
         have HQ7:=Lib.hid hq7
         have HB7:=Lib.hid hB7
         have HW7:=Lib.hid hbb
         clear hq7 hg7 hkb hql hbb hB7 HB2 HW2 HQ5 hs5
         go_wp2_with fail
         obtain ⟨g8,off8,c8,cur8,hv8,hq8⟩:=id HQ7.out
         go_roundg (d.next.length-(j+1))
         case measure=>rw [HGJ.out];omega
         case rel=>exact ⟨j+1,(n,a) :: R,W++[n],g8,off8,c8,hv8,by go_num,by omega,rfl,Lib.hid (by rw [← hv8];exact HQ7.out),HEN,HNXT,HB7,HTN,HW7⟩
      ·have hje:j=d.next.length:=by omega
       have hdn:R=bfsR (nextN ns) f (i+1):=BfI.done (by rw [HNL.out,← hje];exact HBI.out)
       have HE2:Hid (W=(qR f (bfsR (nextN ns) f (i+1))).drop (i+1)):=Lib.hid (by rw [← hdn];exact HE.out)
       have HB2:Hid (BfM wr w.heap.size ns.length (befI (bfsR (nextN ns) f (i+1)))):=Lib.hid (by rw [← hdn];exact HB.out)
       have HT2:Hid (tz ∉ nmsR (bfsR (nextN ns) f (i+1))):=Lib.hid (by rw [← hdn];exact HT.out)
       obtain ⟨An,cn,hsn⟩:=hun.asSlice13
       subst hsn
       subst hje
       have hjd:decide ((d.next.length:Int)<(d.next.length:Int))=false:=decide_eq_false (by omega)
       clear hdn HE HB HT HBI hun
       go_wp2_with fail
       go_roundg (62-(i+1))
       case measure=>rw [HGG.out];omega
       case rel=>exact ⟨i+1,W,g2,off,c2,rfl,rfl,HQ,HE2,HB2,HT2,HW⟩
theorem rowNilUA (w w1:World) (h:w.heap.size≤w1.heap.size):RowI (w1.alloc (.cells #[] 3)) w.heap.size (.slice (some ⟨w1.heap.size,0,none⟩) 0 0) []:=World.ownsRow_lit (base:=w.heap.size) (e:=3) (size:=1) w1 #[] 0 h (by simp [maxLen]) rfl
theorem pRow_lenUA {w:World} {B:Nat} {v:Value} {ns:List Nd} (h:PRow w B v ns):∃ A c,v=.slice A ns.length c:=by
 obtain ⟨xs,ho,_⟩:=h
 rcases ho.2 with ⟨hv,h0⟩ | ⟨g,cap,cur,hv,_⟩
 ·exact ⟨none,0,by rw [hv,h0]⟩
 ·exact ⟨_,_,hv⟩
theorem heldUA9 {K:Nat} {w1 wo w':World} {a0 a1 a2 a3 a4 a5 a6 a7 a8:Addr} {b0 b1 b2 b3 b4 b5 b6 b7 b8:Value} (hb:Below wo.heap.size wo w') (h:Below K w1 wo) (hK:K=w1.heap.size)
  (h0:a0.block<w1.heap.size) (h1:a1.block<w1.heap.size) (h2:a2.block<w1.heap.size) (h7:a7.block<w1.heap.size) (e3:a3.block=a2.block) (e4:a4.block=a2.block) (e5:a5.block=a2.block) (e6:a6.block=a2.block) (e8:a8.block=a7.block)
  (q0:w1.cell? a0=some b0) (q1:w1.cell? a1=some b1) (q2:w1.cell? a2=some b2) (q3:w1.cell? a3=some b3) (q4:w1.cell? a4=some b4) (q5:w1.cell? a5=some b5) (q6:w1.cell? a6=some b6) (q7:w1.cell? a7=some b7) (q8:w1.cell? a8=some b8) :
  Below K w1 w'∧w'.cell? a0=some b0∧w'.cell? a1=some b1∧w'.cell? a2=some b2∧w'.cell? a3=some b3∧w'.cell? a4=some b4∧w'.cell? a5=some b5∧w'.cell? a6=some b6∧w'.cell? a7=some b7∧w'.cell? a8=some b8:=by
 subst hK
 have hbb:Below w1.heap.size w1 w':=h.trans (hb.mono h.size)
 exact ⟨hbb,(hbb.cell h0).trans q0,(hbb.cell h1).trans q1,(hbb.cell h2).trans q2,(hbb.cell (by rw [e3];exact h2)).trans q3,(hbb.cell (by rw [e4];exact h2)).trans q4,(hbb.cell (by rw [e5];exact h2)).trans q5,(hbb.cell (by rw [e6];exact h2)).trans q6,(hbb.cell h7).trans q7,(hbb.cell (by rw [e8];exact h7)).trans q8⟩
def BwP (nx:Nat→List Nat) (a:Nat) (P:Nat→Bool) (k:Nat) (best:List Int):Prop :=
 (bestF (dstR (bfsE nx a)) P k=none∧best=[])∨∃ b,bestF (dstR (bfsE nx a)) P k=some b∧b∈nmsR (bfsE nx a)∧best=intsW (wayE nx a b)
theorem wayE_length {nx:Nat→List Nat} {a b:Nat} (hs:a ∉ nx a) (hb:b∈nmsR (bfsE nx a)):(intsW (wayE nx a b)).length=dstR (bfsE nx a) b+1:=by
 unfold intsW wayE
 rw [List.length_map]
 exact wayR_length (bfsE_ok hs) hb
theorem wayE_last {nx:Nat→List Nat} {a b:Nat} (hs:a ∉ nx a) (hb:b∈nmsR (bfsE nx a)):(intsW (wayE nx a b))[dstR (bfsE nx a) b]?=some (b:Int):=by
 unfold intsW wayE
 rw [List.getElem?_map,wayR_last (bfsE_ok hs) hb]
 rfl
theorem BwP.skip {nx:Nat→List Nat} {a k:Nat} {P:Nat→Bool} {best:List Int} (h:BwP nx a P k best) (hp:P k=false):BwP nx a P (k+1) best:=by
 unfold BwP
 rw [bestF_no hp]
 exact h
theorem BwP.take {nx:Nat→List Nat} {a k:Nat} {P:Nat→Bool} {best:List Int} (h:BwP nx a P k best) (hs:a ∉ nx a) (hp:P k=true) (hm:k∈nmsR (bfsE nx a)) (hl:best.length=0∨dstR (bfsE nx a) k+1<best.length):BwP nx a P (k+1) (intsW (wayE nx a k)):=by
 rcases h with ⟨h1,h2⟩ | ⟨b,h1,h2,h3⟩
 ·exact .inr ⟨k,bestF_first hp h1,hm,rfl⟩
 ·have:=wayE_length hs h2
  rw [← h3] at this
  exact .inr ⟨k,bestF_less hp h1 (by omega),hm,rfl⟩
theorem BwP.keep {nx:Nat→List Nat} {a k:Nat} {P:Nat→Bool} {best:List Int} (h:BwP nx a P k best) (hs:a ∉ nx a) (hl:best.length≠0) (hl2:best.length≤dstR (bfsE nx a) k+1):BwP nx a P (k+1) best:=by
 rcases h with ⟨h1,h2⟩ | ⟨b,h1,h2,h3⟩
 ·rw [h2] at hl
  exact absurd rfl hl
 ·have:=wayE_length hs h2
  rw [← h3] at this
  exact .inr ⟨b,bestF_more h1 (by omega),h2,h3⟩
theorem BwP.len {nx:Nat→List Nat} {a k n:Nat} {P:Nat→Bool} {best:List Int} (h:BwP nx a P k best) (hs:a ∉ nx a) (hn:∀ a,∀ y∈nx a,y<n):best.length≤n+1:=by
 rcases h with ⟨h1,h2⟩ | ⟨b,h1,h2,h3⟩
 ·rw [h2];simp
 ·rw [h3,wayE_length hs h2]
  have:=dstR_le (bfsE nx a) b
  have:=bfsE_len hs hn
  omega
theorem specUseAfter_any (ts:List Int) (s:Sts) (At As:Option Addr) (ct cs:Nat) (a b:Int) (w:World) (hsz:s.size≤1048576) (hT:IntsV w 0 w.heap.size ts At ct) (hR:RepV w 0 w.heap.size s As cs) :
  Calls Tryz.prog 25 #[.agg #[.slice At ts.length ct,.slice As s.len cs],.int .i64 a,.int .i64 b] w fun E w'=>∃ (u:Int) (r:Bool),E=.returned (.tuple #[.int .i64 u,.bool r])∧AnsUA ts s a b u r∧Below w.heap.size w w':=by
 have hb0:=(Below.refl w.heap.size w).alloc (Nat.le_refl _) (.cells #[.slice At ts.length ct,.slice As s.len cs] 30)
 have hT1:IntsV (w.alloc (.cells #[.slice At ts.length ct,.slice As s.len cs] 30)) 0 (w.alloc (.cells #[.slice At ts.length ct,.slice As s.len cs] 30)).heap.size ts At ct:=hT.below hb0 (by simp)
 have hR1:RepV (w.alloc (.cells #[.slice At ts.length ct,.slice As s.len cs] 30)) 0 (w.alloc (.cells #[.slice At ts.length ct,.slice As s.len cs] 30)).heap.size s As cs:=hR.below hb0 (by simp)
 have hz0:(w.alloc (.cells #[.slice At ts.length ct,.slice As s.len cs] 30)).heap.size=w.heap.size+1:=by simp
 have hB0:=heap_alloc_new w (.cells #[.slice At ts.length ct,.slice As s.len cs] 30)
 have hS:=specPointsOf_any ts s At As ct cs _ hsz hT1 hR1
 have HZ:=Lib.hid hz0
 have HB:=Lib.hid hB0
 clear hz0 hT1 hR1 hB0
 by_cases hin:InUA ts s a b
 ·obtain ⟨hv,ha0,ha1,hb0',hb1'⟩:=id hin
  have hpb:pointsB (validB ts s) s=progPts s:=by simp [pointsB,hv]
  rw [hpb] at hS
  obtain ⟨a,rfl⟩:∃ n:Nat,a=(n:Int):=⟨a.toNat,by omega⟩
  obtain ⟨l,rfl⟩:∃ n:Nat,b=(n:Int):=⟨b.toNat,by omega⟩
  have hsome:Hid (∀ x:Nat,bestF (dstR (bfsE (nextN (progPts s)) a)) (uaB ts (progPts s) a l) (progPts s).length=some x→AnsUA ts s (a:Int) (l:Int) (x:Int) true):=fun x hx=>ansUA_some hin hx
  have hnone:Hid (bestF (dstR (bfsE (nextN (progPts s)) a)) (uaB ts (progPts s) a l) (progPts s).length=none→AnsUA ts s (a:Int) (l:Int) 0 false):=fun hx=>ansUA_none hin hx
  have hlv:∀ W:World,Below w.heap.size w W→Calls Tryz.prog 51 #[.agg #[.slice At ts.length ct,.slice As s.len cs]] W (L4Post ts (progPts s) W):=fun W hW=>l4Flow_any ts s At As ct cs W hv (hT.below hW hW.size) (hR.below hW hW.size)
  have hT2:Hid (∀ W:World,Below w.heap.size w W→IntsV W 0 W.heap.size ts At ct):=fun W hW=>hT.below hW hW.size
  have hAT:=progPts_allTyped hv
  have hD:=progPts_ok s (valid_ok hv).2.1
  have hsf:=nextN_self s a
  have hle:(progPts s).length≤61:=by
   have h8:=s.npts_le
   have h9:=valid_size hv
   rw [progPts_len]
   omega
  generalize s.npts=q at hD
  generalize progPts s=ds at hS hlv hAT hD hsf hle ha1 hb1' hsome hnone
  have HLV:=Lib.hid hlv
  have HAT:=Lib.hid hAT
  have HD:=Lib.hid hD
  have HSF:=Lib.hid hsf
  have hal:a<ds.length:=by omega
  have hll:l<ds.length:=by omega
  have hzL:0<ds.length:=by omega
  have ht6:=hAT.1
  clear hlv hAT hD hsf hin hv hpb hT hR ha0 ha1 hb0' hb1'
  go_enter Tryz.func25,Tryz.ntmps25
  go_wp2_with fail
  refine hS.mono ?_
  rintro E w1 ⟨v,rfl,hP,hb1⟩
  rw [HZ.out] at hb1 hP
  have hbw:Below w.heap.size w w1:=hb0.trans (hb1.mono (by omega))
  have hs1:=hbw.size
  obtain ⟨g,cap,hvv,hgB,hgl,hgc,hgm⟩:=hP.form hzL
  subst hvv
  unfold maxLen at hgm
  have hB1:=(hb1.block w.heap.size (by omega)).trans HB.out
  have p0:w1.cell? ⟨w.heap.size,0,none⟩=some (.slice At ts.length ct):=(cB hB1 0).trans rfl
  have p1:w1.cell? ⟨w.heap.size,1,none⟩=some (.slice As s.len cs):=(cB hB1 1).trans rfl
  have HP:=Lib.hid hP
  have HP0:=Lib.hid p0
  have hlf:=HLV.out w1 hbw
  have hws:w.heap.size<w1.heap.size:=by have:=hb1.size;omega
  clear hb1 hS hP hB1
  go_wp2_with fail
  refine hlf.mono ?_
  rintro E w2 ⟨R,c,ms,o,rfl,hrc1,hrc2,hF,hiff,hb2⟩
  unfold maxLen at hrc2
  have hs2:=hb2.size
  have hbw2:=hbw.trans (hb2.mono hs1)
  have HF:=Lib.hid hF
  have HIFF:=Lib.hid hiff
  have HP2:=Lib.hid (HP.out.below hb2)
  have HP02:=Lib.hid ((hb2.cell (p:=⟨w.heap.size,0,none⟩) hws).trans HP0.out)
  have hfr:=l2From_any q a g cap (w.heap.size+1) ds w2 HD.out hle hal (by omega) HP2.out
  clear hlf hF hiff hb2 p0 p1
  go_wp2_with fail
  refine hfr.mono ?_
  rintro E w3 ⟨Ff,fl,rfl,hFf,hFl,hfi,hb3⟩
  have hs3:=hb3.size
  have hbw3:=hbw2.trans (hb3.mono (by omega))
  have hRN:=rowNilUA w w3 hbw3.size
  have hb34:Below w3.heap.size w3 (w3.alloc (.cells #[] 3)):=(Below.refl _ _).alloc (Nat.le_refl _) _
  have hb4:=hbw3.trans (hb34.mono hbw3.size)
  have hz4:(w3.alloc (.cells #[] 3)).heap.size=w3.heap.size+1:=by simp
  have HF4:=Lib.hid ((HF.out.keep hb3).keep hb34)
  have HP4:=Lib.hid ((HP2.out.below hb3).below hb34)
  have HP04:=Lib.hid ((hb34.cell (p:=⟨w.heap.size,0,none⟩) (by show w.heap.size<_;omega)).trans ((hb3.cell (p:=⟨w.heap.size,0,none⟩) (by show w.heap.size<_;omega)).trans HP02.out))
  have HFL4:=Lib.hid (hFl.keep (hb34.block Ff hFl.lt))
  have HFI:=Lib.hid hfi
  have HRN:=Lib.hid hRN
  have HB4:=Lib.hid hb4
  have hFfl:Ff<w3.heap.size:=hFl.lt
  clear hfr hFl hfi hb3 hRN hb34 hb4 HF HP2 HP02
  go_wp2_with fail
  generalize w3.alloc (.cells #[] 3)=w4 at *
  have HZ4:=Lib.hid hz4
  clear hz4
  go_loopw [11,12] (fun p i wr=>∃ (k:Nat) (best:List Int),i=.int .i64 k∧k≤ds.length∧Hid (RowI wr w.heap.size p best)∧Hid (BwP (nextN ds) a (uaB ts ds a l) k best)∧Below w4.heap.size w4 wr) (fun _ i _=>ds.length-(intOf i).toNat)
  case atStart=>exact ⟨0,[],rfl,Nat.zero_le _,HRN,.inl ⟨rfl,rfl⟩,Below.refl _ _⟩
  case round =>
   clear HRN
   obtain ⟨k,best,rfl,hk,hrow,hbw',hb⟩:=hrel
   obtain ⟨Ab,cb,hv⟩:=hrow.out.slice
   obtain ⟨n,hn⟩:∃ n,best.length=n:=⟨_,rfl⟩
   rw [hn] at hv
   subst hv
   have HN:=Lib.hid hn
   have hn62:n≤62:=by
    have:=hbw'.out.len HSF.out (nextN_lt HD.out)
    omega
   clear hn
   have hzb:=hb.size
   have hz4':=HZ4.out
   have hbB:=HB4.out.trans (hb.mono HB4.out.size)
   have hzB:=hbB.size
   by_cases hlt:k<ds.length
   ·obtain ⟨d,hd⟩:∃ d,ds[k]?=some d:=⟨ds[k],List.getElem?_eq_getElem hlt⟩
    have hdk:decide ((k:Int)<(ds.length:Int))=true:=decide_eq_true (by omega)
    have f1:IntKind.i64.wrap ((k:Int)+1)=(k:Int)+1:=IntWalk.i64_in _ (by omega)
    have k0:(0:Int)≤(k:Int):=by omega
    have k1:(k:Int)<(ds.length:Int):=by omega
    have cf:=(HFL4.out.keep (hb.block Ff (by omega))).cell hlt
    have HDD:=Lib.hid hd
    cases hfk:fl k
    ·have hp:uaB ts ds a l k=false:=by
      cases h9:uaB ts ds a l k
      ·rfl
      ·have h8:=(HFI.out k).mpr (uaB_iff.mp h9).1
       rw [hfk] at h8
       cases h8.2
     have HBW2:=Lib.hid (hbw'.out.skip hp)
     rw [hfk] at cf
     clear hp hfk hbw' hd
     go_upto_region 10 with (fail)
     go_quiet (fail)
     generalize hwd:World.drewN wr _=wd
     have hq:Below wr.heap.size wr wd:=by rw [← hwd];exact ⟨rfl,rfl,rfl,Nat.le_refl _,fun _ _=>rfl⟩
     have B9:=hb.trans (hq.mono hzb)
     have HRW:=Lib.hid (hrow.out.below hq)
     clear hwd hrow
     go_wp2_with fail
     go_roundw
     case rel=>exact ⟨k+1,best,by go_num,by omega,HRW,HBW2,B9⟩
     case measure=>simp [intOf];omega
    ·rw [hfk] at cf
     have hre:Reach (nextN ds) a k:=(HFI.out k).mp ⟨hlt,hfk⟩
     have hmem:k∈nmsR (bfsE (nextN ds) a):=(mem_bfsE HSF.out (nextN_lt HD.out) hle k).mpr hre
     have HFr:=HF4.out.keep hb
     obtain ⟨c0,c1⟩:=HFr.cells hlt
     obtain ⟨ud,⟨q0,q1,q2,q3,q4⟩,hud⟩:=(HP4.out.below hb).cells hd
     have p0:=(hb.cell (p:=⟨w.heap.size,0,none⟩) (by show w.heap.size<_;omega)).trans HP04.out
     have hst:=HFr.st k hlt
     have HUS:Hid (∀ W:World,Below wr.heap.size wr W→Calls Tryz.prog 53 #[.slice At ts.length ct,.agg #[.int .i64 d.op,.int .i64 d.x,.int .i64 d.y,.int .i64 d.n,ud],.agg #[.slice (ms k).fa ts.length (ms k).cf,.slice (some ⟨(ms k).bl 6,0,none⟩) ds.length ((ms k).cp 6)],.int .i64 (l:Int)] W fun E w'=>∃ b,E=.returned (.bool b)∧(b=true↔∃ v:Nat,v<ts.length∧o k v l=true∧useI ts d (v:Int)≠0)∧Below W.heap.size W w'):=fun W hW =>
      l13Uses_any ts At ct w1.heap.size ds.length l d ud (ms k) (o k) W hll ht6 (by have:=hW.size;omega) (hT2.out W (hbB.trans (hW.mono hzB))) (hst.keep hW)
     have HUA:Hid (∀ bu:Bool,(bu=true↔∃ v:Nat,v<ts.length∧o k v l=true∧useI ts d (v:Int)≠0)→uaB ts ds a l k=bu):=by
      intro bu hbu
      rw [Bool.eq_iff_iff,uaB_iff,hbu]
      constructor
      ·rintro ⟨_,v,d',h1,h2,h3,h4⟩
       rw [HDD.out] at h2
       injection h2 with h2
       subst h2
       exact ⟨v,h1,(HIFF.out k v l hlt).mpr h3,h4⟩
      ·rintro ⟨v,h1,h2,h3⟩
       exact ⟨hre,v,d,h1,HDD.out,(HIFF.out k v l hlt).mp h2,h3⟩
     have hRl:R<wr.heap.size:=HFr.lt
     have hl0:(⟨Ff,k,none⟩:Addr).block<wr.heap.size:=by show Ff<_;omega
     have hl1:(⟨w.heap.size,0,none⟩:Addr).block<wr.heap.size:=by show w.heap.size<_;omega
     have hl2:(⟨g,k*5,none⟩:Addr).block<wr.heap.size:=by show g<_;omega
     have hl7:(⟨R,k*2,none⟩:Addr).block<wr.heap.size:=hRl
     have HME:=Lib.hid hmem
     have hwl:(intsW (wayE (nextN ds) a k)).length=dstR (bfsE (nextN ds) a) k+1:=wayE_length HSF.out hmem
     have HWL:=Lib.hid hwl
     clear hmem hre HFr hst hud hd hfk hwl
     go_upto_region 10 with (fail)
     go_region_held3 (fun w'=>Below wr.heap.size wr w'∧w'.cell? ⟨Ff,k,none⟩=some (.bool true)∧w'.cell? ⟨w.heap.size,0,none⟩=some (.slice At ts.length ct)∧w'.cell? ⟨g,k*5,none⟩=some (.int .i64 d.op)∧w'.cell? ⟨g,k*5+1,none⟩=some (.int .i64 d.x)∧w'.cell? ⟨g,k*5+2,none⟩=some (.int .i64 d.y)∧w'.cell? ⟨g,k*5+3,none⟩=some (.int .i64 d.n)∧w'.cell? ⟨g,k*5+4,none⟩=some ud∧w'.cell? ⟨R,k*2,none⟩=some (.slice (ms k).fa ts.length (ms k).cf)∧w'.cell? ⟨R,k*2+1,none⟩=some (.slice (some ⟨(ms k).bl 6,0,none⟩) ds.length ((ms k).cp 6)))
      (first | exact ⟨(Below.refl wr.heap.size wr).drew,cf,p0,q0,q1,q2,q3,q4,c0,c1⟩ | exact heldUA9 hbn (And.left ‹Below wr.heap.size wr _∧_›) rfl hl0 hl1 hl2 hl7 rfl rfl rfl rfl rfl cf p0 q0 q1 q2 q3 q4 c0 c1)
      (first | (go_at_call 53;refine (HUS.out _ (And.left ‹Below wr.heap.size wr _∧_›)).mono ?_;rintro E w' ⟨bu,rfl,hbu,hbn⟩;have HBU:=Lib.hid hbu;clear hbu))
     all_goals
      obtain ⟨hbl,-⟩:=‹Below wr.heap.size wr _∧_›
      have hua:=HUA.out _ HBU.out
      have B9:=Lib.hid (hb.trans (hbl.mono hzb))
      have HRW:=Lib.hid (hrow.out.below hbl)
      clear hbl HUA HUS HBU hrow cf p0 q0 q1 q2 q3 q4 c0 c1
      cases bu
      ·have HBW2:=Lib.hid (hbw'.out.skip hua)
       clear hua hbw'
       go_wp2_with fail
       go_roundw
       case rel=>exact ⟨k+1,best,by go_num,by omega,HRW,HBW2,B9.out⟩
       case measure=>simp [intOf];omega
      ·have hz9:=B9.out.size
       have hway:=l13Way_any q a k g cap (w.heap.size+1) ds w' HD.out hle HSF.out hal hlt (by omega) (HP4.out.below B9.out)
       have HUAT:=Lib.hid hua
       clear hua
       go_wp2_with fail
       refine hway.mono ?_
       rintro E w9 ⟨v,hpost,hb9⟩
       obtain ⟨rfl,hrw⟩:E=.returned (.tuple #[v,.bool true])∧RowI w9 w'.heap.size v (intsW (wayE (nextN ds) a k)):=by
        rcases hpost with ⟨_,h1,h2⟩ | ⟨h1,_⟩
        ·exact ⟨h1,h2⟩
        ·exact absurd HME.out h1
       obtain ⟨Aw,cw,hvw⟩:=hrw.slice
       obtain ⟨wn,hwn⟩:∃ wn,(intsW (wayE (nextN ds) a k)).length=wn:=⟨_,rfl⟩
       have hwn2:=HWL.out
       rw [hwn] at hwn2 hvw
       subst hvw
       have B10:=Lib.hid (B9.out.trans (hb9.mono (by omega)))
       have HRW2:=Lib.hid (HRW.out.below hb9)
       have HWAY:Hid (RowI w9 w.heap.size (.slice Aw wn cw) (intsW (wayE (nextN ds) a k))):=Lib.hid (hrw.mono (by omega))
       clear hway hpost hrw hb9 HRW
       by_cases h0:n=0
       ·have HBW2:=Lib.hid (hbw'.out.take HSF.out HUAT.out HME.out (.inl (by rw [HN.out];exact h0)))
        subst h0
        clear hbw' hwn hwn2
        go_wp2_with fail
        go_roundw
        case rel=>exact ⟨k+1,_,by go_num,by omega,HWAY,HBW2,B10.out⟩
        case measure=>simp [intOf];omega
       ·have hn0:((n:Int)==0)=false:=by
         rw [beq_eq_false_iff_ne]
         omega
        by_cases hls:wn<n
        ·have dl:decide ((wn:Int)<(n:Int))=true:=decide_eq_true (by omega)
         have HBW2:=Lib.hid (hbw'.out.take HSF.out HUAT.out HME.out (.inr (by rw [HN.out,← hwn2];exact hls)))
         have dl2:decide (wn<n)=true:=decide_eq_true hls
         have dz2:decide (n=0)=false:=decide_eq_false h0
         clear hbw' hwn hwn2
         go_wp2_with fail
         go_roundw
         case rel=>exact ⟨k+1,_,by go_num,by omega,HWAY,HBW2,B10.out⟩
         case measure=>simp [intOf];omega
        ·have dl:decide ((wn:Int)<(n:Int))=false:=decide_eq_false (by omega)
         have HBW2:=Lib.hid (hbw'.out.keep HSF.out (by rw [HN.out];exact h0) (by rw [HN.out,← hwn2];omega))
         have dl2:decide (wn<n)=false:=decide_eq_false hls
         have dz2:decide (n=0)=false:=decide_eq_false h0
         clear hbw' hwn hwn2
         go_wp2_with fail
         go_roundw
         case rel=>exact ⟨k+1,best,by go_num,by omega,HRW2,HBW2,B10.out⟩
         case measure=>simp [intOf];omega
   ·have hdk:decide ((k:Int)<(ds.length:Int))=false:=decide_eq_false (by omega)
    have hke:k=ds.length:=by omega
    subst hke
    by_cases h0:n=0
    ·have HE:Hid (AnsUA ts s (a:Int) (l:Int) 0 false):=by
      rcases hbw'.out with ⟨h1,h2⟩ | ⟨x,h1,h2,h3⟩
      ·exact hnone.out h1
      ·have:=wayE_length HSF.out h2
       rw [← h3,HN.out] at this
       omega
     subst h0
     clear hbw' hrow
     go_wp2_with fail
     go_ret2
     exact ⟨_,_,rfl,HE.out,hbB⟩
    ·obtain ⟨x,m,HE,hm,hmx⟩:∃ x m:Nat,Hid (AnsUA ts s (a:Int) (l:Int) (x:Int) true)∧n=m+1∧best[m]?=some (x:Int):=by
      rcases hbw'.out with ⟨h1,h2⟩ | ⟨x,h1,h2,h3⟩
      ·rw [h2] at HN
       exact absurd HN.out.symm h0
      ·have h4:=wayE_length HSF.out h2
       rw [← h3,HN.out] at h4
       exact ⟨x,_,hsome.out x h1,h4,by rw [h3];exact wayE_last HSF.out h2⟩
     have hn0:((n:Int)==0)=false:=by
      rw [beq_eq_false_iff_ne]
      omega
     have hwm:IntKind.i64.wrap ((n:Int)-1)=(m:Int):=by rw [IntWalk.i64_in _ (by omega)];omega
     have hIW:=hrow.out
     have hIV:IntsV wr 0 wr.heap.size best Ab cb:=RowI.intsUA hIW
     obtain ⟨bb,y,hA,-,hbl,hy,hcy⟩:=hIV.elem (k:=m) (by rw [HN.out];omega)
     subst hA
     rw [hmx] at hy
     injection hy with hy
     subst hy
     have m0:(0:Int)≤(m:Int):=by omega
     have m1:(m:Int)<(n:Int):=by omega
     clear hIV hIW hrow hbw' hmx h0
     go_wp2_with fail
     go_ret2
     exact ⟨_,_,rfl,HE.out,hbB⟩
 ·have e:Hid (AnsUA ts s a b 0 false):=ansUA_out hin
  have hin2:¬ (0≤a∧a<((pointsB (validB ts s) s).length:Int)∧0≤b∧b<((pointsB (validB ts s) s).length:Int)):=by
   rintro ⟨h1,h2,h3,h4⟩
   cases hv:validB ts s
   ·rw [hv] at h2
    simp [pointsB] at h2
    omega
   ·have hpb:pointsB (validB ts s) s=progPts s:=by simp [pointsB,hv]
    rw [hpb] at h2 h4
    exact hin ⟨hv,h1,h2,h3,h4⟩
  have hpl:(pointsB (validB ts s) s).length≤3000000:=by
   have:=s.npts_le
   unfold pointsB
   split
   ·rw [progPts_len];omega
   ·simp
  generalize pointsB (validB ts s) s=ds at hS hin2 hpl
  have hcase:a<0∨(0≤a∧(ds.length:Int)≤a)∨(0≤a∧a<ds.length∧b<0)∨(0≤a∧a<ds.length∧0≤b∧(ds.length:Int)≤b):=by omega
  have HC:=Lib.hid hcase
  clear hin hin2 hcase hT hR
  go_enter Tryz.func25,Tryz.ntmps25
  go_wp2_with fail
  refine hS.mono ?_
  rintro E w1 ⟨v,rfl,hP,hb1⟩
  rw [HZ.out] at hb1
  have hbw:Below w.heap.size w w1:=hb0.trans (hb1.mono (by omega))
  obtain ⟨Av,cv,hv⟩:=pRow_lenUA hP
  subst hv
  clear hb1 hS hP
  rcases HC.out with h1 | ⟨h1,h2⟩ | ⟨h1,h2,h3⟩ | ⟨h1,h2,h3,h4⟩
  ·have d1:decide (a<0)=true:=decide_eq_true h1
   go_wp2_with fail
   go_ret2
   exact ⟨_,_,rfl,e.out,hbw⟩
  ·have d1:decide (a<0)=false:=decide_eq_false (by omega)
   go_wp2_with fail
   go_ret2
   exact ⟨_,_,rfl,e.out,hbw⟩
  ·have d1:decide (a<0)=false:=decide_eq_false (by omega)
   have d2:decide (b<0)=true:=decide_eq_true h3
   go_wp2_with fail
   go_ret2
   exact ⟨_,_,rfl,e.out,hbw⟩
  ·have d1:decide (a<0)=false:=decide_eq_false (by omega)
   have d2:decide (b<0)=false:=decide_eq_false (by omega)
   go_wp2_with fail
   go_ret2
   exact ⟨_,_,rfl,e.out,hbw⟩
noncomputable def uaI (ts:List Int) (s:Sts) (a b:Int):Int:=(((uaR ts s a b).getD 0:Nat):Int)
noncomputable def uaO (ts:List Int) (s:Sts) (a b:Int):Bool:=(uaR ts s a b).isSome
theorem specUseAfter_num (ts:List Int) (s:Sts) (At As:Option Addr) (ct cs:Nat) (a b:Int) (w:World) (hsz:s.size≤1048576) (hT:IntsV w 0 w.heap.size ts At ct) (hR:RepV w 0 w.heap.size s As cs) :
  Calls Tryz.prog 25 #[.agg #[.slice At ts.length ct,.slice As s.len cs],.int .i64 a,.int .i64 b] w fun E w'=>E=.returned (.tuple #[.int .i64 (uaI ts s a b),.bool (uaO ts s a b)])∧Below w.heap.size w w':=by
 refine (specUseAfter_any ts s At As ct cs a b w hsz hT hR).mono ?_
 rintro E w' ⟨u,r,rfl,⟨hu,hr⟩,hb⟩
 rw [hu,hr]
 exact ⟨rfl,hb⟩
theorem implUseAfter_num (ts:List Int) (s:Sts) (At As:Option Addr) (ct cs:Nat) (a b:Int) (w:World) (hT:IntsV w 0 w.heap.size ts At ct) (hR:RepV w 0 w.heap.size s As cs)
  (hTab:TabAt 0 Lib.deBruijn64tab w) (hg:0<w.heap.size) :
  Calls Tryz.prog 26 #[.agg #[.slice At ts.length ct,.slice As s.len cs],.int .i64 a,.int .i64 b] w fun E w'=>E=.returned (.tuple #[.int .i64 (uaI ts s a b),.bool (uaO ts s a b)])∧Below w.heap.size w w':=by
 refine (implUseAfter_any ts s At As ct cs a b w hT hR hTab hg).mono ?_
 rintro E w' ⟨u,r,rfl,⟨hu,hr⟩,hb⟩
 rw [hu,hr]
 exact ⟨rfl,hb⟩
end Go.Proofs.YtedkkphogeealaaGreatDoor
