/- UsersOf of the model. -/
import Derived.Test.YtdcldcffnkhegaaGreatDoorQTrF
import Derived.Test.YtdcldcffnkhegaaGreatDoorQTrU
import Derived.Test.YtdcldcffnkhegaaGreatDoorQL2Xb
import Derived.Test.YtdcldcffnkhegaaGreatDoorQFwdG
import Derived.Test.YtdcldcffnkhegaaGreatDoorQBase
import Derived.Deep.RegionHeld3
namespace Go.Proofs.YtdcldcffnkhegaaGreatDoor
open Go.RowKit Go.Deep
set_option linter.unusedVariables false
theorem pRow_len_Un {w:World} {B:Nat} {v:Value} {ns:List Nd} (h:PRow w B v ns):∃ A c,v=.slice A ns.length c:=by
 obtain ⟨xs,ho,_⟩:=h
 rcases ho.2 with ⟨hv,h0⟩ | ⟨g,cap,cur,hv,_⟩
 ·exact ⟨none,0,by rw [hv,h0]⟩
 ·exact ⟨_,_,hv⟩
theorem ontoU_of {w w':World} {v:Value} {g n cap:Nat} (hg:w.grownBy w' v.ownBlock) (hat:v.ownBlock=some g∨g=w.heap.size):Onto w w' v (.slice (some ⟨g,0,none⟩) n cap):=by
 refine ⟨hg,?_⟩
 rcases hat with h | h
 ·exact .inl h.symm
 ·refine .inr fun k hk=>?_
  have hk':g=k:=by simpa [Value.ownBlock] using hk
  omega
theorem PRow.ontoU {w w':World} {B:Nat} {v x y:Value} {ns:List Nd} (h:PRow w B v ns) (hO:Onto w w' x y) (hx:∀ g,x.ownBlock=some g→g<B):PRow w' B v ns:=by
 obtain ⟨xs,ho,hc⟩:=h
 have hb:∀ k,B≤k→k<w.heap.size→w'.heap[k]?=w.heap[k]?:=fun k hk hl=>hO.1.block k hl (fun e=>by have:=hx k e.symm;omega)
 refine ⟨xs,⟨ho.1,?_⟩,fun k d hd=>?_⟩
 ·rcases ho.2 with h | ⟨g,cap,cur,h1,h2,h3,h4⟩
  ·exact .inl h
  ·exact .inr ⟨g,cap,cur,h1,h2,(hb g h2 (heap_lt h3)).trans h3,h4⟩
 ·obtain ⟨u,h5,hn⟩:=hc k d hd
  refine ⟨u,h5,?_⟩
  rcases hn with hn | ⟨g,e1,e2,e3⟩
  ·exact .inl hn
  ·exact .inr ⟨g,e1,e2,(hb g e2 (heap_lt e3)).trans e3⟩
theorem Onto.belowU {w w':World} {B:Nat} {v v':Value} (h:Onto w w' v v') (hB:B≤w.heap.size) (hv:∀ g,v.ownBlock=some g→B≤g):Below B w w' :=
 ⟨h.1.os,h.1.tape,h.1.output,h.1.size,fun k hk=>h.1.block k (by omega) fun e=>by have:=hv k e.symm;omega⟩
namespace tr
theorem TrB.setter {ts:List Int} {ns:List Nd} {m v l:Nat} (h:TrB 1 ts ns m v l):∃ d,ns[l]?=some d∧setI d=(v:Int):=by
 induction h with
 | gen _ h =>
  obtain ⟨d,h1,h2,h3,_⟩:=h
  have e:_=_:=of_decide_eq_true h3
  subst e
  exact ⟨d,h1,h2⟩
 | step _ _ h ih =>
  obtain ⟨_,_,⟨d,_,_,h3,_⟩ | ⟨rfl,_⟩⟩:=h
  ·exact absurd (show (false:Bool)=true from h3) (by decide)
  ·exact ih
theorem userB_iff {ts:List Int} {ns:List Nd} {s a v:Nat} {ds da:Nd} (hs:ns[s]?=some ds) (hv:setI ds=(v:Int)) (hv6:v<6) (ha:ns[a]?=some da):UserB ts ns s a↔useI ts da (v:Int)≠0∧TrB 1 ts ns a v s:=by
 constructor
 ·rintro ⟨_,v',_,⟨d,h1,h2⟩,h3⟩
  obtain ⟨d',h4,h5⟩:=h3.setter
  rw [hs] at h4
  injection h4 with h4
  subst h4
  have e:v'=v:=by omega
  subst e
  rw [ha] at h1
  injection h1 with h1
  subst h1
  exact ⟨h2,h3⟩
 ·rintro ⟨h1,h2⟩
  exact ⟨(List.getElem?_eq_some_iff.mp ha).1,v,hv6,⟨da,ha,h1⟩,h2⟩
theorem userB_none {ts:List Int} {ns:List Nd} {s a:Nat} {ds:Nd} (hs:ns[s]?=some ds) (hv:setI ds<0):¬ UserB ts ns s a:=by
 rintro ⟨_,v',_,_,h3⟩
 obtain ⟨d',h4,h5⟩:=h3.setter
 rw [hs] at h4
 injection h4 with h4
 subst h4
 omega
set_option maxRecDepth 100000 in
set_option maxHeartbeats 8000000 in
theorem specUsersOf_any (ts:List Int) (s:Sts) (At As:Option Addr) (ct cs:Nat) (a:Int) (w:World) (hsz:s.size≤1048576) (hT:IntsV w 0 w.heap.size ts At ct) (hR:RepV w 0 w.heap.size s As cs) :
  Calls Tryz.prog 32 #[.agg #[.slice At ts.length ct,.slice As s.len cs],.int .i64 a] w fun E w'=>∃ v' l,E=.returned v'∧RowI w' w.heap.size v' l∧AnsAt (UserB ts) (validB ts s) s a l∧Below w.heap.size w w':=by
 have hb0:=(((Below.refl w.heap.size w).alloc (Nat.le_refl _) (.cells #[.slice At ts.length ct,.slice As s.len cs] 26)).alloc (by simp) (.cells #[] 3))
 have hT1:=hT.below hb0 (by simp;omega:w.heap.size≤((w.alloc (.cells #[.slice At ts.length ct,.slice As s.len cs] 26)).alloc (.cells #[] 3)).heap.size)
 have hR1:=hR.below hb0 (by simp;omega:w.heap.size≤((w.alloc (.cells #[.slice At ts.length ct,.slice As s.len cs] 26)).alloc (.cells #[] 3)).heap.size)
 have hz0:((w.alloc (.cells #[.slice At ts.length ct,.slice As s.len cs] 26)).alloc (.cells #[] 3)).heap.size=w.heap.size+2:=by simp
 have hB0:((w.alloc (.cells #[.slice At ts.length ct,.slice As s.len cs] 26)).alloc (.cells #[] 3)).heap[w.heap.size]?=some (.cells #[.slice At ts.length ct,.slice As s.len cs] 26):=(((Below.refl _ _).alloc (Nat.le_refl _) (.cells #[] 3):Below (w.alloc (.cells #[.slice At ts.length ct,.slice As s.len cs] 26)).heap.size (w.alloc (.cells #[.slice At ts.length ct,.slice As s.len cs] 26)) _).block w.heap.size (by simp)).trans (heap_alloc_new w (.cells #[.slice At ts.length ct,.slice As s.len cs] 26))
 have hS:=specPointsOf_any ts s At As ct cs _ hsz hT1 hR1
 have hrow0:RowI ((w.alloc (.cells #[.slice At ts.length ct,.slice As s.len cs] 26)).alloc (.cells #[] 3)) w.heap.size (.slice (some ⟨w.heap.size+1,0,none⟩) 0 0) []:=by
  have:=World.ownsRow_lit (base:=w.heap.size) (e:=3) (size:=1) (w.alloc (.cells #[.slice At ts.length ct,.slice As s.len cs] 26)) #[] 0 (by simp) (by simp [maxLen]) rfl
  have hz:(w.alloc (.cells #[.slice At ts.length ct,.slice As s.len cs] 26)).heap.size=w.heap.size+1:=by simp
  rw [hz] at this
  exact this
 have HROW0:=Lib.hid hrow0
 have HZ:=Lib.hid hz0
 have HB:=Lib.hid hB0
 have hI0:((w.alloc (.cells #[.slice At ts.length ct,.slice As s.len cs] 26)).alloc (.cells #[] 3)).heap[w.heap.size+1]?=some (.cells #[] 3 (0,0)):=by
  have h9:=heap_alloc_new (w.alloc (.cells #[.slice At ts.length ct,.slice As s.len cs] 26)) (.cells #[] 3)
  rw [show (w.alloc (.cells #[.slice At ts.length ct,.slice As s.len cs] 26)).heap.size=w.heap.size+1 by simp] at h9
  exact h9
 have HI0:=Lib.hid hI0
 clear hI0
 by_cases hin:validB ts s=true∧0≤a∧a<((progPts s).length:Int)
 ·obtain ⟨h1,h0,h2⟩:=id hin
  have e0:pointsB (validB ts s) s=progPts s:=by simp [pointsB,h1]
  rw [e0] at hS
  obtain ⟨j,rfl⟩:∃ j:Nat,a=(j:Int):=⟨a.toNat,by omega⟩
  have hj:j<(progPts s).length:=by omega
  have hAT:=progPts_allTyped h1
  have ht6:=hAT.1
  have hle:(progPts s).length≤61:=by
   have h8:=s.npts_le
   have h9:=valid_size h1
   rw [progPts_len]
   omega
  have hlv:∀ W:World,Below w.heap.size w W→Calls Tryz.prog 44 #[.agg #[.slice At ts.length ct,.slice As s.len cs],.int .i64 1,.int .i64 ((progPts s).length:Nat)] W (LPost 1 ts (progPts s) W):=fun W hW=>l10Flow_any 1 (by decide) ts s At As ct cs W h1 (hT.below hW hW.size) (hR.below hW hW.size)
  have hmk:∀ l:List Int,IsPathsB (UserB ts (progPts s) j) l→AnsAt (UserB ts) (validB ts s) s (j:Int) l:=fun l hl=>.inl ⟨h1,by omega,h2,by rw [Int.toNat_natCast];exact hl⟩
  generalize progPts s=ds at hS hlv hmk hj hAT hle h2
  have hn0:0<ds.length:=by omega
  have HLE:=Lib.hid hle
  have HLV:=Lib.hid hlv
  have HMK:=Lib.hid hmk
  have HAT:=Lib.hid hAT
  have HT:=Lib.hid hT
  obtain ⟨i0,hi,hzz0,hzz1,hzz2⟩:=info_parts Tryz.infoInt
  have HI:=Lib.hid hi
  have HZ0:=Lib.hid hzz0
  have HZ1:=Lib.hid hzz1
  have HZ2:=Lib.hid hzz2
  have hTm:=hT.2.1
  have hTl:=hT.1
  unfold maxLen at hTm
  obtain ⟨dj,hdj⟩:∃ d,ds[j]?=some d:=⟨ds[j],List.getElem?_eq_getElem hj⟩
  have HDJ:=Lib.hid hdj
  have hst0:=typed_set (hAT.2 j dj hdj)
  have HST0:=Lib.hid hst0
  have ha0:(0:Int)≤(j:Int):=by omega
  have ha1:(j:Int)<(ds.length:Int):=by omega
  clear hi hzz0 hzz1 hzz2 hlv hmk hAT hz0 hrow0 hB0 hT1 hR1 hT hR h1 e0 h0 h2 hin hst0
  go_enter Tryz.func32,Tryz.ntmps32
  go_wp2_with fail
  refine hS.mono ?_
  rintro E w1 ⟨v,rfl,hP,hb1⟩
  rw [HZ.out] at hP hb1
  have hs1:=hb1.size
  rw [HZ.out] at hs1
  have hbw:Below w.heap.size w w1:=hb0.trans (hb1.mono (by omega))
  obtain ⟨g,cap,hv,hgB,hgl,hgc,hgm⟩:=hP.form hn0
  subst hv
  unfold maxLen at hgm
  have hB1:=(hb1.block w.heap.size (by omega)).trans HB.out
  have p0:w1.cell? ⟨w.heap.size,0,none⟩=some (.slice At ts.length ct):=(cB hB1 0).trans rfl
  have p1:w1.cell? ⟨w.heap.size,1,none⟩=some (.slice As s.len cs):=(cB hB1 1).trans rfl
  have HP:=Lib.hid hP
  have HP0:=Lib.hid p0
  have HP1:=Lib.hid p1
  have HR0:Hid (RowI w1 w.heap.size (.slice (some ⟨w.heap.size+1,0,none⟩) 0 0) []):=HROW0.out.below (by rw [HZ.out];exact hb1)
  have hI1:w1.heap[w.heap.size+1]?=some (.cells #[] 3 (0,0)):=(hb1.block (w.heap.size+1) (by omega)).trans HI0.out
  have HI1:=Lib.hid hI1
  obtain ⟨uj,⟨q0,q1,q2,q3,q4⟩,huj⟩:=hP.cells hdj
  have hse:∀ W:World,Calls Tryz.prog 65 #[.agg #[.int .i64 dj.op,.int .i64 dj.x,.int .i64 dj.y,.int .i64 dj.n,uj]] W fun E w'=>E=.returned (.int .i64 (setI dj))∧Below W.heap.size W w':=fun W=>l3Set_any dj.op dj.x dj.y dj.n dj.next uj W
  obtain ⟨x,hx⟩:∃ x,x=setI dj:=⟨_,rfl⟩
  rw [← hx] at hse
  have HSE:=Lib.hid hse
  have HX:=Lib.hid hx
  have hse1:=HSE.out w1
  have HQ0:=Lib.hid q0
  have HQ1:=Lib.hid q1
  have HQ2:=Lib.hid q2
  have HQ3:=Lib.hid q3
  have HQ4:=Lib.hid q4
  clear hP hS hB1 HROW0 hI1 hse hx huj hb1
  go_wp2_with fail
  refine hse1.mono ?_
  rintro E w2 ⟨rfl,hb2⟩
  have hbw2:Below w.heap.size w w2:=hbw.trans (hb2.mono (by omega))
  have hs2:=hb2.size
  clear hse1
  by_cases hneg:x<0
  ·have hnu:∀ i,¬ UserB ts ds j i:=fun i=>userB_none HDJ.out (by rw [← HX.out];exact hneg)
   have HANS:=Lib.hid (HMK.out [] ⟨fun _=>false,by simp,fun i=>⟨fun h=>(by cases h.2),fun h=>absurd h (hnu i)⟩⟩)
   have HR2:Hid (RowI w2 w.heap.size (.slice (some ⟨w.heap.size+1,0,none⟩) 0 0) []):=HR0.out.below hb2
   clear hb2 hnu p0 p1 q0 q1 q2 q3 q4
   go_wp2_with fail
   go_ret
   exact ⟨_,_,rfl,HR2.out,HANS.out,hbw2⟩
  ·obtain ⟨u,rfl⟩:∃ u:Nat,x=(u:Int):=⟨x.toNat,by omega⟩
   have hul:u<ts.length:=by
    have h9:=HST0.out (u:Int) (by omega) (by rw [HX.out])
    omega
   have hu6:u<6:=by omega
   have hneg:¬ ((u:Int)<0):=by omega
   have q0:w2.cell? ⟨g,j*5,none⟩=_:=(hb2.cell (by show g<_;omega)).trans HQ0.out
   have q1:w2.cell? ⟨g,j*5+1,none⟩=_:=(hb2.cell (by show g<_;omega)).trans HQ1.out
   have q2:w2.cell? ⟨g,j*5+2,none⟩=_:=(hb2.cell (by show g<_;omega)).trans HQ2.out
   have q3:w2.cell? ⟨g,j*5+3,none⟩=_:=(hb2.cell (by show g<_;omega)).trans HQ3.out
   have q4:w2.cell? ⟨g,j*5+4,none⟩=_:=(hb2.cell (by show g<_;omega)).trans HQ4.out
   have hse2:=HSE.out w2
   have HB12:=Lib.hid hb2
   clear hb2 p0 p1
   go_wp2_with fail
   refine hse2.mono ?_
   rintro E w3 ⟨rfl,hb3⟩
   have hb13:Below w1.heap.size w1 w3:=HB12.out.trans (hb3.mono hs2)
   have hs13:=hb13.size
   have hbw3:Below w.heap.size w w3:=hbw.trans (hb13.mono (by omega))
   have p0:w3.cell? ⟨w.heap.size,0,none⟩=_:=(hb13.cell (by show w.heap.size<_;omega)).trans HP0.out
   have p1:w3.cell? ⟨w.heap.size,1,none⟩=_:=(hb13.cell (by show w.heap.size<_;omega)).trans HP1.out
   have hlf:=HLV.out w3 hbw3
   have HB13:=Lib.hid hb13
   clear q0 q1 q2 q3 q4 hse2 hb3 hb13
   go_wp2_with fail
   refine hlf.mono ?_
   rintro E w4 ⟨R,c,ms,o,rfl,hrc1,hrc2,hF,hiff,hbl⟩
   have hb14:Below w1.heap.size w1 w4:=HB13.out.trans (hbl.mono (by omega))
   have hs14:=hb14.size
   have hbw4:Below w.heap.size w w4:=hbw.trans (hb14.mono (by omega))
   have hs34:=hbl.size
   unfold maxLen at hrc2
   have HF:=Lib.hid hF
   have HIFF:=Lib.hid hiff
   have HR2:Hid (RowI w4 w.heap.size (.slice (some ⟨w.heap.size+1,0,none⟩) 0 0) []):=HR0.out.below hb14
   have HP2:=Lib.hid (HP.out.below hb14)
   have HI2:=Lib.hid ((hb14.block (w.heap.size+1) (by omega)).trans HI1.out)
   have HP02:=Lib.hid ((show w4.cell? ⟨w.heap.size,0,none⟩=some (.slice At ts.length ct) from (hb14.cell (by show w.heap.size<_;omega)).trans HP0.out))
   have hgl4:g<w4.heap.size:=by omega
   obtain ⟨pU,hpU⟩:∃ p:Nat→Bool,∀ k,p k=true↔UserB ts ds j k:=⟨fun k=>@decide (UserB ts ds j k) (Classical.propDecidable _),fun k=>by simp⟩
   have HPU:=Lib.hid hpU
   have HOWN0:Hid (∀ k,(Value.slice (some ⟨w.heap.size+1,0,none⟩) 0 0).ownBlock=some k→k=w.heap.size+1):=by
    intro k hk
    have:w.heap.size+1=k:=by simpa [Value.ownBlock] using hk
    exact this.symm
   clear hpU hlf hF hiff p0 p1 hbl hb14 hbw3
   go_wp2_with fail
   go_loopw [5,9] (fun q i wr=>∃ k:Nat,i=.int .i64 k∧k≤ds.length∧Hid (RowI wr w.heap.size q (firstN pU k))∧Onto w4 wr (.slice (some ⟨w.heap.size+1,0,none⟩) 0 0) q) (fun _ i _=>ds.length-(intOf i).toNat)
   case atStart=>exact ⟨0,rfl,Nat.zero_le _,HR2,Onto.refl _ _⟩
   case round =>
    clear HR2
    obtain ⟨k,rfl,hk,hrow,hO⟩:=hrel
    obtain ⟨Ao,co,ho⟩:=hrow.out.slice
    subst ho
    have hzr:=hO.size
    have hbr:Below w.heap.size w4 wr:=hO.belowU (by omega) (fun k hk=>by have:=HOWN0.out k hk;omega)
    have hbW:=hbw4.trans hbr
    have hln:=firstN_length pU k
    by_cases hlt:k<ds.length
    ·obtain ⟨d,hd⟩:∃ d,ds[k]?=some d:=⟨ds[k],List.getElem?_eq_getElem hlt⟩
     have hPr:=HP2.out.ontoU hO (fun k hk=>by have:=HOWN0.out k hk;omega)
     obtain ⟨ud,⟨q0,q1,q2,q3,q4⟩,hud⟩:=hPr.cells hd
     have hFr:∀ (b:Nat) (cs:Array Value) (t:TypeId),w4.heap[b]?=some (Obj.cells cs t (0,0))→t≠3→wr.heap[b]?=w4.heap[b]?:=fun b cs t hc ht=>hO.1.block b (heap_lt hc) (fun e=>by
      have e1:=HOWN0.out b e.symm
      subst e1
      rw [HI2.out] at hc
      injection hc with hc
      injection hc with _ hc _
      exact ht hc.symm)
     have hSr:=(HF.out.st k hlt).carry (fun b cs t hc ht=>hFr b cs t hc (by rcases ht with rfl | rfl <;> decide))
     have hfa:=hSr.fa (by omega)
     have hrl:R<wr.heap.size:=by have:=HF.out.lt;omega
     have c0:wr.cell? ⟨R,k,none⟩=some (.slice (some ⟨(ms k).g,0,none⟩) ts.length (ms k).cf):=by
      rw [← hfa]
      obtain ⟨cur,e1,e2⟩:=HF.out.row
      exact (cB ((hFr R cur _ e1 (by decide)).trans e1) _).trans (e2 k hlt)
     have c2:wr.cell? ⟨(ms k).g,u,none⟩=some (.slice (some ⟨(ms k).bl u,0,none⟩) ds.length ((ms k).cp u)):=hSr.slot hul
     have c4:=(hSr.fl u hul).cell (show j<szQ 1 ds.length from hj)
     have hgm2:=hSr.glt (by omega)
     have hbl2:=(hSr.fl u hul).lt
     obtain ⟨hcf1,hcf2⟩:=hSr.cf
     unfold maxLen at hcf2
     have hcp:=hSr.cp u hul
     have hcp1:ds.length≤(ms k).cp u:=hcp.1
     have hcp2:=hcp.2
     unfold maxLen at hcp2
     have p1:wr.cell? ⟨w.heap.size,0,none⟩=some (.slice At ts.length ct):=(World.cell?_of_block (a:=⟨w.heap.size,0,none⟩) (hO.1.block w.heap.size (by omega) (fun e=>by have:=HOWN0.out _ e.symm;omega))).trans HP02.out
     have hus:∀ W:World,Below wr.heap.size wr W→Calls Tryz.prog 66 #[.slice At ts.length ct,.agg #[.int .i64 d.op,.int .i64 d.x,.int .i64 d.y,.int .i64 d.n,ud],.int .i64 (u:Int)] W fun E w'=>E=.returned (.int .i64 (useI ts d (u:Int)))∧Below W.heap.size W w':=fun W hW=>l3Use_any ts At ct d.op d.x d.y d.n d.next ud u W hul (HT.out.below (hbW.trans (hW.mono (by omega))) (by have:=hW.size;omega))
     have hiu:UserB ts ds j k↔useI ts d (u:Int)≠0∧o k u j=true:=by
      rw [userB_iff HDJ.out HX.out.symm hu6 hd,HIFF.out k u j hlt]
     have HUS:=Lib.hid hus
     obtain ⟨f,hf⟩:∃ f,f=o k u j:=⟨_,rfl⟩
     obtain ⟨r,hr⟩:∃ r,r=useI ts d (u:Int):=⟨_,rfl⟩
     rw [← hf,← hr] at hiu
     rw [← hf] at c4
     rw [← hr] at HUS
     have hk0:(0:Int)≤(k:Int):=by omega
     have hk1:(k:Int)<(ds.length:Int):=by omega
     have hu0:(0:Int)≤(u:Int):=by omega
     have hu1:(u:Int)<(ts.length:Int):=by omega
     have HIU:=Lib.hid hiu
     have HC0:=Lib.hid c0
     have HC2:=Lib.hid c2
     have HC4:=Lib.hid c4
     have HP1r:=Lib.hid p1
     have HQ0:=Lib.hid q0
     have HQ1:=Lib.hid q1
     have HQ2:=Lib.hid q2
     have HQ3:=Lib.hid q3
     have HQ4:=Lib.hid q4
     clear hPr hd hud hSr hus hiu hf hr hFr hfa hcp c0 c2 c4 p1 q0 q1 q2 q3 q4
     go_wp2_with fail
     refine wp_region_held_drew (S:=(fun w9=>Below wr.heap.size wr w9)) (by kernel_rfl) (Below.refl _ _).drew (fun hHeld=>?_)
     generalize hwd:wr.drew=wd at *
     clear hwd
     have c0:=(hHeld.cell (p:=⟨R,k,none⟩) (by show R<_;omega)).trans HC0.out
     have c2:=(hHeld.cell (p:=⟨(ms k).g,u,none⟩) (by show (ms k).g<_;omega)).trans HC2.out
     have c4:=(hHeld.cell (p:=⟨(ms k).bl u,j,none⟩) (by show (ms k).bl u<_;omega)).trans HC4.out
     refine wpAnyH_take (i:=0) (oi:=⟨_,_,_,_,_,_⟩) (v:=.slice (some ⟨R,0,none⟩) ds.length c) rfl (by kernel_rfl) (by kernel_rfl) (by kernel_rfl) (fun _ _ _ h=>h) (Or.inl ⟨by rfl,fun w hSw=>by go_simp⟩) hHeld ?_
     try simp only [Act.put,sA,sB,sC]
     refine wpAnyH_take (i:=1) (oi:=⟨_,_,_,_,_,_⟩) (v:=.int .i64 (k:Int)) rfl (by kernel_rfl) (by kernel_rfl) (by kernel_rfl) (fun _ _ _ h=>h) (Or.inl ⟨by rfl,fun w hSw=>by go_simp⟩) hHeld ?_
     try simp only [Act.put,sA,sB,sC]
     refine wpAnyH_take (i:=4) (oi:=⟨_,_,_,_,_,_⟩) (v:=.int .i64 (u:Int)) rfl (by kernel_rfl) (by kernel_rfl) (by kernel_rfl) (fun _ _ _ h=>h) (Or.inl ⟨by rfl,fun w hSw=>by go_simp⟩) hHeld ?_
     try simp only [Act.put,sA,sB,sC]
     refine wpAnyH_take (i:=7) (oi:=⟨_,_,_,_,_,_⟩) (v:=.int .i64 (j:Int)) rfl (by kernel_rfl) (by kernel_rfl) (by kernel_rfl) (fun _ _ _ h=>h) (Or.inl ⟨by rfl,fun w hSw=>by go_simp⟩) hHeld ?_
     try simp only [Act.put,sA,sB,sC]
     refine wpAnyH_ready (rs:=[2]) (by kernel_rfl) (by simp) ?_
     refine AllReadyH.cons (o:=⟨_,_,_,_,_,_⟩) rfl (fun K hK=>?_) AllReadyH.nil
     go_simp
     refine hK.out _ _ hHeld (fun hHeld=>?_)
     clear hK K
     refine wpAnyH_ready (rs:=[3]) (by kernel_rfl) (by simp) ?_
     refine AllReadyH.cons (o:=⟨_,_,_,_,_,_⟩) rfl (fun K hK=>?_) AllReadyH.nil
     go_simp
     refine hK.out _ _ hHeld (fun hHeld=>?_)
     clear hK K
     refine wpAnyH_ready (rs:=[5]) (by kernel_rfl) (by simp) ?_
     refine AllReadyH.cons (o:=⟨_,_,_,_,_,_⟩) rfl (fun K hK=>?_) AllReadyH.nil
     go_simp
     refine hK.out _ _ hHeld (fun hHeld=>?_)
     clear hK K
     refine wpAnyH_ready (rs:=[6]) (by kernel_rfl) (by simp) ?_
     refine AllReadyH.cons (o:=⟨_,_,_,_,_,_⟩) rfl (fun K hK=>?_) AllReadyH.nil
     go_simp
     refine hK.out _ _ hHeld (fun hHeld=>?_)
     clear hK K
     refine wpAnyH_ready (rs:=[8]) (by kernel_rfl) (by simp) ?_
     refine AllReadyH.cons (o:=⟨_,_,_,_,_,_⟩) rfl (fun K hK=>?_) AllReadyH.nil
     go_simp
     refine hK.out _ _ hHeld (fun hHeld=>?_)
     clear hK K
     refine wpAnyH_ready (rs:=[9]) (by kernel_rfl) (by simp) ?_
     refine AllReadyH.cons (o:=⟨_,_,_,_,_,_⟩) rfl (fun K hK=>?_) AllReadyH.nil
     go_simp
     refine hK.out _ _ hHeld (fun hHeld=>?_)
     clear hK K
     refine wpAnyH_ready (rs:=[10]) (by kernel_rfl) (by simp) ?_
     refine AllReadyH.cons (o:=⟨_,_,_,_,_,_⟩) rfl (fun K hK=>?_) AllReadyH.nil
     go_simp
     refine hK.out _ _ hHeld (fun hHeld=>?_)
     clear hK K
     cases f
     ·have hno:Hid (pU k=false):=Lib.hid (by
       cases h9:pU k
       ·rfl
       ·have h8:=HIU.out.mp ((HPU.out k).mp h9)
        simp_all)
      clear c0 c2 c4
      refine wpAnyH_take (i:=11) (oi:=⟨_,_,_,_,_,_⟩) (v:=undef) rfl (by kernel_rfl) (by kernel_rfl) (by kernel_rfl) (fun _ _ _ h=>h) (Or.inr ⟨by rfl,rfl⟩) hHeld ?_
      try simp only [Act.put,sA,sB,sC]
      refine wpAnyH_take (i:=13) (oi:=⟨_,_,_,_,_,_⟩) (v:=undef) rfl (by kernel_rfl) (by kernel_rfl) (by kernel_rfl) (fun _ _ _ h=>h) (Or.inr ⟨by rfl,rfl⟩) hHeld ?_
      try simp only [Act.put,sA,sB,sC]
      refine wpAnyH_take (i:=14) (oi:=⟨_,_,_,_,_,_⟩) (v:=undef) rfl (by kernel_rfl) (by kernel_rfl) (by kernel_rfl) (fun _ _ _ h=>h) (Or.inr ⟨by rfl,rfl⟩) hHeld ?_
      try simp only [Act.put,sA,sB,sC]
      refine wpAnyH_take (i:=17) (oi:=⟨_,_,_,_,_,_⟩) (v:=undef) rfl (by kernel_rfl) (by kernel_rfl) (by kernel_rfl) (fun _ _ _ h=>h) (Or.inr ⟨by rfl,rfl⟩) hHeld ?_
      try simp only [Act.put,sA,sB,sC]
      refine wpAnyH_take (i:=12) (oi:=⟨_,_,_,_,_,_⟩) (v:=undef) rfl (by kernel_rfl) (by kernel_rfl) (by kernel_rfl) (fun _ _ _ h=>h) (Or.inr ⟨by rfl,rfl⟩) hHeld ?_
      try simp only [Act.put,sA,sB,sC]
      refine wpAnyH_take (i:=15) (oi:=⟨_,_,_,_,_,_⟩) (v:=undef) rfl (by kernel_rfl) (by kernel_rfl) (by kernel_rfl) (fun _ _ _ h=>h) (Or.inr ⟨by rfl,rfl⟩) hHeld ?_
      try simp only [Act.put,sA,sB,sC]
      refine wpAnyH_take (i:=16) (oi:=⟨_,_,_,_,_,_⟩) (v:=undef) rfl (by kernel_rfl) (by kernel_rfl) (by kernel_rfl) (fun _ _ _ h=>h) (Or.inr ⟨by rfl,rfl⟩) hHeld ?_
      try simp only [Act.put,sA,sB,sC]
      refine wpAnyH_take (i:=18) (oi:=⟨_,_,_,_,_,_⟩) (v:=undef) rfl (by kernel_rfl) (by kernel_rfl) (by kernel_rfl) (fun _ _ _ h=>h) (Or.inr ⟨by rfl,rfl⟩) hHeld ?_
      try simp only [Act.put,sA,sB,sC]
      refine wpAnyH_take (i:=19) (oi:=⟨_,_,_,_,_,_⟩) (v:=undef) rfl (by kernel_rfl) (by kernel_rfl) (by kernel_rfl) (fun _ _ _ h=>h) (Or.inr ⟨by rfl,rfl⟩) hHeld ?_
      try simp only [Act.put,sA,sB,sC]
      refine wpAnyH_ready (rs:=[20]) (by kernel_rfl) (by simp) ?_
      refine AllReadyH.cons (o:=⟨_,_,_,_,_,_⟩) rfl (fun K hK=>?_) AllReadyH.nil
      go_simp
      refine hK.out _ _ hHeld (fun hHeld=>?_)
      clear hK K
      refine wpAnyH_done (by kernel_rfl) ?_ _
      have hbl:=hHeld
      have HRW:=Lib.hid (hrow.out.below hbl)
      have hO2:=hO.trans (Onto.of_below hbl (Value.slice Ao (firstN pU k).length co))
      have hzl:=hbl.size
      clear hbl hrow hO HUS hHeld
      have e:=Lib.hid (firstN_no hno.out)
      clear hno
      go_wp2_with fail
      refine ⟨⟨k+1,by simp,by omega,by rw [e.out];exact HRW,hO2⟩,?_⟩
      simp only [intOf]
      omega
     by_cases hr0:r=0
     ·subst hr0
      have hno:Hid (pU k=false):=Lib.hid (by
       cases h9:pU k
       ·rfl
       ·have h8:=HIU.out.mp ((HPU.out k).mp h9)
        simp_all)
      clear c0 c2 c4
      refine wpAnyH_take (i:=11) (oi:=⟨_,_,_,_,_,_⟩) (v:=.pointer (some ⟨w.heap.size,0,none⟩)) rfl (by kernel_rfl) (by kernel_rfl) (by kernel_rfl) (fun _ _ _ h=>h) (Or.inl ⟨by rfl,fun w hSw=>by go_simp⟩) hHeld ?_
      try simp only [Act.put,sA,sB,sC]
      refine wpAnyH_take (i:=13) (oi:=⟨_,_,_,_,_,_⟩) (v:=.slice (some ⟨g,0,none⟩) ds.length cap) rfl (by kernel_rfl) (by kernel_rfl) (by kernel_rfl) (fun _ _ _ h=>h) (Or.inl ⟨by rfl,fun w hSw=>by go_simp⟩) hHeld ?_
      try simp only [Act.put,sA,sB,sC]
      refine wpAnyH_take (i:=14) (oi:=⟨_,_,_,_,_,_⟩) (v:=.int .i64 (k:Int)) rfl (by kernel_rfl) (by kernel_rfl) (by kernel_rfl) (fun _ _ _ h=>h) (Or.inl ⟨by rfl,fun w hSw=>by go_simp⟩) hHeld ?_
      try simp only [Act.put,sA,sB,sC]
      refine wpAnyH_take (i:=17) (oi:=⟨_,_,_,_,_,_⟩) (v:=.int .i64 (u:Int)) rfl (by kernel_rfl) (by kernel_rfl) (by kernel_rfl) (fun _ _ _ h=>h) (Or.inl ⟨by rfl,fun w hSw=>by go_simp⟩) hHeld ?_
      try simp only [Act.put,sA,sB,sC]
      refine wpAnyH_take (i:=12) (oi:=⟨_,_,_,_,_,_⟩) (v:=.slice At ts.length ct) rfl (by kernel_rfl) (by kernel_rfl) (by kernel_rfl) (fun _ _ _ h=>h) (Or.inl ⟨by rfl,fun w9 hSw=>by have h9:=(hSw.cell (p:=⟨w.heap.size,0,none⟩) (by show w.heap.size<_;omega)).trans HP1r.out;go_simp⟩) hHeld ?_
      try simp only [Act.put,sA,sB,sC]
      refine wpAnyH_ready (rs:=[15]) (by kernel_rfl) (by simp) ?_
      refine AllReadyH.cons (o:=⟨_,_,_,_,_,_⟩) rfl (fun K hK=>?_) AllReadyH.nil
      go_simp
      refine hK.out _ _ hHeld (fun hHeld=>?_)
      clear hK K
      have q0:=(hHeld.cell (p:=⟨g,k*5,none⟩) (by show g<_;omega)).trans HQ0.out
      have q1:=(hHeld.cell (p:=⟨g,k*5+1,none⟩) (by show g<_;omega)).trans HQ1.out
      have q2:=(hHeld.cell (p:=⟨g,k*5+2,none⟩) (by show g<_;omega)).trans HQ2.out
      have q3:=(hHeld.cell (p:=⟨g,k*5+3,none⟩) (by show g<_;omega)).trans HQ3.out
      have q4:=(hHeld.cell (p:=⟨g,k*5+4,none⟩) (by show g<_;omega)).trans HQ4.out
      refine wpAnyH_ready (rs:=[16]) (by kernel_rfl) (by simp) ?_
      refine AllReadyH.cons (o:=⟨_,_,_,_,_,_⟩) rfl (fun K hK=>?_) AllReadyH.nil
      go_simp
      refine hK.out _ _ hHeld (fun hHeld=>?_)
      clear hK K
      clear q0 q1 q2 q3 q4
      refine wpAnyH_ready (rs:=[18]) (by kernel_rfl) (by simp) ?_
      refine AllReadyH.cons (o:=⟨_,_,_,_,_,_⟩) rfl (fun K hK=>?_) AllReadyH.nil
      have hus:=HUS.out wd hHeld
      go_simp
      refine hus.mono ?_
      rintro E w5 ⟨rfl,hb5⟩
      refine hK.out _ _ (hHeld.trans (hb5.mono hHeld.size)) (fun hHeld=>?_)
      clear hK K hus hb5
      refine wpAnyH_ready (rs:=[19]) (by kernel_rfl) (by simp) ?_
      refine AllReadyH.cons (o:=⟨_,_,_,_,_,_⟩) rfl (fun K hK=>?_) AllReadyH.nil
      go_simp
      refine hK.out _ _ hHeld (fun hHeld=>?_)
      clear hK K
      refine wpAnyH_ready (rs:=[20]) (by kernel_rfl) (by simp) ?_
      refine AllReadyH.cons (o:=⟨_,_,_,_,_,_⟩) rfl (fun K hK=>?_) AllReadyH.nil
      go_simp
      refine hK.out _ _ hHeld (fun hHeld=>?_)
      clear hK K
      refine wpAnyH_done (by kernel_rfl) ?_ _
      have hbl:=hHeld
      have HRW:=Lib.hid (hrow.out.below hbl)
      have hO2:=hO.trans (Onto.of_below hbl (Value.slice Ao (firstN pU k).length co))
      have hzl:=hbl.size
      clear hbl hrow hO HUS hHeld
      have e:=Lib.hid (firstN_no hno.out)
      clear hno
      go_wp2_with fail
      refine ⟨⟨k+1,by simp,by omega,by rw [e.out];exact HRW,hO2⟩,?_⟩
      simp only [intOf]
      omega
     ·have hyes:Hid (pU k=true):=Lib.hid ((HPU.out k).mpr (HIU.out.mpr ⟨hr0,rfl⟩))
      have hr1:(r==0)=false:=by rw [beq_eq_false_iff_ne];exact hr0
      clear c0 c2 c4
      refine wpAnyH_take (i:=11) (oi:=⟨_,_,_,_,_,_⟩) (v:=.pointer (some ⟨w.heap.size,0,none⟩)) rfl (by kernel_rfl) (by kernel_rfl) (by kernel_rfl) (fun _ _ _ h=>h) (Or.inl ⟨by rfl,fun w hSw=>by go_simp⟩) hHeld ?_
      try simp only [Act.put,sA,sB,sC]
      refine wpAnyH_take (i:=13) (oi:=⟨_,_,_,_,_,_⟩) (v:=.slice (some ⟨g,0,none⟩) ds.length cap) rfl (by kernel_rfl) (by kernel_rfl) (by kernel_rfl) (fun _ _ _ h=>h) (Or.inl ⟨by rfl,fun w hSw=>by go_simp⟩) hHeld ?_
      try simp only [Act.put,sA,sB,sC]
      refine wpAnyH_take (i:=14) (oi:=⟨_,_,_,_,_,_⟩) (v:=.int .i64 (k:Int)) rfl (by kernel_rfl) (by kernel_rfl) (by kernel_rfl) (fun _ _ _ h=>h) (Or.inl ⟨by rfl,fun w hSw=>by go_simp⟩) hHeld ?_
      try simp only [Act.put,sA,sB,sC]
      refine wpAnyH_take (i:=17) (oi:=⟨_,_,_,_,_,_⟩) (v:=.int .i64 (u:Int)) rfl (by kernel_rfl) (by kernel_rfl) (by kernel_rfl) (fun _ _ _ h=>h) (Or.inl ⟨by rfl,fun w hSw=>by go_simp⟩) hHeld ?_
      try simp only [Act.put,sA,sB,sC]
      refine wpAnyH_take (i:=12) (oi:=⟨_,_,_,_,_,_⟩) (v:=.slice At ts.length ct) rfl (by kernel_rfl) (by kernel_rfl) (by kernel_rfl) (fun _ _ _ h=>h) (Or.inl ⟨by rfl,fun w9 hSw=>by have h9:=(hSw.cell (p:=⟨w.heap.size,0,none⟩) (by show w.heap.size<_;omega)).trans HP1r.out;go_simp⟩) hHeld ?_
      try simp only [Act.put,sA,sB,sC]
      refine wpAnyH_ready (rs:=[15]) (by kernel_rfl) (by simp) ?_
      refine AllReadyH.cons (o:=⟨_,_,_,_,_,_⟩) rfl (fun K hK=>?_) AllReadyH.nil
      go_simp
      refine hK.out _ _ hHeld (fun hHeld=>?_)
      clear hK K
      have q0:=(hHeld.cell (p:=⟨g,k*5,none⟩) (by show g<_;omega)).trans HQ0.out
      have q1:=(hHeld.cell (p:=⟨g,k*5+1,none⟩) (by show g<_;omega)).trans HQ1.out
      have q2:=(hHeld.cell (p:=⟨g,k*5+2,none⟩) (by show g<_;omega)).trans HQ2.out
      have q3:=(hHeld.cell (p:=⟨g,k*5+3,none⟩) (by show g<_;omega)).trans HQ3.out
      have q4:=(hHeld.cell (p:=⟨g,k*5+4,none⟩) (by show g<_;omega)).trans HQ4.out
      refine wpAnyH_ready (rs:=[16]) (by kernel_rfl) (by simp) ?_
      refine AllReadyH.cons (o:=⟨_,_,_,_,_,_⟩) rfl (fun K hK=>?_) AllReadyH.nil
      go_simp
      refine hK.out _ _ hHeld (fun hHeld=>?_)
      clear hK K
      clear q0 q1 q2 q3 q4
      refine wpAnyH_ready (rs:=[18]) (by kernel_rfl) (by simp) ?_
      refine AllReadyH.cons (o:=⟨_,_,_,_,_,_⟩) rfl (fun K hK=>?_) AllReadyH.nil
      have hus:=HUS.out wd hHeld
      go_simp
      refine hus.mono ?_
      rintro E w5 ⟨rfl,hb5⟩
      refine hK.out _ _ (hHeld.trans (hb5.mono hHeld.size)) (fun hHeld=>?_)
      clear hK K hus hb5
      refine wpAnyH_ready (rs:=[19]) (by kernel_rfl) (by simp) ?_
      refine AllReadyH.cons (o:=⟨_,_,_,_,_,_⟩) rfl (fun K hK=>?_) AllReadyH.nil
      go_simp
      refine hK.out _ _ hHeld (fun hHeld=>?_)
      clear hK K
      refine wpAnyH_ready (rs:=[20]) (by kernel_rfl) (by simp) ?_
      refine AllReadyH.cons (o:=⟨_,_,_,_,_,_⟩) rfl (fun K hK=>?_) AllReadyH.nil
      go_simp
      refine hK.out _ _ hHeld (fun hHeld=>?_)
      clear hK K
      refine wpAnyH_done (by kernel_rfl) ?_ _
      have hbl:=hHeld
      have HRW:=Lib.hid (hrow.out.below hbl)
      have hO2:=hO.trans (Onto.of_below hbl (Value.slice Ao (firstN pU k).length co))
      have hzl:=hbl.size
      clear hbl hrow hO HUS hHeld
      have e:=Lib.hid (firstN_yes hyes.out)
      clear hyes
      go_wp2_with (at_builtin;refine wpList_append_lies _ rfl _ _ 23 rfl w.heap.size 3 i0 (.int .i64 0) 1 8 Tryz.underlying23 HI.out HZ0.out HZ1.out HZ2.out rfl (by decide) _ _ _ rfl ((RowI.own HRW.out).alloc _) ⟨_,0,none⟩ 1 1 [.int .i64 (k:Int)] rfl rfl ?sa1 ?sa2 (by decide) ?sa3 ?sa4 ?sa5 _ rfl ?_)
      try (case sa1=>exact news1 (by simp) rfl)
      try (case sa2=>rfl)
      try (case sa2=>intro u hu;simp only [List.mem_cons,List.not_mem_nil,or_false] at hu;subst hu;rfl)
      try (case sa3=>unfold maxLen;omega)
      try (case sa4=>omega)
      try (case sa5=>first | omega | (simp;omega) | (have:=hbW.size;simp;omega))
      intro g2 cap2 w' hown' hg hat hlt'
      have HO':Hid (Onto w4 w' (.slice (some ⟨w.heap.size+1,0,none⟩) 0 0) (.slice (some ⟨g2,0,none⟩) ((firstN pU k).length+1) cap2)):=by
       refine Lib.hid (hO2.trans (Onto.trans (Onto.of_below ?hb9 _) (ontoU_of hg ?ha9)))
       case hb9=>exact (Below.refl _ _).alloc (Nat.le_refl _) _
       case ha9=>exact hat.imp id fun e=>e.trans (by simp)
      have HR':Hid (RowI w' w.heap.size (.slice (some ⟨g2,0,none⟩) ((firstN pU k).length+1) cap2) (firstN pU k++[(k:Int)])):=RowI.snoc hown'
      clear hown' hg hat hO2
      go_wp2_with fail
      refine ⟨⟨k+1,by simp,by omega,by rw [e.out];exact HR',HO'.out⟩,?_⟩
      simp only [intOf]
      omega
    ·have hke:k=ds.length:=by omega
     have HANS:=Lib.hid (HMK.out (firstN pU ds.length) (isPathsB_of (by omega) fun i=>⟨fun h=>(HPU.out i).mp h.2,fun h=>⟨h.1,(HPU.out i).mpr h⟩⟩))
     subst hke
     go_wp2_with fail
     go_ret
     exact ⟨_,_,rfl,hrow.out,HANS.out,hbW⟩
 ·have hans:AnsAt (UserB ts) (validB ts s) s a []:=.inr ⟨hin,rfl⟩
  have HANS:=Lib.hid hans
  have hr:a<0∨((pointsB (validB ts s) s).length:Int)≤a:=by
   by_cases h0:a<0
   ·exact .inl h0
   ·right
    cases h1:validB ts s
    ·simp [pointsB]
     omega
    ·rw [h1] at hin
     simp only [pointsB,if_true]
     rcases Int.lt_or_le a ((progPts s).length:Int) with h2 | h2
     ·exact absurd ⟨rfl,by omega,h2⟩ hin
     ·exact h2
  generalize pointsB (validB ts s) s=ds at hS hr
  clear hz0 hrow0 hB0 hT1 hR1 hT hR hans hin
  by_cases h0:a<0
  ·go_enter Tryz.func32,Tryz.ntmps32
   go_wp2_with fail
   refine hS.mono ?_
   rintro E w1 ⟨v,rfl,hP,hb1⟩
   obtain ⟨Av,cv,hv⟩:=pRow_len_Un hP
   subst hv
   rw [HZ.out] at hb1
   have hs1:=hb1.size
   have hbw:Below w.heap.size w w1:=hb0.trans (hb1.mono (by omega))
   have HR0:Hid (RowI w1 w.heap.size (.slice (some ⟨w.heap.size+1,0,none⟩) 0 0) []):=HROW0.out.below (by rw [HZ.out];exact hb1)
   clear hP hb1 hS HROW0
   go_wp2_with fail
   go_ret
   exact ⟨_,_,rfl,HR0.out,HANS.out,hbw⟩
  ·have h2:(ds.length:Int)≤a:=by omega
   go_enter Tryz.func32,Tryz.ntmps32
   go_wp2_with fail
   refine hS.mono ?_
   rintro E w1 ⟨v,rfl,hP,hb1⟩
   obtain ⟨Av,cv,hv⟩:=pRow_len_Un hP
   subst hv
   rw [HZ.out] at hb1
   have hs1:=hb1.size
   have hbw:Below w.heap.size w w1:=hb0.trans (hb1.mono (by omega))
   have HR0:Hid (RowI w1 w.heap.size (.slice (some ⟨w.heap.size+1,0,none⟩) 0 0) []):=HROW0.out.below (by rw [HZ.out];exact hb1)
   clear hP hb1 hS HROW0
   go_wp2_with fail
   go_ret
   exact ⟨_,_,rfl,HR0.out,HANS.out,hbw⟩
end tr
end Go.Proofs.YtdcldcffnkhegaaGreatDoor
