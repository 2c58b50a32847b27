/- What can still be used,by the model. -/
import Derived.Test.YtedkkphogeealaaGreatDoorPLvG
import Derived.Test.YtedkkphogeealaaGreatDoorPL3G
import Derived.Test.YtedkkphogeealaaGreatDoorPL2Xa
import Derived.Test.YtedkkphogeealaaGreatDoorPBase
import Derived.Test.YtedkkphogeealaaGreatDoorPStmtY
import Derived.Deep.RegionHeld3
namespace Go.Proofs.YtedkkphogeealaaGreatDoor
open Go.RowKit Go.Deep
set_option linter.unusedVariables false
set_option maxRecDepth 100000
set_option maxHeartbeats 8000000
def flagN:Value→Nat
 | .bool true=>1
 | _=>0
def upI (v:Value):Nat:=(intOf v+1).toNat
def LvE (ns:List Nd) (a b:Nat):Prop:=eN ns b a
def LvG (ts:List Int) (ns:List Nd) (k v:Nat):Prop:=∃ d,ns[k]?=some d∧useI ts d v≠0
def LvK (ns:List Nd) (k v:Nat):Prop:=setsN ns k v
def LivePost (ts:List Int) (ns:List Nd) (w:World) (E:Ending) (w':World):Prop:=∃ g cap bl o,E=.returned (.slice (some ⟨g,0,none⟩) ns.length cap)∧ns.length≤cap∧cap≤maxLen∧LvM g bl ns.length ts.length w w' o∧∀ k v,k<ns.length→v<ts.length→(o k v=true↔LiveB ts ns k v)
def LvP (ts:List Int) (ns:List Nd) (g:Nat) (bl:Nat→Nat) (w1 wr:World) (M:Nat) (c:Bool) (D:Nat→Nat→Nat→Prop):Prop :=
 ∃ o,LvM g bl ns.length ts.length w1 wr o∧PassAt (LvE ns) (LvG ts ns) (LvK ns) ns.length ts.length o c D∧(c=true→lvOff bl ns.length ts.length wr<M)∧(c=false→lvOff bl ns.length ts.length wr=M)
theorem LvP.keep {ts:List Int} {ns:List Nd} {g:Nat} {bl:Nat→Nat} {w1 wr w':World} {M:Nat} {c:Bool} {D:Nat→Nat→Nat→Prop} (h:LvP ts ns g bl w1 wr M c D) (hb:Below wr.heap.size wr w'):LvP ts ns g bl w1 w' M c D:=by
 obtain ⟨o,h1,h2,h3,h4⟩:=h
 have h5:=h1.keep hb
 have e:lvOff bl ns.length ts.length w'=lvOff bl ns.length ts.length wr:=h5.off.trans h1.off.symm
 exact ⟨o,h5,h2,fun hc=>by rw [e];exact h3 hc,fun hc=>by rw [e];exact h4 hc⟩
theorem LvP.congr {ts:List Int} {ns:List Nd} {g:Nat} {bl:Nat→Nat} {w1 wr:World} {M:Nat} {c:Bool} {D D':Nat→Nat→Nat→Prop} (h:LvP ts ns g bl w1 wr M c D) (hD:∀ m k v,v<ts.length→k∈nextN ns m→D' m k v→D m k v):LvP ts ns g bl w1 wr M c D':=by
 obtain ⟨o,h1,h2,h3,h4⟩:=h
 exact ⟨o,h1,h2.congr hD,h3,h4⟩
theorem LvP.below {ts:List Int} {ns:List Nd} {g:Nat} {bl:Nat→Nat} {w1 wr:World} {M:Nat} {c:Bool} {D:Nat→Nat→Nat→Prop} (h:LvP ts ns g bl w1 wr M c D):Below w1.heap.size w1 wr:=by
 obtain ⟨o,h1,_⟩:=h
 exact h1.below
theorem LvM.base {g:Nat} {bl:Nat→Nat} {n T:Nat} {w w1 wr:World} {o:Nat→Nat→Bool} (h:LvM g bl n T w1 wr o) (hb:Below w.heap.size w w1):LvM g bl n T w wr o :=
 ⟨h.row,h.fl,h.inj,fun k hk=>Nat.le_trans hb.size (h.from_ k hk),hb.trans (h.below.mono hb.size)⟩
theorem NextV.cell_at {w:World} {B:Nat} {u:Value} {next:List Int} (h:NextV w B u next) {x:Nat} (hx:x<next.length):∃ g,u=.slice (some ⟨g,0,none⟩) next.length next.length∧∀ v,next[x]?=some v→w.cell? ⟨g,x,none⟩=some (.int .i64 v):=by
 rcases h with ⟨h1,_⟩ | ⟨g,h1,_,h3⟩
 ·rw [h1] at hx
  exact absurd hx (Nat.not_lt_zero _)
 ·refine ⟨g,h1,fun v hv=>?_⟩
  rw [cB h3]
  simp [hv]
theorem LvP.more {ts:List Int} {ns:List Nd} {g:Nat} {bl:Nat→Nat} {w1 wr:World} {M:Nat} {c:Bool} {D D':Nat→Nat→Nat→Prop} {o:Nat→Nat→Bool} (h1:LvM g bl ns.length ts.length w1 wr o) (h2:PassAt (LvE ns) (LvG ts ns) (LvK ns) ns.length ts.length o c D) (h3:c=true→lvOff bl ns.length ts.length wr<M) (h4:c=false→lvOff bl ns.length ts.length wr=M)
  {a b u:Nat} (ha:a<ns.length) (hb:b<ns.length) (hu:u<ts.length) (hab:b∈nextN ns a) (hg:LvG ts ns b u∨(o b u=true∧¬ LvK ns b u)) (ho:o a u=false):LvP ts ns g bl w1 (wr.setCell ⟨bl a,u,none⟩ (.bool true)) M true D':=by
 have h5:=h1.put ha hu
 refine ⟨_,h5,h2.more hb hu hab hg,fun _=>?_,fun h=>by cases h⟩
 have:=offM_more ha hu ho
 rw [h5.off]
 have e:=h1.off
 cases c
 ·have:=h4 rfl
  omega
 ·have:=h3 rfl
  omega
theorem held_8 {K:Nat} {w1 wo w':World} {a0 a1 a2 a3 a4 a5 a6 a7:Addr} {b0 b1 b2 b3 b4 b5 b6 b7:Value} (hb:Below wo.heap.size wo w') (h:Below K w1 wo) (hK:K=w1.heap.size)
  (h0:a0.block<w1.heap.size) (h1:a1.block<w1.heap.size) (h2:a2.block<w1.heap.size) (h3:a3.block<w1.heap.size) (h4:a4.block<w1.heap.size) (h5:a5.block<w1.heap.size) (h6:a6.block<w1.heap.size) (h7:a7.block<w1.heap.size)
  (q0:w1.cell? a0=some b0) (q1:w1.cell? a1=some b1) (q2:w1.cell? a2=some b2) (q3:w1.cell? a3=some b3) (q4:w1.cell? a4=some b4) (q5:w1.cell? a5=some b5) (q6:w1.cell? a6=some b6) (q7:w1.cell? a7=some b7) :
  Below K w1 w'∧w'.cell? a0=some b0∧w'.cell? a1=some b1∧w'.cell? a2=some b2∧w'.cell? a3=some b3∧w'.cell? a4=some b4∧w'.cell? a5=some b5∧w'.cell? a6=some b6∧w'.cell? a7=some b7:=by
 subst hK
 have hbb:Below w1.heap.size w1 w':=h.trans (hb.mono h.size)
 exact ⟨hbb,(hbb.cell h0).trans q0,(hbb.cell h1).trans q1,(hbb.cell h2).trans q2,(hbb.cell h3).trans q3,(hbb.cell h4).trans q4,(hbb.cell h5).trans q5,(hbb.cell h6).trans q6,(hbb.cell h7).trans q7⟩
theorem l3Live_any (ts:List Int) (s:Sts) (At As:Option Addr) (ct cs:Nat) (w:World) (h1:validB ts s=true) (hT:IntsV w 0 w.heap.size ts At ct) (hR:RepV w 0 w.heap.size s As cs) :
  Calls Tryz.prog 43 #[.agg #[.slice At ts.length ct,.slice As s.len cs]] w (LivePost ts (progPts s) w):=by
 have hb0:=(Below.refl w.heap.size w).alloc (Nat.le_refl _) (.cells #[.slice At ts.length ct,.slice As s.len cs] 30)
 have hz0:(w.alloc (.cells #[.slice At ts.length ct,.slice As s.len cs] 30)).heap.size=w.heap.size+1:=by simp
 have hB0:=heap_alloc_new w (.cells #[.slice At ts.length ct,.slice As s.len cs] 30)
 have h30:=valid_size h1
 have ht6:=(progPts_allTyped h1).1
 have hD:=progPts_ok s (valid_ok h1).2.1
 have hle:(progPts s).length≤61:=by
  have:=s.npts_le
  rw [progPts_len]
  omega
 have hn0:0<(progPts s).length:=by
  rw [progPts_len]
  unfold Sts.npts
  omega
 have hlp:=l2Points_any ts s At As ct cs _ (by omega) (hR.below hb0 (by simp))
 generalize progPts s=ds at hlp hD hle hn0 ⊢
 generalize s.npts=q at hD
 have HZ:=Lib.hid hz0
 have HB:=Lib.hid hB0
 have HD:=Lib.hid hD
 have HT:=Lib.hid hT
 have hTm:=hT.2.1
 have hTl:=hT.1
 unfold maxLen at hTm
 have HMK:Hid (∀ W:World,_):=Lib.hid (fun W=>run_make_row' (P:=Tryz.prog) 72 4 (.bool false) 1 Tryz.underlying72 Tryz.infoBool rfl .i64 .i64 ts.length (by omega) (by omega) W)
 obtain ⟨i0,hi,hzz0,hzz1,hzz2⟩:=info_parts Tryz.infoBools
 have HI:=Lib.hid hi
 have HZ0:=Lib.hid hzz0
 have HZ1:=Lib.hid hzz1
 have HZ2:=Lib.hid hzz2
 clear hi hzz0 hzz1 hzz2 h1 hz0 hB0 hD hT hR
 go_enter Tryz.func43,Tryz.ntmps43
 go_wp2_with fail
 refine hlp.mono ?_
 rintro E w1 ⟨v,rfl,hP,hb1⟩
 rw [HZ.out] at hP hb1
 have hs1:=hb1.size
 rw [HZ.out] at hs1
 have hbw:Below w.heap.size w w1:=hb0.trans (hb1.mono (by omega))
 obtain ⟨g,cap,hv,hgB,hgl,hgc,hgm⟩:=hP.form hn0
 subst hv
 unfold maxLen at hgm
 have hB1:=(hb1.block w.heap.size (by omega)).trans HB.out
 have p0:w1.cell? ⟨w.heap.size,0,none⟩=some (.slice At ts.length ct):=(cB hB1 0).trans rfl
 have HP:=Lib.hid hP
 have hz2:(w1.alloc (.cells #[] 72)).heap.size=w1.heap.size+1:=by simp
 have hlv0:=LvRows.nil w1 w1.heap.size ts.length (Nat.le_refl _)
 have hbe0:=(Below.refl w1.heap.size w1).alloc (Nat.le_refl _) (.cells #[] 72)
 have HL0:=Lib.hid hlv0
 have HB0:=Lib.hid hbe0
 have HP0:=Lib.hid p0
 clear hP hb1 hlp hB1 hlv0 hbe0 hz2 p0
 go_wp2_with fail
 go_loopw [4,5] (fun o i wr=>∃ (k:Nat) (bl:Nat→Nat) (g2 c2:Nat),o=.slice (some ⟨g2,0,none⟩) k c2∧i=.int .i64 k∧k≤ds.length∧Hid (LvRows wr w1.heap.size (.slice (some ⟨g2,0,none⟩) k c2) k ts.length bl)∧Hid (Below w1.heap.size w1 wr)) (fun _ i _=>ds.length-(intOf i).toNat)
 case atStart=>exact ⟨0,_,_,_,rfl,rfl,Nat.zero_le _,HL0,HB0⟩
 case round =>
  clear HL0 HB0
  obtain ⟨k,bl,g2,c2,rfl,rfl,hk,hL,hbr⟩:=hrel
  have hbrs:=hbr.out.size
  by_cases hlt:k<ds.length
  ·obtain ⟨xs,ho,hx1,hx2⟩:=hL.out
   have HO:=Lib.hid ho
   have HX1:=Lib.hid hx1
   have HX2:=Lib.hid hx2
   have p1:=(hbr.out.cell (show w.heap.size<w1.heap.size by omega)).trans HP0.out
   have hmk:=HMK.out wr
   have hFl:=FlAt.made wr ts.length
   have hbm:=(Below.refl wr.heap.size wr).alloc (Nat.le_refl _) (.cells (madeCells #[.bool false] ts.length) 4)
   have hzm:(wr.alloc (.cells (madeCells #[.bool false] ts.length) 4)).heap.size=wr.heap.size+1:=by simp
   generalize wr.alloc (.cells (madeCells #[.bool false] ts.length) 4)=wm at hmk hFl hbm hzm
   have HZM:=Lib.hid hzm
   have HFL:=Lib.hid hFl
   have HBM:=Lib.hid hbm
   have HO2:Hid (wm.ownsRow w1.heap.size 72 1 (.slice (some ⟨g2,0,none⟩) k c2) k xs):=Lib.hid (ho.kept (below_grown hbm) (by simp [Value.ownBlock]))
   clear ho hx1 hx2 hFl hbm hzm
   go_wp2_with (at_builtin;refine wpList_append_lies _ rfl _ _ 65 rfl w1.heap.size 72 i0 (.slice none 0 0) 1 24 Tryz.underlying65 HI.out HZ0.out HZ1.out HZ2.out rfl (by decide) _ _ _ rfl (HO2.out.alloc _) ⟨_,0,none⟩ 1 1 [.slice (some ⟨wr.heap.size,0,none⟩) ts.length ts.length] rfl rfl ?sa1 ?sa2 (by decide) ?sa3 ?sa4 ?sa5 _ rfl ?_)
   try (case sa1=>exact news1 (by simp) rfl)
   try (case sa2=>rfl)
   try (case sa2=>intro u hu;simp only [List.mem_cons,List.not_mem_nil,or_false] at hu;subst hu;rfl)
   try (case sa3=>unfold maxLen;omega)
   try (case sa4=>omega)
   try (case sa5=>first | omega | (simp;omega) | (have hq:=HZM.out;simp;omega))
   intro g3 cap3 w' hown' hg hat hlt'
   have hba:=(Below.refl wm.heap.size wm).alloc (Nat.le_refl _) (.cells #[.slice (some ⟨wr.heap.size,0,none⟩) ts.length ts.length] 72)
   have hza:=hba.size
   have hzm2:=HZM.out
   have hb1:Below wr.heap.size wr (wm.alloc (.cells #[.slice (some ⟨wr.heap.size,0,none⟩) ts.length ts.length] 72)):=HBM.out.trans (hba.mono (by omega))
   have hg2:g2<wr.heap.size∧w1.heap.size≤g2:=by
    rcases HO.out.2 with ⟨e,_⟩ | ⟨g',cap',cur',e,h8,h9,_⟩
    ·simp at e
    ·simp only [Value.slice.injEq,Option.some.injEq,Addr.mk.injEq] at e
     rw [e.1.1]
     exact ⟨heap_lt h9,h8⟩
   have HL':Hid (LvRows w' w1.heap.size (.slice (some ⟨g3,0,none⟩) (k+1) cap3) (k+1) ts.length (setR bl k wr.heap.size)):=LvRows.more HO.out HX1.out HX2.out hb1 (HFL.out.keep (hba.block _ (by omega))) (Nat.le_refl _) hbrs hg (fun j hj=>by have hq:g2=j:=(by simpa [Value.ownBlock] using hj);omega) hown'
   have HB':Hid (Below w1.heap.size w1 w'):=(hbr.out.trans (hb1.mono hbrs)).grown hg (by omega) (fun j hj=>by have hq:g2=j:=(by simpa [Value.ownBlock] using hj);omega)
   clear hown' hg hat hba hb1 hza hzm2
   go_wp2_with fail
   refine ⟨⟨k+1,_,g3,cap3,rfl,by simp,by omega,HL',HB'⟩,?_⟩
   simp only [intOf]
   omega
  ·have hke:k=ds.length:=by omega
   subst hke
   obtain ⟨g4,cap4,hv4,hn4,hm4,hM4⟩:=hL.out.open hn0 (Nat.le_refl _) hbr.out
   injection hv4 with hv4 _ hc4
   injection hv4 with hv4
   injection hv4 with hv4
   subst hv4 hc4
   have HM4:=Lib.hid hM4
   clear hM4 hL hbr
   go_wp2_with fail
   have HQ0:Hid (∃ o,LvM g2 bl ds.length ts.length w1 wr o∧PassAt (LvE ds) (LvG ts ds) (LvK ds) ds.length ts.length o true (fun _ _ _=>True)):=⟨_,HM4.out,fun m hm v hv h=>by simp at h,fun h=>by cases h⟩
   clear HM4
   go_loopw [6] (fun c wr=>∃ cb:Bool,c=.bool cb∧Hid (∃ o,LvM g2 bl ds.length ts.length w1 wr o∧PassAt (LvE ds) (LvG ts ds) (LvK ds) ds.length ts.length o cb (fun _ _ _=>True))) (fun c wr=>2*lvOff bl ds.length ts.length wr+flagN c)
   case atStart=>exact ⟨true,rfl,HQ0⟩
   case round =>
    clear HQ0
    rename_i wq
    obtain ⟨cb,rfl,HQ⟩:=hrel
    cases cb
    ·obtain ⟨o,hM,hPA⟩:=HQ.out
     have hfin:LivePost ts ds w (.returned (.slice (some ⟨g2,0,none⟩) ds.length c2)) wr:=⟨g2,c2,bl,o,rfl,hn4,hm4,hM.base hbw,fun k v hk hv=>PassIn.last hPA (fun _ _ _ _ _=>trivial) hk hv⟩
     have HFIN:=Lib.hid hfin
     clear hfin hM hPA HQ
     go_wp2_with fail
     go_ret
     exact HFIN.out
    ·obtain ⟨M,hM0⟩:∃ M,M=lvOff bl ds.length ts.length wr:=⟨_,rfl⟩
     have HST:Hid (LvP ts ds g2 bl w1 wr M false (fun m _ _=>ds.length≤m)):=by
      obtain ⟨o,hM,hPA⟩:=HQ.out
      refine ⟨o,hM,⟨hPA.sound,fun _ m k v hv hm he=>?_⟩,fun h=>by (cases h),fun _=>hM0.symm⟩
      obtain ⟨d9,i9,e9,_⟩:=(mem_nextN HD.out hle _ _).mp he
      have:=(List.getElem?_eq_some_iff.mp e9).1
      omega
     have HM0:=Lib.hid hM0
     clear HQ hM0
     go_wp2_with fail
     go_loopw [6,7] (fun c i wr=>∃ (j:Nat) (cb:Bool),c=.bool cb∧i=.int .i64 ((j:Int)-1)∧j≤ds.length∧Hid (LvP ts ds g2 bl w1 wr M cb (fun m _ _=>j≤m))) (fun c i wr=>upI i)
     case atStart=>exact ⟨ds.length,false,rfl,rfl,Nat.le_refl _,HST⟩
     case round =>
      clear HST
      obtain ⟨j,cb,rfl,rfl,hj,HS⟩:=hrel
      by_cases hj0:j=0
      ·have hd0:decide ((1:Int)≤(j:Int))=false:=decide_eq_false (by omega)
       have hnj:¬ ((1:Int)≤(j:Int)):=by omega
       have HJ0:=Lib.hid hj0
       clear hj0
       go_wp2_with fail
       obtain ⟨o,hM,hPA,hlt1,hlt2⟩:=HS.out
       refine ⟨⟨cb,rfl,o,hM,hPA.congr (fun m k v _ _ _=>by have:=HJ0.out;omega)⟩,?_⟩
       have:=HM0.out
       cases cb
       ·have:=hlt2 rfl
        simp only [flagN]
        omega
       ·have:=hlt1 rfl
        simp only [flagN]
        omega
      ·obtain ⟨a,rfl⟩:∃ a,j=a+1:=⟨j-1,by omega⟩
       have hae:(((a+1:Nat):Int)-1)=(a:Int):=by omega
       rw [hae]
       have hd0:decide ((0:Int)≤(a:Int))=true:=decide_eq_true (by omega)
       obtain ⟨d,hd⟩:∃ d,ds[a]?=some d:=⟨ds[a],List.getElem?_eq_getElem (by omega)⟩
       have htwo:=nextN_two HD.out hd
       have hint:=nextN_ints HD.out hd
       have HDA:=Lib.hid hd
       have HINT:=Lib.hid hint
       have HSK:Hid (LvP ts ds g2 bl w1 wr M cb (fun m k v=>a+1≤m∨(m=a∧∃ y,y<0∧d.next[y]?=some (k:Int)))):=HS.out.congr (fun m k v _ _ h=>by rcases h with h | ⟨_,y,hy,_⟩;exact h;omega)
       clear hj0 hae hd hint HS
       go_wp2_with fail
       go_loopw [6,8] (fun c i wr=>∃ (x:Nat) (cb:Bool),c=.bool cb∧i=.int .i64 x∧x≤d.next.length∧Hid (LvP ts ds g2 bl w1 wr M cb (fun m k v=>a+1≤m∨(m=a∧∃ y,y<x∧d.next[y]?=some (k:Int))))) (fun c i wr=>d.next.length-(intOf i).toNat)
       case atStart=>exact ⟨0,cb,rfl,rfl,Nat.zero_le _,HSK⟩
       case round =>
        clear HSK
        obtain ⟨x,cb,rfl,rfl,hx,HS⟩:=hrel
        have hbe:=HS.out.below
        have hbez:=hbe.size
        obtain ⟨ua,⟨-,-,-,-,a4⟩,hua⟩:=(HP.out.below hbe).cells HDA.out
        have hrow:=NextV.row hua htwo
        by_cases hxl:x<d.next.length
        ·obtain ⟨b0,hsa,hcell⟩:=hua.cell_at hxl
         subst hsa
         obtain ⟨b,hbx⟩:∃ b:Nat,d.next[x]?=some (b:Int):=by
          obtain ⟨u0,hu0⟩:∃ u0,d.next[x]?=some u0:=⟨d.next[x],List.getElem?_eq_getElem hxl⟩
          have hm:u0∈d.next:=List.mem_of_getElem? hu0
          rw [← HINT.out.1] at hm
          obtain ⟨b,hb,e3⟩:=List.mem_map.mp hm
          exact ⟨b,by rw [hu0,← e3]⟩
         have hcb:=hcell _ hbx
         clear hcell
         have hbL:b<ds.length:=by
          have hm:(b:Int)∈d.next:=List.mem_of_getElem? hbx
          rw [← HINT.out.1] at hm
          obtain ⟨b',hb',e3⟩:=List.mem_map.mp hm
          have:=HINT.out.2 b' hb'
          have:(b':Int)=(b:Int):=e3
          omega
         have hedge:b∈nextN ds a:=(mem_nextN HD.out hle _ _).mpr ⟨d,x,HDA.out,hbx,.inl (by omega)⟩
         obtain ⟨db,hdb⟩:∃ db,ds[b]?=some db:=⟨ds[b],List.getElem?_eq_getElem hbL⟩
         have HDB:=Lib.hid hdb
         have HBX:=Lib.hid hbx
         have HED:=Lib.hid hedge
         have hu:∀ W:World,Below w1.heap.size w1 W→∀ (ub:Value) (u:Nat),u<ts.length→Calls Tryz.prog 73 #[.slice At ts.length ct,.agg #[.int .i64 db.op,.int .i64 db.x,.int .i64 db.y,.int .i64 db.n,ub],.int .i64 u] W fun E w'=>E=.returned (.int .i64 (useI ts db u))∧Below W.heap.size W w':=fun W hW ub u hu=>l3Use_any ts At ct db.op db.x db.y db.n db.next ub u W hu (HT.out.below (hbw.trans (hW.mono (by omega))) (by have:=hW.size;omega))
         have hset:∀ (W:World) (ub:Value),Calls Tryz.prog 77 #[.agg #[.int .i64 db.op,.int .i64 db.x,.int .i64 db.y,.int .i64 db.n,ub]] W fun E w'=>E=.returned (.int .i64 (setI db))∧Below W.heap.size W w':=fun W ub=>l3Set_any db.op db.x db.y db.n db.next ub W
         have HU:=Lib.hid hu
         have HSET:=Lib.hid hset
         have HSV:Hid (LvP ts ds g2 bl w1 wr M cb (fun m k v=>a+1≤m∨(m=a∧∃ y,y<x∧d.next[y]?=some (k:Int))∨(m=a∧k=b∧v<0))):=HS.out.congr (fun m k v _ _ h=>by rcases h with h | h | ⟨_,_,h⟩;exact .inl h;exact .inr h;omega)
         clear hrow hua hbx hedge hdb hu hset HS hbe
         go_wp2_with fail
         go_loopw [6,10] (fun c i wr=>∃ (u:Nat) (cb:Bool),c=.bool cb∧i=.int .i64 u∧u≤ts.length∧Hid (LvP ts ds g2 bl w1 wr M cb (fun m k v=>a+1≤m∨(m=a∧∃ y,y<x∧d.next[y]?=some (k:Int))∨(m=a∧k=b∧v<u)))) (fun c i wr=>ts.length-(intOf i).toNat)
         case atStart=>exact ⟨0,cb,rfl,rfl,Nat.zero_le _,HSV⟩
         case round =>
          clear HSV
          rename_i wv
          obtain ⟨u,cb,rfl,rfl,hul,HS⟩:=hrel
          have hbe:=HS.out.below
          have hbez:=hbe.size
          have p1:=(hbe.cell (show w.heap.size<w1.heap.size by omega)).trans HP0.out
          by_cases hlu:u<ts.length
          ·obtain ⟨ub,⟨q0,q1,q2,q3,q4⟩,hub⟩:=(HP.out.below hbe).cells HDB.out
           obtain ⟨o,hM,hPA,hM1,hM2⟩:=HS.out
           have rb:=hM.cell hbL
           have fb:=(hM.fl b hbL).cell hlu
           have hl0:(⟨w.heap.size,0,none⟩:Addr).block<wr.heap.size:=by simp;omega
           have hl1:g<wr.heap.size:=by omega
           have hl3:bl b<wr.heap.size:=(hM.fl b hbL).lt
           have hl2:g2<wr.heap.size:=by
            obtain ⟨cur,r1,_⟩:=hM.row
            exact heap_lt r1
           obtain ⟨U,hU⟩:∃ U,useI ts db u=U:=⟨_,rfl⟩
           have HUU:Hid (∀ W:World,Below w1.heap.size w1 W→Calls Tryz.prog 73 #[.slice At ts.length ct,.agg #[.int .i64 db.op,.int .i64 db.x,.int .i64 db.y,.int .i64 db.n,ub],.int .i64 u] W fun E w'=>E=.returned (.int .i64 U)∧Below W.heap.size W w'):=Lib.hid (fun W hW=>by
            have h9:=HU.out W hW ub u hlu
            rw [hU] at h9
            exact h9)
           have hal:a<ds.length:=(List.getElem?_eq_some_iff.mp HDA.out).1
           have HNU:=Lib.hid hU
           clear hU hub
           by_cases hU0:U=0
           ·subst hU0
            have HNG:Hid (¬ LvG ts ds b u):=fun h9=>by
             obtain ⟨d9,e9,h10⟩:=h9
             rw [HDB.out] at e9
             injection e9 with e9
             subst e9
             exact h10 HNU.out
            cases hob:o b u
            ·rw [hob] at fb
             have HOB:=Lib.hid hob
             clear hob
             go_wp2_with fail
             refine wp_region_held_drew (S:=(fun w'=>Below wr.heap.size wr w'∧w'.cell? ⟨w.heap.size,0,none⟩=some (.slice At ts.length ct)∧w'.cell? ⟨g,b*5,none⟩=some (.int .i64 db.op)∧w'.cell? ⟨g,b*5+1,none⟩=some (.int .i64 db.x)∧w'.cell? ⟨g,b*5+2,none⟩=some (.int .i64 db.y)∧w'.cell? ⟨g,b*5+3,none⟩=some (.int .i64 db.n)∧w'.cell? ⟨g,b*5+4,none⟩=some ub∧w'.cell? ⟨g2,b,none⟩=some (.slice (some ⟨bl b,0,none⟩) ts.length ts.length)∧w'.cell? ⟨bl b,u,none⟩=some (.bool false))) (by kernel_rfl) ⟨(Below.refl wr.heap.size wr).drew,p1,q0,q1,q2,q3,q4,rb,fb⟩ (fun hHeld=>?_)
             refine tk (i:=0) (v:=.pointer (some ⟨w.heap.size,0,none⟩)) rfl (Or.inl ⟨by rfl,fun w hSw=>by obtain ⟨h0,h1,h2,h3,h4,h5,h6,h7,h8⟩:=hSw;go_simp⟩) hHeld ?_
             try simp only [Act.put,sA,sB,sC]
             refine tk (i:=1) (v:=.slice At ts.length ct) rfl (Or.inl ⟨by rfl,fun w hSw=>by obtain ⟨h0,h1,h2,h3,h4,h5,h6,h7,h8⟩:=hSw;go_simp⟩) hHeld ?_
             try simp only [Act.put,sA,sB,sC]
             refine tk (i:=2) (v:=.slice (some ⟨g,0,none⟩) ds.length cap) rfl (Or.inl ⟨by rfl,fun w hSw=>by obtain ⟨h0,h1,h2,h3,h4,h5,h6,h7,h8⟩:=hSw;go_simp⟩) hHeld ?_
             try simp only [Act.put,sA,sB,sC]
             refine tk (i:=3) (v:=.int .i64 (b:Int)) rfl (Or.inl ⟨by rfl,fun w hSw=>by obtain ⟨h0,h1,h2,h3,h4,h5,h6,h7,h8⟩:=hSw;go_simp⟩) hHeld ?_
             try simp only [Act.put,sA,sB,sC]
             refine tk (i:=4) (v:=.pointer (some ⟨g,b*5,none⟩)) rfl (Or.inl ⟨by rfl,fun w hSw=>by obtain ⟨h0,h1,h2,h3,h4,h5,h6,h7,h8⟩:=hSw;go_simp⟩) hHeld ?_
             try simp only [Act.put,sA,sB,sC]
             refine tk (i:=6) (v:=.int .i64 (u:Int)) rfl (Or.inl ⟨by rfl,fun w hSw=>by obtain ⟨h0,h1,h2,h3,h4,h5,h6,h7,h8⟩:=hSw;go_simp⟩) hHeld ?_
             try simp only [Act.put,sA,sB,sC]
             refine wpAnyH_ready (rs:=[5]) (by kernel_rfl) (by simp) ?_
             refine AllReadyH.cons (o:=⟨_,_,_,_,_,_⟩) rfl (fun K hK=>?_) AllReadyH.nil
             obtain ⟨h0,h1,h2,h3,h4,h5,h6,h7,h8⟩:=id hHeld
             go_simp
             clear h0 h1 h2 h3 h4 h5 h6 h7 h8
             refine hK.out _ _ hHeld (fun hHeld=>?_)
             clear hK K
             refine wpAnyH_ready (rs:=[7]) (by kernel_rfl) (by simp) ?_
             refine AllReadyH.cons (o:=⟨_,_,_,_,_,_⟩) rfl (fun K hK=>?_) AllReadyH.nil
             obtain ⟨h0,h1,h2,h3,h4,h5,h6,h7,h8⟩:=id hHeld
             go_simp
             refine (HUU.out _ (hbe.trans (h0.mono (by omega)))).mono ?_
             rintro E w6 ⟨rfl,hbn⟩
             clear h0 h1 h2 h3 h4 h5 h6 h7 h8
             refine hK.out _ _ (held_8 hbn hHeld.1 rfl hl0 hl1 hl1 hl1 hl1 hl1 hl2 hl3 p1 q0 q1 q2 q3 q4 rb fb) (fun hHeld=>?_)
             clear hK K hbn
             refine tk (i:=8) (v:=.bool false) rfl (Or.inl ⟨by rfl,fun w hSw=>by obtain ⟨h0,h1,h2,h3,h4,h5,h6,h7,h8⟩:=hSw;go_simp⟩) hHeld ?_
             try simp only [Act.put,sA,sB,sC]
             refine tk (i:=9) (v:=.bool false) rfl (Or.inl ⟨by rfl,fun w hSw=>by obtain ⟨h0,h1,h2,h3,h4,h5,h6,h7,h8⟩:=hSw;go_simp⟩) hHeld ?_
             try simp only [Act.put,sA,sB,sC]
             refine tk (i:=10) (v:=.slice (some ⟨g2,0,none⟩) ds.length c2) rfl (Or.inl ⟨by rfl,fun w hSw=>by obtain ⟨h0,h1,h2,h3,h4,h5,h6,h7,h8⟩:=hSw;go_simp⟩) hHeld ?_
             try simp only [Act.put,sA,sB,sC]
             refine tk (i:=11) (v:=.int .i64 (b:Int)) rfl (Or.inl ⟨by rfl,fun w hSw=>by obtain ⟨h0,h1,h2,h3,h4,h5,h6,h7,h8⟩:=hSw;go_simp⟩) hHeld ?_
             try simp only [Act.put,sA,sB,sC]
             refine tk (i:=12) (v:=.pointer (some ⟨g2,b,none⟩)) rfl (Or.inl ⟨by rfl,fun w hSw=>by obtain ⟨h0,h1,h2,h3,h4,h5,h6,h7,h8⟩:=hSw;go_simp⟩) hHeld ?_
             try simp only [Act.put,sA,sB,sC]
             refine tk (i:=13) (v:=.slice (some ⟨bl b,0,none⟩) ts.length ts.length) rfl (Or.inl ⟨by rfl,fun w hSw=>by obtain ⟨h0,h1,h2,h3,h4,h5,h6,h7,h8⟩:=hSw;go_simp⟩) hHeld ?_
             try simp only [Act.put,sA,sB,sC]
             refine tk (i:=14) (v:=.int .i64 (u:Int)) rfl (Or.inl ⟨by rfl,fun w hSw=>by obtain ⟨h0,h1,h2,h3,h4,h5,h6,h7,h8⟩:=hSw;go_simp⟩) hHeld ?_
             try simp only [Act.put,sA,sB,sC]
             refine tk (i:=15) (v:=.pointer (some ⟨bl b,u,none⟩)) rfl (Or.inl ⟨by rfl,fun w hSw=>by obtain ⟨h0,h1,h2,h3,h4,h5,h6,h7,h8⟩:=hSw;go_simp⟩) hHeld ?_
             try simp only [Act.put,sA,sB,sC]
             refine tk (i:=16) (v:=.bool false) rfl (Or.inl ⟨by rfl,fun w hSw=>by obtain ⟨h0,h1,h2,h3,h4,h5,h6,h7,h8⟩:=hSw;go_simp⟩) hHeld ?_
             try simp only [Act.put,sA,sB,sC]
             refine tk (i:=17) (v:=.bool false) rfl (Or.inl ⟨by rfl,fun w hSw=>by obtain ⟨h0,h1,h2,h3,h4,h5,h6,h7,h8⟩:=hSw;go_simp⟩) hHeld ?_
             try simp only [Act.put,sA,sB,sC]
             refine tk (i:=18) (v:=undef) rfl (Or.inr ⟨by rfl,rfl⟩) hHeld ?_
             try simp only [Act.put,sA,sB,sC]
             refine tk (i:=19) (v:=undef) rfl (Or.inr ⟨by rfl,rfl⟩) hHeld ?_
             try simp only [Act.put,sA,sB,sC]
             refine tk (i:=20) (v:=undef) rfl (Or.inr ⟨by rfl,rfl⟩) hHeld ?_
             try simp only [Act.put,sA,sB,sC]
             refine tk (i:=21) (v:=undef) rfl (Or.inr ⟨by rfl,rfl⟩) hHeld ?_
             try simp only [Act.put,sA,sB,sC]
             refine tk (i:=22) (v:=undef) rfl (Or.inr ⟨by rfl,rfl⟩) hHeld ?_
             try simp only [Act.put,sA,sB,sC]
             refine tk (i:=23) (v:=undef) rfl (Or.inr ⟨by rfl,rfl⟩) hHeld ?_
             try simp only [Act.put,sA,sB,sC]
             refine tk (i:=24) (v:=undef) rfl (Or.inr ⟨by rfl,rfl⟩) hHeld ?_
             try simp only [Act.put,sA,sB,sC]
             refine tk (i:=25) (v:=.bool false) rfl (Or.inl ⟨by rfl,fun w hSw=>by obtain ⟨h0,h1,h2,h3,h4,h5,h6,h7,h8⟩:=hSw;go_simp⟩) hHeld ?_
             try simp only [Act.put,sA,sB,sC]
             refine tk (i:=26) (v:=.bool false) rfl (Or.inl ⟨by rfl,fun w hSw=>by obtain ⟨h0,h1,h2,h3,h4,h5,h6,h7,h8⟩:=hSw;go_simp⟩) hHeld ?_
             try simp only [Act.put,sA,sB,sC]
             refine wpAnyH_ready (rs:=[27]) (by kernel_rfl) (by simp) ?_
             refine AllReadyH.cons (o:=⟨_,_,_,_,_,_⟩) rfl (fun K hK=>?_) AllReadyH.nil
             obtain ⟨h0,h1,h2,h3,h4,h5,h6,h7,h8⟩:=id hHeld
             go_simp
             clear h0 h1 h2 h3 h4 h5 h6 h7 h8
             refine hK.out _ _ hHeld (fun hHeld=>?_)
             clear hK K
             refine wpAnyH_done (by kernel_rfl) ?_ _
             have hbl:=hHeld.1
             clear hHeld p1 q0 q1 q2 q3 q4 rb fb
             have HS2:Hid (LvP ts ds g2 bl w1 _ M cb (fun m k v=>a+1≤m∨(m=a∧∃ y,y<x∧d.next[y]?=some (k:Int))∨(m=a∧k=b∧v<u+1))):=LvP.keep (ts:=ts) (ns:=ds) ⟨o,hM,hPA.same (a:=a) (b:=b) (u:=u) (.inl (fun h9=>by rcases h9 with h9 | ⟨h9,_⟩;exact HNG.out h9;rw [HOB.out] at h9;cases h9)) (fun m k v h=>by
              rcases h with h | h | ⟨e1,e2,h⟩
              ·exact .inl (.inl h)
              ·exact .inl (.inr (.inl h))
              ·by_cases hvu:v=u
               ·exact .inr ⟨e1,e2,hvu⟩
               ·exact .inl (.inr (.inr ⟨e1,e2,by omega⟩))),hM1,hM2⟩ hbl
             clear hbl hM hPA hM1 hM2 HS HUU
             go_wp2_with fail
             refine ⟨⟨u+1,cb,rfl,by simp,by omega,HS2⟩,?_⟩
             simp only [intOf]
             omega
            ·rw [hob] at fb
             have HOB:=Lib.hid hob
             clear hob
             by_cases hsu:setI db=(u:Int)
             ·have hse:(setI db != (u:Int))=false:=by rw [hsu];simp
              have HSU:=Lib.hid hsu
              clear hsu
              go_wp2_with fail
              go_region_held3 (fun w'=>Below wr.heap.size wr w'∧w'.cell? ⟨w.heap.size,0,none⟩=some (.slice At ts.length ct)∧w'.cell? ⟨g,b*5,none⟩=some (.int .i64 db.op)∧w'.cell? ⟨g,b*5+1,none⟩=some (.int .i64 db.x)∧w'.cell? ⟨g,b*5+2,none⟩=some (.int .i64 db.y)∧w'.cell? ⟨g,b*5+3,none⟩=some (.int .i64 db.n)∧w'.cell? ⟨g,b*5+4,none⟩=some ub∧w'.cell? ⟨g2,b,none⟩=some (.slice (some ⟨bl b,0,none⟩) ts.length ts.length)∧w'.cell? ⟨bl b,u,none⟩=some (.bool true))
               (first | exact ⟨(Below.refl wr.heap.size wr).drew,p1,q0,q1,q2,q3,q4,rb,fb⟩ | exact held_8 hbn (And.left ‹Below wr.heap.size wr _∧_›) rfl hl0 hl1 hl1 hl1 hl1 hl1 hl2 hl3 p1 q0 q1 q2 q3 q4 rb fb)
               (first | (go_at_call 73;refine (HUU.out _ ?_).mono ?_;exact hbe.trans ((And.left ‹Below wr.heap.size wr _∧_›).mono (by omega));rintro E w' ⟨rfl,hbn⟩) | (go_at_call 77;refine (HSET.out _ ub).mono ?_;rintro E w' ⟨rfl,hbn⟩))
              obtain ⟨hbl,-⟩:=‹Below wr.heap.size wr _∧_›
              have HS2:Hid (LvP ts ds g2 bl w1 _ M cb (fun m k v=>a+1≤m∨(m=a∧∃ y,y<x∧d.next[y]?=some (k:Int))∨(m=a∧k=b∧v<u+1))):=LvP.keep (ts:=ts) (ns:=ds) ⟨o,hM,hPA.same (a:=a) (b:=b) (u:=u) (.inl (fun h9=>by rcases h9 with h9 | ⟨_,h9⟩;exact HNG.out h9;exact h9 ((setsN_at HDB.out u).mpr HSU.out))) (fun m k v h=>by
               rcases h with h | h | ⟨e1,e2,h⟩
               ·exact .inl (.inl h)
               ·exact .inl (.inr (.inl h))
               ·by_cases hvu:v=u
                ·exact .inr ⟨e1,e2,hvu⟩
                ·exact .inl (.inr (.inr ⟨e1,e2,by omega⟩))),hM1,hM2⟩ hbl
              clear hbl hM hPA hM1 hM2 HS HUU
              go_wp2_with fail
              refine ⟨⟨u+1,cb,rfl,by simp,by omega,HS2⟩,?_⟩
              simp only [intOf]
              omega
             ·have hse:(setI db != (u:Int))=true:=bne_iff_ne.mpr hsu
              have HSU:=Lib.hid hsu
              clear hsu
              go_wp2_with fail
              go_region_held3 (fun w'=>Below wr.heap.size wr w'∧w'.cell? ⟨w.heap.size,0,none⟩=some (.slice At ts.length ct)∧w'.cell? ⟨g,b*5,none⟩=some (.int .i64 db.op)∧w'.cell? ⟨g,b*5+1,none⟩=some (.int .i64 db.x)∧w'.cell? ⟨g,b*5+2,none⟩=some (.int .i64 db.y)∧w'.cell? ⟨g,b*5+3,none⟩=some (.int .i64 db.n)∧w'.cell? ⟨g,b*5+4,none⟩=some ub∧w'.cell? ⟨g2,b,none⟩=some (.slice (some ⟨bl b,0,none⟩) ts.length ts.length)∧w'.cell? ⟨bl b,u,none⟩=some (.bool true))
               (first | exact ⟨(Below.refl wr.heap.size wr).drew,p1,q0,q1,q2,q3,q4,rb,fb⟩ | exact held_8 hbn (And.left ‹Below wr.heap.size wr _∧_›) rfl hl0 hl1 hl1 hl1 hl1 hl1 hl2 hl3 p1 q0 q1 q2 q3 q4 rb fb)
               (first | (go_at_call 73;refine (HUU.out _ ?_).mono ?_;exact hbe.trans ((And.left ‹Below wr.heap.size wr _∧_›).mono (by omega));rintro E w' ⟨rfl,hbn⟩) | (go_at_call 77;refine (HSET.out _ ub).mono ?_;rintro E w' ⟨rfl,hbn⟩))
              obtain ⟨hbl,-⟩:=‹Below wr.heap.size wr _∧_›
              have hM5:=hM.keep hbl
              have ra:=hM5.cell hal
              have fa:=(hM5.fl a hal).cell hlu
              have sa:=(hM5.fl a hal).soft u
              cases hoa:o a u
              ·have HS2:Hid (LvP ts ds g2 bl w1 (World.setCell _ ⟨bl a,u,none⟩ (.bool true)) M true (fun m k v=>a+1≤m∨(m=a∧∃ y,y<x∧d.next[y]?=some (k:Int))∨(m=a∧k=b∧v<u+1))):=LvP.more hM5 hPA (fun hc=>by rw [hM5.off,← hM.off];exact hM1 hc) (fun hc=>by rw [hM5.off,← hM.off];exact hM2 hc) hal hbL hlu HED.out (.inr ⟨HOB.out,fun h9=>HSU.out ((setsN_at HDB.out u).mp h9)⟩) hoa
               rw [hoa] at fa
               clear hbl hM hPA hM1 hM2 HS HUU hM5 hoa
               go_wp2_with fail
               refine ⟨⟨u+1,true,rfl,by simp,by omega,HS2⟩,?_⟩
               simp only [intOf]
               omega
              ·have HS2:Hid (LvP ts ds g2 bl w1 _ M cb (fun m k v=>a+1≤m∨(m=a∧∃ y,y<x∧d.next[y]?=some (k:Int))∨(m=a∧k=b∧v<u+1))):=LvP.keep (ts:=ts) (ns:=ds) ⟨o,hM,hPA.same (a:=a) (b:=b) (u:=u) (.inr hoa) (fun m k v h=>by
               rcases h with h | h | ⟨e1,e2,h⟩
               ·exact .inl (.inl h)
               ·exact .inl (.inr (.inl h))
               ·by_cases hvu:v=u
                ·exact .inr ⟨e1,e2,hvu⟩
                ·exact .inl (.inr (.inr ⟨e1,e2,by omega⟩))),hM1,hM2⟩ hbl
               rw [hoa] at fa
               clear hbl hM hPA hM1 hM2 HS HUU hM5 hoa
               go_wp2_with fail
               refine ⟨⟨u+1,cb,rfl,by simp,by omega,HS2⟩,?_⟩
               simp only [intOf]
               omega
           ·have hUe:(U != 0)=true:=bne_iff_ne.mpr hU0
            have HU0:=Lib.hid hU0
            clear hU0
            go_wp2_with fail
            refine wp_region_held_drew (S:=(fun w'=>Below wr.heap.size wr w'∧w'.cell? ⟨w.heap.size,0,none⟩=some (.slice At ts.length ct)∧w'.cell? ⟨g,b*5,none⟩=some (.int .i64 db.op)∧w'.cell? ⟨g,b*5+1,none⟩=some (.int .i64 db.x)∧w'.cell? ⟨g,b*5+2,none⟩=some (.int .i64 db.y)∧w'.cell? ⟨g,b*5+3,none⟩=some (.int .i64 db.n)∧w'.cell? ⟨g,b*5+4,none⟩=some ub∧w'.cell? ⟨g2,b,none⟩=some (.slice (some ⟨bl b,0,none⟩) ts.length ts.length)∧w'.cell? ⟨bl b,u,none⟩=some (.bool (o b u)))) (by kernel_rfl) ⟨(Below.refl wr.heap.size wr).drew,p1,q0,q1,q2,q3,q4,rb,fb⟩ (fun hHeld=>?_)
            refine tk (i:=0) (v:=.pointer (some ⟨w.heap.size,0,none⟩)) rfl (Or.inl ⟨by rfl,fun w hSw=>by obtain ⟨h0,h1,h2,h3,h4,h5,h6,h7,h8⟩:=hSw;go_simp⟩) hHeld ?_
            try simp only [Act.put,sA,sB,sC]
            refine tk (i:=1) (v:=.slice At ts.length ct) rfl (Or.inl ⟨by rfl,fun w hSw=>by obtain ⟨h0,h1,h2,h3,h4,h5,h6,h7,h8⟩:=hSw;go_simp⟩) hHeld ?_
            try simp only [Act.put,sA,sB,sC]
            refine tk (i:=2) (v:=.slice (some ⟨g,0,none⟩) ds.length cap) rfl (Or.inl ⟨by rfl,fun w hSw=>by obtain ⟨h0,h1,h2,h3,h4,h5,h6,h7,h8⟩:=hSw;go_simp⟩) hHeld ?_
            try simp only [Act.put,sA,sB,sC]
            refine tk (i:=3) (v:=.int .i64 (b:Int)) rfl (Or.inl ⟨by rfl,fun w hSw=>by obtain ⟨h0,h1,h2,h3,h4,h5,h6,h7,h8⟩:=hSw;go_simp⟩) hHeld ?_
            try simp only [Act.put,sA,sB,sC]
            refine tk (i:=4) (v:=.pointer (some ⟨g,b*5,none⟩)) rfl (Or.inl ⟨by rfl,fun w hSw=>by obtain ⟨h0,h1,h2,h3,h4,h5,h6,h7,h8⟩:=hSw;go_simp⟩) hHeld ?_
            try simp only [Act.put,sA,sB,sC]
            refine tk (i:=6) (v:=.int .i64 (u:Int)) rfl (Or.inl ⟨by rfl,fun w hSw=>by obtain ⟨h0,h1,h2,h3,h4,h5,h6,h7,h8⟩:=hSw;go_simp⟩) hHeld ?_
            try simp only [Act.put,sA,sB,sC]
            refine wpAnyH_ready (rs:=[5]) (by kernel_rfl) (by simp) ?_
            refine AllReadyH.cons (o:=⟨_,_,_,_,_,_⟩) rfl (fun K hK=>?_) AllReadyH.nil
            obtain ⟨h0,h1,h2,h3,h4,h5,h6,h7,h8⟩:=id hHeld
            go_simp
            clear h0 h1 h2 h3 h4 h5 h6 h7 h8
            refine hK.out _ _ hHeld (fun hHeld=>?_)
            clear hK K
            refine wpAnyH_ready (rs:=[7]) (by kernel_rfl) (by simp) ?_
            refine AllReadyH.cons (o:=⟨_,_,_,_,_,_⟩) rfl (fun K hK=>?_) AllReadyH.nil
            obtain ⟨h0,h1,h2,h3,h4,h5,h6,h7,h8⟩:=id hHeld
            go_simp
            refine (HUU.out _ (hbe.trans (h0.mono (by omega)))).mono ?_
            rintro E w6 ⟨rfl,hbn⟩
            clear h0 h1 h2 h3 h4 h5 h6 h7 h8
            refine hK.out _ _ (held_8 hbn hHeld.1 rfl hl0 hl1 hl1 hl1 hl1 hl1 hl2 hl3 p1 q0 q1 q2 q3 q4 rb fb) (fun hHeld=>?_)
            clear hK K hbn
            refine tk (i:=8) (v:=.bool true) rfl (Or.inl ⟨by rfl,fun w hSw=>by obtain ⟨h0,h1,h2,h3,h4,h5,h6,h7,h8⟩:=hSw;go_simp⟩) hHeld ?_
            try simp only [Act.put,sA,sB,sC]
            refine tk (i:=9) (v:=.bool true) rfl (Or.inl ⟨by rfl,fun w hSw=>by obtain ⟨h0,h1,h2,h3,h4,h5,h6,h7,h8⟩:=hSw;go_simp⟩) hHeld ?_
            try simp only [Act.put,sA,sB,sC]
            refine tk (i:=10) (v:=undef) rfl (Or.inr ⟨by rfl,rfl⟩) hHeld ?_
            try simp only [Act.put,sA,sB,sC]
            refine tk (i:=11) (v:=undef) rfl (Or.inr ⟨by rfl,rfl⟩) hHeld ?_
            try simp only [Act.put,sA,sB,sC]
            refine tk (i:=12) (v:=undef) rfl (Or.inr ⟨by rfl,rfl⟩) hHeld ?_
            try simp only [Act.put,sA,sB,sC]
            refine tk (i:=13) (v:=undef) rfl (Or.inr ⟨by rfl,rfl⟩) hHeld ?_
            try simp only [Act.put,sA,sB,sC]
            refine tk (i:=14) (v:=undef) rfl (Or.inr ⟨by rfl,rfl⟩) hHeld ?_
            try simp only [Act.put,sA,sB,sC]
            refine tk (i:=15) (v:=undef) rfl (Or.inr ⟨by rfl,rfl⟩) hHeld ?_
            try simp only [Act.put,sA,sB,sC]
            refine tk (i:=16) (v:=undef) rfl (Or.inr ⟨by rfl,rfl⟩) hHeld ?_
            try simp only [Act.put,sA,sB,sC]
            refine tk (i:=17) (v:=undef) rfl (Or.inr ⟨by rfl,rfl⟩) hHeld ?_
            try simp only [Act.put,sA,sB,sC]
            refine tk (i:=18) (v:=undef) rfl (Or.inr ⟨by rfl,rfl⟩) hHeld ?_
            try simp only [Act.put,sA,sB,sC]
            refine tk (i:=19) (v:=undef) rfl (Or.inr ⟨by rfl,rfl⟩) hHeld ?_
            try simp only [Act.put,sA,sB,sC]
            refine tk (i:=20) (v:=undef) rfl (Or.inr ⟨by rfl,rfl⟩) hHeld ?_
            try simp only [Act.put,sA,sB,sC]
            refine tk (i:=21) (v:=undef) rfl (Or.inr ⟨by rfl,rfl⟩) hHeld ?_
            try simp only [Act.put,sA,sB,sC]
            refine tk (i:=22) (v:=undef) rfl (Or.inr ⟨by rfl,rfl⟩) hHeld ?_
            try simp only [Act.put,sA,sB,sC]
            refine tk (i:=23) (v:=undef) rfl (Or.inr ⟨by rfl,rfl⟩) hHeld ?_
            try simp only [Act.put,sA,sB,sC]
            refine tk (i:=24) (v:=undef) rfl (Or.inr ⟨by rfl,rfl⟩) hHeld ?_
            try simp only [Act.put,sA,sB,sC]
            refine tk (i:=25) (v:=undef) rfl (Or.inr ⟨by rfl,rfl⟩) hHeld ?_
            try simp only [Act.put,sA,sB,sC]
            refine tk (i:=26) (v:=.bool true) rfl (Or.inl ⟨by rfl,fun w hSw=>by obtain ⟨h0,h1,h2,h3,h4,h5,h6,h7,h8⟩:=hSw;go_simp⟩) hHeld ?_
            try simp only [Act.put,sA,sB,sC]
            refine wpAnyH_ready (rs:=[27]) (by kernel_rfl) (by simp) ?_
            refine AllReadyH.cons (o:=⟨_,_,_,_,_,_⟩) rfl (fun K hK=>?_) AllReadyH.nil
            obtain ⟨h0,h1,h2,h3,h4,h5,h6,h7,h8⟩:=id hHeld
            go_simp
            clear h0 h1 h2 h3 h4 h5 h6 h7 h8
            refine hK.out _ _ hHeld (fun hHeld=>?_)
            clear hK K
            refine wpAnyH_done (by kernel_rfl) ?_ _
            have hbl:=hHeld.1
            clear hHeld p1 q0 q1 q2 q3 q4 rb fb
            have hM5:=hM.keep hbl
            have ra:=hM5.cell hal
            have fa:=(hM5.fl a hal).cell hlu
            have sa:=(hM5.fl a hal).soft u
            cases hoa:o a u
            ·have HS2:Hid (LvP ts ds g2 bl w1 (World.setCell _ ⟨bl a,u,none⟩ (.bool true)) M true (fun m k v=>a+1≤m∨(m=a∧∃ y,y<x∧d.next[y]?=some (k:Int))∨(m=a∧k=b∧v<u+1))):=LvP.more hM5 hPA (fun hc=>by rw [hM5.off,← hM.off];exact hM1 hc) (fun hc=>by rw [hM5.off,← hM.off];exact hM2 hc) hal hbL hlu HED.out (.inl ⟨db,HDB.out,by rw [HNU.out];exact HU0.out⟩) hoa
             rw [hoa] at fa
             clear hbl hM hPA hM1 hM2 HS HUU hM5 hoa
             go_wp2_with fail
             refine ⟨⟨u+1,true,rfl,by simp,by omega,HS2⟩,?_⟩
             simp only [intOf]
             omega
            ·have HS2:Hid (LvP ts ds g2 bl w1 _ M cb (fun m k v=>a+1≤m∨(m=a∧∃ y,y<x∧d.next[y]?=some (k:Int))∨(m=a∧k=b∧v<u+1))):=LvP.keep (ts:=ts) (ns:=ds) ⟨o,hM,hPA.same (a:=a) (b:=b) (u:=u) (.inr hoa) (fun m k v h=>by
             rcases h with h | h | ⟨e1,e2,h⟩
             ·exact .inl (.inl h)
             ·exact .inl (.inr (.inl h))
             ·by_cases hvu:v=u
              ·exact .inr ⟨e1,e2,hvu⟩
              ·exact .inl (.inr (.inr ⟨e1,e2,by omega⟩))),hM1,hM2⟩ hbl
             rw [hoa] at fa
             clear hbl hM hPA hM1 hM2 HS HUU hM5 hoa
             go_wp2_with fail
             refine ⟨⟨u+1,cb,rfl,by simp,by omega,HS2⟩,?_⟩
             simp only [intOf]
             omega
          ·have HS2:Hid (LvP ts ds g2 bl w1 wr M cb (fun m k v=>a+1≤m∨(m=a∧∃ y,y<x+1∧d.next[y]?=some (k:Int)))):=HS.out.congr (fun m k v hv hk h=>by
            rcases h with h | ⟨h1,y,h2,h3⟩
            ·exact .inl h
            ·by_cases hyx:y=x
             ·subst hyx
              rw [HBX.out] at h3
              injection h3 with h3
              exact .inr (.inr ⟨h1,by omega,by omega⟩)
             ·exact .inr (.inl ⟨h1,y,by omega,h3⟩))
           clear HS hbe
           go_wp2_with fail
           refine ⟨⟨x+1,cb,rfl,by simp,by omega,HS2⟩,?_⟩
           simp only [intOf]
           omega
        ·obtain ⟨Aa,ca,hsa⟩:=hrow.slice
         subst hsa
         have hxe:x=d.next.length:=by omega
         have hd1:decide ((x:Int)<(d.next.length:Int))=false:=decide_eq_false (by omega)
         have HXE:=Lib.hid hxe
         have HS2:Hid (LvP ts ds g2 bl w1 wr M cb (fun m _ _=>a≤m)):=HS.out.congr (fun m k v _ hk h=>by
          by_cases hma:m=a
          ·subst hma
           refine .inr ⟨rfl,?_⟩
           obtain ⟨d',i,e1,e2⟩:=(mem_nextN HD.out hle _ _).mp hk
           rw [HDA.out] at e1
           injection e1 with e1
           subst e1
           have:=(List.getElem?_eq_some_iff.mp e2.1).1
           exact ⟨i,by omega,e2.1⟩
          ·exact .inl (by omega))
         clear hrow hua hxe HS hbe
         go_wp2_with fail
         refine ⟨⟨a,cb,rfl,rfl,by omega,HS2⟩,?_⟩
         simp only [upI,intOf]
         omega
end Go.Proofs.YtedkkphogeealaaGreatDoor
