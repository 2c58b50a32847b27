/- What is known of loans behind a point,by the model: l4After. -/
import Derived.Test.YtedkkphogeealaaGreatDoorPLmoG
import Derived.Test.YtedkkphogeealaaGreatDoorPL3G
import Derived.Test.YtedkkphogeealaaGreatDoorPL2Xa
import Derived.Deep.RegionHeld3
import Derived.Deep.DeepCutAuto
import Derived.Deep.CutBlock
import Derived.Deep.LoopGhost
namespace Go.Proofs.YtedkkphogeealaaGreatDoor
open Go.RowKit Go.Deep
set_option linter.unusedVariables false
set_option maxRecDepth 100000
set_option maxHeartbeats 8000000
theorem valF_none {ts:List Int} {d:Nd} {a:Nat} {S:Nat→Nat→Bool} (h:d.op≠3∧d.op≠4∧d.op≠5) (l:Nat):valF ts d a S l=false:=by
 unfold valF
 rw [decide_eq_false (show ¬ (d.op=4∨d.op=5) from fun q=>q.elim h.2.1 h.2.2),decide_eq_false (show ¬ (d.op=3∨((d.op=4∨d.op=5)∧(tyAt ts d.y=3∨tyAt ts d.y=4))) from fun q=>q.elim h.1 (fun q=>q.1.elim h.2.1 h.2.2))]
 rfl
theorem valF_move {ts:List Int} {d:Nd} {a:Nat} {S:Nat→Nat→Bool} (h:d.op=3) (l:Nat):valF ts d a S l=S d.y.toNat l:=by
 unfold valF
 rw [h]
 simp
theorem valF_loan {ts:List Int} {d:Nd} {a:Nat} {S:Nat→Nat→Bool} (h:d.op=4∨d.op=5) (hn:¬ (tyAt ts d.y=3∨tyAt ts d.y=4)) (l:Nat):valF ts d a S l=decide (l=a):=by
 unfold valF
 rw [decide_eq_true h,decide_eq_false (show ¬ (d.op=3∨((d.op=4∨d.op=5)∧(tyAt ts d.y=3∨tyAt ts d.y=4))) from fun q=>q.elim (fun q=>by omega) (fun q=>hn q.2)),Bool.true_and,Bool.false_and,Bool.or_false]
theorem valF_ref {ts:List Int} {d:Nd} {a:Nat} {S:Nat→Nat→Bool} (h:d.op=4∨d.op=5) (hn:tyAt ts d.y=3∨tyAt ts d.y=4) (l:Nat):valF ts d a S l=(decide (l=a) || S d.y.toNat l):=by
 unfold valF
 rw [decide_eq_true h,decide_eq_true (show d.op=3∨((d.op=4∨d.op=5)∧(tyAt ts d.y=3∨tyAt ts d.y=4)) from .inr ⟨h,hn⟩),Bool.true_and,Bool.true_and]
theorem S4.boxed {w:World} {B T n X:Nat} {m:M4} {S:Nat→Nat→Bool} {cs:Array Value} (h:S4 w B T n m S) (hX:w.heap[X]?=some (.cells cs 81 (0,0))) (o:Nat) (v:Value):S4 (w.setCell ⟨X,o,none⟩ v) B T n m S :=
 ⟨h.fa,fun h0=>by
  obtain ⟨cur,h1,h2⟩:=h.row h0
  refine ⟨cur,(heap_setCell_other _ _ _ _ (fun e=>?_)).trans h1,h2⟩
  have e':m.g=X:=e
  rw [e',hX] at h1
  injection h1 with h1
  injection h1 with _ h1 _
  exact absurd h1 (by decide),h.cf,fun u hu=>(h.fl u hu).keep (heap_setCell_other _ _ _ _ (fun e=>(h.fl u hu).apart_of hX (by decide) (Eq.symm e))),h.cp,h.inj,h.own,h.og⟩
theorem A4.aside {w0 w w':World} {d:Nd} {u:Value} {X O T n V:Nat} {m:M4} {t:Nat→Nat→Bool} {x:Nat→Bool} (h:A4 w0 w d u X O T n m t) (hV:FlW w V n x) (hne:∀ v,okP T v→m.bl v≠V) (hB:w0.heap.size≤V) (hg:w.grownBy w' (some V)):A4 w0 w' d u X O T n m t:=by
 have hk:∀ {F':Nat} {cur:Array Value} {ty:TypeId},w.heap[F']?=some (.cells cur ty (0,0))→ty≠4→w'.heap[F']?=some (.cells cur ty (0,0)):=fun h' ht=>(hg.block _ (heap_lt h') (fun e=>hV.apart_of h' ht (by injection e))).trans h'
 exact ⟨h.below.grown hg h.below.size (fun j hj=>by injection hj with hj;omega),hk h.rs (by decide),hk h.xb (by decide),hk h.ob (by decide),h.st.aside hV hne hg⟩
theorem mspecIsReference_any (t:Int) (z:Bool) (hz:Hid (decide (t=3∨t=4)=z)) (w:World):Calls Tryz.prog 108 #[.int .i64 t] w fun e w'=>e=.returned (.bool z)∧w=w':=by
 by_cases h3:t=3
 ·subst h3
  have hzt:z=true:=by have:=hz.out;simpa using this.symm
  subst hzt
  go_enter Tryz.func108,Tryz.ntmps108
  go_wp2_with fail
  go_ret
  exact ⟨rfl,rfl⟩
 ·have h3':(t==3)=false:=by simpa using h3
  go_enter Tryz.func108,Tryz.ntmps108
  go_wp2_with fail
  go_ret
  exact ⟨ret_bool (by rw [← hz.out,Bool.eq_iff_iff];simp [h3]),rfl⟩
theorem NextV.asSlice {w:World} {B:Nat} {u:Value} {next:List Int} (h:NextV w B u next):∃ A c,u=.slice A next.length c:=by
 rcases h with ⟨h1,h2⟩ | ⟨g,h1,_⟩
 ·subst h1 h2
  exact ⟨none,0,rfl⟩
 ·exact ⟨_,_,h1⟩
theorem l4After_any (ts:List Int) (ns:List Nd) (At:Option Addr) (ct:Nat) (pv:Value) (B B0:Nat) (m:M4) (S:Nat→Nat→Bool) (a:Nat) (d:Nd) (w:World) (hA:AllTyped ts ns) (hle:ns.length≤61) (hT:IntsV w 0 w.heap.size ts At ct) (hP:PRow w B pv ns) (h:S4 w B0 ts.length ns.length m S) (hd:ns[a]?=some d) :
  Calls Tryz.prog 84 #[.slice At ts.length ct,pv,.int .i64 a,m.val ts.length ns.length] w fun E w'=>∃ m':M4,E=.returned (m'.val ts.length ns.length)∧S4 w' w.heap.size ts.length ns.length m' (aftF ts ns a d S)∧Below w.heap.size w w':=by
 have han:=(List.getElem?_eq_some_iff.mp hd).1
 have hty:=hA.2 a d hd
 have ht6:=hA.1
 have hTm:=hT.2.1
 have hTl:=hT.1
 unfold maxLen at hTm
 obtain ⟨g,cap,hv,hgB,hgl,hgc,hgm⟩:=hP.form (by omega)
 subst hv
 obtain ⟨u,⟨q0,q1,q2,q3,q4⟩,hu⟩:=hP.cells hd
 obtain ⟨An,cn,hsn⟩:=hu.asSlice
 subst hsn
 have hb1:=((Below.refl w.heap.size w).alloc (Nat.le_refl _) (.cells #[.slice m.fa ts.length m.cf,.slice (some ⟨m.bl 6,0,none⟩) ns.length (m.cp 6)] 81)).alloc (by simp) (.cells #[.slice none 0 0,.slice none 0 0] 81)
 have hz1:((w.alloc (.cells #[.slice m.fa ts.length m.cf,.slice (some ⟨m.bl 6,0,none⟩) ns.length (m.cp 6)] 81)).alloc (.cells #[.slice none 0 0,.slice none 0 0] 81)).heap.size=w.heap.size+2:=by simp
 have hX1:=heap_alloc_new w (.cells #[.slice m.fa ts.length m.cf,.slice (some ⟨m.bl 6,0,none⟩) ns.length (m.cp 6)] 81)
 have hX1:=(((Below.refl _ _).alloc (Nat.le_refl _) (.cells #[.slice none 0 0,.slice none 0 0] 81):Below (w.alloc (.cells #[.slice m.fa ts.length m.cf,.slice (some ⟨m.bl 6,0,none⟩) ns.length (m.cp 6)] 81)).heap.size _ _).block w.heap.size (by simp)).trans hX1
 have hR1:=heap_alloc_new (w.alloc (.cells #[.slice m.fa ts.length m.cf,.slice (some ⟨m.bl 6,0,none⟩) ns.length (m.cp 6)] 81)) (.cells #[.slice none 0 0,.slice none 0 0] 81)
 rw [show (w.alloc (.cells #[.slice m.fa ts.length m.cf,.slice (some ⟨m.bl 6,0,none⟩) ns.length (m.cp 6)] 81)).heap.size=w.heap.size+1 from by simp] at hR1
 have HS:=Lib.hid h
 have HP:=Lib.hid hP
 have HT:=Lib.hid hT
 have HDK:=Lib.hid hd
 have HTY:=Lib.hid hty
 have HA:=Lib.hid hA
 have HMK:Hid (∀ W:World,_):=Lib.hid (fun W=>run_make_row' (P:=Tryz.prog) 72 4 (.bool false) 1 Tryz.underlying72 Tryz.infoBool rfl .i64 .i64 ns.length (by omega) (by omega) W)
 have ai0:(0:Int)≤(a:Int):=by omega
 have ai1:(a:Int)<(ns.length:Int):=by omega
 unfold maxLen at hgm
 clear hd hty hA hT hP h hu
 unfold M4.val
 go_enter Tryz.func84,Tryz.ntmps84
 go_upto_region 1 with fail
 generalize (w.alloc (.cells #[.slice m.fa ts.length m.cf,.slice (some ⟨m.bl 6,0,none⟩) ns.length (m.cp 6)] 81)).alloc (.cells #[.slice none 0 0,.slice none 0 0] 81)=W1 at *
 replace q0:=(hb1.cell (p:=⟨g,a*5,none⟩) hgl).trans q0
 replace q1:=(hb1.cell (p:=⟨g,a*5+1,none⟩) hgl).trans q1
 replace q2:=(hb1.cell (p:=⟨g,a*5+2,none⟩) hgl).trans q2
 replace q3:=(hb1.cell (p:=⟨g,a*5+3,none⟩) hgl).trans q3
 replace q4:=(hb1.cell (p:=⟨g,a*5+4,none⟩) hgl).trans q4
 have HB1:=Lib.hid hb1
 have HX1:=Lib.hid hX1
 have HR1:=Lib.hid hR1
 have HZ1:=Lib.hid hz1
 clear hb1 hX1 hR1 hz1
 go_upto_region 2 with fail
 clear q0 q1 q2 q3 q4
 have hb2:=(Below.refl W1.heap.size W1).alloc (Nat.le_refl _) (.cells #[.int .i64 d.op,.int .i64 d.x,.int .i64 d.y,.int .i64 d.n,.slice An d.next.length cn] 75)
 have hx2:=heap_alloc_new W1 (.cells #[.int .i64 d.op,.int .i64 d.x,.int .i64 d.y,.int .i64 d.n,.slice An d.next.length cn] 75)
 have hz2:(W1.alloc (.cells #[.int .i64 d.op,.int .i64 d.x,.int .i64 d.y,.int .i64 d.n,.slice An d.next.length cn] 75)).heap.size=W1.heap.size+1:=by simp
 generalize W1.alloc (.cells #[.int .i64 d.op,.int .i64 d.x,.int .i64 d.y,.int .i64 d.n,.slice An d.next.length cn] 75)=W2 at *
 have HX2:=Lib.hid ((hb2.block w.heap.size (by have:=HZ1.out;omega)).trans HX1.out)
 have HR2:=Lib.hid ((hb2.block (w.heap.size+1) (by have:=HZ1.out;omega)).trans HR1.out)
 have HP2:=Lib.hid hx2
 have HB2:=Lib.hid (HB1.out.trans (hb2.mono (by have:=HZ1.out;omega)))
 have HZ2:Hid (W2.heap.size=w.heap.size+2+1):=Lib.hid (by have:=HZ1.out;omega)
 have p0:W2.cell? ⟨w.heap.size,0,none⟩=some (.slice m.fa ts.length m.cf):=(cB HX2.out 0).trans rfl
 have p1:W2.cell? ⟨w.heap.size,1,none⟩=some (.slice (some ⟨m.bl 6,0,none⟩) ns.length (m.cp 6)):=(cB HX2.out 1).trans rfl
 have hcp:=l4Copy_any B0 ts.length ns.length m S W2 ht6 (by omega) hle (HS.out.keep HB2.out)
 unfold M4.val at hcp
 clear hb2 hx2 hz2 HX1 HR1 HB1
 go_wp2_with fail
 refine hcp.mono ?_
 rintro E w3 ⟨m1,rfl,hm1,hb3⟩
 have hz3:=hb3.size
 rw [HZ2.out] at hz3
 have HX3:=Lib.hid ((hb3.block w.heap.size (by have:=HZ2.out;omega)).trans HX2.out)
 have HR3:=Lib.hid ((hb3.block (w.heap.size+1) (by have:=HZ2.out;omega)).trans HR2.out)
 have HP3:=Lib.hid ((hb3.block W1.heap.size (by have:=HZ2.out;have:=HZ1.out;omega)).trans HP2.out)
 have HB3:=Lib.hid (HB2.out.trans (hb3.mono (by have:=HZ2.out;omega)))
 have HM3:=Lib.hid (hm1.lower (B':=w.heap.size) (by have:=HZ2.out;omega))
 clear hcp hb3 hm1 p0 p1 HX2 HR2 HP2 HB2
 have hmk:=HMK.out (w3.alloc (.cells #[.slice m1.fa ts.length m1.cf,.slice (some ⟨m1.bl 6,0,none⟩) ns.length (m1.cp 6)] 81))
 go_upto_region 4 with fail
 clear hmk
 obtain ⟨X,hXe⟩:∃ X,X=W1.heap.size:=⟨_,rfl⟩
 obtain ⟨O,hOe⟩:∃ O,O=w3.heap.size:=⟨_,rfl⟩
 have hb4:=(Below.refl w3.heap.size w3).alloc (Nat.le_refl _) (.cells #[.slice m1.fa ts.length m1.cf,.slice (some ⟨m1.bl 6,0,none⟩) ns.length (m1.cp 6)] 81)
 have hx4:=heap_alloc_new w3 (.cells #[.slice m1.fa ts.length m1.cf,.slice (some ⟨m1.bl 6,0,none⟩) ns.length (m1.cp 6)] 81)
 have hz4:(w3.alloc (.cells #[.slice m1.fa ts.length m1.cf,.slice (some ⟨m1.bl 6,0,none⟩) ns.length (m1.cp 6)] 81)).heap.size=w3.heap.size+1:=by simp
 generalize w3.alloc (.cells #[.slice m1.fa ts.length m1.cf,.slice (some ⟨m1.bl 6,0,none⟩) ns.length (m1.cp 6)] 81)=w4 at *
 have hV:=(FlAt.made w4 ns.length).wide
 have hb5:=(Below.refl w4.heap.size w4).alloc (Nat.le_refl _) (.cells (madeCells #[.bool false] ns.length) 4)
 rw [hz4] at hV
 generalize w4.alloc (.cells (madeCells #[.bool false] ns.length) 4)=w5 at *
 have hb45:Below w3.heap.size w3 w5:=hb4.trans (hb5.mono (by omega))
 have HAA:Hid (A4 w w5 d (.slice An d.next.length cn) X O ts.length ns.length m1 S):=Lib.hid ⟨HB3.out.trans (hb45.mono (by omega)),(hb45.block _ (by omega)).trans HR3.out,by rw [hXe];exact (hb45.block _ (heap_lt HP3.out)).trans HP3.out,by rw [hOe];exact (hb5.block _ (by omega)).trans hx4,HM3.out.keep hb45⟩
 have HVV:=Lib.hid hV
 have HBX:=Lib.hid ((hb45.block w.heap.size (by omega)).trans HX3.out)
 have HVN:Hid (∀ v,okP ts.length v→m1.bl v≠w3.heap.size+1):=Lib.hid (fun v hv e=>by have:=(HM3.out.fl v hv).lt;omega)
 have HSV:Hid (∀ v,okP ts.length v→m.bl v≠w3.heap.size+1):=Lib.hid (fun v hv e=>by have:=(HS.out.fl v hv).lt;omega)
 have HS5:=Lib.hid (HS.out.keep (HB3.out.trans (hb45.mono (by omega))))
 have HVG:Hid (w.heap.size≤w3.heap.size+1):=Lib.hid (by omega)
 have HXL:Hid (w.heap.size≤X):=Lib.hid (by have:=HZ1.out;omega)
 simp only [← hXe,← hOe]
 obtain ⟨V,hVe⟩:∃ V,V=w3.heap.size+1:=⟨_,rfl⟩
 rw [← hVe] at HVV HVN HSV HVG
 rw [← hOe] at hVe
 simp only [← hVe]
 clear hb4 hx4 hb5 hb45 hV hz4 hz3 hXe hOe hVe HX3 HR3 HP3 HB3 HM3 HS HZ1 HZ2
 obtain ⟨x0,x1,x2,x3,x4⟩:=HAA.out.pt
 go_upto_block 0 with fail
 clear x0 x1 x2 x3 x4
 obtain ⟨op,hop⟩:∃ op,op=d.op:=⟨_,rfl⟩
 simp only [← hop]
 have HOP:=Lib.hid hop
 clear hop
 go_cut [] (fun wx=>Hid (A4 w wx d (.slice An d.next.length cn) X O ts.length ns.length m1 S)∧Hid (FlW wx V ns.length (valF ts d a S)))
 case first =>
  by_cases h345:d.op=3∨d.op=4∨d.op=5
  ·have hyT:0≤d.y∧d.y<ts.length:=by
    rcases HTY.out with ⟨h1,h2,h3⟩ | ⟨h1,_⟩
    ·exact tyAt_lt ((simple_types h3).2 (by omega))
    ·omega
   obtain ⟨y,hy⟩:∃ y:Nat,d.y=(y:Int):=⟨d.y.toNat,by omega⟩
   replace hyT:y<ts.length:=by omega
   have HYE:=Lib.hid hy
   have hfa:=HS5.out.fa (by omega)
   have HB0:Hid (w5.cell? ⟨w.heap.size,0,none⟩=some (.slice (some ⟨m.g,0,none⟩) ts.length m.cf)):=Lib.hid ((cB HBX.out 0).trans (by rw [hfa];rfl))
   obtain ⟨hcy1,hcy2⟩:=HS5.out.cp y (.inl hyT)
   obtain ⟨hcf1,hcf2⟩:=HS5.out.cf
   have HSY:=Lib.hid (HS5.out.fl y (.inl hyT))
   have yi0:(0:Int)≤(y:Int):=by omega
   have yi1:(y:Int)<(ts.length:Int):=by omega
   have HBG:Hid (m.g<w5.heap.size):=Lib.hid (by obtain ⟨cur,h1,_⟩:=HS5.out.row (by omega);exact heap_lt h1)
   rw [← HOP.out] at h345
   have HCY:=Lib.hid hcy2
   unfold maxLen at hcf2 hcy2
   clear hy hfa
   by_cases h3:op=3
   ·subst h3
    obtain ⟨x0,x1,x2,x3,x4⟩:=HAA.out.pt
    rw [HYE.out] at x2
    have b0:=HB0.out
    have b1:=HS5.out.slot hyT
    have HFIN:Hid (∀ W,FlW W V ns.length (fun i=>false || S y i)→Hid (FlW W V ns.length (valF ts d a S))):=Lib.hid (fun W hW=>hW.congr (fun i _=>by rw [valF_move HOP.out.symm,HYE.out,Int.toNat_natCast];simp))
    have had:=l4Add_any ns.length V ns.length (m.bl y) (m.cp y) _ (S y) w5 (by omega) HVV.out HSY.out (HSV.out y (.inl hyT)) (Nat.le_refl _) (by unfold maxLen;omega) hcy1 HCY.out
    clear h345
    go_wp2_with fail
    refine had.mono ?_
    rintro E w6 ⟨rfl,hf6,hg6⟩
    have HA6:=Lib.hid (HAA.out.aside HVV.out HVN.out HVG.out hg6)
    have HV6:=HFIN.out _ hf6
    clear had hf6 hg6 x0 x1 x2 x3 x4 b0 b1 HFIN
    go_wp2_with fail
    go_meet
    exact ⟨HA6,HV6⟩
   ·have h45:op=4∨op=5:=h345.resolve_left h3
    have n3:(op==3)=false:=by simpa using h3
    have d3:decide (op=3)=false:=decide_eq_false h3
    have n45:(op==4 || op==5)=true:=by rcases h45 with h | h <;> rw [h] <;> rfl
    obtain ⟨x0,x1,x2,x3,x4⟩:=HAA.out.pt
    have cV:=HVV.out.cell han
    have sV:=HVV.out.soft a
    have hput:=HVV.out.put han true
    obtain ⟨A9,hA9,hbk9,he9⟩:=tyAt_elem HT.out hyT
    subst hA9
    obtain ⟨t,ht⟩:∃ t,t=tyAt ts (y:Int):=⟨_,rfl⟩
    rw [← ht] at he9
    have HTE:=Lib.hid ht
    have hA6:=HAA.out.aside HVV.out HVN.out HVG.out (Lib.grownBy_setCell w5 V a (.bool true))
    have hbox6:=(Lib.grownBy_setCell w5 V a (.bool true)).block w.heap.size (heap_lt HBX.out) (fun e=>HVV.out.apart_of HBX.out (by decide) (by injection e))
    have hs6:=HS5.out.aside HVV.out HSV.out (Lib.grownBy_setCell w5 V a (.bool true))
    have HE9:=Lib.hid he9
    have HPUT:=Lib.hid hput
    have HA6:=Lib.hid hA6
    have HS6:=Lib.hid hs6
    have HX6:=Lib.hid (hbox6.trans HBX.out)
    have HFG:=Lib.hid (HS5.out.fa (by omega))
    clear hput hA6 hs6 hbox6 h3 h345 he9 ht HS5 HAA HVV HBX HB0 HSY
    obtain ⟨z,hz⟩:∃ z,decide (t=3∨t=4)=z:=⟨_,rfl⟩
    have HZZ:=Lib.hid hz
    have HIR:=Lib.hid (fun W=>mspecIsReference_any t z HZZ W)
    have HLO:Hid (z=false→∀ W,FlW W V ns.length (setR (fun _=>false) a true)→Hid (FlW W V ns.length (valF ts d a S))):=Lib.hid (fun e W hW=>hW.congr (fun i _=>by
     have hn:¬ (tyAt ts d.y=3∨tyAt ts d.y=4):=by
      rw [HYE.out,← HTE.out]
      intro h9
      rw [decide_eq_true h9] at hz
      rw [← hz] at e
      cases e
     rw [valF_loan (by rw [← HOP.out];exact h45) hn]
     unfold setR
     by_cases hia:i=a
     ·rw [decide_eq_true hia,if_pos hia]
     ·rw [decide_eq_false hia,if_neg hia]))
    have HRF:Hid (z=true→∀ W,FlW W V ns.length (fun i=>setR (fun _=>false) a true i || S y i)→Hid (FlW W V ns.length (valF ts d a S))):=Lib.hid (fun e W hW=>hW.congr (fun i _=>by
     have hn:tyAt ts d.y=3∨tyAt ts d.y=4:=by
      rw [HYE.out,← HTE.out]
      refine Classical.byContradiction fun h9=>?_
      rw [decide_eq_false h9] at hz
      rw [← hz] at e
      cases e
     rw [valF_ref (by rw [← HOP.out];exact h45) hn,HYE.out,Int.toNat_natCast]
     unfold setR
     by_cases hia:i=a
     ·rw [decide_eq_true hia,if_pos hia]
     ·rw [decide_eq_false hia,if_neg hia]))
    clear hz
    rcases h45 with rfl | rfl
    all_goals
     go_upto_region 10 with fail
     generalize w5.setCell ⟨V,a,none⟩ (.bool true)=w6 at *
     clear cV sV x0 x1 x2 x3 x4
     obtain ⟨x0,x1,x2,x3,x4⟩:=HA6.out.pt
     rw [HYE.out] at x2
     have e9:=(HA6.out.below.cell (p:=A9.add y) (by rw [block_add];exact hbk9)).trans HE9.out
     have hir:=HIR.out w6
     go_wp2_with fail
     refine hir.mono ?_
     rintro E w7 ⟨rfl,rfl⟩
     clear hir e9
     cases z
     ·have HV6:=HLO.out (by simp) _ HPUT.out
      clear HLO HRF
      go_wp2_with fail
      go_meet
      exact ⟨HA6,HV6⟩
     ·have b0:w6.cell? ⟨w.heap.size,0,none⟩=some (.slice (some ⟨m.g,0,none⟩) ts.length m.cf):=(cB HX6.out 0).trans (by rw [HFG.out];rfl)
      have b1:=HS6.out.slot hyT
      have had:=l4Add_any ns.length V ns.length (m.bl y) (m.cp y) _ (S y) w6 (by omega) HPUT.out (HS6.out.fl y (.inl hyT)) (HSV.out y (.inl hyT)) (Nat.le_refl _) (by unfold maxLen;omega) hcy1 HCY.out
      clear HLO
      go_wp2_with fail
      refine had.mono ?_
      rintro E w8 ⟨rfl,hf8,hg8⟩
      have HA8:=Lib.hid (HA6.out.aside HPUT.out HVN.out HVG.out hg8)
      have HV8:=HRF.out (by simp) _ hf8
      clear had hf8 hg8 HRF b0 b1
      go_wp2_with fail
      go_meet
      exact ⟨HA8,HV8⟩
  ·have HFIN:Hid (Hid (FlW w5 V ns.length (valF ts d a S))):=Lib.hid (HVV.out.congr (fun i _=>valF_none (by omega) i))
   obtain ⟨x0,x1,x2,x3,x4⟩:=HAA.out.pt
   rw [← HOP.out] at h345
   have n3:(op==3)=false:=by simp;omega
   have n4:(op==4)=false:=by simp;omega
   have n5:(op==5)=false:=by simp;omega
   have d3:decide (op=3)=false:=decide_eq_false (by omega)
   have d4:decide (op=4)=false:=decide_eq_false (by omega)
   have d5:decide (op=5)=false:=decide_eq_false (by omega)
   clear h345
   go_wp2_with fail
   go_meet
   exact ⟨HAA,HFIN.out⟩
 case rest =>
  obtain ⟨HA6,HV6⟩:=hcut
  clear HAA HVV HBX HSV HS5
  have HAFT:Hid (∀ v l,okP ts.length v→ownF d a (setF ns d (tookF ts ns d S ts.length) (valF ts d a S)) v l=aftF ts ns a d S v l):=Lib.hid (fun v l hv=>after_is HDK.out ht6 (fun z hz=>by have:=typed_use HTY.out z (by rw [hz];decide);omega) (by
   by_cases h9:0≤setI d
   ·have:=typed_set HTY.out (setI d) h9 rfl
    omega
   ·omega) hv)
  go_wp2_with fail
  go_loopw [12] (fun i wr=>∃ (k:Nat) (m2:M4),i=.int .i64 k∧k≤ts.length∧Hid (A4 w wr d (.slice An d.next.length cn) X O ts.length ns.length m2 (tookF ts ns d S k))∧Hid (FlW wr V ns.length (valF ts d a S))∧Hid (∀ v,okP ts.length v→m2.bl v≠V)) (fun i _=>ts.length-(intOf i).toNat)
  case atStart=>exact ⟨0,m1,rfl,Nat.zero_le _,Lib.hid (HA6.out.congr (fun v l _ _=>tookF_zero ts ns d S v l)),HV6,HVN⟩
  case round =>
   clear HA6 HV6 HVN
   obtain ⟨k,m2,rfl,hk,HA2,HV2,HVN2⟩:=hrel
   by_cases hlt:k<ts.length
   ·have ki0:(0:Int)≤(k:Int):=by omega
    have ki1:(k:Int)<(ts.length:Int):=by omega
    obtain ⟨x0,x1,x2,x3,x4⟩:=HA2.out.pt
    have hu:=l3Use_any ts At ct d.op d.x d.y d.n d.next (.slice An d.next.length cn) k wr hlt (HT.out.below HA2.out.below HA2.out.below.size)
    obtain ⟨U,hU⟩:∃ U,useI ts d k=U:=⟨_,rfl⟩
    rw [hU] at hu
    have HUE:=Lib.hid hU
    clear hU
    go_wp2_with fail
    refine hu.mono ?_
    rintro E w4 ⟨rfl,hb4⟩
    replace HA2:=Lib.hid (HA2.out.keep hb4)
    replace HV2:=Lib.hid (HV2.out.keep (hb4.block _ HV2.out.lt))
    clear hu hb4 x0 x1 x2 x3 x4
    by_cases hU2:U=2
    ·subst hU2
     have HFA:=Lib.hid (HA2.out.st.fa (by omega))
     obtain ⟨hcf1,hcf2⟩:=HA2.out.st.cf
     unfold maxLen at hcf2
     go_upto_region 16 with fail
     refine wp_region_held_drew (S:=(fun w9=>w9.cell? ⟨O,0,none⟩=some (.slice (some ⟨m2.g,0,none⟩) ts.length m2.cf))) (by kernel_rfl) (HA2.out.drew.box.1.trans (by rw [HFA.out])) (fun hHeld=>?_)
     replace HA2:=Lib.hid HA2.out.drew
     replace HV2:Hid (FlW w4.drew V ns.length (valF ts d a S)):=Lib.hid HV2.out.drew
     generalize w4.drew=wd at *
     refine tkd (i:=0) (v:=.pointer (some ⟨O,0,none⟩)) rfl hHeld ?_
     try simp only [Act.put,sA,sB,sC]
     refine tk (i:=1) (v:=.slice (some ⟨m2.g,0,none⟩) ts.length m2.cf) rfl (Or.inl ⟨by rfl,fun w9 hSw=>by go_simp⟩) hHeld ?_
     try simp only [Act.put,sA,sB,sC]
     refine tkd (i:=2) (v:=.int .i64 (k:Int)) rfl hHeld ?_
     try simp only [Act.put,sA,sB,sC]
     refine tkd (i:=3) (v:=.slice (some ⟨g,0,none⟩) ns.length cap) rfl hHeld ?_
     try simp only [Act.put,sA,sB,sC]
     refine tkd (i:=4) (v:=.int .i64 (ns.length:Int)) rfl hHeld ?_
     try simp only [Act.put,sA,sB,sC]
     refine wpAnyH_ready (rs:=[5]) (by kernel_rfl) (by simp) ?_
     refine AllReadyH.cons (o:=⟨_,_,_,_,_,_⟩) rfl (fun K hK=>?_) AllReadyH.nil
     have hmk:=HMK.out wd
     go_simp
     have hbm:=(Below.refl wd.heap.size wd).alloc (Nat.le_refl _) (.cells (madeCells #[.bool false] ns.length) 4)
     have hba:=HA2.out.keep hbm
     refine hK.out _ _ (hba.box.1.trans (by rw [HFA.out])) (fun hHeld=>?_)
     have HFL:=Lib.hid (FlAt.made wd ns.length).wide
     have HFN:Hid (∀ v,okP ts.length v→m2.bl v≠wd.heap.size):=Lib.hid (fun v hv e=>by have:=(HA2.out.st.fl v hv).lt;omega)
     have HFB:Hid (w.heap.size≤wd.heap.size):=Lib.hid HA2.out.below.size
     have HFV:Hid (wd.heap.size≠V):=Lib.hid (fun e=>by have:=HV2.out.lt;omega)
     replace HA2:=Lib.hid hba
     replace HV2:=Lib.hid (HV2.out.keep (hbm.block _ HV2.out.lt))
     obtain ⟨F,hFe⟩:∃ F,F=wd.heap.size:=⟨_,rfl⟩
     rw [← hFe] at HFL HFN HFB HFV
     simp only [← hFe]
     generalize wd.alloc (.cells (madeCells #[.bool false] ns.length) 4)=wm at *
     clear hK K hmk hbm hba hFe
     refine tkd (i:=6) (v:=.pointer (some ⟨m2.g,k,none⟩)) rfl hHeld ?_
     try simp only [Act.put,sA,sB,sC]
     refine wpAnyH_ready (rs:=[7]) (by kernel_rfl) (by simp) ?_
     refine AllReadyH.cons (o:=⟨_,_,_,_,_,_⟩) rfl (fun K hK=>?_) AllReadyH.nil
     have c9:=HA2.out.st.slot hlt
     have f9:wm.frozen? ⟨m2.g,k,none⟩=false:=(by obtain ⟨cur,h1,_⟩:=HA2.out.st.row (by omega);exact frozen_of_row _ _ _ _ _ h1)
     have hsw:=HA2.out.swap (c:=ns.length) ht6 hlt HFL.out (fun u9 hu9 _=>HFN.out u9 hu9) HFB.out ⟨Nat.le_refl _,by unfold maxLen;omega⟩
     have hv9:=HV2.out.swapped HA2.out.st (by omega) k (.slice (some ⟨F,0,none⟩) ns.length ns.length)
     go_simp
     refine hK.out _ _ (hsw.box.1.trans (by show some (Value.slice m2.fa _ _)=_;rw [HFA.out];rfl)) (fun hHeld=>?_)
     have HA3:=Lib.hid hsw
     have HV3:=Lib.hid hv9
     have HVN3:Hid (∀ v,okP ts.length v→(m2.swap k F ns.length).bl v≠V):=Lib.hid (fun v hv=>by
      show setR m2.bl k F v≠V
      by_cases hvk:v=k
      ·subst hvk;rw [setR_at];exact HFV.out
      ·rw [setR_ne _ _ _ hvk];exact HVN2.out v hv)
     generalize wm.setCell ⟨m2.g,k,none⟩ (.slice (some ⟨F,0,none⟩) ns.length ns.length)=wz at *
     generalize m2.swap k F ns.length=m3 at *
     clear hK K c9 f9 hsw hv9
     refine wpAnyH_done (by kernel_rfl) ?_ _
     clear hHeld
     have hlo:=l4Lose_any ns (.slice (some ⟨g,0,none⟩) ns.length cap) B ts.length ns.length m3 _ k wz (by omega) rfl (HP.out.below HA3.out.below) (HA3.out.st.fl 6 (.inr rfl)) (HA3.out.st.cp 6 (.inr rfl))
     unfold M4.val at hlo
     obtain ⟨o0,o1⟩:=HA3.out.box
     go_wp2_with fail
     refine hlo.mono ?_
     rintro E w8 ⟨rfl,hf8,hg8⟩
     have HA8:Hid (A4 w w8 d (.slice An d.next.length cn) X O ts.length ns.length m3 (tookF ts ns d S (k+1))):=Lib.hid ((HA3.out.write (.inr rfl) hg8 hf8).congr (fun v l _ _=>by
      rw [tookF_yes (by omega) HUE.out]
      by_cases h6:v=6
      ·subst h6
       rw [setR_at,setR_at,setR_ne _ _ _ (show 6≠k from by omega)]
      ·rw [setR_ne _ _ _ h6,setR_ne _ _ _ h6]))
     have HV8:=Lib.hid (HV3.out.keep (hg8.block _ HV3.out.lt (fun e=>HVN3.out 6 (.inr rfl) (by injection e with e;exact e.symm))))
     clear hlo hf8 hg8 HA3 HV3 o0 o1
     go_wp2_with fail
     refine ⟨⟨k+1,m3,by simp,by omega,HA8,HV8,HVN3⟩,?_⟩
     simp only [intOf]
     omega
    ·have hUn:(U==2)=false:=by simp [hU2]
     have hUd:decide (U=2)=false:=decide_eq_false hU2
     have HA8:Hid (A4 w w4 d (.slice An d.next.length cn) X O ts.length ns.length m2 (tookF ts ns d S (k+1))):=Lib.hid (HA2.out.congr (fun v l _ _=>tookF_no (by rw [HUE.out];exact hU2) v l))
     clear HA2
     go_wp2_with fail
     refine ⟨⟨k+1,m2,by simp,by omega,HA8,HV2,HVN2⟩,?_⟩
     simp only [intOf]
     omega
   ·have hke:k=ts.length:=by omega
    subst hke
    obtain ⟨x0,x1,x2,x3,x4⟩:=HA2.out.pt
    have hs:=l3Set_any d.op d.x d.y d.n d.next (.slice An d.next.length cn) wr
    obtain ⟨s,hse⟩:∃ s,setI d=s:=⟨_,rfl⟩
    rw [hse] at hs
    have HSE:=Lib.hid hse
    clear hse
    go_wp2_with fail
    refine hs.mono ?_
    rintro E w4 ⟨rfl,hb4⟩
    replace HA2:=Lib.hid (HA2.out.keep hb4)
    replace HV2:=Lib.hid (HV2.out.keep (hb4.block _ HV2.out.lt))
    clear hs hb4 x0 x1 x2 x3 x4
    by_cases hs0:0≤s
    ·obtain ⟨z,rfl⟩:∃ z:Nat,s=(z:Int):=⟨s.toNat,by omega⟩
     have hzT:z<ts.length:=by
      have:=typed_set HTY.out (z:Int) (by omega) HSE.out
      omega
     have zi0:(0:Int)≤(z:Int):=by omega
     have zi1:(z:Int)<(ts.length:Int):=by omega
     have hfa:=HA2.out.st.fa (by omega)
     obtain ⟨o0,o1⟩:=HA2.out.box
     rw [hfa] at o0
     obtain ⟨hcf1,hcf2⟩:=HA2.out.st.cf
     unfold maxLen at hcf2
     have c9:=HA2.out.st.slot hzT
     have f9:w4.frozen? ⟨m2.g,z,none⟩=false:=(by obtain ⟨cur,h1,_⟩:=HA2.out.st.row (by omega);exact frozen_of_row _ _ _ _ _ h1)
     have hsw:=HA2.out.swap (c:=ns.length) ht6 hzT HV2.out (fun u9 hu9 _=>HVN2.out u9 hu9) HVG.out ⟨Nat.le_refl _,by unfold maxLen;omega⟩
     have HA3:=Lib.hid hsw
     clear hsw hfa
     go_upto_region 21 with fail
     generalize w4.setCell ⟨m2.g,z,none⟩ (.slice (some ⟨V,0,none⟩) ns.length ns.length)=wz at *
     generalize m2.swap z V ns.length=m3 at *
     clear o0 o1 c9 f9 HA2 HV2 HVN2
     have hlo:=l4Lose_any ns (.slice (some ⟨g,0,none⟩) ns.length cap) B ts.length ns.length m3 _ z wz (by omega) rfl (HP.out.below HA3.out.below) (HA3.out.st.fl 6 (.inr rfl)) (HA3.out.st.cp 6 (.inr rfl))
     unfold M4.val at hlo
     obtain ⟨o0,o1⟩:=HA3.out.box
     go_wp2_with fail
     refine hlo.mono ?_
     rintro E w8 ⟨rfl,hf8,hg8⟩
     obtain ⟨mf,hmf⟩:∃ mf,mf=m3:=⟨_,rfl⟩
     subst hmf
     have HAf:Hid (A4 w w8 d (.slice An d.next.length cn) X O ts.length ns.length mf (setF ns d (tookF ts ns d S ts.length) (valF ts d a S))):=Lib.hid ((HA3.out.write (.inr rfl) hg8 hf8).congr (fun v l _ _=>by
      unfold setF
      rw [HSE.out,if_pos (by omega),Int.toNat_natCast]
      by_cases h6:v=6
      ·subst h6
       rw [setR_at,setR_at,setR_ne _ _ _ (show 6≠z from by omega)]
      ·rw [setR_ne _ _ _ h6,setR_ne _ _ _ h6]))
     clear hlo hf8 hg8 HA3 o0 o1
     go_upto_region 22 with fail
     obtain ⟨x0,x1,x2,x3,x4⟩:=HAf.out.pt
     rw [← HOP.out] at x0
     by_cases h45:op=4∨op=5
     ·have hAe:=HAf.out.write (.inr rfl) (Lib.grownBy_setCell w8 (mf.bl 6) a (.bool true)) ((HAf.out.st.fl 6 (.inr rfl)).put han true)
      have HAe:Hid (A4 w (w8.setCell ⟨mf.bl 6,a,none⟩ (.bool true)) d (.slice An d.next.length cn) X O ts.length ns.length mf (ownF d a (setF ns d (tookF ts ns d S ts.length) (valF ts d a S)))):=Lib.hid (hAe.congr (fun v l _ _=>by unfold ownF;rw [if_pos (by rw [← HOP.out];exact h45)]))
      have cV:=(HAf.out.st.fl 6 (.inr rfl)).cell han
      have sV:=(HAf.out.st.fl 6 (.inr rfl)).soft a
      obtain ⟨o0,o1⟩:=HAf.out.box
      have hc6:=(HAf.out.st.cp 6 (.inr rfl)).1
      clear hAe HAf
      rcases h45 with rfl | rfl
      all_goals
       go_upto_region 24 with fail
       generalize w8.setCell ⟨mf.bl 6,a,none⟩ (.bool true)=we at *
       clear x0 x1 x2 x3 x4 cV sV o0 o1
       obtain ⟨o0,o1⟩:=HAe.out.box
       obtain ⟨y0,y1,z0,z1⟩:=HAe.out.res
       go_wp2_with fail
       have e1:=(heap_setCell_same we (w.heap.size+1) 0 _ _ (.slice mf.fa ts.length mf.cf) HAe.out.rs).trans rfl
       have hrr:((we.setCell ⟨w.heap.size+1,0,none⟩ (.slice mf.fa ts.length mf.cf)).setCell ⟨w.heap.size+1,1,none⟩ (.slice (some ⟨mf.bl 6,0,none⟩) ns.length (mf.cp 6))).heap[w.heap.size+1]?=some (.cells #[.slice mf.fa ts.length mf.cf,.slice (some ⟨mf.bl 6,0,none⟩) ns.length (mf.cp 6)] 81 (0,0)):=(heap_setCell_same _ (w.heap.size+1) 1 _ _ _ e1).trans rfl
       have hst:=(HAe.out.st.boxed HAe.out.rs 0 (.slice mf.fa ts.length mf.cf)).boxed e1 1 (.slice (some ⟨mf.bl 6,0,none⟩) ns.length (mf.cp 6))
       have hbf:Below w.heap.size w ((we.setCell ⟨w.heap.size+1,0,none⟩ (.slice mf.fa ts.length mf.cf)).setCell ⟨w.heap.size+1,1,none⟩ (.slice (some ⟨mf.bl 6,0,none⟩) ns.length (mf.cp 6))):=below_set (below_set HAe.out.below (by omega)) (by omega)
       refine bodyPost_ret (v:=.agg #[.slice mf.fa ts.length mf.cf,.slice (some ⟨mf.bl 6,0,none⟩) ns.length (mf.cp 6)]) ?_ rfl ⟨mf,rfl,hst.congr (fun v l hv _=>(HAFT.out v l hv).symm),hbf⟩
       exact results_cell rfl Tryz.prog _ _ (w.heap.size+1) _ rfl (load_st hrr rfl)
     ·have n4:¬ op=4:=fun h=>h45 (.inl h)
      have n5:¬ op=5:=fun h=>h45 (.inr h)
      have b4:(op==4)=false:=by simp [n4]
      have b5:(op==5)=false:=by simp [n5]
      have d4:decide (op=4)=false:=decide_eq_false n4
      have d5:decide (op=5)=false:=decide_eq_false n5
      have HAe:Hid (A4 w w8 d (.slice An d.next.length cn) X O ts.length ns.length mf (ownF d a (setF ns d (tookF ts ns d S ts.length) (valF ts d a S)))):=Lib.hid (HAf.out.congr (fun v l _ _=>by unfold ownF;rw [if_neg (by rw [← HOP.out];exact h45)]))
      clear HAf h45
      obtain ⟨o0,o1⟩:=HAe.out.box
      obtain ⟨y0,y1,z0,z1⟩:=HAe.out.res
      go_wp2_with fail
      have e1:=(heap_setCell_same w8 (w.heap.size+1) 0 _ _ (.slice mf.fa ts.length mf.cf) HAe.out.rs).trans rfl
      have hrr:((w8.setCell ⟨w.heap.size+1,0,none⟩ (.slice mf.fa ts.length mf.cf)).setCell ⟨w.heap.size+1,1,none⟩ (.slice (some ⟨mf.bl 6,0,none⟩) ns.length (mf.cp 6))).heap[w.heap.size+1]?=some (.cells #[.slice mf.fa ts.length mf.cf,.slice (some ⟨mf.bl 6,0,none⟩) ns.length (mf.cp 6)] 81 (0,0)):=(heap_setCell_same _ (w.heap.size+1) 1 _ _ _ e1).trans rfl
      have hst:=(HAe.out.st.boxed HAe.out.rs 0 (.slice mf.fa ts.length mf.cf)).boxed e1 1 (.slice (some ⟨mf.bl 6,0,none⟩) ns.length (mf.cp 6))
      have hbf:Below w.heap.size w ((w8.setCell ⟨w.heap.size+1,0,none⟩ (.slice mf.fa ts.length mf.cf)).setCell ⟨w.heap.size+1,1,none⟩ (.slice (some ⟨mf.bl 6,0,none⟩) ns.length (mf.cp 6))):=below_set (below_set HAe.out.below (by omega)) (by omega)
      refine bodyPost_ret (v:=.agg #[.slice mf.fa ts.length mf.cf,.slice (some ⟨mf.bl 6,0,none⟩) ns.length (mf.cp 6)]) ?_ rfl ⟨mf,rfl,hst.congr (fun v l hv _=>(HAFT.out v l hv).symm),hbf⟩
      exact results_cell rfl Tryz.prog _ _ (w.heap.size+1) _ rfl (load_st hrr rfl)
    ·have hsd:decide (0≤s)=false:=decide_eq_false hs0
     obtain ⟨mf,hmf⟩:∃ mf,mf=m2:=⟨_,rfl⟩
     subst hmf
     have HAf:Hid (A4 w w4 d (.slice An d.next.length cn) X O ts.length ns.length mf (setF ns d (tookF ts ns d S ts.length) (valF ts d a S))):=Lib.hid (HA2.out.congr (fun v l _ _=>by
      unfold setF
      rw [HSE.out,if_neg hs0]))
     clear HA2
     go_upto_region 22 with fail
     obtain ⟨x0,x1,x2,x3,x4⟩:=HAf.out.pt
     rw [← HOP.out] at x0
     by_cases h45:op=4∨op=5
     ·have hAe:=HAf.out.write (.inr rfl) (Lib.grownBy_setCell w4 (mf.bl 6) a (.bool true)) ((HAf.out.st.fl 6 (.inr rfl)).put han true)
      have HAe:Hid (A4 w (w4.setCell ⟨mf.bl 6,a,none⟩ (.bool true)) d (.slice An d.next.length cn) X O ts.length ns.length mf (ownF d a (setF ns d (tookF ts ns d S ts.length) (valF ts d a S)))):=Lib.hid (hAe.congr (fun v l _ _=>by unfold ownF;rw [if_pos (by rw [← HOP.out];exact h45)]))
      have cV:=(HAf.out.st.fl 6 (.inr rfl)).cell han
      have sV:=(HAf.out.st.fl 6 (.inr rfl)).soft a
      obtain ⟨o0,o1⟩:=HAf.out.box
      have hc6:=(HAf.out.st.cp 6 (.inr rfl)).1
      clear hAe HAf
      rcases h45 with rfl | rfl
      all_goals
       go_upto_region 24 with fail
       generalize w4.setCell ⟨mf.bl 6,a,none⟩ (.bool true)=we at *
       clear x0 x1 x2 x3 x4 cV sV o0 o1
       obtain ⟨o0,o1⟩:=HAe.out.box
       obtain ⟨y0,y1,z0,z1⟩:=HAe.out.res
       go_wp2_with fail
       have e1:=(heap_setCell_same we (w.heap.size+1) 0 _ _ (.slice mf.fa ts.length mf.cf) HAe.out.rs).trans rfl
       have hrr:((we.setCell ⟨w.heap.size+1,0,none⟩ (.slice mf.fa ts.length mf.cf)).setCell ⟨w.heap.size+1,1,none⟩ (.slice (some ⟨mf.bl 6,0,none⟩) ns.length (mf.cp 6))).heap[w.heap.size+1]?=some (.cells #[.slice mf.fa ts.length mf.cf,.slice (some ⟨mf.bl 6,0,none⟩) ns.length (mf.cp 6)] 81 (0,0)):=(heap_setCell_same _ (w.heap.size+1) 1 _ _ _ e1).trans rfl
       have hst:=(HAe.out.st.boxed HAe.out.rs 0 (.slice mf.fa ts.length mf.cf)).boxed e1 1 (.slice (some ⟨mf.bl 6,0,none⟩) ns.length (mf.cp 6))
       have hbf:Below w.heap.size w ((we.setCell ⟨w.heap.size+1,0,none⟩ (.slice mf.fa ts.length mf.cf)).setCell ⟨w.heap.size+1,1,none⟩ (.slice (some ⟨mf.bl 6,0,none⟩) ns.length (mf.cp 6))):=below_set (below_set HAe.out.below (by omega)) (by omega)
       refine bodyPost_ret (v:=.agg #[.slice mf.fa ts.length mf.cf,.slice (some ⟨mf.bl 6,0,none⟩) ns.length (mf.cp 6)]) ?_ rfl ⟨mf,rfl,hst.congr (fun v l hv _=>(HAFT.out v l hv).symm),hbf⟩
       exact results_cell rfl Tryz.prog _ _ (w.heap.size+1) _ rfl (load_st hrr rfl)
     ·have n4:¬ op=4:=fun h=>h45 (.inl h)
      have n5:¬ op=5:=fun h=>h45 (.inr h)
      have b4:(op==4)=false:=by simp [n4]
      have b5:(op==5)=false:=by simp [n5]
      have d4:decide (op=4)=false:=decide_eq_false n4
      have d5:decide (op=5)=false:=decide_eq_false n5
      have HAe:Hid (A4 w w4 d (.slice An d.next.length cn) X O ts.length ns.length mf (ownF d a (setF ns d (tookF ts ns d S ts.length) (valF ts d a S)))):=Lib.hid (HAf.out.congr (fun v l _ _=>by unfold ownF;rw [if_neg (by rw [← HOP.out];exact h45)]))
      clear HAf h45
      obtain ⟨o0,o1⟩:=HAe.out.box
      obtain ⟨y0,y1,z0,z1⟩:=HAe.out.res
      go_wp2_with fail
      have e1:=(heap_setCell_same w4 (w.heap.size+1) 0 _ _ (.slice mf.fa ts.length mf.cf) HAe.out.rs).trans rfl
      have hrr:((w4.setCell ⟨w.heap.size+1,0,none⟩ (.slice mf.fa ts.length mf.cf)).setCell ⟨w.heap.size+1,1,none⟩ (.slice (some ⟨mf.bl 6,0,none⟩) ns.length (mf.cp 6))).heap[w.heap.size+1]?=some (.cells #[.slice mf.fa ts.length mf.cf,.slice (some ⟨mf.bl 6,0,none⟩) ns.length (mf.cp 6)] 81 (0,0)):=(heap_setCell_same _ (w.heap.size+1) 1 _ _ _ e1).trans rfl
      have hst:=(HAe.out.st.boxed HAe.out.rs 0 (.slice mf.fa ts.length mf.cf)).boxed e1 1 (.slice (some ⟨mf.bl 6,0,none⟩) ns.length (mf.cp 6))
      have hbf:Below w.heap.size w ((w4.setCell ⟨w.heap.size+1,0,none⟩ (.slice mf.fa ts.length mf.cf)).setCell ⟨w.heap.size+1,1,none⟩ (.slice (some ⟨mf.bl 6,0,none⟩) ns.length (mf.cp 6))):=below_set (below_set HAe.out.below (by omega)) (by omega)
      refine bodyPost_ret (v:=.agg #[.slice mf.fa ts.length mf.cf,.slice (some ⟨mf.bl 6,0,none⟩) ns.length (mf.cp 6)]) ?_ rfl ⟨mf,rfl,hst.congr (fun v l hv _=>(HAFT.out v l hv).symm),hbf⟩
      exact results_cell rfl Tryz.prog _ _ (w.heap.size+1) _ rfl (load_st hrr rfl)
def L4Post (ts:List Int) (ns:List Nd) (w:World) (E:Ending) (w':World):Prop :=
 ∃ R c ms o,E=.returned (.slice (some ⟨R,0,none⟩) ns.length c)∧ns.length≤c∧c≤maxLen∧F4 w' w.heap.size R ns.length ts.length ms o∧(∀ m v l,m<ns.length→(o m v l=true↔LoanB ts ns m v l))∧Below w.heap.size w w'
theorem NextV.cellOf {w:World} {B:Nat} {u:Value} {next:List Int} (h:NextV w B u next) {x:Nat} (hx:x<next.length):∃ g,u=.slice (some ⟨g,0,none⟩) next.length next.length∧∀ v,next[x]?=some v→w.cell? ⟨g,x,none⟩=some (.int .i64 v):=by
 rcases h with ⟨h1,_⟩ | ⟨g,h1,_,h3⟩
 ·rw [h1] at hx
  exact absurd hx (Nat.not_lt_zero _)
 ·refine ⟨g,h1,fun v hv=>?_⟩
  rw [cB h3]
  simp [hv]
structure E4 (w1 w:World) (R X n T K:Nat) (ms:Nat→M4) (ma:M4) (x:Nat→Nat→Bool) (o:Nat→Nat→Nat→Bool):Prop where
 F:F4 w w1.heap.size R n T ms o
 below:Below w1.heap.size w1 w
 st:S4 w K T n ma x
 box:w.heap[X]?=some (.cells #[.slice ma.fa T ma.cf,.slice (some ⟨ma.bl 6,0,none⟩) n (ma.cp 6)] 81 (0,0))
 ne:∀ i u v,i<n→okP T u→okP T v→ma.bl v≠(ms i).bl u
section
variable {w1 w w':World} {R X n T K:Nat} {ms:Nat→M4} {ma:M4} {x:Nat→Nat→Bool} {o o':Nat→Nat→Nat→Bool}
theorem E4.keep (h:E4 w1 w R X n T K ms ma x o) (hb:Below w.heap.size w w'):E4 w1 w' R X n T K ms ma x o :=
 ⟨h.F.keep hb,h.below.trans (hb.mono h.below.size),h.st.keep hb,(hb.block _ (heap_lt h.box)).trans h.box,h.ne⟩
theorem E4.drew (h:E4 w1 w R X n T K ms ma x o):E4 w1 w.drew R X n T K ms ma x o:=h.keep (Below.refl _ _).drew
theorem E4.write (h:E4 w1 w R X n T K ms ma x o) {b v:Nat} {y:Nat→Bool} (hb:b<n) (hv:okP T v) (hg:w.grownBy w' (some ((ms b).bl v))) (hx:FlW w' ((ms b).bl v) n y):E4 w1 w' R X n T K ms ma x (setR o b (setR (o b) v y)) :=
 have hf:=(h.F.st b hb).fl v hv
 ⟨h.F.write hb hv hg hx,h.below.grown hg h.below.size (fun j hj=>by have:=(h.F.st b hb).own v hv;injection hj with hj;omega),h.st.aside hf (fun u hu=>h.ne b v u hb hv hu) hg,(hg.block _ (heap_lt h.box) (fun e=>hf.apart_of h.box (by decide) (by injection e))).trans h.box,h.ne⟩
theorem E4.boxCells (h:E4 w1 w R X n T K ms ma x o):w.cell? ⟨X,0,none⟩=some (.slice ma.fa T ma.cf)∧w.cell? ⟨X,1,none⟩=some (.slice (some ⟨ma.bl 6,0,none⟩) n (ma.cp 6)) :=
 ⟨(cB h.box 0).trans rfl,(cB h.box 1).trans rfl⟩
theorem E4.set (h:E4 w1 w R X n T K ms ma x o) (hF:F4 w w1.heap.size R n T ms o'):E4 w1 w R X n T K ms ma x o':=⟨hF,h.below,h.st,h.box,h.ne⟩
end
theorem l4Flow_any (ts:List Int) (s:Sts) (At As:Option Addr) (ct cs:Nat) (w:World) (h1:validB ts s=true) (hT:IntsV w 0 w.heap.size ts At ct) (hR:RepV w 0 w.heap.size s As cs) :
  Calls Tryz.prog 51 #[.agg #[.slice At ts.length ct,.slice As s.len cs]] w (L4Post ts (progPts s) w):=by
 have hb0:=(Below.refl w.heap.size w).alloc (Nat.le_refl _) (.cells #[.slice At ts.length ct,.slice As s.len cs] 30)
 have hz0:(w.alloc (.cells #[.slice At ts.length ct,.slice As s.len cs] 30)).heap.size=w.heap.size+1:=by simp
 have hB0:=heap_alloc_new w (.cells #[.slice At ts.length ct,.slice As s.len cs] 30)
 have h30:=valid_size h1
 have hAT:=progPts_allTyped h1
 have ht6:=hAT.1
 have hD:=progPts_ok s (valid_ok h1).2.1
 have hle:(progPts s).length≤61:=by
  have:=s.npts_le
  rw [progPts_len]
  omega
 have hn0:0<(progPts s).length:=by
  rw [progPts_len]
  omega
 have hlp:=l2Points_any ts s At As ct cs _ (by omega) (hR.below hb0 (by simp))
 generalize progPts s=ds at hlp hD hle hn0 hAT ⊢
 generalize s.npts=q at hD
 have HZ:=Lib.hid hz0
 have HB:=Lib.hid hB0
 have HD:=Lib.hid hD
 have HT:=Lib.hid hT
 have HAT:=Lib.hid hAT
 have hTm:=hT.2.1
 have hTl:=hT.1
 unfold maxLen at hTm
 obtain ⟨i0,hi,hzz0,hzz1,hzz2⟩:=info_parts Tryz.infoSt4
 have HI:=Lib.hid hi
 have HZ0:=Lib.hid hzz0
 have HZ1:=Lib.hid hzz1
 have HZ2:=Lib.hid hzz2
 clear h1 hz0 hB0 hD hT hR hAT hi hzz0 hzz1 hzz2
 go_enter Tryz.func51,Tryz.ntmps51
 go_wp2_with fail
 refine hlp.mono ?_
 rintro E w1 ⟨v,rfl,hP,hb1⟩
 rw [HZ.out] at hP hb1
 have hs1:=hb1.size
 rw [HZ.out] at hs1
 have hbw:Below w.heap.size w w1:=hb0.trans (hb1.mono (by omega))
 obtain ⟨g,cap,hv,hgB,hgl,hgc,hgm⟩:=hP.form hn0
 subst hv
 unfold maxLen at hgm
 have HB1:=Lib.hid ((hb1.block w.heap.size (by omega)).trans HB.out)
 have HP:=Lib.hid hP
 have HBW:=Lib.hid hbw
 have HR0:Hid (∃ ms,Rows5 (w1.alloc (.cells #[] 81)) w1.heap.size (.slice (some ⟨w1.heap.size,0,none⟩) 0 0) 0 ds.length ts.length ms):=Lib.hid ⟨_,Rows5.nil w1 w1.heap.size ds.length ts.length (Nat.le_refl _)⟩
 have HBA:=Lib.hid ((Below.refl w1.heap.size w1).alloc (Nat.le_refl _) (.cells #[] 81))
 clear hlp hP hb1 hb0 hbw
 go_wp2_with fail
 generalize w1.alloc (.cells #[] 81)=wA at *
 go_loopw [4,5] (fun qv i wr=>∃ k:Nat,i=.int .i64 k∧k≤ds.length∧Hid (∃ ms,Rows5 wr w1.heap.size qv k ds.length ts.length ms)∧Hid (Below w1.heap.size w1 wr)) (fun _ i _=>ds.length-(intOf i).toNat)
 case atStart=>exact ⟨0,rfl,Nat.zero_le _,HR0,HBA⟩
 case round =>
  clear HR0 HBA
  obtain ⟨k,rfl,hk,HRW,HBR⟩:=hrel
  obtain ⟨ms0,hms⟩:=HRW.out
  obtain ⟨Ao,co,ho,-,-⟩:=hms.slice
  subst ho
  have HMS:=Lib.hid hms
  have hbz:=HBR.out.size
  have hB9:=(HBR.out.block w.heap.size (by omega)).trans HB1.out
  have p0:wr.cell? ⟨w.heap.size,0,none⟩=some (.slice At ts.length ct):=(cB hB9 0).trans rfl
  clear hms HRW hB9
  by_cases hlt:k<ds.length
  ·have hst:=l4Start_any ts.length ds.length wr ht6 (by omega)
   unfold M4.val at hst
   go_wp2_with fail
   refine hst.mono ?_
   rintro E w3 ⟨m,rfl,hm,hb3⟩
   have hb4:=(Below.refl w3.heap.size w3).alloc (Nat.le_refl _) (.cells #[.slice m.fa ts.length m.cf,.slice (some ⟨m.bl 6,0,none⟩) ds.length (m.cp 6)] 81)
   have hnw:=heap_alloc_new w3 (.cells #[.slice m.fa ts.length m.cf,.slice (some ⟨m.bl 6,0,none⟩) ds.length (m.cp 6)] 81)
   have hz4:(w3.alloc (.cells #[.slice m.fa ts.length m.cf,.slice (some ⟨m.bl 6,0,none⟩) ds.length (m.cp 6)] 81)).heap.size=w3.heap.size+1:=by simp
   have HM:=Lib.hid (hm.keep hb4)
   have HMS4:=Lib.hid ((HMS.out.below hb3).below hb4)
   have HB4:=Lib.hid ((HBR.out.trans (hb3.mono hbz)).trans (hb4.mono (Nat.le_trans hbz hb3.size)))
   have HLT:Hid (∀ i u,i<k→okP ts.length u→(ms0 i).bl u<wr.heap.size):=Lib.hid (fun i u hi hu=>HMS.out.lt hi hu)
   have hz3:=hb3.size
   clear hst hm hb3 hb4 HMS HBR p0
   obtain ⟨xs,ho,h1,h2,h3⟩:=HMS4.out
   have HO:=Lib.hid ho
   have HH1:=Lib.hid h1
   have HH2:=Lib.hid h2
   have HH3:=Lib.hid h3
   have HNW:=Lib.hid hnw
   have HZ4:=Lib.hid hz4
   clear ho h1 h2 h3 HMS4 hnw hz4
   go_wp2_with (at_builtin;refine wpList_append_lies _ rfl _ _ 76 rfl w1.heap.size 81 i0 (.agg #[.slice none 0 0,.slice none 0 0]) 2 48 Tryz.underlying76 HI.out HZ0.out HZ1.out HZ2.out rfl (by decide) _ _ _ rfl HO.out ⟨_,0,none⟩ 1 1 [.slice m.fa ts.length m.cf,.slice (some ⟨m.bl 6,0,none⟩) ds.length (m.cp 6)] rfl rfl ?x41 ?x42 (by decide) ?x43 ?x44 ?x45 _ rfl ?_)
   try (case x41=>exact World.news_of_block HNW.out)
   try (case x42=>(intro u9 hu9;simp only [List.mem_cons,List.not_mem_nil,or_false] at hu9;rcases hu9 with rfl | rfl <;> rfl))
   try (case x43=>(unfold maxLen;omega))
   try (case x44=>omega)
   try (case x45=>(have:=HB4.out.size;omega))
   intro g9 cap9 w9 hown9 hgg9 hat9 hlt9
   have hmore:=Rows5.more (K:=wr.heap.size) HO.out HH1.out HH2.out HH3.out HM.out hbz HLT.out hgg9 hown9
   have HMO:Hid (∃ ms,Rows5 w9 w1.heap.size (.slice (some ⟨g9,0,none⟩) (k+1) cap9) (k+1) ds.length ts.length ms):=Lib.hid ⟨_,hmore⟩
   have HB9:=Lib.hid (HB4.out.grown hgg9 HB4.out.size (fun j hj=>(HO.out.lt j hj).1))
   clear hown9 hgg9 hat9 hlt9 hmore HO HH1 HH2 HH3 HM HB4 HNW HZ4 HLT
   go_wp2_with fail
   refine ⟨⟨k+1,by simp,by omega,HMO,HB9⟩,?_⟩
   simp only [intOf]
   omega
  ·have hke:k=ds.length:=by omega
   subst hke
   obtain ⟨R,cR,hRv,hRc1,hRc2,hF⟩:=HMS.out.done hn0
   injection hRv with hR1 _ hR2
   subst hR1 hR2
   have HF0:=Lib.hid hF
   have HRC1:=Lib.hid hRc1
   have HRC2:=Lib.hid hRc2
   unfold maxLen at hRc2
   clear hF HMS
   go_wp2_with fail
   go_loopg [6] (missF (fun _ _ _=>false) ds.length+1) (fun gg c wr=>∃ (o:Nat→Nat→Nat→Bool) (cb:Bool),c=.bool cb∧Hid (F4 wr w1.heap.size R ds.length ts.length ms0 o)∧Hid (Below w1.heap.size w1 wr)∧Hid (Q4 ts ds o cb)∧Hid (cb=true→missF o ds.length<gg))
   case atStart=>exact ⟨_,true,rfl,HF0,HBR,Lib.hid (Q4.zero ts ds),Lib.hid (fun _=>Nat.lt_succ_self _)⟩
   case round =>
    clear HF0 HBR p0 hbz
    obtain ⟨o,cb,rfl,HF,HBR,HQ,HG⟩:=hrel
    have hbz:=HBR.out.size
    cases cb
    ·have HANS:Hid (L4Post ts ds w (.returned (.slice (some ⟨R,0,none⟩) ds.length co)) wr):=Lib.hid ⟨R,co,ms0,o,rfl,HRC1.out,HRC2.out,⟨HF.out.row,fun i hi=>(HF.out.st i hi).lower HBW.out.size,HF.out.apart,Nat.le_trans HBW.out.size HF.out.oR⟩,fun m v l hm=>Q4.last HQ.out HAT.out hm,HBW.out.trans (HBR.out.mono HBW.out.size)⟩
     clear HF HBR HQ HG
     go_wp2_with fail
     go_ret
     exact HANS.out
    ·have hpass:=Q4.pass HQ.out
     obtain ⟨M,hM⟩:∃ M,M=missF o ds.length:=⟨_,rfl⟩
     rw [← hM] at hpass
     have HGM:Hid (M<gk):=Lib.hid (by rw [hM];exact HG.out rfl)
     have HJ:=Lib.hid hpass
     clear hpass hM HQ HG
     go_wp2_with fail
     go_loopg [6,7] ds.length (fun gg c i wr=>∃ (k:Nat) (o:Nat→Nat→Nat→Bool) (cb:Bool),c=.bool cb∧i=.int .i64 k∧k≤ds.length∧gg=ds.length-k∧Hid (F4 wr w1.heap.size R ds.length ts.length ms0 o)∧Hid (Below w1.heap.size w1 wr)∧Hid (J4 ts ds o cb k M))
     case atStart=>exact ⟨0,o,false,rfl,rfl,Nat.zero_le _,rfl,HF,HBR,HJ⟩
     case round =>
      clear HF HBR HJ hbz
      rename_i gO JO KO hJO hKO
      obtain ⟨k,o,cb,rfl,rfl,hk,hgk,HF,HBR,HJ⟩:=hrel
      have hbz:=HBR.out.size
      by_cases hlt:k<ds.length
      ·obtain ⟨d,hd⟩:∃ d,ds[k]?=some d:=⟨ds[k],List.getElem?_eq_getElem hlt⟩
       have HDK:=Lib.hid hd
       have htwo:=nextN_two HD.out hd
       have hint:=nextN_ints HD.out hd
       have HINT:=Lib.hid hint
       have HGK:=Lib.hid hgk
       obtain ⟨r0,r1⟩:=HF.out.cells hlt
       have HR0:=Lib.hid r0
       have HR1:=Lib.hid r1
       have HRL:=Lib.hid HF.out.lt
       have HP0:Hid (wr.cell? ⟨w.heap.size,0,none⟩=some (.slice At ts.length ct)):=Lib.hid ((cB ((HBR.out.block w.heap.size (by omega)).trans HB1.out) 0).trans rfl)
       have HLW:Hid (w.heap.size<wr.heap.size):=Lib.hid (by omega)
       obtain ⟨hk0,hk1⟩:(0:Int)≤(k:Int)∧(k:Int)<(ds.length:Int):=by omega
       clear hd hint hgk r0 r1
       go_upto_region 13 with fail
       go_cut [8] (fun s8 wx=>∃ (XB:Nat) (ma:M4),s8=.pointer (some ⟨XB,0,none⟩)∧Hid (wx.heap[XB]?=some (.cells #[.slice ma.fa ts.length ma.cf,.slice (some ⟨ma.bl 6,0,none⟩) ds.length (ma.cp 6)] 81 (0,0)))∧Hid (S4 wx wr.heap.size ts.length ds.length ma (aftF ts ds k d (o k)))∧Hid (Below wr.heap.size wr wx))
       case first =>
        refine wp_region_held_drew (S:=(fun w9=>Below wr.heap.size wr w9)) (by kernel_rfl) (Below.refl _ _).drew (fun hHeld=>?_)
        generalize hwd:wr.drew=wd at *
        clear hwd
        refine tkd (i:=0) (v:=.pointer (some ⟨w.heap.size,0,none⟩)) rfl hHeld ?_
        try simp only [Act.put,sA,sB,sC]
        refine tk (i:=1) (v:=.slice At ts.length ct) rfl (Or.inl ⟨by rfl,fun w9 hSw=>by have h9:=(hSw.cell (p:=⟨w.heap.size,0,none⟩) HLW.out).trans HP0.out;go_simp⟩) hHeld ?_
        try simp only [Act.put,sA,sB,sC]
        refine tkd (i:=2) (v:=.slice (some ⟨g,0,none⟩) ds.length cap) rfl hHeld ?_
        try simp only [Act.put,sA,sB,sC]
        refine tkd (i:=3) (v:=.int .i64 (k:Int)) rfl hHeld ?_
        try simp only [Act.put,sA,sB,sC]
        refine tkd (i:=4) (v:=.slice (some ⟨R,0,none⟩) ds.length co) rfl hHeld ?_
        try simp only [Act.put,sA,sB,sC]
        refine tkd (i:=5) (v:=.int .i64 (k:Int)) rfl hHeld ?_
        try simp only [Act.put,sA,sB,sC]
        refine tkd (i:=6) (v:=.pointer (some ⟨R,k*2,none⟩)) rfl hHeld ?_
        try simp only [Act.put,sA,sB,sC]
        refine tk (i:=7) (v:=.agg #[.slice (ms0 k).fa ts.length (ms0 k).cf,.slice (some ⟨(ms0 k).bl 6,0,none⟩) ds.length ((ms0 k).cp 6)]) rfl (Or.inl ⟨by rfl,fun w9 hSw=>by have h9:=(hSw.cell (p:=⟨R,k*2,none⟩) HRL.out).trans HR0.out;have h8:=(hSw.cell (p:=⟨R,k*2+1,none⟩) HRL.out).trans HR1.out;go_simp⟩) hHeld ?_
        try simp only [Act.put,sA,sB,sC]
        refine wpAnyH_ready (rs:=[8,9]) (by kernel_rfl) (by simp) ?_
        refine AllReadyH.cons (o:=⟨_,_,_,_,_,_⟩) rfl (fun K hK=>?_) ?_
        ·skip
         have hzW:=hHeld.size
         have haf:=l4After_any ts ds At ct (.slice (some ⟨g,0,none⟩) ds.length cap) _ _ (ms0 k) (o k) k d wd HAT.out hle (HT.out.below (HBW.out.trans ((HBR.out.trans (hHeld.mono hbz)).mono HBW.out.size)) (Nat.le_trans HBW.out.size (Nat.le_trans hbz hzW))) (HP.out.below (HBR.out.trans (hHeld.mono hbz))) ((HF.out.keep hHeld).st k hlt) HDK.out
         unfold M4.val at haf
         go_simp
         refine haf.mono ?_
         rintro E wq ⟨ma,rfl,hma,hbq⟩
         refine hK.out _ _ (hHeld.trans (hbq.mono hzW)) (fun hHeld=>?_)
         have HMA:=Lib.hid (hma.lower (B':=wr.heap.size) hzW)
         clear hK K haf hma hbq hzW
         refine wpAnyH_ready (rs:=[9]) (by kernel_rfl) (by simp) ?_
         refine AllReadyH.cons (o:=⟨_,_,_,_,_,_⟩) rfl (fun K hK=>?_) AllReadyH.nil
         go_simp
         have hba:=(Below.refl wq.heap.size wq).alloc (Nat.le_refl _) (.cells #[.slice none 0 0,.slice none 0 0] 81)
         have hxz:=heap_alloc_new wq (.cells #[.slice none 0 0,.slice none 0 0] 81)
         have HXLE:=Lib.hid hHeld.size
         refine hK.out _ _ (hHeld.trans (hba.mono hHeld.size)) (fun hHeld=>?_)
         skip
         replace HMA:=Lib.hid (HMA.out.keep hba)
         have HXB:=Lib.hid hxz
         generalize wq.alloc (.cells #[.slice none 0 0,.slice none 0 0] 81)=wa at *
         clear hK K hba hxz
         refine wpAnyH_ready (rs:=[10]) (by kernel_rfl) (by simp) ?_
         refine AllReadyH.cons (o:=⟨_,_,_,_,_,_⟩) rfl (fun K hK=>?_) AllReadyH.nil
         have c0:wa.cell? ⟨wq.heap.size,0,none⟩=some (.slice none 0 0):=(cB HXB.out 0).trans rfl
         have c1:wa.cell? ⟨wq.heap.size,1,none⟩=some (.slice none 0 0):=(cB HXB.out 1).trans rfl
         have f0:wa.frozen? ⟨wq.heap.size,0,none⟩=false:=frozen_of_row _ _ _ _ _ HXB.out
         have f1:wa.frozen? ⟨wq.heap.size,1,none⟩=false:=frozen_of_row _ _ _ _ _ HXB.out
         have e1:=(heap_setCell_same wa (wq.heap.size) 0 _ _ (.slice ma.fa ts.length ma.cf) HXB.out).trans rfl
         have e2:((wa.setCell ⟨wq.heap.size,0,none⟩ (.slice ma.fa ts.length ma.cf)).setCell ⟨wq.heap.size,1,none⟩ (.slice (some ⟨ma.bl 6,0,none⟩) ds.length (ma.cp 6))).heap[wq.heap.size]?=some (.cells #[.slice ma.fa ts.length ma.cf,.slice (some ⟨ma.bl 6,0,none⟩) ds.length (ma.cp 6)] 81 (0,0)):=(heap_setCell_same _ (wq.heap.size) 1 _ _ _ e1).trans rfl
         have hs2:=(HMA.out.boxed HXB.out 0 (.slice ma.fa ts.length ma.cf)).boxed e1 1 (.slice (some ⟨ma.bl 6,0,none⟩) ds.length (ma.cp 6))
         have hbl:Below wr.heap.size wr ((wa.setCell ⟨wq.heap.size,0,none⟩ (.slice ma.fa ts.length ma.cf)).setCell ⟨wq.heap.size,1,none⟩ (.slice (some ⟨ma.bl 6,0,none⟩) ds.length (ma.cp 6))):=below_set (below_set hHeld HXLE.out) HXLE.out
         have HE2:=Lib.hid e2
         have HS2:=Lib.hid hs2
         go_simp
         refine hK.out _ _ hbl (fun hHeld=>?_)
         clear hK K c0 c1 f0 f1 e1 e2 hs2 hbl
         refine wpAnyH_done (by kernel_rfl) ?_ _
         skip
         go_wp2_with fail
         go_meet
         exact ⟨wq.heap.size,ma,rfl,HE2,HS2,Lib.hid hHeld⟩
        refine AllReadyH.cons (o:=⟨_,_,_,_,_,_⟩) rfl (fun K hK=>?_) AllReadyH.nil
        go_simp
        have hba:=(Below.refl wd.heap.size wd).alloc (Nat.le_refl _) (.cells #[.slice none 0 0,.slice none 0 0] 81)
        have hxz:=heap_alloc_new wd (.cells #[.slice none 0 0,.slice none 0 0] 81)
        have HXLE:=Lib.hid hHeld.size
        refine hK.out _ _ (hHeld.trans (hba.mono hHeld.size)) (fun hHeld=>?_)
        have HXZ:=Lib.hid hxz
        generalize wd.alloc (.cells #[.slice none 0 0,.slice none 0 0] 81)=wa at *
        clear hK K hba hxz
        refine wpAnyH_ready (rs:=[8]) (by kernel_rfl) (by simp) ?_
        refine AllReadyH.cons (o:=⟨_,_,_,_,_,_⟩) rfl (fun K hK=>?_) AllReadyH.nil
        have hzW:=hHeld.size
        have haf:=l4After_any ts ds At ct (.slice (some ⟨g,0,none⟩) ds.length cap) _ _ (ms0 k) (o k) k d wa HAT.out hle (HT.out.below (HBW.out.trans ((HBR.out.trans (hHeld.mono hbz)).mono HBW.out.size)) (Nat.le_trans HBW.out.size (Nat.le_trans hbz hzW))) (HP.out.below (HBR.out.trans (hHeld.mono hbz))) ((HF.out.keep hHeld).st k hlt) HDK.out
        unfold M4.val at haf
        go_simp
        refine haf.mono ?_
        rintro E wq ⟨ma,rfl,hma,hbq⟩
        have HXB:=Lib.hid ((hbq.block wd.heap.size (heap_lt HXZ.out)).trans HXZ.out)
        refine hK.out _ _ (hHeld.trans (hbq.mono hzW)) (fun hHeld=>?_)
        have HMA:=Lib.hid (hma.lower (B':=wr.heap.size) hzW)
        clear hK K haf hma hbq hzW
        refine wpAnyH_ready (rs:=[10]) (by kernel_rfl) (by simp) ?_
        refine AllReadyH.cons (o:=⟨_,_,_,_,_,_⟩) rfl (fun K hK=>?_) AllReadyH.nil
        have c0:wq.cell? ⟨wd.heap.size,0,none⟩=some (.slice none 0 0):=(cB HXB.out 0).trans rfl
        have c1:wq.cell? ⟨wd.heap.size,1,none⟩=some (.slice none 0 0):=(cB HXB.out 1).trans rfl
        have f0:wq.frozen? ⟨wd.heap.size,0,none⟩=false:=frozen_of_row _ _ _ _ _ HXB.out
        have f1:wq.frozen? ⟨wd.heap.size,1,none⟩=false:=frozen_of_row _ _ _ _ _ HXB.out
        have e1:=(heap_setCell_same wq (wd.heap.size) 0 _ _ (.slice ma.fa ts.length ma.cf) HXB.out).trans rfl
        have e2:((wq.setCell ⟨wd.heap.size,0,none⟩ (.slice ma.fa ts.length ma.cf)).setCell ⟨wd.heap.size,1,none⟩ (.slice (some ⟨ma.bl 6,0,none⟩) ds.length (ma.cp 6))).heap[wd.heap.size]?=some (.cells #[.slice ma.fa ts.length ma.cf,.slice (some ⟨ma.bl 6,0,none⟩) ds.length (ma.cp 6)] 81 (0,0)):=(heap_setCell_same _ (wd.heap.size) 1 _ _ _ e1).trans rfl
        have hs2:=(HMA.out.boxed HXB.out 0 (.slice ma.fa ts.length ma.cf)).boxed e1 1 (.slice (some ⟨ma.bl 6,0,none⟩) ds.length (ma.cp 6))
        have hbl:Below wr.heap.size wr ((wq.setCell ⟨wd.heap.size,0,none⟩ (.slice ma.fa ts.length ma.cf)).setCell ⟨wd.heap.size,1,none⟩ (.slice (some ⟨ma.bl 6,0,none⟩) ds.length (ma.cp 6))):=below_set (below_set hHeld HXLE.out) HXLE.out
        have HE2:=Lib.hid e2
        have HS2:=Lib.hid hs2
        go_simp
        refine hK.out _ _ hbl (fun hHeld=>?_)
        clear hK K c0 c1 f0 f1 e1 e2 hs2 hbl
        refine wpAnyH_done (by kernel_rfl) ?_ _
        skip
        go_wp2_with fail
        go_meet
        exact ⟨wd.heap.size,ma,rfl,HE2,HS2,Lib.hid hHeld⟩
       case rest =>
        obtain ⟨XB,ma,rfl,HXB,HMA,HBX⟩:=hcut
        obtain ⟨KB,hKB⟩:∃ KB,KB=wr.heap.size:=⟨_,rfl⟩
        have HE0:Hid (E4 w1 wc R XB ds.length ts.length KB ms0 ma (aftF ts ds k d (o k)) o):=Lib.hid ⟨HF.out.keep HBX.out,HBR.out.trans (HBX.out.mono hbz),by rw [hKB];exact HMA.out,HXB.out,fun i u9 v9 hi hu hv=>by have h8:=HMA.out.own v9 hv;have h9:=((HF.out.st i hi).fl u9 hu).lt;omega⟩
        have HK0:=Lib.hid (HJ.out.point hlt d)
        clear HR0 HR1 HRL HP0 HLW HXB HMA HBX HF HBR HJ hKB hbz
        go_wp2_with fail
        go_loopg [6,9] d.next.length (fun gg c i wr=>∃ (j:Nat) (o2:Nat→Nat→Nat→Bool) (cb:Bool),c=.bool cb∧i=.int .i64 j∧j≤d.next.length∧gg=d.next.length-j∧Hid (E4 w1 wr R XB ds.length ts.length KB ms0 ma (aftF ts ds k d (o k)) o2)∧Hid (K4 ts ds o o2 cb k j M d))
        case atStart=>exact ⟨0,o,cb,rfl,rfl,Nat.zero_le _,rfl,HE0,HK0⟩
        case round =>
         clear HE0 HK0
         obtain ⟨j,o2,cb,rfl,rfl,hj,hgj,HE,HKK⟩:=hrel
         have hbz:=HE.out.below.size
         have HGJ:=Lib.hid hgj
         clear hgj
         obtain ⟨un,⟨-,-,-,-,a4⟩,hun⟩:=(HP.out.below HE.out.below).cells HDK.out
         by_cases hjl:j<d.next.length
         ·obtain ⟨b0,hsb,hcell⟩:=hun.cellOf hjl
          subst hsb
          obtain ⟨b,hbx⟩:∃ b:Nat,d.next[j]?=some (b:Int):=by
           obtain ⟨u0,hu0⟩:∃ u0,d.next[j]?=some u0:=⟨d.next[j],List.getElem?_eq_getElem hjl⟩
           have hm:u0∈d.next:=List.mem_of_getElem? hu0
           rw [← HINT.out.1] at hm
           obtain ⟨b,hb,e3⟩:=List.mem_map.mp hm
           exact ⟨b,by rw [hu0,← e3]⟩
          have hcb:=hcell _ hbx
          clear hcell
          have hbn:b<ds.length:=by
           have hm:(b:Int)∈d.next:=List.mem_of_getElem? hbx
           rw [← HINT.out.1] at hm
           obtain ⟨b',hb',e3⟩:=List.mem_map.mp hm
           have h8:=HINT.out.2 b' hb'
           have h9:(b':Int)=(b:Int):=e3
           omega
          have HED:Hid (eN ds k b):=Lib.hid ((mem_nextN HD.out hle _ _).mpr ⟨d,j,HDK.out,hbx,.inl (by omega)⟩)
          have HBX:=Lib.hid hbx
          obtain ⟨hb0,hb1⟩:(0:Int)≤(b:Int)∧(b:Int)<(ds.length:Int):=by omega
          obtain ⟨hj0,hj1⟩:(0:Int)≤(j:Int)∧(j:Int)<(d.next.length:Int):=by omega
          clear hun hbx
          go_upto_region 18 with fail
          clear a4 hcb
          obtain ⟨r0,r1⟩:=HE.out.F.cells hbn
          obtain ⟨x0,x1⟩:=HE.out.boxCells
          have HR0:=Lib.hid r0
          have HR1:=Lib.hid r1
          have HX0:=Lib.hid x0
          have HX1:=Lib.hid x1
          have HRL:=Lib.hid HE.out.F.lt
          have HXL:Hid (XB<wr.heap.size):=Lib.hid (heap_lt HE.out.box)
          clear r0 r1 x0 x1
          refine wp_region_held_drew (S:=(fun w9=>Below wr.heap.size wr w9)) (by kernel_rfl) (Below.refl _ _).drew (fun hHeld=>?_)
          replace HE:=Lib.hid HE.out.drew
          generalize hwd:wr.drew=wd at *
          clear hwd
          refine tk (i:=0) (v:=.agg #[.slice ma.fa ts.length ma.cf,.slice (some ⟨ma.bl 6,0,none⟩) ds.length (ma.cp 6)]) rfl (Or.inl ⟨by rfl,fun w9 hSw=>by have h9:=(hSw.cell (p:=⟨XB,0,none⟩) HXL.out).trans HX0.out;have h8:=(hSw.cell (p:=⟨XB,1,none⟩) HXL.out).trans HX1.out;go_simp⟩) hHeld ?_
          try simp only [Act.put,sA,sB,sC]
          refine tkd (i:=1) (v:=.slice (some ⟨R,0,none⟩) ds.length co) rfl hHeld ?_
          try simp only [Act.put,sA,sB,sC]
          refine tkd (i:=2) (v:=.int .i64 (b:Int)) rfl hHeld ?_
          try simp only [Act.put,sA,sB,sC]
          refine tkd (i:=3) (v:=.pointer (some ⟨R,b*2,none⟩)) rfl hHeld ?_
          try simp only [Act.put,sA,sB,sC]
          refine tk (i:=4) (v:=.agg #[.slice (ms0 b).fa ts.length (ms0 b).cf,.slice (some ⟨(ms0 b).bl 6,0,none⟩) ds.length ((ms0 b).cp 6)]) rfl (Or.inl ⟨by rfl,fun w9 hSw=>by have h9:=(hSw.cell (p:=⟨R,b*2,none⟩) HRL.out).trans HR0.out;have h8:=(hSw.cell (p:=⟨R,b*2+1,none⟩) HRL.out).trans HR1.out;go_simp⟩) hHeld ?_
          try simp only [Act.put,sA,sB,sC]
          refine wpAnyH_ready (rs:=[5]) (by kernel_rfl) (by simp) ?_
          refine AllReadyH.cons (o:=⟨_,_,_,_,_,_⟩) rfl (fun K hK=>?_) AllReadyH.nil
          have hwi:=l4Within_any _ _ ts.length ds.length ma (ms0 b) (aftF ts ds k d (o k)) (o2 b) wd ht6 (by omega) HE.out.st (HE.out.F.st b hbn)
          unfold M4.val at hwi
          go_simp
          refine hwi.mono ?_
          rintro E w6 ⟨r,rfl,hr,hb6⟩
          have hzW:=hHeld.size
          refine hK.out _ _ (hHeld.trans (hb6.mono hzW)) (fun hHeld=>?_)
          replace HE:=Lib.hid (HE.out.keep hb6)
          have HRR:=Lib.hid hr
          clear hK K hwi hr hb6 hzW
          refine tkd (i:=6) (v:=.bool (!r)) rfl hHeld ?_
          try simp only [Act.put,sA,sB,sC]
          refine wpAnyH_done (by kernel_rfl) ?_ _
          clear hHeld
          clear HR0 HR1 HX0 HX1 HRL HXL hbz
          cases r
          ·have hno:¬ within ts.length (aftF ts ds k d (o k)) (o2 b) ds.length:=fun q=>by have h9:=HRR.out.mpr q;cases h9
           have HKN:=Lib.hid (HKK.out.add (q:=0) HAT.out HDK.out HBX.out hbn HED.out hno)
           clear hno HRR HKK
           go_upto_region 19 with fail
           have hc19:=(HE.out.F.cells hbn).2
           have hx19:=HE.out.boxCells.2
           refine wp_region_held_drew (S:=(fun w9=>w9.cell? ⟨R,b*2+1,none⟩=some (.slice (some ⟨(ms0 b).bl 6,0,none⟩) ds.length ((ms0 b).cp 6))∧w9.cell? ⟨XB,1,none⟩=some (.slice (some ⟨ma.bl 6,0,none⟩) ds.length (ma.cp 6)))) (by kernel_rfl) ⟨(HE.out.drew.F.cells hbn).2,HE.out.drew.boxCells.2⟩ (fun hHeld=>?_)
           replace HE:=Lib.hid HE.out.drew
           clear hc19 hx19
           generalize hwd:w6.drew=wd at *
           clear hwd
           refine tkd (i:=0) (v:=.slice (some ⟨R,0,none⟩) ds.length co) rfl hHeld ?_
           try simp only [Act.put,sA,sB,sC]
           refine tkd (i:=1) (v:=.int .i64 (b:Int)) rfl hHeld ?_
           try simp only [Act.put,sA,sB,sC]
           refine tkd (i:=2) (v:=.pointer (some ⟨R,b*2,none⟩)) rfl hHeld ?_
           try simp only [Act.put,sA,sB,sC]
           refine tkd (i:=3) (v:=.pointer (some ⟨R,b*2+1,none⟩)) rfl hHeld ?_
           try simp only [Act.put,sA,sB,sC]
           refine tk (i:=4) (v:=.slice (some ⟨(ms0 b).bl 6,0,none⟩) ds.length ((ms0 b).cp 6)) rfl (Or.inl ⟨by rfl,fun w9 hSw=>by have h9:=hSw.1;go_simp⟩) hHeld ?_
           try simp only [Act.put,sA,sB,sC]
           refine tkd (i:=5) (v:=.pointer (some ⟨XB,1,none⟩)) rfl hHeld ?_
           try simp only [Act.put,sA,sB,sC]
           refine tk (i:=6) (v:=.slice (some ⟨ma.bl 6,0,none⟩) ds.length (ma.cp 6)) rfl (Or.inl ⟨by rfl,fun w9 hSw=>by have h9:=hSw.2;go_simp⟩) hHeld ?_
           try simp only [Act.put,sA,sB,sC]
           refine wpAnyH_ready (rs:=[7]) (by kernel_rfl) (by simp) ?_
           refine AllReadyH.cons (o:=⟨_,_,_,_,_,_⟩) rfl (fun K hK=>?_) AllReadyH.nil
           have had:=l4Add_any ds.length ((ms0 b).bl 6) ((ms0 b).cp 6) (ma.bl 6) (ma.cp 6) (o2 b 6) ((aftF ts ds k d (o k)) 6) wd (by omega) ((HE.out.F.st b hbn).fl 6 (.inr rfl)) (HE.out.st.fl 6 (.inr rfl)) (HE.out.ne b 6 6 hbn (.inr rfl) (.inr rfl)) ((HE.out.F.st b hbn).cp 6 (.inr rfl)).1 ((HE.out.F.st b hbn).cp 6 (.inr rfl)).2 (HE.out.st.cp 6 (.inr rfl)).1 (HE.out.st.cp 6 (.inr rfl)).2
           go_simp
           refine had.mono ?_
           rintro E w7 ⟨rfl,hf7,hg7⟩
           have he7:=HE.out.write hbn (.inr rfl) hg7 hf7
           refine hK.out _ _ ⟨(he7.F.cells hbn).2,he7.boxCells.2⟩ (fun hHeld=>?_)
           replace HE:Hid (E4 w1 w7 R XB ds.length ts.length KB ms0 ma (aftF ts ds k d (o k)) (addK o2 b (aftF ts ds k d (o k)) 0)):=Lib.hid (he7.set (he7.F.start ht6))
           clear hK K had hf7 hg7 he7
           refine wpAnyH_done (by kernel_rfl) ?_ _
           clear hHeld
           go_wp2_with fail
           go_loopw [11] (fun i wr=>∃ v:Nat,i=.int .i64 v∧v≤ts.length∧Hid (E4 w1 wr R XB ds.length ts.length KB ms0 ma (aftF ts ds k d (o k)) (addK o2 b (aftF ts ds k d (o k)) v))) (fun i _=>ts.length-(intOf i).toNat)
           case atStart=>exact ⟨0,rfl,Nat.zero_le _,HE⟩
           case round =>
            clear HE
            obtain ⟨v,rfl,hv,HE⟩:=hrel
            obtain ⟨x0,x1⟩:=HE.out.boxCells
            by_cases hvT:v<ts.length
            ·have HFB:=Lib.hid ((HE.out.F.st b hbn).fa (by omega))
             have HFM:=Lib.hid (HE.out.st.fa (by omega))
             obtain ⟨hcfa,hcfb⟩:=(HE.out.F.st b hbn).cf
             obtain ⟨hcma,hcmb⟩:=HE.out.st.cf
             unfold maxLen at hcfb hcmb
             obtain ⟨hv0,hv1⟩:(0:Int)≤(v:Int)∧(v:Int)<(ts.length:Int):=by omega
             go_upto_region 23 with fail
             clear x0 x1
             refine wp_region_held_drew (S:=(fun w9=>w9.cell? ⟨R,b*2,none⟩=some (.slice (some ⟨(ms0 b).g,0,none⟩) ts.length (ms0 b).cf)∧w9.cell? ⟨(ms0 b).g,v,none⟩=some (.slice (some ⟨(ms0 b).bl v,0,none⟩) ds.length ((ms0 b).cp v))∧w9.cell? ⟨XB,0,none⟩=some (.slice (some ⟨ma.g,0,none⟩) ts.length ma.cf)∧w9.cell? ⟨ma.g,v,none⟩=some (.slice (some ⟨ma.bl v,0,none⟩) ds.length (ma.cp v)))) (by kernel_rfl) ⟨(HE.out.drew.F.cells hbn).1.trans (by rw [HFB.out]),(HE.out.drew.F.st b hbn).slot hvT,HE.out.drew.boxCells.1.trans (by rw [HFM.out]),HE.out.drew.st.slot hvT⟩ (fun hHeld=>?_)
             replace HE:=Lib.hid HE.out.drew
             generalize hwd:wr.drew=wd at *
             clear hwd
             refine tkd (i:=0) (v:=.slice (some ⟨R,0,none⟩) ds.length co) rfl hHeld ?_
             try simp only [Act.put,sA,sB,sC]
             refine tkd (i:=1) (v:=.int .i64 (b:Int)) rfl hHeld ?_
             try simp only [Act.put,sA,sB,sC]
             refine tkd (i:=2) (v:=.pointer (some ⟨R,b*2,none⟩)) rfl hHeld ?_
             try simp only [Act.put,sA,sB,sC]
             refine tkd (i:=3) (v:=.pointer (some ⟨R,b*2,none⟩)) rfl hHeld ?_
             try simp only [Act.put,sA,sB,sC]
             refine tk (i:=4) (v:=.slice (some ⟨(ms0 b).g,0,none⟩) ts.length (ms0 b).cf) rfl (Or.inl ⟨by rfl,fun w9 hSw=>by have h9:=hSw.1;go_simp⟩) hHeld ?_
             try simp only [Act.put,sA,sB,sC]
             refine tkd (i:=5) (v:=.int .i64 (v:Int)) rfl hHeld ?_
             try simp only [Act.put,sA,sB,sC]
             refine tkd (i:=6) (v:=.pointer (some ⟨(ms0 b).g,v,none⟩)) rfl hHeld ?_
             try simp only [Act.put,sA,sB,sC]
             refine tk (i:=7) (v:=.slice (some ⟨(ms0 b).bl v,0,none⟩) ds.length ((ms0 b).cp v)) rfl (Or.inl ⟨by rfl,fun w9 hSw=>by have h9:=hSw.2.1;go_simp⟩) hHeld ?_
             try simp only [Act.put,sA,sB,sC]
             refine tkd (i:=8) (v:=.pointer (some ⟨XB,0,none⟩)) rfl hHeld ?_
             try simp only [Act.put,sA,sB,sC]
             refine tk (i:=9) (v:=.slice (some ⟨ma.g,0,none⟩) ts.length ma.cf) rfl (Or.inl ⟨by rfl,fun w9 hSw=>by have h9:=hSw.2.2.1;go_simp⟩) hHeld ?_
             try simp only [Act.put,sA,sB,sC]
             refine tkd (i:=10) (v:=.int .i64 (v:Int)) rfl hHeld ?_
             try simp only [Act.put,sA,sB,sC]
             refine tkd (i:=11) (v:=.pointer (some ⟨ma.g,v,none⟩)) rfl hHeld ?_
             try simp only [Act.put,sA,sB,sC]
             refine tk (i:=12) (v:=.slice (some ⟨ma.bl v,0,none⟩) ds.length (ma.cp v)) rfl (Or.inl ⟨by rfl,fun w9 hSw=>by have h9:=hSw.2.2.2;go_simp⟩) hHeld ?_
             try simp only [Act.put,sA,sB,sC]
             refine wpAnyH_ready (rs:=[13]) (by kernel_rfl) (by simp) ?_
             refine AllReadyH.cons (o:=⟨_,_,_,_,_,_⟩) rfl (fun K hK=>?_) AllReadyH.nil
             have had:=l4Add_any ds.length ((ms0 b).bl v) ((ms0 b).cp v) (ma.bl v) (ma.cp v) (addK o2 b (aftF ts ds k d (o k)) v b v) ((aftF ts ds k d (o k)) v) wd (by omega) ((HE.out.F.st b hbn).fl v (.inl hvT)) (HE.out.st.fl v (.inl hvT)) (HE.out.ne b v v hbn (.inl hvT) (.inl hvT)) ((HE.out.F.st b hbn).cp v (.inl hvT)).1 ((HE.out.F.st b hbn).cp v (.inl hvT)).2 (HE.out.st.cp v (.inl hvT)).1 (HE.out.st.cp v (.inl hvT)).2
             go_simp
             refine had.mono ?_
             rintro E w7 ⟨rfl,hf7,hg7⟩
             have he7:=HE.out.write hbn (.inl hvT) hg7 hf7
             refine hK.out _ _ ⟨(he7.F.cells hbn).1.trans (by rw [HFB.out]),(he7.F.st b hbn).slot hvT,he7.boxCells.1.trans (by rw [HFM.out]),he7.st.slot hvT⟩ (fun hHeld=>?_)
             replace HE:Hid (E4 w1 w7 R XB ds.length ts.length KB ms0 ma (aftF ts ds k d (o k)) (addK o2 b (aftF ts ds k d (o k)) (v+1))):=Lib.hid (he7.set (he7.F.next hvT ht6))
             clear hK K had hf7 hg7 he7
             refine wpAnyH_done (by kernel_rfl) ?_ _
             clear hHeld
             go_wp2_with fail
             refine ⟨⟨v+1,by simp,by omega,HE⟩,?_⟩
             simp only [intOf]
             omega
            ·have hve:v=ts.length:=by omega
             subst hve
             go_wp2_with fail
             go_roundg (d.next.length-(j+1))
             case measure=>rw [HGJ.out];omega
             case rel=>exact ⟨j+1,_,true,rfl,by go_num,by omega,rfl,HE,HKN⟩
          ·have HKN:=Lib.hid (HKK.out.keep HAT.out HDK.out HBX.out (HRR.out.mp rfl))
           clear HRR HKK
           go_wp2_with fail
           go_roundg (d.next.length-(j+1))
           case measure=>rw [HGJ.out];omega
           case rel=>exact ⟨j+1,_,_,rfl,by go_num,by omega,rfl,HE,HKN⟩
         ·have hje:j=d.next.length:=by omega
          obtain ⟨An,cn,hsn⟩:=hun.asSlice
          subst hsn
          have HJN:Hid (J4 ts ds o2 cb (k+1) M):=Lib.hid (by have h9:=HKK.out;rw [hje] at h9;exact h9.done HD.out hle HDK.out)
          have hjd:decide ((j:Int)<(d.next.length:Int))=false:=decide_eq_false (by omega)
          have HFN:=Lib.hid HE.out.F
          have HBN:=Lib.hid HE.out.below
          clear hje hun HKK HE
          go_wp2_with fail
          go_roundg (ds.length-(k+1))
          case measure=>rw [HGK.out];omega
          case rel=>exact ⟨k+1,o2,cb,rfl,by go_num,by omega,rfl,HFN,HBN,HJN⟩
      ·have hke:k=ds.length:=by omega
       subst hke
       have HQN:=Lib.hid HJ.out.pass
       have HDEC:=Lib.hid HJ.out.dec
       clear HJ hgk
       go_wp2_with fail
       go_roundg M
       case measure=>exact HGM.out
       case rel=>exact ⟨o,cb,rfl,HF,HBR,HQN,HDEC⟩
end Go.Proofs.YtedkkphogeealaaGreatDoor
