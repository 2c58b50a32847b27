/- The conflicts of a point,by the program. -/
import Derived.Test.YtedkkphogeealaaGreatDoorPAcP0
import Derived.Test.YtedkkphogeealaaGreatDoorPLlI00
import Derived.Test.YtedkkphogeealaaGreatDoorPAcfG
namespace Go.Proofs.YtedkkphogeealaaGreatDoor
open Go.RowKit Go.Deep
set_option linter.unusedVariables false
set_option maxRecDepth 100000
set_option maxHeartbeats 4000000
theorem look_ahead2 (v:Value) (w:World):(nilAhead 368 227 v "loop.example/borrowcheck/impl.against").run Tryz.prog w=.ok (some false) w:=by kernel_rfl
theorem look_at2 (v:Value) (w:World):(method 368 227 v "loop.example/borrowcheck/impl.against").run Tryz.prog w=.ok (168,v) w:=by kernel_rfl
theorem change_ahead2 (v:Value) (w:World):(nilAhead 368 228 v "loop.example/borrowcheck/impl.against").run Tryz.prog w=.ok (some false) w:=by kernel_rfl
theorem change_at2 (v:Value) (w:World):(method 368 228 v "loop.example/borrowcheck/impl.against").run Tryz.prog w=.ok (170,v) w:=by kernel_rfl
def toucN (ns:List Nd) (m:Nat) (a:AccD):Nat:=if a.u=true then bitsK (isFrom ns a.v.toNat) m else bitsK (isFrom ns a.v.toNat) m&&&bitsK (isUniq ns) m
def orsN (ns:List Nd) (m:Nat):List AccD→Nat
 | []=>0
 | a :: l=>toucN ns m a|||orsN ns m l
theorem toucN_lt {ns:List Nd} {m:Nat} (h:m≤61) (a:AccD):toucN ns m a<2305843009213693952:=by
 unfold toucN
 split
 ·exact bitsK_61 _ h
 ·exact Nat.lt_of_le_of_lt Nat.and_le_left (bitsK_61 _ h)
theorem orsN_lt {ns:List Nd} {m:Nat} (h:m≤61):∀ l,orsN ns m l<2305843009213693952
 | []=>by unfold orsN;decide
 | a :: l=>by unfold orsN;exact or_lt61 (toucN_lt h a) (orsN_lt h l)
theorem orsN_snoc (ns:List Nd) (m:Nat) (a:AccD):∀ l,orsN ns m (l++[a])=orsN ns m l|||toucN ns m a
 | []=>by simp [orsN]
 | b :: l=>by
  rw [List.cons_append]
  unfold orsN
  rw [orsN_snoc ns m a l,Nat.or_assoc]
theorem orsN_bit (ns:List Nd) (m i:Nat):∀ l,(orsN ns m l).testBit i=true↔∃ a∈l,(toucN ns m a).testBit i=true
 | []=>by simp [orsN]
 | b :: l=>by
  unfold orsN
  rw [Nat.testBit_or,Bool.or_eq_true,orsN_bit ns m i l]
  simp
theorem accD_var {ts:List Int} {d:Nd} {b:Bool} {a:AccD} (h:a∈accD ts d b):a.v=d.x∨a.v=d.y:=by
 rw [accD_is,List.mem_append] at h
 rcases h with h | h
 ·unfold accA at h
  (repeat' split at h) <;> simp at h <;> subst h <;> simp
 ·unfold accB at h
  split at h <;> simp at h
  subst h
  simp
theorem conflicts_any (ts:List Int) (ns:List Nd) (q C F hi:Nat) (A:Option Addr) (c:Nat) (ah bk:Nat→Nat) (L:Nat) (mb lv:Nat→Nat) (kn:Nat→Nat→Nat) (k:Nat) (d:Nd) (w:World) (h:Lend ts ns C F hi A c ah bk L mb lv kn w) (hD:PtsOk q ns) (hA:AllTyped ts ns) (hd:ns[k]?=some d) (hTab:TabAt 0 Lib.deBruijn64tab w) (hg:0<w.heap.size) :
  Calls Tryz.prog 105 #[.pointer (some ⟨L,0,none⟩),.int .i64 k] w fun E w'=>∃ z:Nat,E=.returned (.int .u64 (z:Int))∧z<2305843009213693952∧(∀ i,z.testBit i=true↔(∃ a∈accD ts d ((mb k).testBit d.x.toNat),(toucN ns ns.length a).testBit i=true)∧(∃ v,v<6∧(lv k).testBit v=true∧¬ lostN ts ns k v∧(kn k v).testBit i=true)∧(kn k 6).testBit i=true)∧Below w.heap.size w w':=by
 have hkn:=(List.getElem?_eq_some_iff.mp hd).1
 have hle:=h.ln.fl.gr.le
 have hxy:=(effD_ok hA.1 (hA.2 k d hd)).xy
 have han:=accesses_any ts ns q C F hi A c ah bk L mb lv k d w h.ln hD hA hd (typed_op (hA.2 k d hd)) (h.mbIn.lt k) hTab hg
 have HLV:Hid (∀ w',Below w.heap.size w w'→Calls Tryz.prog 125 #[.pointer (some ⟨L,0,none⟩),.int .i64 k] w' fun E w''=>∃ z:Nat,E=.returned (.int .u64 (z:Int))∧z<2305843009213693952∧(∀ l,z.testBit l=true↔∃ v,v<6∧(lv k).testBit v=true∧¬ lostN ts ns k v∧(kn k v).testBit l=true)∧Below w'.heap.size w' w''):=Lib.hid fun w' hb=>live_any ts ns C F hi A c ah bk L mb lv kn k d w' (h.keep hb) hA hd (tab_below hTab hg hb) (by have:=hb.size;omega)
 have hvar:∀ a∈accD ts d ((mb k).testBit d.x.toNat),∃ v:Nat,a.v=(v:Int)∧v<6:=fun a ha=>⟨a.v.toNat,by have:=accD_var ha;omega,by have:=accD_var ha;omega⟩
 obtain ⟨l,hl⟩:∃ l,accD ts d ((mb k).testBit d.x.toNat)=l:=⟨_,rfl⟩
 have hl2:l.length≤2:=by
  rw [← hl,accD_is,List.length_append]
  have:=accA_length ts d
  have:(accB ts d ((mb k).testBit d.x.toNat)).length≤1:=by unfold accB;split <;> simp
  omega
 rw [hl] at han hvar ⊢
 have HLN:=Lib.hid h
 have HVAR:=Lib.hid hvar
 clear hvar hl hxy hd hA hD h
 go_enter Tryz.func105,Tryz.ntmps105
 go_wp2_with fail
 refine han.mono ?_
 rintro E w3 ⟨vX,rfl,hrowX,hb3⟩
 obtain ⟨AX,cX,hvX⟩:=hrowX.slice
 subst hvX
 obtain ⟨p,hp⟩:∃ p,l.length=p:=⟨_,rfl⟩
 rw [hp] at hl2 hrowX
 have HP:=Lib.hid hp
 have HRX:=Lib.hid hrowX
 have HB3:=Lib.hid hb3
 rw [hp]
 clear han hb3 hrowX hp
 go_wp2_with fail
 go_loopw [5,12] (fun t i wr=>∃ j:Nat,t=.int .u64 ((orsN ns ns.length (l.take j):Nat):Int)∧i=.int .i64 j∧j≤p∧Hid (Below w3.heap.size w3 wr)) (fun _ i _=>p-(intOf i).toNat)
 case atStart=>exact ⟨0,by simp [orsN],rfl,Nat.zero_le _,Lib.hid (Below.refl _ _)⟩
 case round =>
  obtain ⟨j,rfl,rfl,hj,HB⟩:=hrel
  by_cases hjl:j<p
  ·obtain ⟨x,hx⟩:∃ x,l[j]?=some x:=⟨l[j]'(by rw [HP.out];exact hjl),List.getElem?_eq_getElem _⟩
   have htk:l.take (j+1)=l.take j++[x]:=by rw [List.take_add_one,hx];rfl
   have hnx:orsN ns ns.length (l.take (j+1))=orsN ns ns.length (l.take j)|||toucN ns ns.length x:=by rw [htk,orsN_snoc]
   have ho1:=orsN_lt (ns:=ns) hle (l.take j)
   have ho2:=toucN_lt (ns:=ns) hle x
   obtain ⟨v,hv,hv6⟩:=HVAR.out x (List.mem_of_getElem? hx)
   obtain ⟨g,cx,he,-,hgl,hc⟩:=RowX.at HRX.out hx
   injection he with he1 he2 he3
   subst he1 he3
   replace hc:=(HB.out.cell (p:=⟨g,j,none⟩) hgl).trans hc
   have hlnr:=(HLN.out.keep (HB3.out.trans (HB.out.mono HB3.out.size))).ln
   have ji0:(0:Int)≤(j:Int):=by omega
   have ji1:(j:Int)<(p:Int):=by omega
   have f1:IntKind.i64.wrap ((j:Int)+1)=(j:Int)+1:=IntWalk.i64_in _ (by omega)
   obtain ⟨xv,u⟩:=x
   simp only at hv
   subst hv
   obtain ⟨z,hz⟩:∃ z,orsN ns ns.length (l.take j)=z:=⟨_,rfl⟩
   obtain ⟨tn,htn0⟩:∃ t,toucN ns ns.length ⟨(v:Int),u⟩=t:=⟨_,rfl⟩
   rw [hz] at ho1 hnx ⊢
   rw [htn0] at ho2 hnx
   have hor:=bits_or_u64_nat z tn (by omega) (by omega)
   have HNX:=Lib.hid hnx
   clear htk hx he2 hz hnx
   cases u
   ·simp only [AccD.face] at hc
    have hal:=look_ahead2
    have hml:=look_at2
    have hag:=lookAgainst_any ts ns C F hi A c ah bk L ns.length mb lv v wr hlnr hv6 hle
    have htn:toucN ns ns.length ⟨(v:Int),false⟩=tn:=htn0
    simp only [toucN,Int.toNat_natCast,Bool.false_eq_true,if_false] at htn
    rw [htn] at hag
    clear htn0 htn
    go_wp2_with fail
    refine hag.mono ?_
    rintro E w4 ⟨rfl,hb4⟩
    have HB9:=Lib.hid (HB.out.trans (hb4.mono HB.out.size))
    clear hb4 hlnr
    clear hag hc hal hml
    go_wp2_with fail
    go_roundw
    case rel=>exact ⟨j+1,by rw [HNX.out],by go_num,by omega,HB9⟩
    case measure=>simp [intOf];omega
   ·simp only [AccD.face] at hc
    have hal:=change_ahead2
    have hml:=change_at2
    have hag:=changeAgainst_any ts ns C F hi A c ah bk L ns.length mb lv v wr hlnr hv6
    have htn:toucN ns ns.length ⟨(v:Int),true⟩=tn:=htn0
    simp only [toucN,Int.toNat_natCast,if_true] at htn
    rw [htn] at hag
    clear htn0 htn
    go_wp2_with fail
    refine hag.mono ?_
    rintro E w4 ⟨rfl,hw4⟩
    rw [← hw4]
    have HB9:=HB
    clear hw4 w4 hlnr
    clear hag hc hal hml
    go_wp2_with fail
    go_roundw
    case rel=>exact ⟨j+1,by rw [HNX.out],by go_num,by omega,HB9⟩
    case measure=>simp [intOf];omega
  ·have hjn:j=p:=by omega
   have jd:decide ((j:Int)<(p:Int))=false:=decide_eq_false (by omega)
   have hfull:l.take j=l:=by rw [hjn,← HP.out,List.take_length]
   have ho1:=orsN_lt (ns:=ns) hle l
   have HB5:=Lib.hid (HB3.out.trans (HB.out.mono HB3.out.size))
   have hlv:=HLV.out wr HB5.out
   rw [hfull]
   obtain ⟨z,hz⟩:∃ z,orsN ns ns.length l=z:=⟨_,rfl⟩
   rw [hz] at ho1 ⊢
   have HZ:=Lib.hid hz
   clear hfull hz
   go_wp2_with fail
   refine hlv.mono ?_
   rintro E w4 ⟨zl,rfl,hzl61,hzl,hb4⟩
   have hpl:=placed_any ts ns C F hi A c ah bk L mb lv kn k w4 (HLN.out.keep (HB5.out.trans (hb4.mono HB5.out.size))) hkn
   have HB6:=Lib.hid (HB5.out.trans (hb4.mono HB5.out.size))
   have hkn61:=HLN.out.lt k 6
   obtain ⟨zp,hzp⟩:∃ z,kn k 6=z:=⟨_,rfl⟩
   rw [hzp] at hpl hkn61
   have ha1:=bits_and_u64 z zl (by omega) (by omega)
   have hal1:z&&&zl<2305843009213693952:=Nat.lt_of_le_of_lt Nat.and_le_left ho1
   obtain ⟨y,hy⟩:∃ y,z&&&zl=y:=⟨_,rfl⟩
   rw [hy] at ha1 hal1
   have ha2:=bits_and_u64 y zp (by omega) (by omega)
   have HZL:=Lib.hid hzl
   have HY:=Lib.hid hy
   have HZP:=Lib.hid hzp
   clear hlv hb4 hzl hy hzp
   go_wp2_with fail
   refine hpl.mono ?_
   rintro E w6 ⟨rfl,hb6⟩
   clear hpl
   go_wp2_with fail
   go_ret
   refine ⟨y&&&zp,rfl,Nat.lt_of_le_of_lt Nat.and_le_left hal1,fun i=>?_,HB6.out.trans (hb6.mono HB6.out.size)⟩
   rw [Nat.testBit_and,Bool.and_eq_true,← HY.out,Nat.testBit_and,Bool.and_eq_true,HZL.out i,← HZ.out,orsN_bit,← HZP.out]
   exact ⟨fun q=>⟨q.1.1,q.1.2,q.2⟩,fun q=>⟨⟨q.1,q.2.1⟩,q.2.2⟩⟩
end Go.Proofs.YtedkkphogeealaaGreatDoor
