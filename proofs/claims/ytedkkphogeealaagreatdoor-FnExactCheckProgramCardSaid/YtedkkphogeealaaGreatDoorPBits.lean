/- The members of a set,by the program. -/
import Derived.Test.YtedkkphogeealaaGreatDoorPMem
import Derived.Test.YtedkkphogeealaaGreatDoorPBase
import Derived.Shelf.Spec.TrailingZeros
import Derived.Deep.RegionWith
namespace Go.Proofs.YtedkkphogeealaaGreatDoor
open Go.RowKit Go.Deep
set_option linter.unusedVariables false
set_option maxRecDepth 100000
set_option maxHeartbeats 4000000
theorem g_tab:Tryz.prog.globals.findIdx? (·.name == "math/bits.deBruijn64tab")=some 0:=by kernel_rfl
theorem tz_core (x k idx:Nat) (w:World) (hx0:((x:Int)==0)=false)
  (key:IntKind.u64.wrap (bits BinOp.and IntKind.u64 (x:Int) (IntKind.u64.wrap (-(x:Int)))*285870213051353865) / 288230376151711744=(idx:Int))
  (hi:idx<64) (hk:k<64) (hcell:w.cell? ⟨0,idx,none⟩=some (.int .u8 k)) :
  Calls Tryz.prog 133 #[.int .u64 x] w fun E w'=>E=.returned (.int .i64 k)∧w'=w:=by
 have g1:=g_tab
 go_enter Tryz.func133,Tryz.ntmps133
 go_wp2_with (simp only [key])
 go_ret
 exact ⟨rfl,rfl⟩
theorem tz_any (x:Nat) (hx:x<18446744073709551616) (h0:x≠0) (w:World) (hT:TabAt 0 Lib.deBruijn64tab w) :
  Calls Tryz.prog 133 #[.int .u64 x] w fun E w'=>E=.returned (.int .i64 (Lib.ctz 64 x))∧w'=w:=by
 obtain ⟨hlow,hk⟩:=Lib.lowest_bit 64 x h0 hx
 obtain ⟨hi,htab⟩:=Lib.deBruijn64_at _ hk
 have hcell:=hT _ hi
 rw [htab] at hcell
 exact tz_core x _ _ w (by simp;omega) (tz64_key x _ hx h0 hlow) hi hk hcell
theorem tab_below {g B:Nat} {w w':World} {t:List Nat} (h:TabAt g t w) (hg:g<B) (hb:Below B w w'):TabAt g t w':=by
 intro j hj
 have:=h j hj
 rw [← this]
 unfold World.cell?
 rw [hb.block g hg]
def intsOf (x:Nat):List Int:=(bitsOf x).map fun (k:Nat)=>(k:Int)
theorem intsOf_zero:intsOf 0=[]:=by unfold intsOf;rw [bitsOf_zero];rfl
theorem intsOf_step (x:Nat) (h0:x≠0) (h:x<18446744073709551616):intsOf x=(Lib.ctz 64 x:Int) :: intsOf (x&&&(x-1)):=by
 unfold intsOf
 rw [bitsOf_step x h0 h]
 rfl
theorem intsOf_length (x:Nat):(intsOf x).length≤64:=by
 unfold intsOf
 rw [List.length_map]
 exact bitsOf_length x
theorem and_pred_key (x:Nat) (h0:x≠0) (h:x<18446744073709551616):bits BinOp.and IntKind.u64 (x:Int) ((x:Int)-1)=((x&&&(x-1):Nat):Int):=by
 have e:(x:Int)-1=((x-1:Nat):Int):=by omega
 rw [e,bits_and_u64_nat x _ h (by omega)]
theorem lowest_any (x:Nat) (hx:x<18446744073709551616) (h0:x≠0) (w:World) (hT:TabAt 0 Lib.deBruijn64tab w) :
  Calls Tryz.prog 115 #[.int .u64 x] w fun E w'=>E=.returned (.int .i64 (Lib.ctz 64 x))∧w'=w:=by
 have htz:=tz_any x hx h0 w hT
 go_enter Tryz.func115,Tryz.ntmps115
 go_wp2_with fail
 refine htz.mono ?_
 rintro E w2 ⟨rfl,hw2⟩
 subst hw2
 go_wp2_with fail
 go_ret
 exact ⟨rfl,rfl⟩
theorem without_any (x:Nat) (hx:x<18446744073709551616) (h0:x≠0) (w:World) :
  Calls Tryz.prog 116 #[.int .u64 x] w fun E w'=>E=.returned (.int .u64 ((x&&&(x-1):Nat):Int))∧w'=w:=by
 have hk:=and_pred_key x h0 hx
 go_enter Tryz.func116,Tryz.ntmps116
 go_wp2_with fail
 try rw [hk]
 go_ret
 exact ⟨rfl,rfl⟩
theorem setList_any (x:Nat) (hx:x<18446744073709551616) (w:World) (hT:TabAt 0 Lib.deBruijn64tab w) (hg:0<w.heap.size) :
  Calls Tryz.prog 96 #[.int .u64 x] w fun E w'=>∃ v,E=.returned v∧RowI w' w.heap.size v (intsOf x)∧Below w.heap.size w w':=by
 obtain ⟨i0,hi,hz0,hz1,hz2⟩:=info_parts Tryz.infoInt
 have HI:=Lib.hid hi
 have HZ0:=Lib.hid hz0
 have HZ1:=Lib.hid hz1
 have HZ2:=Lib.hid hz2
 clear hi hz0 hz1 hz2
 obtain ⟨all,hall⟩:∃ all,all=intsOf x:=⟨_,rfl⟩
 have hst:Hid ([]++intsOf x=all):=by unfold Hid;rw [hall];rfl
 have hlen:Hid (all.length≤64):=by unfold Hid;rw [hall];exact intsOf_length x
 have hrow0:Hid (RowI w w.heap.size (.slice none 0 0) []):=World.ownsRow_nil w w.heap.size 3 1
 rw [← hall]
 clear hall
 have HT:=Lib.hid hT
 clear hT
 go_enter Tryz.func96,Tryz.ntmps96
 go_wp2_with fail
 go_loopw [0,3] (fun s p wr=>∃ (y:Nat) (cur:List Int),s=.int .u64 y∧y<18446744073709551616∧Hid (cur++intsOf y=all)∧Hid (RowI wr w.heap.size p cur)∧Below w.heap.size w wr) (fun s _ _=>(intOf s).toNat)
 case atStart=>exact ⟨x,[],rfl,hx,hst,hrow0,Below.refl _ _⟩
 case round =>
  clear hst hrow0
  obtain ⟨y,cur,rfl,hy,hcur,hrow,hb⟩:=hrel
  have hbz:=hb.size
  by_cases hy0:y=0
  ·subst hy0
   have hall:Hid (cur=all):=by
    have:=hcur.out
    rw [intsOf_zero,List.append_nil] at this
    exact this
   clear hcur
   go_wp2_with fail
   go_ret
   exact ⟨_,rfl,by rw [← hall.out];exact hrow.out,hb⟩
  ·have hTr:=Lib.hid (tab_below HT.out hg hb)
   have htz:=lowest_any y hy hy0 wr hTr.out
   have hyn:((y:Int) != 0)=true:=by simp;omega
   have hstep:=Lib.hid (intsOf_step y hy0 hy)
   have hlen2:cur.length<64:=by
    have h1:=hlen.out
    have h2:=hcur.out
    rw [hstep.out] at h2
    rw [← h2] at h1
    simp at h1
    omega
   go_wp2_with fail
   refine htz.mono ?_
   rintro E w2 ⟨rfl,hw2⟩
   subst hw2
   clear htz
   go_wp2_with (at_builtin;refine wpList_append_own _ rfl _ _ 22 rfl w.heap.size 3 i0 (.int .i64 0) 1 8 Tryz.underlying22 HI.out HZ0.out HZ1.out HZ2.out rfl (by decide) _ _ _ rfl ((RowI.own hrow.out).alloc _) ⟨_,0,none⟩ 1 1 [.int .i64 (Lib.ctz 64 y:Int)] rfl rfl ?ra1 ?ra2 ?ra3 ?ra4 ?ra5 ?_)
   try (case ra1=>exact news1 (by simp) rfl)
   try (case ra2=>intro u hu;simp only [List.mem_cons,List.not_mem_nil,or_false] at hu;subst hu;rfl)
   try (case ra3=>unfold maxLen;omega)
   try (case ra4=>omega)
   try (case ra5=>simp;omega)
   intro v' w' hown' hgr hne
   have hb':=(hb.alloc hbz (.cells #[Value.int .i64 (Lib.ctz 64 y:Int)] 3)).grown hgr (by simp;omega) (fun g hg'=>((RowI.own hrow.out).lt g hg').1)
   have HR':Hid (RowI w' w.heap.size v' (cur++[(Lib.ctz 64 y:Int)])):=RowI.snoc hown'
   clear hown' hgr hne
   have hwo:=without_any y hy hy0 w'
   have hlt:=and_pred_lt y hy0
   have hcur2:Hid ((cur++[(Lib.ctz 64 y:Int)])++intsOf (y&&&(y-1))=all):=by
    have h2:=hcur.out
    rw [hstep.out] at h2
    rw [← h2,List.append_assoc]
    rfl
   clear hcur hstep
   go_wp2_with fail
   refine hwo.mono ?_
   rintro E w3 ⟨rfl,hw3⟩
   subst hw3
   clear hwo
   go_wp2_with fail
   refine ⟨⟨y&&&(y-1),cur++[(Lib.ctz 64 y:Int)],rfl,by omega,hcur2,HR',hb'⟩,?_⟩
   simp only [intOf]
   omega
end Go.Proofs.YtedkkphogeealaaGreatDoor
