/- The program's search of paths. -/
import Derived.Test.YtopibompapopiaaGreatDoorQBits
import Derived.Test.YtopibompapopiaaGreatDoorQMem
import Derived.Test.YtopibompapopiaaGreatDoorQBase
import Derived.Test.YtopibompapopiaaGreatDoorQStmtY
import Derived.Test.YtopibompapopiaaGreatDoorQGrX
import Derived.Deep.RegionWith
namespace Go.Proofs.YtopibompapopiaaGreatDoor
open Go.RowKit Go.Deep
set_option linter.unusedVariables false
set_option maxRecDepth 100000 in
set_option maxHeartbeats 4000000 in
theorem pathsFrom_any (C a:Nat) (sets:Nat→Nat) (hs:∀ k,sets k<18446744073709551616) (hm:∀ k,∀ x∈bitsOf (sets k),x<61) (ha:a<61) (w:World) (hC:C<w.heap.size) (hS:SetsAt w C sets)
  (hT:TabAt 0 Lib.deBruijn64tab w) (hg:0<w.heap.size) :
  Calls Tryz.prog 59 #[.pointer (some ⟨C,0,none⟩),.int .i64 a] w fun E w'=>∃ y:Nat,E=.returned (.int .u64 y)∧y<18446744073709551616∧(∀ x,(x<64∧y.testBit x=true)↔Reach (fun k=>bitsOf (sets k)) a x)∧Below w.heap.size w w':=by
 have hsa:=hS a ha
 have h1:=setList_any (sets a) (hs a) w hT hg
 have hst:Hid (FoundB (fun k=>bitsOf (sets k)) a (fun x=>x<64∧(sets a).testBit x=true) (bitsOf (sets a))):=FoundB.start (fun x=>(mem_bitsOf (sets a) x).symm) (fun x=>Iff.rfl)
 have HT:=Lib.hid hT
 have HS:=Lib.hid hS
 have HM:=Lib.hid hm
 have HSL:=Lib.hid hs
 have hsl:=hs a
 clear hT hS hm hs
 go_enter Tryz.func59,Tryz.ntmps59
 go_wp2_with fail
 refine h1.mono ?_
 rintro E w1 ⟨v,rfl,hrow,hb1⟩
 have HR:=Lib.hid hrow
 clear h1 hrow hsa
 go_wp2_with fail
 go_loopw [5,6] (fun f p wr=>∃ (y:Nat) (W:List Nat),f=.int .u64 y∧y<18446744073709551616∧lenW p=W.length∧W.length≤(bitsOf y).length∧Hid (∀ x∈W,x<61)∧Hid (FoundB (fun k=>bitsOf (sets k)) a (fun x=>x<64∧y.testBit x=true) W)∧Hid (RowI wr w.heap.size p (intsW W))∧Below w.heap.size w wr) (fun f p _=>2*(64-(bitsOf (intOf f).toNat).length)+lenW p)
 case atStart =>
  obtain ⟨A,c,hv⟩:=HR.out.slice
  refine ⟨sets a,bitsOf (sets a),rfl,hsl,?_,Nat.le_refl _,HM.out a,hst,HR.out,hb1⟩
  rw [hv]
  simp [lenW,intsOf]
 case round =>
  clear hst HR hb1
  obtain ⟨y,W,rfl,hy,hlw,hWle,hW61,hF,hrow,hb⟩:=hrel
  have hbz:=hb.size
  by_cases hW:W=[]
  ·subst hW
   obtain ⟨A,c,hv⟩:=hrow.out.slice
   have hl0:(intsW []).length=0:=rfl
   rw [hl0] at hv
   subst hv
   go_wp2_with fail
   go_ret
   exact ⟨y,rfl,hy,hF.out.last,hb⟩
  ·obtain ⟨V,b,rfl⟩:=snoc_of hW
   obtain ⟨A,c,hv⟩:=hrow.out.slice
   have hrow2:RowI wr w.heap.size (.slice A ((intsW V).length+1) c) (intsW V++[(b:Int)]):=by
    have:=hrow.out
    rw [hv,intsW_snoc] at this
    simpa using this
   have hv2:u6=.slice A (V.length+1) c:=by
    rw [hv,intsW_length,List.length_append]
    rfl
   obtain ⟨hshort,g,hA,hlc,hcm,hcell⟩:=RowI.short hrow2
   subst hA
   rw [intsW_length] at hshort hlc hcell
   unfold maxLen at hcm
   rw [List.length_append,List.length_cons,List.length_nil] at hWle
   have hy64:=bitsOf_length y
   have hb61:b<61:=hW61.out b (by simp)
   have hset:=HS.out.below hC hb b hb61
   obtain ⟨z,hz,hzl,hzb⟩:=bits_andNot_u64 (sets b) y (HSL.out b) hy
   have hor:=bits_or_u64_nat y (sets b) hy (HSL.out b)
   have hlist:=setList_any z hzl wr (tab_below HT.out hg hb) (by omega)
   have hslc:∀ W,(Instr.sliceAt 23 (.slice (some ⟨g,0,none⟩) (V.length+1) c) none (some (.int .i64 (V.length:Int))) none).run Tryz.prog W=.ok (.slice (some ⟨g,0,none⟩) V.length c) W:=by
    intro W
    have he:Tryz.prog.elem 23=3:=by kernel_rfl
    have hz:(sizeOf 3).run Tryz.prog W=.ok 1 W:=by first | exact Tryz.sizeOf3 W | simp [Tryz.sizeOf3] | kernel_rfl
    rw [run_sliceAt_slice W 23 _ _ _ _ (by kernel_rfl),run_slice_h W 23 (some ⟨g,0,none⟩) (V.length+1) c (by kernel_rfl) .i64 (V.length:Int) (by omega) (by omega),he,hz]
    simp [sliced,Addr.add]
   have HSH:=Lib.hid hshort
   have HZB:=Lib.hid hzb
   have hl1:((V.length:Int)+1-1)=(V.length:Int):=by omega
   clear hshort hzb hrow hrow2 hv hW hlw
   subst hv2
   go_wp2_with fail
   refine hlist.mono ?_
   rintro E w2 ⟨v2,rfl,hrow2,hb2⟩
   have HS2:=Lib.hid (HSH.out.below' hb2)
   have HR2:=Lib.hid hrow2
   have hbB:=hb.trans (hb2.mono hbz)
   have hzB:=hbB.size
   clear hlist hrow2 hb2 hset hcell
   go_wp2_with (at_builtin;refine wpList_append_rows rfl _ _ rfl w.heap.size wr.heap.size _ _ (intsW V) (intsOf z) (by rfl) rfl HS2.out HR2.out ?ra1 ?ra2 ?_)
   try (case ra1=>have:=intsOf_length z;rw [intsW_length];omega)
   try (case ra2=>omega)
   intro v' w' hown' hgr
   have hb':=hbB.grown hgr (by omega) (fun g hg'=>((RowI.own HS2.out).lt g hg').1)
   have HR':=Lib.hid hown'
   have hset:=HS.out.below hC hb' b hb61
   clear hown' hgr
   go_wp2_with fail
   have hlen:=bitsOf_or y (sets b) z HZB.out
   have hl64:=bitsOf_length (y|||sets b)
   obtain ⟨A',c',hv'⟩:=HR'.out.slice
   have hlw':lenW v'=(V++bitsOf z).length:=by
    rw [hv']
    simp [lenW,intsW,intsOf]
   have hr:=HR'.out
   refine ⟨⟨y|||sets b,V++bitsOf z,rfl,?_,hlw',?_,?_,?_,?_,hb'⟩,?_⟩
   ·have:y|||sets b<2 ^ 64:=Nat.or_lt_two_pow (by omega) (by have:=HSL.out b;omega)
    omega
   ·rw [List.length_append,hlen]
    omega
   ·intro x hx
    rcases List.mem_append.mp hx with hx | hx
    ·exact hW61.out x (List.mem_append.mpr (.inl hx))
    ·have hx2:=(mem_bitsOf z x).mp hx
     have hx3:=HZB.out x hx2.1
     rw [hx2.2] at hx3
     have hx4:(sets b).testBit x=true:=by
      cases h:(sets b).testBit x
      ·rw [h] at hx3;simp at hx3
      ·rfl
     exact HM.out b x ((mem_bitsOf _ _).mpr ⟨hx2.1,hx4⟩)
   ·refine FoundB.more hF.out (fun x=>?_) (fun x=>?_)
    ·rw [mem_bitsOf,Nat.testBit_or,Bool.or_eq_true]
     constructor
     ·rintro ⟨h1,h2 | h2⟩
      ·exact .inl ⟨h1,h2⟩
      ·exact .inr ⟨h1,h2⟩
     ·rintro (⟨h1,h2⟩ | ⟨h1,h2⟩)
      ·exact ⟨h1,.inl h2⟩
      ·exact ⟨h1,.inr h2⟩
    ·rw [mem_bitsOf,mem_bitsOf]
     constructor
     ·rintro ⟨h1,h2⟩
      have h3:=HZB.out x h1
      rw [h2] at h3
      cases h4:(sets b).testBit x <;> cases h5:y.testBit x <;> rw [h4,h5] at h3 <;> simp at h3
      exact ⟨⟨h1,rfl⟩,fun h=>by simp at h⟩
     ·rintro ⟨⟨h1,h2⟩,h3⟩
      refine ⟨h1,?_⟩
      rw [HZB.out x h1,h2]
      cases h5:y.testBit x
      ·rfl
      ·exact absurd ⟨h1,h5⟩ h3
   ·rw [intsW_append]
    exact HR'.out
   ·rw [hlw',List.length_append]
    simp only [intOf,lenW,Int.toNat_natCast]
    rw [hlen]
    rw [hlen] at hl64
    omega
def IsPaths (R:Nat→Prop) (l:List Int):Prop:=∃ y:Nat,l=intsOf y∧∀ x,(x<64∧y.testBit x=true)↔R x
set_option maxRecDepth 100000 in
set_option maxHeartbeats 4000000 in
theorem implPathsFrom_yes (ts:List Int) (s:Sts) (At As:Option Addr) (ct cs:Nat) (a:Nat) (w:World) (hv:validB ts s=true) (ha:a<(progPts s).length) (hT:IntsV w 0 w.heap.size ts At ct) (hR:RepV w 0 w.heap.size s As cs)
  (hTab:TabAt 0 Lib.deBruijn64tab w) (hg:0<w.heap.size) :
  Calls Tryz.prog 33 #[.agg #[.slice At ts.length ct,.slice As s.len cs],.int .i64 a] w fun E w'=>∃ v l,E=.returned v∧RowI w' w.heap.size v l∧IsPaths (Reach (nextN (progPts s)) a) l∧Below w.heap.size w w':=by
 have hb0:=(Below.refl w.heap.size w).alloc (Nat.le_refl _) (.cells #[.slice At ts.length ct,.slice As s.len cs] 26)
 have hT1:IntsV (w.alloc (.cells #[.slice At ts.length ct,.slice As s.len cs] 26)) 0 (w.alloc (.cells #[.slice At ts.length ct,.slice As s.len cs] 26)).heap.size ts At ct:=hT.below hb0 (by simp)
 have hR1:RepV (w.alloc (.cells #[.slice At ts.length ct,.slice As s.len cs] 26)) 0 (w.alloc (.cells #[.slice At ts.length ct,.slice As s.len cs] 26)).heap.size s As cs:=hR.below hb0 (by simp)
 have hz0:(w.alloc (.cells #[.slice At ts.length ct,.slice As s.len cs] 26)).heap.size=w.heap.size+1:=by simp
 have hS:=graphOf_yes ts s At As ct cs _ hv hT1 hR1
 have hD:=progPts_ok s (valid_ok hv).2.1
 have hq0:(progPts s).length≤61:=by
  have:=s.npts_le
  have:=valid_size hv
  rw [progPts_len]
  omega
 generalize progPts s=ds at hS hD hq0 ha ⊢
 generalize s.npts=q at hD
 have HZ:=Lib.hid hz0
 have HD:=Lib.hid hD
 have HT:=Lib.hid hTab
 clear hz0 hD hTab hT1 hR1 hv
 go_enter Tryz.func33,Tryz.ntmps33
 go_wp2_with fail
 refine hS.mono ?_
 rintro E w1 ⟨C,rfl,hC,hG,hb1⟩
 rw [HZ.out] at hC hb1
 have hb:Below w.heap.size w w1:=hb0.trans (hb1.mono (by omega))
 have hbz:=hb.size
 have hhas:=has_yes C a ds w1 hG ha
 have HG:=Lib.hid hG
 clear hG hb1 hS
 go_wp2_with fail
 refine hhas.mono ?_
 rintro E w2 ⟨rfl,hb2⟩
 have hbB:=hb.trans (hb2.mono hbz)
 have hzB:=hbB.size
 have HG2:=Lib.hid (HG.out.kept (hb2.block C (by have:=HG.out.lt;omega)))
 have hst:=steps_any C q ds w2 HD.out HG2.out
 clear hhas hb2
 go_wp2_with fail
 refine hst.mono ?_
 rintro E w3 ⟨xs,ys,ah,bk,rfl,hx,hy,hs2,hb3⟩
 have hbC:=hbB.trans (hb3.mono hzB)
 have hzC:=hbC.size
 obtain ⟨W5,W6,s1,s2,hb6,h6a,h6b,hz6⟩:=lay_two w3 xs ys ah bk hx hy
 unfold noSets at s1
 have hxz:=hx.1
 have hyz:=hy.1
 have HX:=Lib.hid hx
 have HY:=Lib.hid hy
 have HS2:=Lib.hid hs2
 have hbD:Below w.heap.size w W6:=hbC.trans (hb6.mono hzC)
 have hSA:SetsAt W6 w3.heap.size (clip ah):=by
  intro k hk
  rw [cB h6a]
  unfold clip
  rw [if_pos hk]
  exact HX.out.2 k hk
 have hpf:=pathsFrom_any w3.heap.size a (clip ah) (clip_lt HS2.out.ahLt) (fun k x hx=>((mem_nextN HD.out hq0 k x).mp ((clip_ah HD.out hq0 HS2.out k x).mp hx)).lt HD.out hq0 |>.2) (by omega) W6 (by omega) hSA (tab_below HT.out hg hbD) (by omega)
 have HPF:=Lib.hid hpf
 clear hst hb3 hx hy hs2 hb6 h6a h6b hSA hpf
 go_wp2_with fail
 refine HPF.out.mono ?_
 rintro E w7 ⟨y,rfl,hyl,hyr,hb7⟩
 have hbE:Below w.heap.size w w7:=hbD.trans (hb7.mono (by omega))
 have hz7:=hbE.size
 have hls:=setList_any y hyl w7 (tab_below HT.out hg hbE) (by omega)
 have HYR:=Lib.hid hyr
 clear hyr hb7 s1 s2
 go_wp2_with fail
 refine hls.mono ?_
 rintro E w8 ⟨v,rfl,hrow,hb8⟩
 have hbF:Below w.heap.size w w8:=hbE.trans (hb8.mono hz7)
 have HROW:=Lib.hid (hrow.mono hz7)
 clear hls hrow hb8
 go_wp2_with fail
 go_ret
 refine ⟨v,intsOf y,rfl,HROW.out,⟨y,rfl,fun x=>(HYR.out x).trans ⟨fun h=>h.congr (fun k b=>(clip_ah HD.out hq0 HS2.out k b).mp),fun h=>h.congr (fun k b=>(clip_ah HD.out hq0 HS2.out k b).mpr)⟩⟩,hbF⟩
set_option maxRecDepth 100000 in
set_option maxHeartbeats 4000000 in
theorem implPathsTo_yes (ts:List Int) (s:Sts) (At As:Option Addr) (ct cs:Nat) (a:Nat) (w:World) (hv:validB ts s=true) (ha:a<(progPts s).length) (hT:IntsV w 0 w.heap.size ts At ct) (hR:RepV w 0 w.heap.size s As cs)
  (hTab:TabAt 0 Lib.deBruijn64tab w) (hg:0<w.heap.size) :
  Calls Tryz.prog 23 #[.agg #[.slice At ts.length ct,.slice As s.len cs],.int .i64 a] w fun E w'=>∃ v l,E=.returned v∧RowI w' w.heap.size v l∧IsPaths (fun x=>Reach (nextN (progPts s)) x a) l∧Below w.heap.size w w':=by
 have hb0:=(Below.refl w.heap.size w).alloc (Nat.le_refl _) (.cells #[.slice At ts.length ct,.slice As s.len cs] 26)
 have hT1:IntsV (w.alloc (.cells #[.slice At ts.length ct,.slice As s.len cs] 26)) 0 (w.alloc (.cells #[.slice At ts.length ct,.slice As s.len cs] 26)).heap.size ts At ct:=hT.below hb0 (by simp)
 have hR1:RepV (w.alloc (.cells #[.slice At ts.length ct,.slice As s.len cs] 26)) 0 (w.alloc (.cells #[.slice At ts.length ct,.slice As s.len cs] 26)).heap.size s As cs:=hR.below hb0 (by simp)
 have hz0:(w.alloc (.cells #[.slice At ts.length ct,.slice As s.len cs] 26)).heap.size=w.heap.size+1:=by simp
 have hS:=graphOf_yes ts s At As ct cs _ hv hT1 hR1
 have hD:=progPts_ok s (valid_ok hv).2.1
 have hq0:(progPts s).length≤61:=by
  have:=s.npts_le
  have:=valid_size hv
  rw [progPts_len]
  omega
 generalize progPts s=ds at hS hD hq0 ha ⊢
 generalize s.npts=q at hD
 have HZ:=Lib.hid hz0
 have HD:=Lib.hid hD
 have HT:=Lib.hid hTab
 clear hz0 hD hTab hT1 hR1 hv
 go_enter Tryz.func23,Tryz.ntmps23
 go_wp2_with fail
 refine hS.mono ?_
 rintro E w1 ⟨C,rfl,hC,hG,hb1⟩
 rw [HZ.out] at hC hb1
 have hb:Below w.heap.size w w1:=hb0.trans (hb1.mono (by omega))
 have hbz:=hb.size
 have hhas:=has_yes C a ds w1 hG ha
 have HG:=Lib.hid hG
 clear hG hb1 hS
 go_wp2_with fail
 refine hhas.mono ?_
 rintro E w2 ⟨rfl,hb2⟩
 have hbB:=hb.trans (hb2.mono hbz)
 have hzB:=hbB.size
 have HG2:=Lib.hid (HG.out.kept (hb2.block C (by have:=HG.out.lt;omega)))
 have hst:=steps_any C q ds w2 HD.out HG2.out
 clear hhas hb2
 go_wp2_with fail
 refine hst.mono ?_
 rintro E w3 ⟨xs,ys,ah,bk,rfl,hx,hy,hs2,hb3⟩
 have hbC:=hbB.trans (hb3.mono hzB)
 have hzC:=hbC.size
 obtain ⟨W5,W6,s1,s2,hb6,h6a,h6b,hz6⟩:=lay_two w3 xs ys ah bk hx hy
 unfold noSets at s1
 have hxz:=hx.1
 have hyz:=hy.1
 have HX:=Lib.hid hx
 have HY:=Lib.hid hy
 have HS2:=Lib.hid hs2
 have hbD:Below w.heap.size w W6:=hbC.trans (hb6.mono hzC)
 have hSA:SetsAt W6 (w3.heap.size+1) (clip bk):=by
  intro k hk
  rw [cB h6b]
  unfold clip
  rw [if_pos hk]
  exact HY.out.2 k hk
 have hpf:=pathsFrom_any (w3.heap.size+1) a (clip bk) (clip_lt HS2.out.bkLt) (fun k x hx=>((mem_nextN HD.out hq0 x k).mp ((clip_bk HD.out hq0 HS2.out x k).mp hx)).lt HD.out hq0 |>.1) (by omega) W6 (by omega) hSA (tab_below HT.out hg hbD) (by omega)
 have HPF:=Lib.hid hpf
 clear hst hb3 hx hy hs2 hb6 h6a h6b hSA hpf
 go_wp2_with fail
 refine HPF.out.mono ?_
 rintro E w7 ⟨y,rfl,hyl,hyr,hb7⟩
 have hbE:Below w.heap.size w w7:=hbD.trans (hb7.mono (by omega))
 have hz7:=hbE.size
 have hls:=setList_any y hyl w7 (tab_below HT.out hg hbE) (by omega)
 have HYR:=Lib.hid hyr
 clear hyr hb7 s1 s2
 go_wp2_with fail
 refine hls.mono ?_
 rintro E w8 ⟨v,rfl,hrow,hb8⟩
 have hbF:Below w.heap.size w w8:=hbE.trans (hb8.mono hz7)
 have HROW:=Lib.hid (hrow.mono hz7)
 clear hls hrow hb8
 go_wp2_with fail
 go_ret
 refine ⟨v,intsOf y,rfl,HROW.out,⟨y,rfl,fun x=>(HYR.out x).trans ⟨fun h=>h.back (fun k b=>(clip_bk HD.out hq0 HS2.out b k).mp),fun h=>h.back (fun k b=>(clip_bk HD.out hq0 HS2.out k b).mpr)⟩⟩,hbF⟩
set_option maxRecDepth 100000 in
set_option maxHeartbeats 4000000 in
theorem implPathsFrom_no (ts:List Int) (s:Sts) (At As:Option Addr) (ct cs:Nat) (a:Int) (w:World) (hv:validB ts s=false∨a<0∨((progPts s).length:Int)≤a) (hT:IntsV w 0 w.heap.size ts At ct) (hR:RepV w 0 w.heap.size s As cs) :
  Calls Tryz.prog 33 #[.agg #[.slice At ts.length ct,.slice As s.len cs],.int .i64 a] w fun E w'=>∃ v,E=.returned v∧RowI w' w.heap.size v []∧Below w.heap.size w w':=by
 have hb0:=(Below.refl w.heap.size w).alloc (Nat.le_refl _) (.cells #[.slice At ts.length ct,.slice As s.len cs] 26)
 have hT1:IntsV (w.alloc (.cells #[.slice At ts.length ct,.slice As s.len cs] 26)) 0 (w.alloc (.cells #[.slice At ts.length ct,.slice As s.len cs] 26)).heap.size ts At ct:=hT.below hb0 (by simp)
 have hR1:RepV (w.alloc (.cells #[.slice At ts.length ct,.slice As s.len cs] 26)) 0 (w.alloc (.cells #[.slice At ts.length ct,.slice As s.len cs] 26)).heap.size s As cs:=hR.below hb0 (by simp)
 have hz0:(w.alloc (.cells #[.slice At ts.length ct,.slice As s.len cs] 26)).heap.size=w.heap.size+1:=by simp
 have hnil:∀ W:World,RowI W w.heap.size (.slice none 0 0) []:=fun W=>World.ownsRow_nil W w.heap.size 3 1
 cases h1:validB ts s
 ·have hS:=graphOf_no ts s At As ct cs _ h1 hT1 hR1
  have HZ:=Lib.hid hz0
  clear hz0 hT1 hR1 h1 hv
  go_enter Tryz.func33,Tryz.ntmps33
  go_wp2_with fail
  refine hS.mono ?_
  rintro E w1 ⟨rfl,hb1⟩
  rw [HZ.out] at hb1
  have hb:Below w.heap.size w w1:=hb0.trans (hb1.mono (by omega))
  clear hb1 hS
  go_wp2_with fail
  go_ret
  exact ⟨_,rfl,hnil _,by first | exact hb | exact hb.drew⟩
 ·have hr:a<0∨((progPts s).length:Int)≤a:=by
   rcases hv with h | h
   ·rw [h1] at h;cases h
   ·exact h
  have hS:=graphOf_yes ts s At As ct cs _ h1 hT1 hR1
  generalize progPts s=ds at hS hr hv
  have HZ:=Lib.hid hz0
  clear hz0 hT1 hR1 h1 hv
  go_enter Tryz.func33,Tryz.ntmps33
  go_wp2_with fail
  refine hS.mono ?_
  rintro E w1 ⟨C,rfl,hC,hG,hb1⟩
  rw [HZ.out] at hC hb1
  have hb:Below w.heap.size w w1:=hb0.trans (hb1.mono (by omega))
  have hbz:=hb.size
  have hhas:=has_no C a ds w1 hG hr
  clear hG hb1 hS hr
  go_wp2_with fail
  refine hhas.mono ?_
  rintro E w2 ⟨rfl,hb2⟩
  have hbB:=hb.trans (hb2.mono hbz)
  clear hhas hb2
  go_wp2_with fail
  go_ret
  exact ⟨_,rfl,hnil _,by first | exact hbB | exact hbB.drew⟩
set_option maxRecDepth 100000 in
set_option maxHeartbeats 4000000 in
theorem implPathsTo_no (ts:List Int) (s:Sts) (At As:Option Addr) (ct cs:Nat) (a:Int) (w:World) (hv:validB ts s=false∨a<0∨((progPts s).length:Int)≤a) (hT:IntsV w 0 w.heap.size ts At ct) (hR:RepV w 0 w.heap.size s As cs) :
  Calls Tryz.prog 23 #[.agg #[.slice At ts.length ct,.slice As s.len cs],.int .i64 a] w fun E w'=>∃ v,E=.returned v∧RowI w' w.heap.size v []∧Below w.heap.size w w':=by
 have hb0:=(Below.refl w.heap.size w).alloc (Nat.le_refl _) (.cells #[.slice At ts.length ct,.slice As s.len cs] 26)
 have hT1:IntsV (w.alloc (.cells #[.slice At ts.length ct,.slice As s.len cs] 26)) 0 (w.alloc (.cells #[.slice At ts.length ct,.slice As s.len cs] 26)).heap.size ts At ct:=hT.below hb0 (by simp)
 have hR1:RepV (w.alloc (.cells #[.slice At ts.length ct,.slice As s.len cs] 26)) 0 (w.alloc (.cells #[.slice At ts.length ct,.slice As s.len cs] 26)).heap.size s As cs:=hR.below hb0 (by simp)
 have hz0:(w.alloc (.cells #[.slice At ts.length ct,.slice As s.len cs] 26)).heap.size=w.heap.size+1:=by simp
 have hnil:∀ W:World,RowI W w.heap.size (.slice none 0 0) []:=fun W=>World.ownsRow_nil W w.heap.size 3 1
 cases h1:validB ts s
 ·have hS:=graphOf_no ts s At As ct cs _ h1 hT1 hR1
  have HZ:=Lib.hid hz0
  clear hz0 hT1 hR1 h1 hv
  go_enter Tryz.func23,Tryz.ntmps23
  go_wp2_with fail
  refine hS.mono ?_
  rintro E w1 ⟨rfl,hb1⟩
  rw [HZ.out] at hb1
  have hb:Below w.heap.size w w1:=hb0.trans (hb1.mono (by omega))
  clear hb1 hS
  go_wp2_with fail
  go_ret
  exact ⟨_,rfl,hnil _,by first | exact hb | exact hb.drew⟩
 ·have hr:a<0∨((progPts s).length:Int)≤a:=by
   rcases hv with h | h
   ·rw [h1] at h;cases h
   ·exact h
  have hS:=graphOf_yes ts s At As ct cs _ h1 hT1 hR1
  generalize progPts s=ds at hS hr hv
  have HZ:=Lib.hid hz0
  clear hz0 hT1 hR1 h1 hv
  go_enter Tryz.func23,Tryz.ntmps23
  go_wp2_with fail
  refine hS.mono ?_
  rintro E w1 ⟨C,rfl,hC,hG,hb1⟩
  rw [HZ.out] at hC hb1
  have hb:Below w.heap.size w w1:=hb0.trans (hb1.mono (by omega))
  have hbz:=hb.size
  have hhas:=has_no C a ds w1 hG hr
  clear hG hb1 hS hr
  go_wp2_with fail
  refine hhas.mono ?_
  rintro E w2 ⟨rfl,hb2⟩
  have hbB:=hb.trans (hb2.mono hbz)
  clear hhas hb2
  go_wp2_with fail
  go_ret
  exact ⟨_,rfl,hnil _,by first | exact hbB | exact hbB.drew⟩
end Go.Proofs.YtopibompapopiaaGreatDoor
