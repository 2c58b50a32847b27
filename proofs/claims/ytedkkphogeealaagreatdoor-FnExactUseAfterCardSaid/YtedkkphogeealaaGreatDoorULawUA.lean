/-
  At every program and numbers,UseAfter answers as its model does,and writes into nothing. Conditions: none.
-/
import Derived.Test.YtedkkphogeealaaGreatDoorUArgs
import Derived.Test.YtedkkphogeealaaGreatDoorUUaG3
import Derived.Deep.RegionHeld3
import Derived.Test.YtedkkphogeealaaGreatDoorUTab
import Derived.Test.YtedkkphogeealaaGreatDoorRows
import Derived.Test.YtedkkphogeealaaGreatDoorCards
import Derived.Test.YtedkkphogeealaaGreatDoorTie
import Derived.LaidMore
import Derived.SevenTiedAt
namespace Go.Proofs.YtedkkphogeealaaGreatDoor.fnUseAfter
open Go.ChangeShapes Go.WideShapes Go.ChangeAt Go.RowKit Go.Deep Go.Joins
set_option linter.unusedVariables false
set_option maxRecDepth 100000
set_option maxHeartbeats 4000000
theorem held_P {C B K:Nat} {w1 wo w':World} {b0 b1 c0 c1:Value} (hb:Below wo.heap.size wo w') (h:Below K w1 wo) (hK:K=w1.heap.size) (hC:C<w1.heap.size) (hB:B<w1.heap.size)
  (q0:w1.cell? ⟨B,0,none⟩=some b0) (q1:w1.cell? ⟨B,1,none⟩=some b1) (q2:w1.cell? ⟨C,0,none⟩=some c0) (q3:w1.cell? ⟨C,1,none⟩=some c1) :
  Below K w1 w'∧w'.cell? ⟨B,0,none⟩=some b0∧w'.cell? ⟨B,1,none⟩=some b1∧w'.cell? ⟨C,0,none⟩=some c0∧w'.cell? ⟨C,1,none⟩=some c1:=by
 subst hK
 have hbb:Below w1.heap.size w1 w':=h.trans (hb.mono h.size)
 exact ⟨hbb,(hbb.cell hB).trans q0,(hbb.cell hB).trans q1,(hbb.cell hC).trans q2,(hbb.cell hC).trans q3⟩
theorem walk (ts:List Int) (s:Sts) (At As:Option Addr) (ct cs:Nat) (a:Int) (b:Int) (W:World) (hT:IntsV W 0 W.heap.size ts At ct) (hR:RepV W 0 W.heap.size s As cs) (hTab:TabAt 0 Lib.deBruijn64tab W) (hg:0<W.heap.size) :
  Calls Tryz.prog 7 #[.agg #[.slice At ts.length ct,.slice As s.len cs],.int .i64 a,.int .i64 b] W fun e w'=>e=.returned (.bool true)∧Below W.heap.size W w':=by
 have hTl:=hT.1
 have hTm:=hT.2.1
 have hb0:=(Below.refl W.heap.size W).alloc (Nat.le_refl _) (.cells #[.slice At ts.length ct,.slice As s.len cs] 25)
 have hz0:(W.alloc (.cells #[.slice At ts.length ct,.slice As s.len cs] 25)).heap.size=W.heap.size+1:=by simp
 have hT0:IntsV (W.alloc (.cells #[.slice At ts.length ct,.slice As s.len cs] 25)) 0 (W.alloc (.cells #[.slice At ts.length ct,.slice As s.len cs] 25)).heap.size ts At ct:=hT.below hb0 (by simp)
 have hR0:RepV (W.alloc (.cells #[.slice At ts.length ct,.slice As s.len cs] 25)) 0 (W.alloc (.cells #[.slice At ts.length ct,.slice As s.len cs] 25)).heap.size s As cs:=hR.below hb0 (by simp)
 have hB:=heap_alloc_new W (.cells #[.slice At ts.length ct,.slice As s.len cs] 25)
 have HB:=Lib.hid hB
 have HZ:=Lib.hid hz0
 clear hB hz0
 by_cases hsz:ts.length+s.size≤1048576
 ·have hsub:Hid (subI 1048576 (ts.length+s.size)=1048576-(ts.length+s.size:Nat)):=if_pos (by omega)
  go_enter Tryz.func7,Tryz.ntmps7
  go_wp2_with fail
  refine (szProgram_any ts.length ct At s As cs 1048576 _ hTl hTm hR0 (by omega) (by omega)).mono ?_
  rintro E w1 ⟨he,hb1⟩
  rw [hsub.out] at he
  subst he
  rw [HZ.out] at hb1
  have hs1:=hb1.size
  rw [HZ.out] at hs1
  have hB1:=(hb1.block W.heap.size (by omega)).trans HB.out
  have p0:w1.cell? ⟨W.heap.size,0,none⟩=some (.slice At ts.length ct):=(cB hB1 0).trans rfl
  have p1:w1.cell? ⟨W.heap.size,1,none⟩=some (.slice As s.len cs):=(cB hB1 1).trans rfl
  have hbb1:Below W.heap.size W w1:=hb0.trans (hb1.mono (by omega))
  have HB1:=Lib.hid hB1
  clear hB1 hb1 hT0 hR0
  go_wp2_with fail
  refine (toProgram_any ts s At As ct cs _ (by omega) (by omega) (hT.below hbb1 hbb1.size) (hR.below hbb1 hbb1.size)).mono ?_
  rintro E w2 ⟨g1,g2,rfl,hI2,hS2,hb2⟩
  have hs2:=hb2.size
  have HB2:=Lib.hid ((hb2.block W.heap.size (by omega)).trans HB1.out)
  have hbb2:Below W.heap.size W w2:=hbb1.trans (hb2.mono (by omega))
  clear hb2 p0 p1
  go_wp2_with fail
  refine (specUseAfter_num ts s _ _ _ _ a b _ (by omega)  (hI2.keep (Nat.zero_le _) (Nat.le_refl _) fun _ _ _=>rfl) (hS2.keep (Nat.zero_le _) (Nat.le_refl _) fun _ _ _=>rfl)).mono ?_
  rintro E w3 ⟨rfl,hb3⟩
  have hs3:=hb3.size
  have hB3:=(hb3.block W.heap.size (by omega)).trans HB2.out
  have p0:w3.cell? ⟨W.heap.size,0,none⟩=some (.slice At ts.length ct):=(cB hB3 0).trans rfl
  have p1:w3.cell? ⟨W.heap.size,1,none⟩=some (.slice As s.len cs):=(cB hB3 1).trans rfl
  have hbb3:Below W.heap.size W w3:=hbb2.trans (hb3.mono (by omega))
  have HB3:=Lib.hid hB3
  clear hB3 hb3 hI2 hS2
  go_wp2_with fail
  refine (toProgram_any ts s At As ct cs _ (by omega) (by omega) (hT.below hbb3 hbb3.size) (hR.below hbb3 hbb3.size)).mono ?_
  rintro E w4 ⟨k1,k2,rfl,hI4,hS4,hb4⟩
  have hs4:=hb4.size
  have HB4:=Lib.hid ((hb4.block W.heap.size (by omega)).trans HB3.out)
  have hbb4:Below W.heap.size W w4:=hbb3.trans (hb4.mono (by omega))
  clear hb4 p0 p1
  go_wp2_with fail
  have hba:=(Below.refl w4.heap.size w4).alloc (Nat.le_refl _) (.cells #[.slice (some ⟨k1,0,none⟩) ts.length ts.length,.slice (some ⟨k2,0,none⟩) s.len s.len] 30)
  have hza:(w4.alloc (.cells #[.slice (some ⟨k1,0,none⟩) ts.length ts.length,.slice (some ⟨k2,0,none⟩) s.len s.len] 30)).heap.size=w4.heap.size+1:=by simp
  have hgz:=hbb4.size
  have hXa:=heap_alloc_new w4 (.cells #[.slice (some ⟨k1,0,none⟩) ts.length ts.length,.slice (some ⟨k2,0,none⟩) s.len s.len] 30)
  refine (implUseAfter_num ts s _ _ _ _ a b _ (hI4.below hba (by simp)) (hS4.below hba (by simp)) (tab_below hTab hg (hbb4.trans (hba.mono (by omega)))) (by omega)).mono ?_
  rintro E w5 ⟨rfl,hb5⟩
  rw [hza] at hb5
  have hs5:=hb5.size
  rw [hza] at hs5
  have hX5:=(hb5.block w4.heap.size (by omega)).trans hXa
  have hB5:=(hb5.block W.heap.size (by omega)).trans ((hba.block W.heap.size (by omega)).trans HB4.out)
  have hI5:IntsV w5 0 w5.heap.size ts (some ⟨k1,0,none⟩) ts.length:=(hI4.below hba (Nat.le_refl _)).below (hb5.mono (by omega)) (by omega)
  have hS5:RepV w5 0 w5.heap.size s (some ⟨k2,0,none⟩) s.len:=(hS4.below hba (Nat.le_refl _)).below (hb5.mono (by omega)) (by omega)
  have hbb5:Below W.heap.size W w5:=hbb4.trans ((hba.mono (by omega)).trans (hb5.mono (by omega)))
  have p0:w5.cell? ⟨W.heap.size,0,none⟩=some (.slice At ts.length ct):=(cB hB5 0).trans rfl
  have p1:w5.cell? ⟨W.heap.size,1,none⟩=some (.slice As s.len cs):=(cB hB5 1).trans rfl
  have x0:w5.cell? ⟨w4.heap.size,0,none⟩=some (.slice (some ⟨k1,0,none⟩) ts.length ts.length):=(cB hX5 0).trans rfl
  have x1:w5.cell? ⟨w4.heap.size,1,none⟩=some (.slice (some ⟨k2,0,none⟩) s.len s.len):=(cB hX5 1).trans rfl
  clear hB5 hX5 hXa hza hba hb5 hI4 hS4
  generalize uaI ts s a b=z
  generalize uaO ts s a b=zb
  go_wp2_with fail
  go_region_held3 (fun w'=>Below w5.heap.size w5 w'∧w'.cell? ⟨W.heap.size,0,none⟩=some (.slice At ts.length ct)∧w'.cell? ⟨W.heap.size,1,none⟩=some (.slice As s.len cs)∧w'.cell? ⟨w4.heap.size,0,none⟩=some (.slice (some ⟨k1,0,none⟩) ts.length ts.length)∧w'.cell? ⟨w4.heap.size,1,none⟩=some (.slice (some ⟨k2,0,none⟩) s.len s.len))
   (first | exact ⟨(Below.refl w5.heap.size w5).drew,p0,p1,x0,x1⟩ | exact held_P hbn (And.left ‹Below w5.heap.size w5 _∧_›) rfl (by omega) (by omega) p0 p1 x0 x1)
   (first
    | (go_at_call 11;refine (toProgram_any ts s At As ct cs _ (by omega) (by omega) ?_ ?_).mono ?_;(have hbx:=And.left ‹Below w5.heap.size w5 _∧_›;exact hT.below (hbb5.trans (hbx.mono (by omega))) (by have:=hbx.size;omega));(have hbx:=And.left ‹Below w5.heap.size w5 _∧_›;exact hR.below (hbb5.trans (hbx.mono (by omega))) (by have:=hbx.size;omega));rintro E w' ⟨j1,j2,rfl,hI7,hS7,hbn⟩)
    | (go_at_call 13;refine (eqProgram_any ts s _ _ _ _ _ _ _ _ _ ?_ (hI7.keep (Nat.zero_le _) (Nat.le_refl _) fun _ _ _=>rfl) ?_ (hS7.keep (Nat.zero_le _) (Nat.le_refl _) fun _ _ _=>rfl)).mono ?_;(have hbx:=And.left ‹Below w5.heap.size w5 _∧_›;exact hI5.below hbx hbx.size);(have hbx:=And.left ‹Below w5.heap.size w5 _∧_›;exact hS5.below hbx hbx.size);rintro E w' ⟨rfl,hbn⟩))
  have hbl:=And.left ‹Below w5.heap.size w5 _∧_›
  go_wp2_with fail
  go_ret
  exact ⟨rfl,hbb5.trans (hbl.mono (by omega))⟩
 ·have hsub:Hid (subI 1048576 (ts.length+s.size)=-1):=if_neg (by omega)
  go_enter Tryz.func7,Tryz.ntmps7
  go_wp2_with fail
  refine (szProgram_any ts.length ct At s As cs 1048576 _ hTl hTm hR0 (by omega) (by omega)).mono ?_
  rintro E w1 ⟨he,hb1⟩
  rw [hsub.out] at he
  subst he
  rw [HZ.out] at hb1
  go_wp2_with fail
  go_ret
  exact ⟨rfl,hb0.trans (hb1.mono (by omega))⟩
theorem own:ownKnob Tryz.prog.godebug=none:=by kernel_rfl
theorem laidOut:laidOutB Tryz.prog=true:=by kernel_rfl
theorem lifted (os:Os) (started:os.Started) (H:Type) (enc:TypeId × Value→H) :
  ReturnsInHanded {} Tryz.checked os 7 .any (fun w args=>(Rows.fnExactUseAfterSpec.pre enc Tryz.prog Tryz.f7 [] false w args∧laidMetH Tryz.prog listed w)∧sizedMet enc Tryz.prog Tryz.f7 (OpenSpec.ofChange Rows.fnExactUseAfterSpec) false w args)
   (Rows.fnExactUseAfterSpec.post enc Tryz.prog Tryz.f7 false true false false):=by
 refine returnsInHanded_of_change_and (C:=Tryz.checked) (X:=fun w _=>laidMetH Tryz.prog listed w) (fun _ _ _ hh h=>h.of_heap hh) own started (by kernel_rfl) Tryz.func7
  (ChangeSpec.witness_shaped (enc:=enc) (C:=Tryz.checked) (os:=os) (X:=fun w _=>laidMetH Tryz.prog listed w) false (World.doorLaid Tryz.prog 400 os) #[.agg #[.slice none 0 0,.slice none 0 0],.int .i64 0,.int .i64 0] 8 rfl (World.shaped_of_RefB (by kernel_rfl) (by kernel_rfl)) (by kernel_rfl) (by kernel_rfl) (by kernel_rfl) (door_met os _)) ?_
 intro W base args ds gs before hval0 hW _ _ hL _
 have hval:∀ (j:Nat) t v,Tryz.f7.params[j]?=some t→args[j]?=some v→Value.okWide Tryz.prog W .any base t v:=hval0
 have hW':=hW
 obtain ⟨p,q,hA0,hV,rfl,hfz,hnd⟩:=hW
 have hA:DataW.TrodAll enc Tryz.prog W 0 (fun _=>true) true Tryz.f7.params.toList args.toList ds p:=hA0
 rw [Tryz.params7] at hA hval
 obtain ⟨v0,vs0,d0,ds0,p0,q0,hargs,rfl,rfl,h0,r0⟩:=trodAll_cons hA
 obtain ⟨v1,vs1,d1,ds1,p1,q1,rfl,rfl,rfl,h1,r1⟩:=trodAll_cons r0
 obtain ⟨v2,vs2,d2,ds2,p2,q2,rfl,rfl,rfl,h2,r2⟩:=trodAll_cons r1
 obtain ⟨rfl,rfl,rfl⟩:=trodAll_nil r2
 obtain rfl:args=#[v0,v1,v2]:=by cases args;simp_all
 obtain ⟨rfl,rfl⟩:=trodVars_none hV
 have k0:=h0
 have lt0:∀ x∈p0,x.block<W.heap.size:=by obtain ⟨m,hm⟩:=k0;exact DataW.trod_lt m _ _ _ hm
 obtain ⟨c0,e0,y0,z0,n0,rfl,hd0,hp0,hy0,hz0⟩:=open_agg2 Tryz.underlying25 (by kernel_rfl) Tryz.cellsProgR (hval 0 25 v0 rfl rfl) h0
 obtain ⟨ts0,At0,ct0,rfl,hT0⟩:=read_ints hy0
 obtain ⟨s0,As0,cs0,rfl,hR0⟩:=read_stmts _ _ _ hz0
 have k1:=h1
 have lt1:∀ x∈p1,x.block<W.heap.size:=by obtain ⟨m,hm⟩:=k1;exact DataW.trod_lt m _ _ _ hm
 obtain ⟨z1,rfl,rfl,rfl,wf1⟩:=open_int Tryz.underlying3 (hval 1 3 v1 rfl rfl) h1
 have k2:=h2
 have lt2:∀ x∈p2,x.block<W.heap.size:=by obtain ⟨m,hm⟩:=k2;exact DataW.trod_lt m _ _ _ hm
 obtain ⟨z2,rfl,rfl,rfl,wf2⟩:=open_int Tryz.underlying3 (hval 2 3 v2 rfl rfl) h2
 obtain ⟨hTab,hTabLt⟩:=tab_of_laid hL
 clear hA0 hval0
 simp only [List.append_nil] at hW'
 refine (walk ts0 s0 At0 As0 ct0 cs0 z1 z2 W hT0 hR0 hTab hTabLt).mono fun e W' ⟨he,bel⟩=>?_
 subst he
 exact ⟨_,rfl,_,_,_,[],_,[],hW',trodAll_mk1 (shut_bool Tryz.underlying4 _),(trodAll_cons_mk (Below.trod laidOut (by kernel_rfl) (of_decide_eq_true (by kernel_rfl)) k0 bel lt0) (trodAll_cons_mk (Below.trod laidOut (by kernel_rfl) (of_decide_eq_true (by kernel_rfl)) k1 bel lt1) (trodAll_cons_mk (Below.trod laidOut (by kernel_rfl) (of_decide_eq_true (by kernel_rfl)) k2 bel lt2) trodAll_mk0))),rfl,bel.frame _,fun h=>by cases h⟩
theorem over:Rows.fnExactUseAfterRow.holds Tryz.pinned (OpenSpec.ofChange Rows.fnExactUseAfterSpec) :=
 OpenClaim.holds_of_wide 7 Tryz.f7 rfl rfl rfl rfl rfl rfl rfl ⟨rfl,rfl,rfl,rfl,rfl⟩ rfl rfl rfl rfl rfl (by kernel_rfl) Tryz.func7 (by kernel_rfl)
  (of_decide_eq_true (by kernel_rfl)) (by unfold Func.isWrapper;first | (rw [if_pos (by decide +kernel)];kernel_rfl) | (rw [if_neg (by decide +kernel)];exact ⟨rfl,rfl⟩))
  (fun os started H enc _=>lifted os started H enc)
theorem proved:Rows.FnExactUseAfterCardSaid :=
 Claim7.holds_tied_plain_at .later [] [.data] true (true, "7ff1b889dd3e7060031c708905c5681d92d9db4f1bc37e17259a9f0b75fb960a") false
  over (fun _ h=>by cases h) (by kernel_rfl) (fun _ h=>by cases h) fnExactUseAfter_row_tie rfl ⟨rfl,rfl⟩ (by kernel_rfl) rfl
  (fun f fn hf hfn=>by
   obtain rfl:f=7:=Option.some.inj ((show Tryz.prog.funcNamed "loop.example/borrowcheck/laws.FnExactUseAfter" = some 7 by kernel_rfl).symm.trans hf) |>.symm
   obtain rfl:fn=Tryz.f7:=(Option.some.inj (Tryz.func7.symm.trans hfn)).symm
   exact ⟨by kernel_rfl,fun j t ht=>by
    rw [Tryz.params7] at ht
    have hm:t∈[25,3,3]:=by simpa using Array.mem_of_getElem? ht
    have hall:([25,3,3].all fun u=>!Tryz.prog.wantsStandIn u)=true:=by kernel_rfl
    exact (show Tryz.prog.wantsStandIn t=false by simpa using List.all_eq_true.1 hall t hm)⟩)
  (by kernel_rfl)
#print axioms proved
end Go.Proofs.YtedkkphogeealaaGreatDoor.fnUseAfter
