/- The model's checks of lists of statements and of types,and its count. -/
import Derived.Test.YtedkkphogeealaaGreatDoorPSpecB
namespace Go.Proofs.YtedkkphogeealaaGreatDoor
open Go.RowKit Go.Deep
set_option maxHeartbeats 1000000
theorem l1Stmt_any (ts:List Int) (A:Option Addr) (c:Nat) (d op x y n:Int) (t e:Sts) (At Ae:Option Addr) (ct ce:Nat) (w:World) (hT:IntsV w 0 w.heap.size ts A c) (hd:0≤d) (hd4:d≤4) (HT:1≤d→BodyAt ts A c (d-1) t At ct w) (HE:1≤d→BodyAt ts A c (d-1) e Ae ce w) :
  Calls Tryz.prog 100 #[.slice A ts.length c,.agg #[.int .i64 op,.int .i64 x,.int .i64 y,.int .i64 n,.slice At t.len ct,.slice Ae e.len ce],.int .i64 d] w fun E w'=>E=.returned (.bool (stmtB ts d op x y n t e))∧Below w.heap.size w w':=by
 by_cases h9:op=9
 ·subst h9
  exact l1Stmt_9 ts A c d x y n t e At Ae ct ce w hd hd4 HT HE
 ·by_cases h10:op=10
  ·subst h10
   exact l1Stmt_10 ts A c d x y n t e At Ae ct ce w hd hd4 HT HE
  ·have e0:stmtB ts d op x y n t e=(decide (t.len=0∧e.len=0) && simpleB op (tyAt ts x) (tyAt ts y) x y n):=by simp [stmtB,h9,h10]
   rw [e0]
   exact l1Stmt_simple ts A c d op x y n t.len e.len At Ae ct ce w hT h9 h10
theorem bodyB_nil (ts:List Int) (d:Int):bodyB ts d .nil=true:=by unfold bodyB;rfl
theorem l1Body_any (N:Nat) (ts:List Int) (A:Option Addr) (c:Nat):∀ (s:Sts) (As:Option Addr) (cs:Nat) (d:Int) (w:World),s.size<N→0≤d→d≤4→IntsV w 0 w.heap.size ts A c→RepV w 0 w.heap.size s As cs →
  Calls Tryz.prog 65 #[.slice A ts.length c,.slice As s.len cs,.int .i64 d] w fun e w'=>e=.returned (.bool (bodyB ts d s))∧Below w.heap.size w w':=by
 induction N with
 | zero=>intro s As cs d w h;omega
 | succ N ih =>
  intro s As cs d w hN hd hd4 hT hR
  have hm:=hR.2.1
  have hlc:=hR.1
  unfold maxLen at hm
  go_enter Tryz.func65,Tryz.ntmps65
  go_wp2_with fail
  go_loopw [7] (fun i wr=>∃ k:Nat,k≤s.len∧i=.int .i64 k∧Below w.heap.size w wr∧Hid (bodyB ts d (s.drop k)=bodyB ts d s)) (fun i _=>s.len-(intOf i).toNat)
  case atStart=>exact ⟨0,Nat.zero_le _,rfl,Below.refl _ _,rfl⟩
  case round =>
   obtain ⟨k,hk,rfl,hb,hbd⟩:=hrel
   by_cases hlt:k<s.len
   ·obtain ⟨b,op,x,y,n,t,e,rfl,-,hbb,hdr,At,ct,Ae,ce,⟨h0,h1,h2,h3,h4,h5⟩,hRt,hRe⟩:=(hR.below hb hb.size).elem hlt
    have hz:=RepV.drop_sizes hdr
    have hT1:=hT.below hb hb.size
    have hbc:Hid (bodyB ts d s=(stmtB ts d op x y n t e && bodyB ts d (s.drop (k+1)))):=by
     unfold Hid
     rw [← hbd.out,hdr,bodyB_cons]
    clear hdr hbd
    go_wp2_with fail
    refine (l1Stmt_any ts A c d op x y n t e At Ae ct ce _ hT1 hd hd4 (fun h1 w' hb'=>ih t At ct (d-1) w' (by omega) (by omega) (by omega) (hT1.below hb' hb'.size) (hRt.below hb' hb'.size)) (fun h1 w' hb'=>ih e Ae ce (d-1) w' (by omega) (by omega) (by omega) (hT1.below hb' hb'.size) (hRe.below hb' hb'.size))).mono ?_
    rintro E w1 ⟨he,hb1⟩
    have hbz:=hb.size
    by_cases hs:stmtB ts d op x y n t e=true
    ·rw [hs] at he
     subst he
     have hbe:Hid (bodyB ts d (s.drop (k+1))=bodyB ts d s):=by
      unfold Hid
      rw [hbc.out,hs,Bool.true_and]
     clear hs hbc
     go_wp2_with fail
     go_roundw
     case rel=>exact ⟨k+1,by omega,by go_num,hb.trans (hb1.mono hbz),hbe⟩
     case measure=>simp [intOf];omega
    ·have hs':stmtB ts d op x y n t e=false:=by simpa using hs
     rw [hs'] at he
     subst he
     have hbe:Hid (bodyB ts d s=false):=by
      unfold Hid
      rw [hbc.out,hs',Bool.false_and]
     clear hs hs' hbc
     go_wp2_with fail
     go_ret
     exact ⟨by rw [hbe.out];rfl,hb.trans (hb1.mono hbz)⟩
   ·have hk':k=s.len:=by omega
    subst hk'
    have hbe:Hid (bodyB ts d s=true):=by
     unfold Hid
     rw [← hbd.out,s.drop_len,bodyB_nil]
    clear hbd
    go_wp2_with fail
    go_ret
    exact ⟨by rw [hbe.out];rfl,hb⟩
theorem l1Types_any (ts:List Int) (A:Option Addr) (c:Nat) (w:World) (hT:IntsV w 0 w.heap.size ts A c) :
  Calls Tryz.prog 64 #[.slice A ts.length c] w fun e w'=>e=.returned (.bool (typesB ts))∧w=w':=by
 have hm:=hT.2.1
 have hlc:=hT.1
 unfold maxLen at hm
 go_enter Tryz.func64,Tryz.ntmps64
 go_wp2_with fail
 go_loop [3] (fun i=>∃ k:Nat,k≤ts.length∧i=.int .i64 k∧Hid (∀ j v,j<k→ts[j]?=some v→1≤v∧v≤4)) (fun i=>ts.length-(intOf i).toNat)
 case atStart=>exact ⟨0,Nat.zero_le _,rfl,fun j v hj=>absurd hj (by omega)⟩
 case round =>
  obtain ⟨k,hk,rfl,hall⟩:=hrel
  by_cases hlt:k<ts.length
  ·obtain ⟨b,v,rfl,-,hbb,hx,hc⟩:=hT.elem hlt
   have HX:=Lib.hid hx
   clear hx
   by_cases hv:1≤v∧v≤4
   ·obtain ⟨hv1,hv4⟩:=hv
    go_wp2_with fail
    go_round
    case rel =>
     refine ⟨k+1,by omega,by go_num,fun j u hj hu=>?_⟩
     by_cases e:j=k
     ·subst e
      rw [HX.out] at hu
      injection hu with hu
      omega
     ·exact hall j u (by omega) hu
    case measure=>simp [intOf];omega
   ·have hf:Hid (typesB ts=false):=by
     unfold Hid typesB
     have:ts.all (fun t=>decide (1≤t∧t≤4))=false:=by
      rw [List.all_eq_false]
      exact ⟨v,List.mem_of_getElem? HX.out,by simpa using hv⟩
     rw [this,Bool.false_and]
    by_cases hv1:v<1
    ·go_wp2_with fail
     go_ret
     exact ⟨by rw [hf.out];rfl,rfl⟩
    ·have hv4:4<v:=by omega
     go_wp2_with fail
     go_ret
     exact ⟨by rw [hf.out];rfl,rfl⟩
  ·have hk':k=ts.length:=by omega
   subst hk'
   have hf:Hid (typesB ts=decide (ts.length≤6)):=by
    unfold Hid typesB
    have:ts.all (fun t=>decide (1≤t∧t≤4))=true:=by
     rw [List.all_eq_true]
     intro u hu
     obtain ⟨j,hj⟩:=List.getElem?_of_mem hu
     have:=hall j u (List.getElem?_eq_some_iff.1 hj).1 hj
     simpa using this
    rw [this,Bool.true_and]
   go_wp2_with fail
   go_ret
   exact ⟨ret_bool (by rw [hf.out,decide_eq_decide];omega),rfl⟩
def CountPost (s:Sts) (M:Int) (w:World) (E:Ending) (w':World):Prop :=
 ∃ r:Int,E=.returned (.int .i64 r)∧0≤r∧r≤s.size∧((s.size:Int)≤M→r=s.size)∧(M<s.size→M<r)∧w=w'
def CountInv (s:Sts) (M:Int) (k:Nat) (m:Int):Prop :=
 0≤m∧m≤s.size∧(m≤M→m+(s.drop k).size=s.size)
theorem l1Count_any (N:Nat):∀ (s:Sts) (A:Option Addr) (c:Nat) (M:Int) (w:World),s.size<N→s.size≤2000000→0≤M→M≤30→RepV w 0 w.heap.size s A c →
  Calls Tryz.prog 66 #[.slice A s.len c,.int .i64 M] w (CountPost s M w):=by
 induction N with
 | zero=>intro s A c M w h;omega
 | succ N ih =>
  intro s A c M w hN hsz hM hM30 hR
  have hm:=hR.2.1
  have hlc:=hR.1
  unfold maxLen at hm
  go_enter Tryz.func66,Tryz.ntmps66
  go_wp2_with fail
  go_loop [5,6] (fun n i=>∃ k:Nat,∃ m:Int,k≤s.len∧i=.int .i64 k∧n=.int .i64 m∧CountInv s M k m) (fun _ i=>s.len-(intOf i).toNat)
  case atStart=>exact ⟨0,0,Nat.zero_le _,rfl,rfl,by omega,by omega,fun _=>by simp [Sts.drop]⟩
  case round =>
   obtain ⟨k,m,hk,rfl,rfl,hinv⟩:=hrel
   have hm0:=hinv.1
   have hms:=hinv.2.1
   by_cases hlt:k<s.len
   ·by_cases hmM:m≤M
    ·obtain ⟨b,op,x,y,n,t,e,rfl,-,hbb,hdr,At,ct,Ae,ce,⟨h0,h1,h2,h3,h4,h5⟩,hRt,hRe⟩:=hR.elem hlt
     have hz:=RepV.drop_sizes hdr
     have hsum:=hinv.2.2 hmM
     rw [hdr] at hsum
     simp only [Sts.size] at hsum
     have hsum1:m+1+t.size+e.size+(s.drop (k+1)).size≤s.size:=by omega
     have hsum2:(s.size:Int)≤m+1+t.size+e.size+(s.drop (k+1)).size:=by omega
     clear hinv hdr hsum
     go_wp2_with fail
     refine (ih t At ct (M-m) w (by omega) (by omega) (by omega) (by omega) hRt).mono ?_
     rintro E w1 ⟨r1,rfl,hr0,hr1,hr2,hr3,rfl⟩
     have hA1:M-m<t.size∨r1=t.size:=by
      rcases Int.lt_or_le (M-m) t.size with h | h
      ·exact Or.inl h
      ·exact Or.inr (hr2 h)
     have hA2:(t.size:Int)≤M-m∨M-m<r1:=by
      rcases Int.lt_or_le (M-m) t.size with h | h
      ·exact Or.inr (hr3 h)
      ·exact Or.inl h
     have HA1:=Lib.hid hA1
     have HA2:=Lib.hid hA2
     clear hA1 hA2 hr2 hr3
     by_cases hm1:m+1+r1≤M
     ·go_wp2_with fail
      refine (ih e Ae ce (M-(m+1+r1)) w (by omega) (by omega) (by omega) (by omega) hRe).mono ?_
      rintro E w1 ⟨r2,rfl,hq0,hq1,hq2,hq3,rfl⟩
      have hB1:M-(m+1+r1)<e.size∨r2=e.size:=by
       rcases Int.lt_or_le (M-(m+1+r1)) e.size with h | h
       ·exact Or.inl h
       ·exact Or.inr (hq2 h)
      have hB2:(e.size:Int)≤M-(m+1+r1)∨M-(m+1+r1)<r2:=by
       rcases Int.lt_or_le (M-(m+1+r1)) e.size with h | h
       ·exact Or.inr (hq3 h)
       ·exact Or.inl h
      have HB1:=Lib.hid hB1
      have HB2:=Lib.hid hB2
      clear hB1 hB2 hq2 hq3
      go_wp2_with fail
      go_round
      case rel =>
       have a1:=HA1.out
       have a2:=HA2.out
       have b1:=HB1.out
       have b2:=HB2.out
       exact ⟨k+1,m+1+r1+r2,by omega,by go_num,rfl,by omega,by omega,fun h=>by omega⟩
      case measure=>simp [intOf];omega
     ·go_wp2_with fail
      go_round
      case rel=>exact ⟨k+1,m+1+r1,by omega,by go_num,rfl,by omega,by omega,fun h=>by omega⟩
      case measure=>simp [intOf];omega
    ·have hinv':=Lib.hid hinv
     clear hinv
     go_wp2_with fail
     go_ret
     exact ⟨m,rfl,hm0,hms,fun h=>by omega,fun h=>by omega,rfl⟩
   ·have hk':k=s.len:=by omega
    subst hk'
    have hend:Hid (m≤M→m=s.size):=by
     intro h
     have:=hinv.2.2 h
     rw [s.drop_len] at this
     simpa [Sts.size] using this
    clear hinv
    by_cases hmM:m≤M
    ·go_wp2_with fail
     go_ret
     exact ⟨m,rfl,hm0,hms,fun h=>hend.out hmM,fun h=>by have:=hend.out hmM;omega,rfl⟩
    ·go_wp2_with fail
     go_ret
     exact ⟨m,rfl,hm0,hms,fun h=>by omega,fun h=>by omega,rfl⟩
theorem specProgramValid_any (ts:List Int) (s:Sts) (At As:Option Addr) (ct cs:Nat) (w:World) (hsz:s.size≤1048576) (hT:IntsV w 0 w.heap.size ts At ct) (hR:RepV w 0 w.heap.size s As cs) :
  Calls Tryz.prog 35 #[.agg #[.slice At ts.length ct,.slice As s.len cs]] w fun E w'=>E=.returned (.bool (validB ts s))∧Below w.heap.size w w':=by
 have hb0:=(Below.refl w.heap.size w).alloc (Nat.le_refl _) (.cells #[.slice At ts.length ct,.slice As s.len cs] 30)
 have hT0:=hT.below hb0 (hi':=w.heap.size+1) (by omega)
 have hT1:IntsV (w.alloc (.cells #[.slice At ts.length ct,.slice As s.len cs] 30)) 0 (w.alloc (.cells #[.slice At ts.length ct,.slice As s.len cs] 30)).heap.size ts At ct:=hT.below hb0 (by simp)
 have hR1:RepV (w.alloc (.cells #[.slice At ts.length ct,.slice As s.len cs] 30)) 0 (w.alloc (.cells #[.slice At ts.length ct,.slice As s.len cs] 30)).heap.size s As cs:=hR.below hb0 (by simp)
 have hc0:(w.alloc (.cells #[.slice At ts.length ct,.slice As s.len cs] 30)).heap[w.heap.size]?=_:=heap_alloc_new w _
 have HC:=Lib.hid hc0
 clear hc0 hT0
 by_cases h1:typesB ts=true
 ·have H1:=Lib.hid h1
  by_cases h2:bodyB ts 4 s=true
  ·have H2:=Lib.hid h2
   have e0:Hid (validB ts s=decide (s.size≤30)):=by simp [Hid,validB,h1,h2]
   clear h1 h2
   go_enter Tryz.func35,Tryz.ntmps35
   go_wp2_with fail
   refine (l1Types_any ts At ct _ hT1).mono ?_
   rintro E w1 ⟨he,rfl⟩
   rw [H1.out] at he
   subst he
   go_wp2_with fail
   refine (l1Body_any (s.size+1) ts At ct s As cs 4 _ (by omega) (by omega) (by omega) hT1 hR1).mono ?_
   rintro E w1 ⟨he,hb1⟩
   rw [H2.out] at he
   subst he
   have hb1':=hb1.block w.heap.size (by simp)
   rw [HC.out] at hb1'
   have d1:w1.cell? ⟨w.heap.size,1,none⟩=some (.slice As s.len cs):=(cB hb1' 1).trans rfl
   have hs1:=hb1.size
   have hb:Below w.heap.size w w1:=hb0.trans (hb1.mono (by simp))
   have hR2:=hR1.below hb1 hs1
   clear hb1' hb1 hT1 hR1
   go_wp2_with fail
   refine (l1Count_any (s.size+1) s As cs 30 _ (by omega) (by omega) (by omega) (by omega) hR2).mono ?_
   rintro E w2 ⟨r,rfl,hr0,hr1,hr2,hr3,rfl⟩
   have hr:Hid (decide (r≤30)=decide (s.size≤30)):=by
    unfold Hid
    rw [decide_eq_decide]
    constructor
    ·intro h
     rcases Int.lt_or_le 30 (s.size:Int) with h' | h'
     ·have:=hr3 h';omega
     ·omega
    ·intro h
     have:=hr2 (by omega)
     omega
   clear hr0 hr1 hr2 hr3
   go_wp2_with fail
   go_ret
   exact ⟨ret_bool (by rw [e0.out,← hr.out]),hb⟩
  ·have H2:Hid (bodyB ts 4 s=false):=by unfold Hid;simpa using h2
   have e0:Hid (validB ts s=false):=by simp [Hid,validB,h2]
   clear h1 h2
   go_enter Tryz.func35,Tryz.ntmps35
   go_wp2_with fail
   refine (l1Types_any ts At ct _ hT1).mono ?_
   rintro E w1 ⟨he,rfl⟩
   rw [H1.out] at he
   subst he
   go_wp2_with fail
   refine (l1Body_any (s.size+1) ts At ct s As cs 4 _ (by omega) (by omega) (by omega) hT1 hR1).mono ?_
   rintro E w1 ⟨he,hb1⟩
   rw [H2.out] at he
   subst he
   have hb:Below w.heap.size w w1:=hb0.trans (hb1.mono (by simp))
   clear hb1 hT1 hR1
   go_wp2_with fail
   go_ret
   exact ⟨ret_bool e0.out.symm,hb⟩
 ·have H1:Hid (typesB ts=false):=by unfold Hid;simpa using h1
  have e0:Hid (validB ts s=false):=by simp [Hid,validB,h1]
  clear h1
  go_enter Tryz.func35,Tryz.ntmps35
  go_wp2_with fail
  refine (l1Types_any ts At ct _ hT1).mono ?_
  rintro E w1 ⟨he,rfl⟩
  rw [H1.out] at he
  subst he
  go_wp2_with fail
  go_ret
  exact ⟨ret_bool e0.out.symm,(Below.refl _ _).alloc (Nat.le_refl _) _⟩
end Go.Proofs.YtedkkphogeealaaGreatDoor
