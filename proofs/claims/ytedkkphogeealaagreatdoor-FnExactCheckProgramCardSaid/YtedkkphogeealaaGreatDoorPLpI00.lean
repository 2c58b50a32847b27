/- What is known of loans at a point,by the program: what is placed,what can be used. -/
import Derived.Test.YtedkkphogeealaaGreatDoorPLimB
import Derived.Test.YtedkkphogeealaaGreatDoorPLplG
namespace Go.Proofs.YtedkkphogeealaaGreatDoor
open Go.RowKit Go.Deep
set_option linter.unusedVariables false
set_option maxHeartbeats 1000000
section
variable {ts:List Int} {ns:List Nd} {C F hi:Nat} {A:Option Addr} {c:Nat} {ah bk:Nat→Nat} {L:Nat} {mb lv:Nat→Nat} {kn:Nat→Nat→Nat} {a b:World}
theorem Lend.keep (h:Lend ts ns C F hi A c ah bk L mb lv kn a) (hb:Below a.heap.size a b):Lend ts ns C F hi A c ah bk L mb lv kn b:=by
 refine ⟨h.ln.keep hb,?_,h.mbIn,h.lvIn,h.knIn⟩
 rw [hb.block L h.ln.ltW]
 exact h.row
theorem Lend.cell (h:Lend ts ns C F hi A c ah bk L mb lv kn a) {m v:Nat} (hm:m<61) (hv:v<7):a.cell? ⟨L,131+m*7+v,none⟩=some (.int .u64 (kn m v:Int)):=by
 obtain ⟨cs,h1,h2,h3⟩:=h.row
 rw [cB h1,show 131+m*7+v=131+(m*7+v) from by omega]
 exact h3 m hm v hv
theorem Lend.bit (h:Lend ts ns C F hi A c ah bk L mb lv kn a) {m v l:Nat} (hm:m<ns.length) (hv:v<7):(kn m v).testBit l=true↔LoanB ts ns m v l :=
 h.knIn.last (fun _=>id) (fun a b hab=>by
  have hab':b∈nextN ns a:=hab
  rcases Nat.lt_or_ge a ns.length with h9 | h9
  ·exact h9
  ·exfalso
   unfold nextN nextP at hab'
   rw [List.getElem?_eq_none h9] at hab'
   simp at hab') (genL_place ns) (handL_place ts ns) hm hv
theorem Lend.lt (h:Lend ts ns C F hi A c ah bk L mb lv kn a) (m v:Nat):kn m v<2305843009213693952:=h.knIn.lt m v
end
theorem placed_any (ts:List Int) (ns:List Nd) (C F hi:Nat) (A:Option Addr) (c:Nat) (ah bk:Nat→Nat) (L:Nat) (mb lv:Nat→Nat) (kn:Nat→Nat→Nat) (k:Nat) (w:World) (h:Lend ts ns C F hi A c ah bk L mb lv kn w) (hk:k<ns.length) :
  Calls Tryz.prog 126 #[.pointer (some ⟨L,0,none⟩),.int .i64 k] w fun E w'=>E=.returned (.int .u64 (kn k 6:Int))∧Below w.heap.size w w':=by
 have hk61:k<61:=by have:=h.ln.fl.gr.le;omega
 have ki0:(0:Int)≤(k:Int):=by omega
 have ki1:(k:Int)<61:=by omega
 have q:=h.cell hk61 (v:=6) (by omega)
 clear h
 go_enter Tryz.func126,Tryz.ntmps126
 go_wp2_with fail
 go_ret
 exact ⟨rfl,by first | exact Below.refl _ _ | exact (Below.refl _ _).drew⟩
end Go.Proofs.YtedkkphogeealaaGreatDoor
