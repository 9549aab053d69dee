/-
  Texts of this seat, laid together.
-/
import Derived.BigRegion
import Derived.RegionTactic
import Derived.Deep.RegionWith
import Derived.Deep.RegionHeld3
import Derived.Deep.DrawnRows
import Derived.IntWalk
import Derived.Laws.BitsLemmas
import Derived.Deep.MidRow
import Derived.Lib.SliceRun
import Derived.Lib.Walk
import Derived.Deep.AppendLies
import Derived.Deep.RegionLaw
import Derived.Test.YtdmmenaejkpnjaaGreatDoorF2
import Derived.Test.YtdmmenaejkpnjaaGreatDoorF4
set_option maxHeartbeats 12800000
set_option maxRecDepth 100000
set_option linter.unusedSimpArgs false
set_option linter.unusedVariables false
namespace Go.Proofs.YtdmmenaejkpnjaaGreatDoor
open Go.RowKit
structure Bag(w0:World)(P:World->Prop)(w:World):Prop where
 below:Below w0.heap.size w0 w
 stay:∀a b,Below a.heap.size a b->P a->P b
 now:P w
theorem Bag.start(w:World):Bag w (fun _=>True) w:=⟨Below.refl _ _,fun _ _ _ _=>trivial,trivial⟩
theorem Bag.go{w0 w w':World}{P:World->Prop}(h:Bag w0 P w)(hb:Below w.heap.size w w'):Bag w0 P w' :=
 ⟨h.below.trans (hb.mono h.below.size),h.stay,h.stay _ _ hb h.now⟩
theorem bgo{w0 w w':World}{U:World → Prop}(h:Hid (Bag w0 U w))(hb:Below w.heap.size w w'):Hid (Bag w0 U w'):=Lib.hid (h.out.go hb)
theorem Bag.add{w0 w:World}{P Q:World->Prop}(h:Bag w0 P w)(hs:∀a b,Below a.heap.size a b->Q a->Q b)(q:Q w):Bag w0 (fun x=>Q x/\P x) w :=
 ⟨h.below,fun a b hb ⟨h1,h2⟩=>⟨hs a b hb h1,h.stay a b hb h2⟩,q,h.now⟩
theorem Bag.nat{w0 w:World}{P:World->Prop}{v:Value}{N:Nat}(h:Bag w0 P w)(q:NatIs w v N):Bag w0 (fun x=>NatIs x v N/\P x) w:=h.add (fun _ _ hb q=>q.below hb) q
theorem Bag.alloc{w0 w:World}{P:World->Prop}(h:Bag w0 P w)(o:Obj):Bag w0 P (w.alloc o):=h.go ((Below.refl _ _).alloc (Nat.le_refl _) _)
theorem Bag.slot{w0 w:World}{P:World->Prop}{k:Nat}{x:Value}(h:Bag w0 P w)(q:Slot w k x):Bag w0 (fun y=>Slot y k x/\P y) w:=h.add (fun _ _ hb q=>q.below hb) q
theorem Bag.box{w0 w:World}{P:World->Prop}(h:Bag w0 P w)(x:Value)(t:TypeId):Bag w0 (fun y=>Slot y w.heap.size x/\P y) (w.alloc (.cells #[x] t)) :=
 (h.alloc _).slot (Slot.new w x t)
theorem Bag.drewN{w0 w:World}{P:World->Prop}(h:Bag w0 P w)(n:Nat):Bag w0 P (w.drewN n):=h.go (below_drewN (Below.refl _ _) n)
theorem Bag.drew{w0 w:World}{P:World->Prop}(h:Bag w0 P w):Bag w0 P w.drew:=h.go (Below.refl _ _).drew
structure Slot2(w:World)(k:Nat)(x y:Value):Prop where
 cell:w.cell? ⟨k,0,none⟩=some x
 cell1:w.cell? ⟨k,1,none⟩=some y
 free:w.frozen? ⟨k,0,none⟩=false
 free1:w.frozen? ⟨k,1,none⟩=false
 lt:k<w.heap.size
theorem Slot2.below{w w':World}{k:Nat}{x y:Value}(h:Slot2 w k x y)(hb:Below w.heap.size w w'):Slot2 w' k x y :=
 ⟨(hb.cell (p:=⟨k,0,none⟩) h.lt).trans h.cell,(hb.cell (p:=⟨k,1,none⟩) h.lt).trans h.cell1,(hb.frozen (p:=⟨k,0,none⟩) h.lt).trans h.free,(hb.frozen (p:=⟨k,1,none⟩) h.lt).trans h.free1,Nat.lt_of_lt_of_le h.lt hb.size⟩
theorem Slot2.new(w:World)(x y:Value)(t:TypeId):Slot2 (w.alloc (.cells #[x,y] t)) w.heap.size x y:=by
 refine⟨?_,?_,World.frozen?_alloc_new _ _ _ _,World.frozen?_alloc_new _ _ _ _,by rw[World.size_alloc];omega⟩
 · rw[World.cell?_alloc_new];rfl
 · rw[World.cell?_alloc_new];rfl
theorem Bag.slot2{w0 w:World}{P:World->Prop}{k:Nat}{x z:Value}(h:Bag w0 P w)(q:Slot2 w k x z):Bag w0 (fun y=>Slot2 y k x z/\P y) w:=h.add (fun _ _ hb q=>q.below hb) q
theorem Bag.box2{w0 w:World}{P:World->Prop}(h:Bag w0 P w)(x z:Value)(t:TypeId):Bag w0 (fun y=>Slot2 y w.heap.size x z/\P y) (w.alloc (.cells #[x,z] t)) :=
 (h.alloc _).slot2 (Slot2.new w x z t)
end Go.Proofs.YtdmmenaejkpnjaaGreatDoor
namespace Go.Proofs.YtdmmenaejkpnjaaGreatDoor
open Go.RowKit
attribute [local go_sem ↓] Go.wp_at_zero Go.wp_at_succ
def IntAt(w:World)(a:Option Addr)(n c:Nat)(m:Bool)(Z:Int):Prop:=m=decide (Z<0)/\NatIs w (.agg #[.slice a n c]) Z.natAbs
theorem IntAt.below{w w':World}{a:Option Addr}{n c:Nat}{m:Bool}{Z:Int}(h:IntAt w a n c m Z)(hb:Below w.heap.size w w'):IntAt w' a n c m Z:=⟨h.1,h.2.below hb⟩
def IntTold(w w':World)(e:Ending)(Z:Int):Prop:=∃a n c m,e=.returned (.agg #[.slice a n c,.bool m])/\IntAt w' a n c m Z/\Below w.heap.size w w'
def sgn(b:Bool)(N:Nat):Int:=if b then -(N:Int)else N
theorem sgn_abs(b:Bool)(N:Nat):(sgn b N).natAbs=N:=by unfold sgn;split<;>omega
theorem sgn_neg(b:Bool)(N:Nat):decide (sgn b N<0)=(b && !decide (N=0)):=by
 cases b
 · simp[sgn]
 · by_cases h:N=0
   · simp[sgn,h]
   · simp[sgn,h];omega
theorem sgn_self(Z:Int):sgn (decide (Z<0)) Z.natAbs=Z:=by
 by_cases h:Z<0
 · rw[decide_eq_true h];simp[sgn];omega
 · rw[decide_eq_false h];simp[sgn];omega
def NatTold2(w w':World)(e:Ending)(v:Value)(N:Nat):Prop:=e=.returned v/\NatIs w' v N/\Below w.heap.size w w'
theorem NatIs.storeAt{w:World}{v:Value}{N:Nat}{p:Addr}{x:Value}(h:NatIs w v N)(hs:w.cell? p=some x)(hx:∀ki z,x ≠ .int ki z)(u:Value):NatIs (w.setCell p u) v N:=by
 obtain⟨a,n,c,f,rfl,⟨h1,h2,h3,h4⟩,hv,ht⟩:=h;refine⟨a,n,c,f,rfl,⟨h1,h2,h3,?_⟩,hv,ht⟩
 rcases h4 with h4|⟨b,off,rfl,hb,hc⟩
 · exact .inl h4
 · refine .inr ⟨b,off,rfl,by simpa using hb,fun j hj => ?_⟩
   rw[World.cell?_setCell_other _ _ _ _ (fun e' => ?_)]
   · exact hc j hj
   · have h5:=hc j hj;rw[show(⟨b,off+j,none⟩:Addr)=p from by first|exact e'|exact e'.symm,hs]at h5;exact hx _ _ (Option.some.inj h5)
theorem IntTold.done {w w2 : World} {k : Nat} {x : Value} {m0 : Bool} {a : Option Addr} {n c : Nat} {m : Bool} {Z : Int} (hb : Below w.heap.size w w2) (hk : w.heap.size <= k) (hs : Slot2 w2 k x (.bool m0)) (hx : ∀ ki z, x ≠ .int ki z) (h : IntAt w2 a n c m Z) :
    IntTold w ((w2.setCell ⟨k,0,none⟩ (.slice a n c)).setCell ⟨k,1,none⟩ (.bool m)) (.returned (.agg #[.slice a n c,.bool m])) Z:=by
 refine⟨a,n,c,m,rfl,⟨h.1,?_⟩,(hb.setCell hk _).setCell hk _⟩;refine(h.2.storeAt hs.cell hx _).storeAt (x:=.bool m0) ?_ (fun _ _ h=>by cases h) _;rw[World.cell?_setCell_other _ _ _ _ (fun e=>by cases e)];exact hs.cell1
theorem Slot2.set{w:World}{k:Nat}{x y:Value}(h:Slot2 w k x y)(u v:Value):((w.setCell ⟨k,0,none⟩ u).setCell ⟨k,1,none⟩ v).cell? ⟨k,0,none⟩=some u/\((w.setCell ⟨k,0,none⟩ u).setCell ⟨k,1,none⟩ v).cell? ⟨k,1,none⟩=some v:=by
 refine⟨?_,?_⟩
 · rw[World.cell?_setCell_other _ _ _ _ (fun e=>by cases e)];exact World.cell?_setCell_same _ _ _ h.cell
 · refine World.cell?_setCell_same (u:=y) _ _ _ ?_;rw[World.cell?_setCell_other _ _ _ _ (fun e=>by cases e)];exact h.cell1
def RS(y:World)(k:Nat):Prop:=∃x b,Slot2 y k x (.bool b)/\∀ki z,x ≠ .int ki z
theorem RS.below{w w':World}{k:Nat}(h:RS w k)(hb:Below w.heap.size w w'):RS w' k:=by
 obtain⟨x,b,h1,h2⟩:=h;exact⟨x,b,h1.below hb,h2⟩
theorem Slot2.rs{w:World}{k:Nat}{a:Option Addr}{n c:Nat}{b:Bool}(h:Slot2 w k (.slice a n c) (.bool b)):RS w k:=⟨_,_,h,fun _ _ h=>by cases h⟩
def putI(y:World)(k:Nat)(a:Option Addr)(n c:Nat)(b:Bool):World:=(y.setCell ⟨k,0,none⟩ (.slice a n c)).setCell ⟨k,1,none⟩ (.bool b)
theorem RS.frozen{w:World}{k:Nat}(h:RS w k):w.frozen? ⟨k,0,none⟩=false/\w.frozen? ⟨k,1,none⟩=false:=by
 obtain⟨x,b,h1,_⟩:=h;exact⟨h1.free,h1.free1⟩
theorem RS.lt{w:World}{k:Nat}(h:RS w k):k<w.heap.size:=by
 obtain⟨x,b,h1,_⟩:=h;exact h1.lt
theorem RS.ex{w:World}{k:Nat}(h:RS w k):(∃x,w.cell? ⟨k,0,none⟩=some x)/\∃x,w.cell? ⟨k,1,none⟩=some x:=by
 obtain⟨x,b,h1,_⟩:=h;exact⟨⟨_,h1.cell⟩,⟨_,h1.cell1⟩⟩
theorem RS.cells{w:World}{k:Nat}(h:RS w k)(a:Option Addr)(n c:Nat)(b:Bool):(putI w k a n c b).cell? ⟨k,0,none⟩=some (.slice a n c)/\(putI w k a n c b).cell? ⟨k,1,none⟩=some (.bool b):=by
 obtain⟨x,b',h1,_⟩:=h;exact h1.set _ _
theorem RS.put{w:World}{k j:Nat}(h:RS w j)(a:Option Addr)(n c:Nat)(b:Bool):RS (putI w k a n c b) j:=by
 obtain⟨x,b',h1,h2⟩:=h
 by_cases e:j=k
 · subst e;have:=h1.set (.slice a n c) (.bool b);exact⟨_,_,⟨this.1,this.2,by simp[putI,h1.free],by simp[putI,h1.free1],by simpa[putI]using h1.lt⟩,fun _ _ h=>by cases h⟩
 · refine⟨x,b',⟨?_,?_,by simp[putI,h1.free],by simp[putI,h1.free1],by simpa[putI]using h1.lt⟩,h2⟩
   · unfold putI;rw[World.cell?_setCell_other _ _ _ _ (fun e'=>by cases e'),World.cell?_setCell_other _ _ _ _ (fun e'=>e (by cases e';rfl))];exact h1.cell
   · unfold putI;rw[World.cell?_setCell_other _ _ _ _ (fun e'=>e (by cases e';rfl)),World.cell?_setCell_other _ _ _ _ (fun e'=>by cases e')];exact h1.cell1
theorem Slot2.put{w:World}{k j:Nat}{x z:Value}(h1:Slot2 w j x z)(e:j≠k)(a:Option Addr)(n c:Nat)(b:Bool):Slot2 (putI w k a n c b) j x z:=by
 refine⟨?_,?_,by simp[putI,h1.free],by simp[putI,h1.free1],by simpa[putI]using h1.lt⟩
 · unfold putI;rw[World.cell?_setCell_other _ _ _ _ (fun e'=>by cases e'<;>exact e rfl),World.cell?_setCell_other _ _ _ _ (fun e'=>by cases e'<;>exact e rfl)];exact h1.cell
 · unfold putI;rw[World.cell?_setCell_other _ _ _ _ (fun e'=>by cases e'<;>exact e rfl),World.cell?_setCell_other _ _ _ _ (fun e'=>by cases e'<;>exact e rfl)];exact h1.cell1
theorem Slot.put{w:World}{k j:Nat}{x:Value}(h1:Slot w j x)(e:j≠k)(a:Option Addr)(n c:Nat)(b:Bool):Slot (putI w k a n c b) j x:=by
 refine⟨?_,by simp[putI,h1.free],by simpa[putI]using h1.lt⟩;unfold putI;rw[World.cell?_setCell_other _ _ _ _ (fun e'=>by cases e'<;>exact e rfl),World.cell?_setCell_other _ _ _ _ (fun e'=>by cases e'<;>exact e rfl)];exact h1.cell
theorem NatIs.put{w:World}{k:Nat}{v:Value}{N:Nat}(q:NatIs w v N)(h:RS w k)(a:Option Addr)(n c:Nat)(b:Bool):NatIs (putI w k a n c b) v N:=by
 obtain⟨x,b',h1,h2⟩:=h;refine(q.storeAt h1.cell h2 _).storeAt (x:=.bool b') ?_ (fun _ _ h=>by cases h) _;rw[World.cell?_setCell_other _ _ _ _ (fun e=>by cases e)];exact h1.cell1
theorem IntAt.put{w:World}{k:Nat}{a':Option Addr}{n' c':Nat}{m:Bool}{Z:Int}(q:IntAt w a' n' c' m Z)(h:RS w k)(a:Option Addr)(n c:Nat)(b:Bool):IntAt (putI w k a n c b) a' n' c' m Z:=⟨q.1,q.2.put h a n c b⟩
theorem Bag.put{w0 w:World}{P:World->Prop}(h:Bag w0 P w){k:Nat}(hk:w0.heap.size<=k){a:Option Addr}{n c:Nat}{b:Bool}(hp:P w->P (putI w k a n c b)):Bag w0 P (putI w k a n c b) :=
 ⟨(h.below.setCell hk _).setCell hk _,h.stay,hp h.now⟩
theorem IntTold.fin {w w2 : World} {k : Nat} {a : Option Addr} {n c : Nat} {m : Bool} {Z : Int} (hb : Below w.heap.size w w2) (hk : w.heap.size <= k) (hs : RS w2 k) (h : IntAt w2 a n c m Z) :
    IntTold w (putI w2 k a n c m) (.returned (.agg #[.slice a n c,.bool m])) Z :=
 ⟨a,n,c,m,rfl,h.put hs a n c m,(hb.setCell hk _).setCell hk _⟩
theorem wof_any (b : Bool) (a : Option Addr) (n c N : Nat) (w : World) (h : NatIs w (.agg #[.slice a n c]) N) :
    Calls Tryz.prog 116 #[.bool b,.agg #[.slice a n c]] w fun e w'=>IntTold w w' e (sgn b N):=by
 cases b with
 | false =>
  have HE:Hid (IntTold w ((w.alloc (.cells #[.slice a n c] 49)).alloc (.cells #[.slice a n c,.bool false] 51)).drew (.returned (.agg #[.slice a n c,.bool false])) (sgn false N)) :=
   have B0:=(((Bag.start w).nat h).alloc (.cells #[.slice a n c] 49)).box2 (.slice a n c) (.bool false) 51
   ⟨a,n,c,false,rfl,⟨by rw[sgn_neg];rfl,by rw[sgn_abs];exact B0.drew.now.2.1⟩,B0.drew.below⟩
  clear h;go_enter Tryz.func116,Tryz.ntmps116;go_wp2_with fail
  go_region
  all_goals
   go_wp2;exact bodyPost_ret (v:=.agg #[.slice a n c,.bool false]) (by simp[results,Tryz.results116,go_sem]) rfl HE.out
 | true =>
  have B0:=(((Bag.start w).nat h).box (.slice a n c) 49).box2 (.slice none 0 0) (.bool false) 51;rw[World.size_alloc]at B0;have BB:=Lib.hid B0.drew;have HZ:=Lib.hid (zero_any _ N _ B0.drew.now.2.2.1);have q0:=B0.now.2.1.cell;have HI:Hid (∀wz,NatIs wz (.agg #[.slice a n c]) N->IntAt wz a n c (!decide (N=0)) (sgn true N)):=fun wz hz=>⟨by rw[sgn_neg];rfl,by rw[sgn_abs];exact hz⟩
  obtain⟨m,hm⟩:∃m,(!decide (N=0))=m:=⟨_,rfl⟩
  obtain⟨z,hz⟩:∃z,decide (N=0)=z:=⟨_,rfl⟩
  rw[hm]at HI;rw[hz]at HZ hm;subst hm;clear B0 h hz;go_enter Tryz.func116,Tryz.ntmps116;go_wp2_with fail
  go_region_with (go_at_call 114;refine HZ.out.mono ?_;rintro e w2 ⟨rfl,hb2⟩;have B2:=BB.out.go hb2;have hq:=B2.now.2.1.cell;have hs2:=B2.now.1;have hc1:=hs2.cell;have hc2:=hs2.cell1;have hf1:=hs2.free;have hf2:=hs2.free1;have HS:=hs2.set (.slice a n c) (.bool (!z));have HE:=Lib.hid (IntTold.done B2.below (by omega) hs2 (fun _ _ h=>by cases h) (HI.out _ B2.now.2.2.1));clear hb2 B2 hs2)
  all_goals
   go_wp2;exact bodyPost_ret (by simp[results,Tryz.results116,go_sem,HS]) rfl HE.out
theorem Bag.int{w0 w:World}{P:World->Prop}{a:Option Addr}{n c:Nat}{m:Bool}{Z:Int}(h:Bag w0 P w)(q:IntAt w a n c m Z):Bag w0 (fun y=>IntAt y a n c m Z/\P y) w:=h.add (fun _ _ hb q=>q.below hb) q
theorem neg_any (a : Option Addr) (n c : Nat) (m : Bool) (Z : Int) (w : World) (h : IntAt w a n c m Z) :
    Calls Tryz.prog 173 #[.agg #[.slice a n c,.bool m]] w fun e w'=>e=.returned (.bool m)/\Below w.heap.size w w':=by
 have B0:=((Bag.start w).nat h.2).box2 (.slice a n c) (.bool m) 51;have q0:=B0.now.1.cell;have q1:=B0.now.1.cell1;have hz:=zero_any _ _ _ B0.now.2.1;have BB:=Lib.hid B0
 cases m with
 | false =>
  clear h B0 hz;go_enter Tryz.func173,Tryz.ntmps173;go_wp2;go_ret;exact⟨rfl,BB.out.below⟩
 | true =>
  have h0:decide (Z.natAbs=0)=false:=by
   have:=h.1;rw[decide_eq_false];have h2:=of_decide_eq_true this.symm
   omega
  rw[h0]at hz;have HZ:=Lib.hid hz;clear h B0 h0 hz;go_enter Tryz.func173,Tryz.ntmps173
  go_wp2_with (go_at_call 114;refine HZ.out.mono ?_;rintro e w2 ⟨rfl,hb2⟩;have HB:=Lib.hid (BB.out.go hb2).below;clear hb2)
  go_ret;exact⟨rfl,HB.out⟩
theorem size_any (a : Option Addr) (n c : Nat) (m : Bool) (Z : Int) (w : World) (h : IntAt w a n c m Z) :
    Calls Tryz.prog 169 #[.agg #[.slice a n c,.bool m]] w fun e w'=>NatTold2 w w' e (.agg #[.slice a n c]) Z.natAbs:=by
 have B0:=(((Bag.start w).nat h.2).box2 (.slice a n c) (.bool m) 51).alloc (.cells #[.slice a n c] 49);have HE:Hid (NatTold2 w ((w.alloc (.cells #[.slice a n c,.bool m] 51)).alloc (.cells #[.slice a n c] 49)) (.returned (.agg #[.slice a n c])) (.agg #[.slice a n c]) Z.natAbs):=⟨rfl,B0.now.2.1,B0.below⟩
 clear h B0;go_enter Tryz.func169,Tryz.ntmps169;go_wp2;exact bodyPost_ret (v:=.agg #[.slice a n c]) (by simp[results,Tryz.results169,go_sem]) rfl HE.out
def sgnI(Z:Int):Int:=if Z<0 then -1 else if Z=0 then 0 else 1
theorem sign_any (a : Option Addr) (n c : Nat) (m : Bool) (Z : Int) (w : World) (h : IntAt w a n c m Z) :
    Calls Tryz.prog 140 #[.agg #[.slice a n c,.bool m]] w fun e w'=>e=.returned (.int .i64 (sgnI Z))/\Below w.heap.size w w':=by
 have B0:=((Bag.start w).int h).box2 (.slice a n c) (.bool m) 51;have q0:=B0.now.1.cell;have q1:=B0.now.1.cell1;have hz:=zero_any _ _ _ B0.now.2.1.2;have BB:=Lib.hid B0
 by_cases h0:Z=0
 · have d0:decide (Z.natAbs=0)=true:=decide_eq_true (by omega);rw[d0]at hz;have HZ:=Lib.hid hz;have HE:Hid (sgnI Z=0):=by show _=_;unfold sgnI;rw[if_neg (by omega),if_pos h0]
   clear h B0 h0 d0 hz;go_enter Tryz.func140,Tryz.ntmps140
   go_wp2_with (go_at_call 114;refine HZ.out.mono ?_;rintro e w2 ⟨rfl,hb2⟩;have HB:=Lib.hid (BB.out.go hb2).below;clear hb2)
   go_ret;exact⟨ret_int HE.out.symm,HB.out⟩
 · have d0:decide (Z.natAbs=0)=false:=decide_eq_false (by omega);rw[d0]at hz;have HZ:=Lib.hid hz;have HM:=Lib.hid h.1
   have HE:Hid (sgnI Z=if m then -1 else 1):=by
    show _=_
    rw[h.1];unfold sgnI
    by_cases h2:Z<0
    · rw[if_pos h2,decide_eq_true h2];rfl
    · rw[if_neg h2,if_neg h0,decide_eq_false h2];rfl
   clear h B0 h0 d0 hz;go_enter Tryz.func140,Tryz.ntmps140;go_wp2_with fail;go_at_call 114;refine HZ.out.mono ?_;rintro e w2 ⟨rfl,hb2⟩;have B2:=Lib.hid (BB.out.go hb2);clear hb2 q0 q1;have q0:=B2.out.now.1.cell;have q1:=B2.out.now.1.cell1;go_wp2_with fail;go_at_call 173;refine(neg_any a n c m Z _ B2.out.now.2.1).mono ?_;rintro e w3 ⟨rfl,hb3⟩;have B3:=Lib.hid (B2.out.go hb3);clear hb3 q0 q1
   cases m
   all_goals
    go_wp2;go_ret;exact⟨ret_int HE.out.symm,B3.out.below⟩
def cmpZ(Z Y:Int):Int:=if Z<Y then -1 else if Z=Y then 0 else 1
theorem of_pl2(x:Nat)(w:World)(hx:x<18446744073709551616):Calls Tryz.prog 146 #[.int .u64 x] w fun e w'=>∃a n c,e=.returned (.agg #[.slice a n c])/\NatIs w' (.agg #[.slice a n c]) x/\Below w.heap.size w w' :=
 (of_any x w hx).mono fun _ _ ⟨v,h1,⟨a,n,c,f,h2,h3,h4,h5⟩,h6⟩=>⟨a,n,c,by rw[h1,h2],⟨a,n,c,f,rfl,h3,h4,h5⟩,h6⟩
theorem from_any (X : Int) (w : World) (h : -9223372036854775808 <= X /\ X <= 9223372036854775807) :
    Calls Tryz.prog 118 #[.int .i64 X] w fun e w'=>IntTold w w' e X:=by
 have B0:=Lib.hid ((Bag.start w).box2 (.slice none 0 0) (.bool false) 51)
 by_cases h0:X<0
 · obtain⟨y,hy⟩:∃y:Nat,(y:Int) = -X:=⟨(-X).toNat,by omega⟩
   have d0:decide (X<0)=true:=decide_eq_true h0
   have e2:IntKind.u64.wrap (-IntKind.u64.wrap X)=(y:Int):=by
    rw[IntKind.wrap_u64,IntKind.wrap_u64];omega
   have hyl:y<18446744073709551616:=by omega
   have HZ:Hid (sgn true y=X):=by show _=_;unfold sgn;simp;omega
   have HO:Hid (∀wz,Calls Tryz.prog 146 #[.int .u64 y] wz fun e w'=>∃a n c,e=.returned (.agg #[.slice a n c])/\NatIs w' (.agg #[.slice a n c]) y/\Below wz.heap.size wz w'):=fun wz=>of_pl2 y wz hyl
   clear hy h;go_enter Tryz.func118,Tryz.ntmps118;go_wp2_with fail;go_at_call 146;refine(HO.out _).mono ?_;rintro e w2 ⟨a2,n2,c2,rfl,hi2,hb2⟩;have BB:=Lib.hid ((B0.out.go hb2).nat hi2);clear hi2 hb2;go_wp2_with fail;go_at_call 116;refine(wof_any true a2 n2 c2 y _ BB.out.now.1).mono ?_;rintro e w3 ⟨a3,n3,c3,m3,rfl,hi3,hb3⟩;rw[HZ.out]at hi3;have B3:=BB.out.go hb3;have hs2:=B3.now.2.1;have hc1:=hs2.cell;have hc2:=hs2.cell1;have hf1:=hs2.free;have hf2:=hs2.free1;have HS:=hs2.set (.slice a3 n3 c3) (.bool m3);have HE:=Lib.hid (IntTold.done B3.below (Nat.le_refl _) hs2 (fun _ _ h=>by cases h) hi3);clear hb3 B3 hs2 hi3;go_wp2;exact bodyPost_ret (by simp[results,Tryz.results118,go_sem,HS]) rfl HE.out
 · obtain⟨y,rfl⟩:∃y:Nat,X=(y:Int):=⟨X.toNat,by omega⟩
   have d0:decide ((y:Int)<0)=false:=decide_eq_false h0;have hyl:y<18446744073709551616:=by omega
   have HZ:Hid (sgn false y=(y:Int)):=by show _=_;unfold sgn;simp
   have HO:Hid (∀wz,Calls Tryz.prog 146 #[.int .u64 y] wz fun e w'=>∃a n c,e=.returned (.agg #[.slice a n c])/\NatIs w' (.agg #[.slice a n c]) y/\Below wz.heap.size wz w'):=fun wz=>of_pl2 y wz hyl
   have hy2:(y:Int)<=9223372036854775807:=h.2;clear h;go_enter Tryz.func118,Tryz.ntmps118;go_wp2_with fail;go_at_call 146;refine(HO.out _).mono ?_;rintro e w2 ⟨a2,n2,c2,rfl,hi2,hb2⟩;have BB:=Lib.hid ((B0.out.go hb2).nat hi2);clear hi2 hb2;go_wp2_with fail;go_at_call 116;refine(wof_any false a2 n2 c2 y _ BB.out.now.1).mono ?_;rintro e w3 ⟨a3,n3,c3,m3,rfl,hi3,hb3⟩;rw[HZ.out]at hi3;have B3:=BB.out.go hb3;have hs2:=B3.now.2.1;have hc1:=hs2.cell;have hc2:=hs2.cell1;have hf1:=hs2.free;have hf2:=hs2.free1;have HS:=hs2.set (.slice a3 n3 c3) (.bool m3);have HE:=Lib.hid (IntTold.done B3.below (Nat.le_refl _) hs2 (fun _ _ h=>by cases h) hi3);clear hb3 B3 hs2 hi3;go_wp2;exact bodyPost_ret (by simp[results,Tryz.results118,go_sem,HS]) rfl HE.out
def fitB(Z:Int):Bool:=decide (-9223372036854775808<=Z/\Z<=9223372036854775807)
end Go.Proofs.YtdmmenaejkpnjaaGreatDoor
namespace Go.Proofs.YtdmmenaejkpnjaaGreatDoor
open Go.RowKit
theorem dec_small{N:Nat}(h:N<10):dec N = [UInt8.ofNat (48+N)]:=by
 have:dl N=1:=by unfold dl;rw[dif_pos h]
 unfold dec;rw[this,sdig,sdig];unfold dgt;rw[Nat.pow_zero,Nat.div_one,Nat.mod_eq_of_lt h]
def NatTold(w w':World)(e:Ending)(N:Nat):Prop:=∃a n c,e=.returned (.agg #[.slice a n c])/\NatIs w' (.agg #[.slice a n c]) N/\Below w.heap.size w w'
theorem NatOut.told{w w':World}{e:Ending}{N:Nat}(h:NatOut w w' e N):NatTold w w' e N:=by
 obtain⟨v,rfl,hv,hb⟩:=h;obtain⟨a,n,c,f,rfl,hs,hv,ht⟩:=hv;exact⟨a,n,c,rfl,⟨a,n,c,f,rfl,hs,hv,ht⟩,hb⟩
theorem NatIs.alloc{w:World}{v:Value}{N:Nat}(h:NatIs w v N)(o:Obj):NatIs (w.alloc o) v N:=h.below ((Below.refl _ _).alloc (Nat.le_refl _) _)
theorem of_told(x:Nat)(w:World)(hx:x<18446744073709551616):Calls Tryz.prog 146 #[.int .u64 x] w fun e w'=>NatTold w w' e x :=
 (of_any x w hx).mono fun _ _ h=>h.told
def arrC(ch:Bool)(more:Int)(d:Nat->Int)(na:Option Addr)(nn nc:Nat)(ta:Option Addr)(tn tc:Nat):Array Value :=
 #[.bool ch, .int .i64 more, .int .i64 (d 0), .int .i64 (d 1), .int .i64 (d 2), .int .i64 (d 3), .int .i64 (d 4), .int .i64 (d 5), .int .i64 (d 6), .int .i64 (d 7), .slice na nn nc, .slice ta tn tc]
def dm(f:Nat->Int)(n j:Nat):Int:=if j<n then f j else 0
def Row(w:World)(g:Nat)(t:TypeId)(cs:Array Value):Prop:=w.heap[g]? = some (.cells cs t (0,0))
theorem Row.lt{w:World}{g:Nat}{t:TypeId}{cs:Array Value}(h:Row w g t cs):g<w.heap.size:=by
 rcases Nat.lt_or_ge g w.heap.size with h1|h1
 · exact h1
 · unfold Row at h;rw[Array.getElem?_eq_none h1]at h;cases h
theorem Row.below{w w':World}{g:Nat}{t:TypeId}{cs:Array Value}(h:Row w g t cs)(hb:Below w.heap.size w w'):Row w' g t cs:=(hb.block g h.lt).trans h
theorem Row.new(w:World)(t:TypeId)(cs:Array Value):Row (w.alloc (.cells cs t)) w.heap.size t cs:=heap_new _ _
theorem Row.cell{w:World}{g:Nat}{t:TypeId}{cs:Array Value}(h:Row w g t cs)(i:Nat):w.cell? ⟨g,i,none⟩=cs[i]? := cell_of_row w g i cs t (0,0) h
theorem Row.free{w:World}{g:Nat}{t:TypeId}{cs:Array Value}(h:Row w g t cs)(i:Nat):w.frozen? ⟨g,i,none⟩=false:=frozen_of_row w g i cs t h
theorem Bag.row{w0 w:World}{P:World->Prop}{g:Nat}{t:TypeId}{cs:Array Value}(h:Bag w0 P w)(q:Row w g t cs):Bag w0 (fun y=>Row y g t cs/\P y) w:=h.add (fun _ _ hb q=>q.below hb) q
theorem arrC_one(ch:Bool)(more:Int)(d:Nat->Int)(na:Option Addr)(nn nc:Nat)(ta:Option Addr)(tn tc:Nat):(arrC ch more d na nn nc ta tn tc).all (·.oneCell')=true:=by simp[arrC,Value.oneCell']
theorem arr12:(Tryz.prog.info? 36).map (·.size)=some 12:=by kernel_rfl
theorem ld_arr {ops : Array Oper} {rest : List Oper} {o : Oper} {a : Act} {w : World} {Q : Exit -> Act -> World -> Prop} (hgd : o.guard = none) (x : Operand) (ho : o.op = .load 36 x) (g : Nat) (hx : a.eval x = .pointer (some ⟨g, 0, none⟩))
    {ch:Bool} {more:Int} {d:Nat->Int} {na:Option Addr} {nn nc:Nat} {ta:Option Addr} {tn tc:Nat} (hg:Row w g 36 (arrC ch more d na nn nc ta tn tc))
    (h:wpList Tryz.prog ops Q rest (a.put o.dst (.agg (arrC ch more d na nn nc ta tn tc))) w):wpList Tryz.prog ops Q (o::rest) a w :=
 wpList_load_row hgd _ x ho g hx _ _ (0,0) _ hg Tryz.underlying36 rfl arr12 h
theorem st_arr {ops : Array Oper} {rest : List Oper} {o : Oper} {a : Act} {w : World} {Q : Exit -> Act -> World -> Prop} (hgd : o.guard = none) (x y : Operand) (ho : o.op = .store 36 x y) (g : Nat) (hx : a.eval x = .pointer (some ⟨g, 0, none⟩))
    (ch:Bool) (more:Int) (d:Nat->Int) (na:Option Addr) (nn nc:Nat) (ta:Option Addr) (tn tc:Nat) (hy:a.eval y=.agg (arrC ch more d na nn nc ta tn tc)) {old:Array Value} (hg:Row w g 36 old) (ho2:old.size=12)
    (h:wpList Tryz.prog ops Q rest (a.put o.dst undef) (w.setRow g (arrC ch more d na nn nc ta tn tc))):wpList Tryz.prog ops Q (o::rest) a w :=
 wpList_store_row hgd _ x y ho g _ hx hy _ old hg arr12 ho2 (arrC_one _ _ _ _ _ _ _ _ _) h
theorem Row.put{w:World}{g:Nat}{t:TypeId}{cs:Array Value}(h:Row w g t cs)(cs':Array Value):Row (w.setRow g cs') g t cs':=setRow_heap w g cs cs' t (0,0) h
theorem Row.puto{w:World}{g k:Nat}{t:TypeId}{cs:Array Value}(h:Row w g t cs)(e:g≠k)(cs':Array Value):Row (w.setRow k cs') g t cs:=(setRow_other w k g cs' e).trans h
theorem below_put{w w1:World}{g:Nat}(h:Below w.heap.size w w1)(hg:w.heap.size<=g)(cs:Array Value):Below w.heap.size w (w1.setRow g cs) :=
 ⟨h.os,h.tape,h.output,by simpa using h.size,fun k hk=>(setRow_other w1 g k cs (by omega)).trans (h.block k hk)⟩
theorem res_arr {fn : Func} {p : Tmp} {tmps : Array Value} {w : World} {g : Nat} {cs : Array Value} (h : fn.results = #[.cell p 36]) (hp : tmps.getD p undef = .pointer (some ⟨g, 0, none⟩)) (hg : Row w g 36 cs) (hs : cs.size = 12) :
    (results fn tmps).run Tryz.prog w=.ok (.agg cs) w :=
 results_cell_row h tmps w g _ cs (0,0) _ hp hg Tryz.underlying36 rfl (by rw[arr12,hs])
theorem res_arr2 {fn : Func} {p q : Tmp} {tmps : Array Value} {w : World} {g : Nat} {cs : Array Value} {v : Value} (h : fn.results = #[.cell p 36, .tmp q]) (hp : tmps.getD p undef = .pointer (some ⟨g, 0, none⟩)) (hq : tmps.getD q undef = v) (hg : Row w g 36 cs) (hs : cs.size = 12) :
    (results fn tmps).run Tryz.prog w=.ok (.tuple #[.agg cs,v]) w:=by
 have hp':tmps[p]?.getD undef=.pointer (some ⟨g,0,none⟩):=by simpa using hp
 have hq':tmps[q]?.getD undef=v:=by simpa using hq
 simp[results,h,hp',hq',asAddr,run_loadVar_row w g _ _ cs (0,0) _ hg Tryz.underlying36 rfl (by rw[arr12,hs])]
def BareTold(b:Bool)(f:Nat->Int)(n:Nat)(w w':World)(e:Ending):Prop :=
 e=.returned (.tuple #[.agg (if b then arrC false ((n:Int)-1) (dm f n) none 0 0 none 0 0 else arrC false 0 (fun _=>0) none 0 0 none 0 0),.bool b])/\Below w.heap.size w w'
theorem In64.le8{f:Nat->Int}{n:Nat}(h:shB f n=true):n<=8:=by
 unfold shB at h;rw[Bool.and_eq_true,decide_eq_true_eq]at h;exact h.1
theorem bare_no (a : Option Addr) (n c : Nat) (f : Nat -> Int) (m : Int) (w : World) (h : KRow w .i64 a n c f) (hf : In64 f n) (hno : (shB f n && decide (itm f n = m)) = false) :
    Calls Tryz.prog 102 #[.slice a n c,.int .i64 m] w fun e w'=>BareTold false f n w w' e:=by
 have CN:=Lib.hid (fun wz (h:KRow wz .i64 a n c f)=>count_any a n c f wz h hf);unfold CntTold cntI at CN;have HB:Hid (Below w.heap.size w (w.alloc (.cells (arrC false 0 (fun _=>0) none 0 0 none 0 0) 36))):=(Below.refl _ _).alloc (Nat.le_refl _) _;have HE:Hid (BareTold false f n w (w.alloc (.cells (arrC false 0 (fun _=>0) none 0 0 none 0 0) 36)) (.returned (.tuple #[.agg (arrC false 0 (fun _=>0) none 0 0 none 0 0),.bool false]))):=⟨rfl,HB.out⟩
 unfold arrC at HE;have HK:=Lib.hid h;have hl:=h.len;clear h hf
 cases hs:shB f n with
 | false =>
  rw[hs]at CN;rw[if_neg (by decide)]at CN;clear hs hno;go_enter Tryz.func102,Tryz.ntmps102;go_wp2_with fail;go_at_call 97
  refine(CN.out _ (HK.out.below ?_)).mono ?_
  · exact HB.out
  rintro e w2 ⟨rfl,rfl⟩;go_wp2;exact bodyPost_ret (v:=.tuple #[.agg #[.bool false,.int .i64 0,.int .i64 0,.int .i64 0,.int .i64 0,.int .i64 0,.int .i64 0,.int .i64 0,.int .i64 0,.int .i64 0,.slice none 0 0,.slice none 0 0],.bool false]) (by simp[results,Tryz.results102,go_sem]) rfl HE.out
 | true =>
  rw[hs]at CN hno;rw[if_pos rfl]at CN;rw[Bool.true_and,decide_eq_false_iff_not]at hno;have hne:(itm f n != m)=true:=bne_iff_ne.2 hno;clear hs hno;go_enter Tryz.func102,Tryz.ntmps102;go_wp2_with fail;go_at_call 97
  refine(CN.out _ (HK.out.below ?_)).mono ?_
  · exact HB.out
  rintro e w2 ⟨rfl,rfl⟩;go_wp2;exact bodyPost_ret (v:=.tuple #[.agg #[.bool false,.int .i64 0,.int .i64 0,.int .i64 0,.int .i64 0,.int .i64 0,.int .i64 0,.int .i64 0,.int .i64 0,.int .i64 0,.slice none 0 0,.slice none 0 0],.bool false]) (by simp[results,Tryz.results102,go_sem]) rfl HE.out
theorem dm_splice (f : Nat -> Int) (n : Nat) (h : n <= 8) (x0 x1 x2 x3 : Value) (z : Value) (hz : z = .int .i64 0) :
    splice [x0,x1,z,z,z,z,z,z,z,z,x2,x3] 2 ((List.range n).map fun j=>.int .i64 (f j)) =
    [x0,x1,.int .i64 (dm f n 0),.int .i64 (dm f n 1),.int .i64 (dm f n 2),.int .i64 (dm f n 3),.int .i64 (dm f n 4),.int .i64 (dm f n 5),.int .i64 (dm f n 6),.int .i64 (dm f n 7),x2,x3]:=by
 subst hz;have hn:n=0∨n=1∨n=2∨n=3∨n=4∨n=5∨n=6∨n=7∨n=8:=by omega
 rcases hn with rfl|rfl|rfl|rfl|rfl|rfl|rfl|rfl|rfl<;>rfl
theorem bare_yes (a : Option Addr) (n c : Nat) (f : Nat -> Int) (m : Int) (w : World) (h : KRow w .i64 a n c f) (hf : In64 f n) (hs : shB f n = true) (hm : itm f n = m) :
    Calls Tryz.prog 102 #[.slice a n c,.int .i64 m] w fun e w'=>BareTold true f n w w' e:=by
 have CN:=Lib.hid (fun wz (h:KRow wz .i64 a n c f)=>count_any a n c f wz h hf);unfold CntTold cntI at CN;have HB:Hid (Below w.heap.size w (w.alloc (.cells (arrC false 0 (fun _=>0) none 0 0 none 0 0) 36))):=(Below.refl _ _).alloc (Nat.le_refl _) _;have HK:=Lib.hid h;have hl:=h.len;have h8:=In64.le8 hs;have hne:(m != m)=false:=bne_self_eq_false m;rw[hs,if_pos rfl,hm]at CN;have hw:IntKind.i64.wrap ((n:Int)-1)=(n:Int)-1:=IntWalk.i64_in _ (by omega);clear h hf hs hm;go_enter Tryz.func102,Tryz.ntmps102;go_wp2_with fail;go_at_call 97
 (with_reducible refine(CN.out _ (HK.out.below ?_)).mono ?_)
 · exact HB.out
 rintro e w2 ⟨rfl,rfl⟩;have H8:=Lib.hid h8;clear h8
 go_wp2_with (refine wpList_copy_splice rfl (.tmp 27) (.tmp 28) 22 22 rfl 3 Tryz.underlying22 (by kernel_rfl) _ _ _ _ _ _ rfl rfl (w.heap.size+1) 2 [.bool false,.int .i64 ((n:Int)-1),.int .i64 0,.int .i64 0,.int .i64 0,.int .i64 0,.int .i64 0,.int .i64 0,.int .i64 0,.int .i64 0,.slice none 0 0,.slice none 0 0] 36 ?hg ((List.range n).map fun j=>.int .i64 (f j)) ?hn ?hpos ?hfit ?h1 (w.heap.size+1) (w.alloc (.cells #[.bool false,.int .i64 0,.int .i64 0,.int .i64 0,.int .i64 0,.int .i64 0,.int .i64 0,.int .i64 0,.int .i64 0,.int .i64 0,.slice none 0 0,.slice none 0 0] 36)) ?hb (Nat.le_refl _) ?_)
 case hg=>exact heap_alloc2_new _ _ _
 case hn=>rw[List.length_map,List.length_range];exact(Nat.min_eq_left H8.out).symm
 case hpos =>
  intro h0;have h0:0<n:=by simpa using h0
  obtain⟨b,off,rfl,hb,hc⟩:=HK.out.2.2.resolve_left (by omega);refine⟨_,rfl,fun j x hj => ?_⟩;simp only[List.getElem?_eq_some_iff,List.getElem_range]at hj;obtain⟨hj1,rfl⟩:=hj;rw[show(⟨b,off,none⟩:Addr).add j=⟨b,off+j,none⟩by simp[Addr.add],← hc j (by simpa using hj1)];rw[World.cell?_alloc_lt _ _ ⟨b,off+j,none⟩ (by simp;omega)];exact World.cell?_alloc_lt w _ ⟨b,off+j,none⟩ hb
 case hfit=>have:=H8.out;simp;omega
 case h1 =>
  intro v hv
  simp at hv
  obtain⟨_,_,rfl⟩:=hv
  rfl
 case hb=>exact(Below.refl _ _).alloc (by simp) _
 · intro w1 hg1 hb1;have hr0:Row w1 w.heap.size 36 _:=(hb1.block w.heap.size (by omega)).trans (heap_new _ _);have hr1:Row w1 (w.heap.size+1) 36 _:=hg1.out;rw[dm_splice f n H8.out _ _ _ _ _ rfl]at hr1;have hbw:Below w.heap.size w w1:=((Below.refl w.heap.size w).alloc (Nat.le_refl _) _).trans (hb1.mono (Nat.le_succ _));clear hg1 hb1;have HE:Hid (BareTold true f n w (w1.setRow w.heap.size (arrC false ((n:Int)-1) (dm f n) none 0 0 none 0 0)) (.returned (.tuple #[.agg (arrC false ((n:Int)-1) (dm f n) none 0 0 none 0 0),.bool true]))):=⟨rfl,below_put hbw (Nat.le_refl _) _⟩
   go_wp2_with (first
    | (refine ld_arr rfl (.tmp 8) rfl (w.heap.size+1) rfl (ch:=false) (more:=(n:Int)-1) (d:=dm f n) (na:=none) (nn:=0) (nc:=0) (ta:=none) (tn:=0) (tc:=0) hr1 ?_)
    | (refine st_arr rfl (.tmp 4) (.tmp 30) rfl w.heap.size rfl _ _ _ _ _ _ _ _ _ rfl hr0 rfl ?_))
   exact bodyPost_ret (res_arr2 Tryz.results102 rfl rfl (hr0.put _) rfl) rfl HE.out
theorem bare_any (a : Option Addr) (n c : Nat) (f : Nat -> Int) (m : Int) (w : World) (h : KRow w .i64 a n c f) (hf : In64 f n) :
    Calls Tryz.prog 102 #[.slice a n c,.int .i64 m] w fun e w'=>BareTold (shB f n&&decide (itm f n=m)) f n w w' e:=by
 cases hb:shB f n&&decide (itm f n=m)with
 | false=>exact bare_no a n c f m w h hf hb
 | true =>
  rw[Bool.and_eq_true,decide_eq_true_eq]at hb;exact bare_yes a n c f m w h hf hb.1 hb.2
theorem KRow.nought(w:World)(ki:IntKind)(a:Option Addr)(c:Nat)(hc:c<=maxLen)(f:Nat->Int):KRow w ki a 0 c f:=⟨Nat.zero_le _,hc,.inl rfl⟩
theorem Bag.krow{w0 w:World}{B:World->Prop}{ki:IntKind}{a:Option Addr}{n c:Nat}{f:Nat->Int}(h:Bag w0 B w)(q:KRow w ki a n c f):Bag w0 (fun y=>KRow y ki a n c f/\B y) w:=h.add (fun _ _ hb q=>KRow.below q hb) q
theorem Bag.newRow{w0 w:World}{B:World->Prop}(h:Bag w0 B w)(cs:Array Value)(t:TypeId):Bag w0 (fun y=>Row y w.heap.size t cs/\B y) (w.alloc (.cells cs t)):=(h.alloc _).row (Row.new w t cs)
theorem Row.set{w:World}{g:Nat}{t:TypeId}{cs:Array Value}(h:Row w g t cs)(i:Nat)(v:Value):Row (w.setCell ⟨g,i,none⟩ v) g t (cs.setIfInBounds i v):=heap_setCell_same w g i cs t v h
theorem Row.far{w:World}{g:Nat}{t:TypeId}{cs:Array Value}(h:Row w g t cs){a:Addr}(e:g≠a.block)(v:Value):Row (w.setCell a v) g t cs:=(heap_setCell_other w a g v e).trans h
structure Far(g:Nat)(w w':World):Prop where
 size:w.heap.size<=w'.heap.size
 block:∀k,k≠g->k<w.heap.size->w'.heap[k]? = w.heap[k]?
theorem Far.setCell(w:World)(g o:Nat)(v:Value):Far g w (w.setCell ⟨g,o,none⟩ v):=⟨by simp,fun k hk _=>heap_setCell_other w ⟨g,o,none⟩ k v hk⟩
theorem Far.setRow(w:World)(g:Nat)(cs:Array Value):Far g w (w.setRow g cs):=⟨by simp,fun k hk _=>setRow_other w g k cs hk⟩
theorem Far.cell{g:Nat}{w w':World}(h:Far g w w'){a:Addr}(hg:a.block≠g)(hl:a.block<w.heap.size):w'.cell? a=w.cell? a:=World.cell?_of_block (h.block _ hg hl)
def sameB(f g:Nat->Int):Nat->Bool
 | 0=>true
 | k+1=>sameB f g k&&decide (f k=g k)
theorem sameB_iff{f g:Nat->Int}{n:Nat}:sameB f g n=true↔∀j,j<n->f j=g j:=by
 induction n with
 | zero=>exact⟨fun _ j h=>absurd h (Nat.not_lt_zero _),fun _=>rfl⟩
 | succ n ih =>
  show(sameB f g n&&decide (f n=g n))=true↔_
  rw[Bool.and_eq_true,ih,decide_eq_true_eq]
  constructor
  · rintro⟨h1,h2⟩ j hj
    rcases Nat.lt_or_ge j n with h|h
    · exact h1 j h
    · obtain rfl:j=n:=by omega
      exact h2
  · exact fun h=>⟨fun j hj=>h j (by omega),h n (by omega)⟩
def SameTold(b:Bool)(w w':World)(e:Ending):Prop:=e=.returned (.bool b)/\Below w.heap.size w w'
theorem r6Same_any (a : Option Addr) (n c : Nat) (f : Nat -> Int) (a2 : Option Addr) (n2 c2 : Nat) (g : Nat -> Int) (w : World) (h : KRow w .i64 a n c f) (h2 : KRow w .i64 a2 n2 c2 g) :
    Calls Tryz.prog 31 #[.slice a n c,.slice a2 n2 c2] w fun e w'=>SameTold (decide (n=n2)&&sameB f g n) w w' e:=by
 have hl:=h.len;have hl2:=h2.len;have H1:=Lib.hid h;have H2:=Lib.hid h2;clear h h2
 by_cases hn:n=n2
 · subst hn; rw [decide_eq_true rfl, Bool.true_and]; have dn : ((n : Int) != n) = false := bne_self_eq_false _; go_enter Tryz.func31, Tryz.ntmps31; go_wp2
   go_loopw [5] (fun i wr=>∃k:Nat,k<=n/\i=.int .i64 k/\Hid (Below w.heap.size w wr/\sameB f g k=true)) (fun i _=>n-(intOf i).toNat)
   case atStart=>exact⟨0,by omega,rfl,Below.refl _ _,rfl⟩
   case round =>
    obtain⟨k,hk,rfl,hrel⟩:=hrel;obtain⟨hbl,hsm⟩:=hrel.out
    by_cases hlt:k<n
    · obtain ⟨b, off, rfl, hb, hc⟩ := (H1.out.below hbl).get hlt; obtain ⟨b2, off2, rfl, hb2, hc2⟩ := (H2.out.below hbl).get hlt; have HBL := Lib.hid hbl; have hk0 : (0 : Int) <= k := by omega
      have hk1:(k:Int)<n:=by omega
      have hk2:(k:Int)<=n:=by omega
      by_cases hq:f k=g k
      · have hsm2:Hid (sameB f g (k+1)=true):=by show(sameB f g k&&_)=true;rw[hsm,decide_eq_true hq];rfl
        have hne:(f k != g k)=false:=by rw[hq];exact bne_self_eq_false _
        clear hbl hsm;rw[← hq]at hc2;have hne:(f k != f k)=false:=bne_self_eq_false _;generalize f k=x at *;clear hq;go_wp2_with fail
        go_quiet (fail)
        have HBE:Hid (Below w.heap.size w (wr.drewN nq)/\sameB f g (k+1)=true):=⟨below_drewN HBL.out nq,hsm2.out⟩
        go_wp2
        go_roundw
        case rel=>exact⟨k+1,by omega,by go_num,HBE.out⟩
        case measure=>simp[intOf];omega
      · have hno:sameB f g n=false:=by
          cases hx:sameB f g n with
          | false=>rfl
          | true=>exact absurd ((sameB_iff.1 hx) k hlt) hq
        have HN:=Lib.hid hno;have hne:(f k != g k)=true:=bne_iff_ne.2 hq;clear hbl hsm hno;generalize f k=x at *;generalize g k=y at *;clear hq;go_wp2_with fail
        go_quiet (fail)
        have HBE:Hid (SameTold (sameB f g n) w (wr.drewN nq) (.returned (.bool false))):=⟨by rw[HN.out],below_drewN HBL.out nq⟩
        go_wp2;go_ret;exact HBE.out
    · obtain rfl:k=n:=by omega
      have HE:Hid (SameTold (sameB f g k) w wr (.returned (.bool true))):=⟨by rw[hsm],hbl⟩
      clear hbl hsm;go_wp2;go_ret;exact HE.out
 · rw[decide_eq_false hn,Bool.false_and];have dn:((n:Int) != n2)=true:=bne_iff_ne.2 (by omega);have HE:Hid (SameTold false w w (.returned (.bool false))):=⟨rfl,Below.refl _ _⟩
   clear hn;go_enter Tryz.func31,Tryz.ntmps31;go_wp2;go_ret;exact HE.out
def NewAt(w w':World)(a:Option Addr)(n c:Nat):Prop:=(a=none/\n=0/\c=0)∨∃g,a=some ⟨g,0,none⟩/\w.heap.size<=g/\Free w' g
theorem cloneI_new (a : Option Addr) (n c : Nat) (f : Nat -> Int) (w : World) (h : KRow w .i64 a n c f) (hn : n <= 1000000) :
    Calls Tryz.prog 100 #[.slice a n c] w fun e w'=>∃a' c',e=.returned (.slice a' n c')/\KRow w' .i64 a' n c' f/\NewAt w w' a' n c'/\Below w.heap.size w w':=by
 obtain⟨i0,hi,hz0,hz1,hz2⟩:=info_parts infoI;have q22:∀(w:World) (a:Option Addr) (n c n' c':Nat),(binOp .eql 22 (.slice a n c) (.slice none n' c')).run Tryz.prog w=.ok (.bool a.isNone) w:=fun w a n c n' c'=>Lib.run_eql_slice_nil w _ _ a n c n' c' Tryz.underlying22
 cases a with
 | none =>
  have h0:n=0:=by
   rcases h.2.2 with h|⟨_,_,h,_⟩
   · exact h
   · cases h
  subst h0;go_enter Tryz.func100,Tryz.ntmps100;go_wp2;go_ret;exact⟨none,0,rfl,KRow.nought _ _ _ _ (Nat.zero_le _) _,.inl ⟨rfl,rfl,rfl⟩,Below.refl _ _⟩
 | some ad =>
  have hex:∃news:List Value,news.length=n*1/\(∀j u,news[j]? = some u->w.cell? (ad.add j)=some u)/\(∀u ∈ news,u.oneCell'=true)/\∀j,j<n->news[j]? = some (.int .i64 (f j)):=by
   rcases h.2.2 with h0|⟨b,off,he,hb,hc⟩
   · subst h0;exact⟨[],rfl,fun j u hu=>by simp at hu,fun u hu=>by simp at hu,fun j hj=>by omega⟩
   · obtain rfl := Option.some.inj he; have hg : ∀ j, j < n -> ((List.range n).map fun j => Value.int .i64 (f j))[j]? = some (.int .i64 (f j)) := fun j hj => by rw [List.getElem?_map, List.getElem?_range hj]; rfl
     refine⟨(List.range n).map fun j=>.int .i64 (f j),by simp,fun j u hu => ?_,fun u hu => ?_,hg⟩
     · have hj:j<n:=by
         have:=(List.getElem?_eq_some_iff.1 hu).1
         simpa using this
       rw[hg j hj]at hu;obtain rfl:=Option.some.inj hu;rw[show(⟨b,off,none⟩:Addr).add j=⟨b,off+j,none⟩by simp[Addr.add]];exact hc j hj
     · obtain⟨j,_,rfl⟩:=List.mem_map.1 hu
       rfl
  obtain⟨news,hl,hcell,hone,hrat⟩:=hex;have HC:=Lib.hid hcell;have HO:=Lib.hid hone;have HR:=Lib.hid hrat
  have HL:=Lib.hid hl;have HN:=Lib.hid hn;clear hcell hone hrat hl h hn;go_enter Tryz.func100,Tryz.ntmps100
  go_wp2_with (at_builtin;refine wpList_append_own _ rfl _ _ 22 rfl w.heap.size 3 i0 _ 1 8 Tryz.underlying22 hi hz0 hz1 hz2 rfl (by omega) _ _ _ rfl (World.ownsRow_made w #[] 0 (Nat.le_refl _) (Nat.zero_le _) (by simp)) ad n c news rfl ?qc1 ?qc2 ?qc3 ?qc4 ?qc5 ?qc6 ?_)
  case qc1=>exact HL.out
  case qc2=>exact fun j u hj=>Lib.cell?_alloc_some _ (HC.out j u hj)
  case qc3=>exact HO.out
  case qc4=>have:=HN.out;unfold maxLen;omega
  case qc5=>have:=HN.out;omega
  case qc6=>simp
  intro v' w1 hown hgrow hnil;have hb:Below w.heap.size w w1:=((Below.refl _ w).alloc (Nat.le_refl _) _).grown hgrow (by simp) (by intro k hk;simp[Value.ownBlock]at hk;omega)
  have HE:Hid (∃a' c',v'=.slice a' n c'/\KRow w1 .i64 a' n c' f/\NewAt w w1 a' n c'):=by
   rcases hown.2 with ⟨rfl,h0⟩|⟨g,cap,cur,rfl,hge,hh,h1,h2,_,hcs⟩
   · subst h0;exact⟨none,0,rfl,KRow.nought _ _ _ _ (Nat.zero_le _) _,.inl ⟨rfl,rfl,rfl⟩⟩
   · refine⟨some ⟨g,0,none⟩,cap,rfl,⟨h1,h2,.inr ⟨g,0,rfl,Row.lt (t:=3) hh,fun j hj => ?_⟩⟩,.inr ⟨g,rfl,hge,Free.of_block hh⟩⟩;have:=hown.cells (g:=g) rfl j _ (HR.out j hj)
     rwa [show(⟨g,0,none⟩:Addr).add j=⟨g,0+j,none⟩by unfold Addr.add;split<;>simp_all]at this
  have HB:=Lib.hid hb;clear hown hgrow hnil hb;go_wp2;go_ret;obtain⟨a',c',rfl,hr,hn⟩:=HE.out;exact⟨a',c',rfl,hr,hn,HB.out⟩
theorem cloneI_any (a : Option Addr) (n c : Nat) (f : Nat -> Int) (w : World) (h : KRow w .i64 a n c f) (hn : n <= 1000000) :
    Calls Tryz.prog 100 #[.slice a n c] w fun e w'=>∃a' c',e=.returned (.slice a' n c')/\KRow w' .i64 a' n c' f/\Below w.heap.size w w' :=
 (cloneI_new a n c f w h hn).mono fun _ _ ⟨a',c',h1,h2,_,h3⟩=>⟨a',c',h1,h2,h3⟩
def kcs(ki:IntKind)(f:Nat->Int):Nat->List Value
 | 0 => []
 | k+1=>kcs ki f k ++ [.int ki (f k)]
theorem kcs_length(ki:IntKind)(f:Nat->Int):∀k,(kcs ki f k).length=k
 | 0=>rfl
 | k+1=>by unfold kcs;rw[List.length_append,kcs_length ki f k];rfl
theorem kcs_get (ki : IntKind) (f : Nat -> Int) : ∀ k j, j < k -> (kcs ki f k)[j]? = some (.int ki (f j))
 | 0,j,h=>absurd h (Nat.not_lt_zero _)
 | k+1,j,h=>by
  have hl:=kcs_length ki f k;unfold kcs
  rcases Nat.lt_or_ge j k with h1|h1
  · rw[List.getElem?_append_left (by omega)];exact kcs_get ki f k j h1
  · obtain rfl:j=k:=by omega
    rw[List.getElem?_append_right (by omega),hl,Nat.sub_self]
    rfl
theorem KRow.of_own{w:World}{base:Nat}{e:TypeId}{v:Value}{n:Nat}{ki:IntKind}{f:Nat->Int}(h:w.ownsRow base e 1 v n (kcs ki f n)):∃a c,v=.slice a n c/\KRow w ki a n c f:=by
 rcases h.2 with ⟨rfl,rfl⟩|⟨g,cap,cur,rfl,_,hh,h1,h2,_,hcs⟩
 · exact⟨none,0,rfl,KRow.nought _ _ _ _ (Nat.zero_le _) _⟩
 · refine⟨some ⟨g,0,none⟩,cap,rfl,h1,h2,.inr ⟨g,0,rfl,Row.lt (t:=e) hh,fun j hj => ?_⟩⟩;have:=h.cells (g:=g) rfl j _ (kcs_get ki f n j hj)
   rwa [show(⟨g,0,none⟩:Addr).add j=⟨g,0+j,none⟩by unfold Addr.add;split<;>simp_all]at this
theorem own_below{w w':World}{base:Nat}{e:TypeId}{size:Nat}{v:Value}{n:Nat}{xs:List Value}(h:w.ownsRow base e size v n xs)(hb:Below w.heap.size w w'):w'.ownsRow base e size v n xs:=by
 refine h.kept (row:=none) ⟨hb.os,hb.tape,hb.output,hb.size,fun k hk _=>hb.block k hk⟩ ?_
 cases v.ownBlock with
 | none=>exact .inl rfl
 | some k=>exact .inr (by simp)
theorem own_setCell{w:World}{base:Nat}{e:TypeId}{size:Nat}{v:Value}{n:Nat}{xs:List Value}(h:w.ownsRow base e size v n xs)(k o:Nat)(u:Value)(hk:some k≠v.ownBlock):(w.setCell ⟨k,o,none⟩ u).ownsRow base e size v n xs :=
 h.kept (row:=some k) ⟨rfl,rfl,rfl,by simp,fun j hj hne=>(Far.setCell w k o u).block j (fun e=>hne (by rw[e])) hj⟩ (.inr (fun e=>hk e.symm))
theorem Bag.own{w0 w:World}{B:World->Prop}{base:Nat}{e:TypeId}{size:Nat}{v:Value}{n:Nat}{xs:List Value}(h:Bag w0 B w)(q:w.ownsRow base e size v n xs):Bag w0 (fun y=>y.ownsRow base e size v n xs/\B y) w:=h.add (fun _ _ hb q=>own_below q hb) q
end Go.Proofs.YtdmmenaejkpnjaaGreatDoor
namespace Go.Proofs.YtdmmenaejkpnjaaGreatDoor
open Go.RowKit
attribute [local go_sem ↓] Go.wp_at_zero Go.wp_at_succ
def NatOf3(w w':World)(e:Ending)(N:Nat):Prop:=∃a n c,e=.returned (.agg #[.slice a n c])/\NatIs w' (.agg #[.slice a n c]) N/\Below w.heap.size w w'
theorem NatOut.three{w w':World}{e:Ending}{N:Nat}(h:NatOut w w' e N):NatOf3 w w' e N:=by
 obtain⟨v,h1,⟨a,n,c,f,h2,h3,h4,h5⟩,h6⟩:=h;exact⟨a,n,c,by rw[h1,h2],⟨a,n,c,f,rfl,h3,h4,h5⟩,h6⟩
def SubOf3(w w':World)(e:Ending)(N:Nat)(b:Bool):Prop:=∃a n c,e=.returned (.tuple #[.agg #[.slice a n c],.bool b])/\NatIs w' (.agg #[.slice a n c]) N/\Below w.heap.size w w'
theorem SubOut.three{w w':World}{e:Ending}{N M:Nat}{b:Bool}(h:SubOut w w' e N M)(hb:decide (M<=N)=b):SubOf3 w w' e (N-M) b:=by
 obtain⟨v,h1,⟨a,n,c,f,h2,h3,h4,h5⟩,h6⟩:=h;exact⟨a,n,c,by rw[h1,h2,hb],⟨a,n,c,f,rfl,h3,h4,h5⟩,h6⟩
def PO(k:Nat)(a:Option Addr)(n c:Nat)(m:Bool)(Z:Int)(a2:Option Addr)(n2 c2:Nat)(m2:Bool)(Y:Int)(y:World):Prop :=
 RS y (k+1+1)/\Slot2 y (k+1) (.slice a2 n2 c2) (.bool m2)/\Slot2 y k (.slice a n c) (.bool m)/\IntAt y a2 n2 c2 m2 Y/\IntAt y a n c m Z
theorem PO.put{k:Nat}{a:Option Addr}{n c:Nat}{m:Bool}{Z:Int}{a2:Option Addr}{n2 c2:Nat}{m2:Bool}{Y:Int}{y:World}(h:PO k a n c m Z a2 n2 c2 m2 Y y)(a3:Option Addr)(n3 c3:Nat)(b:Bool):PO k a n c m Z a2 n2 c2 m2 Y (putI y (k+1+1) a3 n3 c3 b) :=
 ⟨h.1.put _ _ _ _,h.2.1.put (by omega) _ _ _ _,h.2.2.1.put (by omega) _ _ _ _,h.2.2.2.1.put h.1 _ _ _ _,h.2.2.2.2.put h.1 _ _ _ _⟩
theorem PO.stay{k:Nat}{a:Option Addr}{n c:Nat}{m:Bool}{Z:Int}{a2:Option Addr}{n2 c2:Nat}{m2:Bool}{Y:Int}:∀x y,Below x.heap.size x y->PO k a n c m Z a2 n2 c2 m2 Y x->PO k a n c m Z a2 n2 c2 m2 Y y :=
 fun _ _ hb h=>⟨h.1.below hb,h.2.1.below hb,h.2.2.1.below hb,h.2.2.2.1.below hb,h.2.2.2.2.below hb⟩
theorem PO.start {w : World} {a : Option Addr} {n c : Nat} {m : Bool} {Z : Int} {a2 : Option Addr} {n2 c2 : Nat} {m2 : Bool} {Y : Int} (h : IntAt w a n c m Z) (g : IntAt w a2 n2 c2 m2 Y) :
    Bag w (PO w.heap.size a n c m Z a2 n2 c2 m2 Y) (((w.alloc (.cells #[.slice a n c,.bool m] 51)).alloc (.cells #[.slice a2 n2 c2,.bool m2] 51)).alloc (.cells #[.slice none 0 0,.bool false] 51)):=by
 have B0:=(((((Bag.start w).int h).int g).box2 (.slice a n c) (.bool m) 51).box2 (.slice a2 n2 c2) (.bool m2) 51).box2 (.slice none 0 0) (.bool false) 51;simp only[World.size_alloc]at B0;exact⟨B0.below,PO.stay,B0.now.1.rs,B0.now.2.1,B0.now.2.2.1,B0.now.2.2.2.1,B0.now.2.2.2.2.1⟩
def POc(k:Nat)(a:Option Addr)(n c:Nat)(m:Bool)(a2:Option Addr)(n2 c2:Nat)(m2:Bool)(y:World):Prop :=
 y.cell? ⟨k,0,none⟩=some (.slice a n c)/\y.cell? ⟨k,1,none⟩=some (.bool m)/\y.cell? ⟨k+1,0,none⟩=some (.slice a2 n2 c2)/\y.cell? ⟨k+1,1,none⟩=some (.bool m2)
theorem PO.c{k:Nat}{a:Option Addr}{n c:Nat}{m:Bool}{Z:Int}{a2:Option Addr}{n2 c2:Nat}{m2:Bool}{Y:Int}{y:World}(h:PO k a n c m Z a2 n2 c2 m2 Y y):POc k a n c m a2 n2 c2 m2 y :=
 ⟨h.2.2.1.cell,h.2.2.1.cell1,h.2.1.cell,h.2.1.cell1⟩
theorem plusOne_same (a : Option Addr) (n c : Nat) (m : Bool) (Z : Int) (a2 : Option Addr) (n2 c2 : Nat) (m2 : Bool) (Y : Int) (w : World) (h : IntAt w a n c m Z) (g : IntAt w a2 n2 c2 m2 Y)
    (k:Nat) (hk:k<=900000) (hZ:Z.natAbs<4294967296^k) (hY:Y.natAbs<4294967296^k) (hmm:m=m2) :
    Calls Tryz.prog 250 #[.agg #[.slice a n c,.bool m],.agg #[.slice a2 n2 c2,.bool m2]] w fun e w'=>IntTold w w' e (Z+Y):=by
 have BB:=Lib.hid (PO.start h g);have N1:Hid (∀wz,Bag w (PO w.heap.size a n c m Z a2 n2 c2 m2 Y) wz->Calls Tryz.prog 173 #[.agg #[.slice a n c,.bool m]] wz fun e w'=>e=.returned (.bool m)/\Below wz.heap.size wz w'):=fun wz hz=>neg_any a n c m Z wz hz.now.2.2.2.2
 have N2:Hid (∀wz,Bag w (PO w.heap.size a n c m Z a2 n2 c2 m2 Y) wz->Calls Tryz.prog 173 #[.agg #[.slice a2 n2 c2,.bool m2]] wz fun e w'=>e=.returned (.bool m2)/\Below wz.heap.size wz w'):=fun wz hz=>neg_any a2 n2 c2 m2 Y wz hz.now.2.2.2.1
 have hm1:=h.1;have hm2:=g.1;have hd:(m==m2)=true:=by rw[hmm];simp
 have AD:Hid (∀wz,Bag w (PO w.heap.size a n c m Z a2 n2 c2 m2 Y) wz->Calls Tryz.prog 167 #[.agg #[.slice a n c],.agg #[.slice a2 n2 c2]] wz fun e w'=>NatOf3 wz w' e (Z.natAbs+Y.natAbs)):=fun wz hz=>(add_any _ _ _ _ wz hz.now.2.2.2.2.2 hz.now.2.2.2.1.2 k hk hZ hY).mono fun _ _ h=>h.three
 have hz:sgn m (Z.natAbs+Y.natAbs)=Z+Y:=by
  rw[hm1]at hmm ⊢;rw[hm2]at hmm
  by_cases h1:Z<0
  · rw[decide_eq_true h1]at hmm ⊢;have:=of_decide_eq_true hmm.symm
    simp[sgn];omega
  · rw[decide_eq_false h1]at hmm ⊢;have:=of_decide_eq_false hmm.symm
    simp[sgn];omega
 have OF:Hid (∀a3 n3 c3 wz,NatIs wz (.agg #[.slice a3 n3 c3]) (Z.natAbs+Y.natAbs)->Calls Tryz.prog 116 #[.bool m,.agg #[.slice a3 n3 c3]] wz fun e w'=>IntTold wz w' e (Z+Y)):=by
  intro a3 n3 c3 wz hi;have:=wof_any m a3 n3 c3 _ wz hi;rw[hz]at this;exact this
 clear h g hm1 hm2 hmm hZ hY hz;go_enter Tryz.func250,Tryz.ntmps250;go_wp2_with fail
 go_region_held3 (fun y=>(y.cell? ⟨w.heap.size,0,none⟩=some (.slice a n c)/\y.cell? ⟨w.heap.size,1,none⟩=some (.bool m)/\y.cell? ⟨w.heap.size+1,0,none⟩=some (.slice a2 n2 c2)/\y.cell? ⟨w.heap.size+1,1,none⟩=some (.bool m2))/\Bag w (PO w.heap.size a n c m Z a2 n2 c2 m2 Y) y)
  (first|(have B9:=BB.out.drew;exact⟨B9.now.c,B9⟩)|(have B9:=Bag.go (by go_split_ands;assumption) hb2;exact⟨B9.now.c,B9⟩))
  (first|(go_at_call 173;(with_reducible refine(N1.out _ ?_).mono ?_);(go_split_ands;assumption);rintro e w2 ⟨rfl,hb2⟩)|(go_at_call 173;(with_reducible refine(N2.out _ ?_).mono ?_);(go_split_ands;assumption);rintro e w2 ⟨rfl,hb2⟩))
 have B3:=Lib.hid (show Bag w (PO w.heap.size a n c m Z a2 n2 c2 m2 Y) _ from by go_split_ands;assumption);go_wp2_with fail
 go_region_held3 (fun y => (y.cell? ⟨w.heap.size, 0, none⟩ = some (.slice a n c) /\ y.cell? ⟨w.heap.size, 1, none⟩ = some (.bool m) /\ y.cell? ⟨w.heap.size + 1, 0, none⟩ = some (.slice a2 n2 c2) /\ y.cell? ⟨w.heap.size + 1, 1, none⟩ = some (.bool m2)) /\ Bag w (PO w.heap.size a n c m Z a2 n2 c2 m2 Y) y)
  (first|(have B9:=B3.out.drew;exact⟨B9.now.c,B9⟩)|(have B9:=Bag.go (by go_split_ands;assumption) hb2;exact⟨B9.now.c,B9⟩)|(exact⟨B8.out.now.c,B8.out⟩))
  (first
    | (go_at_call 173;(with_reducible refine(N1.out _ ?_).mono ?_);(go_split_ands;assumption);rintro e w2 ⟨rfl,hb2⟩)
    | (go_at_call 167;(with_reducible refine(AD.out _ ?_).mono ?_);(go_split_ands;assumption);rintro e w2 ⟨a3,n3,c3,rfl,hi3,hb2⟩)
    | (go_at_call 116;(with_reducible refine(OF.out a3 n3 c3 _ hi3).mono ?_);rintro e w2 ⟨a4,n4,c4,m4,rfl,hi4,hb2⟩;have B7:=Bag.go (show Bag w (PO w.heap.size a n c m Z a2 n2 c2 m2 Y) _ from by go_split_ands;assumption) hb2;obtain⟨x8,b8,hs8,_⟩:=B7.now.1;have hc1:=hs8.cell;have hc2:=hs8.cell1;have hf1:=hs8.free;have hf2:=hs8.free1;clear hs8;have HS:=B7.now.1.cells a4 n4 c4 m4;have HE:=Lib.hid (IntTold.fin B7.below (by omega) B7.now.1 hi4);have B8:=Lib.hid (B7.put (by omega) (a:=a4) (n:=n4) (c:=c4) (b:=m4) (fun h=>h.put _ _ _ _));unfold putI at HS;clear B7))
 go_wp2;exact bodyPost_ret (by simp[results,Tryz.results250,go_sem,HS]) rfl HE.out
theorem plusOne_less (a : Option Addr) (n c : Nat) (m : Bool) (Z : Int) (a2 : Option Addr) (n2 c2 : Nat) (m2 : Bool) (Y : Int) (w : World) (h : IntAt w a n c m Z) (g : IntAt w a2 n2 c2 m2 Y)
    (hmm:¬m=m2) (hle:Y.natAbs<=Z.natAbs) :
    Calls Tryz.prog 250 #[.agg #[.slice a n c,.bool m],.agg #[.slice a2 n2 c2,.bool m2]] w fun e w'=>IntTold w w' e (Z+Y):=by
 have BB:=Lib.hid (PO.start h g);have q0:=BB.out.now.c.1;have q1:=BB.out.now.c.2.1;have q2:=BB.out.now.c.2.2.1;have q3:=BB.out.now.c.2.2.2;have N1:Hid (∀wz,Bag w (PO w.heap.size a n c m Z a2 n2 c2 m2 Y) wz->Calls Tryz.prog 173 #[.agg #[.slice a n c,.bool m]] wz fun e w'=>e=.returned (.bool m)/\Below wz.heap.size wz w'):=fun wz hz=>neg_any a n c m Z wz hz.now.2.2.2.2
 have N2:Hid (∀wz,Bag w (PO w.heap.size a n c m Z a2 n2 c2 m2 Y) wz->Calls Tryz.prog 173 #[.agg #[.slice a2 n2 c2,.bool m2]] wz fun e w'=>e=.returned (.bool m2)/\Below wz.heap.size wz w'):=fun wz hz=>neg_any a2 n2 c2 m2 Y wz hz.now.2.2.2.1
 have hm1:=h.1;have hm2:=g.1;have hd:(m==m2)=false:=by simpa using hmm
 have SB:Hid (∀wz,Bag w (PO w.heap.size a n c m Z a2 n2 c2 m2 Y) wz->Calls Tryz.prog 251 #[.agg #[.slice a n c],.agg #[.slice a2 n2 c2]] wz fun e w'=>SubOf3 wz w' e (Z.natAbs-Y.natAbs) true):=fun wz hz=>(sub_any _ _ _ _ wz hz.now.2.2.2.2.2 hz.now.2.2.2.1.2).mono fun _ _ h=>h.three (decide_eq_true hle)
 have hz:sgn m (Z.natAbs-Y.natAbs)=Z+Y:=by
  by_cases h1:Z<0
  · rw[decide_eq_true h1]at hm1;rw[hm1]at hmm
    by_cases h2:Y<0
    · rw[decide_eq_true h2]at hm2;exact absurd hm2.symm hmm
    · rw[decide_eq_false h2]at hm2;rw[hm1];simp[sgn];omega
  · rw[decide_eq_false h1]at hm1;rw[hm1]at hmm
    by_cases h2:Y<0
    · rw[decide_eq_true h2]at hm2;rw[hm1];simp[sgn];omega
    · rw[decide_eq_false h2]at hm2;exact absurd hm2.symm hmm
 have OF:Hid (∀a3 n3 c3 wz,NatIs wz (.agg #[.slice a3 n3 c3]) (Z.natAbs-Y.natAbs)->Calls Tryz.prog 116 #[.bool m,.agg #[.slice a3 n3 c3]] wz fun e w'=>IntTold wz w' e (Z+Y)):=by
  intro a3 n3 c3 wz hi;have:=wof_any m a3 n3 c3 _ wz hi;rw[hz]at this;exact this
 clear h g hm1 hm2 hmm hz hle;go_enter Tryz.func250,Tryz.ntmps250;go_wp2_with fail
 go_region_held3 (fun y=>(y.cell? ⟨w.heap.size,0,none⟩=some (.slice a n c)/\y.cell? ⟨w.heap.size,1,none⟩=some (.bool m)/\y.cell? ⟨w.heap.size+1,0,none⟩=some (.slice a2 n2 c2)/\y.cell? ⟨w.heap.size+1,1,none⟩=some (.bool m2))/\Bag w (PO w.heap.size a n c m Z a2 n2 c2 m2 Y) y)
  (first|(have B9:=BB.out.drew;exact⟨B9.now.c,B9⟩)|(have B9:=Bag.go (by go_split_ands;assumption) hb2;exact⟨B9.now.c,B9⟩))
  (first|(go_at_call 173;(with_reducible refine(N1.out _ ?_).mono ?_);(go_split_ands;assumption);rintro e w2 ⟨rfl,hb2⟩)|(go_at_call 173;(with_reducible refine(N2.out _ ?_).mono ?_);(go_split_ands;assumption);rintro e w2 ⟨rfl,hb2⟩))
 have B3:=Lib.hid (show Bag w (PO w.heap.size a n c m Z a2 n2 c2 m2 Y) _ from by go_split_ands;assumption);clear q0 q1 q2 q3;have q0:=B3.out.now.c.1;have q1:=B3.out.now.c.2.1;have q2:=B3.out.now.c.2.2.1;have q3:=B3.out.now.c.2.2.2;go_wp2_with fail;go_at_call 251;(with_reducible refine(SB.out _ B3.out).mono ?_);rintro e w4 ⟨a3,n3,c3,rfl,hi3,hb4⟩;have B4:=Lib.hid (((B3.out.go hb4).nat hi3).box (.slice a3 n3 c3) 49);have hk4:w.heap.size+1+1<w4.heap.size:=RS.lt (B3.out.go hb4).now.1;clear hb4 hi3 q0 q1 q2 q3;have q0:=B4.out.now.2.2.c.1;have q1:=B4.out.now.2.2.c.2.1;have q2:=B4.out.now.2.2.c.2.2.1;have q3:=B4.out.now.2.2.c.2.2.2;have q4:=B4.out.now.1.cell;go_wp2_with fail
 go_region_held3 (fun y => (y.cell? ⟨w.heap.size, 0, none⟩ = some (.slice a n c) /\ y.cell? ⟨w.heap.size, 1, none⟩ = some (.bool m) /\ y.cell? ⟨w.heap.size + 1, 0, none⟩ = some (.slice a2 n2 c2) /\ y.cell? ⟨w.heap.size + 1, 1, none⟩ = some (.bool m2)) /\ y.cell? ⟨w4.heap.size, 0, none⟩ = some (.slice a3 n3 c3) /\ Bag w (fun y => Slot y w4.heap.size (.slice a3 n3 c3) /\ NatIs y (.agg #[.slice a3 n3 c3]) (Z.natAbs - Y.natAbs) /\ PO w.heap.size a n c m Z a2 n2 c2 m2 Y y) y)
  (first|(have B9:=B4.out.drew;exact⟨B9.now.2.2.c,B9.now.1.cell,B9⟩)|(have B9:=Bag.go (by go_split_ands;assumption) hb2;exact⟨B9.now.2.2.c,B9.now.1.cell,B9⟩)|(exact⟨B8.out.now.2.2.c,B8.out.now.1.cell,B8.out⟩))
  (first
    | (go_at_call 173;(with_reducible refine(N1.out _ ?_).mono ?_);(have B6:=(show Bag w (fun y=>Slot y w4.heap.size (.slice a3 n3 c3)/\NatIs y (.agg #[.slice a3 n3 c3]) (Z.natAbs-Y.natAbs)/\PO w.heap.size a n c m Z a2 n2 c2 m2 Y y) _ from by go_split_ands;assumption);exact⟨B6.below,PO.stay,B6.now.2.2⟩);rintro e w2 ⟨rfl,hb2⟩)
    | (go_at_call 116;(with_reducible refine(OF.out a3 n3 c3 _ ?_).mono ?_);(have B6:=(show Bag w (fun y=>Slot y w4.heap.size (.slice a3 n3 c3)/\NatIs y (.agg #[.slice a3 n3 c3]) (Z.natAbs-Y.natAbs)/\PO w.heap.size a n c m Z a2 n2 c2 m2 Y y) _ from by go_split_ands;assumption);exact B6.now.2.1);rintro e w2 ⟨a4,n4,c4,m4,rfl,hi4,hb2⟩;have B7:=Bag.go (show Bag w (fun y=>Slot y w4.heap.size (.slice a3 n3 c3)/\NatIs y (.agg #[.slice a3 n3 c3]) (Z.natAbs-Y.natAbs)/\PO w.heap.size a n c m Z a2 n2 c2 m2 Y y) _ from by go_split_ands;assumption) hb2;obtain⟨x8,b8,hs8,_⟩:=B7.now.2.2.1;have hc1:=hs8.cell;have hc2:=hs8.cell1;have hf1:=hs8.free;have hf2:=hs8.free1;clear hs8;have HS:=B7.now.2.2.1.cells a4 n4 c4 m4;have HE:=Lib.hid (IntTold.fin B7.below (by omega) B7.now.2.2.1 hi4);have B8:=Lib.hid (B7.put (by omega) (a:=a4) (n:=n4) (c:=c4) (b:=m4) (fun h=>⟨h.1.put (by omega) _ _ _ _,h.2.1.put h.2.2.1 _ _ _ _,h.2.2.put _ _ _ _⟩));unfold putI at HS;clear B7))
 go_wp2;exact bodyPost_ret (by simp[results,Tryz.results250,go_sem,HS]) rfl HE.out
theorem plusOne_more (a : Option Addr) (n c : Nat) (m : Bool) (Z : Int) (a2 : Option Addr) (n2 c2 : Nat) (m2 : Bool) (Y : Int) (w : World) (h : IntAt w a n c m Z) (g : IntAt w a2 n2 c2 m2 Y)
    (hmm:¬m=m2) (hle:Z.natAbs<Y.natAbs) :
    Calls Tryz.prog 250 #[.agg #[.slice a n c,.bool m],.agg #[.slice a2 n2 c2,.bool m2]] w fun e w'=>IntTold w w' e (Z+Y):=by
 have BB:=Lib.hid (PO.start h g);have q0:=BB.out.now.c.1;have q1:=BB.out.now.c.2.1;have q2:=BB.out.now.c.2.2.1;have q3:=BB.out.now.c.2.2.2;have N1:Hid (∀wz,Bag w (PO w.heap.size a n c m Z a2 n2 c2 m2 Y) wz->Calls Tryz.prog 173 #[.agg #[.slice a n c,.bool m]] wz fun e w'=>e=.returned (.bool m)/\Below wz.heap.size wz w'):=fun wz hz=>neg_any a n c m Z wz hz.now.2.2.2.2
 have N2:Hid (∀wz,Bag w (PO w.heap.size a n c m Z a2 n2 c2 m2 Y) wz->Calls Tryz.prog 173 #[.agg #[.slice a2 n2 c2,.bool m2]] wz fun e w'=>e=.returned (.bool m2)/\Below wz.heap.size wz w'):=fun wz hz=>neg_any a2 n2 c2 m2 Y wz hz.now.2.2.2.1
 have hm1:=h.1;have hm2:=g.1;have hd:(m==m2)=false:=by simpa using hmm
 have SB:Hid (∀wz,Bag w (PO w.heap.size a n c m Z a2 n2 c2 m2 Y) wz->Calls Tryz.prog 251 #[.agg #[.slice a n c],.agg #[.slice a2 n2 c2]] wz fun e w'=>SubOf3 wz w' e (Z.natAbs-Y.natAbs) false):=fun wz hz=>(sub_any _ _ _ _ wz hz.now.2.2.2.2.2 hz.now.2.2.2.1.2).mono fun _ _ h=>h.three (decide_eq_false (by omega))
 have SB2:Hid (∀wz,Bag w (PO w.heap.size a n c m Z a2 n2 c2 m2 Y) wz->Calls Tryz.prog 251 #[.agg #[.slice a2 n2 c2],.agg #[.slice a n c]] wz fun e w'=>SubOf3 wz w' e (Y.natAbs-Z.natAbs) true):=fun wz hz=>(sub_any _ _ _ _ wz hz.now.2.2.2.1.2 hz.now.2.2.2.2.2).mono fun _ _ h=>h.three (decide_eq_true (by omega))
 have hz:sgn m2 (Y.natAbs-Z.natAbs)=Z+Y:=by
  by_cases h1:Z<0
  · rw[decide_eq_true h1]at hm1;rw[hm1]at hmm
    by_cases h2:Y<0
    · rw[decide_eq_true h2]at hm2;exact absurd hm2.symm hmm
    · rw[decide_eq_false h2]at hm2;rw[hm2];simp[sgn];omega
  · rw[decide_eq_false h1]at hm1;rw[hm1]at hmm
    by_cases h2:Y<0
    · rw[decide_eq_true h2]at hm2;rw[hm2];simp[sgn];omega
    · rw[decide_eq_false h2]at hm2;exact absurd hm2.symm hmm
 have OF:Hid (∀a3 n3 c3 wz,NatIs wz (.agg #[.slice a3 n3 c3]) (Y.natAbs-Z.natAbs)->Calls Tryz.prog 116 #[.bool m2,.agg #[.slice a3 n3 c3]] wz fun e w'=>IntTold wz w' e (Z+Y)):=by
  intro a3 n3 c3 wz hi;have:=wof_any m2 a3 n3 c3 _ wz hi;rw[hz]at this;exact this
 clear h g hm1 hm2 hmm hz hle;go_enter Tryz.func250,Tryz.ntmps250;go_wp2_with fail
 go_region_held3 (fun y=>(y.cell? ⟨w.heap.size,0,none⟩=some (.slice a n c)/\y.cell? ⟨w.heap.size,1,none⟩=some (.bool m)/\y.cell? ⟨w.heap.size+1,0,none⟩=some (.slice a2 n2 c2)/\y.cell? ⟨w.heap.size+1,1,none⟩=some (.bool m2))/\Bag w (PO w.heap.size a n c m Z a2 n2 c2 m2 Y) y)
  (first|(have B9:=BB.out.drew;exact⟨B9.now.c,B9⟩)|(have B9:=Bag.go (by go_split_ands;assumption) hb2;exact⟨B9.now.c,B9⟩))
  (first|(go_at_call 173;(with_reducible refine(N1.out _ ?_).mono ?_);(go_split_ands;assumption);rintro e w2 ⟨rfl,hb2⟩)|(go_at_call 173;(with_reducible refine(N2.out _ ?_).mono ?_);(go_split_ands;assumption);rintro e w2 ⟨rfl,hb2⟩))
 have B3:=Lib.hid (show Bag w (PO w.heap.size a n c m Z a2 n2 c2 m2 Y) _ from by go_split_ands;assumption);clear q0 q1 q2 q3;have q0:=B3.out.now.c.1;have q1:=B3.out.now.c.2.1;have q2:=B3.out.now.c.2.2.1;have q3:=B3.out.now.c.2.2.2;go_wp2_with fail;go_at_call 251;(with_reducible refine(SB.out _ B3.out).mono ?_);rintro e w4 ⟨a3,n3,c3,rfl,hi3,hb4⟩;have B3:=Lib.hid ((B3.out.go hb4).alloc (.cells #[.slice a3 n3 c3] 49));clear hb4 hi3 q0 q1 q2 q3;have q0:=B3.out.now.c.1;have q1:=B3.out.now.c.2.1;have q2:=B3.out.now.c.2.2.1;have q3:=B3.out.now.c.2.2.2;go_wp2_with fail;go_at_call 251;(with_reducible refine(SB2.out _ B3.out).mono ?_);rintro e w4 ⟨a3,n3,c3,rfl,hi3,hb4⟩;have B4:=Lib.hid (((B3.out.go hb4).nat hi3).box (.slice a3 n3 c3) 49);have hk4:w.heap.size+1+1<w4.heap.size:=RS.lt (B3.out.go hb4).now.1;clear hb4 hi3 q0 q1 q2 q3;have q0:=B4.out.now.2.2.c.1;have q1:=B4.out.now.2.2.c.2.1;have q2:=B4.out.now.2.2.c.2.2.1;have q3:=B4.out.now.2.2.c.2.2.2;have q4:=B4.out.now.1.cell;go_wp2_with fail
 go_region_held3 (fun y => (y.cell? ⟨w.heap.size, 0, none⟩ = some (.slice a n c) /\ y.cell? ⟨w.heap.size, 1, none⟩ = some (.bool m) /\ y.cell? ⟨w.heap.size + 1, 0, none⟩ = some (.slice a2 n2 c2) /\ y.cell? ⟨w.heap.size + 1, 1, none⟩ = some (.bool m2)) /\ y.cell? ⟨w4.heap.size, 0, none⟩ = some (.slice a3 n3 c3) /\ Bag w (fun y => Slot y w4.heap.size (.slice a3 n3 c3) /\ NatIs y (.agg #[.slice a3 n3 c3]) (Y.natAbs - Z.natAbs) /\ PO w.heap.size a n c m Z a2 n2 c2 m2 Y y) y)
  (first|(have B9:=B4.out.drew;exact⟨B9.now.2.2.c,B9.now.1.cell,B9⟩)|(have B9:=Bag.go (by go_split_ands;assumption) hb2;exact⟨B9.now.2.2.c,B9.now.1.cell,B9⟩)|(exact⟨B8.out.now.2.2.c,B8.out.now.1.cell,B8.out⟩))
  (first
    | (go_at_call 173;(with_reducible refine(N2.out _ ?_).mono ?_);(have B6:=(show Bag w (fun y=>Slot y w4.heap.size (.slice a3 n3 c3)/\NatIs y (.agg #[.slice a3 n3 c3]) (Y.natAbs-Z.natAbs)/\PO w.heap.size a n c m Z a2 n2 c2 m2 Y y) _ from by go_split_ands;assumption);exact⟨B6.below,PO.stay,B6.now.2.2⟩);rintro e w2 ⟨rfl,hb2⟩)
    | (go_at_call 116;(with_reducible refine(OF.out a3 n3 c3 _ ?_).mono ?_);(have B6:=(show Bag w (fun y=>Slot y w4.heap.size (.slice a3 n3 c3)/\NatIs y (.agg #[.slice a3 n3 c3]) (Y.natAbs-Z.natAbs)/\PO w.heap.size a n c m Z a2 n2 c2 m2 Y y) _ from by go_split_ands;assumption);exact B6.now.2.1);rintro e w2 ⟨a4,n4,c4,m4,rfl,hi4,hb2⟩;have B7:=Bag.go (show Bag w (fun y=>Slot y w4.heap.size (.slice a3 n3 c3)/\NatIs y (.agg #[.slice a3 n3 c3]) (Y.natAbs-Z.natAbs)/\PO w.heap.size a n c m Z a2 n2 c2 m2 Y y) _ from by go_split_ands;assumption) hb2;obtain⟨x8,b8,hs8,_⟩:=B7.now.2.2.1;have hc1:=hs8.cell;have hc2:=hs8.cell1;have hf1:=hs8.free;have hf2:=hs8.free1;clear hs8;have HS:=B7.now.2.2.1.cells a4 n4 c4 m4;have HE:=Lib.hid (IntTold.fin B7.below (by omega) B7.now.2.2.1 hi4);have B8:=Lib.hid (B7.put (by omega) (a:=a4) (n:=n4) (c:=c4) (b:=m4) (fun h=>⟨h.1.put (by omega) _ _ _ _,h.2.1.put h.2.2.1 _ _ _ _,h.2.2.put _ _ _ _⟩));unfold putI at HS;clear B7))
 go_wp2;exact bodyPost_ret (by simp[results,Tryz.results250,go_sem,HS]) rfl HE.out
theorem plusOne_any (a : Option Addr) (n c : Nat) (m : Bool) (Z : Int) (a2 : Option Addr) (n2 c2 : Nat) (m2 : Bool) (Y : Int) (w : World) (h : IntAt w a n c m Z) (g : IntAt w a2 n2 c2 m2 Y)
    (k:Nat) (hk:k<=900000) (hZ:Z.natAbs<4294967296^k) (hY:Y.natAbs<4294967296^k) :
    Calls Tryz.prog 250 #[.agg #[.slice a n c,.bool m],.agg #[.slice a2 n2 c2,.bool m2]] w fun e w'=>IntTold w w' e (Z+Y):=by
 by_cases hmm:m=m2
 · exact plusOne_same a n c m Z a2 n2 c2 m2 Y w h g k hk hZ hY hmm
 · rcases Nat.lt_or_ge Z.natAbs Y.natAbs with hl|hl
   · exact plusOne_more a n c m Z a2 n2 c2 m2 Y w h g hmm hl
   · exact plusOne_less a n c m Z a2 n2 c2 m2 Y w h g hmm hl
end Go.Proofs.YtdmmenaejkpnjaaGreatDoor
namespace Go.Proofs.YtdmmenaejkpnjaaGreatDoor
open Go.RowKit
def IntsAt(w:World)(sa:Option Addr)(n c:Nat)(f:Nat->Int):Prop:=n<=c/\n<=1000/\(n=0∨∃b off,sa=some ⟨b,off,none⟩/\b<w.heap.size /\
 ∀j,j<n->∃a' n' c' m',w.cell? ⟨b,off+j*2,none⟩=some (.slice a' n' c')/\w.cell? ⟨b,off+j*2+1,none⟩=some (.bool m')/\IntAt w a' n' c' m' (f j))
theorem IntsAt.below{w w':World}{sa:Option Addr}{n c:Nat}{f:Nat->Int}(h:IntsAt w sa n c f)(hb:Below w.heap.size w w'):IntsAt w' sa n c f:=by
 obtain⟨h0,h1,h2⟩:=h;refine⟨h0,h1,?_⟩
 rcases h2 with h2|⟨b,off,rfl,hl,hc⟩
 · exact .inl h2
 · refine .inr ⟨b,off,rfl,Nat.lt_of_lt_of_le hl hb.size,fun j hj => ?_⟩;obtain⟨a',n',c',m',e1,e2,e3⟩:=hc j hj;exact⟨a',n',c',m',(hb.cell (p:=⟨b,_,none⟩) hl).trans e1,(hb.cell (p:=⟨b,_,none⟩) hl).trans e2,e3.below hb⟩
theorem IntsAt.get {w : World} {sa : Option Addr} {n c : Nat} {f : Nat -> Int} (h : IntsAt w sa n c f) {j : Nat} (hj : j < n) :
    ∃b off a' n' c' m',sa=some ⟨b,off,none⟩/\b<w.heap.size/\w.cell? ⟨b,off+j*2,none⟩=some (.slice a' n' c')/\w.cell? ⟨b,off+j*2+1,none⟩=some (.bool m')/\IntAt w a' n' c' m' (f j):=by
 obtain⟨h0,h1,h2⟩:=h
 rcases h2 with h2|⟨b,off,rfl,hl,hc⟩
 · omega
 · obtain⟨a',n',c',m',e⟩:=hc j hj;exact⟨b,off,a',n',c',m',rfl,hl,e⟩
def psum(Z:Int)(f:Nat->Int):Nat->Int
 | 0=>Z
 | k+1=>psum Z f k+f k
def asum(f:Nat->Int):Nat->Nat
 | 0=>0
 | k+1=>asum f k+(f k).natAbs
theorem asum_mono(f:Nat->Int){k n:Nat}(h:k<=n):asum f k<=asum f n:=by
 induction n with
 | zero => obtain rfl : k = 0 := by omega
           exact Nat.le_refl _
 | succ n ih =>
  rcases Nat.lt_or_ge k (n+1)with h1|h1
  · have:=ih (by omega);rw[asum];omega
  · obtain rfl:k=n+1:=by omega
    exact Nat.le_refl _
theorem psum_abs(Z:Int)(f:Nat->Int):∀k,(psum Z f k).natAbs<=Z.natAbs+asum f k
 | 0=>by simp[psum,asum]
 | k+1=>by have:=psum_abs Z f k;rw[psum,asum];omega
theorem asum_get(f:Nat->Int){k n:Nat}(h:k<n):(f k).natAbs<=asum f n:=by
 have:=asum_mono f (show k+1<=n from h);rw[asum]at this;omega
def PL(w wr:World)(V:Int):Prop:=Below w.heap.size w wr/\RS wr (w.heap.size+1)/\∃a n c m,Slot2 wr (w.heap.size+1+1) (.slice a n c) (.bool m)/\IntAt wr a n c m V
theorem plus_any (a : Option Addr) (n c : Nat) (m : Bool) (Z : Int) (sa : Option Addr) (ln lc : Nat) (f : Nat -> Int) (w : World) (h : IntAt w a n c m Z) (g : IntsAt w sa ln lc f)
    (K:Nat) (hK:K<=900000) (hb:Z.natAbs+asum f ln<4294967296^K) :
    Calls Tryz.prog 228 #[.agg #[.slice a n c,.bool m],.slice sa ln lc] w fun e w'=>IntTold w w' e (psum Z f ln):=by
 have B0:=(((((Bag.start w).int h).box2 (.slice a n c) (.bool m) 51).box2 (.slice none 0 0) (.bool false) 51)).box2 (.slice a n c) (.bool m) 51;simp only[World.size_alloc]at B0;have H0:Hid (PL w _ (psum Z f 0)):=⟨B0.below,B0.now.2.1.rs,a,n,c,m,B0.now.1,B0.now.2.2.2.1⟩
 have q0:=B0.now.2.2.1.cell;have q1:=B0.now.2.2.1.cell1;have HG:=Lib.hid g;have hln:ln<=1000/\ln<=lc:=⟨g.2.1,g.1⟩
 have HB:Hid (∀k,k<ln->(psum Z f k).natAbs<4294967296^K/\(f k).natAbs<4294967296^K):=fun k hk=>by
  have h1:=psum_abs Z f k;have h2:=asum_mono f (Nat.le_of_lt hk);have h3:=asum_get f hk;exact⟨by omega,by omega⟩
 clear B0 h g hb;go_enter Tryz.func228,Tryz.ntmps228;go_wp2
 go_loopw [11] (fun i wr=>∃k:Nat,k<=ln/\i=.int .i64 k/\PL w wr (psum Z f k)) (fun i _=>ln-(intOf i).toNat)
 case atStart=>exact⟨0,by omega,rfl,H0.out⟩
 case round =>
  obtain⟨k,hk,rfl,hr⟩:=hrel
  by_cases hlt:k<ln
  · obtain⟨hbl,hrs,a3,n3,c3,m3,hs3,hi3⟩:=hr;obtain⟨b,off,a',n',c',m',rfl,hlb,e1,e2,hi'⟩:=(HG.out.below hbl).get hlt;have B1:=((((Bag.start wr).int hi3).int hi').slot2 hs3).box2 (.slice a' n' c') (.bool m') 51;have HBK:=HB.out k hlt;have PO1:=Lib.hid (plusOne_any a3 n3 c3 m3 (psum Z f k) a' n' c' m' (f k) _ B1.now.2.2.2.1 B1.now.2.2.1 K hK HBK.1 HBK.2);have HBL:=Lib.hid hbl;have HRS:=Lib.hid hrs;have p0:=B1.now.2.1.cell;have p1:=B1.now.2.1.cell1;have BB:=Lib.hid B1;have hwr:w.heap.size<=wr.heap.size:=hbl.size;clear hbl hrs hi3 hi' B1 HBK hs3 q0 q1;go_wp2_with fail;go_at_call 250;(with_reducible refine PO1.out.mono ?_);rintro e w4 ⟨a5,n5,c5,m5,rfl,hi5,hb5⟩;have B5:=BB.out.go hb5;have hs5:=B5.now.2.1;have hc1:=hs5.cell;have hc2:=hs5.cell1;have hf1:=hs5.free;have hf2:=hs5.free1;have hb6:=HBL.out.trans (B5.below.mono hwr)
    have HN:Hid (PL w (putI w4 (w.heap.size+1+1) a5 n5 c5 m5) (psum Z f (k+1))):=by
     refine⟨(hb6.setCell (show w.heap.size<=w.heap.size+1+1 by omega) _).setCell (show w.heap.size<=w.heap.size+1+1 by omega) _,?_,a5,n5,c5,m5,?_,hi5.put hs5.rs _ _ _ _⟩
     · exact(HRS.out.below B5.below).put _ _ _ _
     · have:=hs5.set (.slice a5 n5 c5) (.bool m5);exact⟨this.1,this.2,by simp[putI,hs5.free],by simp[putI,hs5.free1],by simpa[putI]using hs5.lt⟩
    unfold putI at HN;clear hb5 hi5 B5 hs5 hb6 p0 p1;go_wp2
    go_roundw
    case rel=>exact⟨k+1,by omega,by go_num,HN.out⟩
    case measure=>simp[intOf];omega
  · obtain rfl:k=ln:=by omega
    obtain⟨hbl,hrs,a3,n3,c3,m3,hs3,hi3⟩:=hr;have HE:=Lib.hid (IntTold.fin hbl (by omega) hrs hi3);have HS:=hrs.cells a3 n3 c3 m3;unfold putI at HS;have p0:=hs3.cell;have p1:=hs3.cell1;obtain⟨x8,b8,hs8,_⟩:=hrs;have hc1:=hs8.cell;have hc2:=hs8.cell1;have hf1:=hs8.free;have hf2:=hs8.free1;clear hs8 hs3 hi3 hbl q0 q1;go_wp2;exact bodyPost_ret (by simp[results,Tryz.results228,go_sem,HS]) rfl HE.out
end Go.Proofs.YtdmmenaejkpnjaaGreatDoor
namespace Go.Proofs.YtdmmenaejkpnjaaGreatDoor
open Go.RowKit
attribute [local go_sem ↓] Go.wp_at_zero Go.wp_at_succ
def flA(Z Y:Int):Bool:=decide (Z<0) != decide (Y<0)
def flU(Z Y:Int):Bool:=flA Z Y && !decide (Z.natAbs%Y.natAbs=0)
def flQ(Z Y:Int):Int:=sgn (flA Z Y) (if flU Z Y then Z.natAbs / Y.natAbs+1 else Z.natAbs / Y.natAbs)
def FP(k:Nat)(a:Option Addr)(n c:Nat)(m:Bool)(Z:Int)(a2:Option Addr)(n2 c2:Nat)(m2:Bool)(Y:Int)(y:World):Prop :=
 RS y (k+1+1)/\RS y (k+1+1+1)/\Slot2 y (k+1) (.slice a2 n2 c2) (.bool m2)/\Slot2 y k (.slice a n c) (.bool m)/\IntAt y a2 n2 c2 m2 Y/\IntAt y a n c m Z
theorem FP.stay{k:Nat}{a:Option Addr}{n c:Nat}{m:Bool}{Z:Int}{a2:Option Addr}{n2 c2:Nat}{m2:Bool}{Y:Int}:∀x y,Below x.heap.size x y->FP k a n c m Z a2 n2 c2 m2 Y x->FP k a n c m Z a2 n2 c2 m2 Y y :=
 fun _ _ hb h=>⟨h.1.below hb,h.2.1.below hb,h.2.2.1.below hb,h.2.2.2.1.below hb,h.2.2.2.2.1.below hb,h.2.2.2.2.2.below hb⟩
theorem FP.start {w : World} {a : Option Addr} {n c : Nat} {m : Bool} {Z : Int} {a2 : Option Addr} {n2 c2 : Nat} {m2 : Bool} {Y : Int} (h : IntAt w a n c m Z) (g : IntAt w a2 n2 c2 m2 Y) :
    Bag w (FP w.heap.size a n c m Z a2 n2 c2 m2 Y) ((((w.alloc (.cells #[.slice a n c,.bool m] 51)).alloc (.cells #[.slice a2 n2 c2,.bool m2] 51)).alloc (.cells #[.slice none 0 0,.bool false] 51)).alloc (.cells #[.slice none 0 0,.bool false] 51)):=by
 have B0:=((((((Bag.start w).int h).int g).box2 (.slice a n c) (.bool m) 51).box2 (.slice a2 n2 c2) (.bool m2) 51).box2 (.slice none 0 0) (.bool false) 51).box2 (.slice none 0 0) (.bool false) 51;simp only[World.size_alloc]at B0;exact⟨B0.below,FP.stay,B0.now.2.1.rs,B0.now.1.rs,B0.now.2.2.1,B0.now.2.2.2.1,B0.now.2.2.2.2.1,B0.now.2.2.2.2.2.1⟩
theorem FP.put{k j:Nat}{a:Option Addr}{n c:Nat}{m:Bool}{Z:Int}{a2:Option Addr}{n2 c2:Nat}{m2:Bool}{Y:Int}{y:World}(h:FP k a n c m Z a2 n2 c2 m2 Y y)(hj:RS y j)(h1:k≠j)(h2:k+1≠j)(a3:Option Addr)(n3 c3:Nat)(b:Bool):FP k a n c m Z a2 n2 c2 m2 Y (putI y j a3 n3 c3 b) :=
 ⟨h.1.put _ _ _ _,h.2.1.put _ _ _ _,h.2.2.1.put h2 _ _ _ _,h.2.2.2.1.put h1 _ _ _ _,h.2.2.2.2.1.put hj _ _ _ _,h.2.2.2.2.2.put hj _ _ _ _⟩
def DivOf3(w w':World)(e:Ending)(N M:Nat)(b:Bool):Prop:=∃a n c a2 n2 c2,e=.returned (.tuple #[.agg #[.slice a n c],.agg #[.slice a2 n2 c2],.bool b])/\NatIs w' (.agg #[.slice a n c]) N/\NatIs w' (.agg #[.slice a2 n2 c2]) M/\Below w.heap.size w w'
theorem DivOut.three{w w':World}{e:Ending}{N M:Nat}{b:Bool}(h:DivOut w w' e N M)(hb:decide (M≠0)=b):DivOf3 w w' e (N / M) (modz N M) b:=by
 obtain⟨v,u,h1,⟨a,n,c,f,h2,h3,h4,h5⟩,⟨a',n',c',f',h2',h3',h4',h5'⟩,h6⟩:=h;exact⟨a,n,c,a',n',c',by rw[h1,h2,h2',hb],⟨a,n,c,f,rfl,h3,h4,h5⟩,⟨a',n',c',f',rfl,h3',h4',h5'⟩,h6⟩
def pprod(Z:Int)(f:Nat->Int):Nat->Int
 | 0=>Z
 | k+1=>pprod Z f k*f k
theorem sgn_mul(Z Y:Int):sgn (decide (Z<0) != decide (Y<0)) (Z.natAbs*Y.natAbs)=Z*Y:=by
 by_cases hz:Z<0
 · obtain⟨x,rfl⟩:∃x:Nat,Z = -(x:Int):=⟨Z.natAbs,by omega⟩
   by_cases hy:Y<0
   · obtain⟨y,rfl⟩:∃y:Nat,Y = -(y:Int):=⟨Y.natAbs,by omega⟩
     rw[decide_eq_true hz,decide_eq_true hy]
     simp[sgn,Int.neg_mul_neg]
   · obtain⟨y,rfl⟩:∃y:Nat,Y=(y:Int):=⟨Y.natAbs,by omega⟩
     rw[decide_eq_true hz,decide_eq_false hy]
     simp[sgn,Int.neg_mul]
 · obtain⟨x,rfl⟩:∃x:Nat,Z=(x:Int):=⟨Z.natAbs,by omega⟩
   by_cases hy:Y<0
   · obtain⟨y,rfl⟩:∃y:Nat,Y = -(y:Int):=⟨Y.natAbs,by omega⟩
     rw[decide_eq_false hz,decide_eq_true hy]
     simp[sgn,Int.mul_neg]
   · obtain⟨y,rfl⟩:∃y:Nat,Y=(y:Int):=⟨Y.natAbs,by omega⟩
     rw[decide_eq_false hz,decide_eq_false hy]
     simp[sgn]
def TP(k1 k2 k7:Nat)(a:Option Addr)(n c:Nat)(m:Bool)(Z:Int)(a2:Option Addr)(n2 c2:Nat)(m2:Bool)(Y:Int)(y:World):Prop :=
 RS y k2/\RS y k1/\IntAt y a n c m Z/\IntAt y a2 n2 c2 m2 Y/\Slot2 y k7 (.slice a2 n2 c2) (.bool m2)
theorem TP.stay{k1 k2 k7:Nat}{a:Option Addr}{n c:Nat}{m:Bool}{Z:Int}{a2:Option Addr}{n2 c2:Nat}{m2:Bool}{Y:Int}:∀x y,Below x.heap.size x y->TP k1 k2 k7 a n c m Z a2 n2 c2 m2 Y x->TP k1 k2 k7 a n c m Z a2 n2 c2 m2 Y y :=
 fun _ _ hb h=>⟨h.1.below hb,h.2.1.below hb,h.2.2.1.below hb,h.2.2.2.1.below hb,h.2.2.2.2.below hb⟩
theorem TP.put{k1 k2 k7:Nat}{a:Option Addr}{n c:Nat}{m:Bool}{Z:Int}{a2:Option Addr}{n2 c2:Nat}{m2:Bool}{Y:Int}{y:World}(h:TP k1 k2 k7 a n c m Z a2 n2 c2 m2 Y y)(hk:k7≠k2)(a3:Option Addr)(n3 c3:Nat)(b:Bool):TP k1 k2 k7 a n c m Z a2 n2 c2 m2 Y (putI y k2 a3 n3 c3 b) :=
 ⟨h.1.put _ _ _ _,h.2.1.put _ _ _ _,h.2.2.1.put h.1 _ _ _ _,h.2.2.2.1.put h.1 _ _ _ _,h.2.2.2.2.put hk _ _ _ _⟩
theorem slot2_putI{w:World}{k:Nat}{x y:Value}(h:Slot2 w k x y)(a:Option Addr)(n c:Nat)(b:Bool):Slot2 (putI w k a n c b) k (.slice a n c) (.bool b) :=
 ⟨(h.set _ _).1,(h.set _ _).2,by simp[putI,h.free],by simp[putI,h.free1],by simpa[putI]using h.lt⟩
theorem times_any (a : Option Addr) (n c : Nat) (m : Bool) (Z : Int) (sa : Option Addr) (ln lc : Nat) (f : Nat -> Int) (w : World) (h : IntAt w a n c m Z) (g : IntsAt w sa ln lc f)
    (K:Nat) (hK:K<=400000) (hb:∀k,k<ln->(pprod Z f k).natAbs<4294967296^K/\(f k).natAbs<4294967296^K) :
    Calls Tryz.prog 122 #[.agg #[.slice a n c,.bool m],.slice sa ln lc] w fun e w'=>IntTold w w' e (pprod Z f ln):=by
 have B0:=(((((Bag.start w).int h).box2 (.slice a n c) (.bool m) 51).box2 (.slice none 0 0) (.bool false) 51)).box2 (.slice a n c) (.bool m) 51;simp only[World.size_alloc]at B0;have H0:Hid (PL w _ (pprod Z f 0)):=⟨B0.below,B0.now.2.1.rs,a,n,c,m,B0.now.1,B0.now.2.2.2.1⟩
 have q0:=B0.now.2.2.1.cell;have q1:=B0.now.2.2.1.cell1;have HG:=Lib.hid g;have hln:ln<=1000/\ln<=lc:=⟨g.2.1,g.1⟩
 have HB:=Lib.hid hb;clear B0 h g hb;go_enter Tryz.func122,Tryz.ntmps122;go_wp2
 go_loopw [11] (fun i wr=>∃k:Nat,k<=ln/\i=.int .i64 k/\PL w wr (pprod Z f k)) (fun i _=>ln-(intOf i).toNat)
 case atStart=>exact⟨0,by omega,rfl,H0.out⟩
 case round =>
  obtain⟨k,hk,rfl,hr⟩:=hrel
  by_cases hlt:k<ln
  · obtain ⟨hbl, hrs, a3, n3, c3, m3, hs3, hi3⟩ := hr; obtain ⟨b, off, a', n', c', m', rfl, hlb, e1, e2, hi'⟩ := (HG.out.below hbl).get hlt; have hwr : w.heap.size <= wr.heap.size := hbl.size; have hw2 : w.heap.size + 1 + 1 < wr.heap.size := hs3.lt; have hm3 := hi3.1; have hm' := hi'.1; have HBK := HB.out k hlt; obtain ⟨ZZ, hZZ⟩ : ∃ ZZ, pprod Z f k = ZZ := ⟨_, rfl⟩
    obtain⟨YY,hYY⟩:∃YY,f k=YY:=⟨_,rfl⟩
    have hnext:pprod Z f (k+1)=ZZ*YY:=by rw[pprod,hZZ,hYY]
    rw[hZZ]at hi3 HBK hm3;rw[hYY]at hi' HBK hm'
    have B1:Bag w (TP (w.heap.size+1) (w.heap.size+1+1) wr.heap.size a3 n3 c3 m3 ZZ a' n' c' m' YY) (wr.alloc (.cells #[.slice a' n' c',.bool m'] 51)):=by
     have B1:=((((Bag.start wr).int hi3).int hi').slot2 hs3).box2 (.slice a' n' c') (.bool m') 51;exact⟨hbl.trans (B1.below.mono hwr),TP.stay,B1.now.2.1.rs,hrs.below B1.below,B1.now.2.2.2.1,B1.now.2.2.1,B1.now.1⟩
    have N1:Hid (∀wz,TP (w.heap.size+1) (w.heap.size+1+1) wr.heap.size a3 n3 c3 m3 ZZ a' n' c' m' YY wz->Calls Tryz.prog 173 #[.agg #[.slice a3 n3 c3,.bool m3]] wz fun e w'=>e=.returned (.bool m3)/\Below wz.heap.size wz w'):=fun wz hz=>neg_any a3 n3 c3 m3 ZZ wz hz.2.2.1
    have N2:Hid (∀wz,TP (w.heap.size+1) (w.heap.size+1+1) wr.heap.size a3 n3 c3 m3 ZZ a' n' c' m' YY wz->Calls Tryz.prog 173 #[.agg #[.slice a' n' c',.bool m']] wz fun e w'=>e=.returned (.bool m')/\Below wz.heap.size wz w'):=fun wz hz=>neg_any a' n' c' m' YY wz hz.2.2.2.1
    have MU:Hid (∀wz,TP (w.heap.size+1) (w.heap.size+1+1) wr.heap.size a3 n3 c3 m3 ZZ a' n' c' m' YY wz->Calls Tryz.prog 176 #[.agg #[.slice a3 n3 c3],.agg #[.slice a' n' c']] wz fun e w'=>NatOf3 wz w' e (ZZ.natAbs*YY.natAbs)):=fun wz hz=>(mul_any _ _ _ _ wz hz.2.2.1.2 hz.2.2.2.1.2 K hK HBK.1 HBK.2).mono fun _ _ h=>h.three
    have OF:Hid (∀a4 n4 c4 wz,NatIs wz (.agg #[.slice a4 n4 c4]) (ZZ.natAbs*YY.natAbs)->Calls Tryz.prog 116 #[.bool (!(m3==m')),.agg #[.slice a4 n4 c4]] wz fun e w'=>IntTold wz w' e (ZZ*YY)):=by
     intro a4 n4 c4 wz hi;have:=wof_any (m3 != m') a4 n4 c4 _ wz hi;rw[hm3,hm',sgn_mul]at this;rw[hm3,hm'];exact this
    have HBL:=Lib.hid hbl;have HRS:=Lib.hid hrs;have HNX:=Lib.hid hnext;have BB:=Lib.hid B1.drew;have SS:Hid (Slot2 (wr.alloc (.cells #[.slice a' n' c',.bool m'] 51)).drew (w.heap.size+1+1) (.slice a3 n3 c3) (.bool m3)):=hs3.below (((Below.refl _ _).alloc (Nat.le_refl _) _).drew);have p2:=SS.out.cell;have p3:=SS.out.cell1;obtain⟨mm,hmm⟩:∃mm,(!(m3==m'))=mm:=⟨_,rfl⟩
    rw[hmm]at OF;clear hbl hrs hi3 hi' B1 HBK hs3 q0 q1 hZZ hYY hnext hm3 hm';go_wp2_with fail;have p0:=BB.out.now.2.2.2.2.cell;have p1:=BB.out.now.2.2.2.2.cell1
    go_region_with (first
        | (go_at_call 173;(with_reducible refine(N1.out _ BB.out.now).mono ?_);rintro e w2 ⟨rfl,hb2⟩;have BB:=Lib.hid (BB.out.go hb2);have SS:=Lib.hid (SS.out.below hb2);have p0:=BB.out.now.2.2.2.2.cell;have p1:=BB.out.now.2.2.2.2.cell1;have p2:=SS.out.cell;have p3:=SS.out.cell1;clear hb2)
        | (go_at_call 173;(with_reducible refine(N2.out _ BB.out.now).mono ?_);rintro e w2 ⟨rfl,hb2⟩;have BB:=Lib.hid (BB.out.go hb2);have SS:=Lib.hid (SS.out.below hb2);have p0:=BB.out.now.2.2.2.2.cell;have p1:=BB.out.now.2.2.2.2.cell1;have p2:=SS.out.cell;have p3:=SS.out.cell1;clear hb2)
        | (go_at_call 176;(with_reducible refine(MU.out _ BB.out.now).mono ?_);rintro e w2 ⟨a4,n4,c4,rfl,hi4,hb2⟩;have BB:=Lib.hid (BB.out.go hb2);have SS:=Lib.hid (SS.out.below hb2);have p0:=BB.out.now.2.2.2.2.cell;have p1:=BB.out.now.2.2.2.2.cell1;have p2:=SS.out.cell;have p3:=SS.out.cell1;clear hb2)
        | (go_at_call 116;(with_reducible refine(OF.out a4 n4 c4 _ hi4).mono ?_);rintro e w2 ⟨a5,n5,c5,m5,rfl,hi5,hb2⟩;have B7:=Bag.go BB.out hb2;have hs5:=SS.out.below hb2;have hc1:=hs5.cell;have hc2:=hs5.cell1;have hf1:=hs5.free;have hf2:=hs5.free1;have HN:Hid (PL w (putI w2 (w.heap.size+1+1) a5 n5 c5 m5) (pprod Z f (k+1))):=⟨(B7.below.setCell (show w.heap.size<=w.heap.size+1+1 by omega) _).setCell (show w.heap.size<=w.heap.size+1+1 by omega) _,B7.now.2.1.put _ _ _ _,a5,n5,c5,m5,slot2_putI hs5 _ _ _ _,by rw[HNX.out];exact hi5.put B7.now.1 _ _ _ _⟩;unfold putI at HN;clear B7))
    all_goals
     go_wp2
     go_roundw
     case rel=>exact⟨k+1,by omega,by go_num,HN.out⟩
     case measure=>simp[intOf];omega
  · obtain rfl:k=ln:=by omega
    obtain⟨hbl,hrs,a3,n3,c3,m3,hs3,hi3⟩:=hr;have HE:=Lib.hid (IntTold.fin hbl (by omega) hrs hi3);have HS:=hrs.cells a3 n3 c3 m3;unfold putI at HS;have p0:=hs3.cell;have p1:=hs3.cell1;obtain⟨x8,b8,hs8,_⟩:=hrs;have hc1:=hs8.cell;have hc2:=hs8.cell1;have hf1:=hs8.free;have hf2:=hs8.free1;clear hs8 hs3 hi3 hbl q0 q1;go_wp2;exact bodyPost_ret (by simp[results,Tryz.results122,go_sem,HS]) rfl HE.out
end Go.Proofs.YtdmmenaejkpnjaaGreatDoor
