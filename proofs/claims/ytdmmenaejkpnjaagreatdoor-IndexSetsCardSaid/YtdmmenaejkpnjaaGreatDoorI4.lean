/-
  Texts of this seat, laid together.
-/
import Derived.Lib.SliceRun
import Derived.Lib.Walk
import Derived.Deep.AppendLies
import Derived.Deep.RegionLaw
import Derived.Test.YtdmmenaejkpnjaaGreatDoorI3
set_option maxHeartbeats 12800000
set_option maxRecDepth 100000
set_option linter.unusedSimpArgs false
set_option linter.unusedVariables false
namespace Go.Proofs.YtdmmenaejkpnjaaGreatDoor
open Go.RowKit
def rg(P:Int)(Q:Nat):Nat:=Nat.gcd P.natAbs Q
def loP(P:Int)(Q:Nat):Int:=sgn (decide (P<0)) (P.natAbs / rg P Q)
def loQ(P:Int)(Q:Nat):Nat:=Q / rg P Q
theorem rg_pos(P:Int){Q:Nat}(h:0<Q):0<rg P Q:=Nat.gcd_pos_of_pos_right _ h
theorem loP_abs(P:Int)(Q:Nat):(loP P Q).natAbs=P.natAbs / rg P Q:=sgn_abs _ _
theorem loP_absle(P:Int)(Q:Nat):(loP P Q).natAbs<=P.natAbs:=by rw[loP_abs];exact Nat.div_le_self _ _
theorem loQ_le(P:Int)(Q:Nat):loQ P Q<=Q:=Nat.div_le_self _ _
theorem loQ_pos(P:Int){Q:Nat}(h:0<Q):0<loQ P Q :=
 Nat.div_pos (Nat.le_of_dvd h (Nat.gcd_dvd_right _ _)) (rg_pos P h)
theorem sgn_times(b:Bool)(N M:Nat):sgn b (N*M)=N*sgn b M:=by
 cases b<;>simp[sgn,Int.mul_neg]
theorem loP_mul(P:Int)(Q:Nat):(rg P Q:Int)*loP P Q=P:=by
 unfold loP;rw[← sgn_times,show rg P Q*(P.natAbs / rg P Q)=P.natAbs from Nat.mul_div_cancel' (Nat.gcd_dvd_left _ _),sgn_self]
theorem loP_zero{P:Int}{Q:Nat}:loP P Q=0↔P=0:=by
 constructor
 · intro h1;have:=loP_mul P Q;rw[h1]at this;omega
 · intro h1;have:=loP_absle P Q;rw[h1]at this ⊢
   omega
theorem loP_neg{P:Int}{Q:Nat}:decide (loP P Q<0)=decide (P<0):=by
 have h1:(P.natAbs / rg P Q=0)↔P=0:=by
  rw[← loP_abs];have:=loP_zero (P:=P) (Q:=Q)
  constructor
  · intro h2;exact this.1 (by omega)
  · intro h2;rw[this.2 h2];rfl
 unfold loP;rw[sgn_neg]
 by_cases h2:P<0
 · rw[decide_eq_true h2,decide_eq_false (fun h3=>by have:=h1.1 h3;omega)];rfl
 · rw[decide_eq_false h2];rfl
theorem lo_cop(P:Int){Q:Nat}(h:0<Q):Nat.gcd (loP P Q).natAbs (loQ P Q)=1:=by
 rw[loP_abs];exact Nat.Coprime.gcd_eq_one (Nat.coprime_div_gcd_div_gcd (rg_pos P h))
theorem lo_one{P:Int}{Q:Nat}(h:Nat.gcd P.natAbs Q=1):loP P Q=P/\loQ P Q=Q:=by
 have h1:rg P Q=1:=h;unfold loP loQ;rw[h1,Nat.div_one,Nat.div_one,sgn_self];exact⟨rfl,rfl⟩
end Go.Proofs.YtdmmenaejkpnjaaGreatDoor
namespace Go.Proofs.YtdmmenaejkpnjaaGreatDoor
open Go.RowKit
attribute [local go_sem ↓] Go.wp_at_zero Go.wp_at_succ
structure Slot3(w:World)(k:Nat)(x y z:Value):Prop where
 cell:w.cell? ⟨k,0,none⟩=some x
 cell1:w.cell? ⟨k,1,none⟩=some y
 cell2:w.cell? ⟨k,2,none⟩=some z
 free:w.frozen? ⟨k,0,none⟩=false
 free1:w.frozen? ⟨k,1,none⟩=false
 free2:w.frozen? ⟨k,2,none⟩=false
 lt:k<w.heap.size
theorem Slot3.c3{w:World}{k:Nat}{x y z:Value}(h:Slot3 w k x y z):w.cell? ⟨k,0,none⟩=some x ∧ w.cell? ⟨k,1,none⟩=some y ∧ w.cell? ⟨k,2,none⟩=some z:=⟨h.cell,h.cell1,h.cell2⟩
theorem Slot3.f3{w:World}{k:Nat}{x y z:Value}(h:Slot3 w k x y z):w.frozen? ⟨k,0,none⟩=false ∧ w.frozen? ⟨k,1,none⟩=false ∧ w.frozen? ⟨k,2,none⟩=false:=⟨h.free,h.free1,h.free2⟩
theorem Slot3.s6{w:World}{k:Nat}{x y z:Value}(h:Slot3 w k x y z):w.cell? ⟨k,0,none⟩=some x ∧ w.cell? ⟨k,1,none⟩=some y ∧ w.cell? ⟨k,2,none⟩=some z ∧ w.frozen? ⟨k,0,none⟩=false ∧ w.frozen? ⟨k,1,none⟩=false ∧ w.frozen? ⟨k,2,none⟩=false:=⟨h.cell,h.cell1,h.cell2,h.free,h.free1,h.free2⟩
theorem Slot3.below{w w':World}{k:Nat}{x y z:Value}(h:Slot3 w k x y z)(hb:Below w.heap.size w w'):Slot3 w' k x y z :=
 ⟨(hb.cell (p:=⟨k,0,none⟩) h.lt).trans h.cell,(hb.cell (p:=⟨k,1,none⟩) h.lt).trans h.cell1,(hb.cell (p:=⟨k,2,none⟩) h.lt).trans h.cell2,
   (hb.frozen (p:=⟨k,0,none⟩) h.lt).trans h.free,(hb.frozen (p:=⟨k,1,none⟩) h.lt).trans h.free1,(hb.frozen (p:=⟨k,2,none⟩) h.lt).trans h.free2,Nat.lt_of_lt_of_le h.lt hb.size⟩
theorem Slot3.new(w:World)(x y z:Value)(t:TypeId):Slot3 (w.alloc (.cells #[x,y,z] t)) w.heap.size x y z:=by
 refine⟨?_,?_,?_,World.frozen?_alloc_new _ _ _ _,World.frozen?_alloc_new _ _ _ _,World.frozen?_alloc_new _ _ _ _,by rw[World.size_alloc];omega⟩
 · rw[World.cell?_alloc_new];rfl
 · rw[World.cell?_alloc_new];rfl
 · rw[World.cell?_alloc_new];rfl
theorem Bag.slot3{w0 w:World}{P:World->Prop}{k:Nat}{x y z:Value}(h:Bag w0 P w)(q:Slot3 w k x y z):Bag w0 (fun v=>Slot3 v k x y z/\P v) w:=h.add (fun _ _ hb q=>q.below hb) q
theorem Bag.box3{w0 w:World}{P:World->Prop}(h:Bag w0 P w)(x y z:Value)(t:TypeId):Bag w0 (fun v=>Slot3 v w.heap.size x y z/\P v) (w.alloc (.cells #[x,y,z] t)) :=
 (h.alloc _).slot3 (Slot3.new w x y z t)
theorem bq0{w0 y:World}{A U:World → Prop}{k j:Nat}{x1 x2 x3 z1 z2 z3:Value}(h:Hid (Bag w0 (fun y=>A y ∧ Slot3 y j z1 z2 z3 ∧ Slot3 y k x1 x2 x3 ∧ U y) y)):y.cell? ⟨k,0,none⟩=some x1 ∧ y.cell? ⟨k,1,none⟩=some x2 ∧ y.cell? ⟨k,2,none⟩=some x3 ∧ y.cell? ⟨j,0,none⟩=some z1 ∧ y.cell? ⟨j,1,none⟩=some z2 ∧ y.cell? ⟨j,2,none⟩=some z3:=⟨h.out.now.2.2.1.cell,h.out.now.2.2.1.cell1,h.out.now.2.2.1.cell2,h.out.now.2.1.cell,h.out.now.2.1.cell1,h.out.now.2.1.cell2⟩
theorem bq1{w0 y:World}{A B U:World → Prop}{k j:Nat}{x1 x2 x3 z1 z2 z3:Value}(h:Hid (Bag w0 (fun y=>A y ∧ B y ∧ Slot3 y j z1 z2 z3 ∧ Slot3 y k x1 x2 x3 ∧ U y) y)):y.cell? ⟨k,0,none⟩=some x1 ∧ y.cell? ⟨k,1,none⟩=some x2 ∧ y.cell? ⟨k,2,none⟩=some x3 ∧ y.cell? ⟨j,0,none⟩=some z1 ∧ y.cell? ⟨j,1,none⟩=some z2 ∧ y.cell? ⟨j,2,none⟩=some z3:=⟨h.out.now.2.2.2.1.cell,h.out.now.2.2.2.1.cell1,h.out.now.2.2.2.1.cell2,h.out.now.2.2.1.cell,h.out.now.2.2.1.cell1,h.out.now.2.2.1.cell2⟩
def lowN(Q:Nat):Nat:=if Q=1 then 0 else Q
def RatAt(w:World)(a:Option Addr)(n c:Nat)(m:Bool)(a2:Option Addr)(n2 c2:Nat)(P:Int)(Q:Nat):Prop:=IntAt w a n c m P/\NatIs w (.agg #[.slice a2 n2 c2]) (lowN Q)
theorem RatAt.below{w w':World}{a:Option Addr}{n c:Nat}{m:Bool}{a2:Option Addr}{n2 c2:Nat}{P:Int}{Q:Nat}(h:RatAt w a n c m a2 n2 c2 P Q)(hb:Below w.heap.size w w'):RatAt w' a n c m a2 n2 c2 P Q:=⟨h.1.below hb,h.2.below hb⟩
theorem Bag.rat{w0 w:World}{B:World->Prop}{a:Option Addr}{n c:Nat}{m:Bool}{a2:Option Addr}{n2 c2:Nat}{P:Int}{Q:Nat}(h:Bag w0 B w)(q:RatAt w a n c m a2 n2 c2 P Q):Bag w0 (fun y=>RatAt y a n c m a2 n2 c2 P Q/\B y) w:=h.add (fun _ _ hb q=>q.below hb) q
def RatTold(w w':World)(e:Ending)(P:Int)(Q:Nat):Prop:=∃a n c m a2 n2 c2,e=.returned (.agg #[.slice a n c,.bool m,.slice a2 n2 c2])/\RatAt w' a n c m a2 n2 c2 P Q/\Below w.heap.size w w'
theorem Slot3.set {w : World} {k : Nat} {x y z : Value} (h : Slot3 w k x y z) (u v t : Value) :
    (((w.setCell ⟨k,0,none⟩ u).setCell ⟨k,1,none⟩ v).setCell ⟨k,2,none⟩ t).cell? ⟨k,0,none⟩=some u/\(((w.setCell ⟨k,0,none⟩ u).setCell ⟨k,1,none⟩ v).setCell ⟨k,2,none⟩ t).cell? ⟨k,1,none⟩=some v/\(((w.setCell ⟨k,0,none⟩ u).setCell ⟨k,1,none⟩ v).setCell ⟨k,2,none⟩ t).cell? ⟨k,2,none⟩=some t:=by
 refine⟨?_,?_,?_⟩
 · rw[World.cell?_setCell_other _ _ _ _ (fun e=>by cases e),World.cell?_setCell_other _ _ _ _ (fun e=>by cases e)];exact World.cell?_setCell_same _ _ _ h.cell
 · rw[World.cell?_setCell_other _ _ _ _ (fun e=>by cases e)];refine World.cell?_setCell_same (u:=y) _ _ _ ?_;rw[World.cell?_setCell_other _ _ _ _ (fun e=>by cases e)];exact h.cell1
 · refine World.cell?_setCell_same (u:=z) _ _ _ ?_;rw[World.cell?_setCell_other _ _ _ _ (fun e=>by cases e),World.cell?_setCell_other _ _ _ _ (fun e=>by cases e)];exact h.cell2
theorem NatIs.set3 {w : World} {k : Nat} {x y z : Value} {v : Value} {N : Nat} (q : NatIs w v N) (h : Slot3 w k x y z) (hx : ∀ ki i, x ≠ .int ki i) (hy : ∀ ki i, y ≠ .int ki i) (hz : ∀ ki i, z ≠ .int ki i) (u v' t : Value) :
    NatIs (((w.setCell ⟨k,0,none⟩ u).setCell ⟨k,1,none⟩ v').setCell ⟨k,2,none⟩ t) v N:=by
 refine((q.storeAt h.cell hx _).storeAt (x:=y) ?_ hy _).storeAt (x:=z) ?_ hz _
 · rw[World.cell?_setCell_other _ _ _ _ (fun e=>by cases e)];exact h.cell1
 · rw[World.cell?_setCell_other _ _ _ _ (fun e=>by cases e),World.cell?_setCell_other _ _ _ _ (fun e=>by cases e)];exact h.cell2
theorem Slot3.set2{w:World}{k:Nat}{x y z:Value}(h:Slot3 w k x y z)(u v:Value):Slot3 ((w.setCell ⟨k,0,none⟩ u).setCell ⟨k,1,none⟩ v) k u v z:=by
 refine⟨?_,?_,?_,by simp[h.free],by simp[h.free1],by simp[h.free2],by simpa using h.lt⟩
 · rw[World.cell?_setCell_other _ _ _ _ (fun e=>by cases e)];exact World.cell?_setCell_same _ _ _ h.cell
 · refine World.cell?_setCell_same (u:=y) _ _ _ ?_;rw[World.cell?_setCell_other _ _ _ _ (fun e=>by cases e)];exact h.cell1
 · rw[World.cell?_setCell_other _ _ _ _ (fun e=>by cases e),World.cell?_setCell_other _ _ _ _ (fun e=>by cases e)];exact h.cell2
theorem Slot3.set2o{w:World}{k j:Nat}{x y z:Value}(h:Slot3 w j x y z)(e:j≠k)(u v:Value):Slot3 ((w.setCell ⟨k,0,none⟩ u).setCell ⟨k,1,none⟩ v) j x y z:=by
 have hn:∀o o':Nat,(⟨k,o',none⟩:Addr)≠⟨j,o,none⟩:=fun o o' h=>e (by cases h;rfl)
 refine⟨?_,?_,?_,by simp[h.free],by simp[h.free1],by simp[h.free2],by simpa using h.lt⟩
 · rw[World.cell?_setCell_other _ _ _ _ (hn _ _),World.cell?_setCell_other _ _ _ _ (hn _ _)];exact h.cell
 · rw[World.cell?_setCell_other _ _ _ _ (hn _ _),World.cell?_setCell_other _ _ _ _ (hn _ _)];exact h.cell1
 · rw[World.cell?_setCell_other _ _ _ _ (hn _ _),World.cell?_setCell_other _ _ _ _ (hn _ _)];exact h.cell2
theorem RatTold.done {w w2 : World} {k : Nat} {a0 : Option Addr} {n0 c0 : Nat} {m0 : Bool} {a1 : Option Addr} {n1 c1 : Nat} {a : Option Addr} {n c : Nat} {m : Bool} {a2 : Option Addr} {n2 c2 : Nat} {P : Int} {Q : Nat} (hb : Below w.heap.size w w2) (hk : w.heap.size <= k)
    (hs:Slot3 w2 k (.slice a0 n0 c0) (.bool m0) (.slice a1 n1 c1)) (h:RatAt w2 a n c m a2 n2 c2 P Q) :
    RatTold w (((w2.setCell ⟨k,0,none⟩ (.slice a n c)).setCell ⟨k,1,none⟩ (.bool m)).setCell ⟨k,2,none⟩ (.slice a2 n2 c2)) (.returned (.agg #[.slice a n c,.bool m,.slice a2 n2 c2])) P Q :=
 ⟨a,n,c,m,a2,n2,c2,rfl,⟨⟨h.1.1,h.1.2.set3 hs (fun _ _ h=>by cases h) (fun _ _ h=>by cases h) (fun _ _ h=>by cases h) _ _ _⟩,h.2.set3 hs (fun _ _ h=>by cases h) (fun _ _ h=>by cases h) (fun _ _ h=>by cases h) _ _ _⟩,
   ((hb.setCell hk _).setCell hk _).setCell hk _⟩
theorem NatTold.done {w w2 : World} {k : Nat} {a0 : Option Addr} {n0 c0 : Nat} {a : Option Addr} {n c N : Nat} (hb : Below w.heap.size w w2) (hk : w.heap.size <= k) (hs : Slot w2 k (.slice a0 n0 c0)) (h : NatIs w2 (.agg #[.slice a n c]) N) :
    NatTold w (w2.setCell ⟨k,0,none⟩ (.slice a n c)) (.returned (.agg #[.slice a n c])) N :=
 ⟨a,n,c,rfl,h.storeAt hs.cell (fun _ _ h=>by cases h) _,hb.setCell hk _⟩
theorem lowN_zero{Q:Nat}(h:0<Q):decide (lowN Q=0)=decide (Q=1):=by
 unfold lowN
 by_cases h1:Q=1
 · rw[if_pos h1,decide_eq_true rfl,decide_eq_true h1]
 · rw[if_neg h1,decide_eq_false (by omega),decide_eq_false h1]
theorem whole_any (a : Option Addr) (n c : Nat) (m : Bool) (Z : Int) (w : World) (h : IntAt w a n c m Z) :
    Calls Tryz.prog 117 #[.agg #[.slice a n c,.bool m]] w fun e w'=>RatTold w w' e Z 1:=by
 have B0:=(((Bag.start w).int h).box2 (.slice a n c) (.bool m) 51).box3 (.slice a n c) (.bool m) (.slice none 0 0) 53
 have HE:Hid (RatTold w ((w.alloc (.cells #[.slice a n c,.bool m] 51)).alloc (.cells #[.slice a n c,.bool m,.slice none 0 0] 53)) (.returned (.agg #[.slice a n c,.bool m,.slice none 0 0])) Z 1) :=
  ⟨a,n,c,m,none,0,0,rfl,⟨B0.now.2.2.1,NatIs.zero _⟩,B0.below⟩
 clear h B0;go_enter Tryz.func117,Tryz.ntmps117;go_wp2;exact bodyPost_ret (v:=.agg #[.slice a n c,.bool m,.slice none 0 0]) (by simp[results,Tryz.results117,go_sem]) rfl HE.out
theorem isWhole_any (a : Option Addr) (n c : Nat) (m : Bool) (a2 : Option Addr) (n2 c2 : Nat) (P : Int) (Q : Nat) (w : World) (h : RatAt w a n c m a2 n2 c2 P Q) (hQ : 0 < Q) :
    Calls Tryz.prog 120 #[.agg #[.slice a n c,.bool m,.slice a2 n2 c2]] w fun e w'=>e=.returned (.bool (decide (Q=1)))/\Below w.heap.size w w':=by
 have BB:=Lib.hid (((Bag.start w).nat h.2).box3 (.slice a n c) (.bool m) (.slice a2 n2 c2) 53);have HZ:=Lib.hid (fun wz hz=>zero_any (.agg #[.slice a2 n2 c2]) (lowN Q) wz hz);rw[lowN_zero hQ]at HZ;clear h hQ;generalize decide (Q=1)=q at *;go_enter Tryz.func120,Tryz.ntmps120
 go_wp2_with (go_at_call 114;refine(HZ.out _ BB.out.now.2.1).mono ?_;rintro e w2 ⟨rfl,hb2⟩;have HB:=Lib.hid (BB.out.go hb2).below;clear hb2)
 go_ret;exact⟨rfl,HB.out⟩
theorem ratSign_any (a : Option Addr) (n c : Nat) (m : Bool) (a2 : Option Addr) (n2 c2 : Nat) (P : Int) (Q : Nat) (w : World) (h : RatAt w a n c m a2 n2 c2 P Q) :
    Calls Tryz.prog 72 #[.agg #[.slice a n c,.bool m,.slice a2 n2 c2]] w fun e w'=>e=.returned (.int .i64 (sgnI P))/\Below w.heap.size w w':=by
 have BB:=Lib.hid (((Bag.start w).int h.1).box3 (.slice a n c) (.bool m) (.slice a2 n2 c2) 53);have HS:=Lib.hid (fun wz hz=>sign_any a n c m P wz hz);clear h;generalize sgnI P=s at *;go_enter Tryz.func72,Tryz.ntmps72
 go_wp2_with (go_at_call 140;refine(HS.out _ BB.out.now.2.1).mono ?_;rintro e w2 ⟨rfl,hb2⟩;have HB:=Lib.hid (BB.out.go hb2).below;clear hb2)
 go_ret;exact⟨rfl,HB.out⟩
theorem bot_any (a : Option Addr) (n c : Nat) (m : Bool) (a2 : Option Addr) (n2 c2 : Nat) (P : Int) (Q : Nat) (w : World) (h : RatAt w a n c m a2 n2 c2 P Q) (hQ : 0 < Q) :
    Calls Tryz.prog 74 #[.agg #[.slice a n c,.bool m,.slice a2 n2 c2]] w fun e w'=>NatTold w w' e Q:=by
 have B0:=(((Bag.start w).rat h).box3 (.slice a n c) (.bool m) (.slice a2 n2 c2) 53).box (.slice none 0 0) 49;rw[World.size_alloc]at B0;have IW:=Lib.hid (fun wz hz=>isWhole_any a n c m a2 n2 c2 P Q wz hz hQ);have BB:=Lib.hid B0
 by_cases h1:Q=1
 · subst h1;have OF:=Lib.hid (fun wz=>of_told 1 wz (by omega));rw[decide_eq_true rfl]at IW;clear h hQ B0;go_enter Tryz.func74,Tryz.ntmps74;go_wp2_with fail;go_at_call 120;refine(IW.out _ BB.out.now.2.2.1).mono ?_;rintro e w2 ⟨rfl,hb2⟩;have BB:=bgo BB hb2;clear hb2;go_wp2_with fail;go_at_call 146;refine(OF.out _).mono ?_;rintro e w3 ⟨a3,n3,c3,rfl,hv,hb3⟩;have BB:=bgo BB hb3;have hs:=BB.out.now.1;have hc:=hs.cell;have hf:=hs.free;have HS:=World.cell?_setCell_same w3 ⟨w.heap.size+1,0,none⟩ (.slice a3 n3 c3) hc;have HE:=Lib.hid (NatTold.done BB.out.below (by omega) hs hv);clear hb3 hs;go_wp2;exact bodyPost_ret (by simp[results,Tryz.results74,go_sem,HS]) rfl HE.out
 · rw[decide_eq_false h1]at IW;have hl:lowN Q=Q:=if_neg h1;have hx:=h.2;rw[hl]at hx;have q0:=B0.now.2.1.cell2;clear h hQ B0;go_enter Tryz.func74,Tryz.ntmps74;go_wp2_with fail;go_at_call 120;refine(IW.out _ BB.out.now.2.2.1).mono ?_;rintro e w2 ⟨rfl,hb2⟩;have BB:=bgo BB hb2;clear hb2;have q0:=BB.out.now.2.1.cell2;have hs:=BB.out.now.1;have hc:=hs.cell;have hf:=hs.free;have HS:=World.cell?_setCell_same w2 ⟨w.heap.size+1,0,none⟩ (.slice a2 n2 c2) hc;have HE:=Lib.hid (NatTold.done BB.out.below (by omega) hs (hl▸BB.out.now.2.2.1.2));clear hs;go_wp2;exact bodyPost_ret (by simp[results,Tryz.results74,go_sem,HS]) rfl HE.out
theorem ratFrom_any (X : Int) (w : World) (h : -9223372036854775808 <= X /\ X <= 9223372036854775807) :
    Calls Tryz.prog 56 #[.int .i64 X] w fun e w'=>RatTold w w' e X 1:=by
 have BB:=Lib.hid ((Bag.start w).box3 (.slice none 0 0) (.bool false) (.slice none 0 0) 53);have FR:=Lib.hid (fun wz=>from_any X wz h);have WH:=Lib.hid (fun a n c m wz (h:IntAt wz a n c m X)=>whole_any a n c m X wz h);clear h;go_enter Tryz.func56,Tryz.ntmps56;go_wp2_with fail;go_at_call 118;refine(FR.out _).mono ?_;rintro e w2 ⟨a,n,c,m,rfl,hi,hb2⟩;have BB:=Lib.hid ((BB.out.go hb2).int hi);clear hb2 hi;go_wp2_with fail;go_at_call 117;refine(WH.out _ _ _ _ _ BB.out.now.1).mono ?_;rintro e w3 ⟨a3,n3,c3,m3,a4,n4,c4,rfl,hr,hb3⟩;have BB:=bgo BB hb3;have hs:=BB.out.now.2.1;have⟨hc,hc1,hc2,hf,hf1,hf2⟩:=hs.s6;have HS:=hs.set (.slice a3 n3 c3) (.bool m3) (.slice a4 n4 c4);have HE:=Lib.hid (RatTold.done BB.out.below (by omega) hs hr);clear hb3 hs hr;go_wp2;exact bodyPost_ret (by simp[results,Tryz.results56,go_sem,HS]) rfl HE.out
theorem Slot3.set1{w:World}{k:Nat}{x y z:Value}(h:Slot3 w k x y z)(t:Value):Slot3 (w.setCell ⟨k,2,none⟩ t) k x y t:=by
 refine⟨?_,?_,World.cell?_setCell_same _ _ _ h.cell2,by simp[h.free],by simp[h.free1],by simp[h.free2],by simpa using h.lt⟩
 · rw[World.cell?_setCell_other _ _ _ _ (fun e=>by cases e)];exact h.cell
 · rw[World.cell?_setCell_other _ _ _ _ (fun e=>by cases e)];exact h.cell1
theorem Slot3.set1o{w:World}{k j o:Nat}{x y z:Value}(h:Slot3 w j x y z)(e:j≠k)(t:Value):Slot3 (w.setCell ⟨k,o,none⟩ t) j x y z:=by
 have hn:∀o':Nat,(⟨k,o,none⟩:Addr)≠⟨j,o',none⟩:=fun o' h=>e (by cases h;rfl)
 refine⟨?_,?_,?_,by simp[h.free],by simp[h.free1],by simp[h.free2],by simpa using h.lt⟩
 · rw[World.cell?_setCell_other _ _ _ _ (hn _)];exact h.cell
 · rw[World.cell?_setCell_other _ _ _ _ (hn _)];exact h.cell1
 · rw[World.cell?_setCell_other _ _ _ _ (hn _)];exact h.cell2
theorem fraction_any (b : Bool) (a : Option Addr) (n c N : Nat) (a2 : Option Addr) (n2 c2 M : Nat) (w : World) (h : NatIs w (.agg #[.slice a n c]) N) (g : NatIs w (.agg #[.slice a2 n2 c2]) M) (hM : 0 < M) :
    Calls Tryz.prog 172 #[.bool b,.agg #[.slice a n c],.agg #[.slice a2 n2 c2]] w fun e w'=>RatTold w w' e (sgn b N) M:=by
 have OF:=Lib.hid (fun wz (h:NatIs wz (.agg #[.slice a n c]) N)=>wof_any b a n c N wz h);have WH:=Lib.hid (fun a n c m wz (h:IntAt wz a n c m (sgn b N))=>whole_any a n c m (sgn b N) wz h);have ON:=Lib.hid (fun wz (h:NatIs wz (.agg #[.slice a2 n2 c2]) M)=>one_any _ M wz h);have B0:=(((((Bag.start w).nat h).nat g).box (.slice a n c) 49).box (.slice a2 n2 c2) 49).box3 (.slice none 0 0) (.bool false) (.slice none 0 0) 53;simp only[World.size_alloc]at B0;have BB:=Lib.hid B0;generalize sgn b N=P at *;clear h g B0
 by_cases hm:M=1
 · rw[decide_eq_true hm]at ON;go_enter Tryz.func172,Tryz.ntmps172;go_wp2_with fail;go_at_call 116;refine(OF.out _ BB.out.now.2.2.2.2.1).mono ?_;rintro e w2 ⟨a3,n3,c3,m3,rfl,hi,hb2⟩;have BB:=Lib.hid ((BB.out.go hb2).int hi);clear hb2 hi;go_wp2_with fail;go_at_call 117;refine(WH.out _ _ _ _ _ BB.out.now.1).mono ?_;rintro e w3 ⟨a4,n4,c4,m4,a5,n5,c5,rfl,hr,hb3⟩;have BB:=Lib.hid (((BB.out.go hb3).rat hr).box3 (.slice a4 n4 c4) (.bool m4) (.slice a5 n5 c5) 53);clear hb3 hr;have q0:=BB.out.now.2.2.2.2.1.cell;go_wp2_with fail;go_at_call 168;refine(ON.out _ BB.out.now.2.2.2.2.2.2.1).mono ?_;rintro e w4 ⟨rfl,hb4⟩;have BB:=bgo BB hb4;clear hb4 q0;have hs0:=BB.out.now.1;have⟨q0,q1,q2⟩:=hs0.c3;have hs:=BB.out.now.2.2.2.1;have⟨r0,r1,r2,g0,g1,g2⟩:=hs.s6;have HS:=hs.set (.slice a4 n4 c4) (.bool m4) (.slice a5 n5 c5);have HE:=Lib.hid (RatTold.done BB.out.below (by omega) hs BB.out.now.2.1);clear hs hs0;subst hm;go_wp2;exact bodyPost_ret (by simp[results,Tryz.results172,go_sem,HS]) rfl HE.out
 · rw[decide_eq_false hm]at ON;go_enter Tryz.func172,Tryz.ntmps172;go_wp2_with fail;go_at_call 116;refine(OF.out _ BB.out.now.2.2.2.2.1).mono ?_;rintro e w2 ⟨a3,n3,c3,m3,rfl,hi,hb2⟩;have BB:=Lib.hid ((BB.out.go hb2).int hi);clear hb2 hi;go_wp2_with fail;go_at_call 117;refine(WH.out _ _ _ _ _ BB.out.now.1).mono ?_;rintro e w3 ⟨a4,n4,c4,m4,a5,n5,c5,rfl,hr,hb3⟩;have hk:w.heap.size+1+1<w3.heap.size:=(BB.out.go hb3).now.2.1.lt;have BB:=Lib.hid (((BB.out.go hb3).rat hr).box3 (.slice a4 n4 c4) (.bool m4) (.slice a5 n5 c5) 53);clear hb3 hr;have q0:=BB.out.now.2.2.2.2.1.cell;go_wp2_with fail;go_at_call 168;refine(ON.out _ BB.out.now.2.2.2.2.2.2.1).mono ?_;rintro e w4 ⟨rfl,hb4⟩;have BB:=bgo BB hb4;clear hb4 q0;have hs0:=BB.out.now.1;have q3:=BB.out.now.2.2.2.2.1.cell;have p2:=hs0.cell2;have pf:=hs0.free2;have hs1:=hs0.set1 (.slice a2 n2 c2);have⟨q0,q1,q2⟩:=hs1.c3;have hs:=BB.out.now.2.2.2.1.set1o (o:=2) (k:=w3.heap.size) (by omega) (.slice a2 n2 c2);have⟨r0,r1,r2,g0,g1,g2⟩:=hs.s6;have HS:=hs.set (.slice a4 n4 c4) (.bool m4) (.slice a2 n2 c2)
   have hx:RatAt (w4.setCell ⟨w3.heap.size,2,none⟩ (.slice a2 n2 c2)) a4 n4 c4 m4 a2 n2 c2 P M:=by
    have h1:=BB.out.now.2.1.1;have h2:=BB.out.now.2.2.2.2.2.2.1;refine⟨⟨h1.1,h1.2.storeAt hs0.cell2 (fun _ _ h=>by cases h) _⟩,?_⟩;rw[show lowN M=M from if_neg hm];exact h2.storeAt hs0.cell2 (fun _ _ h=>by cases h) _
   have HE:=Lib.hid (RatTold.done (BB.out.below.setCell (p:=⟨w3.heap.size,2,none⟩) (show w.heap.size<=w3.heap.size by omega) _) (by omega) hs hx);clear hs hs0 hs1 hx;go_wp2;exact bodyPost_ret (by simp[results,Tryz.results172,go_sem,HS]) rfl HE.out
theorem Slot.set0{w:World}{k:Nat}{x:Value}(h:Slot w k x)(t:Value):Slot (w.setCell ⟨k,0,none⟩ t) k t :=
 ⟨World.cell?_setCell_same _ _ _ h.cell,by simp[h.free],by simpa using h.lt⟩
theorem Slot.seto{w:World}{k j:Nat}{x:Value}(h:Slot w j x)(e:j≠k)(t:Value):Slot (w.setCell ⟨k,0,none⟩ t) j x:=by
 refine⟨?_,by simp[h.free],by simpa using h.lt⟩;rw[World.cell?_setCell_other _ _ _ _ (fun e'=>by cases e';exact e rfl)];exact h.cell
theorem Slot2.seto{w:World}{k j:Nat}{x y:Value}(h:Slot2 w j x y)(e:j≠k)(t:Value):Slot2 (w.setCell ⟨k,0,none⟩ t) j x y:=by
 refine⟨?_,?_,by simp[h.free],by simp[h.free1],by simpa using h.lt⟩
 · rw[World.cell?_setCell_other _ _ _ _ (fun e'=>by cases e';exact e rfl)];exact h.cell
 · rw[World.cell?_setCell_other _ _ _ _ (fun e'=>by cases e')];exact h.cell1
theorem Slot.set3o{w:World}{k j:Nat}{x:Value}(h:Slot w j x)(e:j≠k)(u v t:Value):Slot (((w.setCell ⟨k,0,none⟩ u).setCell ⟨k,1,none⟩ v).setCell ⟨k,2,none⟩ t) j x:=by
 have hn:∀o:Nat,(⟨k,o,none⟩:Addr)≠⟨j,0,none⟩:=fun o h=>e (by cases h;rfl)
 refine⟨?_,by simp[h.free],by simpa using h.lt⟩;rw[World.cell?_setCell_other _ _ _ _ (hn _),World.cell?_setCell_other _ _ _ _ (hn _),World.cell?_setCell_other _ _ _ _ (hn _)];exact h.cell
theorem Slot2.set3o{w:World}{k j:Nat}{x y:Value}(h:Slot2 w j x y)(e:j≠k)(u v t:Value):Slot2 (((w.setCell ⟨k,0,none⟩ u).setCell ⟨k,1,none⟩ v).setCell ⟨k,2,none⟩ t) j x y:=by
 have hn:∀o o':Nat,(⟨k,o,none⟩:Addr)≠⟨j,o',none⟩:=fun o o' h=>e (by cases h;rfl)
 refine⟨?_,?_,by simp[h.free],by simp[h.free1],by simpa using h.lt⟩
 · rw[World.cell?_setCell_other _ _ _ _ (hn _ _),World.cell?_setCell_other _ _ _ _ (hn _ _),World.cell?_setCell_other _ _ _ _ (hn _ _)];exact h.cell
 · rw[World.cell?_setCell_other _ _ _ _ (hn _ _),World.cell?_setCell_other _ _ _ _ (hn _ _),World.cell?_setCell_other _ _ _ _ (hn _ _)];exact h.cell1
theorem Slot3.set3o{w:World}{k j:Nat}{x y z:Value}(h:Slot3 w j x y z)(e:j≠k)(u v t:Value):Slot3 (((w.setCell ⟨k,0,none⟩ u).setCell ⟨k,1,none⟩ v).setCell ⟨k,2,none⟩ t) j x y z :=
 (h.set2o e u v).set1o e t
theorem divMod3_any (a : Option Addr) (n c : Nat) (a2 : Option Addr) (n2 c2 : Nat) (N M : Nat) (w : World) (h : NatIs w (.agg #[.slice a n c]) N) (g : NatIs w (.agg #[.slice a2 n2 c2]) M) (k : Nat) (hk : k <= 900000) (hN : N < 4294967296 ^ k) (hM : 0 < M) :
    Calls Tryz.prog 171 #[.agg #[.slice a n c],.agg #[.slice a2 n2 c2]] w fun e w'=>DivOf3 w w' e (N / M) (modz N M) true:=by
 refine(divMod_any _ _ N M w h g k hk hN).mono ?_;rintro e w' ⟨v,u,rfl,hv,hu,hb⟩;obtain⟨a,n,c,f,rfl,hs,hv,ht⟩:=hv;obtain⟨a2,n2,c2,f2,rfl,hs2,hv2,ht2⟩:=hu;exact⟨a,n,c,a2,n2,c2,by rw[decide_eq_true (by omega)],⟨a,n,c,f,rfl,hs,hv,ht⟩,⟨a2,n2,c2,f2,rfl,hs2,hv2,ht2⟩,hb⟩
theorem lowest_any (a : Option Addr) (n c : Nat) (m : Bool) (P : Int) (a2 : Option Addr) (n2 c2 Q : Nat) (w : World) (h : IntAt w a n c m P) (g : NatIs w (.agg #[.slice a2 n2 c2]) Q) (hQ : 0 < Q)
    (K:Nat) (hK:K<=900000) (hPK:P.natAbs<4294967296^K) (hQK:Q<4294967296^K) :
    Calls Tryz.prog 115 #[.agg #[.slice a n c,.bool m],.agg #[.slice a2 n2 c2]] w fun e w'=>RatTold w w' e (loP P Q) (loQ P Q):=by
 have ON:=Lib.hid (fun wz (h:NatIs wz (.agg #[.slice a2 n2 c2]) Q)=>one_any _ Q wz h);have B0:=(((((Bag.start w).int h).nat g).box2 (.slice a n c) (.bool m) 51).box (.slice a2 n2 c2) 49).box3 (.slice none 0 0) (.bool false) (.slice none 0 0) 53;simp only[World.size_alloc]at B0;have BB:=Lib.hid B0
 by_cases hq:Q=1
 · subst hq;have hlo:loP P 1=P/\loQ P 1=1:=lo_one (Nat.gcd_one_right _);rw[hlo.1,hlo.2];rw[decide_eq_true rfl]at ON;have WH:=Lib.hid (fun wz (h:IntAt wz a n c m P)=>whole_any a n c m P wz h);clear h g B0 hlo hPK hQK;go_enter Tryz.func115,Tryz.ntmps115;have q0:=BB.out.now.2.1.cell;have q1:=BB.out.now.2.2.1.cell;have q2:=BB.out.now.2.2.1.cell1;go_wp2_with fail;go_at_call 168;refine(ON.out _ BB.out.now.2.2.2.1).mono ?_;rintro e w2 ⟨rfl,hb2⟩;have BB:=bgo BB hb2;clear hb2 q0 q1 q2;have q0:=BB.out.now.2.1.cell;have q1:=BB.out.now.2.2.1.cell;have q2:=BB.out.now.2.2.1.cell1;go_wp2_with fail;go_at_call 117;refine(WH.out _ BB.out.now.2.2.2.2.1).mono ?_;rintro e w3 ⟨a3,n3,c3,m3,a4,n4,c4,rfl,hr,hb3⟩;have BB:=bgo BB hb3;have hs:=BB.out.now.1;have⟨r0,r1,r2,g0,g1,g2⟩:=hs.s6;have HS:=hs.set (.slice a3 n3 c3) (.bool m3) (.slice a4 n4 c4);have HE:=Lib.hid (RatTold.done BB.out.below (by omega) hs hr);clear hb3 hs hr;go_wp2;exact bodyPost_ret (by simp[results,Tryz.results115,go_sem,HS]) rfl HE.out
 · rw [decide_eq_false hq] at ON; have SZ := Lib.hid (fun wz (h : IntAt wz a n c m P) => size_any a n c m P wz h); have NG := Lib.hid (fun wz (h : IntAt wz a n c m P) => neg_any a n c m P wz h); have GC : Hid (∀ wz, NatIs wz (.agg #[.slice a n c]) P.natAbs -> NatIs wz (.agg #[.slice a2 n2 c2]) Q -> Calls Tryz.prog 170 #[.agg #[.slice a n c], .agg #[.slice a2 n2 c2]] wz fun e w' => NatOf3 wz w' e (Nat.gcd P.natAbs Q)) := fun wz h g => gcd_any a n c a2 n2 c2 P.natAbs Q wz h g K hK hPK hQK
   have ON2:=Lib.hid (fun a n c wz (h:NatIs wz (.agg #[.slice a n c]) (Nat.gcd P.natAbs Q))=>one_any _ (Nat.gcd P.natAbs Q) wz h);unfold NatTold2 at SZ
   by_cases hg:Nat.gcd P.natAbs Q=1
   · have hlo : loP P Q = P /\ loQ P Q = Q := lo_one hg; rw [hlo.1, hlo.2]; rw [hg] at ON2 GC; rw [decide_eq_true rfl] at ON2; have FR := Lib.hid (fun wz (h : NatIs wz (.agg #[.slice a n c]) P.natAbs) (g : NatIs wz (.agg #[.slice a2 n2 c2]) Q) => fraction_any m a n c P.natAbs a2 n2 c2 Q wz h g hQ); rw [h.1, sgn_self, ← h.1] at FR; clear h g B0 hlo hPK hQK hQ hg; go_enter Tryz.func115, Tryz.ntmps115; have q0 := BB.out.now.2.1.cell; have q1 := BB.out.now.2.2.1.cell; have q2 := BB.out.now.2.2.1.cell1
     go_wp2_with (first
      | (go_at_call 168;(with_reducible refine(ON.out _ BB.out.now.2.2.2.1).mono ?_);rintro e w2 ⟨rfl,hb2⟩;have BB:=Lib.hid (BB.out.go hb2);clear hb2;have q0:=BB.out.now.2.1.cell;have q1:=BB.out.now.2.2.1.cell;have q2:=BB.out.now.2.2.1.cell1)
      | (go_at_call 169;(with_reducible refine(SZ.out _ BB.out.now.2.2.2.2.1).mono ?_);rintro e w3 ⟨rfl,hn3,hb3⟩;have hk3:w.heap.size+1+1<w3.heap.size:=(BB.out.go hb3).now.1.lt;have BB:=Lib.hid (((BB.out.go hb3).nat hn3).box (.slice a n c) 49);clear hb3 hn3;have q0:=BB.out.now.2.2.2.1.cell;have q1:=BB.out.now.2.2.2.2.1.cell;have q2:=BB.out.now.2.2.2.2.1.cell1;have q3:=BB.out.now.1.cell)
      | (go_at_call 170;(with_reducible refine(GC.out _ BB.out.now.2.1 BB.out.now.2.2.2.2.2.1).mono ?_);rintro e w4 ⟨a5,n5,c5,rfl,hn5,hb4⟩;have hk4:w3.heap.size<w4.heap.size:=(BB.out.go hb4).now.1.lt;have BB:=Lib.hid (((BB.out.go hb4).nat hn5).box (.slice a5 n5 c5) 49);clear hb4 hn5;have q0:=BB.out.now.2.2.2.2.2.1.cell;have q1:=BB.out.now.2.2.2.2.2.2.1.cell;have q2:=BB.out.now.2.2.2.2.2.2.1.cell1;have q3:=BB.out.now.2.2.1.cell;have q4:=BB.out.now.1.cell)
      | (go_at_call 168;(with_reducible refine(ON2.out a5 n5 c5 _ BB.out.now.2.1).mono ?_);rintro e w5 ⟨rfl,hb5⟩;have BB:=Lib.hid (BB.out.go hb5);clear hb5;have q0:=BB.out.now.2.2.2.2.2.1.cell;have q1:=BB.out.now.2.2.2.2.2.2.1.cell;have q2:=BB.out.now.2.2.2.2.2.2.1.cell1;have q3:=BB.out.now.2.2.1.cell;have q4:=BB.out.now.1.cell))
     have BB:=Lib.hid BB.out.drew;have he:w.heap.size≠w.heap.size+1+1/\w.heap.size+1≠w.heap.size+1+1/\w3.heap.size≠w.heap.size+1+1:=by omega
     go_region_held3 (fun y => y.cell? ⟨w.heap.size, 0, none⟩ = some (.slice a n c) /\ y.cell? ⟨w.heap.size, 1, none⟩ = some (.bool m) /\ y.cell? ⟨w.heap.size + 1, 0, none⟩ = some (.slice a2 n2 c2) /\ y.cell? ⟨w3.heap.size, 0, none⟩ = some (.slice a n c))
      (first
        | (exact⟨BB.out.now.2.2.2.2.2.2.1.cell,BB.out.now.2.2.2.2.2.2.1.cell1,BB.out.now.2.2.2.2.2.1.cell,BB.out.now.2.2.1.cell⟩)
        | (exact⟨z0.cell,z0.cell1,z1.cell,z2.cell⟩))
      (first
        | (go_at_call 173;(with_reducible refine(NG.out _ BB.out.now.2.2.2.2.2.2.2.2.1).mono ?_);rintro e w6 ⟨rfl,hb6⟩;have BB:=Lib.hid (BB.out.go hb6);clear hb6)
        | (go_at_call 172;(with_reducible refine(FR.out _ BB.out.now.2.2.2.1 BB.out.now.2.2.2.2.2.2.2.1).mono ?_);rintro e w7 ⟨a6,n6,c6,m6,a7,n7,c7,rfl,hr,hb7⟩;have BB:=Lib.hid (BB.out.go hb7);have hs:=BB.out.now.2.2.2.2.1;have r0:=hs.cell;have r1:=hs.cell1;have r2:=hs.cell2;have g0:=hs.free;have g1:=hs.free1;have g2:=hs.free2;have HS:=hs.set (.slice a6 n6 c6) (.bool m6) (.slice a7 n7 c7);have z0:=BB.out.now.2.2.2.2.2.2.1.set3o he.1 (.slice a6 n6 c6) (.bool m6) (.slice a7 n7 c7);have z1:=BB.out.now.2.2.2.2.2.1.set3o he.2.1 (.slice a6 n6 c6) (.bool m6) (.slice a7 n7 c7);have z2:=BB.out.now.2.2.1.set3o he.2.2 (.slice a6 n6 c6) (.bool m6) (.slice a7 n7 c7);have HE:=Lib.hid (RatTold.done BB.out.below (by omega) hs hr);clear hb7 hs hr))
     go_wp2;exact bodyPost_ret (by simp[results,Tryz.results115,go_sem,HS]) rfl HE.out
   · have DM := Lib.hid (fun a5 n5 c5 wz (h : NatIs wz (.agg #[.slice a n c]) P.natAbs) (g : NatIs wz (.agg #[.slice a5 n5 c5]) (Nat.gcd P.natAbs Q)) => divMod3_any a n c a5 n5 c5 P.natAbs (Nat.gcd P.natAbs Q) wz h g K hK hPK (rg_pos P hQ)); have DQ := Lib.hid (fun a5 n5 c5 wz (h : NatIs wz (.agg #[.slice a2 n2 c2]) Q) (g : NatIs wz (.agg #[.slice a5 n5 c5]) (Nat.gcd P.natAbs Q)) => divMod3_any a2 n2 c2 a5 n5 c5 Q (Nat.gcd P.natAbs Q) wz h g K hK hQK (rg_pos P hQ)); have FR := Lib.hid (fun a n c a2 n2 c2 wz (h : NatIs wz (.agg #[.slice a n c]) (P.natAbs / Nat.gcd P.natAbs Q)) (g : NatIs wz (.agg #[.slice a2 n2 c2]) (Q / Nat.gcd P.natAbs Q)) => fraction_any m a n c (P.natAbs / Nat.gcd P.natAbs Q) a2 n2 c2 (Q / Nat.gcd P.natAbs Q) wz h g (loQ_pos P hQ)); have hx : sgn m (P.natAbs / Nat.gcd P.natAbs Q) = loP P Q := by rw [h.1]; rfl
     rw[hx,show Q / Nat.gcd P.natAbs Q=loQ P Q from rfl]at FR;rw[show Q / Nat.gcd P.natAbs Q=loQ P Q from rfl]at DQ;rw[decide_eq_false hg]at ON2;unfold DivOf3 at DM DQ;generalize loP P Q=P1 at *;generalize loQ P Q=Q1 at *;generalize P.natAbs / Nat.gcd P.natAbs Q=N1 at *;generalize Nat.gcd P.natAbs Q=G at *;clear h g B0 hPK hQK hQ hg hx;go_enter Tryz.func115,Tryz.ntmps115;have q0:=BB.out.now.2.1.cell;have q1:=BB.out.now.2.2.1.cell;have q2:=BB.out.now.2.2.1.cell1
     go_wp2_with (first
      | (go_at_call 168;(with_reducible refine(ON.out _ BB.out.now.2.2.2.1).mono ?_);rintro e w2 ⟨rfl,hb2⟩;have BB:=Lib.hid (BB.out.go hb2);clear hb2;have q0:=BB.out.now.2.1.cell;have q1:=BB.out.now.2.2.1.cell;have q2:=BB.out.now.2.2.1.cell1)
      | (go_at_call 169;(with_reducible refine(SZ.out _ BB.out.now.2.2.2.2.1).mono ?_);rintro e w3 ⟨rfl,hn3,hb3⟩;have hk3:w.heap.size+1+1<w3.heap.size:=(BB.out.go hb3).now.1.lt;have BB:=Lib.hid (((BB.out.go hb3).nat hn3).box (.slice a n c) 49);clear hb3 hn3;have q0:=BB.out.now.2.2.2.1.cell;have q1:=BB.out.now.2.2.2.2.1.cell;have q2:=BB.out.now.2.2.2.2.1.cell1;have q3:=BB.out.now.1.cell)
      | (go_at_call 170;(with_reducible refine(GC.out _ BB.out.now.2.1 BB.out.now.2.2.2.2.2.1).mono ?_);rintro e w4 ⟨a5,n5,c5,rfl,hn5,hb4⟩;have hk4:w3.heap.size<w4.heap.size:=(BB.out.go hb4).now.1.lt;have BB:=Lib.hid (((BB.out.go hb4).nat hn5).box (.slice a5 n5 c5) 49);clear hb4 hn5;have q0:=BB.out.now.2.2.2.2.2.1.cell;have q1:=BB.out.now.2.2.2.2.2.2.1.cell;have q2:=BB.out.now.2.2.2.2.2.2.1.cell1;have q3:=BB.out.now.2.2.1.cell;have q4:=BB.out.now.1.cell)
      | (go_at_call 168;(with_reducible refine(ON2.out a5 n5 c5 _ BB.out.now.2.1).mono ?_);rintro e w5 ⟨rfl,hb5⟩;have BB:=Lib.hid (BB.out.go hb5);clear hb5;have q0:=BB.out.now.2.2.2.2.2.1.cell;have q1:=BB.out.now.2.2.2.2.2.2.1.cell;have q2:=BB.out.now.2.2.2.2.2.2.1.cell1;have q3:=BB.out.now.2.2.1.cell;have q4:=BB.out.now.1.cell))
     go_at_call 171;(with_reducible refine(DM.out _ _ _ _ BB.out.now.2.2.2.1 BB.out.now.2.1).mono ?_);rintro e w6 ⟨a6,n6,c6,a7,n7,c7,rfl,hv,_,hb6⟩;have B6:=BB.out.go hb6;have u0:=B6.now.2.2.1;have hc:=u0.cell;have hf:=u0.free;have hni:∀(x:Option Addr) (y z:Nat) (ki:IntKind) (i:Int),(Value.slice x y z) ≠ .int ki i:=fun _ _ _ _ _ h=>by cases h
     have B7:=(Bag.start w).go (B6.below.setCell (p:=⟨w3.heap.size,0,none⟩) (show w.heap.size<=w3.heap.size by omega) (.slice a6 n6 c6));have B7:=B7.int (a:=a) (n:=n) (c:=c) (m:=m) (Z:=P) ⟨B6.now.2.2.2.2.2.2.2.2.1.1,B6.now.2.2.2.2.2.2.2.2.1.2.storeAt hc (hni _ _ _) _⟩;have B7:=B7.nat (B6.now.2.2.2.2.2.2.2.1.storeAt hc (hni _ _ _) _)
     have B7:=B7.slot2 (B6.now.2.2.2.2.2.2.1.seto (by omega) _);have B7:=B7.slot (B6.now.2.2.2.2.2.1.seto (by omega) _);have B7:=B7.slot3 (B6.now.2.2.2.2.1.set1o (by omega) _);have B7:=B7.nat (B6.now.2.1.storeAt hc (hni _ _ _) _)
     have B7:=B7.slot (B6.now.1.seto (by omega) _);have B7:=B7.slot (u0.set0 _);have B7:=B7.nat (hv.storeAt hc (hni _ _ _) _)
     have BB:=Lib.hid B7;have q0:=B7.now.2.2.2.2.2.1.cell;have q3:=B7.now.2.1.cell;have q4:=B7.now.2.2.1.cell;clear hv hb6 B6 u0 B7;go_wp2_with fail;go_at_call 171;(with_reducible refine(DQ.out _ _ _ _ BB.out.now.2.2.2.2.2.2.2.1 BB.out.now.2.2.2.1).mono ?_);rintro e w7 ⟨a8,n8,c8,a9,n9,c9,rfl,hv,_,hb7⟩;have B8:=BB.out.go hb7;have u0:=B8.now.2.2.2.2.2.1;have hc:=u0.cell;have hf:=u0.free;have B9:=(Bag.start w).go (B8.below.setCell (p:=⟨w.heap.size+1,0,none⟩) (show w.heap.size<=w.heap.size+1 by omega) (.slice a8 n8 c8));have B9:=B9.int (a:=a) (n:=n) (c:=c) (m:=m) (Z:=P) ⟨B8.now.2.2.2.2.2.2.2.2.1.1,B8.now.2.2.2.2.2.2.2.2.1.2.storeAt hc (hni _ _ _) _⟩;have B9:=B9.slot2 (B8.now.2.2.2.2.2.2.1.seto (by omega) _);have B9:=B9.slot (u0.set0 _);have B9:=B9.slot3 (B8.now.2.2.2.2.1.set1o (by omega) _);have B9:=B9.nat (B8.now.2.2.2.1.storeAt hc (hni _ _ _) _)
     have B9:=B9.slot (B8.now.2.2.1.seto (by omega) _);have B9:=B9.slot (B8.now.2.1.seto (by omega) _);have B9:=B9.nat (B8.now.1.storeAt hc (hni _ _ _) _)
     have B9:=B9.nat (hv.storeAt hc (hni _ _ _) _)
     have BB:=Lib.hid B9;clear hv hb7 B8 u0 B9 q0 q3 q4;go_wp2_with fail;have BB:=Lib.hid BB.out.drew;have he:w.heap.size≠w.heap.size+1+1/\w.heap.size+1≠w.heap.size+1+1/\w3.heap.size≠w.heap.size+1+1:=by omega
     go_region_held3 (fun y => y.cell? ⟨w.heap.size, 0, none⟩ = some (.slice a n c) /\ y.cell? ⟨w.heap.size, 1, none⟩ = some (.bool m) /\ y.cell? ⟨w.heap.size + 1, 0, none⟩ = some (.slice a8 n8 c8) /\ y.cell? ⟨w3.heap.size, 0, none⟩ = some (.slice a6 n6 c6))
      (first
        | (exact⟨BB.out.now.2.2.2.2.2.2.2.1.cell,BB.out.now.2.2.2.2.2.2.2.1.cell1,BB.out.now.2.2.2.2.2.2.1.cell,BB.out.now.2.2.1.cell⟩)
        | (exact⟨z0.cell,z0.cell1,z1.cell,z2.cell⟩))
      (first
        | (go_at_call 173;(with_reducible refine(NG.out _ BB.out.now.2.2.2.2.2.2.2.2.1).mono ?_);rintro e w8 ⟨rfl,hb8⟩;have BB:=Lib.hid (BB.out.go hb8);clear hb8)
        | (go_at_call 172;(with_reducible refine(FR.out _ _ _ _ _ _ _ BB.out.now.2.1 BB.out.now.1).mono ?_);rintro e w9 ⟨a10,n10,c10,m10,a11,n11,c11,rfl,hr,hb9⟩;have BB:=Lib.hid (BB.out.go hb9);have hs:=BB.out.now.2.2.2.2.2.1;have r0:=hs.cell;have r1:=hs.cell1;have r2:=hs.cell2;have g0:=hs.free;have g1:=hs.free1;have g2:=hs.free2;have HS:=hs.set (.slice a10 n10 c10) (.bool m10) (.slice a11 n11 c11);have z0:=BB.out.now.2.2.2.2.2.2.2.1.set3o he.1 (.slice a10 n10 c10) (.bool m10) (.slice a11 n11 c11);have z1:=BB.out.now.2.2.2.2.2.2.1.set3o he.2.1 (.slice a10 n10 c10) (.bool m10) (.slice a11 n11 c11);have z2:=BB.out.now.2.2.1.set3o he.2.2 (.slice a10 n10 c10) (.bool m10) (.slice a11 n11 c11);have HE:=Lib.hid (RatTold.done BB.out.below (by omega) hs hr);clear hb9 hs hr))
     go_wp2;exact bodyPost_ret (by simp[results,Tryz.results115,go_sem,HS]) rfl HE.out
def RatTold3(w w':World)(e:Ending)(P:Int)(Q:Nat)(ok:Bool):Prop:=∃a n c m a2 n2 c2,e=.returned (.tuple #[.agg #[.slice a n c,.bool m,.slice a2 n2 c2],.bool ok])/\RatAt w' a n c m a2 n2 c2 P Q/\Below w.heap.size w w'
theorem RatTold3.done {w w2 : World} {k : Nat} {a0 : Option Addr} {n0 c0 : Nat} {m0 : Bool} {a1 : Option Addr} {n1 c1 : Nat} {a : Option Addr} {n c : Nat} {m : Bool} {a2 : Option Addr} {n2 c2 : Nat} {P : Int} {Q : Nat} (ok : Bool) (hb : Below w.heap.size w w2) (hk : w.heap.size <= k)
    (hs:Slot3 w2 k (.slice a0 n0 c0) (.bool m0) (.slice a1 n1 c1)) (h:RatAt w2 a n c m a2 n2 c2 P Q) :
    RatTold3 w (((w2.setCell ⟨k,0,none⟩ (.slice a n c)).setCell ⟨k,1,none⟩ (.bool m)).setCell ⟨k,2,none⟩ (.slice a2 n2 c2)) (.returned (.tuple #[.agg #[.slice a n c,.bool m,.slice a2 n2 c2],.bool ok])) P Q ok:=by
 obtain⟨a',n',c',m',a2',n2',c2',he,h1,h2⟩:=RatTold.done hb hk hs h
 cases he
 exact⟨a,n,c,m,a2,n2,c2,rfl,h1,h2⟩
theorem IntAt.nt{w:World}{a:Option Addr}{n c:Nat}{m:Bool}{Z:Int}(h:IntAt w a n c m Z):NatIs w (.agg #[.slice a n c]) Z.natAbs:=h.2
theorem RatAt.int{w:World}{a:Option Addr}{n c:Nat}{m:Bool}{a2:Option Addr}{n2 c2:Nat}{P:Int}{Q:Nat}(h:RatAt w a n c m a2 n2 c2 P Q):IntAt w a n c m P:=h.1
theorem RatAt.zero(w:World):RatAt w none 0 0 false none 0 0 0 1:=⟨⟨rfl,NatIs.zero w⟩,NatIs.zero w⟩
theorem RatAt.set3 {w : World} {k : Nat} {a0 : Option Addr} {n0 c0 : Nat} {m0 : Bool} {a1 : Option Addr} {n1 c1 : Nat} {a : Option Addr} {n c : Nat} {m : Bool} {a2 : Option Addr} {n2 c2 : Nat} {P : Int} {Q : Nat} (q : RatAt w a n c m a2 n2 c2 P Q)
    (h:Slot3 w k (.slice a0 n0 c0) (.bool m0) (.slice a1 n1 c1)) (u v t:Value):RatAt (((w.setCell ⟨k,0,none⟩ u).setCell ⟨k,1,none⟩ v).setCell ⟨k,2,none⟩ t) a n c m a2 n2 c2 P Q :=
 ⟨⟨q.1.1,q.1.2.set3 h (fun _ _ h=>by cases h) (fun _ _ h=>by cases h) (fun _ _ h=>by cases h) _ _ _⟩,q.2.set3 h (fun _ _ h=>by cases h) (fun _ _ h=>by cases h) (fun _ _ h=>by cases h) _ _ _⟩
end Go.Proofs.YtdmmenaejkpnjaaGreatDoor
namespace Go.Proofs.YtdmmenaejkpnjaaGreatDoor
open Go.RowKit
theorem str_inj{l:List UInt8}{s:ByteArray}:str l=s↔l=s.data.toList:=by
 constructor
 · intro h;rw[← h];rfl
 · intro h;rw[h];rfl
theorem lo_gcd1{N M:Nat}(hM:0<M)(h:M / Nat.gcd N M=M):Nat.gcd N M=1:=by
 have hg:0<Nat.gcd N M:=Nat.gcd_pos_of_pos_right _ hM
 rcases Nat.lt_or_ge 1 (Nat.gcd N M)with h1|h1
 · have:=Nat.div_lt_self hM h1;omega
 · omega
theorem of_right (b : Bool) (s t : ByteArray) (hM : 0 < numOf t.data.toList) :
    decide (rB (loP (sgn b (numOf s.data.toList)) (numOf t.data.toList))=b/\rS (loP (sgn b (numOf s.data.toList)) (numOf t.data.toList))=s/\str (dec (loQ (sgn b (numOf s.data.toList)) (numOf t.data.toList)))=t)
     = (decide (str (dec (numOf s.data.toList))=s)&&(decide (str (dec (numOf t.data.toList))=t)&&(decide (Nat.gcd (numOf s.data.toList) (numOf t.data.toList)=1) && !(b&&decide (numOf s.data.toList=0))))):=by
 have ha:(sgn b (numOf s.data.toList)).natAbs=numOf s.data.toList:=sgn_abs _ _;have e1:(loP (sgn b (numOf s.data.toList)) (numOf t.data.toList)).natAbs=numOf s.data.toList / Nat.gcd (numOf s.data.toList) (numOf t.data.toList):=by rw[loP_abs];unfold rg;rw[ha]
 have e2:loQ (sgn b (numOf s.data.toList)) (numOf t.data.toList)=numOf t.data.toList / Nat.gcd (numOf s.data.toList) (numOf t.data.toList):=by unfold loQ rg;rw[ha]
 have e3:rB (loP (sgn b (numOf s.data.toList)) (numOf t.data.toList))=(b && !decide (numOf s.data.toList=0)):=by
  unfold rB;rw[loP_neg];exact sgn_neg _ _
 rw[e2,e3];unfold rS;rw[e1];rw[Bool.eq_iff_iff,decide_eq_true_eq,Bool.and_eq_true,Bool.and_eq_true,Bool.and_eq_true,decide_eq_true_eq,decide_eq_true_eq,decide_eq_true_eq]
 constructor
 · rintro⟨h1,h2,h3⟩
   have n1:numOf s.data.toList / Nat.gcd (numOf s.data.toList) (numOf t.data.toList)=numOf s.data.toList:=by
    have:=congrArg numOf (str_inj.1 h2);rw[numOf_dec]at this;exact this
   have n2:numOf t.data.toList / Nat.gcd (numOf s.data.toList) (numOf t.data.toList)=numOf t.data.toList:=by
    have:=congrArg numOf (str_inj.1 h3);rw[numOf_dec]at this;exact this
   rw[n1]at h2;rw[n2]at h3;refine⟨h2,h3,lo_gcd1 hM n2,?_⟩
   cases b
   · rfl
   · simpa using h1
 · rintro⟨h1,h2,h3,h4⟩;rw[h3,Nat.div_one,Nat.div_one];refine⟨?_,h1,h2⟩
   cases b
   · rfl
   · simpa using h4
end Go.Proofs.YtdmmenaejkpnjaaGreatDoor
namespace Go.Proofs.YtdmmenaejkpnjaaGreatDoor
open Go.RowKit Go.WideMaps Go.WideElems
theorem dec_eq_digit(N d:Nat)(hd:d<10):((str (dec N)).toList == [UInt8.ofNat (48+d)])=decide (N=d):=by
 rw[Bool.eq_iff_iff,beq_iff_eq,decide_eq_true_eq,ByteArray.toList_eq,str_toList,← dec_small hd]
 constructor
 · intro h;have:=congrArg numOf h;rw[numOf_dec,numOf_dec]at this;exact this
 · intro h;rw[h]
end Go.Proofs.YtdmmenaejkpnjaaGreatDoor
namespace Go.Proofs.YtdmmenaejkpnjaaGreatDoor
open Go.RowKit
def lb(N:Nat):Nat:=(nbits N+31) / 32
structure PI(w wr:World)(x:Value)(X:Nat):Prop where
 below:Below w.heap.size w wr
 s1:Slot wr w.heap.size x
 s2:Slot wr (w.heap.size+1) (.slice none 0 0)
 xs:NatIs wr (.agg #[x]) X
structure PS(w wr:World)(x:Value)(X z8 E:Nat)(p:Value):Prop where
 pi:PI w wr x X
 lt8:w.heap.size+1<z8
 s8:Slot wr z8 p
 np:NatIs wr (.agg #[p]) (X^E)
end Go.Proofs.YtdmmenaejkpnjaaGreatDoor
namespace Go.Proofs.YtdmmenaejkpnjaaGreatDoor
open Go.RowKit
attribute [local go_sem ↓] Go.wp_at_zero Go.wp_at_succ
theorem ratInt_any (a : Option Addr) (n c : Nat) (m : Bool) (a2 : Option Addr) (n2 c2 : Nat) (P : Int) (Q : Nat) (w : World) (h : RatAt w a n c m a2 n2 c2 P Q) (hQ : 0 < Q) :
    Calls Tryz.prog 212 #[.agg #[.slice a n c,.bool m,.slice a2 n2 c2]] w fun e w'=>e=.returned (.tuple #[.int .i64 (if Q=1 then fitI P else 0),.bool (decide (Q=1)&&fitB P)])/\Below w.heap.size w w':=by
 have B0:=((Bag.start w).rat h).box3 (.slice a n c) (.bool m) (.slice a2 n2 c2) 53;have IW:=Lib.hid (fun wz hz=>isWhole_any a n c m a2 n2 c2 P Q wz hz hQ);have IN:=Lib.hid (fun wz (h:IntAt wz a n c m P)=>int_any a n c m P wz h);have BB:=Lib.hid B0
 by_cases h1:Q=1
 · rw[decide_eq_true h1]at IW ⊢;rw[if_pos h1,Bool.true_and];generalize fitI P=x at *;generalize fitB P=y at *;clear h hQ B0 h1;go_enter Tryz.func212,Tryz.ntmps212
   go_wp2_with (first
    | (go_at_call 120;(with_reducible refine(IW.out _ BB.out.now.2.1).mono ?_);rintro e w2 ⟨rfl,hb2⟩;have BB:=Lib.hid (BB.out.go hb2);clear hb2;have q0:=BB.out.now.1.cell;have q1:=BB.out.now.1.cell1)
    | (go_at_call 229;(with_reducible refine(IN.out _ BB.out.now.2.1.int).mono ?_);rintro e w3 ⟨rfl,hb3⟩;have BB:=Lib.hid (BB.out.go hb3);clear hb3))
   go_ret2;exact⟨rfl,BB.out.below⟩
 · rw[decide_eq_false h1]at IW ⊢;rw[if_neg h1,Bool.false_and];clear h hQ B0 h1 IN;go_enter Tryz.func212,Tryz.ntmps212
   go_wp2_with (first
    | (go_at_call 120;(with_reducible refine(IW.out _ BB.out.now.2.1).mono ?_);rintro e w2 ⟨rfl,hb2⟩;have BB:=Lib.hid (BB.out.go hb2);clear hb2))
   go_ret2;exact⟨rfl,BB.out.below⟩
def NumTold(w w':World)(e:Ending)(P:Int)(Q:Nat):Prop:=e=.returned (.agg #[.bool (rB P),.string (rS P),.string (str (dec Q))])/\Below w.heap.size w w'
theorem NumTold.done {w w2 : World} {k : Nat} (P : Int) (Q : Nat) (hb : Below w.heap.size w w2) (hk : w.heap.size <= k) {b : Bool} {s t : ByteArray} (h1 : rB P = b) (h2 : rS P = s) (h3 : str (dec Q) = t) :
    NumTold w (((w2.setCell ⟨k,0,none⟩ (.bool b)).setCell ⟨k,1,none⟩ (.string s)).setCell ⟨k,2,none⟩ (.string t)) (.returned (.agg #[.bool b,.string s,.string t])) P Q :=
 ⟨by rw[h1,h2,h3],((hb.setCell hk _).setCell hk _).setCell hk _⟩
theorem num_any (a : Option Addr) (n c : Nat) (m : Bool) (a2 : Option Addr) (n2 c2 : Nat) (P : Int) (Q : Nat) (w : World) (h : RatAt w a n c m a2 n2 c2 P Q) (hQ : 0 < Q)
    (K:Nat) (hK:K<=100000) (h1:P.natAbs<4294967296^K) (h2:Q<4294967296^K) :
    Calls Tryz.prog 21 #[.agg #[.slice a n c,.bool m,.slice a2 n2 c2]] w fun e w'=>NumTold w w' e P Q:=by
 have B0:=(((Bag.start w).rat h).box3 (.slice a n c) (.bool m) (.slice a2 n2 c2) 53).box3 (.bool false) (.string ⟨#[]⟩) (.string ⟨#[]⟩) 46;simp only[World.size_alloc]at B0;have SG:=Lib.hid (fun wz hz=>ratSign_any a n c m a2 n2 c2 P Q wz hz);have BT:=Lib.hid (fun wz hz=>bot_any a n c m a2 n2 c2 P Q wz hz hQ);have X1:Hid (∀wz,NatIs wz (.agg #[.slice a n c]) P.natAbs->Calls Tryz.prog 73 #[.agg #[.slice a n c]] wz fun e w'=>e=.returned (.string (rS P))/\Below wz.heap.size wz w'):=fun wz h=>text_any _ P.natAbs wz h K hK h1
 have X2:=Lib.hid (fun a n c wz (h:NatIs wz (.agg #[.slice a n c]) Q)=>text_any (.agg #[.slice a n c]) Q wz h K hK h2);have BB:=Lib.hid B0.drew;have he:w.heap.size≠w.heap.size+1:=by omega
 have ND:=Lib.hid (fun w2 b s t (hb:Below w.heap.size w w2) (h1:rB P=b) (h2:rS P=s) (h3:str (dec Q)=t)=>NumTold.done (k:=w.heap.size+1) P Q hb (by omega) h1 h2 h3);obtain⟨s,hs⟩:∃s,rS P=s:=⟨_,rfl⟩
 obtain⟨t,ht⟩:∃t,str (dec Q)=t:=⟨_,rfl⟩
 rw[hs]at X1;rw[ht]at X2;have HS0:=Lib.hid hs;have HT0:=Lib.hid ht
 have hv:∃x b,sgnI P=x/\rB P=b/\((x = -1/\b=true)∨(x=0/\b=false)∨(x=1/\b=false)):=by
  refine⟨_,_,rfl,rfl,?_⟩;unfold sgnI rB
  by_cases e1:P<0
  · rw[if_pos e1,decide_eq_true e1];exact .inl ⟨rfl,rfl⟩
  · rw[if_neg e1,decide_eq_false e1]
    by_cases e2:P=0
    · rw[if_pos e2];exact .inr (.inl ⟨rfl,rfl⟩)
    · rw[if_neg e2];exact .inr (.inr ⟨rfl,rfl⟩)
 obtain⟨x,b,hx,hb0,hxb⟩:=hv;rw[hx]at SG;have HB0:=Lib.hid hb0;clear h hQ B0 h1 h2 hs ht hx hb0
 rcases hxb with ⟨rfl,rfl⟩|⟨rfl,rfl⟩|⟨rfl,rfl⟩
 · go_enter Tryz.func21, Tryz.ntmps21; go_wp2_with fail
   go_region_held3 (fun y => y.cell? ⟨w.heap.size, 0, none⟩ = some (.slice a n c) /\ y.cell? ⟨w.heap.size, 1, none⟩ = some (.bool m) /\ y.cell? ⟨w.heap.size, 2, none⟩ = some (.slice a2 n2 c2))
    (first
      | (exact⟨z0.cell,z0.cell1,z0.cell2⟩)
      | (exact⟨BB.out.now.2.1.cell,BB.out.now.2.1.cell1,BB.out.now.2.1.cell2⟩))
    (first
      | (go_at_call 72;(with_reducible refine(SG.out _ BB.out.now.2.2.1).mono ?_);rintro e w2 ⟨rfl,hb2⟩;have BB:=Lib.hid (BB.out.go hb2))
      | (go_at_call 73;(with_reducible refine(X1.out _ BB.out.now.2.2.1.int.nt).mono ?_);rintro e w3 ⟨rfl,hb3⟩;have BB:=Lib.hid (BB.out.go hb3))
      | (go_at_call 74;(with_reducible refine(BT.out _ BB.out.now.2.2.1).mono ?_);rintro e w4 ⟨a3,n3,c3,rfl,hn3,hb4⟩;have BB:=Lib.hid (BB.out.go hb4))
      | (go_at_call 73;(with_reducible refine(X2.out _ _ _ _ hn3).mono ?_);rintro e w5 ⟨rfl,hb5⟩;have BB:=Lib.hid (BB.out.go hb5);have hs:=BB.out.now.1;have r0:=hs.cell;have r1:=hs.cell1;have r2:=hs.cell2;have g0:=hs.free;have g1:=hs.free1;have g2:=hs.free2;have z0:=BB.out.now.2.1.set3o he (.bool true) (.string s) (.string t);have HS:=hs.set (.bool true) (.string s) (.string t);have HE:=Lib.hid (ND.out _ _ _ _ BB.out.below HB0.out HS0.out HT0.out)))
   go_wp2;exact bodyPost_ret (by simp[results,Tryz.results21,go_sem,HS]) rfl HE.out
 · go_enter Tryz.func21, Tryz.ntmps21; go_wp2_with fail
   go_region_held3 (fun y => y.cell? ⟨w.heap.size, 0, none⟩ = some (.slice a n c) /\ y.cell? ⟨w.heap.size, 1, none⟩ = some (.bool m) /\ y.cell? ⟨w.heap.size, 2, none⟩ = some (.slice a2 n2 c2))
    (first
      | (exact⟨z0.cell,z0.cell1,z0.cell2⟩)
      | (exact⟨BB.out.now.2.1.cell,BB.out.now.2.1.cell1,BB.out.now.2.1.cell2⟩))
    (first
      | (go_at_call 72;(with_reducible refine(SG.out _ BB.out.now.2.2.1).mono ?_);rintro e w2 ⟨rfl,hb2⟩;have BB:=Lib.hid (BB.out.go hb2))
      | (go_at_call 73;(with_reducible refine(X1.out _ BB.out.now.2.2.1.int.nt).mono ?_);rintro e w3 ⟨rfl,hb3⟩;have BB:=Lib.hid (BB.out.go hb3))
      | (go_at_call 74;(with_reducible refine(BT.out _ BB.out.now.2.2.1).mono ?_);rintro e w4 ⟨a3,n3,c3,rfl,hn3,hb4⟩;have BB:=Lib.hid (BB.out.go hb4))
      | (go_at_call 73;(with_reducible refine(X2.out _ _ _ _ hn3).mono ?_);rintro e w5 ⟨rfl,hb5⟩;have BB:=Lib.hid (BB.out.go hb5);have hs:=BB.out.now.1;have r0:=hs.cell;have r1:=hs.cell1;have r2:=hs.cell2;have g0:=hs.free;have g1:=hs.free1;have g2:=hs.free2;have z0:=BB.out.now.2.1.set3o he (.bool false) (.string s) (.string t);have HS:=hs.set (.bool false) (.string s) (.string t);have HE:=Lib.hid (ND.out _ _ _ _ BB.out.below HB0.out HS0.out HT0.out)))
   go_wp2;exact bodyPost_ret (by simp[results,Tryz.results21,go_sem,HS]) rfl HE.out
 · go_enter Tryz.func21, Tryz.ntmps21; go_wp2_with fail
   go_region_held3 (fun y => y.cell? ⟨w.heap.size, 0, none⟩ = some (.slice a n c) /\ y.cell? ⟨w.heap.size, 1, none⟩ = some (.bool m) /\ y.cell? ⟨w.heap.size, 2, none⟩ = some (.slice a2 n2 c2))
    (first
      | (exact⟨z0.cell,z0.cell1,z0.cell2⟩)
      | (exact⟨BB.out.now.2.1.cell,BB.out.now.2.1.cell1,BB.out.now.2.1.cell2⟩))
    (first
      | (go_at_call 72;(with_reducible refine(SG.out _ BB.out.now.2.2.1).mono ?_);rintro e w2 ⟨rfl,hb2⟩;have BB:=Lib.hid (BB.out.go hb2))
      | (go_at_call 73;(with_reducible refine(X1.out _ BB.out.now.2.2.1.int.nt).mono ?_);rintro e w3 ⟨rfl,hb3⟩;have BB:=Lib.hid (BB.out.go hb3))
      | (go_at_call 74;(with_reducible refine(BT.out _ BB.out.now.2.2.1).mono ?_);rintro e w4 ⟨a3,n3,c3,rfl,hn3,hb4⟩;have BB:=Lib.hid (BB.out.go hb4))
      | (go_at_call 73;(with_reducible refine(X2.out _ _ _ _ hn3).mono ?_);rintro e w5 ⟨rfl,hb5⟩;have BB:=Lib.hid (BB.out.go hb5);have hs:=BB.out.now.1;have r0:=hs.cell;have r1:=hs.cell1;have r2:=hs.cell2;have g0:=hs.free;have g1:=hs.free1;have g2:=hs.free2;have z0:=BB.out.now.2.1.set3o he (.bool false) (.string s) (.string t);have HS:=hs.set (.bool false) (.string s) (.string t);have HE:=Lib.hid (ND.out _ _ _ _ BB.out.below HB0.out HS0.out HT0.out)))
   go_wp2;exact bodyPost_ret (by simp[results,Tryz.results21,go_sem,HS]) rfl HE.out
theorem shifted0_any (a : Option Addr) (n c : Nat) (k : Int) (w : World) (h : NatIs w (.agg #[.slice a n c]) 0) :
    Calls Tryz.prog 166 #[.agg #[.slice a n c],.int .i64 k] w fun e w'=>NatTold2 w w' e (.agg #[.slice a n c]) 0:=by
 have B0:=(((Bag.start w).nat h).box (.slice a n c) 49).box (.slice none 0 0) 49;simp only[World.size_alloc]at B0;have ZE:=Lib.hid (fun wz (h:NatIs wz (.agg #[.slice a n c]) 0)=>zero_any _ 0 wz h);rw[decide_eq_true rfl]at ZE;have BB:=Lib.hid B0;have q0:=B0.now.2.1.cell;clear h B0;go_enter Tryz.func166,Tryz.ntmps166;go_wp2_with fail;go_at_call 114;refine(ZE.out _ BB.out.now.2.2.1).mono ?_;rintro e w2 ⟨rfl,hb2⟩;have BB:=bgo BB hb2;have q0:=BB.out.now.2.1.cell;have hs:=BB.out.now.1;have hc:=hs.cell;have hf:=hs.free;have HS:=World.cell?_setCell_same w2 ⟨w.heap.size+1,0,none⟩ (.slice a n c) hc;have HE:Hid (NatTold2 w (w2.setCell ⟨w.heap.size+1,0,none⟩ (.slice a n c)) (.returned (.agg #[.slice a n c])) (.agg #[.slice a n c]) 0):=⟨rfl,BB.out.now.2.2.1.storeAt hc (fun _ _ h=>by cases h) _,BB.out.below.setCell (p:=⟨w.heap.size+1,0,none⟩) (show w.heap.size<=w.heap.size+1 by omega) _⟩
 clear hb2 hs;go_wp2;exact bodyPost_ret (by simp[results,Tryz.results166,go_sem,HS]) rfl HE.out
theorem ratRead_yes (s : ByteArray) (w : World) (hs : s.size <= 2000) (hok : okB s.data.toList = true) :
    Calls Tryz.prog 113 #[.string s] w fun e w'=>SubOf3 w w' e (numOf s.data.toList) true:=by
 have B0:=(Bag.start w).box (.slice none 0 0) 49 |>.box (.slice none 0 0) 49
 simp only[World.size_alloc]at B0;have PA:=Lib.hid (fun wz=>parse_any s wz (by unfold maxLen;omega));unfold ParseOut at PA;rw[hok]at PA;have BB:=Lib.hid B0;go_enter Tryz.func113,Tryz.ntmps113;go_wp2;have hsz:¬((s.size:Int)>2000):=by omega
 go_loopw [0] (fun i wr=>i=.string s/\wr=((w.alloc (.cells #[.slice none 0 0] 49)).alloc (.cells #[.slice none 0 0] 49))) (fun _ _=>0)
 case atStart=>exact⟨rfl,rfl⟩
 case round =>
  obtain⟨rfl,rfl⟩:=hrel;go_wp2_with fail;go_at_call 165;(with_reducible refine(PA.out _).mono ?_);rintro e w2 ⟨a,n,c,rfl,hv,_,hb2⟩;rw[if_pos trivial]at hv;have hk2:=(BB.out.go hb2).now.1.lt;have BB:=Lib.hid (((BB.out.go hb2).nat hv).box (.slice a n c) 49);have he:w.heap.size+1≠w.heap.size/\w2.heap.size≠w.heap.size:=by omega
  have SH:=Lib.hid (fun k wz=>shifted0_any none 0 0 k wz (NatIs.zero wz));unfold NatTold2 at SH;obtain⟨K,hK⟩:∃K,K=2000:=⟨_,rfl⟩
  have hN:numOf s.data.toList<4294967296^K:=by
   obtain⟨g1,g2,g3⟩:=okB_digs hok;have h1:=numOf_lt _ g3;have h2:s.data.toList.length=s.size:=rfl;exact Nat.lt_of_lt_of_le h1 (Nat.le_trans (Nat.pow_le_pow_right (by omega) (show s.data.toList.length<=K by omega)) (Nat.pow_le_pow_left (by omega) K))
  have AD:Hid (∀a n c b k l wz,NatIs wz (.agg #[.slice a n c]) 0->NatIs wz (.agg #[.slice b k l]) (numOf s.data.toList)->Calls Tryz.prog 167 #[.agg #[.slice a n c],.agg #[.slice b k l]] wz fun e w'=>NatTold wz w' e (numOf s.data.toList)):=fun a n c b k l wz h g=>by
   have:=(add_any _ _ 0 (numOf s.data.toList) wz h g K (by omega) (Nat.pow_pos (by omega)) hN).mono fun _ _ h=>h.told
   rw[Nat.zero_add]at this;exact this
  clear hv hb2 hN B0;go_wp2_with fail;have BB:=Lib.hid BB.out.drew
  go_region_held3 (fun y => y.cell? ⟨w.heap.size + 1, 0, none⟩ = some (.slice none 0 0) /\ y.cell? ⟨w2.heap.size, 0, none⟩ = some (.slice a n c))
   (first
     | (exact⟨z0.cell,z1.cell⟩)
     | (exact⟨BB.out.now.2.2.1.cell,BB.out.now.1.cell⟩))
   (first
     | (go_at_call 166;(with_reducible refine(SH.out _ _).mono ?_);rintro e w3 ⟨rfl,hn3,hb3⟩;have BB:=Lib.hid (BB.out.go hb3))
     | (go_at_call 167;(with_reducible refine(AD.out _ _ _ _ _ _ _ hn3 BB.out.now.2.1).mono ?_);rintro e w4 ⟨a5,n5,c5,rfl,hn5,hb4⟩;have BB:=Lib.hid (BB.out.go hb4);have hs4:=BB.out.now.2.2.2.1;have hc:=hs4.cell;have hf:=hs4.free;have z0:=BB.out.now.2.2.1.seto he.1 (.slice a5 n5 c5);have z1:=BB.out.now.1.seto he.2 (.slice a5 n5 c5);have HS:=World.cell?_setCell_same w4 ⟨w.heap.size,0,none⟩ (.slice a5 n5 c5) hc;have HE:Hid (SubOf3 w (w4.setCell ⟨w.heap.size,0,none⟩ (.slice a5 n5 c5)) (.returned (.tuple #[.agg #[.slice a5 n5 c5],.bool true])) (numOf s.data.toList) true):=⟨a5,n5,c5,rfl,hn5.storeAt hc (fun _ _ h=>by cases h) _,BB.out.below.setCell (p:=⟨w.heap.size,0,none⟩) (Nat.le_refl _) _⟩))
  go_wp2;exact bodyPost_ret (by simp[results,Tryz.results113,go_sem,HS]) rfl HE.out
theorem ratRead_no (s : ByteArray) (w : World) (hs : s.size <= 2000) (hok : okB s.data.toList = false) :
    Calls Tryz.prog 113 #[.string s] w fun e w'=>SubOf3 w w' e 0 false:=by
 have B0:=(Bag.start w).box (.slice none 0 0) 49 |>.box (.slice none 0 0) 49
 simp only[World.size_alloc]at B0;have PA:=Lib.hid (fun wz=>parse_any s wz (by unfold maxLen;omega));unfold ParseOut at PA;rw[hok]at PA;have BB:=Lib.hid B0;go_enter Tryz.func113,Tryz.ntmps113;go_wp2;have hsz:¬((s.size:Int)>2000):=by omega
 go_loopw [0] (fun i wr=>i=.string s/\wr=((w.alloc (.cells #[.slice none 0 0] 49)).alloc (.cells #[.slice none 0 0] 49))) (fun _ _=>0)
 case atStart=>exact⟨rfl,rfl⟩
 case round =>
  obtain⟨rfl,rfl⟩:=hrel;go_wp2_with fail;go_at_call 165;refine(PA.out _).mono ?_;rintro e w2 ⟨a,n,c,rfl,hv,_,hb2⟩;have BB:=Lib.hid ((BB.out.go hb2).box (.slice a n c) 49);have hs4:=BB.out.now.2.2.1;have hc:=hs4.cell;have hf:=hs4.free;have HS:=World.cell?_setCell_same _ ⟨w.heap.size,0,none⟩ (.slice none 0 0) hc;have HE:=Lib.hid (show SubOf3 w _ (.returned (.tuple #[.agg #[.slice none 0 0],.bool false])) 0 false from⟨none,0,0,rfl,NatIs.zero _,BB.out.below.setCell (p:=⟨w.heap.size,0,none⟩) (Nat.le_refl _) (.slice none 0 0)⟩);clear hv hb2 B0 hs4;go_wp2;exact bodyPost_ret (by simp[results,Tryz.results113,go_sem,HS]) rfl HE.out
end Go.Proofs.YtdmmenaejkpnjaaGreatDoor
namespace Go.Proofs.YtdmmenaejkpnjaaGreatDoor
open Go.RowKit
def RRow(w:World)(sa:Option Addr)(n c:Nat)(fP:Nat->Int)(fQ:Nat->Nat):Prop:=n<=c/\c<=maxLen/\(n=0∨∃b off,sa=some ⟨b,off,none⟩/\b<w.heap.size /\
 ∀j,j<n->∃a' n' c' m' a2' n2' c2',w.cell? ⟨b,off+j*3,none⟩=some (.slice a' n' c')/\w.cell? ⟨b,off+j*3+1,none⟩=some (.bool m')/\w.cell? ⟨b,off+j*3+2,none⟩=some (.slice a2' n2' c2')/\RatAt w a' n' c' m' a2' n2' c2' (fP j) (fQ j))
theorem RRow.below{w w':World}{sa:Option Addr}{n c:Nat}{fP:Nat->Int}{fQ:Nat->Nat}(h:RRow w sa n c fP fQ)(hb:Below w.heap.size w w'):RRow w' sa n c fP fQ:=by
 obtain⟨h0,h1,h2⟩:=h;refine⟨h0,h1,h2.imp id ?_⟩;rintro⟨b,off,rfl,hl,hc⟩;refine⟨b,off,rfl,Nat.lt_of_lt_of_le hl hb.size,fun j hj => ?_⟩;obtain⟨a',n',c',m',a2',n2',c2',e1,e2,e3,hr⟩:=hc j hj;exact⟨a',n',c',m',a2',n2',c2',(hb.cell (p:=⟨b,_,none⟩) hl).trans e1,(hb.cell (p:=⟨b,_,none⟩) hl).trans e2,(hb.cell (p:=⟨b,_,none⟩) hl).trans e3,hr.below hb⟩
theorem RRow.get {w : World} {sa : Option Addr} {n c : Nat} {fP : Nat -> Int} {fQ : Nat -> Nat} (h : RRow w sa n c fP fQ) {j : Nat} (hj : j < n) :
    ∃b off a' n' c' m' a2' n2' c2',sa=some ⟨b,off,none⟩/\b<w.heap.size/\w.cell? ⟨b,off+j*3,none⟩=some (.slice a' n' c')/\w.cell? ⟨b,off+j*3+1,none⟩=some (.bool m')/\w.cell? ⟨b,off+j*3+2,none⟩=some (.slice a2' n2' c2')/\RatAt w a' n' c' m' a2' n2' c2' (fP j) (fQ j):=by
 obtain⟨h0,h1,h2⟩:=h
 rcases h2 with h2|⟨b,off,rfl,hl,hc⟩
 · omega
 · obtain⟨a',n',c',m',a2',n2',c2',e⟩:=hc j hj;exact⟨b,off,a',n',c',m',a2',n2',c2',rfl,hl,e⟩
theorem RRow.nought(w:World)(a:Option Addr)(c:Nat)(hc:c<=maxLen)(fP:Nat->Int)(fQ:Nat->Nat):RRow w a 0 c fP fQ:=⟨Nat.zero_le _,hc,.inl rfl⟩
def lies(w:World)(b off n:Nat):List Value:=(List.range n).map fun j=>(w.cell? ⟨b,off+j,none⟩).getD undef
theorem lies_length(w:World)(b off n:Nat):(lies w b off n).length=n:=by simp[lies]
theorem lies_get{w:World}{b off n j:Nat}{u:Value}(h:(lies w b off n)[j]? = some u)(hs:∀i,i<n->(w.cell? ⟨b,off+i,none⟩).isSome=true):w.cell? ⟨b,off+j,none⟩=some u:=by
 unfold lies at h;rw[List.getElem?_map]at h;obtain⟨i,hi,rfl⟩:=Option.map_eq_some_iff.1 h
 have hj:j<n:=by
  have:=(List.getElem?_eq_some_iff.1 hi).1
  simpa using this
 rw[List.getElem?_range hj]at hi;obtain rfl:=Option.some.inj hi;obtain⟨v,hv⟩:=Option.isSome_iff_exists.1 (hs j hj);rw[hv];rfl
theorem lies_at{w:World}{b off n j:Nat}{u:Value}(hj:j<n)(h:w.cell? ⟨b,off+j,none⟩=some u):(lies w b off n)[j]? = some u:=by
 unfold lies;rw[List.getElem?_map,List.getElem?_range hj,Option.map_some,h]
 rfl
theorem three{n:Nat}{p:Nat->Prop}(h:∀j,j<n->p (j*3)/\p (j*3+1)/\p (j*3+2)):∀i,i<n*3->p i:=by
 intro i hi;obtain⟨h1,h2,h3⟩:=h (i / 3) (by omega);have:i=i / 3*3∨i=i / 3*3+1∨i=i / 3*3+2:=by omega
 rcases this with e|e|e<;>rw[e]<;>assumption
theorem infoR:(Tryz.prog.info? 53).map (fun i=>(i.zero,i.size,i.bytes))=some (some (.agg #[.slice none 0 0,.bool false,.slice none 0 0]),3,56):=by kernel_rfl
theorem infoC:(Tryz.prog.info? 21).map (fun i=>(i.zero,i.size,i.bytes))=some (some (.int .i32 0),1,4):=by kernel_rfl
theorem cloneR_any (a : Option Addr) (n c : Nat) (fP : Nat -> Int) (fQ : Nat -> Nat) (w : World) (h : RRow w a n c fP fQ) (hn : n <= 1000000) :
    Calls Tryz.prog 104 #[.slice a n c] w fun e w'=>∃a' c',e=.returned (.slice a' n c')/\RRow w' a' n c' fP fQ/\Below w.heap.size w w':=by
 obtain⟨i0,hi,hz0,hz1,hz2⟩:=info_parts infoR;have q22:∀(w:World) (a:Option Addr) (n c n' c':Nat),(binOp .eql 34 (.slice a n c) (.slice none n' c')).run Tryz.prog w=.ok (.bool a.isNone) w:=fun w a n c n' c'=>Lib.run_eql_slice_nil w _ _ a n c n' c' Tryz.underlying34
 cases a with
 | none =>
  have h0:n=0:=by
   rcases h.2.2 with h|⟨_,_,h,_⟩
   · exact h
   · cases h
  subst h0;go_enter Tryz.func104,Tryz.ntmps104;go_wp2;go_ret;exact⟨none,0,rfl,RRow.nought _ _ _ (Nat.zero_le _) _ _,Below.refl _ _⟩
 | some ad =>
  have hex:∃news:List Value,news.length=n*3/\(∀j u,news[j]? = some u->w.cell? (ad.add j)=some u)/\(∀u ∈ news,u.oneCell'=true) /\
      ∀j,j<n->∃a' n' c' m' a2' n2' c2',news[j*3]? = some (.slice a' n' c')/\news[j*3+1]? = some (.bool m')/\news[j*3+2]? = some (.slice a2' n2' c2')/\RatAt w a' n' c' m' a2' n2' c2' (fP j) (fQ j):=by
   rcases h.2.2 with h0|⟨b,off,he,hb,hc⟩
   · subst h0;exact⟨[],rfl,fun j u hu=>by simp at hu,fun u hu=>by simp at hu,fun j hj=>by omega⟩
   · obtain rfl:=Option.some.inj he
     have hs:∀i,i<n*3->∃u,w.cell? ⟨b,off+i,none⟩=some u/\u.oneCell'=true:=three (p:=fun i=>∃u,w.cell? ⟨b,off+i,none⟩=some u/\u.oneCell'=true) fun j hj=>by
      obtain⟨a',n',c',m',a2',n2',c2',e1,e2,e3,_⟩:=hc j hj;exact⟨⟨_,e1,rfl⟩,⟨_,e2,rfl⟩,⟨_,e3,rfl⟩⟩
     have hs':∀i,i<n*3->(w.cell? ⟨b,off+i,none⟩).isSome=true:=fun i hi=>by obtain⟨u,hu,_⟩:=hs i hi;rw[hu];rfl
     refine⟨lies w b off (n*3),lies_length _ _ _ _,fun j u hu => ?_,fun u hu => ?_,fun j hj => ?_⟩
     · rw[show(⟨b,off,none⟩:Addr).add j=⟨b,off+j,none⟩by simp[Addr.add]];exact lies_get hu hs'
     · obtain⟨j,hj⟩:=List.getElem?_of_mem hu;have hl:=(List.getElem?_eq_some_iff.1 hj).1;rw[lies_length]at hl;obtain⟨v,hv,h1⟩:=hs j hl;have:=lies_get hj hs';rw[hv]at this;obtain rfl:=Option.some.inj this;exact h1
     · obtain⟨a',n',c',m',a2',n2',c2',e1,e2,e3,hr⟩:=hc j hj;exact⟨a',n',c',m',a2',n2',c2',lies_at (by omega) e1,lies_at (by omega) e2,lies_at (by omega) e3,hr⟩
  obtain⟨news,hl,hcell,hone,hrat⟩:=hex;have HC:=Lib.hid hcell;have HO:=Lib.hid hone;have HR:=Lib.hid hrat
  have HL:=Lib.hid hl;have HN:=Lib.hid hn;clear hcell hone hrat hl h hn;go_enter Tryz.func104,Tryz.ntmps104
  go_wp2_with (at_builtin;refine wpList_append_own _ rfl _ _ 34 rfl w.heap.size 53 i0 _ 3 56 Tryz.underlying34 hi hz0 hz1 hz2 rfl (by omega) _ _ _ rfl (World.ownsRow_made w #[] 0 (Nat.le_refl _) (Nat.zero_le _) (by simp)) ad n c news rfl ?qc1 ?qc2 ?qc3 ?qc4 ?qc5 ?qc6 ?_)
  case qc1=>exact HL.out
  case qc2=>exact fun j u hj=>Lib.cell?_alloc_some _ (HC.out j u hj)
  case qc3=>exact HO.out
  case qc4=>have:=HN.out;unfold maxLen;omega
  case qc5=>have:=HN.out;omega
  case qc6=>simp
  intro v' w1 hown hgrow hnil;have hb:Below w.heap.size w w1:=((Below.refl _ w).alloc (Nat.le_refl _) _).grown hgrow (by simp) (by intro k hk;simp[Value.ownBlock]at hk;omega)
  have HE:Hid (∃a' c',v'=.slice a' n c'/\RRow w1 a' n c' fP fQ):=by
   rcases hown.2 with ⟨rfl,h0⟩|⟨g,cap,cur,rfl,_,hh,h1,h2,_,hcs⟩
   · subst h0;exact⟨none,0,rfl,RRow.nought _ _ _ (Nat.zero_le _) _ _⟩
   · refine⟨some ⟨g,0,none⟩,cap,rfl,h1,h2,.inr ⟨g,0,rfl,Row.lt (t:=53) hh,fun j hj => ?_⟩⟩;obtain⟨a',n',c',m',a2',n2',c2',e1,e2,e3,hr⟩:=HR.out j hj;have hc:=hown.cells (g:=g) rfl
     have hc':∀i u,news[i]? = some u->w1.cell? ⟨g,i,none⟩=some u:=fun i u hu=>by
      have:=hc i u hu
      rwa [show(⟨g,0,none⟩:Addr).add i=⟨g,i,none⟩by unfold Addr.add;split<;>simp_all]at this
     refine⟨a',n',c',m',a2',n2',c2',?_,?_,?_,hr.below hb⟩
     · rw[Nat.zero_add];exact hc' _ _ e1
     · rw[Nat.zero_add];exact hc' _ _ e2
     · rw[Nat.zero_add];exact hc' _ _ e3
  have HB:=Lib.hid hb;clear hown hgrow hnil hb;go_wp2;go_ret;obtain⟨a',c',rfl,hr⟩:=HE.out;exact⟨a',c',rfl,hr,HB.out⟩
theorem cloneC_any (a : Option Addr) (n c : Nat) (f : Nat -> Int) (w : World) (h : KRow w .i32 a n c f) (hn : n <= 1000000) :
    Calls Tryz.prog 103 #[.slice a n c] w fun e w'=>∃a' c',e=.returned (.slice a' n c')/\KRow w' .i32 a' n c' f/\Below w.heap.size w w':=by
 obtain⟨i0,hi,hz0,hz1,hz2⟩:=info_parts infoC;have q22:∀(w:World) (a:Option Addr) (n c n' c':Nat),(binOp .eql 23 (.slice a n c) (.slice none n' c')).run Tryz.prog w=.ok (.bool a.isNone) w:=fun w a n c n' c'=>Lib.run_eql_slice_nil w _ _ a n c n' c' Tryz.underlying23
 cases a with
 | none =>
  have h0:n=0:=by
   rcases h.2.2 with h|⟨_,_,h,_⟩
   · exact h
   · cases h
  subst h0;go_enter Tryz.func103,Tryz.ntmps103;go_wp2;go_ret;exact⟨none,0,rfl,KRow.nought _ _ _ _ (Nat.zero_le _) _,Below.refl _ _⟩
 | some ad =>
  have hex:∃news:List Value,news.length=n*1/\(∀j u,news[j]? = some u->w.cell? (ad.add j)=some u)/\(∀u ∈ news,u.oneCell'=true)/\∀j,j<n->news[j]? = some (.int .i32 (f j)):=by
   rcases h.2.2 with h0|⟨b,off,he,hb,hc⟩
   · subst h0;exact⟨[],rfl,fun j u hu=>by simp at hu,fun u hu=>by simp at hu,fun j hj=>by omega⟩
   · obtain rfl := Option.some.inj he; have hg : ∀ j, j < n -> ((List.range n).map fun j => Value.int .i32 (f j))[j]? = some (.int .i32 (f j)) := fun j hj => by rw [List.getElem?_map, List.getElem?_range hj]; rfl
     refine⟨(List.range n).map fun j=>.int .i32 (f j),by simp,fun j u hu => ?_,fun u hu => ?_,hg⟩
     · have hj:j<n:=by
         have:=(List.getElem?_eq_some_iff.1 hu).1
         simpa using this
       rw[hg j hj]at hu;obtain rfl:=Option.some.inj hu;rw[show(⟨b,off,none⟩:Addr).add j=⟨b,off+j,none⟩by simp[Addr.add]];exact hc j hj
     · obtain⟨j,_,rfl⟩:=List.mem_map.1 hu
       rfl
  obtain⟨news,hl,hcell,hone,hrat⟩:=hex;have HC:=Lib.hid hcell;have HO:=Lib.hid hone;have HR:=Lib.hid hrat
  have HL:=Lib.hid hl;have HN:=Lib.hid hn;clear hcell hone hrat hl h hn;go_enter Tryz.func103,Tryz.ntmps103
  go_wp2_with (at_builtin;refine wpList_append_own _ rfl _ _ 23 rfl w.heap.size 21 i0 _ 1 4 Tryz.underlying23 hi hz0 hz1 hz2 rfl (by omega) _ _ _ rfl (World.ownsRow_made w #[] 0 (Nat.le_refl _) (Nat.zero_le _) (by simp)) ad n c news rfl ?qc1 ?qc2 ?qc3 ?qc4 ?qc5 ?qc6 ?_)
  case qc1=>exact HL.out
  case qc2=>exact fun j u hj=>Lib.cell?_alloc_some _ (HC.out j u hj)
  case qc3=>exact HO.out
  case qc4=>have:=HN.out;unfold maxLen;omega
  case qc5=>have:=HN.out;omega
  case qc6=>simp
  intro v' w1 hown hgrow hnil;have hb:Below w.heap.size w w1:=((Below.refl _ w).alloc (Nat.le_refl _) _).grown hgrow (by simp) (by intro k hk;simp[Value.ownBlock]at hk;omega)
  have HE:Hid (∃a' c',v'=.slice a' n c'/\KRow w1 .i32 a' n c' f):=by
   rcases hown.2 with ⟨rfl,h0⟩|⟨g,cap,cur,rfl,_,hh,h1,h2,_,hcs⟩
   · subst h0;exact⟨none,0,rfl,KRow.nought _ _ _ _ (Nat.zero_le _) _⟩
   · refine⟨some ⟨g,0,none⟩,cap,rfl,h1,h2,.inr ⟨g,0,rfl,Row.lt (t:=21) hh,fun j hj => ?_⟩⟩;have:=hown.cells (g:=g) rfl j _ (HR.out j hj)
     rwa [show(⟨g,0,none⟩:Addr).add j=⟨g,0+j,none⟩by unfold Addr.add;split<;>simp_all]at this
  have HB:=Lib.hid hb;clear hown hgrow hnil hb;go_wp2;go_ret;obtain⟨a',c',rfl,hr⟩:=HE.out;exact⟨a',c',rfl,hr,HB.out⟩
def NumArr(w:World)(cs:Array Value)(f:Nat->Int)(r n:Nat)(fP:Nat->Int)(fQ:Nat->Nat):Prop:=∃na nc,cs=arrC false ((r:Int)-1) (dm f r) na n nc none 0 0/\RRow w na n nc fP fQ
def ChrArr(w:World)(cs:Array Value)(f:Nat->Int)(r n:Nat)(g:Nat->Int):Prop:=∃ta tc,cs=arrC true ((r:Int)-1) (dm f r) none 0 0 ta n tc/\KRow w .i32 ta n tc g
theorem NumArr.below{w w':World}{cs:Array Value}{f:Nat->Int}{r n:Nat}{fP:Nat->Int}{fQ:Nat->Nat}(h:NumArr w cs f r n fP fQ)(hb:Below w.heap.size w w'):NumArr w' cs f r n fP fQ:=by
 obtain⟨na,nc,h1,h2⟩:=h;exact⟨na,nc,h1,h2.below hb⟩
theorem ChrArr.below{w w':World}{cs:Array Value}{f:Nat->Int}{r n:Nat}{g:Nat->Int}(h:ChrArr w cs f r n g)(hb:Below w.heap.size w w'):ChrArr w' cs f r n g:=by
 obtain⟨na,nc,h1,h2⟩:=h;exact⟨na,nc,h1,h2.below hb⟩
def zerC:Array Value:=arrC false 0 (fun _=>0) none 0 0 none 0 0
def NumsTold(b:Bool)(f:Nat->Int)(r n:Nat)(fP:Nat->Int)(fQ:Nat->Nat)(w w':World)(e:Ending):Prop :=
 ∃cs,e=.returned (.tuple #[.agg cs,.bool b])/\(if b then NumArr w' cs f r n fP fQ else cs=zerC)/\Below w.heap.size w w'
def CharsTold(b:Bool)(f:Nat->Int)(r n:Nat)(g:Nat->Int)(w w':World)(e:Ending):Prop :=
 ∃cs,e=.returned (.tuple #[.agg cs,.bool b])/\(if b then ChrArr w' cs f r n g else cs=zerC)/\Below w.heap.size w w'
theorem KRow.setAt{w:World}{ki:IntKind}{a:Option Addr}{n c:Nat}{f:Nat->Int}{p:Addr}{x:Value}(h:KRow w ki a n c f)(hp:w.cell? p=some x)(hx:∀z,x ≠ .int ki z)(v:Value):KRow (w.setCell p v) ki a n c f:=by
 refine⟨h.1,h.2.1,h.2.2.imp id ?_⟩;rintro⟨b,off,rfl,hl,hc⟩;refine⟨b,off,rfl,by simpa using hl,fun j hj => ?_⟩;rw[World.cell?_setCell_other _ _ _ _ (fun e=>by subst e;rw[hc j hj]at hp;exact hx _ (Option.some.inj hp).symm)];exact hc j hj
def NoLimb(w:World)(g:Nat):Prop:=∀o z,w.cell? ⟨g,o,none⟩≠some (.int .u32 z)
theorem NatIs.away{w w':World}{v:Value}{N g:Nat}(h:NatIs w v N)(hn:NoLimb w g)(hf:Far g w w'):NatIs w' v N:=by
 obtain⟨a,n,c,f,rfl,⟨h1,h2,h3,h4⟩,h5,h6⟩:=h;refine⟨a,n,c,f,rfl,⟨h1,h2,h3,?_⟩,h5,h6⟩
 rcases h4 with h4|⟨b,off,rfl,hb,hc⟩
 · exact .inl h4
 · refine .inr ⟨b,off,rfl,Nat.lt_of_lt_of_le hb hf.size,fun j hj => ?_⟩;have hj':=hc j hj;rw[hf.cell (a:=⟨b,off+j,none⟩) (fun e=>by subst e;exact hn _ _ hj') hb];exact hj'
theorem RatAt.away{w w':World}{a:Option Addr}{n c:Nat}{m:Bool}{a2:Option Addr}{n2 c2:Nat}{P:Int}{Q g:Nat}(h:RatAt w a n c m a2 n2 c2 P Q)(hn:NoLimb w g)(hf:Far g w w'):RatAt w' a n c m a2 n2 c2 P Q:=⟨⟨h.1.1,h.1.2.away hn hf⟩,h.2.away hn hf⟩
theorem RRow.away{w w':World}{sa:Option Addr}{n c:Nat}{fP:Nat->Int}{fQ:Nat->Nat}{g:Nat}(h:RRow w sa n c fP fQ)(hn:NoLimb w g)(hg:n=0∨∀x,sa=some x->x.block≠g)(hf:Far g w w'):RRow w' sa n c fP fQ:=by
 refine⟨h.1,h.2.1,?_⟩
 rcases h.2.2 with h0|⟨b,off,rfl,hl,hcc⟩
 · exact .inl h0
 · rcases hg with h0|hg
   · exact .inl h0
   · have hbg:b≠g:=hg _ rfl;refine .inr ⟨b,off,rfl,Nat.lt_of_lt_of_le hl hf.size,fun j hj => ?_⟩;obtain⟨a',n',c',m',a2',n2',c2',e1,e2,e3,hq⟩:=hcc j hj;exact⟨a',n',c',m',a2',n2',c2',(hf.cell (a:=⟨b,_,none⟩) hbg hl).trans e1,(hf.cell (a:=⟨b,_,none⟩) hbg hl).trans e2,(hf.cell (a:=⟨b,_,none⟩) hbg hl).trans e3,hq.away hn hf⟩
theorem KRow.away{w w':World}{ki:IntKind}{sa:Option Addr}{n c:Nat}{f:Nat->Int}{g:Nat}(h:KRow w ki sa n c f)(hg:n=0∨∀x,sa=some x->x.block≠g)(hf:Far g w w'):KRow w' ki sa n c f:=by
 refine⟨h.1,h.2.1,?_⟩
 rcases h.2.2 with h0|⟨b,off,rfl,hl,hcc⟩
 · exact .inl h0
 · rcases hg with h0|hg
   · exact .inl h0
   · exact .inr ⟨b,off,rfl,Nat.lt_of_lt_of_le hl hf.size,fun j hj=>(hf.cell (a:=⟨b,off+j,none⟩) (show b≠g from hg ⟨b,off,none⟩ rfl) hl).trans (hcc j hj)⟩
theorem arr_cells {ch : Bool} {more : Int} {d : Nat -> Int} {na : Option Addr} {nn nc : Nat} {ta : Option Addr} {tn tc : Nat} (o : Nat) (v : Value) (h : (arrC ch more d na nn nc ta tn tc)[o]? = some v) :
    (o=0/\∃b,v=.bool b)∨(1<=o/\o<10/\∃z,v=.int .i64 z)∨(10<=o/\o<12/\∃a n c,v=.slice a n c):=by
 unfold arrC at h
 rcases o with _|_|_|_|_|_|_|_|_|_|_|_|o
 · exact .inl ⟨rfl,_,(Option.some.inj h).symm⟩
 all_goals first
  | exact .inr (.inl ⟨by omega,by omega,_,(Option.some.inj h).symm⟩)
  | exact .inr (.inr ⟨by omega,by omega,_,_,_,(Option.some.inj h).symm⟩)
  | (exfalso;simp at h)
theorem Row.noLimb{w:World}{g:Nat}{t:TypeId}{ch:Bool}{more:Int}{d:Nat->Int}{na:Option Addr}{nn nc:Nat}{ta:Option Addr}{tn tc:Nat}(h:Row w g t (arrC ch more d na nn nc ta tn tc)):NoLimb w g:=by
 intro o z hc;rw[h.cell o]at hc
 rcases arr_cells o _ hc with ⟨_,_,e⟩|⟨_,_,_,e⟩|⟨_,_,_,_,_,e⟩<;>cases e
theorem RRow.ne {w : World} {sa : Option Addr} {n c : Nat} {fP : Nat -> Int} {fQ : Nat -> Nat} {g : Nat} {t : TypeId} {ch : Bool} {more : Int} {d : Nat -> Int} {na : Option Addr} {nn nc : Nat} {ta : Option Addr} {tn tc : Nat} (h : RRow w sa n c fP fQ) (hr : Row w g t (arrC ch more d na nn nc ta tn tc)) :
    n=0∨∀x,sa=some x->x.block≠g:=by
 rcases Nat.eq_zero_or_pos n with h0|h0
 · exact .inl h0
 · refine .inr fun x hx e => ?_
   obtain⟨b,off,a',n',c',m',a2',n2',c2',e0,hb,e1,e2,e3,_⟩:=h.get h0;rw[hx]at e0;obtain rfl:=Option.some.inj e0;subst e;rw[hr.cell]at e1 e2
   rcases arr_cells _ _ e1 with ⟨_,_,e⟩|⟨_,_,_,e⟩|⟨_,_,_⟩
   · cases e
   · cases e
   · rcases arr_cells _ _ e2 with ⟨_,_,e⟩|⟨_,_,_,e⟩|⟨_,_,_,_,_,e⟩
     · omega
     · cases e
     · cases e
theorem KRow.ne {w : World} {ki : IntKind} {sa : Option Addr} {n c : Nat} {f : Nat -> Int} {g : Nat} {t : TypeId} {ch : Bool} {more : Int} {d : Nat -> Int} {na : Option Addr} {nn nc : Nat} {ta : Option Addr} {tn tc : Nat} (h : KRow w ki sa n c f) (hk : ki ≠ .i64) (hr : Row w g t (arrC ch more d na nn nc ta tn tc)) :
    n=0∨∀x,sa=some x->x.block≠g:=by
 rcases Nat.eq_zero_or_pos n with h0|h0
 · exact .inl h0
 · refine .inr fun x hx e => ?_
   obtain⟨b,off,e0,hb,e1⟩:=h.get h0;rw[hx]at e0;obtain rfl:=Option.some.inj e0;subst e;rw[hr.cell]at e1
   rcases arr_cells _ _ e1 with ⟨_,_,e⟩|⟨_,_,_,e⟩|⟨_,_,_,_,_,e⟩
   · cases e
   · injection e with e;exact hk e
   · cases e
theorem RRow.len{w:World}{a:Option Addr}{n c:Nat}{fP:Nat->Int}{fQ:Nat->Nat}(h:RRow w a n c fP fQ):n<=c/\n<=9223372036854775807:=by
 have h1:=h.1;have h2:=h.2.1;unfold maxLen at h2;exact⟨h1,by omega⟩
theorem nums_yes (a : Option Addr) (r c : Nat) (f : Nat -> Int) (la : Option Addr) (n lc : Nat) (fP : Nat -> Int) (fQ : Nat -> Nat) (w : World) (h : KRow w .i64 a r c f) (hf : In64 f r) (hl : RRow w la n lc fP fQ) (hn : n <= 1000000) (hb : (shB f r && decide (itm f r = n)) = true) :
    Calls Tryz.prog 45 #[.slice a r c,.slice la n lc] w fun e w'=>NumsTold true f r n fP fQ w w' e:=by
 have B0:=(Bag.start w).alloc (.cells zerC 36);have BR:=Lib.hid (fun wz (h:KRow wz .i64 a r c f)=>bare_any a r c f n wz h hf);rw[hb]at BR;unfold BareTold at BR;rw[if_pos rfl]at BR;unfold arrC at BR;have CL:=Lib.hid (fun wz (h:RRow wz la n lc fP fQ)=>cloneR_any la n lc fP fQ wz h hn);have HK:=Lib.hid h;have HL:=Lib.hid hl;have hlen:=hl.len;have h0:Row (w.alloc (.cells zerC 36)) w.heap.size 36 zerC:=Row.new _ _ _;have BB:=Lib.hid (B0.row h0);clear h hl hf hn hb B0 h0;go_enter Tryz.func45,Tryz.ntmps45;go_wp2_with fail;go_at_call 102
 (with_reducible refine(BR.out _ ?_).mono ?_)
 · exact HK.out.below BB.out.below
 rintro e w2 ⟨rfl,hb2⟩;have B2:=BB.out.go hb2;have BB:=Lib.hid (((B2.alloc (.cells (arrC false ((r:Int)-1) (dm f r) none 0 0 none 0 0) 36)).row (Row.new _ _ _)));have hlt:=B2.now.1.lt;clear hb2 B2;unfold arrC at BB;go_wp2_with fail;go_at_call 104
 (with_reducible refine(CL.out _ ?_).mono ?_)
 · exact HL.out.below BB.out.below
 rintro e w3 ⟨a',c',rfl,hr3,hb3⟩;have B3:=BB.out.go hb3;have hb:=B3.below;have hr1:=B3.now.1;have hr0:=B3.now.2.1;have c10:w3.cell? ⟨w2.heap.size,10,none⟩=some (.slice none 0 0):=hr1.cell 10;have g10:w3.frozen? ⟨w2.heap.size,10,none⟩=false:=hr1.free 10;have hne:w.heap.size≠w2.heap.size:=by omega
 have hs1:Row (w3.setCell ⟨w2.heap.size,10,none⟩ (.slice a' n c')) w2.heap.size 36 (arrC false ((r:Int)-1) (dm f r) a' n c' none 0 0):=hr1.set 10 _;have hs0:Row (w3.setCell ⟨w2.heap.size,10,none⟩ (.slice a' n c')) w.heap.size 36 zerC:=hr0.far (a:=⟨w2.heap.size,10,none⟩) hne _;have hr1':Row w3 w2.heap.size 36 (arrC false ((r:Int)-1) (dm f r) none 0 0 none 0 0):=hr1;have hq:=(hr3.away hr1'.noLimb (hr3.ne hr1') (Far.setCell w3 w2.heap.size 10 (.slice a' n c')))
 have HE:Hid (NumsTold true f r n fP fQ w ((w3.setCell ⟨w2.heap.size,10,none⟩ (.slice a' n c')).setRow w.heap.size (arrC false ((r:Int)-1) (dm f r) a' n c' none 0 0)) (.returned (.tuple #[.agg (arrC false ((r:Int)-1) (dm f r) a' n c' none 0 0),.bool true]))) :=
  ⟨_,rfl,by rw[if_pos rfl];exact⟨a',c',rfl,hq.away (Row.noLimb hs0) (RRow.ne hq hs0) (Far.setRow _ _ _)⟩,below_put (hb.setCell (p:=⟨w2.heap.size,10,none⟩) (show w.heap.size<=w2.heap.size by omega) _) (Nat.le_refl _) _⟩
 have HS1:=Lib.hid hs1;have HS0:=Lib.hid hs0;clear hs1 hs0 hr1 hr1' hr0 B3 hb3 hq hr3 hb
 go_wp2_with (first
  | (refine ld_arr rfl (.tmp 6) rfl w2.heap.size rfl HS1.out ?_)
  | (refine st_arr rfl (.tmp 4) (.tmp 19) rfl w.heap.size rfl _ _ _ _ _ _ _ _ _ rfl HS0.out rfl ?_))
 exact bodyPost_ret (res_arr2 Tryz.results45 rfl rfl (HS0.out.put _) rfl) rfl HE.out
theorem chars_yes (a : Option Addr) (r c : Nat) (f : Nat -> Int) (la : Option Addr) (n lc : Nat) (g : Nat -> Int) (w : World) (h : KRow w .i64 a r c f) (hf : In64 f r) (hl : KRow w .i32 la n lc g) (hn : n <= 1000000) (hb : (shB f r && decide (itm f r = n)) = true) :
    Calls Tryz.prog 42 #[.slice a r c,.slice la n lc] w fun e w'=>CharsTold true f r n g w w' e:=by
 have B0:=(Bag.start w).alloc (.cells zerC 36);have BR:=Lib.hid (fun wz (h:KRow wz .i64 a r c f)=>bare_any a r c f n wz h hf);rw[hb]at BR;unfold BareTold at BR;rw[if_pos rfl]at BR;unfold arrC at BR;have CL:=Lib.hid (fun wz (h:KRow wz .i32 la n lc g)=>cloneC_any la n lc g wz h hn);have HK:=Lib.hid h;have HL:=Lib.hid hl;have hlen:=hl.len;have h0:Row (w.alloc (.cells zerC 36)) w.heap.size 36 zerC:=Row.new _ _ _;have BB:=Lib.hid (B0.row h0);clear h hl hf hn hb B0 h0;go_enter Tryz.func42,Tryz.ntmps42;go_wp2_with fail;go_at_call 102
 (with_reducible refine(BR.out _ ?_).mono ?_)
 · exact HK.out.below BB.out.below
 rintro e w2 ⟨rfl,hb2⟩;have B2:=BB.out.go hb2;have BB:=Lib.hid (((B2.alloc (.cells (arrC false ((r:Int)-1) (dm f r) none 0 0 none 0 0) 36)).row (Row.new _ _ _)));have hlt:=B2.now.1.lt;clear hb2 B2;unfold arrC at BB;go_wp2_with fail;go_at_call 103
 (with_reducible refine(CL.out _ ?_).mono ?_)
 · exact HL.out.below BB.out.below
 rintro e w3 ⟨a',c',rfl,hr3,hb3⟩;have B3:=BB.out.go hb3;have hb:=B3.below;have hr1:=B3.now.1;have hr0:=B3.now.2.1;have c0:w3.cell? ⟨w2.heap.size,0,none⟩=some (.bool false):=hr1.cell 0;have g0:w3.frozen? ⟨w2.heap.size,0,none⟩=false:=hr1.free 0;have c11:(w3.setCell ⟨w2.heap.size,0,none⟩ (.bool true)).cell? ⟨w2.heap.size,11,none⟩=some (.slice none 0 0):=(hr1.set 0 (.bool true)).cell 11;have g11:w3.frozen? ⟨w2.heap.size,11,none⟩=false:=hr1.free 11;have hne:w.heap.size≠w2.heap.size:=by omega
 have hs1:Row ((w3.setCell ⟨w2.heap.size,0,none⟩ (.bool true)).setCell ⟨w2.heap.size,11,none⟩ (.slice a' n c')) w2.heap.size 36 (arrC true ((r:Int)-1) (dm f r) none 0 0 a' n c'):=(hr1.set 0 (.bool true)).set 11 _;have hs0:Row ((w3.setCell ⟨w2.heap.size,0,none⟩ (.bool true)).setCell ⟨w2.heap.size,11,none⟩ (.slice a' n c')) w.heap.size 36 zerC:=(hr0.far (a:=⟨w2.heap.size,0,none⟩) hne _).far (a:=⟨w2.heap.size,11,none⟩) hne _;have hr1':Row w3 w2.heap.size 36 (arrC false ((r:Int)-1) (dm f r) none 0 0 none 0 0):=hr1;have hr2':Row (w3.setCell ⟨w2.heap.size,0,none⟩ (.bool true)) w2.heap.size 36 (arrC true ((r:Int)-1) (dm f r) none 0 0 none 0 0):=hr1.set 0 _;have hq0:=hr3.away (hr3.ne (by decide) hr1') (Far.setCell w3 w2.heap.size 0 (.bool true));have hq:=hq0.away (hq0.ne (by decide) hr2') (Far.setCell _ w2.heap.size 11 (.slice a' n c'))
 have HE:Hid (CharsTold true f r n g w (((w3.setCell ⟨w2.heap.size,0,none⟩ (.bool true)).setCell ⟨w2.heap.size,11,none⟩ (.slice a' n c')).setRow w.heap.size (arrC true ((r:Int)-1) (dm f r) none 0 0 a' n c')) (.returned (.tuple #[.agg (arrC true ((r:Int)-1) (dm f r) none 0 0 a' n c'),.bool true]))) :=
  ⟨_,rfl,by rw[if_pos rfl];exact⟨a',c',rfl,hq.away (hq.ne (by decide) hs0) (Far.setRow _ _ _)⟩,below_put ((hb.setCell (p:=⟨w2.heap.size,0,none⟩) (show w.heap.size<=w2.heap.size by omega) _).setCell (p:=⟨w2.heap.size,11,none⟩) (show w.heap.size<=w2.heap.size by omega) _) (Nat.le_refl _) _⟩
 have HS1:=Lib.hid hs1;have HS0:=Lib.hid hs0;clear hs1 hs0 hr1 hr1' hr2' hr0 B3 hb3 hq hq0 hr3 hb
 go_wp2_with (first
  | (refine ld_arr rfl (.tmp 6) rfl w2.heap.size rfl HS1.out ?_)
  | (refine st_arr rfl (.tmp 4) (.tmp 20) rfl w.heap.size rfl _ _ _ _ _ _ _ _ _ rfl HS0.out rfl ?_))
 exact bodyPost_ret (res_arr2 Tryz.results42 rfl rfl (HS0.out.put _) rfl) rfl HE.out
theorem nums_no (a : Option Addr) (r c : Nat) (f : Nat -> Int) (la : Option Addr) (n lc : Nat) (fP : Nat -> Int) (fQ : Nat -> Nat) (w : World) (h : KRow w .i64 a r c f) (hf : In64 f r) (hb : (shB f r && decide (itm f r = n)) = false) :
    Calls Tryz.prog 45 #[.slice a r c,.slice la n lc] w fun e w'=>NumsTold false f r n fP fQ w w' e:=by
 have B0:=(Bag.start w).alloc (.cells zerC 36);have BR:=Lib.hid (fun wz (h:KRow wz .i64 a r c f)=>bare_any a r c f n wz h hf);rw[hb]at BR;unfold BareTold at BR;rw[if_neg (by decide)]at BR;unfold arrC at BR;have HK:=Lib.hid h;have h0:Row (w.alloc (.cells zerC 36)) w.heap.size 36 zerC:=Row.new _ _ _;have BB:=Lib.hid (B0.row h0);clear h hf hb B0 h0;go_enter Tryz.func45,Tryz.ntmps45;go_wp2_with fail;go_at_call 102
 (with_reducible refine(BR.out _ ?_).mono ?_)
 · exact HK.out.below BB.out.below
 rintro e w2 ⟨rfl,hb2⟩;have B2:=BB.out.go hb2;have BB:=Lib.hid (((B2.alloc (.cells zerC 36)).row (Row.new _ _ _)));have hlt:=B2.now.1.lt;clear hb2 B2;have HS1:=Lib.hid BB.out.now.1;have HS0:=Lib.hid BB.out.now.2.1
 have HE:Hid (NumsTold false f r n fP fQ w ((w2.alloc (.cells zerC 36)).setRow w.heap.size zerC) (.returned (.tuple #[.agg zerC,.bool false]))) :=
  ⟨_,rfl,by rw[if_neg (by decide)],below_put BB.out.below (Nat.le_refl _) _⟩
 go_wp2_with (first
  | (refine ld_arr rfl (.tmp 6) rfl w2.heap.size rfl (ch:=false) (more:=0) (d:=fun _=>0) (na:=none) (nn:=0) (nc:=0) (ta:=none) (tn:=0) (tc:=0) HS1.out ?_)
  | (refine st_arr rfl (.tmp 4) (.tmp 19) rfl w.heap.size rfl _ _ _ _ _ _ _ _ _ rfl HS0.out rfl ?_))
 exact bodyPost_ret (res_arr2 Tryz.results45 rfl rfl (HS0.out.put _) rfl) rfl HE.out
theorem chars_no (a : Option Addr) (r c : Nat) (f : Nat -> Int) (la : Option Addr) (n lc : Nat) (g : Nat -> Int) (w : World) (h : KRow w .i64 a r c f) (hf : In64 f r) (hb : (shB f r && decide (itm f r = n)) = false) :
    Calls Tryz.prog 42 #[.slice a r c,.slice la n lc] w fun e w'=>CharsTold false f r n g w w' e:=by
 have B0:=(Bag.start w).alloc (.cells zerC 36);have BR:=Lib.hid (fun wz (h:KRow wz .i64 a r c f)=>bare_any a r c f n wz h hf);rw[hb]at BR;unfold BareTold at BR;rw[if_neg (by decide)]at BR;unfold arrC at BR;have HK:=Lib.hid h;have h0:Row (w.alloc (.cells zerC 36)) w.heap.size 36 zerC:=Row.new _ _ _;have BB:=Lib.hid (B0.row h0);clear h hf hb B0 h0;go_enter Tryz.func42,Tryz.ntmps42;go_wp2_with fail;go_at_call 102
 (with_reducible refine(BR.out _ ?_).mono ?_)
 · exact HK.out.below BB.out.below
 rintro e w2 ⟨rfl,hb2⟩;have B2:=BB.out.go hb2;have BB:=Lib.hid (((B2.alloc (.cells zerC 36)).row (Row.new _ _ _)));have hlt:=B2.now.1.lt;clear hb2 B2;have HS1:=Lib.hid BB.out.now.1;have HS0:=Lib.hid BB.out.now.2.1
 have HE:Hid (CharsTold false f r n g w ((w2.alloc (.cells zerC 36)).setRow w.heap.size zerC) (.returned (.tuple #[.agg zerC,.bool false]))) :=
  ⟨_,rfl,by rw[if_neg (by decide)],below_put BB.out.below (Nat.le_refl _) _⟩
 go_wp2_with (first
  | (refine ld_arr rfl (.tmp 6) rfl w2.heap.size rfl (ch:=false) (more:=0) (d:=fun _=>0) (na:=none) (nn:=0) (nc:=0) (ta:=none) (tn:=0) (tc:=0) HS1.out ?_)
  | (refine st_arr rfl (.tmp 4) (.tmp 20) rfl w.heap.size rfl _ _ _ _ _ _ _ _ _ rfl HS0.out rfl ?_))
 exact bodyPost_ret (res_arr2 Tryz.results42 rfl rfl (HS0.out.put _) rfl) rfl HE.out
theorem nums_any (a : Option Addr) (r c : Nat) (f : Nat -> Int) (la : Option Addr) (n lc : Nat) (fP : Nat -> Int) (fQ : Nat -> Nat) (w : World) (h : KRow w .i64 a r c f) (hf : In64 f r) (hl : RRow w la n lc fP fQ) (hn : n <= 1000000) :
    Calls Tryz.prog 45 #[.slice a r c,.slice la n lc] w fun e w'=>NumsTold (shB f r&&decide (itm f r=n)) f r n fP fQ w w' e:=by
 cases hb:shB f r&&decide (itm f r=n)with
 | false=>exact nums_no a r c f la n lc fP fQ w h hf hb
 | true=>exact nums_yes a r c f la n lc fP fQ w h hf hl hn hb
theorem chars_any (a : Option Addr) (r c : Nat) (f : Nat -> Int) (la : Option Addr) (n lc : Nat) (g : Nat -> Int) (w : World) (h : KRow w .i64 a r c f) (hf : In64 f r) (hl : KRow w .i32 la n lc g) (hn : n <= 1000000) :
    Calls Tryz.prog 42 #[.slice a r c,.slice la n lc] w fun e w'=>CharsTold (shB f r&&decide (itm f r=n)) f r n g w w' e:=by
 cases hb:shB f r&&decide (itm f r=n)with
 | false=>exact chars_no a r c f la n lc g w h hf hb
 | true=>exact chars_yes a r c f la n lc g w h hf hl hn hb
def elP(n:Nat)(fP:Nat->Int)(i:Int):Int:=if 0<=i/\i<n then fP i.toNat else 0
def elQ(n:Nat)(fQ:Nat->Nat)(i:Int):Nat:=if 0<=i/\i<n then fQ i.toNat else 1
theorem RatAt.nought(w:World):RatAt w none 0 0 false none 0 0 0 1:=⟨⟨rfl,NatIs.zero w⟩,NatIs.zero w⟩
theorem elem_any (cs : Array Value) (f : Nat -> Int) (r n : Nat) (fP : Nat -> Int) (fQ : Nat -> Nat) (i : Int) (w : World) (h : NumArr w cs f r n fP fQ) :
    Calls Tryz.prog 82 #[.agg cs,.int .i64 i] w fun e w'=>RatTold w w' e (elP n fP i) (elQ n fQ i):=by
 obtain⟨na,nc,rfl,hr⟩:=h;have hl:=hr.len
 by_cases hin:0<=i/\i<n
 · unfold elP elQ;rw[if_pos hin,if_pos hin];obtain⟨h0,h1⟩:=hin;obtain⟨k,rfl⟩:∃k:Nat,i=k:=⟨i.toNat,by omega⟩
   have hk:k<n:=by omega
   rw[show((k:Int)).toNat=k from rfl];obtain⟨b,off,a',n',c',m',a2',n2',c2',rfl,hb,e1,e2,e3,hq⟩:=hr.get hk;have d1:¬((k:Int)<0):=by omega
   have d2:¬((n:Int)<=k):=by omega
   have B0:=((((Bag.start w).rat hq).alloc (.cells (arrC false ((r:Int)-1) (dm f r) (some ⟨b,off,none⟩) n nc none 0 0) 36)).alloc (.cells #[.slice a' n' c',.bool m',.slice a2' n2' c2'] 53))
   have HE:Hid (RatTold w ((w.alloc (.cells (arrC false ((r:Int)-1) (dm f r) (some ⟨b,off,none⟩) n nc none 0 0) 36)).alloc (.cells #[.slice a' n' c',.bool m',.slice a2' n2' c2'] 53)) (.returned (.agg #[.slice a' n' c',.bool m',.slice a2' n2' c2'])) (fP k) (fQ k)) :=
    ⟨a',n',c',m',a2',n2',c2',rfl,B0.now.1,B0.below⟩
   unfold arrC at HE;unfold arrC;clear hr hq B0;go_enter Tryz.func82,Tryz.ntmps82;go_wp2;exact bodyPost_ret (v:=.agg #[.slice a' n' c',.bool m',.slice a2' n2' c2']) (by simp[results,Tryz.results82,go_sem]) rfl HE.out
 · unfold elP elQ;rw[if_neg hin,if_neg hin];have B0:=(((Bag.start w).alloc (.cells (arrC false ((r:Int)-1) (dm f r) na n nc none 0 0) 36)).alloc (.cells #[.slice none 0 0,.bool false,.slice none 0 0] 53))
   have HE:Hid (RatTold w ((w.alloc (.cells (arrC false ((r:Int)-1) (dm f r) na n nc none 0 0) 36)).alloc (.cells #[.slice none 0 0,.bool false,.slice none 0 0] 53)) (.returned (.agg #[.slice none 0 0,.bool false,.slice none 0 0])) 0 1) :=
    ⟨_,_,_,_,_,_,_,rfl,RatAt.nought _,B0.below⟩
   unfold arrC at HE;unfold arrC;clear hr B0
   by_cases h0:i<0
   · clear hin;go_enter Tryz.func82,Tryz.ntmps82;go_wp2;exact bodyPost_ret (v:=.agg #[.slice none 0 0,.bool false,.slice none 0 0]) (by simp[results,Tryz.results82,go_sem]) rfl HE.out
   · have d2:(n:Int)<=i:=by omega
     clear hin;go_enter Tryz.func82,Tryz.ntmps82;go_wp2;exact bodyPost_ret (v:=.agg #[.slice none 0 0,.bool false,.slice none 0 0]) (by simp[results,Tryz.results82,go_sem]) rfl HE.out
def RatsTo(w:World)(g n k:Nat)(fP:Nat->Int)(fQ:Nat->Nat):Prop:=g<w.heap.size/\Free w g/\∀j,j<n->∃a n' c m a2 n2 c2,w.cell? ⟨g,j*3,none⟩=some (.slice a n' c)/\w.cell? ⟨g,j*3+1,none⟩=some (.bool m)/\w.cell? ⟨g,j*3+2,none⟩=some (.slice a2 n2 c2)/\(j<k->RatAt w a n' c m a2 n2 c2 (fP j) (fQ j))
theorem RatsTo.below{w w':World}{g n k:Nat}{fP:Nat->Int}{fQ:Nat->Nat}(h:RatsTo w g n k fP fQ)(hb:Below w.heap.size w w'):RatsTo w' g n k fP fQ:=by
 obtain⟨h1,h2,h3⟩:=h;refine⟨Nat.lt_of_lt_of_le h1 hb.size,h2.below hb h1,fun j hj => ?_⟩;obtain⟨a,n',c,m,a2,n2,c2,e1,e2,e3,e4⟩:=h3 j hj;exact⟨a,n',c,m,a2,n2,c2,(hb.cell (p:=⟨g,_,none⟩) h1).trans e1,(hb.cell (p:=⟨g,_,none⟩) h1).trans e2,(hb.cell (p:=⟨g,_,none⟩) h1).trans e3,fun hk=>(e4 hk).below hb⟩
theorem RatsTo.step {w : World} {g n k : Nat} {fP : Nat -> Int} {fQ : Nat -> Nat} (h : RatsTo w g n k fP fQ) (hk : k < n) {a : Option Addr} {n' c : Nat} {m : Bool} {a2 : Option Addr} {n2 c2 : Nat} (hr : RatAt w a n' c m a2 n2 c2 (fP k) (fQ k)) :
    RatsTo (((w.setCell ⟨g,k*3,none⟩ (.slice a n' c)).setCell ⟨g,k*3+1,none⟩ (.bool m)).setCell ⟨g,k*3+2,none⟩ (.slice a2 n2 c2)) g n (k+1) fP fQ:=by
 obtain⟨h1,h2,h3⟩:=h;obtain⟨b,l,d,v,b2,l2,d2,x1,x2,x3,_⟩:=h3 k hk
 have keep:∀v N,NatIs w v N->NatIs (((w.setCell ⟨g,k*3,none⟩ (.slice a n' c)).setCell ⟨g,k*3+1,none⟩ (.bool m)).setCell ⟨g,k*3+2,none⟩ (.slice a2 n2 c2)) v N:=by
  intro u N hN
  refine((hN.storeAt x1 (fun _ _ h=>by cases h) _).storeAt (x:=.bool v) ?_ (fun _ _ h=>by cases h) _).storeAt (x:=.slice b2 l2 d2) ?_ (fun _ _ h=>by cases h) _
  · rw[World.cell?_setCell_other _ _ _ _ (fun e=>by injection e with _ e;omega)];exact x2
  · rw[World.cell?_setCell_other _ _ _ _ (fun e=>by injection e with _ e;omega),World.cell?_setCell_other _ _ _ _ (fun e=>by injection e with _ e;omega)];exact x3
 have keepR:∀a n c m a2 n2 c2 P Q,RatAt w a n c m a2 n2 c2 P Q->RatAt _ a n c m a2 n2 c2 P Q:=fun _ _ _ _ _ _ _ _ _ hq=>⟨⟨hq.1.1,keep _ _ hq.1.2⟩,keep _ _ hq.2⟩
 refine⟨by simpa using h1,((h2.set _ _).set _ _).set _ _,fun j hj => ?_⟩
 by_cases e:j=k
 · subst e
   refine⟨a,n',c,m,a2,n2,c2,?_,?_,?_,fun _=>keepR _ _ _ _ _ _ _ _ _ hr⟩
   · rw[World.cell?_setCell_other _ _ _ _ (fun e=>by injection e with _ e;omega),World.cell?_setCell_other _ _ _ _ (fun e=>by injection e with _ e;omega)];exact World.cell?_setCell_same _ _ _ x1
   · rw[World.cell?_setCell_other _ _ _ _ (fun e=>by injection e with _ e;omega)];refine World.cell?_setCell_same (u:=.bool v) _ _ _ ?_;rw[World.cell?_setCell_other _ _ _ _ (fun e=>by injection e with _ e;omega)];exact x2
   · refine World.cell?_setCell_same (u:=.slice b2 l2 d2) _ _ _ ?_;rw[World.cell?_setCell_other _ _ _ _ (fun e=>by injection e with _ e;omega),World.cell?_setCell_other _ _ _ _ (fun e=>by injection e with _ e;omega)];exact x3
 · obtain⟨a',n9,c',m',a2',n2',c2',e1,e2,e3,e4⟩:=h3 j hj
   have far:∀o,(o=j*3∨o=j*3+1∨o=j*3+2)->(((w.setCell ⟨g,k*3,none⟩ (.slice a n' c)).setCell ⟨g,k*3+1,none⟩ (.bool m)).setCell ⟨g,k*3+2,none⟩ (.slice a2 n2 c2)).cell? ⟨g,o,none⟩=w.cell? ⟨g,o,none⟩:=by
    intro o ho;rw[World.cell?_setCell_other _ _ _ _ (fun e=>by injection e with _ e;omega),World.cell?_setCell_other _ _ _ _ (fun e=>by injection e with _ e;omega),World.cell?_setCell_other _ _ _ _ (fun e=>by injection e with _ e;omega)]
   exact⟨a',n9,c',m',a2',n2',c2',(far _ (.inl rfl)).trans e1,(far _ (.inr (.inl rfl))).trans e2,(far _ (.inr (.inr rfl))).trans e3,fun hj'=>keepR _ _ _ _ _ _ _ _ _ (e4 (by omega))⟩
theorem RatsTo.done{w:World}{g n:Nat}{fP:Nat->Int}{fQ:Nat->Nat}(h:RatsTo w g n n fP fQ)(hn:n<=maxLen):RRow w (some ⟨g,0,none⟩) n n fP fQ:=by
 refine⟨Nat.le_refl _,hn,.inr ⟨g,0,rfl,h.1,fun j hj => ?_⟩⟩;obtain⟨a,n',c,m,a2,n2,c2,e1,e2,e3,e4⟩:=h.2.2 j hj;rw[Nat.zero_add];exact⟨a,n',c,m,a2,n2,c2,e1,e2,e3,e4 hj⟩
theorem made3{n i:Nat}(h:i<n*3):(madeCells (Value.cells (.agg #[.slice none 0 0,.bool false,.slice none 0 0])) (n*3))[i]? = some (#[Value.slice none 0 0,.bool false,.slice none 0 0][i%3]!):=by
 unfold madeCells;rw[Array.getElem?_map,Array.getElem?_range,if_pos h]
 rfl
theorem RatsTo.made(w:World)(n:Nat)(t:TypeId)(fP:Nat->Int)(fQ:Nat->Nat){mc:Array Value}(hmc:mc=madeCells (Value.cells (.agg #[.slice none 0 0,.bool false,.slice none 0 0])) (n*3)):RatsTo (w.alloc (.cells mc t)) w.heap.size n 0 fP fQ:=by
 subst hmc;have hR:=Row.new w t (madeCells (Value.cells (.agg #[.slice none 0 0,.bool false,.slice none 0 0])) (n*3))
 refine⟨hR.lt,fun o=>hR.free o,fun j hj=>⟨none,0,0,false,none,0,0,?_,?_,?_,fun h=>absurd h (Nat.not_lt_zero _)⟩⟩
 · rw[hR.cell,made3 (by omega)];simp
 · rw[hR.cell,made3 (by omega),show(j*3+1)%3=1 by omega];rfl
 · rw[hR.cell,made3 (by omega),show(j*3+2)%3=2 by omega];rfl
theorem RatsTo.place{w:World}{g n k:Nat}{fP:Nat->Int}{fQ:Nat->Nat}(h:RatsTo w g n k fP fQ){j:Nat}(hj:j<n):(∃a n' c m a2 n2 c2,w.cell? ⟨g,j*3,none⟩=some (.slice a n' c)/\w.cell? ⟨g,j*3+1,none⟩=some (.bool m)/\w.cell? ⟨g,j*3+2,none⟩=some (.slice a2 n2 c2))/\w.frozen? ⟨g,j*3,none⟩=false/\w.frozen? ⟨g,j*3+1,none⟩=false/\w.frozen? ⟨g,j*3+2,none⟩=false:=by
 obtain⟨a,n',c,m,a2,n2,c2,e1,e2,e3,_⟩:=h.2.2 j hj;exact⟨⟨a,n',c,m,a2,n2,c2,e1,e2,e3⟩,h.2.1 _,h.2.1 _,h.2.1 _⟩
theorem pickRats_any (cs : Array Value) (f : Nat -> Int) (r n : Nat) (fP : Nat -> Int) (fQ : Nat -> Nat) (sa : Option Addr) (sn sc : Nat) (g : Nat -> Int) (w : World) (h : NumArr w cs f r n fP fQ) (hs : KRow w .i64 sa sn sc g) (hg : In64 g sn) (hn : sn <= 1000000) :
    Calls Tryz.prog 160 #[.agg cs,.slice sa sn sc] w fun e w'=>∃a c,e=.returned (.slice a sn c)/\RRow w' a sn c (fun j=>elP n fP (g j)) (fun j=>elQ n fQ (g j))/\Below w.heap.size w w':=by
 obtain⟨i0,hi,hz0,hz1,hz2⟩:=info_parts infoR;have hmk:=fun wz=>run_make (P:=Tryz.prog) wz 34 53 i0 _ Tryz.underlying34 hi hz0 .i64 .i64 sn sn (by omega) (by omega) (by rw[hz2];omega) (by omega)
 simp only[Int.toNat_natCast,hz1]at hmk;have HA:=Lib.hid h;have HK:=Lib.hid hs;have HG:=Lib.hid hg;have hl:=hs.len;obtain⟨na,nc,rfl,hr⟩:=h;have EL:=Lib.hid (fun i wz h=>elem_any (arrC false ((r:Int)-1) (dm f r) na n nc none 0 0) f r n fP fQ i wz h);unfold RatTold at EL;have hR0:Row (w.alloc (.cells (arrC false ((r:Int)-1) (dm f r) na n nc none 0 0) 36)) w.heap.size 36 _:=Row.new _ _ _
 have H0:Hid (Below w.heap.size w ((w.alloc (.cells (arrC false ((r:Int)-1) (dm f r) na n nc none 0 0) 36)).alloc (.cells (madeCells (Value.cells (.agg #[.slice none 0 0,.bool false,.slice none 0 0])) (sn*3)) 53))/\Row ((w.alloc (.cells (arrC false ((r:Int)-1) (dm f r) na n nc none 0 0) 36)).alloc (.cells (madeCells (Value.cells (.agg #[.slice none 0 0,.bool false,.slice none 0 0])) (sn*3)) 53)) w.heap.size 36 (arrC false ((r:Int)-1) (dm f r) na n nc none 0 0)/\RatsTo ((w.alloc (.cells (arrC false ((r:Int)-1) (dm f r) na n nc none 0 0) 36)).alloc (.cells (madeCells (Value.cells (.agg #[.slice none 0 0,.bool false,.slice none 0 0])) (sn*3)) 53)) (w.heap.size+1) sn 0 (fun j=>elP n fP (g j)) (fun j=>elQ n fQ (g j))) :=
  ⟨((Below.refl _ _).alloc (Nat.le_refl _) _).alloc (by simp) _,hR0.below ((Below.refl _ _).alloc (Nat.le_refl _) _),by have:=RatsTo.made (w.alloc (.cells (arrC false ((r:Int)-1) (dm f r) na n nc none 0 0) 36)) sn 53 (fun j=>elP n fP (g j)) (fun j=>elQ n fQ (g j)) rfl;rwa [World.size_alloc]at this⟩
 unfold arrC;clear hr hs hg hi hz0 hz1 hz2 hR0;go_enter Tryz.func160,Tryz.ntmps160;go_wp2_with fail
 go_loopw [13] (fun i wr=>∃k:Nat,k<=sn/\i=.int .i64 k/\Hid (Below w.heap.size w wr/\Row wr w.heap.size 36 (arrC false ((r:Int)-1) (dm f r) na n nc none 0 0)/\RatsTo wr (w.heap.size+1) sn k (fun j=>elP n fP (g j)) (fun j=>elQ n fQ (g j)))) (fun i _=>sn-(intOf i).toNat)
 case atStart=>exact⟨0,by omega,rfl,H0.out⟩
 case round =>
  obtain⟨k,hk,rfl,hrel⟩:=hrel;obtain⟨hbl,hrow,hto⟩:=hrel.out;have hwr:=hbl.size
  by_cases hlt:k<sn
  · obtain ⟨b, off, rfl, hb, hc⟩ := (HK.out.below hbl).get hlt; have HAR := HA.out.below hbl; have BB := Lib.hid ((((Bag.start wr).row hrow).add (fun _ _ hb q => RatsTo.below q hb) hto)); have HBL := Lib.hid hbl; have HROW := Lib.hid hrow; have HARH := Lib.hid HAR; clear hbl hrow hto HAR
    go_wp2_with (refine ld_arr rfl (.tmp 2) rfl w.heap.size rfl HROW.out ?_)
    go_at_call 82
    refine(EL.out _ _ ?_).mono ?_
    · exact HARH.out
    rintro e w2 ⟨a2,n2,c2,m2,a3,n3,c3,rfl,hr2,hb2⟩;have B2:=BB.out.go hb2;have hto:=B2.now.1;have hrow:=B2.now.2.1;obtain⟨⟨b1,l1,d1,v1,b2,l2,d2,x1,x2,x3⟩,y1,y2,y3⟩:=hto.place hlt
    have HN:Hid (Below w.heap.size w (((w2.setCell ⟨w.heap.size+1,k*3,none⟩ (.slice a2 n2 c2)).setCell ⟨w.heap.size+1,k*3+1,none⟩ (.bool m2)).setCell ⟨w.heap.size+1,k*3+2,none⟩ (.slice a3 n3 c3)) /\
        Row (((w2.setCell ⟨w.heap.size+1,k*3,none⟩ (.slice a2 n2 c2)).setCell ⟨w.heap.size+1,k*3+1,none⟩ (.bool m2)).setCell ⟨w.heap.size+1,k*3+2,none⟩ (.slice a3 n3 c3)) w.heap.size 36 (arrC false ((r:Int)-1) (dm f r) na n nc none 0 0) /\
        RatsTo (((w2.setCell ⟨w.heap.size+1,k*3,none⟩ (.slice a2 n2 c2)).setCell ⟨w.heap.size+1,k*3+1,none⟩ (.bool m2)).setCell ⟨w.heap.size+1,k*3+2,none⟩ (.slice a3 n3 c3)) (w.heap.size+1) sn (k+1) (fun j=>elP n fP (g j)) (fun j=>elQ n fQ (g j))) :=
     ⟨(((HBL.out.trans (hb2.mono hwr)).setCell (p:=⟨w.heap.size+1,_,none⟩) (Nat.le_succ _) _).setCell (p:=⟨w.heap.size+1,_,none⟩) (Nat.le_succ _) _).setCell (p:=⟨w.heap.size+1,_,none⟩) (Nat.le_succ _) _,
       ((hrow.far (a:=⟨w.heap.size+1,_,none⟩) (show w.heap.size≠w.heap.size+1 by omega) _).far (a:=⟨w.heap.size+1,_,none⟩) (show w.heap.size≠w.heap.size+1 by omega) _).far (a:=⟨w.heap.size+1,_,none⟩) (show w.heap.size≠w.heap.size+1 by omega) _,
       hto.step hlt hr2⟩
    clear hto hrow hr2 hb2 B2 hc;go_wp2
    go_roundw
    case rel=>exact⟨k+1,by omega,by go_num,HN.out⟩
    case measure=>simp[intOf];omega
  · obtain rfl:k=sn:=by omega
    have HE:Hid (RRow wr (some ⟨w.heap.size+1,0,none⟩) k k (fun j=>elP n fP (g j)) (fun j=>elQ n fQ (g j))/\Below w.heap.size w wr):=⟨hto.done (by unfold maxLen;omega),hbl⟩
    clear hbl hrow hto;go_wp2;go_ret;exact⟨_,_,rfl,HE.out⟩
def NumTold1(f:Nat->Int)(r n:Nat)(fP:Nat->Int)(fQ:Nat->Nat)(w w':World)(e:Ending):Prop:=∃cs,e=.returned (.agg cs)/\NumArr w' cs f r n fP fQ/\Below w.heap.size w w'
theorem itm_one(f:Nat->Int):itm f 1=f 0:=by show 1*f 0=f 0;omega
theorem shB_one(f:Nat->Int):shB f 1=(decide (0<=f 0)&&decide (f 0<=4096)):=by
 unfold shB;rw[decide_eq_true (by omega),Bool.true_and]
 show(true&&(decide (0<=f 0)&&decide (1*max (f 0) 1<=4096)))=_
 rw[Bool.true_and]
 by_cases h:0<=f 0
 · rw[decide_eq_true h,Bool.true_and,Bool.true_and]
   by_cases h2:f 0<=4096
   · rw[decide_eq_true h2,decide_eq_true (by omega)]
   · rw[decide_eq_false h2,decide_eq_false (by omega)]
 · rw[decide_eq_false h];rfl
theorem sh_list{n:Nat}(h:n<=4096):(shB (fun _=>(n:Int)) 1&&decide (itm (fun _=>(n:Int)) 1=n))=true:=by
 rw[shB_one,itm_one,decide_eq_true (show(0:Int)<=n by omega),decide_eq_true (show(n:Int)<=4096 by omega),decide_eq_true rfl]
 rfl
theorem KRow.one(w:World)(x:Int)(t:TypeId):KRow (w.alloc (.cells #[.int .i64 x] t)) .i64 (some ⟨w.heap.size,0,none⟩) 1 1 (fun _=>x):=by
 refine⟨Nat.le_refl _,by unfold maxLen;omega,.inr ⟨_,0,rfl,by simp,fun j hj => ?_⟩⟩;obtain rfl:j=0:=by omega
 exact(Row.new w t #[.int .i64 x]).cell 0
theorem In64.one{x:Int}(h : -9223372036854775808<=x/\x<=9223372036854775807)(n:Nat):In64 (fun _=>x) n:=fun _ _=>h
theorem Bag.to{w0 w:World}{B:World->Prop}{g n k:Nat}{fP:Nat->Int}{fQ:Nat->Nat}(h:Bag w0 B w)(q:RatsTo w g n k fP fQ):Bag w0 (fun y=>RatsTo y g n k fP fQ/\B y) w:=h.add (fun _ _ hb q=>RatsTo.below q hb) q
theorem Bag.rrow{w0 w:World}{B:World->Prop}{a:Option Addr}{n c:Nat}{fP:Nat->Int}{fQ:Nat->Nat}(h:Bag w0 B w)(q:RRow w a n c fP fQ):Bag w0 (fun y=>RRow y a n c fP fQ/\B y) w:=h.add (fun _ _ hb q=>RRow.below q hb) q
theorem ints_any (sa : Option Addr) (sn sc : Nat) (g : Nat -> Int) (w : World) (hs : KRow w .i64 sa sn sc g) (hg : In64 g sn) (hn : sn <= 4096) :
    Calls Tryz.prog 34 #[.slice sa sn sc] w fun e w'=>NumTold1 (fun _=>sn) 1 sn g (fun _=>1) w w' e:=by
 obtain⟨i0,hi,hz0,hz1,hz2⟩:=info_parts infoR;have hmk:=fun wz=>run_make (P:=Tryz.prog) wz 34 53 i0 _ Tryz.underlying34 hi hz0 .i64 .i64 sn sn (by omega) (by omega) (by rw[hz2];omega) (by omega)
 simp only[Int.toNat_natCast,hz1]at hmk;have HK:=Lib.hid hs;have hl:=hs.len;have FR:=Lib.hid (fun X wz h=>ratFrom_any X wz h);unfold RatTold at FR;have HG:=Lib.hid hg;have NU:=Lib.hid (fun a c la lc wz (h:KRow wz .i64 a 1 c (fun _=>(sn:Int))) (h2:RRow wz la sn lc g (fun _=>1))=>nums_any a 1 c (fun _=>(sn:Int)) la sn lc g (fun _=>1) wz h (In64.one (by omega) 1) h2 (by omega));rw[sh_list hn]at NU;unfold NumsTold at NU
 have H0:Hid (Below w.heap.size w ((w.alloc (.cells zerC 36)).alloc (.cells (madeCells (Value.cells (.agg #[.slice none 0 0,.bool false,.slice none 0 0])) (sn*3)) 53))/\Row ((w.alloc (.cells zerC 36)).alloc (.cells (madeCells (Value.cells (.agg #[.slice none 0 0,.bool false,.slice none 0 0])) (sn*3)) 53)) w.heap.size 36 zerC/\RatsTo ((w.alloc (.cells zerC 36)).alloc (.cells (madeCells (Value.cells (.agg #[.slice none 0 0,.bool false,.slice none 0 0])) (sn*3)) 53)) (w.heap.size+1) sn 0 g (fun _=>1)) :=
  ⟨((Below.refl _ _).alloc (Nat.le_refl _) _).alloc (by simp) _,(Row.new _ _ _).below ((Below.refl _ _).alloc (Nat.le_refl _) _),by have:=RatsTo.made (w.alloc (.cells zerC 36)) sn 53 g (fun _=>1) rfl;rwa [World.size_alloc]at this⟩
 clear hs hg hi hz0 hz1 hz2;go_enter Tryz.func34,Tryz.ntmps34;go_wp2_with fail
 go_loopw [13] (fun i wr=>∃k:Nat,k<=sn/\i=.int .i64 k/\Hid (Below w.heap.size w wr/\Row wr w.heap.size 36 zerC/\RatsTo wr (w.heap.size+1) sn k g (fun _=>1))) (fun i _=>sn-(intOf i).toNat)
 case atStart=>exact⟨0,by omega,rfl,H0.out⟩
 case round =>
  obtain⟨k,hk,rfl,hrel⟩:=hrel;obtain⟨hbl,hrow,hto⟩:=hrel.out;have hwr:=hbl.size
  by_cases hlt:k<sn
  · obtain ⟨b, off, rfl, hb, hc⟩ := (HK.out.below hbl).get hlt; have BB := Lib.hid ((((Bag.start wr).row hrow).to hto)); have HBL := Lib.hid hbl; clear hbl hrow hto; go_wp2_with fail; go_at_call 56
    (with_reducible refine(FR.out _ _ ?_).mono ?_)
    · exact HG.out k hlt
    rintro e w2 ⟨a2,n2,c2,m2,a3,n3,c3,rfl,hr2,hb2⟩;have B2:=BB.out.go hb2;have hto:=B2.now.1;have hrow:=B2.now.2.1;obtain⟨⟨b1,l1,d1,v1,b2,l2,d2,x1,x2,x3⟩,y1,y2,y3⟩:=hto.place hlt
    have HN:Hid (Below w.heap.size w (((w2.setCell ⟨w.heap.size+1,k*3,none⟩ (.slice a2 n2 c2)).setCell ⟨w.heap.size+1,k*3+1,none⟩ (.bool m2)).setCell ⟨w.heap.size+1,k*3+2,none⟩ (.slice a3 n3 c3)) /\
        Row (((w2.setCell ⟨w.heap.size+1,k*3,none⟩ (.slice a2 n2 c2)).setCell ⟨w.heap.size+1,k*3+1,none⟩ (.bool m2)).setCell ⟨w.heap.size+1,k*3+2,none⟩ (.slice a3 n3 c3)) w.heap.size 36 zerC /\
        RatsTo (((w2.setCell ⟨w.heap.size+1,k*3,none⟩ (.slice a2 n2 c2)).setCell ⟨w.heap.size+1,k*3+1,none⟩ (.bool m2)).setCell ⟨w.heap.size+1,k*3+2,none⟩ (.slice a3 n3 c3)) (w.heap.size+1) sn (k+1) g (fun _=>1)) :=
     ⟨(((HBL.out.trans (hb2.mono hwr)).setCell (p:=⟨w.heap.size+1,_,none⟩) (Nat.le_succ _) _).setCell (p:=⟨w.heap.size+1,_,none⟩) (Nat.le_succ _) _).setCell (p:=⟨w.heap.size+1,_,none⟩) (Nat.le_succ _) _,
       ((hrow.far (a:=⟨w.heap.size+1,_,none⟩) (show w.heap.size≠w.heap.size+1 by omega) _).far (a:=⟨w.heap.size+1,_,none⟩) (show w.heap.size≠w.heap.size+1 by omega) _).far (a:=⟨w.heap.size+1,_,none⟩) (show w.heap.size≠w.heap.size+1 by omega) _,
       hto.step hlt hr2⟩
    clear hto hrow hr2 hb2 B2 hc;go_wp2
    go_roundw
    case rel=>exact⟨k+1,by omega,by go_num,HN.out⟩
    case measure=>simp[intOf];omega
  · obtain rfl:k=sn:=by omega
    have hdone:=hto.done (by unfold maxLen;omega);have hkr:KRow (wr.alloc (.cells #[.int .i64 (k:Int)] 3)) .i64 (some ⟨wr.heap.size,0,none⟩) 1 1 (fun _=>(k:Int)):=KRow.one wr k _;have BB:=Lib.hid ((((Bag.start wr).row hrow).alloc (.cells #[.int .i64 (k:Int)] 3)));have HD:=Lib.hid (hdone.below ((Below.refl _ _).alloc (Nat.le_refl _) (.cells #[.int .i64 (k:Int)] 3)));have HKR:=Lib.hid hkr;have HBL:=Lib.hid hbl;clear hbl hrow hto hdone hkr;go_wp2_with fail;go_at_call 45
    (with_reducible refine(NU.out _ _ _ _ _ ?_ ?_).mono ?_)
    · exact HKR.out
    · exact HD.out
    rintro e w3 ⟨cs,rfl,hcs,hb3⟩;rw[if_pos trivial]at hcs;obtain⟨na,nc,rfl,hr3⟩:=hcs;have B3:=(((BB.out.go hb3).rrow hr3).newRow (arrC false (((1:Nat):Int)-1) (dm (fun _=>(k:Int)) 1) na k nc none 0 0) 36)
    have hlt3:w.heap.size<w3.heap.size:=by have:=hb3.size;simp at this;omega
    have hbb:=HBL.out.trans (B3.below.mono hwr);have hr1:=B3.now.1;have hr0:=B3.now.2.2.1;have HR1:=Lib.hid hr1;have HR0:=Lib.hid hr0;have hq:=B3.now.2.1.away (Row.noLimb hr0) (RRow.ne B3.now.2.1 hr0) (Far.setRow _ _ (arrC false (((1:Nat):Int)-1) (dm (fun _=>(k:Int)) 1) na k nc none 0 0))
    have HE:Hid (NumTold1 (fun _=>(k:Int)) 1 k g (fun _=>1) w ((w3.alloc (.cells (arrC false (((1:Nat):Int)-1) (dm (fun _=>(k:Int)) 1) na k nc none 0 0) 36)).setRow w.heap.size (arrC false (((1:Nat):Int)-1) (dm (fun _=>(k:Int)) 1) na k nc none 0 0)) (.returned (.agg (arrC false (((1:Nat):Int)-1) (dm (fun _=>(k:Int)) 1) na k nc none 0 0)))) :=
     ⟨_,rfl,⟨na,nc,rfl,hq⟩,below_put hbb (Nat.le_refl _) _⟩
    clear hr3 hb3 B3 hbb hr1 hr0 hq;unfold arrC
    go_wp2_with (first
     | (refine ld_arr rfl (.tmp 6) rfl w3.heap.size rfl HR1.out ?_)
     | (refine st_arr rfl (.tmp 2) (.tmp 32) rfl w.heap.size rfl _ _ _ _ _ _ _ _ _ rfl HR0.out rfl ?_))
    exact bodyPost_ret (res_arr Tryz.results34 rfl (HR0.out.put _) rfl) rfl HE.out
theorem pickN_any (cs : Array Value) (f : Nat -> Int) (r n : Nat) (fP : Nat -> Int) (fQ : Nat -> Nat) (sa : Option Addr) (sr sc : Nat) (S : Nat -> Int) (ta : Option Addr) (tn tc : Nat) (g : Nat -> Int) (w : World) (h : NumArr w cs f r n fP fQ)
    (hs:KRow w .i64 sa sr sc S) (hS:In64 S sr) (ht:KRow w .i64 ta tn tc g) (hg:In64 g tn) (hn:tn<=1000000) :
    Calls Tryz.prog 92 #[.agg cs,.slice sa sr sc,.slice ta tn tc] w fun e w'=>NumsTold (shB S sr&&decide (itm S sr=tn)) S sr tn (fun j=>elP n fP (g j)) (fun j=>elQ n fQ (g j)) w w' e:=by
 have HA:=Lib.hid h;obtain⟨na,nc,rfl,hr⟩:=h;have PR:=Lib.hid (fun wz h h2=>pickRats_any (arrC false ((r:Int)-1) (dm f r) na n nc none 0 0) f r n fP fQ ta tn tc g wz h h2 hg hn);have NU:=Lib.hid (fun la lc wz (h:KRow wz .i64 sa sr sc S) h2=>nums_any sa sr sc S la tn lc (fun j=>elP n fP (g j)) (fun j=>elQ n fQ (g j)) wz h hS h2 hn);unfold NumsTold at NU;have HS:=Lib.hid hs;have HT:=Lib.hid ht;have BB:=Lib.hid (((Bag.start w).newRow (arrC false ((r:Int)-1) (dm f r) na n nc none 0 0) 36).newRow zerC 36);simp only[World.size_alloc]at BB;generalize hb:(shB S sr&&decide (itm S sr=tn))=b at *;have HR1:=Lib.hid BB.out.now.2.1;clear hr hs hS ht hg hb;unfold arrC;go_enter Tryz.func92,Tryz.ntmps92
 go_wp2_with (refine ld_arr rfl (.tmp 3) rfl w.heap.size rfl HR1.out ?_)
 go_at_call 160
 refine(PR.out _ ?_ ?_).mono ?_
 · exact HA.out.below BB.out.below
 · exact HT.out.below BB.out.below
 rintro e w2 ⟨a2,c2,rfl,hr2,hb2⟩;have BB:=Lib.hid ((BB.out.go hb2).rrow hr2);clear hr2 hb2;go_wp2_with fail;go_at_call 45
 refine(NU.out _ _ _ ?_ ?_).mono ?_
 · exact HS.out.below BB.out.below
 · exact BB.out.now.1
 rintro e w3 ⟨cs3,rfl,hcs,hb3⟩;have B3:=BB.out.go hb3;have hr0:=B3.now.2.1;have HR0:=Lib.hid hr0;have HBL:=Lib.hid B3.below
 have HE:Hid (∃ch more d na nn nc ta tn' tc,cs3=arrC ch more d na nn nc ta tn' tc/\NumsTold b S sr tn (fun j=>elP n fP (g j)) (fun j=>elQ n fQ (g j)) w (w3.setRow (w.heap.size+1) cs3) (.returned (.tuple #[.agg cs3,.bool b]))):=by
  cases b with
  | false =>
   rw[if_neg (by decide)]at hcs;subst hcs;exact⟨false,0,fun _=>0,none,0,0,none,0,0,rfl,zerC,rfl,by rw[if_neg (by decide)],below_put HBL.out (Nat.le_succ _) _⟩
  | true =>
   rw[if_pos rfl]at hcs;obtain⟨na3,nc3,rfl,hr3⟩:=hcs;exact⟨_,_,_,_,_,_,_,_,_,rfl,_,rfl,by rw[if_pos rfl];exact⟨na3,nc3,rfl,hr3.away (Row.noLimb hr0) (hr3.ne hr0) (Far.setRow _ _ _)⟩,below_put HBL.out (Nat.le_succ _) _⟩
 clear hcs hb3 B3 hr0;obtain⟨ch,more,d,na3,nn3,nc3,ta3,tn3,tc3,rfl,HE⟩:=HE.out;have HE:=Lib.hid HE
 go_wp2_with (refine st_arr rfl (.tmp 6) (.tmp 22) rfl (w.heap.size+1) rfl _ _ _ _ _ _ _ _ _ rfl HR0.out rfl ?_)
 exact bodyPost_ret (res_arr2 Tryz.results92 rfl rfl (HR0.out.put _) rfl) rfl HE.out
theorem rank_any (ch : Bool) (d : Nat -> Int) (r : Nat) (na : Option Addr) (nn nc : Nat) (ta : Option Addr) (tn tc : Nat) (w : World) (hr : r <= 1000) :
    Calls Tryz.prog 101 #[.agg (arrC ch ((r:Int)-1) d na nn nc ta tn tc)] w fun e w'=>e=.returned (.int .i64 r)/\Below w.heap.size w w':=by
 have HB:Hid (Below w.heap.size w (w.alloc (.cells (arrC ch ((r:Int)-1) d na nn nc ta tn tc) 36))):=(Below.refl _ _).alloc (Nat.le_refl _) _;have HE:Hid (1+((r:Int)-1)=r):=by show _=_;omega
 unfold arrC at HB;unfold arrC;go_enter Tryz.func101,Tryz.ntmps101;go_wp2;go_ret;exact⟨ret_int HE.out,HB.out⟩
def KTo(w:World)(g n k:Nat)(f:Nat->Int):Prop:=g<w.heap.size/\Free w g/\∀j,j<n->∃z,w.cell? ⟨g,j,none⟩=some (.int .i64 z)/\(j<k->z=f j)
theorem KTo.below{w w':World}{g n k:Nat}{f:Nat->Int}(h:KTo w g n k f)(hb:Below w.heap.size w w'):KTo w' g n k f:=by
 obtain⟨h1,h2,h3⟩:=h;refine⟨Nat.lt_of_lt_of_le h1 hb.size,h2.below hb h1,fun j hj => ?_⟩;obtain⟨z,e1,e2⟩:=h3 j hj;exact⟨z,(hb.cell (p:=⟨g,_,none⟩) h1).trans e1,e2⟩
theorem KTo.step{w:World}{g n k:Nat}{f:Nat->Int}(h:KTo w g n k f)(hk:k<n):KTo (w.setCell ⟨g,k,none⟩ (.int .i64 (f k))) g n (k+1) f:=by
 obtain⟨h1,h2,h3⟩:=h;refine⟨by simpa using h1,h2.set _ _,fun j hj => ?_⟩
 by_cases e:j=k
 · subst e;obtain⟨z,e1,_⟩:=h3 j hj;exact⟨f j,World.cell?_setCell_same _ _ _ e1,fun _=>rfl⟩
 · obtain⟨z,e1,e2⟩:=h3 j hj;exact⟨z,by rw[World.cell?_setCell_other _ _ _ _ (fun h=>by injection h with _ h;omega)];exact e1,fun h=>e2 (by omega)⟩
theorem KTo.done{w:World}{g n:Nat}{f:Nat->Int}(h:KTo w g n n f)(hn:n<=maxLen):KRow w .i64 (some ⟨g,0,none⟩) n n f:=by
 refine⟨Nat.le_refl _,hn,.inr ⟨g,0,rfl,h.1,fun j hj => ?_⟩⟩;obtain⟨z,e1,e2⟩:=h.2.2 j hj;rw[Nat.zero_add,e1,e2 hj]
theorem KTo.made(w:World)(n:Nat)(t:TypeId)(f:Nat->Int){mc:Array Value}(hmc:mc=madeCells (Value.cells (.int .i64 0)) n):KTo (w.alloc (.cells mc t)) w.heap.size n 0 f:=by
 subst hmc;have hR:=Row.new w t (madeCells (Value.cells (.int .i64 0)) n);refine⟨hR.lt,fun o=>hR.free o,fun j hj=>⟨0,?_,fun h=>absurd h (Nat.not_lt_zero _)⟩⟩;rw[hR.cell];unfold madeCells;rw[Array.getElem?_map,Array.getElem?_range,if_pos (by omega),Option.map_some]
 simp[Value.cells,Nat.mod_one]
theorem KTo.place{w:World}{g n k:Nat}{f:Nat->Int}(h:KTo w g n k f){j:Nat}(hj:j<n):(∃z,w.cell? ⟨g,j,none⟩=some (.int .i64 z))/\w.frozen? ⟨g,j,none⟩=false:=by
 obtain⟨z,e1,_⟩:=h.2.2 j hj;exact⟨⟨z,e1⟩,h.2.1 _⟩
theorem Bag.kto{w0 w:World}{B:World->Prop}{g n k:Nat}{f:Nat->Int}(h:Bag w0 B w)(q:KTo w g n k f):Bag w0 (fun y=>KTo y g n k f/\B y) w:=h.add (fun _ _ hb q=>KTo.below q hb) q
def whB(fP:Nat->Int)(fQ:Nat->Nat):Nat->Bool
 | 0=>true
 | k+1=>whB fP fQ k&&(decide (fQ k=1)&&fitB (fP k))
theorem whB_le{fP:Nat->Int}{fQ:Nat->Nat}:∀ {k m:Nat},k<=m->whB fP fQ m=true->whB fP fQ k=true:=by
 intro k m
 induction m with
 | zero => intro h h2; obtain rfl : k = 0 := by omega
           exact h2
 | succ m ih =>
  intro h h2
  rcases Nat.lt_or_ge k (m+1)with h3|h3
  · refine ih (by omega) ?_;unfold whB at h2;rw[Bool.and_eq_true]at h2;exact h2.1
  · obtain rfl:k=m+1:=by omega
    exact h2
def WhTold(b:Bool)(n:Nat)(fP:Nat->Int)(w w':World)(e:Ending):Prop:=∃a m c,e=.returned (.tuple #[.slice a m c,.bool b])/\(if b then m=n/\KRow w' .i64 a n c fP else a=none/\m=0/\c=0)/\Below w.heap.size w w'
theorem whole6_any (cs : Array Value) (f : Nat -> Int) (r n : Nat) (fP : Nat -> Int) (fQ : Nat -> Nat) (w : World) (h : NumArr w cs f r n fP fQ) (hQ : ∀ j, j < n -> 0 < fQ j) (hn : n <= 1000000) :
    Calls Tryz.prog 161 #[.agg cs] w fun e w'=>WhTold (whB fP fQ n) n fP w w' e:=by
 obtain⟨i0,hi,hz0,hz1,hz2⟩:=info_parts infoI;have hmk:=fun wz=>run_make (P:=Tryz.prog) wz 22 3 i0 _ Tryz.underlying22 hi hz0 .i64 .i64 n n (by omega) (by omega) (by rw[hz2];omega) (by omega)
 simp only[Int.toNat_natCast,hz1,Nat.mul_one]at hmk;obtain⟨na,nc,rfl,hr⟩:=h;have HR:=Lib.hid hr;have hl:=hr.len;have HQ:=Lib.hid hQ;have IN:=Lib.hid (fun a n c m a2 n2 c2 P Q wz h hq=>ratInt_any a n c m a2 n2 c2 P Q wz h hq);have hR0:Row (w.alloc (.cells (arrC false ((r:Int)-1) (dm f r) na n nc none 0 0) 36)) w.heap.size 36 _:=Row.new _ _ _
 have H0:Hid (Below w.heap.size w ((w.alloc (.cells (arrC false ((r:Int)-1) (dm f r) na n nc none 0 0) 36)).alloc (.cells (madeCells (Value.cells (.int .i64 0)) n) 3))/\KTo ((w.alloc (.cells (arrC false ((r:Int)-1) (dm f r) na n nc none 0 0) 36)).alloc (.cells (madeCells (Value.cells (.int .i64 0)) n) 3)) (w.heap.size+1) n 0 fP/\whB fP fQ 0=true) :=
  ⟨((Below.refl _ _).alloc (Nat.le_refl _) _).alloc (by simp) _,by have:=KTo.made (w.alloc (.cells (arrC false ((r:Int)-1) (dm f r) na n nc none 0 0) 36)) n 3 fP rfl;rwa [World.size_alloc]at this,rfl⟩
 unfold arrC at H0;unfold arrC;clear hr hi hz0 hz1 hz2 hR0 hQ;go_enter Tryz.func161,Tryz.ntmps161;go_wp2_with fail
 go_loopw [20] (fun i wr=>∃k:Nat,k<=n/\i=.int .i64 k/\Hid (Below w.heap.size w wr/\KTo wr (w.heap.size+1) n k fP/\whB fP fQ k=true)) (fun i _=>n-(intOf i).toNat)
 case atStart=>exact⟨0,by omega,rfl,H0.out⟩
 case round =>
  obtain⟨k,hk,rfl,hrel⟩:=hrel;obtain⟨hbl,hto,hwh⟩:=hrel.out;have hwr:=hbl.size
  by_cases hlt:k<n
  · obtain ⟨b, off, a', n', c', m', a2', n2', c2', rfl, hlb, e1, e2, e3, hi'⟩ := (HR.out.below hbl).get hlt; have BB := Lib.hid ((((Bag.start wr).kto hto).rat hi').alloc (.cells #[.slice a' n' c', .bool m', .slice a2' n2' c2'] 53)); have HBL := Lib.hid hbl; have HWH := Lib.hid hwh; clear hbl hto hi' hwh; go_wp2_with fail; go_at_call 212
    refine(IN.out _ _ _ _ _ _ _ (fP k) (fQ k) _ ?_ ?_).mono ?_
    · exact BB.out.now.1
    · exact HQ.out k hlt
    rintro e w2 ⟨rfl,hb2⟩;have B2:=BB.out.go hb2;have hto:=B2.now.2.1;obtain⟨⟨z,x1⟩,y1⟩:=hto.place hlt;have hbb:=HBL.out.trans (B2.below.mono hwr)
    by_cases hok:(decide (fQ k=1)&&fitB (fP k))=true
    · have hv:(if fQ k=1 then fitI (fP k)else 0)=fP k:=by
        rw[Bool.and_eq_true,decide_eq_true_eq]at hok;rw[if_pos hok.1];unfold fitI;rw[if_pos hok.2]
      have HN:Hid (Below w.heap.size w (w2.setCell ⟨w.heap.size+1,k,none⟩ (.int .i64 (fP k)))/\KTo (w2.setCell ⟨w.heap.size+1,k,none⟩ (.int .i64 (fP k))) (w.heap.size+1) n (k+1) fP/\whB fP fQ (k+1)=true) :=
       ⟨hbb.setCell (p:=⟨w.heap.size+1,k,none⟩) (Nat.le_succ _) _,hto.step hlt,by show(whB fP fQ k&&_)=true;rw[HWH.out,hok];rfl⟩
      rw[hok,hv];clear hto hb2 B2 hbb hv hok e1 e2 e3;generalize fP k=x at *;go_wp2
      go_roundw
      case rel=>exact⟨k+1,by omega,by go_num,HN.out⟩
      case measure=>simp[intOf];omega
    · rw[Bool.not_eq_true]at hok
      have hno:whB fP fQ n=false:=by
       cases hx:whB fP fQ n with
       | false=>rfl
       | true =>
        have:=whB_le (k:=k+1) (by omega) hx;unfold whB at this;rw[hok,Bool.and_false]at this;exact this.symm
      rw[hok]
      have HE:Hid (WhTold (whB fP fQ n) n fP w w2 (.returned (.tuple #[.slice none 0 0,.bool false]))):=by
       rw[hno];exact⟨_,_,_,rfl,by rw[if_neg (by decide)];exact⟨rfl,rfl,rfl⟩,hbb⟩
      generalize (if fQ k=1 then fitI (fP k)else 0)=x at *;clear hto hb2 B2 hbb hno hok e1 e2 e3;go_wp2;go_ret2;exact HE.out
  · obtain rfl:k=n:=by omega
    have HE:Hid (WhTold (whB fP fQ k) k fP w wr (.returned (.tuple #[.slice (some ⟨w.heap.size+1,0,none⟩) k k,.bool true]))):=by
     rw[hwh];exact⟨_,_,_,rfl,by rw[if_pos rfl];exact⟨rfl,hto.done (by unfold maxLen;omega)⟩,hbl⟩
    clear hbl hto hwh;go_wp2;go_ret2;exact HE.out
def lt(l:List Int)(j:Nat):Int:=l.getD j 0
theorem KRow.lits(w:World)(l:List Int)(t:TypeId)(h:l.length<=1000){cs:Array Value}(hc:cs=(l.map (Value.int .i64)).toArray):KRow (w.alloc (.cells cs t)) .i64 (some ⟨w.heap.size,0,none⟩) l.length l.length (lt l):=by
 subst hc;refine⟨Nat.le_refl _,by unfold maxLen;omega,.inr ⟨_,0,rfl,by simp,fun j hj => ?_⟩⟩;have:=(Row.new w t (l.map (Value.int .i64)).toArray).cell (0+j);rw[this,Nat.zero_add]
 simp[lt,hj]
theorem lt64{l:List Int}(h:l.all (fun x=>decide (-9223372036854775808<=x/\x<=9223372036854775807))=true)(n:Nat):In64 (lt l) n:=by
 intro j _;unfold lt
 by_cases hj:j<l.length
 · have:=List.all_eq_true.1 h (l[j]) (List.getElem_mem hj);rw[decide_eq_true_eq]at this
   simpa[List.getD,hj]using this
 · simp[List.getD,hj]
theorem KRow.of_box{w:World}{k:Nat}{t:TypeId}{ch:Bool}{f:Nat->Int}{r:Nat}{na:Option Addr}{nn nc:Nat}{ta:Option Addr}{tn tc:Nat}{more:Int}(h:Row w k t (arrC ch more (dm f r) na nn nc ta tn tc))(hr:r<=8):KRow w .i64 (some ⟨k,2,none⟩) r 8 f:=by
 refine⟨hr,by unfold maxLen;omega,.inr ⟨k,2,rfl,h.lt,fun j hj => ?_⟩⟩;have hd:dm f r j=f j:=by unfold dm;rw[if_pos hj]
 have hc:=h.cell (2+j);rw[hc,← hd];have hn:j=0∨j=1∨j=2∨j=3∨j=4∨j=5∨j=6∨j=7:=by omega
 rcases hn with rfl|rfl|rfl|rfl|rfl|rfl|rfl|rfl<;>rfl
theorem shape_any (ch : Bool) (f : Nat -> Int) (r : Nat) (na : Option Addr) (nn nc : Nat) (ta : Option Addr) (tn tc : Nat) (w : World) (hr : r <= 8) :
    Calls Tryz.prog 39 #[.agg (arrC ch ((r:Int)-1) (dm f r) na nn nc ta tn tc)] w fun e w'=>∃a c,e=.returned (.slice a r c)/\KRow w' .i64 a r c f/\Below w.heap.size w w':=by
 have RK:=Lib.hid (fun wz=>rank_any ch (dm f r) r na nn nc ta tn tc wz (by omega));have CL:=Lib.hid (fun a c wz h=>cloneI_any a r c f wz h (by omega));have BB:=Lib.hid ((Bag.start w).newRow (arrC ch ((r:Int)-1) (dm f r) na nn nc ta tn tc) 36);have HR:=Lib.hid BB.out.now.1;have h0:(0:Int)<=r:=by omega
 have h8:(r:Int)<=8:=by omega
 unfold arrC;go_enter Tryz.func39,Tryz.ntmps39
 go_wp2_with (refine ld_arr rfl (.tmp 1) rfl w.heap.size rfl HR.out ?_)
 go_at_call 101;refine(RK.out _).mono ?_;rintro e w2 ⟨rfl,hb2⟩;have BB:=bgo BB hb2;clear hb2;go_wp2_with fail;go_at_call 100
 refine(CL.out _ _ _ ?_).mono ?_
 · exact KRow.of_box BB.out.now.1 hr
 rintro e w3 ⟨a3,c3,rfl,hk3,hb3⟩;have HE:Hid (KRow w3 .i64 a3 r c3 f/\Below w.heap.size w w3):=⟨hk3,(BB.out.go hb3).below⟩
 clear hk3 hb3;go_wp2;go_ret;exact⟨a3,c3,rfl,HE.out⟩
theorem runes_any (ch : Bool) (more : Int) (d : Nat -> Int) (na : Option Addr) (nn nc : Nat) (ta : Option Addr) (tn tc : Nat) (g : Nat -> Int) (w : World) (h : KRow w .i32 ta tn tc g) (ht : tn <= 1000000) :
    Calls Tryz.prog 44 #[.agg (arrC ch more d na nn nc ta tn tc)] w fun e w'=>∃a c,e=.returned (.slice a tn c)/\KRow w' .i32 a tn c g/\Below w.heap.size w w':=by
 have CL:=Lib.hid (fun wz h=>cloneC_any ta tn tc g wz h ht);have BB:=Lib.hid (((Bag.start w).krow h).newRow (arrC ch more d na nn nc ta tn tc) 36);clear h;unfold arrC at BB;unfold arrC;go_enter Tryz.func44,Tryz.ntmps44;go_wp2_with fail;go_at_call 103;refine(CL.out _ BB.out.now.2.1).mono ?_;rintro e w3 ⟨a3,c3,rfl,hk3,hb3⟩;have HE:Hid (KRow w3 .i32 a3 tn c3 g/\Below w.heap.size w w3):=⟨hk3,(BB.out.go hb3).below⟩
 clear hk3 hb3;go_wp2;go_ret;exact⟨a3,c3,rfl,HE.out⟩
theorem len_any (ch : Bool) (more : Int) (d : Nat -> Int) (na : Option Addr) (nn nc : Nat) (ta : Option Addr) (tn tc : Nat) (w : World) :
    Calls Tryz.prog 51 #[.agg (arrC ch more d na nn nc ta tn tc)] w fun e w'=>e=.returned (.int .i64 (if ch then(tn:Int)else(nn:Int)))/\Below w.heap.size w w':=by
 have HB:Hid (Below w.heap.size w (w.alloc (.cells (arrC ch more d na nn nc ta tn tc) 36))):=(Below.refl _ _).alloc (Nat.le_refl _) _;unfold arrC at HB;unfold arrC
 cases ch
 · rw[if_neg (by decide)];go_enter Tryz.func51,Tryz.ntmps51;go_wp2;go_ret;exact⟨rfl,HB.out⟩
 · rw[if_pos rfl];go_enter Tryz.func51,Tryz.ntmps51;go_wp2;go_ret;exact⟨rfl,HB.out⟩
def QRow(w:World)(sa:Option Addr)(n c:Nat)(fB:Nat->Bool)(fS fT:Nat->ByteArray):Prop:=n<=c/\c<=maxLen/\(n=0∨∃b off,sa=some ⟨b,off,none⟩/\b<w.heap.size /\
 ∀j,j<n->w.cell? ⟨b,off+j*3,none⟩=some (.bool (fB j))/\w.cell? ⟨b,off+j*3+1,none⟩=some (.string (fS j))/\w.cell? ⟨b,off+j*3+2,none⟩=some (.string (fT j)))
theorem QRow.below{w w':World}{sa:Option Addr}{n c:Nat}{fB:Nat->Bool}{fS fT:Nat->ByteArray}(h:QRow w sa n c fB fS fT)(hb:Below w.heap.size w w'):QRow w' sa n c fB fS fT:=by
 obtain⟨h0,h1,h2⟩:=h;refine⟨h0,h1,h2.imp id ?_⟩;rintro⟨b,off,rfl,hl,hc⟩;refine⟨b,off,rfl,Nat.lt_of_lt_of_le hl hb.size,fun j hj => ?_⟩;obtain⟨e1,e2,e3⟩:=hc j hj;exact⟨(hb.cell (p:=⟨b,_,none⟩) hl).trans e1,(hb.cell (p:=⟨b,_,none⟩) hl).trans e2,(hb.cell (p:=⟨b,_,none⟩) hl).trans e3⟩
theorem QRow.get {w : World} {sa : Option Addr} {n c : Nat} {fB : Nat -> Bool} {fS fT : Nat -> ByteArray} (h : QRow w sa n c fB fS fT) {j : Nat} (hj : j < n) :
    ∃b off,sa=some ⟨b,off,none⟩/\b<w.heap.size/\w.cell? ⟨b,off+j*3,none⟩=some (.bool (fB j))/\w.cell? ⟨b,off+j*3+1,none⟩=some (.string (fS j))/\w.cell? ⟨b,off+j*3+2,none⟩=some (.string (fT j)):=by
 rcases h.2.2 with h2|⟨b,off,rfl,hl,hc⟩
 · omega
 · exact⟨b,off,rfl,hl,hc j hj⟩
theorem QRow.len{w:World}{sa:Option Addr}{n c:Nat}{fB:Nat->Bool}{fS fT:Nat->ByteArray}(h:QRow w sa n c fB fS fT):n<=c/\n<=9223372036854775807:=by
 have h1:=h.1;have h2:=h.2.1;unfold maxLen at h2;exact⟨h1,by omega⟩
theorem QRow.nought(w:World)(a:Option Addr)(c:Nat)(hc:c<=maxLen)(fB:Nat->Bool)(fS fT:Nat->ByteArray):QRow w a 0 c fB fS fT:=⟨Nat.zero_le _,hc,.inl rfl⟩
theorem Bag.qrow{w0 w:World}{B:World->Prop}{a:Option Addr}{n c:Nat}{fB:Nat->Bool}{fS fT:Nat->ByteArray}(h:Bag w0 B w)(q:QRow w a n c fB fS fT):Bag w0 (fun y=>QRow y a n c fB fS fT/\B y) w:=h.add (fun _ _ hb q=>QRow.below q hb) q
def plC(sa:Option Addr)(sn sc:Nat)(ch:Bool)(ta:Option Addr)(tn tc:Nat)(na:Option Addr)(nn nc:Nat):Array Value:=#[.slice sa sn sc,.bool ch,.slice ta tn tc,.slice na nn nc]
def PlnAt(w:World)(cs:Array Value)(S:Nat->Int)(r:Nat)(ch:Bool)(g:Nat->Int)(tn:Nat)(fB:Nat->Bool)(fS fT:Nat->ByteArray)(nn:Nat):Prop :=
 ∃sa sc ta tc na nc,cs=plC sa r sc ch ta tn tc na nn nc/\KRow w .i64 sa r sc S/\KRow w .i32 ta tn tc g/\QRow w na nn nc fB fS fT
theorem PlnAt.below{w w':World}{cs:Array Value}{S:Nat->Int}{r:Nat}{ch:Bool}{g:Nat->Int}{tn:Nat}{fB:Nat->Bool}{fS fT:Nat->ByteArray}{nn:Nat}(h:PlnAt w cs S r ch g tn fB fS fT nn)(hb:Below w.heap.size w w'):PlnAt w' cs S r ch g tn fB fS fT nn:=by
 obtain⟨sa,sc,ta,tc,na,nc,e,h1,h2,h3⟩:=h;exact⟨sa,sc,ta,tc,na,nc,e,h1.below hb,h2.below hb,h3.below hb⟩
theorem infoN:(Tryz.prog.info? 46).map (fun i=>(i.zero,i.size,i.bytes))=some (some (.agg #[.bool false,.string ⟨#[]⟩,.string ⟨#[]⟩]),3,40):=by kernel_rfl
def qcs(fB:Nat->Bool)(fS fT:Nat->ByteArray):Nat->List Value
 | 0 => []
 | k+1=>qcs fB fS fT k ++ [.bool (fB k),.string (fS k),.string (fT k)]
theorem qcs_length(fB:Nat->Bool)(fS fT:Nat->ByteArray):∀k,(qcs fB fS fT k).length=k*3
 | 0=>rfl
 | k+1=>by unfold qcs;rw[List.length_append,qcs_length fB fS fT k];simp;omega
theorem qcs_get (fB : Nat -> Bool) (fS fT : Nat -> ByteArray) : ∀ k j, j < k -> (qcs fB fS fT k)[j * 3]? = some (.bool (fB j)) /\ (qcs fB fS fT k)[j * 3 + 1]? = some (.string (fS j)) /\ (qcs fB fS fT k)[j * 3 + 2]? = some (.string (fT j))
 | 0,j,h=>absurd h (Nat.not_lt_zero _)
 | k+1,j,h=>by
  have hl:=qcs_length fB fS fT k;unfold qcs
  by_cases e:j=k
  · subst e
    refine⟨?_,?_,?_⟩
    · rw[List.getElem?_append_right (by omega),hl,show j*3-j*3=0 by omega];rfl
    · rw[List.getElem?_append_right (by omega),hl,show j*3+1-j*3=1 by omega];rfl
    · rw[List.getElem?_append_right (by omega),hl,show j*3+2-j*3=2 by omega];rfl
  · obtain⟨e1,e2,e3⟩:=qcs_get fB fS fT k j (by omega)
    refine⟨?_,?_,?_⟩
    · rw[List.getElem?_append_left (by omega)];exact e1
    · rw[List.getElem?_append_left (by omega)];exact e2
    · rw[List.getElem?_append_left (by omega)];exact e3
theorem QRow.of_own{w:World}{base:Nat}{v:Value}{n:Nat}{fB:Nat->Bool}{fS fT:Nat->ByteArray}(h:w.ownsRow base 46 3 v n (qcs fB fS fT n)):∃a c,v=.slice a n c/\QRow w a n c fB fS fT:=by
 rcases h.2 with ⟨rfl,rfl⟩|⟨g,cap,cur,rfl,_,hh,h1,h2,_,hcs⟩
 · exact⟨none,0,rfl,QRow.nought _ _ _ (Nat.zero_le _) _ _ _⟩
 · refine⟨some ⟨g,0,none⟩,cap,rfl,h1,h2,.inr ⟨g,0,rfl,Row.lt (t:=46) hh,fun j hj => ?_⟩⟩
   have hc:∀i u,(qcs fB fS fT n)[i]? = some u->w.cell? ⟨g,0+i,none⟩=some u:=fun i u hu=>by
    have:=h.cells (g:=g) rfl i u hu
    rwa [show(⟨g,0,none⟩:Addr).add i=⟨g,0+i,none⟩by unfold Addr.add;split<;>simp_all]at this
   obtain⟨e1,e2,e3⟩:=qcs_get fB fS fT n j hj;exact⟨hc _ _ e1,by rw[show 0+j*3+1=0+(j*3+1)by omega];exact hc _ _ e2,by rw[show 0+j*3+2=0+(j*3+2)by omega];exact hc _ _ e3⟩
theorem Row.grown{w w':World}{g:Nat}{t:TypeId}{cs:Array Value}{row:Option Nat}(h:Row w g t cs)(hg:w.grownBy w' row)(e:some g≠row):Row w' g t cs:=(hg.block g h.lt e).trans h
theorem Row.apart{w:World}{g:Nat}{t e:TypeId}{cs:Array Value}{base size n:Nat}{v:Value}{xs:List Value}(h:Row w g t cs)(ho:w.ownsRow base e size v n xs)(hne:e≠t):some g≠v.ownBlock:=by
 rcases ho.2 with ⟨rfl,_⟩|⟨g',cap,cur,rfl,_,hh,_⟩
 · simp[Value.ownBlock]
 · intro he;have:g=g':=by simpa[Value.ownBlock]using he
   subst this;unfold Row at h;rw[h]at hh
   injection hh with hh
   injection hh with _ hh
   exact hne hh.symm
end Go.Proofs.YtdmmenaejkpnjaaGreatDoor
