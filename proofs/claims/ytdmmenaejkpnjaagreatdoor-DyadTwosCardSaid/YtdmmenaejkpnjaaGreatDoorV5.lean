/-
  Texts of this seat, laid together.
-/
import Derived.Test.YtdmmenaejkpnjaaGreatDoorV4
set_option maxHeartbeats 12800000
set_option maxRecDepth 100000
set_option linter.unusedSimpArgs false
set_option linter.unusedVariables false
namespace Go.Proofs.YtdmmenaejkpnjaaGreatDoor
open Go.RowKit
def rg(P:Int)(Q:Nat):Nat:=Nat.gcd P.natAbs Q
def loP(P:Int)(Q:Nat):Int:=sgn (decide (P<0)) (P.natAbs / rg P Q)
def loQ(P:Int)(Q:Nat):Nat:=Q / rg P Q
theorem rg_pos(P:Int){Q:Nat}(h:0<Q):0<rg P Q:=Nat.gcd_pos_of_pos_right _ h
theorem loP_abs(P:Int)(Q:Nat):(loP P Q).natAbs=P.natAbs / rg P Q:=sgn_abs _ _
theorem loP_absle(P:Int)(Q:Nat):(loP P Q).natAbs<=P.natAbs:=by rw[loP_abs];exact Nat.div_le_self _ _
theorem loQ_le(P:Int)(Q:Nat):loQ P Q<=Q:=Nat.div_le_self _ _
theorem loQ_pos(P:Int){Q:Nat}(h:0<Q):0<loQ P Q :=
 Nat.div_pos (Nat.le_of_dvd h (Nat.gcd_dvd_right _ _)) (rg_pos P h)
theorem sgn_times(b:Bool)(N M:Nat):sgn b (N*M)=N*sgn b M:=by
 cases b<;>simp[sgn,Int.mul_neg]
theorem loP_mul(P:Int)(Q:Nat):(rg P Q:Int)*loP P Q=P:=by
 unfold loP;rw[← sgn_times,show rg P Q*(P.natAbs / rg P Q)=P.natAbs from Nat.mul_div_cancel' (Nat.gcd_dvd_left _ _),sgn_self]
theorem loP_zero{P:Int}{Q:Nat}:loP P Q=0↔P=0:=by
 constructor
 · intro h1;have:=loP_mul P Q;rw[h1]at this;omega
 · intro h1;have:=loP_absle P Q;rw[h1]at this ⊢
   omega
theorem loP_neg{P:Int}{Q:Nat}:decide (loP P Q<0)=decide (P<0):=by
 have h1:(P.natAbs / rg P Q=0)↔P=0:=by
  rw[← loP_abs];have:=loP_zero (P:=P) (Q:=Q)
  constructor
  · intro h2;exact this.1 (by omega)
  · intro h2;rw[this.2 h2];rfl
 unfold loP;rw[sgn_neg]
 by_cases h2:P<0
 · rw[decide_eq_true h2,decide_eq_false (fun h3=>by have:=h1.1 h3;omega)];rfl
 · rw[decide_eq_false h2];rfl
theorem lo_cop(P:Int){Q:Nat}(h:0<Q):Nat.gcd (loP P Q).natAbs (loQ P Q)=1:=by
 rw[loP_abs];exact Nat.Coprime.gcd_eq_one (Nat.coprime_div_gcd_div_gcd (rg_pos P h))
theorem lo_one{P:Int}{Q:Nat}(h:Nat.gcd P.natAbs Q=1):loP P Q=P/\loQ P Q=Q:=by
 have h1:rg P Q=1:=h;unfold loP loQ;rw[h1,Nat.div_one,Nat.div_one,sgn_self];exact⟨rfl,rfl⟩
theorem lo_uniq{P P':Int}{Q Q':Nat}(h:0<Q)(h':0<Q')(c:Nat.gcd P.natAbs Q=1)(c':Nat.gcd P'.natAbs Q'=1)(e:P*Q'=P'*Q):P=P'/\Q=Q':=by
 have e1:P.natAbs*Q'=P'.natAbs*Q:=by
  have:=congrArg Int.natAbs e;rw[Int.natAbs_mul,Int.natAbs_mul,Int.natAbs_natCast,Int.natAbs_natCast]at this;exact this
 have d1:Q∣Q':=by
  have:Q∣P.natAbs*Q':=⟨P'.natAbs,by rw[e1,Nat.mul_comm]⟩
  exact Nat.Coprime.dvd_of_dvd_mul_left (show Nat.Coprime Q P.natAbs by unfold Nat.Coprime;rw[Nat.gcd_comm];exact c) this
 have d2:Q'∣Q:=by
  have:Q'∣P'.natAbs*Q:=⟨P.natAbs,by rw[← e1,Nat.mul_comm]⟩
  exact Nat.Coprime.dvd_of_dvd_mul_left (show Nat.Coprime Q' P'.natAbs by unfold Nat.Coprime;rw[Nat.gcd_comm];exact c') this
 have hq:Q=Q':=Nat.dvd_antisymm d1 d2;subst hq;exact⟨Int.eq_of_mul_eq_mul_right (by omega) e,rfl⟩
def upZ(P Y:Int):Int:=if Y<0 then -P else P
theorem upZ_abs(P Y:Int):(upZ P Y).natAbs=P.natAbs:=by unfold upZ;split<;>omega
theorem upZ_sgn(P Y:Int):decide (upZ P Y<0)=((decide (P<0) != decide (Y<0)) && !decide (P=0)):=by
 unfold upZ
 by_cases h:Y<0
 · rw[if_pos h,decide_eq_true h]
   by_cases h1:P<0
   · rw[decide_eq_true h1,decide_eq_false (by omega)];rfl
   · rw[decide_eq_false h1]
     by_cases h2:P=0
     · rw[decide_eq_false (by omega),decide_eq_true h2];rfl
     · rw[decide_eq_true (by omega),decide_eq_false h2];rfl
 · rw[if_neg h,decide_eq_false h]
   by_cases h1:P<0
   · rw[decide_eq_true h1,decide_eq_false (by omega)];rfl
   · rw[decide_eq_false h1];rfl
end Go.Proofs.YtdmmenaejkpnjaaGreatDoor
namespace Go.Proofs.YtdmmenaejkpnjaaGreatDoor
open Go.RowKit
attribute [local go_sem ↓] Go.wp_at_zero Go.wp_at_succ
structure Slot3(w:World)(k:Nat)(x y z:Value):Prop where
 cell:w.cell? ⟨k,0,none⟩=some x
 cell1:w.cell? ⟨k,1,none⟩=some y
 cell2:w.cell? ⟨k,2,none⟩=some z
 free:w.frozen? ⟨k,0,none⟩=false
 free1:w.frozen? ⟨k,1,none⟩=false
 free2:w.frozen? ⟨k,2,none⟩=false
 lt:k<w.heap.size
theorem Slot3.c3{w:World}{k:Nat}{x y z:Value}(h:Slot3 w k x y z):w.cell? ⟨k,0,none⟩=some x ∧ w.cell? ⟨k,1,none⟩=some y ∧ w.cell? ⟨k,2,none⟩=some z:=⟨h.cell,h.cell1,h.cell2⟩
theorem Slot3.f3{w:World}{k:Nat}{x y z:Value}(h:Slot3 w k x y z):w.frozen? ⟨k,0,none⟩=false ∧ w.frozen? ⟨k,1,none⟩=false ∧ w.frozen? ⟨k,2,none⟩=false:=⟨h.free,h.free1,h.free2⟩
theorem Slot3.s6{w:World}{k:Nat}{x y z:Value}(h:Slot3 w k x y z):w.cell? ⟨k,0,none⟩=some x ∧ w.cell? ⟨k,1,none⟩=some y ∧ w.cell? ⟨k,2,none⟩=some z ∧ w.frozen? ⟨k,0,none⟩=false ∧ w.frozen? ⟨k,1,none⟩=false ∧ w.frozen? ⟨k,2,none⟩=false:=⟨h.cell,h.cell1,h.cell2,h.free,h.free1,h.free2⟩
theorem Slot3.below{w w':World}{k:Nat}{x y z:Value}(h:Slot3 w k x y z)(hb:Below w.heap.size w w'):Slot3 w' k x y z :=
 ⟨(hb.cell (p:=⟨k,0,none⟩) h.lt).trans h.cell,(hb.cell (p:=⟨k,1,none⟩) h.lt).trans h.cell1,(hb.cell (p:=⟨k,2,none⟩) h.lt).trans h.cell2,
   (hb.frozen (p:=⟨k,0,none⟩) h.lt).trans h.free,(hb.frozen (p:=⟨k,1,none⟩) h.lt).trans h.free1,(hb.frozen (p:=⟨k,2,none⟩) h.lt).trans h.free2,Nat.lt_of_lt_of_le h.lt hb.size⟩
theorem Slot3.new(w:World)(x y z:Value)(t:TypeId):Slot3 (w.alloc (.cells #[x,y,z] t)) w.heap.size x y z:=by
 refine⟨?_,?_,?_,World.frozen?_alloc_new _ _ _ _,World.frozen?_alloc_new _ _ _ _,World.frozen?_alloc_new _ _ _ _,by rw[World.size_alloc];omega⟩
 · rw[World.cell?_alloc_new];rfl
 · rw[World.cell?_alloc_new];rfl
 · rw[World.cell?_alloc_new];rfl
theorem Bag.slot3{w0 w:World}{P:World->Prop}{k:Nat}{x y z:Value}(h:Bag w0 P w)(q:Slot3 w k x y z):Bag w0 (fun v=>Slot3 v k x y z/\P v) w:=h.add (fun _ _ hb q=>q.below hb) q
theorem Bag.box3{w0 w:World}{P:World->Prop}(h:Bag w0 P w)(x y z:Value)(t:TypeId):Bag w0 (fun v=>Slot3 v w.heap.size x y z/\P v) (w.alloc (.cells #[x,y,z] t)) :=
 (h.alloc _).slot3 (Slot3.new w x y z t)
theorem bagN(w:World)(ba:Bool)(sa qa:ByteArray)(bb:Bool)(sb qb:ByteArray):Hid (Bag w (fun y=>Slot3 y (w.heap.size+1+1) (.bool false) (.string ⟨#[]⟩) (.string ⟨#[]⟩) ∧ Slot3 y (w.heap.size+1) (.bool bb) (.string sb) (.string qb) ∧ Slot3 y w.heap.size (.bool ba) (.string sa) (.string qa) ∧ True) (((w.alloc (.cells #[.bool ba,.string sa,.string qa] 46)).alloc (.cells #[.bool bb,.string sb,.string qb] 46)).alloc (.cells #[.bool false,.string ⟨#[]⟩,.string ⟨#[]⟩] 46))):=by
 have BB:=Lib.hid ((((Bag.start w).box3 (.bool ba) (.string sa) (.string qa) 46).box3 (.bool bb) (.string sb) (.string qb) 46).box3 (.bool false) (.string ⟨#[]⟩) (.string ⟨#[]⟩) 46)
 simp only[World.size_alloc]at BB
 exact BB
theorem bq0{w0 y:World}{A U:World → Prop}{k j:Nat}{x1 x2 x3 z1 z2 z3:Value}(h:Hid (Bag w0 (fun y=>A y ∧ Slot3 y j z1 z2 z3 ∧ Slot3 y k x1 x2 x3 ∧ U y) y)):y.cell? ⟨k,0,none⟩=some x1 ∧ y.cell? ⟨k,1,none⟩=some x2 ∧ y.cell? ⟨k,2,none⟩=some x3 ∧ y.cell? ⟨j,0,none⟩=some z1 ∧ y.cell? ⟨j,1,none⟩=some z2 ∧ y.cell? ⟨j,2,none⟩=some z3:=⟨h.out.now.2.2.1.cell,h.out.now.2.2.1.cell1,h.out.now.2.2.1.cell2,h.out.now.2.1.cell,h.out.now.2.1.cell1,h.out.now.2.1.cell2⟩
theorem bq1{w0 y:World}{A B U:World → Prop}{k j:Nat}{x1 x2 x3 z1 z2 z3:Value}(h:Hid (Bag w0 (fun y=>A y ∧ B y ∧ Slot3 y j z1 z2 z3 ∧ Slot3 y k x1 x2 x3 ∧ U y) y)):y.cell? ⟨k,0,none⟩=some x1 ∧ y.cell? ⟨k,1,none⟩=some x2 ∧ y.cell? ⟨k,2,none⟩=some x3 ∧ y.cell? ⟨j,0,none⟩=some z1 ∧ y.cell? ⟨j,1,none⟩=some z2 ∧ y.cell? ⟨j,2,none⟩=some z3:=⟨h.out.now.2.2.2.1.cell,h.out.now.2.2.2.1.cell1,h.out.now.2.2.2.1.cell2,h.out.now.2.2.1.cell,h.out.now.2.2.1.cell1,h.out.now.2.2.1.cell2⟩
def lowN(Q:Nat):Nat:=if Q=1 then 0 else Q
def RatAt(w:World)(a:Option Addr)(n c:Nat)(m:Bool)(a2:Option Addr)(n2 c2:Nat)(P:Int)(Q:Nat):Prop:=IntAt w a n c m P/\NatIs w (.agg #[.slice a2 n2 c2]) (lowN Q)
theorem RatAt.below{w w':World}{a:Option Addr}{n c:Nat}{m:Bool}{a2:Option Addr}{n2 c2:Nat}{P:Int}{Q:Nat}(h:RatAt w a n c m a2 n2 c2 P Q)(hb:Below w.heap.size w w'):RatAt w' a n c m a2 n2 c2 P Q:=⟨h.1.below hb,h.2.below hb⟩
theorem Bag.rat{w0 w:World}{B:World->Prop}{a:Option Addr}{n c:Nat}{m:Bool}{a2:Option Addr}{n2 c2:Nat}{P:Int}{Q:Nat}(h:Bag w0 B w)(q:RatAt w a n c m a2 n2 c2 P Q):Bag w0 (fun y=>RatAt y a n c m a2 n2 c2 P Q/\B y) w:=h.add (fun _ _ hb q=>q.below hb) q
theorem bagR{w:World}{a:Option Addr}{n c:Nat}{m:Bool}{a2:Option Addr}{n2 c2:Nat}{P:Int}{Q:Nat}{b:Option Addr}{k l:Nat}{v:Bool}{b2:Option Addr}{k2 l2:Nat}{P':Int}{Q':Nat}(h:RatAt w a n c m a2 n2 c2 P Q)(g:RatAt w b k l v b2 k2 l2 P' Q'):Hid (Bag w (fun y=>Slot3 y (w.heap.size+1+1) (.slice none 0 0) (.bool false) (.slice none 0 0) ∧ Slot3 y (w.heap.size+1) (.slice b k l) (.bool v) (.slice b2 k2 l2) ∧ Slot3 y w.heap.size (.slice a n c) (.bool m) (.slice a2 n2 c2) ∧ RatAt y b k l v b2 k2 l2 P' Q' ∧ RatAt y a n c m a2 n2 c2 P Q ∧ True) (((w.alloc (.cells #[.slice a n c,.bool m,.slice a2 n2 c2] 53)).alloc (.cells #[.slice b k l,.bool v,.slice b2 k2 l2] 53)).alloc (.cells #[.slice none 0 0,.bool false,.slice none 0 0] 53))):=by
 have BB:=Lib.hid ((((((Bag.start w).rat h).rat g).box3 (.slice a n c) (.bool m) (.slice a2 n2 c2) 53).box3 (.slice b k l) (.bool v) (.slice b2 k2 l2) 53).box3 (.slice none 0 0) (.bool false) (.slice none 0 0) 53)
 simp only[World.size_alloc]at BB
 exact BB
def RatTold(w w':World)(e:Ending)(P:Int)(Q:Nat):Prop:=∃a n c m a2 n2 c2,e=.returned (.agg #[.slice a n c,.bool m,.slice a2 n2 c2])/\RatAt w' a n c m a2 n2 c2 P Q/\Below w.heap.size w w'
def IntTold2(w w':World)(e:Ending)(a:Option Addr)(n c:Nat)(m:Bool)(Z:Int):Prop:=e=.returned (.agg #[.slice a n c,.bool m])/\IntAt w' a n c m Z/\Below w.heap.size w w'
theorem Slot3.set {w : World} {k : Nat} {x y z : Value} (h : Slot3 w k x y z) (u v t : Value) :
    (((w.setCell ⟨k,0,none⟩ u).setCell ⟨k,1,none⟩ v).setCell ⟨k,2,none⟩ t).cell? ⟨k,0,none⟩=some u/\(((w.setCell ⟨k,0,none⟩ u).setCell ⟨k,1,none⟩ v).setCell ⟨k,2,none⟩ t).cell? ⟨k,1,none⟩=some v/\(((w.setCell ⟨k,0,none⟩ u).setCell ⟨k,1,none⟩ v).setCell ⟨k,2,none⟩ t).cell? ⟨k,2,none⟩=some t:=by
 refine⟨?_,?_,?_⟩
 · rw[World.cell?_setCell_other _ _ _ _ (fun e=>by cases e),World.cell?_setCell_other _ _ _ _ (fun e=>by cases e)];exact World.cell?_setCell_same _ _ _ h.cell
 · rw[World.cell?_setCell_other _ _ _ _ (fun e=>by cases e)];refine World.cell?_setCell_same (u:=y) _ _ _ ?_;rw[World.cell?_setCell_other _ _ _ _ (fun e=>by cases e)];exact h.cell1
 · refine World.cell?_setCell_same (u:=z) _ _ _ ?_;rw[World.cell?_setCell_other _ _ _ _ (fun e=>by cases e),World.cell?_setCell_other _ _ _ _ (fun e=>by cases e)];exact h.cell2
theorem NatIs.set3 {w : World} {k : Nat} {x y z : Value} {v : Value} {N : Nat} (q : NatIs w v N) (h : Slot3 w k x y z) (hx : ∀ ki i, x ≠ .int ki i) (hy : ∀ ki i, y ≠ .int ki i) (hz : ∀ ki i, z ≠ .int ki i) (u v' t : Value) :
    NatIs (((w.setCell ⟨k,0,none⟩ u).setCell ⟨k,1,none⟩ v').setCell ⟨k,2,none⟩ t) v N:=by
 refine((q.storeAt h.cell hx _).storeAt (x:=y) ?_ hy _).storeAt (x:=z) ?_ hz _
 · rw[World.cell?_setCell_other _ _ _ _ (fun e=>by cases e)];exact h.cell1
 · rw[World.cell?_setCell_other _ _ _ _ (fun e=>by cases e),World.cell?_setCell_other _ _ _ _ (fun e=>by cases e)];exact h.cell2
theorem Slot3.set2{w:World}{k:Nat}{x y z:Value}(h:Slot3 w k x y z)(u v:Value):Slot3 ((w.setCell ⟨k,0,none⟩ u).setCell ⟨k,1,none⟩ v) k u v z:=by
 refine⟨?_,?_,?_,by simp[h.free],by simp[h.free1],by simp[h.free2],by simpa using h.lt⟩
 · rw[World.cell?_setCell_other _ _ _ _ (fun e=>by cases e)];exact World.cell?_setCell_same _ _ _ h.cell
 · refine World.cell?_setCell_same (u:=y) _ _ _ ?_;rw[World.cell?_setCell_other _ _ _ _ (fun e=>by cases e)];exact h.cell1
 · rw[World.cell?_setCell_other _ _ _ _ (fun e=>by cases e),World.cell?_setCell_other _ _ _ _ (fun e=>by cases e)];exact h.cell2
theorem Slot3.set2o{w:World}{k j:Nat}{x y z:Value}(h:Slot3 w j x y z)(e:j≠k)(u v:Value):Slot3 ((w.setCell ⟨k,0,none⟩ u).setCell ⟨k,1,none⟩ v) j x y z:=by
 have hn:∀o o':Nat,(⟨k,o',none⟩:Addr)≠⟨j,o,none⟩:=fun o o' h=>e (by cases h;rfl)
 refine⟨?_,?_,?_,by simp[h.free],by simp[h.free1],by simp[h.free2],by simpa using h.lt⟩
 · rw[World.cell?_setCell_other _ _ _ _ (hn _ _),World.cell?_setCell_other _ _ _ _ (hn _ _)];exact h.cell
 · rw[World.cell?_setCell_other _ _ _ _ (hn _ _),World.cell?_setCell_other _ _ _ _ (hn _ _)];exact h.cell1
 · rw[World.cell?_setCell_other _ _ _ _ (hn _ _),World.cell?_setCell_other _ _ _ _ (hn _ _)];exact h.cell2
theorem NatIs.set2 {w : World} {k : Nat} {x y z : Value} {v : Value} {N : Nat} (q : NatIs w v N) (h : Slot3 w k x y z) (hx : ∀ ki i, x ≠ .int ki i) (hy : ∀ ki i, y ≠ .int ki i) (u v' : Value) :
    NatIs ((w.setCell ⟨k,0,none⟩ u).setCell ⟨k,1,none⟩ v') v N:=by
 refine(q.storeAt h.cell hx _).storeAt (x:=y) ?_ hy _;rw[World.cell?_setCell_other _ _ _ _ (fun e=>by cases e)];exact h.cell1
theorem RatTold.done {w w2 : World} {k : Nat} {a0 : Option Addr} {n0 c0 : Nat} {m0 : Bool} {a1 : Option Addr} {n1 c1 : Nat} {a : Option Addr} {n c : Nat} {m : Bool} {a2 : Option Addr} {n2 c2 : Nat} {P : Int} {Q : Nat} (hb : Below w.heap.size w w2) (hk : w.heap.size <= k)
    (hs:Slot3 w2 k (.slice a0 n0 c0) (.bool m0) (.slice a1 n1 c1)) (h:RatAt w2 a n c m a2 n2 c2 P Q) :
    RatTold w (((w2.setCell ⟨k,0,none⟩ (.slice a n c)).setCell ⟨k,1,none⟩ (.bool m)).setCell ⟨k,2,none⟩ (.slice a2 n2 c2)) (.returned (.agg #[.slice a n c,.bool m,.slice a2 n2 c2])) P Q :=
 ⟨a,n,c,m,a2,n2,c2,rfl,⟨⟨h.1.1,h.1.2.set3 hs (fun _ _ h=>by cases h) (fun _ _ h=>by cases h) (fun _ _ h=>by cases h) _ _ _⟩,h.2.set3 hs (fun _ _ h=>by cases h) (fun _ _ h=>by cases h) (fun _ _ h=>by cases h) _ _ _⟩,
   ((hb.setCell hk _).setCell hk _).setCell hk _⟩
theorem NatTold.done {w w2 : World} {k : Nat} {a0 : Option Addr} {n0 c0 : Nat} {a : Option Addr} {n c N : Nat} (hb : Below w.heap.size w w2) (hk : w.heap.size <= k) (hs : Slot w2 k (.slice a0 n0 c0)) (h : NatIs w2 (.agg #[.slice a n c]) N) :
    NatTold w (w2.setCell ⟨k,0,none⟩ (.slice a n c)) (.returned (.agg #[.slice a n c])) N :=
 ⟨a,n,c,rfl,h.storeAt hs.cell (fun _ _ h=>by cases h) _,hb.setCell hk _⟩
theorem lowN_zero{Q:Nat}(h:0<Q):decide (lowN Q=0)=decide (Q=1):=by
 unfold lowN
 by_cases h1:Q=1
 · rw[if_pos h1,decide_eq_true rfl,decide_eq_true h1]
 · rw[if_neg h1,decide_eq_false (by omega),decide_eq_false h1]
theorem whole_any (a : Option Addr) (n c : Nat) (m : Bool) (Z : Int) (w : World) (h : IntAt w a n c m Z) :
    Calls Tryz.prog 117 #[.agg #[.slice a n c,.bool m]] w fun e w'=>RatTold w w' e Z 1:=by
 have B0:=(((Bag.start w).int h).box2 (.slice a n c) (.bool m) 51).box3 (.slice a n c) (.bool m) (.slice none 0 0) 53
 have HE:Hid (RatTold w ((w.alloc (.cells #[.slice a n c,.bool m] 51)).alloc (.cells #[.slice a n c,.bool m,.slice none 0 0] 53)) (.returned (.agg #[.slice a n c,.bool m,.slice none 0 0])) Z 1) :=
  ⟨a,n,c,m,none,0,0,rfl,⟨B0.now.2.2.1,NatIs.zero _⟩,B0.below⟩
 clear h B0;go_enter Tryz.func117,Tryz.ntmps117;go_wp2;exact bodyPost_ret (v:=.agg #[.slice a n c,.bool m,.slice none 0 0]) (by simp[results,Tryz.results117,go_sem]) rfl HE.out
theorem top_any (a : Option Addr) (n c : Nat) (m : Bool) (a2 : Option Addr) (n2 c2 : Nat) (P : Int) (Q : Nat) (w : World) (h : RatAt w a n c m a2 n2 c2 P Q) :
    Calls Tryz.prog 224 #[.agg #[.slice a n c,.bool m,.slice a2 n2 c2]] w fun e w'=>IntTold2 w w' e a n c m P:=by
 have B0:=(((Bag.start w).int h.1).box3 (.slice a n c) (.bool m) (.slice a2 n2 c2) 53).box2 (.slice a n c) (.bool m) 51
 have HE:Hid (IntTold2 w ((w.alloc (.cells #[.slice a n c,.bool m,.slice a2 n2 c2] 53)).alloc (.cells #[.slice a n c,.bool m] 51)) (.returned (.agg #[.slice a n c,.bool m])) a n c m P) :=
  ⟨rfl,B0.now.2.2.1,B0.below⟩
 clear h B0;go_enter Tryz.func224,Tryz.ntmps224;go_wp2;exact bodyPost_ret (v:=.agg #[.slice a n c,.bool m]) (by simp[results,Tryz.results224,go_sem]) rfl HE.out
theorem isWhole_any (a : Option Addr) (n c : Nat) (m : Bool) (a2 : Option Addr) (n2 c2 : Nat) (P : Int) (Q : Nat) (w : World) (h : RatAt w a n c m a2 n2 c2 P Q) (hQ : 0 < Q) :
    Calls Tryz.prog 120 #[.agg #[.slice a n c,.bool m,.slice a2 n2 c2]] w fun e w'=>e=.returned (.bool (decide (Q=1)))/\Below w.heap.size w w':=by
 have BB:=Lib.hid (((Bag.start w).nat h.2).box3 (.slice a n c) (.bool m) (.slice a2 n2 c2) 53);have HZ:=Lib.hid (fun wz hz=>zero_any (.agg #[.slice a2 n2 c2]) (lowN Q) wz hz);rw[lowN_zero hQ]at HZ;clear h hQ;generalize decide (Q=1)=q at *;go_enter Tryz.func120,Tryz.ntmps120
 go_wp2_with (go_at_call 114;refine(HZ.out _ BB.out.now.2.1).mono ?_;rintro e w2 ⟨rfl,hb2⟩;have HB:=Lib.hid (BB.out.go hb2).below;clear hb2)
 go_ret;exact⟨rfl,HB.out⟩
theorem ratSign_any (a : Option Addr) (n c : Nat) (m : Bool) (a2 : Option Addr) (n2 c2 : Nat) (P : Int) (Q : Nat) (w : World) (h : RatAt w a n c m a2 n2 c2 P Q) :
    Calls Tryz.prog 72 #[.agg #[.slice a n c,.bool m,.slice a2 n2 c2]] w fun e w'=>e=.returned (.int .i64 (sgnI P))/\Below w.heap.size w w':=by
 have BB:=Lib.hid (((Bag.start w).int h.1).box3 (.slice a n c) (.bool m) (.slice a2 n2 c2) 53);have HS:=Lib.hid (fun wz hz=>sign_any a n c m P wz hz);clear h;generalize sgnI P=s at *;go_enter Tryz.func72,Tryz.ntmps72
 go_wp2_with (go_at_call 140;refine(HS.out _ BB.out.now.2.1).mono ?_;rintro e w2 ⟨rfl,hb2⟩;have HB:=Lib.hid (BB.out.go hb2).below;clear hb2)
 go_ret;exact⟨rfl,HB.out⟩
theorem bot_any (a : Option Addr) (n c : Nat) (m : Bool) (a2 : Option Addr) (n2 c2 : Nat) (P : Int) (Q : Nat) (w : World) (h : RatAt w a n c m a2 n2 c2 P Q) (hQ : 0 < Q) :
    Calls Tryz.prog 74 #[.agg #[.slice a n c,.bool m,.slice a2 n2 c2]] w fun e w'=>NatTold w w' e Q:=by
 have B0:=(((Bag.start w).rat h).box3 (.slice a n c) (.bool m) (.slice a2 n2 c2) 53).box (.slice none 0 0) 49;rw[World.size_alloc]at B0;have IW:=Lib.hid (fun wz hz=>isWhole_any a n c m a2 n2 c2 P Q wz hz hQ);have BB:=Lib.hid B0
 by_cases h1:Q=1
 · subst h1;have OF:=Lib.hid (fun wz=>of_told 1 wz (by omega));rw[decide_eq_true rfl]at IW;clear h hQ B0;go_enter Tryz.func74,Tryz.ntmps74;go_wp2_with fail;go_at_call 120;refine(IW.out _ BB.out.now.2.2.1).mono ?_;rintro e w2 ⟨rfl,hb2⟩;have BB:=bgo BB hb2;clear hb2;go_wp2_with fail;go_at_call 146;refine(OF.out _).mono ?_;rintro e w3 ⟨a3,n3,c3,rfl,hv,hb3⟩;have BB:=bgo BB hb3;have hs:=BB.out.now.1;have hc:=hs.cell;have hf:=hs.free;have HS:=World.cell?_setCell_same w3 ⟨w.heap.size+1,0,none⟩ (.slice a3 n3 c3) hc;have HE:=Lib.hid (NatTold.done BB.out.below (by omega) hs hv);clear hb3 hs;go_wp2;exact bodyPost_ret (by simp[results,Tryz.results74,go_sem,HS]) rfl HE.out
 · rw[decide_eq_false h1]at IW;have hl:lowN Q=Q:=if_neg h1;have hx:=h.2;rw[hl]at hx;have q0:=B0.now.2.1.cell2;clear h hQ B0;go_enter Tryz.func74,Tryz.ntmps74;go_wp2_with fail;go_at_call 120;refine(IW.out _ BB.out.now.2.2.1).mono ?_;rintro e w2 ⟨rfl,hb2⟩;have BB:=bgo BB hb2;clear hb2;have q0:=BB.out.now.2.1.cell2;have hs:=BB.out.now.1;have hc:=hs.cell;have hf:=hs.free;have HS:=World.cell?_setCell_same w2 ⟨w.heap.size+1,0,none⟩ (.slice a2 n2 c2) hc;have HE:=Lib.hid (NatTold.done BB.out.below (by omega) hs (hl▸BB.out.now.2.2.1.2));clear hs;go_wp2;exact bodyPost_ret (by simp[results,Tryz.results74,go_sem,HS]) rfl HE.out
theorem below_any (a : Option Addr) (n c : Nat) (m : Bool) (a2 : Option Addr) (n2 c2 : Nat) (P : Int) (Q : Nat) (w : World) (h : RatAt w a n c m a2 n2 c2 P Q) (hQ : 0 < Q) :
    Calls Tryz.prog 123 #[.agg #[.slice a n c,.bool m,.slice a2 n2 c2]] w fun e w'=>IntTold w w' e (Q:Int):=by
 have B0:=(((Bag.start w).rat h).box3 (.slice a n c) (.bool m) (.slice a2 n2 c2) 53).box2 (.slice none 0 0) (.bool false) 51;rw[World.size_alloc]at B0;have BT:=Lib.hid (fun wz hz=>bot_any a n c m a2 n2 c2 P Q wz hz hQ);have OF:=Lib.hid (fun a n c wz (h:NatIs wz (.agg #[.slice a n c]) Q)=>wof_any false a n c Q wz h);rw[show sgn false Q=(Q:Int)from rfl]at OF;have BB:=Lib.hid B0;clear h hQ B0;go_enter Tryz.func123,Tryz.ntmps123;go_wp2_with fail;go_at_call 74;refine(BT.out _ BB.out.now.2.2.1).mono ?_;rintro e w2 ⟨a3,n3,c3,rfl,hv,hb2⟩;have BB:=Lib.hid ((BB.out.go hb2).nat hv);clear hb2 hv;go_wp2_with fail;go_at_call 116;refine(OF.out _ _ _ _ BB.out.now.1).mono ?_;rintro e w3 ⟨a4,n4,c4,m4,rfl,hi,hb3⟩;have BB:=bgo BB hb3;have hs:=BB.out.now.2.1;have hc:=hs.cell;have hc1:=hs.cell1;have hf:=hs.free;have hf1:=hs.free1;have HS:=hs.set (.slice a4 n4 c4) (.bool m4);have HE:=Lib.hid (IntTold.done BB.out.below (by omega) hs (fun _ _ h=>by cases h) hi);clear hb3 hs;go_wp2;exact bodyPost_ret (by simp[results,Tryz.results123,go_sem,HS]) rfl HE.out
theorem ratFrom_any (X : Int) (w : World) (h : -9223372036854775808 <= X /\ X <= 9223372036854775807) :
    Calls Tryz.prog 56 #[.int .i64 X] w fun e w'=>RatTold w w' e X 1:=by
 have BB:=Lib.hid ((Bag.start w).box3 (.slice none 0 0) (.bool false) (.slice none 0 0) 53);have FR:=Lib.hid (fun wz=>from_any X wz h);have WH:=Lib.hid (fun a n c m wz (h:IntAt wz a n c m X)=>whole_any a n c m X wz h);clear h;go_enter Tryz.func56,Tryz.ntmps56;go_wp2_with fail;go_at_call 118;refine(FR.out _).mono ?_;rintro e w2 ⟨a,n,c,m,rfl,hi,hb2⟩;have BB:=Lib.hid ((BB.out.go hb2).int hi);clear hb2 hi;go_wp2_with fail;go_at_call 117;refine(WH.out _ _ _ _ _ BB.out.now.1).mono ?_;rintro e w3 ⟨a3,n3,c3,m3,a4,n4,c4,rfl,hr,hb3⟩;have BB:=bgo BB hb3;have hs:=BB.out.now.2.1;have⟨hc,hc1,hc2,hf,hf1,hf2⟩:=hs.s6;have HS:=hs.set (.slice a3 n3 c3) (.bool m3) (.slice a4 n4 c4);have HE:=Lib.hid (RatTold.done BB.out.below (by omega) hs hr);clear hb3 hs hr;go_wp2;exact bodyPost_ret (by simp[results,Tryz.results56,go_sem,HS]) rfl HE.out
theorem ratMinus_any (a : Option Addr) (n c : Nat) (m : Bool) (a2 : Option Addr) (n2 c2 : Nat) (P : Int) (Q : Nat) (w : World) (h : RatAt w a n c m a2 n2 c2 P Q) :
    Calls Tryz.prog 179 #[.agg #[.slice a n c,.bool m,.slice a2 n2 c2]] w fun e w'=>RatTold w w' e (-P) Q:=by
 have B0:=(((Bag.start w).rat h).box3 (.slice a n c) (.bool m) (.slice a2 n2 c2) 53).box3 (.slice none 0 0) (.bool false) (.slice none 0 0) 53;rw[World.size_alloc]at B0;have MN:=Lib.hid (fun wz (h:IntAt wz a n c m P)=>minus_any a n c m P wz h);have BB:=Lib.hid B0;clear h B0;go_enter Tryz.func179,Tryz.ntmps179;go_wp2_with fail;go_at_call 222;refine(MN.out _ BB.out.now.2.2.1.1).mono ?_;rintro e w3 ⟨a3,n3,c3,m3,rfl,hi,hb3⟩;have BB:=bgo BB hb3;have hs0:=BB.out.now.2.1;have hs:=BB.out.now.1;have hc:=hs0.cell;have hc1:=hs0.cell1;have hf:=hs0.free;have hf1:=hs0.free1;have hs3:=hs0.set2 (.slice a3 n3 c3) (.bool m3);have hs4:=hs.set2o (k:=w.heap.size) (by omega) (.slice a3 n3 c3) (.bool m3);have⟨q0,q1,q2⟩:=hs3.c3;have⟨r0,r1,r2,g0,g1,g2⟩:=hs4.s6
 have hx:RatAt ((w3.setCell ⟨w.heap.size,0,none⟩ (.slice a3 n3 c3)).setCell ⟨w.heap.size,1,none⟩ (.bool m3)) a3 n3 c3 m3 a2 n2 c2 (-P) Q :=
  ⟨⟨hi.1,hi.2.set2 hs0 (fun _ _ h=>by cases h) (fun _ _ h=>by cases h) _ _⟩,BB.out.now.2.2.1.2.set2 hs0 (fun _ _ h=>by cases h) (fun _ _ h=>by cases h) _ _⟩
 have HS:=hs4.set (.slice a3 n3 c3) (.bool m3) (.slice a2 n2 c2);have HE:=Lib.hid (RatTold.done ((BB.out.below.setCell (Nat.le_refl _) _).setCell (Nat.le_refl _) _) (by omega) hs4 hx);clear hb3 hs hs0 hs3 hs4 hx hi;go_wp2;exact bodyPost_ret (by simp[results,Tryz.results179,go_sem,HS]) rfl HE.out
theorem Slot3.set1{w:World}{k:Nat}{x y z:Value}(h:Slot3 w k x y z)(t:Value):Slot3 (w.setCell ⟨k,2,none⟩ t) k x y t:=by
 refine⟨?_,?_,World.cell?_setCell_same _ _ _ h.cell2,by simp[h.free],by simp[h.free1],by simp[h.free2],by simpa using h.lt⟩
 · rw[World.cell?_setCell_other _ _ _ _ (fun e=>by cases e)];exact h.cell
 · rw[World.cell?_setCell_other _ _ _ _ (fun e=>by cases e)];exact h.cell1
theorem Slot3.set1o{w:World}{k j o:Nat}{x y z:Value}(h:Slot3 w j x y z)(e:j≠k)(t:Value):Slot3 (w.setCell ⟨k,o,none⟩ t) j x y z:=by
 have hn:∀o':Nat,(⟨k,o,none⟩:Addr)≠⟨j,o',none⟩:=fun o' h=>e (by cases h;rfl)
 refine⟨?_,?_,?_,by simp[h.free],by simp[h.free1],by simp[h.free2],by simpa using h.lt⟩
 · rw[World.cell?_setCell_other _ _ _ _ (hn _)];exact h.cell
 · rw[World.cell?_setCell_other _ _ _ _ (hn _)];exact h.cell1
 · rw[World.cell?_setCell_other _ _ _ _ (hn _)];exact h.cell2
theorem fraction_any (b : Bool) (a : Option Addr) (n c N : Nat) (a2 : Option Addr) (n2 c2 M : Nat) (w : World) (h : NatIs w (.agg #[.slice a n c]) N) (g : NatIs w (.agg #[.slice a2 n2 c2]) M) (hM : 0 < M) :
    Calls Tryz.prog 172 #[.bool b,.agg #[.slice a n c],.agg #[.slice a2 n2 c2]] w fun e w'=>RatTold w w' e (sgn b N) M:=by
 have OF:=Lib.hid (fun wz (h:NatIs wz (.agg #[.slice a n c]) N)=>wof_any b a n c N wz h);have WH:=Lib.hid (fun a n c m wz (h:IntAt wz a n c m (sgn b N))=>whole_any a n c m (sgn b N) wz h);have ON:=Lib.hid (fun wz (h:NatIs wz (.agg #[.slice a2 n2 c2]) M)=>one_any _ M wz h);have B0:=(((((Bag.start w).nat h).nat g).box (.slice a n c) 49).box (.slice a2 n2 c2) 49).box3 (.slice none 0 0) (.bool false) (.slice none 0 0) 53;simp only[World.size_alloc]at B0;have BB:=Lib.hid B0;generalize sgn b N=P at *;clear h g B0
 by_cases hm:M=1
 · rw[decide_eq_true hm]at ON;go_enter Tryz.func172,Tryz.ntmps172;go_wp2_with fail;go_at_call 116;refine(OF.out _ BB.out.now.2.2.2.2.1).mono ?_;rintro e w2 ⟨a3,n3,c3,m3,rfl,hi,hb2⟩;have BB:=Lib.hid ((BB.out.go hb2).int hi);clear hb2 hi;go_wp2_with fail;go_at_call 117;refine(WH.out _ _ _ _ _ BB.out.now.1).mono ?_;rintro e w3 ⟨a4,n4,c4,m4,a5,n5,c5,rfl,hr,hb3⟩;have BB:=Lib.hid (((BB.out.go hb3).rat hr).box3 (.slice a4 n4 c4) (.bool m4) (.slice a5 n5 c5) 53);clear hb3 hr;have q0:=BB.out.now.2.2.2.2.1.cell;go_wp2_with fail;go_at_call 168;refine(ON.out _ BB.out.now.2.2.2.2.2.2.1).mono ?_;rintro e w4 ⟨rfl,hb4⟩;have BB:=bgo BB hb4;clear hb4 q0;have hs0:=BB.out.now.1;have⟨q0,q1,q2⟩:=hs0.c3;have hs:=BB.out.now.2.2.2.1;have⟨r0,r1,r2,g0,g1,g2⟩:=hs.s6;have HS:=hs.set (.slice a4 n4 c4) (.bool m4) (.slice a5 n5 c5);have HE:=Lib.hid (RatTold.done BB.out.below (by omega) hs BB.out.now.2.1);clear hs hs0;subst hm;go_wp2;exact bodyPost_ret (by simp[results,Tryz.results172,go_sem,HS]) rfl HE.out
 · rw[decide_eq_false hm]at ON;go_enter Tryz.func172,Tryz.ntmps172;go_wp2_with fail;go_at_call 116;refine(OF.out _ BB.out.now.2.2.2.2.1).mono ?_;rintro e w2 ⟨a3,n3,c3,m3,rfl,hi,hb2⟩;have BB:=Lib.hid ((BB.out.go hb2).int hi);clear hb2 hi;go_wp2_with fail;go_at_call 117;refine(WH.out _ _ _ _ _ BB.out.now.1).mono ?_;rintro e w3 ⟨a4,n4,c4,m4,a5,n5,c5,rfl,hr,hb3⟩;have hk:w.heap.size+1+1<w3.heap.size:=(BB.out.go hb3).now.2.1.lt;have BB:=Lib.hid (((BB.out.go hb3).rat hr).box3 (.slice a4 n4 c4) (.bool m4) (.slice a5 n5 c5) 53);clear hb3 hr;have q0:=BB.out.now.2.2.2.2.1.cell;go_wp2_with fail;go_at_call 168;refine(ON.out _ BB.out.now.2.2.2.2.2.2.1).mono ?_;rintro e w4 ⟨rfl,hb4⟩;have BB:=bgo BB hb4;clear hb4 q0;have hs0:=BB.out.now.1;have q3:=BB.out.now.2.2.2.2.1.cell;have p2:=hs0.cell2;have pf:=hs0.free2;have hs1:=hs0.set1 (.slice a2 n2 c2);have⟨q0,q1,q2⟩:=hs1.c3;have hs:=BB.out.now.2.2.2.1.set1o (o:=2) (k:=w3.heap.size) (by omega) (.slice a2 n2 c2);have⟨r0,r1,r2,g0,g1,g2⟩:=hs.s6;have HS:=hs.set (.slice a4 n4 c4) (.bool m4) (.slice a2 n2 c2)
   have hx:RatAt (w4.setCell ⟨w3.heap.size,2,none⟩ (.slice a2 n2 c2)) a4 n4 c4 m4 a2 n2 c2 P M:=by
    have h1:=BB.out.now.2.1.1;have h2:=BB.out.now.2.2.2.2.2.2.1;refine⟨⟨h1.1,h1.2.storeAt hs0.cell2 (fun _ _ h=>by cases h) _⟩,?_⟩;rw[show lowN M=M from if_neg hm];exact h2.storeAt hs0.cell2 (fun _ _ h=>by cases h) _
   have HE:=Lib.hid (RatTold.done (BB.out.below.setCell (p:=⟨w3.heap.size,2,none⟩) (show w.heap.size<=w3.heap.size by omega) _) (by omega) hs hx);clear hs hs0 hs1 hx;go_wp2;exact bodyPost_ret (by simp[results,Tryz.results172,go_sem,HS]) rfl HE.out
theorem Slot.set0{w:World}{k:Nat}{x:Value}(h:Slot w k x)(t:Value):Slot (w.setCell ⟨k,0,none⟩ t) k t :=
 ⟨World.cell?_setCell_same _ _ _ h.cell,by simp[h.free],by simpa using h.lt⟩
theorem Slot.seto{w:World}{k j:Nat}{x:Value}(h:Slot w j x)(e:j≠k)(t:Value):Slot (w.setCell ⟨k,0,none⟩ t) j x:=by
 refine⟨?_,by simp[h.free],by simpa using h.lt⟩;rw[World.cell?_setCell_other _ _ _ _ (fun e'=>by cases e';exact e rfl)];exact h.cell
theorem Slot2.seto{w:World}{k j:Nat}{x y:Value}(h:Slot2 w j x y)(e:j≠k)(t:Value):Slot2 (w.setCell ⟨k,0,none⟩ t) j x y:=by
 refine⟨?_,?_,by simp[h.free],by simp[h.free1],by simpa using h.lt⟩
 · rw[World.cell?_setCell_other _ _ _ _ (fun e'=>by cases e';exact e rfl)];exact h.cell
 · rw[World.cell?_setCell_other _ _ _ _ (fun e'=>by cases e')];exact h.cell1
theorem Slot.set3o{w:World}{k j:Nat}{x:Value}(h:Slot w j x)(e:j≠k)(u v t:Value):Slot (((w.setCell ⟨k,0,none⟩ u).setCell ⟨k,1,none⟩ v).setCell ⟨k,2,none⟩ t) j x:=by
 have hn:∀o:Nat,(⟨k,o,none⟩:Addr)≠⟨j,0,none⟩:=fun o h=>e (by cases h;rfl)
 refine⟨?_,by simp[h.free],by simpa using h.lt⟩;rw[World.cell?_setCell_other _ _ _ _ (hn _),World.cell?_setCell_other _ _ _ _ (hn _),World.cell?_setCell_other _ _ _ _ (hn _)];exact h.cell
theorem Slot2.set3o{w:World}{k j:Nat}{x y:Value}(h:Slot2 w j x y)(e:j≠k)(u v t:Value):Slot2 (((w.setCell ⟨k,0,none⟩ u).setCell ⟨k,1,none⟩ v).setCell ⟨k,2,none⟩ t) j x y:=by
 have hn:∀o o':Nat,(⟨k,o,none⟩:Addr)≠⟨j,o',none⟩:=fun o o' h=>e (by cases h;rfl)
 refine⟨?_,?_,by simp[h.free],by simp[h.free1],by simpa using h.lt⟩
 · rw[World.cell?_setCell_other _ _ _ _ (hn _ _),World.cell?_setCell_other _ _ _ _ (hn _ _),World.cell?_setCell_other _ _ _ _ (hn _ _)];exact h.cell
 · rw[World.cell?_setCell_other _ _ _ _ (hn _ _),World.cell?_setCell_other _ _ _ _ (hn _ _),World.cell?_setCell_other _ _ _ _ (hn _ _)];exact h.cell1
theorem Slot3.set3o{w:World}{k j:Nat}{x y z:Value}(h:Slot3 w j x y z)(e:j≠k)(u v t:Value):Slot3 (((w.setCell ⟨k,0,none⟩ u).setCell ⟨k,1,none⟩ v).setCell ⟨k,2,none⟩ t) j x y z :=
 (h.set2o e u v).set1o e t
theorem divMod3_any (a : Option Addr) (n c : Nat) (a2 : Option Addr) (n2 c2 : Nat) (N M : Nat) (w : World) (h : NatIs w (.agg #[.slice a n c]) N) (g : NatIs w (.agg #[.slice a2 n2 c2]) M) (k : Nat) (hk : k <= 900000) (hN : N < 4294967296 ^ k) (hM : 0 < M) :
    Calls Tryz.prog 171 #[.agg #[.slice a n c],.agg #[.slice a2 n2 c2]] w fun e w'=>DivOf3 w w' e (N / M) (modz N M) true:=by
 refine(divMod_any _ _ N M w h g k hk hN).mono ?_;rintro e w' ⟨v,u,rfl,hv,hu,hb⟩;obtain⟨a,n,c,f,rfl,hs,hv,ht⟩:=hv;obtain⟨a2,n2,c2,f2,rfl,hs2,hv2,ht2⟩:=hu;exact⟨a,n,c,a2,n2,c2,by rw[decide_eq_true (by omega)],⟨a,n,c,f,rfl,hs,hv,ht⟩,⟨a2,n2,c2,f2,rfl,hs2,hv2,ht2⟩,hb⟩
theorem lowest_any (a : Option Addr) (n c : Nat) (m : Bool) (P : Int) (a2 : Option Addr) (n2 c2 Q : Nat) (w : World) (h : IntAt w a n c m P) (g : NatIs w (.agg #[.slice a2 n2 c2]) Q) (hQ : 0 < Q)
    (K:Nat) (hK:K<=900000) (hPK:P.natAbs<4294967296^K) (hQK:Q<4294967296^K) :
    Calls Tryz.prog 115 #[.agg #[.slice a n c,.bool m],.agg #[.slice a2 n2 c2]] w fun e w'=>RatTold w w' e (loP P Q) (loQ P Q):=by
 have ON:=Lib.hid (fun wz (h:NatIs wz (.agg #[.slice a2 n2 c2]) Q)=>one_any _ Q wz h);have B0:=(((((Bag.start w).int h).nat g).box2 (.slice a n c) (.bool m) 51).box (.slice a2 n2 c2) 49).box3 (.slice none 0 0) (.bool false) (.slice none 0 0) 53;simp only[World.size_alloc]at B0;have BB:=Lib.hid B0
 by_cases hq:Q=1
 · subst hq;have hlo:loP P 1=P/\loQ P 1=1:=lo_one (Nat.gcd_one_right _);rw[hlo.1,hlo.2];rw[decide_eq_true rfl]at ON;have WH:=Lib.hid (fun wz (h:IntAt wz a n c m P)=>whole_any a n c m P wz h);clear h g B0 hlo hPK hQK;go_enter Tryz.func115,Tryz.ntmps115;have q0:=BB.out.now.2.1.cell;have q1:=BB.out.now.2.2.1.cell;have q2:=BB.out.now.2.2.1.cell1;go_wp2_with fail;go_at_call 168;refine(ON.out _ BB.out.now.2.2.2.1).mono ?_;rintro e w2 ⟨rfl,hb2⟩;have BB:=bgo BB hb2;clear hb2 q0 q1 q2;have q0:=BB.out.now.2.1.cell;have q1:=BB.out.now.2.2.1.cell;have q2:=BB.out.now.2.2.1.cell1;go_wp2_with fail;go_at_call 117;refine(WH.out _ BB.out.now.2.2.2.2.1).mono ?_;rintro e w3 ⟨a3,n3,c3,m3,a4,n4,c4,rfl,hr,hb3⟩;have BB:=bgo BB hb3;have hs:=BB.out.now.1;have⟨r0,r1,r2,g0,g1,g2⟩:=hs.s6;have HS:=hs.set (.slice a3 n3 c3) (.bool m3) (.slice a4 n4 c4);have HE:=Lib.hid (RatTold.done BB.out.below (by omega) hs hr);clear hb3 hs hr;go_wp2;exact bodyPost_ret (by simp[results,Tryz.results115,go_sem,HS]) rfl HE.out
 · rw [decide_eq_false hq] at ON; have SZ := Lib.hid (fun wz (h : IntAt wz a n c m P) => size_any a n c m P wz h); have NG := Lib.hid (fun wz (h : IntAt wz a n c m P) => neg_any a n c m P wz h); have GC : Hid (∀ wz, NatIs wz (.agg #[.slice a n c]) P.natAbs -> NatIs wz (.agg #[.slice a2 n2 c2]) Q -> Calls Tryz.prog 170 #[.agg #[.slice a n c], .agg #[.slice a2 n2 c2]] wz fun e w' => NatOf3 wz w' e (Nat.gcd P.natAbs Q)) := fun wz h g => gcd_any a n c a2 n2 c2 P.natAbs Q wz h g K hK hPK hQK
   have ON2:=Lib.hid (fun a n c wz (h:NatIs wz (.agg #[.slice a n c]) (Nat.gcd P.natAbs Q))=>one_any _ (Nat.gcd P.natAbs Q) wz h);unfold NatTold2 at SZ
   by_cases hg:Nat.gcd P.natAbs Q=1
   · have hlo : loP P Q = P /\ loQ P Q = Q := lo_one hg; rw [hlo.1, hlo.2]; rw [hg] at ON2 GC; rw [decide_eq_true rfl] at ON2; have FR := Lib.hid (fun wz (h : NatIs wz (.agg #[.slice a n c]) P.natAbs) (g : NatIs wz (.agg #[.slice a2 n2 c2]) Q) => fraction_any m a n c P.natAbs a2 n2 c2 Q wz h g hQ); rw [h.1, sgn_self, ← h.1] at FR; clear h g B0 hlo hPK hQK hQ hg; go_enter Tryz.func115, Tryz.ntmps115; have q0 := BB.out.now.2.1.cell; have q1 := BB.out.now.2.2.1.cell; have q2 := BB.out.now.2.2.1.cell1
     go_wp2_with (first
      | (go_at_call 168;(with_reducible refine(ON.out _ BB.out.now.2.2.2.1).mono ?_);rintro e w2 ⟨rfl,hb2⟩;have BB:=Lib.hid (BB.out.go hb2);clear hb2;have q0:=BB.out.now.2.1.cell;have q1:=BB.out.now.2.2.1.cell;have q2:=BB.out.now.2.2.1.cell1)
      | (go_at_call 169;(with_reducible refine(SZ.out _ BB.out.now.2.2.2.2.1).mono ?_);rintro e w3 ⟨rfl,hn3,hb3⟩;have hk3:w.heap.size+1+1<w3.heap.size:=(BB.out.go hb3).now.1.lt;have BB:=Lib.hid (((BB.out.go hb3).nat hn3).box (.slice a n c) 49);clear hb3 hn3;have q0:=BB.out.now.2.2.2.1.cell;have q1:=BB.out.now.2.2.2.2.1.cell;have q2:=BB.out.now.2.2.2.2.1.cell1;have q3:=BB.out.now.1.cell)
      | (go_at_call 170;(with_reducible refine(GC.out _ BB.out.now.2.1 BB.out.now.2.2.2.2.2.1).mono ?_);rintro e w4 ⟨a5,n5,c5,rfl,hn5,hb4⟩;have hk4:w3.heap.size<w4.heap.size:=(BB.out.go hb4).now.1.lt;have BB:=Lib.hid (((BB.out.go hb4).nat hn5).box (.slice a5 n5 c5) 49);clear hb4 hn5;have q0:=BB.out.now.2.2.2.2.2.1.cell;have q1:=BB.out.now.2.2.2.2.2.2.1.cell;have q2:=BB.out.now.2.2.2.2.2.2.1.cell1;have q3:=BB.out.now.2.2.1.cell;have q4:=BB.out.now.1.cell)
      | (go_at_call 168;(with_reducible refine(ON2.out a5 n5 c5 _ BB.out.now.2.1).mono ?_);rintro e w5 ⟨rfl,hb5⟩;have BB:=Lib.hid (BB.out.go hb5);clear hb5;have q0:=BB.out.now.2.2.2.2.2.1.cell;have q1:=BB.out.now.2.2.2.2.2.2.1.cell;have q2:=BB.out.now.2.2.2.2.2.2.1.cell1;have q3:=BB.out.now.2.2.1.cell;have q4:=BB.out.now.1.cell))
     have BB:=Lib.hid BB.out.drew;have he:w.heap.size≠w.heap.size+1+1/\w.heap.size+1≠w.heap.size+1+1/\w3.heap.size≠w.heap.size+1+1:=by omega
     go_region_held3 (fun y => y.cell? ⟨w.heap.size, 0, none⟩ = some (.slice a n c) /\ y.cell? ⟨w.heap.size, 1, none⟩ = some (.bool m) /\ y.cell? ⟨w.heap.size + 1, 0, none⟩ = some (.slice a2 n2 c2) /\ y.cell? ⟨w3.heap.size, 0, none⟩ = some (.slice a n c))
      (first
        | (exact⟨BB.out.now.2.2.2.2.2.2.1.cell,BB.out.now.2.2.2.2.2.2.1.cell1,BB.out.now.2.2.2.2.2.1.cell,BB.out.now.2.2.1.cell⟩)
        | (exact⟨z0.cell,z0.cell1,z1.cell,z2.cell⟩))
      (first
        | (go_at_call 173;(with_reducible refine(NG.out _ BB.out.now.2.2.2.2.2.2.2.2.1).mono ?_);rintro e w6 ⟨rfl,hb6⟩;have BB:=Lib.hid (BB.out.go hb6);clear hb6)
        | (go_at_call 172;(with_reducible refine(FR.out _ BB.out.now.2.2.2.1 BB.out.now.2.2.2.2.2.2.2.1).mono ?_);rintro e w7 ⟨a6,n6,c6,m6,a7,n7,c7,rfl,hr,hb7⟩;have BB:=Lib.hid (BB.out.go hb7);have hs:=BB.out.now.2.2.2.2.1;have r0:=hs.cell;have r1:=hs.cell1;have r2:=hs.cell2;have g0:=hs.free;have g1:=hs.free1;have g2:=hs.free2;have HS:=hs.set (.slice a6 n6 c6) (.bool m6) (.slice a7 n7 c7);have z0:=BB.out.now.2.2.2.2.2.2.1.set3o he.1 (.slice a6 n6 c6) (.bool m6) (.slice a7 n7 c7);have z1:=BB.out.now.2.2.2.2.2.1.set3o he.2.1 (.slice a6 n6 c6) (.bool m6) (.slice a7 n7 c7);have z2:=BB.out.now.2.2.1.set3o he.2.2 (.slice a6 n6 c6) (.bool m6) (.slice a7 n7 c7);have HE:=Lib.hid (RatTold.done BB.out.below (by omega) hs hr);clear hb7 hs hr))
     go_wp2;exact bodyPost_ret (by simp[results,Tryz.results115,go_sem,HS]) rfl HE.out
   · have DM := Lib.hid (fun a5 n5 c5 wz (h : NatIs wz (.agg #[.slice a n c]) P.natAbs) (g : NatIs wz (.agg #[.slice a5 n5 c5]) (Nat.gcd P.natAbs Q)) => divMod3_any a n c a5 n5 c5 P.natAbs (Nat.gcd P.natAbs Q) wz h g K hK hPK (rg_pos P hQ)); have DQ := Lib.hid (fun a5 n5 c5 wz (h : NatIs wz (.agg #[.slice a2 n2 c2]) Q) (g : NatIs wz (.agg #[.slice a5 n5 c5]) (Nat.gcd P.natAbs Q)) => divMod3_any a2 n2 c2 a5 n5 c5 Q (Nat.gcd P.natAbs Q) wz h g K hK hQK (rg_pos P hQ)); have FR := Lib.hid (fun a n c a2 n2 c2 wz (h : NatIs wz (.agg #[.slice a n c]) (P.natAbs / Nat.gcd P.natAbs Q)) (g : NatIs wz (.agg #[.slice a2 n2 c2]) (Q / Nat.gcd P.natAbs Q)) => fraction_any m a n c (P.natAbs / Nat.gcd P.natAbs Q) a2 n2 c2 (Q / Nat.gcd P.natAbs Q) wz h g (loQ_pos P hQ)); have hx : sgn m (P.natAbs / Nat.gcd P.natAbs Q) = loP P Q := by rw [h.1]; rfl
     rw[hx,show Q / Nat.gcd P.natAbs Q=loQ P Q from rfl]at FR;rw[show Q / Nat.gcd P.natAbs Q=loQ P Q from rfl]at DQ;rw[decide_eq_false hg]at ON2;unfold DivOf3 at DM DQ;generalize loP P Q=P1 at *;generalize loQ P Q=Q1 at *;generalize P.natAbs / Nat.gcd P.natAbs Q=N1 at *;generalize Nat.gcd P.natAbs Q=G at *;clear h g B0 hPK hQK hQ hg hx;go_enter Tryz.func115,Tryz.ntmps115;have q0:=BB.out.now.2.1.cell;have q1:=BB.out.now.2.2.1.cell;have q2:=BB.out.now.2.2.1.cell1
     go_wp2_with (first
      | (go_at_call 168;(with_reducible refine(ON.out _ BB.out.now.2.2.2.1).mono ?_);rintro e w2 ⟨rfl,hb2⟩;have BB:=Lib.hid (BB.out.go hb2);clear hb2;have q0:=BB.out.now.2.1.cell;have q1:=BB.out.now.2.2.1.cell;have q2:=BB.out.now.2.2.1.cell1)
      | (go_at_call 169;(with_reducible refine(SZ.out _ BB.out.now.2.2.2.2.1).mono ?_);rintro e w3 ⟨rfl,hn3,hb3⟩;have hk3:w.heap.size+1+1<w3.heap.size:=(BB.out.go hb3).now.1.lt;have BB:=Lib.hid (((BB.out.go hb3).nat hn3).box (.slice a n c) 49);clear hb3 hn3;have q0:=BB.out.now.2.2.2.1.cell;have q1:=BB.out.now.2.2.2.2.1.cell;have q2:=BB.out.now.2.2.2.2.1.cell1;have q3:=BB.out.now.1.cell)
      | (go_at_call 170;(with_reducible refine(GC.out _ BB.out.now.2.1 BB.out.now.2.2.2.2.2.1).mono ?_);rintro e w4 ⟨a5,n5,c5,rfl,hn5,hb4⟩;have hk4:w3.heap.size<w4.heap.size:=(BB.out.go hb4).now.1.lt;have BB:=Lib.hid (((BB.out.go hb4).nat hn5).box (.slice a5 n5 c5) 49);clear hb4 hn5;have q0:=BB.out.now.2.2.2.2.2.1.cell;have q1:=BB.out.now.2.2.2.2.2.2.1.cell;have q2:=BB.out.now.2.2.2.2.2.2.1.cell1;have q3:=BB.out.now.2.2.1.cell;have q4:=BB.out.now.1.cell)
      | (go_at_call 168;(with_reducible refine(ON2.out a5 n5 c5 _ BB.out.now.2.1).mono ?_);rintro e w5 ⟨rfl,hb5⟩;have BB:=Lib.hid (BB.out.go hb5);clear hb5;have q0:=BB.out.now.2.2.2.2.2.1.cell;have q1:=BB.out.now.2.2.2.2.2.2.1.cell;have q2:=BB.out.now.2.2.2.2.2.2.1.cell1;have q3:=BB.out.now.2.2.1.cell;have q4:=BB.out.now.1.cell))
     go_at_call 171;(with_reducible refine(DM.out _ _ _ _ BB.out.now.2.2.2.1 BB.out.now.2.1).mono ?_);rintro e w6 ⟨a6,n6,c6,a7,n7,c7,rfl,hv,_,hb6⟩;have B6:=BB.out.go hb6;have u0:=B6.now.2.2.1;have hc:=u0.cell;have hf:=u0.free;have hni:∀(x:Option Addr) (y z:Nat) (ki:IntKind) (i:Int),(Value.slice x y z) ≠ .int ki i:=fun _ _ _ _ _ h=>by cases h
     have B7:=(Bag.start w).go (B6.below.setCell (p:=⟨w3.heap.size,0,none⟩) (show w.heap.size<=w3.heap.size by omega) (.slice a6 n6 c6));have B7:=B7.int (a:=a) (n:=n) (c:=c) (m:=m) (Z:=P) ⟨B6.now.2.2.2.2.2.2.2.2.1.1,B6.now.2.2.2.2.2.2.2.2.1.2.storeAt hc (hni _ _ _) _⟩;have B7:=B7.nat (B6.now.2.2.2.2.2.2.2.1.storeAt hc (hni _ _ _) _)
     have B7:=B7.slot2 (B6.now.2.2.2.2.2.2.1.seto (by omega) _);have B7:=B7.slot (B6.now.2.2.2.2.2.1.seto (by omega) _);have B7:=B7.slot3 (B6.now.2.2.2.2.1.set1o (by omega) _);have B7:=B7.nat (B6.now.2.1.storeAt hc (hni _ _ _) _)
     have B7:=B7.slot (B6.now.1.seto (by omega) _);have B7:=B7.slot (u0.set0 _);have B7:=B7.nat (hv.storeAt hc (hni _ _ _) _)
     have BB:=Lib.hid B7;have q0:=B7.now.2.2.2.2.2.1.cell;have q3:=B7.now.2.1.cell;have q4:=B7.now.2.2.1.cell;clear hv hb6 B6 u0 B7;go_wp2_with fail;go_at_call 171;(with_reducible refine(DQ.out _ _ _ _ BB.out.now.2.2.2.2.2.2.2.1 BB.out.now.2.2.2.1).mono ?_);rintro e w7 ⟨a8,n8,c8,a9,n9,c9,rfl,hv,_,hb7⟩;have B8:=BB.out.go hb7;have u0:=B8.now.2.2.2.2.2.1;have hc:=u0.cell;have hf:=u0.free;have B9:=(Bag.start w).go (B8.below.setCell (p:=⟨w.heap.size+1,0,none⟩) (show w.heap.size<=w.heap.size+1 by omega) (.slice a8 n8 c8));have B9:=B9.int (a:=a) (n:=n) (c:=c) (m:=m) (Z:=P) ⟨B8.now.2.2.2.2.2.2.2.2.1.1,B8.now.2.2.2.2.2.2.2.2.1.2.storeAt hc (hni _ _ _) _⟩;have B9:=B9.slot2 (B8.now.2.2.2.2.2.2.1.seto (by omega) _);have B9:=B9.slot (u0.set0 _);have B9:=B9.slot3 (B8.now.2.2.2.2.1.set1o (by omega) _);have B9:=B9.nat (B8.now.2.2.2.1.storeAt hc (hni _ _ _) _)
     have B9:=B9.slot (B8.now.2.2.1.seto (by omega) _);have B9:=B9.slot (B8.now.2.1.seto (by omega) _);have B9:=B9.nat (B8.now.1.storeAt hc (hni _ _ _) _)
     have B9:=B9.nat (hv.storeAt hc (hni _ _ _) _)
     have BB:=Lib.hid B9;clear hv hb7 B8 u0 B9 q0 q3 q4;go_wp2_with fail;have BB:=Lib.hid BB.out.drew;have he:w.heap.size≠w.heap.size+1+1/\w.heap.size+1≠w.heap.size+1+1/\w3.heap.size≠w.heap.size+1+1:=by omega
     go_region_held3 (fun y => y.cell? ⟨w.heap.size, 0, none⟩ = some (.slice a n c) /\ y.cell? ⟨w.heap.size, 1, none⟩ = some (.bool m) /\ y.cell? ⟨w.heap.size + 1, 0, none⟩ = some (.slice a8 n8 c8) /\ y.cell? ⟨w3.heap.size, 0, none⟩ = some (.slice a6 n6 c6))
      (first
        | (exact⟨BB.out.now.2.2.2.2.2.2.2.1.cell,BB.out.now.2.2.2.2.2.2.2.1.cell1,BB.out.now.2.2.2.2.2.2.1.cell,BB.out.now.2.2.1.cell⟩)
        | (exact⟨z0.cell,z0.cell1,z1.cell,z2.cell⟩))
      (first
        | (go_at_call 173;(with_reducible refine(NG.out _ BB.out.now.2.2.2.2.2.2.2.2.1).mono ?_);rintro e w8 ⟨rfl,hb8⟩;have BB:=Lib.hid (BB.out.go hb8);clear hb8)
        | (go_at_call 172;(with_reducible refine(FR.out _ _ _ _ _ _ _ BB.out.now.2.1 BB.out.now.1).mono ?_);rintro e w9 ⟨a10,n10,c10,m10,a11,n11,c11,rfl,hr,hb9⟩;have BB:=Lib.hid (BB.out.go hb9);have hs:=BB.out.now.2.2.2.2.2.1;have r0:=hs.cell;have r1:=hs.cell1;have r2:=hs.cell2;have g0:=hs.free;have g1:=hs.free1;have g2:=hs.free2;have HS:=hs.set (.slice a10 n10 c10) (.bool m10) (.slice a11 n11 c11);have z0:=BB.out.now.2.2.2.2.2.2.2.1.set3o he.1 (.slice a10 n10 c10) (.bool m10) (.slice a11 n11 c11);have z1:=BB.out.now.2.2.2.2.2.2.1.set3o he.2.1 (.slice a10 n10 c10) (.bool m10) (.slice a11 n11 c11);have z2:=BB.out.now.2.2.1.set3o he.2.2 (.slice a10 n10 c10) (.bool m10) (.slice a11 n11 c11);have HE:=Lib.hid (RatTold.done BB.out.below (by omega) hs hr);clear hb9 hs hr))
     go_wp2;exact bodyPost_ret (by simp[results,Tryz.results115,go_sem,HS]) rfl HE.out
def RatTold3(w w':World)(e:Ending)(P:Int)(Q:Nat)(ok:Bool):Prop:=∃a n c m a2 n2 c2,e=.returned (.tuple #[.agg #[.slice a n c,.bool m,.slice a2 n2 c2],.bool ok])/\RatAt w' a n c m a2 n2 c2 P Q/\Below w.heap.size w w'
theorem RatTold3.done {w w2 : World} {k : Nat} {a0 : Option Addr} {n0 c0 : Nat} {m0 : Bool} {a1 : Option Addr} {n1 c1 : Nat} {a : Option Addr} {n c : Nat} {m : Bool} {a2 : Option Addr} {n2 c2 : Nat} {P : Int} {Q : Nat} (ok : Bool) (hb : Below w.heap.size w w2) (hk : w.heap.size <= k)
    (hs:Slot3 w2 k (.slice a0 n0 c0) (.bool m0) (.slice a1 n1 c1)) (h:RatAt w2 a n c m a2 n2 c2 P Q) :
    RatTold3 w (((w2.setCell ⟨k,0,none⟩ (.slice a n c)).setCell ⟨k,1,none⟩ (.bool m)).setCell ⟨k,2,none⟩ (.slice a2 n2 c2)) (.returned (.tuple #[.agg #[.slice a n c,.bool m,.slice a2 n2 c2],.bool ok])) P Q ok:=by
 obtain⟨a',n',c',m',a2',n2',c2',he,h1,h2⟩:=RatTold.done hb hk hs h
 cases he
 exact⟨a,n,c,m,a2,n2,c2,rfl,h1,h2⟩
theorem IntAt.nt{w:World}{a:Option Addr}{n c:Nat}{m:Bool}{Z:Int}(h:IntAt w a n c m Z):NatIs w (.agg #[.slice a n c]) Z.natAbs:=h.2
theorem RatAt.int{w:World}{a:Option Addr}{n c:Nat}{m:Bool}{a2:Option Addr}{n2 c2:Nat}{P:Int}{Q:Nat}(h:RatAt w a n c m a2 n2 c2 P Q):IntAt w a n c m P:=h.1
theorem RatAt.low{w:World}{a:Option Addr}{n c:Nat}{m:Bool}{a2:Option Addr}{n2 c2:Nat}{P:Int}{Q:Nat}(h:RatAt w a n c m a2 n2 c2 P Q):NatIs w (.agg #[.slice a2 n2 c2]) (lowN Q):=h.2
theorem RatAt.zero(w:World):RatAt w none 0 0 false none 0 0 0 1:=⟨⟨rfl,NatIs.zero w⟩,NatIs.zero w⟩
theorem Slot2.set2{w:World}{k:Nat}{x y:Value}(h:Slot2 w k x y)(u v:Value):Slot2 ((w.setCell ⟨k,0,none⟩ u).setCell ⟨k,1,none⟩ v) k u v :=
 ⟨(h.set u v).1,(h.set u v).2,by simp[h.free],by simp[h.free1],by simpa using h.lt⟩
theorem Slot2.set2o{w:World}{k j:Nat}{x y:Value}(h:Slot2 w j x y)(e:j≠k)(u v:Value):Slot2 ((w.setCell ⟨k,0,none⟩ u).setCell ⟨k,1,none⟩ v) j x y:=by
 have hn:∀o o':Nat,(⟨k,o,none⟩:Addr)≠⟨j,o',none⟩:=fun o o' h=>e (by cases h;rfl)
 refine⟨?_,?_,by simp[h.free],by simp[h.free1],by simpa using h.lt⟩
 · rw[World.cell?_setCell_other _ _ _ _ (hn _ _),World.cell?_setCell_other _ _ _ _ (hn _ _)];exact h.cell
 · rw[World.cell?_setCell_other _ _ _ _ (hn _ _),World.cell?_setCell_other _ _ _ _ (hn _ _)];exact h.cell1
theorem NatIs.set2b {w : World} {k : Nat} {x y : Value} {v : Value} {N : Nat} (q : NatIs w v N) (h : Slot2 w k x y) (hx : ∀ ki i, x ≠ .int ki i) (hy : ∀ ki i, y ≠ .int ki i) (u v' : Value) :
    NatIs ((w.setCell ⟨k,0,none⟩ u).setCell ⟨k,1,none⟩ v') v N:=by
 refine(q.storeAt h.cell hx _).storeAt (x:=y) ?_ hy _;rw[World.cell?_setCell_other _ _ _ _ (fun e=>by cases e)];exact h.cell1
def nwP(P Y:Int):Int:=loP (upZ P Y) Y.natAbs
def nwQ(P Y:Int):Nat:=loQ (upZ P Y) Y.natAbs
theorem new_zero (a : Option Addr) (n c : Nat) (m : Bool) (P : Int) (a2 : Option Addr) (n2 c2 : Nat) (m2 : Bool) (w : World) (h : IntAt w a n c m P) (g : IntAt w a2 n2 c2 m2 0) :
    Calls Tryz.prog 248 #[.agg #[.slice a n c,.bool m],.agg #[.slice a2 n2 c2,.bool m2]] w fun e w'=>RatTold3 w w' e 0 1 false:=by
 have ZE:=Lib.hid (fun wz (h:NatIs wz (.agg #[.slice a2 n2 c2]) (0:Int).natAbs)=>zero_any _ (0:Int).natAbs wz h);rw[decide_eq_true (show(0:Int).natAbs=0 from rfl)]at ZE;have B0:=((((Bag.start w).int h).int g).box2 (.slice a n c) (.bool m) 51).box2 (.slice a2 n2 c2) (.bool m2) 51 |>.box3 (.slice none 0 0) (.bool false) (.slice none 0 0) 53
 simp only[World.size_alloc]at B0;have BB:=Lib.hid B0;have q0:=B0.now.2.1.cell;clear h g B0;go_enter Tryz.func248,Tryz.ntmps248;go_wp2_with fail;go_at_call 114;refine(ZE.out _ BB.out.now.2.2.2.1.nt).mono ?_;rintro e w2 ⟨rfl,hb2⟩;have BB:=bgo BB hb2;have hs:=BB.out.now.1;have⟨r0,r1,r2,g0,g1,g2⟩:=hs.s6;have HS:=hs.set (.slice none 0 0) (.bool false) (.slice none 0 0);have HE:=Lib.hid (RatTold3.done false BB.out.below (by omega) hs (RatAt.zero w2));clear hb2 hs;go_wp2;exact bodyPost_ret (by simp[results,Tryz.results248,go_sem,HS]) rfl HE.out
theorem new_some (a : Option Addr) (n c : Nat) (m : Bool) (P : Int) (a2 : Option Addr) (n2 c2 : Nat) (m2 : Bool) (Y : Int) (w : World) (h : IntAt w a n c m P) (g : IntAt w a2 n2 c2 m2 Y) (hY : Y ≠ 0)
    (K:Nat) (hK:K<=900000) (hPK:P.natAbs<4294967296^K) (hYK:Y.natAbs<4294967296^K) :
    Calls Tryz.prog 248 #[.agg #[.slice a n c,.bool m],.agg #[.slice a2 n2 c2,.bool m2]] w fun e w'=>RatTold3 w w' e (nwP P Y) (nwQ P Y) true:=by
 have ZE:=Lib.hid (fun wz (h:NatIs wz (.agg #[.slice a2 n2 c2]) Y.natAbs)=>zero_any _ Y.natAbs wz h);rw[decide_eq_false (show ¬Y.natAbs=0 by omega)]at ZE;have NG:=Lib.hid (fun wz (h:IntAt wz a2 n2 c2 m2 Y)=>neg_any a2 n2 c2 m2 Y wz h);have MN:=Lib.hid (fun wz (h:IntAt wz a n c m P)=>minus_any a n c m P wz h);have SZ:=Lib.hid (fun wz (h:IntAt wz a2 n2 c2 m2 Y)=>size_any a2 n2 c2 m2 Y wz h);unfold NatTold2 at SZ
 have hup:upZ P Y=if m2 then -P else P:=by
  unfold upZ;rw[g.1]
  by_cases h1:Y<0
  · rw[if_pos h1,decide_eq_true h1];rfl
  · rw[if_neg h1,decide_eq_false h1];rfl
 have LW:=Lib.hid (fun a n c m wz (h:IntAt wz a n c m (upZ P Y)) (g:NatIs wz (.agg #[.slice a2 n2 c2]) Y.natAbs)=>lowest_any a n c m (upZ P Y) a2 n2 c2 Y.natAbs wz h g (by omega) K hK (by rw[upZ_abs];exact hPK) hYK);rw[show loP (upZ P Y) Y.natAbs=nwP P Y from rfl,show loQ (upZ P Y) Y.natAbs=nwQ P Y from rfl]at LW;rw[hup]at LW;generalize nwP P Y=P1 at *;generalize nwQ P Y=Q1 at *;have B0:=((((Bag.start w).int h).int g).box2 (.slice a n c) (.bool m) 51).box2 (.slice a2 n2 c2) (.bool m2) 51 |>.box3 (.slice none 0 0) (.bool false) (.slice none 0 0) 53
 simp only[World.size_alloc]at B0;have BB:=Lib.hid B0;have q0:=B0.now.2.1.cell;have q1:=B0.now.2.1.cell1;have he:w.heap.size≠w.heap.size+1+1/\w.heap.size+1≠w.heap.size+1+1/\w.heap.size+1≠w.heap.size:=by omega
 clear h g B0 hPK hYK hup
 cases m2 with
 | false =>
  rw[if_neg (by decide)]at LW;go_enter Tryz.func248,Tryz.ntmps248
  go_wp2_with (first
   | (go_at_call 114;(with_reducible refine(ZE.out _ BB.out.now.2.2.2.1.nt).mono ?_);rintro e w2 ⟨rfl,hb2⟩;have BB:=Lib.hid (BB.out.go hb2);have q0:=BB.out.now.2.1.cell;have q1:=BB.out.now.2.1.cell1;clear hb2)
   | (go_at_call 173;(with_reducible refine(NG.out _ BB.out.now.2.2.2.1).mono ?_);rintro e w3 ⟨rfl,hb3⟩;have BB:=Lib.hid (BB.out.go hb3);have q0:=BB.out.now.2.1.cell;have q1:=BB.out.now.2.1.cell1;clear hb3))
  have BB:=Lib.hid BB.out.drew
  go_region_held3 (fun y => y.cell? ⟨w.heap.size, 0, none⟩ = some (.slice a n c) /\ y.cell? ⟨w.heap.size, 1, none⟩ = some (.bool m) /\ y.cell? ⟨w.heap.size + 1, 0, none⟩ = some (.slice a2 n2 c2) /\ y.cell? ⟨w.heap.size + 1, 1, none⟩ = some (.bool false))
   (first
     | (exact⟨BB.out.now.2.2.1.cell,BB.out.now.2.2.1.cell1,BB.out.now.2.1.cell,BB.out.now.2.1.cell1⟩)
     | (exact⟨z0.cell,z0.cell1,z1.cell,z1.cell1⟩))
   (first
     | (go_at_call 169;(with_reducible refine(SZ.out _ BB.out.now.2.2.2.1).mono ?_);rintro e w6 ⟨rfl,hn6,hb6⟩;have BB:=Lib.hid (BB.out.go hb6))
     | (go_at_call 115;(with_reducible refine(LW.out _ _ _ _ _ BB.out.now.2.2.2.2.1 hn6).mono ?_);rintro e w7 ⟨a6,n6,c6,m6,a7,n7,c7,rfl,hr,hb7⟩;have BB:=Lib.hid (BB.out.go hb7);have hs:=BB.out.now.1;have r0:=hs.cell;have r1:=hs.cell1;have r2:=hs.cell2;have g0:=hs.free;have g1:=hs.free1;have g2:=hs.free2;have HS:=hs.set (.slice a6 n6 c6) (.bool m6) (.slice a7 n7 c7);have z0:=BB.out.now.2.2.1.set3o he.1 (.slice a6 n6 c6) (.bool m6) (.slice a7 n7 c7);have z1:=BB.out.now.2.1.set3o he.2.1 (.slice a6 n6 c6) (.bool m6) (.slice a7 n7 c7);have HE:=Lib.hid (RatTold3.done true BB.out.below (by omega) hs hr);clear hb7 hs hr))
  go_wp2;exact bodyPost_ret (by simp[results,Tryz.results248,go_sem,HS]) rfl HE.out
 | true =>
  rw[if_pos rfl]at LW;go_enter Tryz.func248,Tryz.ntmps248
  go_wp2_with (first
   | (go_at_call 114;(with_reducible refine(ZE.out _ BB.out.now.2.2.2.1.nt).mono ?_);rintro e w2 ⟨rfl,hb2⟩;have BB:=Lib.hid (BB.out.go hb2);have q0:=BB.out.now.2.1.cell;have q1:=BB.out.now.2.1.cell1;clear hb2)
   | (go_at_call 173;(with_reducible refine(NG.out _ BB.out.now.2.2.2.1).mono ?_);rintro e w3 ⟨rfl,hb3⟩;have BB:=Lib.hid (BB.out.go hb3);have q0:=BB.out.now.2.2.1.cell;have q1:=BB.out.now.2.2.1.cell1;clear hb3))
  go_at_call 222;(with_reducible refine(MN.out _ BB.out.now.2.2.2.2.1).mono ?_);rintro e w4 ⟨a3,n3,c3,m3,rfl,hi,hb4⟩;have B4:=BB.out.go hb4;have u0:=B4.now.2.2.1;have hc:=u0.cell;have hc1:=u0.cell1;have hf:=u0.free;have hf1:=u0.free1;have hni:∀(x:Option Addr) (y z:Nat) (ki:IntKind) (i:Int),(Value.slice x y z) ≠ .int ki i:=fun _ _ _ _ _ h=>by cases h
  have hnb:∀(x:Bool) (ki:IntKind) (i:Int),(Value.bool x) ≠ .int ki i:=fun _ _ _ h=>by cases h
  have B5:=(Bag.start w).go ((B4.below.setCell (p:=⟨w.heap.size,0,none⟩) (Nat.le_refl _) (.slice a3 n3 c3)).setCell (p:=⟨w.heap.size,1,none⟩) (Nat.le_refl _) (.bool m3));have B5:=B5.int (a:=a3) (n:=n3) (c:=c3) (m:=m3) (Z := -P) ⟨hi.1,hi.2.set2b u0 (hni _ _ _) (hnb _) _ _⟩;have B5:=B5.int (a:=a2) (n:=n2) (c:=c2) (m:=true) (Z:=Y) ⟨B4.now.2.2.2.1.1,B4.now.2.2.2.1.2.set2b u0 (hni _ _ _) (hnb _) _ _⟩;have B5:=B5.slot2 (u0.set2 (.slice a3 n3 c3) (.bool m3));have B5:=B5.slot2 (B4.now.2.1.set2o he.2.2 (.slice a3 n3 c3) (.bool m3));have B5:=B5.slot3 (B4.now.1.set2o (k:=w.heap.size) (by omega) (.slice a3 n3 c3) (.bool m3));have BB:=Lib.hid B5;clear hi hb4 B4 u0 B5 q0 q1;go_wp2_with fail;have BB:=Lib.hid BB.out.drew
  go_region_held3 (fun y => y.cell? ⟨w.heap.size, 0, none⟩ = some (.slice a3 n3 c3) /\ y.cell? ⟨w.heap.size, 1, none⟩ = some (.bool m3) /\ y.cell? ⟨w.heap.size + 1, 0, none⟩ = some (.slice a2 n2 c2) /\ y.cell? ⟨w.heap.size + 1, 1, none⟩ = some (.bool true))
   (first
     | (exact⟨BB.out.now.2.2.1.cell,BB.out.now.2.2.1.cell1,BB.out.now.2.1.cell,BB.out.now.2.1.cell1⟩)
     | (exact⟨z0.cell,z0.cell1,z1.cell,z1.cell1⟩))
   (first
     | (go_at_call 169;(with_reducible refine(SZ.out _ BB.out.now.2.2.2.1).mono ?_);rintro e w6 ⟨rfl,hn6,hb6⟩;have BB:=Lib.hid (BB.out.go hb6))
     | (go_at_call 115;(with_reducible refine(LW.out _ _ _ _ _ BB.out.now.2.2.2.2.1 hn6).mono ?_);rintro e w7 ⟨a6,n6,c6,m6,a7,n7,c7,rfl,hr,hb7⟩;have BB:=Lib.hid (BB.out.go hb7);have hs:=BB.out.now.1;have r0:=hs.cell;have r1:=hs.cell1;have r2:=hs.cell2;have g0:=hs.free;have g1:=hs.free1;have g2:=hs.free2;have HS:=hs.set (.slice a6 n6 c6) (.bool m6) (.slice a7 n7 c7);have z0:=BB.out.now.2.2.1.set3o he.1 (.slice a6 n6 c6) (.bool m6) (.slice a7 n7 c7);have z1:=BB.out.now.2.1.set3o he.2.1 (.slice a6 n6 c6) (.bool m6) (.slice a7 n7 c7);have HE:=Lib.hid (RatTold3.done true BB.out.below (by omega) hs hr);clear hb7 hs hr))
  go_wp2;exact bodyPost_ret (by simp[results,Tryz.results248,go_sem,HS]) rfl HE.out
theorem RatAt.set3 {w : World} {k : Nat} {a0 : Option Addr} {n0 c0 : Nat} {m0 : Bool} {a1 : Option Addr} {n1 c1 : Nat} {a : Option Addr} {n c : Nat} {m : Bool} {a2 : Option Addr} {n2 c2 : Nat} {P : Int} {Q : Nat} (q : RatAt w a n c m a2 n2 c2 P Q)
    (h:Slot3 w k (.slice a0 n0 c0) (.bool m0) (.slice a1 n1 c1)) (u v t:Value):RatAt (((w.setCell ⟨k,0,none⟩ u).setCell ⟨k,1,none⟩ v).setCell ⟨k,2,none⟩ t) a n c m a2 n2 c2 P Q :=
 ⟨⟨q.1.1,q.1.2.set3 h (fun _ _ h=>by cases h) (fun _ _ h=>by cases h) (fun _ _ h=>by cases h) _ _ _⟩,q.2.set3 h (fun _ _ h=>by cases h) (fun _ _ h=>by cases h) (fun _ _ h=>by cases h) _ _ _⟩
end Go.Proofs.YtdmmenaejkpnjaaGreatDoor
namespace Go.Proofs.YtdmmenaejkpnjaaGreatDoor
open Go.RowKit
theorem str_inj{l:List UInt8}{s:ByteArray}:str l=s↔l=s.data.toList:=by
 constructor
 · intro h;rw[← h];rfl
 · intro h;rw[h];rfl
theorem lo_gcd1{N M:Nat}(hM:0<M)(h:M / Nat.gcd N M=M):Nat.gcd N M=1:=by
 have hg:0<Nat.gcd N M:=Nat.gcd_pos_of_pos_right _ hM
 rcases Nat.lt_or_ge 1 (Nat.gcd N M)with h1|h1
 · have:=Nat.div_lt_self hM h1;omega
 · omega
theorem of_right (b : Bool) (s t : ByteArray) (hM : 0 < numOf t.data.toList) :
    decide (rB (loP (sgn b (numOf s.data.toList)) (numOf t.data.toList))=b/\rS (loP (sgn b (numOf s.data.toList)) (numOf t.data.toList))=s/\str (dec (loQ (sgn b (numOf s.data.toList)) (numOf t.data.toList)))=t)
     = (decide (str (dec (numOf s.data.toList))=s)&&(decide (str (dec (numOf t.data.toList))=t)&&(decide (Nat.gcd (numOf s.data.toList) (numOf t.data.toList)=1) && !(b&&decide (numOf s.data.toList=0))))):=by
 have ha:(sgn b (numOf s.data.toList)).natAbs=numOf s.data.toList:=sgn_abs _ _;have e1:(loP (sgn b (numOf s.data.toList)) (numOf t.data.toList)).natAbs=numOf s.data.toList / Nat.gcd (numOf s.data.toList) (numOf t.data.toList):=by rw[loP_abs];unfold rg;rw[ha]
 have e2:loQ (sgn b (numOf s.data.toList)) (numOf t.data.toList)=numOf t.data.toList / Nat.gcd (numOf s.data.toList) (numOf t.data.toList):=by unfold loQ rg;rw[ha]
 have e3:rB (loP (sgn b (numOf s.data.toList)) (numOf t.data.toList))=(b && !decide (numOf s.data.toList=0)):=by
  unfold rB;rw[loP_neg];exact sgn_neg _ _
 rw[e2,e3];unfold rS;rw[e1];rw[Bool.eq_iff_iff,decide_eq_true_eq,Bool.and_eq_true,Bool.and_eq_true,Bool.and_eq_true,decide_eq_true_eq,decide_eq_true_eq,decide_eq_true_eq]
 constructor
 · rintro⟨h1,h2,h3⟩
   have n1:numOf s.data.toList / Nat.gcd (numOf s.data.toList) (numOf t.data.toList)=numOf s.data.toList:=by
    have:=congrArg numOf (str_inj.1 h2);rw[numOf_dec]at this;exact this
   have n2:numOf t.data.toList / Nat.gcd (numOf s.data.toList) (numOf t.data.toList)=numOf t.data.toList:=by
    have:=congrArg numOf (str_inj.1 h3);rw[numOf_dec]at this;exact this
   rw[n1]at h2;rw[n2]at h3;refine⟨h2,h3,lo_gcd1 hM n2,?_⟩
   cases b
   · rfl
   · simpa using h1
 · rintro⟨h1,h2,h3,h4⟩;rw[h3,Nat.div_one,Nat.div_one];refine⟨?_,h1,h2⟩
   cases b
   · rfl
   · simpa using h4
end Go.Proofs.YtdmmenaejkpnjaaGreatDoor
namespace Go.Proofs.YtdmmenaejkpnjaaGreatDoor
open Go.RowKit Go.WideMaps Go.WideElems
theorem limbs_of_bits{N n:Nat}(h1:N<4294967296^n)(h2:0<n->4294967296^(n-1)<=N):(nbits N+31) / 32=n:=by
 have e:∀k,(4294967296:Nat)^k=2^(32*k):=fun k=>by rw[Nat.pow_mul]
 have h3:nbits N<=32*n:=nbits_le.2 (by rw[← e];exact h1)
 rcases Nat.eq_zero_or_pos n with h0|h0
 · omega
 · have h4:=h2 h0
   have h5:¬nbits N<=32*(n-1):=fun h=>by
    have:=nbits_le.1 h;rw[← e]at this;omega
   omega
def LimbsOut(w w':World)(e:Ending)(N:Nat):Prop:=e=.returned (.int .i64 ((nbits N+31) / 32:Nat))/\Below w.heap.size w w'
theorem limbs_bits(v:Value)(N:Nat)(w:World)(h:NatIs w v N):Calls Tryz.prog 187 #[v] w fun e w'=>LimbsOut w w' e N:=by
 refine(limbs_any v N w h).mono ?_;rintro e w' ⟨n,rfl,_,_,h1,hb⟩;exact⟨by rw[limbs_of_bits h1.out.1 h1.out.2],hb⟩
theorem dec_eq_digit(N d:Nat)(hd:d<10):((str (dec N)).toList == [UInt8.ofNat (48+d)])=decide (N=d):=by
 rw[Bool.eq_iff_iff,beq_iff_eq,decide_eq_true_eq,ByteArray.toList_eq,str_toList,← dec_small hd]
 constructor
 · intro h;have:=congrArg numOf h;rw[numOf_dec,numOf_dec]at this;exact this
 · intro h;rw[h]
theorem last_digit(N:Nat){k:Nat}(hk:dl N=k+1)(h:k<(str (dec N)).size):((str (dec N))[k]).toNat=48+N%10:=by
 have h1:=sdig_get N (dl N) k (by omega)
 have h2:(dec N)[k]? = some ((str (dec N))[k]):=by
  rw[List.getElem?_eq_getElem (by have:(dec N).length=dl N:=sdig_length _ _;omega)];rfl
 have h3:(str (dec N))[k]=dgt N (dl N-1-k):=by
  have:(dec N)[k]? = some (dgt N (dl N-1-k)):=h1;rw[h2]at this;exact Option.some.inj this
 rw[h3,dgt_toNat,show dl N-1-k=0 by omega,Nat.pow_zero,Nat.div_one]
end Go.Proofs.YtdmmenaejkpnjaaGreatDoor
namespace Go.Proofs.YtdmmenaejkpnjaaGreatDoor
open Go.RowKit
def lb(N:Nat):Nat:=(nbits N+31) / 32
theorem lb_le{N m:Nat}:lb N<=m↔N<2^(32*m):=by
 rw[← nbits_le];unfold lb;omega
theorem lb_mono{N M:Nat}(h:N<=M):lb N<=lb M:=by
 rw[lb_le];exact Nat.lt_of_le_of_lt h (lb_le.1 (Nat.le_refl _))
theorem pow_mono{X a b:Nat}(hX:0<X)(h:a<=b):X^a<=X^b:=Nat.pow_le_pow_right hX h
def powN(X:Nat)(n most:Int):Nat × Bool :=
 if n<=0∨X=1 then(1,true)else if X=0 then(0,true)else if (lb (X^n.toNat):Int)<=most then(X^n.toNat,true)else(0,false)
theorem two_ten(e:Nat):2^e<=10^e:=Nat.pow_le_pow_left (by omega) e
theorem dl_bits{N e:Nat}(h0:0<e)(h:N<2^e):dl N<=e:=dl_le N e h0 (Nat.lt_of_lt_of_le h (two_ten e))
theorem ten_two(e:Nat):10^e<=2^(4*e):=by rw[Nat.pow_mul];exact Nat.pow_le_pow_left (by omega) e
theorem two_words(e E:Nat)(h:e<=16*E):2^e<=65536^E:=by
 have h3:(65536:Nat)^E=2^(16*E):=by rw[Nat.pow_mul]
 rw[h3];exact Nat.pow_le_pow_right (by omega) h
theorem rmulD (x y : Nat) (w : World) (hx : dl x <= 1000) (hy : dl y <= 1000) :
    Calls Tryz.prog 190 #[.string (str (dec x)),.string (str (dec y))] w fun e w'=>e=.returned (.string (str (dec (x*y))))/\Below w.heap.size w w' :=
 rmul_any x (dl x) y (dl y) w (dl_lt x) (dl_lt y) (by omega) (by omega)
theorem pow_next {X k : Nat} {most : Int} (hX : dl X <= 40) (hm : most <= 16) (h : k = 0 ∨ (lb (X ^ k) : Int) <= most) :
    (∀w,Calls Tryz.prog 190 #[.string (str (dec (X^k))),.string (str (dec X))] w fun e w'=>e=.returned (.string (str (dec (X^(k+1)))))/\Below w.heap.size w w') /\
    (∀w,Calls Tryz.prog 139 #[.string (str (dec (X^(k+1))))] w fun e w'=>e=.returned (.int .i64 (lb (X^(k+1))))/\Below w.heap.size w w')/\lb (X^(k+1))<=1000:=by
 obtain⟨e,he⟩:∃e,e=512:=⟨_,rfl⟩
 have hk:X^k<2^e:=by
  rcases h with rfl|h
  · rw[Nat.pow_zero];exact Nat.one_lt_two_pow (by omega)
  · obtain⟨q,hq⟩:∃q,q=16:=⟨_,rfl⟩
    have h1:lb (X^k)<=q:=by omega
    have h2:=lb_le.1 h1;exact Nat.lt_of_lt_of_le h2 (Nat.pow_le_pow_right (by omega) (by omega))
 have hXb:X<2^(4*40):=by
  have h1:=dl_lt X;exact Nat.lt_of_lt_of_le (Nat.lt_of_lt_of_le h1 (Nat.pow_le_pow_right (by omega) hX)) (ten_two 40)
 obtain⟨g,hg⟩:∃g,g=4*40:=⟨_,rfl⟩
 rw[← hg]at hXb
 have hp:X^(k+1)<2^(e+g):=by
  rw[Nat.pow_succ,Nat.pow_add];exact Nat.lt_of_le_of_lt (Nat.mul_le_mul_left _ (Nat.le_of_lt hXb)) (Nat.mul_lt_mul_of_pos_right hk (Nat.pow_pos (by omega)))
 refine⟨fun w => ?_,fun w => ?_,?_⟩
 · rw[Nat.pow_succ];exact rmulD (X^k) X w (Nat.le_trans (dl_bits (by omega) hk) (by omega)) (by omega)
 · exact rlimbs_any (X^(k+1)) 42 w (Nat.le_trans (dl_bits (by omega) hp) (by omega)) (by omega) (Nat.lt_of_lt_of_le hp (two_words _ _ (by omega)))
 · obtain⟨q,hq⟩:∃q,q=21:=⟨_,rfl⟩
   have h1:lb (X^(k+1))<=q:=lb_le.2 (Nat.lt_of_lt_of_le hp (Nat.pow_le_pow_right (by omega) (by omega)))
   omega
theorem powN_long{X k:Nat}{n most:Int}(hX:2<=X)(hn:0<n)(hk:(k:Int)<=n)(h:most<(lb (X^k):Int)):powN X n most=(0,false):=by
 have h1:lb (X^k)<=lb (X^n.toNat):=lb_mono (pow_mono (by omega) (by omega));unfold powN;rw[if_neg (by omega),if_neg (by omega),if_neg (by omega)]
theorem powN_full{X k:Nat}{n most:Int}(hX:2<=X)(hn:0<n)(hk:(k:Int)=n)(h:(lb (X^k):Int)<=most):powN X n most=(X^k,true):=by
 obtain rfl:k=n.toNat:=by omega
 unfold powN;rw[if_neg (by omega),if_neg (by omega),if_pos h]
theorem rpow_any (X : Nat) (n most : Int) (w : World) (hX : dl X <= 40) (hm : most <= 16) (hn : n <= 9223372036854775807) (hn0 : -9223372036854775808 <= n) :
    Calls Tryz.prog 233 #[.string (str (dec X)),.int .i64 n,.int .i64 most] w fun e w'=>e=.returned (.tuple #[.string (str (dec (powN X n most).1)),.bool (powN X n most).2])/\Below w.heap.size w w':=by
 have hd0:=dec_eq_digit X 0 (by omega);have hd1:=dec_eq_digit X 1 (by omega);have hs0:str (dec 0)=⟨#[48]⟩:=by rw[dec_small (by omega)];rfl
 have hs1:str (dec 1)=⟨#[49]⟩:=by rw[dec_small (by omega)];rfl
 have NX:=Lib.hid (fun(k:Nat) (h:k=0∨(lb (X^k):Int)<=most)=>pow_next hX hm h);have HS1:=Lib.hid hs1
 by_cases h1:n<=0∨X=1
 · have hE:powN X n most=(1,true):=by unfold powN;rw[if_pos h1]
   rw[hE];have HE:Hid (Ending.returned (.tuple #[.string ⟨#[49]⟩,.bool true])=.returned (.tuple #[.string (str (dec 1)),.bool true])):=by show _=_;rw[hs1]
   have hz:((str (dec X)).toList == [49])=decide (X=1):=hd1;obtain⟨D,hD⟩:∃D,str (dec X)=D:=⟨_,rfl⟩
   rw[hD]at hz ⊢;clear NX hd0 hd1 hE hs0 hs1 HS1 hD
   by_cases c1:n<=0
   · have d1:decide (n<=0)=true:=decide_eq_true c1;clear hz;go_enter Tryz.func233,Tryz.ntmps233;go_wp2;go_ret2;exact⟨HE.out,Below.refl _ _⟩
   · have d1:decide (n<=0)=false:=decide_eq_false c1;have hX1:X=1:=by omega
     rw[decide_eq_true hX1]at hz;go_enter Tryz.func233,Tryz.ntmps233;go_wp2;go_ret2;exact⟨HE.out,Below.refl _ _⟩
 · have d1 : decide (n <= 0) = false := decide_eq_false (by omega)
   have hz1:((str (dec X)).toList == [49])=false:=by
    have:=hd1;rw[decide_eq_false (by omega)]at this;exact this
   by_cases h2:X=0
   · have hE:powN X n most=(0,true):=by unfold powN;rw[if_neg h1,if_pos h2]
     rw[hE];have HE:Hid (Ending.returned (.tuple #[.string ⟨#[48]⟩,.bool true])=.returned (.tuple #[.string (str (dec 0)),.bool true])):=by show _=_;rw[hs0]
     have hz0:((str (dec X)).toList == [48])=true:=by
      have:=hd0;rw[decide_eq_true h2]at this;exact this
     generalize str (dec X)=D at *;clear NX hd0 hd1 hE hs0 hs1 HS1;go_enter Tryz.func233,Tryz.ntmps233;go_wp2;go_ret2;exact⟨HE.out,Below.refl _ _⟩
   · have hz0:((str (dec X)).toList == [48])=false:=by
       have:=hd0;rw[decide_eq_false h2]at this;exact this
     have hX2:2<=X:=by omega
     have hn1:0<n:=by omega
     have HL:=Lib.hid (fun(k:Nat) (hk:(k:Int)<=n) (h:most<(lb (X^k):Int))=>powN_long hX2 hn1 hk h);have HF:=Lib.hid (fun(k:Nat) (hk:(k:Int)=n) (h:(lb (X^k):Int)<=most)=>powN_full hX2 hn1 hk h);have hS0:Hid ((⟨#[49]⟩:ByteArray)=str (dec (X^0))):=by show _=_;rw[Nat.pow_zero,hs1]
     have HS0:=Lib.hid hs0;obtain⟨D,hD⟩:∃D,str (dec X)=D:=⟨_,rfl⟩
     rw[hD]at NX hz0 hz1 ⊢;clear hd0 hd1 hs0 hs1 HS1 hD h1 h2;go_enter Tryz.func233,Tryz.ntmps233;go_wp2
     go_loopw [8,9] (fun z i wr=>∃(k:Nat) (s:ByteArray),(k:Int)<=n/\i=.int .i64 k/\z=.string s/\Hid (s=str (dec (X^k))/\(k=0∨(lb (X^k):Int)<=most))/\Below w.heap.size w wr)
      (fun _ i _=>n.toNat-(intOf i).toNat)
     case atStart=>exact⟨0,_,by omega,rfl,rfl,⟨hS0.out,.inl rfl⟩,Below.refl _ _⟩
     case round =>
      obtain⟨k,s,hk,rfl,rfl,hs,hb⟩:=hrel;have HB:=Lib.hid hb;obtain⟨hsk,hlk⟩:=hs.out
      by_cases c1:(k:Int)<n
      · have d2:decide ((k:Int)<n)=true:=decide_eq_true c1;obtain⟨q1,q2,q3⟩:=NX.out k hlk;rw[← hsk]at q1;obtain⟨s2,hs2⟩:∃s2,str (dec (X^(k+1)))=s2:=⟨_,rfl⟩
        rw[hs2]at q1 q2;have HS2:=Lib.hid hs2;obtain⟨l,hl⟩:∃l,lb (X^(k+1))=l:=⟨_,rfl⟩
        rw[hl]at q2 q3;have HLL:=Lib.hid hl;have Q1:=Lib.hid q1;have Q2:=Lib.hid q2;have hkn:((k+1:Nat):Int)<=n:=by omega
        clear hs hb hsk hlk q1 q2 hs2 hl hz0 hz1;go_wp2_with fail;go_at_call 190;refine(Q1.out wr).mono ?_;rintro e w2 ⟨rfl,hb2⟩;have HB2:=Lib.hid (HB.out.trans (hb2.mono HB.out.size));clear hb2;go_wp2_with fail;go_at_call 139;refine(Q2.out w2).mono ?_;rintro e w3 ⟨rfl,hb3⟩;have HB3:=Lib.hid (HB2.out.trans (hb3.mono HB2.out.size));clear hb3
        by_cases c2:most<(l:Int)
        · have d3:decide (most<(l:Int))=true:=decide_eq_true c2;have hE:Hid (powN X n most=(0,false)):=HL.out (k+1) hkn (by rw[HLL.out];exact c2);go_wp2;go_ret2;refine⟨?_,HB3.out⟩;rw[hE.out,HS0.out]
          rfl
        · have d3:decide (most<(l:Int))=false:=decide_eq_false c2;have hle:Hid (s2=str (dec (X^(k+1)))/\(k+1=0∨(lb (X^(k+1)):Int)<=most)):=⟨HS2.out.symm,.inr (by rw[HLL.out];omega)⟩
          go_wp2
          go_roundw
          case rel=>exact⟨k+1,s2,hkn,by go_num,rfl,hle.out,HB3.out⟩
          case measure=>simp[intOf];omega
      · have d2:decide ((k:Int)<n)=false:=decide_eq_false c1
        have hE : Hid (powN X n most = (X ^ k, true)) := HF.out k (by omega) (by rcases hlk with rfl | h; · omega
                                                                                 · exact h)
        have HSK:=Lib.hid hsk;clear hs hb hsk hlk hz0 hz1;go_wp2;go_ret2;refine⟨?_,HB.out⟩;rw[hE.out,HSK.out]
        rfl
theorem slong_any (v : Value) (X n B : Nat) (most : Int) (w : World) (h : NatIs w v X) (hB : nbits X = B + 1) (hBl : B <= 1000) (hn : n <= 9223372036854775807) (hm : most <= 536870912) (hm0 : -9223372036854775808 <= most) :
    Calls Tryz.prog 240 #[v,.int .i64 n,.int .i64 most] w fun e w'=>e=.returned (.bool (decide (most<1∨32*most<=((n*B:Nat):Int))))/\Below w.heap.size w w':=by
 obtain⟨P,hP⟩:∃P,n*B=P:=⟨_,rfl⟩
 have hM:=Lib.hid (fun wz=>Tryz.bits_Mul64 n B (by omega) (by omega) wz);rw[hP]at hM ⊢;obtain⟨H,hH⟩:∃H,P / 18446744073709551616=H:=⟨_,rfl⟩
 obtain⟨L,hL⟩:∃L,P%18446744073709551616=L:=⟨_,rfl⟩
 obtain⟨q,hq⟩:∃q,L / 32=q:=⟨_,rfl⟩
 rw[hH,hL]at hM;have hLl:L<18446744073709551616:=by omega
 have hHl:H<18446744073709551616:=by
  have:n*B<=9223372036854775807*1000:=Nat.mul_le_mul hn hBl
  omega
 have hbb0:=fun w1 (hb:Below w.heap.size w w1)=>bits_any v X w1 (h.below hb)
 obtain⟨a,k,c,f,rfl,hs,hv,ht⟩:=h;have hbb:=hbb0 (w.alloc (.cells #[.slice a k c] 49)) ((Below.refl _ _).alloc (Nat.le_refl _) _);clear hbb0;obtain⟨B1,hB1⟩:∃B1,nbits X=B1:=⟨_,rfl⟩
 rw[hB1]at hbb;have e0:(B1:Int)-1=(B:Int):=by omega
 have e1:(n:Int)%18446744073709551616=(n:Int):=by omega
 have e2:(B:Int)%18446744073709551616=(B:Int):=by omega
 have e3:(L:Int) / 32=(q:Int):=by omega
 have hB1l:B1<=1001:=by omega
 have hsum:P=H*18446744073709551616+L:=by omega
 have HBB:=Lib.hid hbb;have hql:q<18446744073709551616:=by omega
 have hfin:H=0->(32*most<=(P:Int)↔most<=(q:Int)):=by omega
 have hover:0<H->32*most<=(P:Int):=by omega
 have HFIN:=Lib.hid hfin;have HOV:=Lib.hid hover;clear hs hv ht hP hH hL hq hbb hsum hB1 hB hfin hover
 by_cases c0:most<1
 · have d0:decide (most<1)=true:=decide_eq_true c0;have hE:decide (most<1∨32*most<=(P:Int))=true:=decide_eq_true (.inl c0);rw[hE];clear hE;go_enter Tryz.func240,Tryz.ntmps240;go_wp2_with fail;go_at_call 254;refine HBB.out.mono ?_;rintro e w1 ⟨rfl,hb1⟩;go_wp2_with fail;go_at_call 255;refine(hM.out w1).mono ?_;rintro e w2 ⟨rfl,hw⟩;subst hw;go_wp2;go_ret;exact⟨rfl,below_alloc hb1⟩
 · have d0 : decide (most < 1) = false := decide_eq_false c0; obtain ⟨m, hm1⟩ : ∃ m : Nat, most = (m : Int) := ⟨most.toNat, by omega⟩
   subst hm1;have e4:(m:Int)%18446744073709551616=(m:Int):=by omega
   by_cases c1:0<H
   · have d1:decide ((0:Int)<(H:Int))=true:=decide_eq_true (by omega);have hE:decide ((m:Int)<1∨32*(m:Int)<=(P:Int))=true:=decide_eq_true (.inr (HOV.out c1));rw[hE];clear hE;go_enter Tryz.func240,Tryz.ntmps240;go_wp2_with fail;go_at_call 254;refine HBB.out.mono ?_;rintro e w1 ⟨rfl,hb1⟩;go_wp2_with fail;go_at_call 255;refine(hM.out w1).mono ?_;rintro e w2 ⟨rfl,hw⟩;subst hw;go_wp2;go_ret;exact⟨rfl,below_alloc hb1⟩
   · obtain rfl:H=0:=by omega
     have d1:decide ((0:Int)<((0:Nat):Int))=false:=rfl
     have hE:decide ((m:Int)<1∨32*(m:Int)<=(P:Int))=decide ((m:Int)<=(q:Int)):=by
      have:=HFIN.out rfl;rw[Bool.eq_iff_iff,decide_eq_true_eq,decide_eq_true_eq];omega
     rw[hE];clear hE;go_enter Tryz.func240,Tryz.ntmps240;go_wp2_with fail;go_at_call 254;refine HBB.out.mono ?_;rintro e w1 ⟨rfl,hb1⟩;go_wp2_with fail;go_at_call 255;refine(hM.out w1).mono ?_;rintro e w2 ⟨rfl,hw⟩;subst hw;go_wp2;go_ret;exact⟨by simp,below_alloc hb1⟩
theorem NatIs.store{w:World}{v:Value}{N k:Nat}{x:Value}(h:NatIs w v N)(hs:w.cell? ⟨k,0,none⟩=some x)(hx:∀ki z,x ≠ .int ki z)(u:Value):NatIs (w.setCell ⟨k,0,none⟩ u) v N:=by
 obtain⟨a,n,c,f,rfl,⟨h1,h2,h3,h4⟩,hv,ht⟩:=h;refine⟨a,n,c,f,rfl,⟨h1,h2,h3,?_⟩,hv,ht⟩
 rcases h4 with h4|⟨b,off,rfl,hb,hc⟩
 · exact .inl h4
 · refine .inr ⟨b,off,rfl,by simpa using hb,fun j hj => ?_⟩
   rw[World.cell?_setCell_other _ _ _ _ (fun e' => ?_)]
   · exact hc j hj
   · have h5:=hc j hj;rw[show(⟨b,off+j,none⟩:Addr)=⟨k,0,none⟩from by first|exact e'|exact e'.symm,hs]at h5;exact hx _ _ (Option.some.inj h5)
def PowTold(w w':World)(e:Ending)(N:Nat)(b:Bool):Prop:=∃a n c,e=.returned (.tuple #[.agg #[.slice a n c],.bool b])/\NatIs w' (.agg #[.slice a n c]) N/\Below w.heap.size w w'
structure PI(w wr:World)(x:Value)(X:Nat):Prop where
 below:Below w.heap.size w wr
 s1:Slot wr w.heap.size x
 s2:Slot wr (w.heap.size+1) (.slice none 0 0)
 xs:NatIs wr (.agg #[x]) X
theorem PI.go{w wr w2:World}{x:Value}{X:Nat}(h:PI w wr x X)(hb:Below wr.heap.size wr w2):PI w w2 x X :=
 ⟨h.below.trans (hb.mono h.below.size),h.s1.below hb,h.s2.below hb,h.xs.below hb⟩
theorem PI.done {w wr : World} {x : Value} {X : Nat} (h : PI w wr x X) {a : Option Addr} {n c N : Nat} (hv : NatIs wr (.agg #[.slice a n c]) N) (b : Bool) :
    PowTold w (wr.setCell ⟨w.heap.size+1,0,none⟩ (.slice a n c)) (.returned (.tuple #[.agg #[.slice a n c],.bool b])) N b :=
 ⟨a,n,c,rfl,hv.store h.s2.cell (fun _ _ h=>by cases h) _,h.below.setCell (show w.heap.size<=w.heap.size+1 by omega) _⟩
theorem PI.start{w:World}{a:Option Addr}{n c X:Nat}(h:NatIs w (.agg #[.slice a n c]) X):PI w ((w.alloc (.cells #[.slice a n c] 49)).alloc (.cells #[.slice none 0 0] 49)) (.slice a n c) X :=
 have hb:Below w.heap.size w ((w.alloc (.cells #[.slice a n c] 49)).alloc (.cells #[.slice none 0 0] 49)):=((Below.refl _ _).alloc (Nat.le_refl _) _).alloc (by rw[World.size_alloc];omega) _
 ⟨hb,(Slot.new w _ _).alloc _,Slot.new1 w _ _ _,h.below hb⟩
theorem pow_one (v : Value) (X : Nat) (n most : Int) (w : World) (h : NatIs w v X) (hn : n <= 0 ∨ X = 1) :
    Calls Tryz.prog 215 #[v,.int .i64 n,.int .i64 most] w fun e w'=>PowTold w w' e 1 true:=by
 obtain⟨a,k,c,f,rfl,hs,hv,ht⟩:=h;have HP:=Lib.hid (PI.start (w:=w) ⟨a,k,c,f,rfl,hs,hv,ht⟩);have hON:=Lib.hid (one_any (.agg #[.slice a k c]) X _ HP.out.xs);clear hs hv ht
 by_cases c1:n<=0
 · have d1:decide (n<=0)=true:=decide_eq_true c1;go_enter Tryz.func215,Tryz.ntmps215;go_wp2_with fail;go_at_call 146;refine(of_told 1 _ (by omega)).mono ?_;rintro e w3 ⟨a3,n3,c3,rfl,hn3,hb3⟩;have HQ:=HP.out.go hb3;have hc:=HQ.s2.cell;have hf:=HQ.s2.free;have HE:=Lib.hid (HQ.done hn3 true);clear HQ hn3 hb3;go_wp2;exact bodyPost_ret (v:=.tuple #[.agg #[.slice a3 n3 c3],.bool true]) (by simp[results,Tryz.results215,go_sem,hc]) rfl HE.out
 · have d1:decide (n<=0)=false:=decide_eq_false c1;have hX1:X=1:=by omega
   rw[decide_eq_true hX1]at hON;have hc0:=HP.out.s1.cell;go_enter Tryz.func215,Tryz.ntmps215;go_wp2_with fail;go_at_call 168;refine hON.out.mono ?_;rintro e w2 ⟨rfl,hb2⟩;have HP2:=Lib.hid (HP.out.go hb2);clear hb2 hc0;go_wp2_with fail;go_at_call 146;refine(of_told 1 _ (by omega)).mono ?_;rintro e w3 ⟨a3,n3,c3,rfl,hn3,hb3⟩;have HQ:=HP2.out.go hb3;have hc:=HQ.s2.cell;have hf:=HQ.s2.free;have HE:=Lib.hid (HQ.done hn3 true);clear HQ hn3 hb3;go_wp2;exact bodyPost_ret (v:=.tuple #[.agg #[.slice a3 n3 c3],.bool true]) (by simp[results,Tryz.results215,go_sem,hc]) rfl HE.out
theorem pow_zero (v : Value) (n most : Int) (w : World) (h : NatIs w v 0) (hn : 0 < n) :
    Calls Tryz.prog 215 #[v,.int .i64 n,.int .i64 most] w fun e w'=>PowTold w w' e 0 true:=by
 obtain⟨a,k,c,f,rfl,hs,hv,ht⟩:=h;have HP:=Lib.hid (PI.start (w:=w) ⟨a,k,c,f,rfl,hs,hv,ht⟩);have hON:=Lib.hid (one_any (.agg #[.slice a k c]) 0 _ HP.out.xs);have hZN:=Lib.hid (fun wz h=>zero_any (.agg #[.slice a k c]) 0 wz h);clear hs hv ht;have d1:decide (n<=0)=false:=decide_eq_false (by omega);have hc0:=HP.out.s1.cell;go_enter Tryz.func215,Tryz.ntmps215;go_wp2_with fail;go_at_call 168;refine hON.out.mono ?_;rintro e w2 ⟨rfl,hb2⟩;have HP2:=Lib.hid (HP.out.go hb2);have hc1:=HP2.out.s1.cell;clear hb2 hc0;go_wp2_with fail;go_at_call 114;refine(hZN.out _ HP2.out.xs).mono ?_;rintro e w3 ⟨rfl,hb3⟩;have HQ:=HP2.out.go hb3;have hc:=HQ.s2.cell;have hf:=HQ.s2.free;have HE:=Lib.hid (HQ.done (NatIs.zero _) true);clear HQ hb3;go_wp2;exact bodyPost_ret (v:=.tuple #[.agg #[.slice none 0 0],.bool true]) (by simp[results,Tryz.results215,go_sem,hc]) rfl HE.out
theorem lb_lt{N q:Nat}(h:lb N<=q):N<4294967296^q:=by
 have:=lb_le.1 h;rw[Nat.pow_mul]at this;exact this
theorem lb_of{N n:Nat}(h:N<4294967296^n/\(0<n->4294967296^(n-1)<=N)):lb N=n:=by
 have e:∀m,(4294967296:Nat)^m=2^(32*m):=fun m=>by rw[Nat.pow_mul]
 refine Nat.le_antisymm (lb_le.2 (by rw[← e];exact h.1)) ?_
 rcases Nat.eq_zero_or_pos n with h0|h0
 · omega
 · have h1:=h.2 h0
   rcases Nat.lt_or_ge (lb N) n with h2|h2
   · have:=lb_lt (show lb N<=n-1 by omega)
     omega
   · exact h2
structure PS(w wr:World)(x:Value)(X z8 E:Nat)(p:Value):Prop where
 pi:PI w wr x X
 lt8:w.heap.size+1<z8
 s8:Slot wr z8 p
 np:NatIs wr (.agg #[p]) (X^E)
theorem PS.go{w wr w2:World}{x p:Value}{X z8 E:Nat}(h:PS w wr x X z8 E p)(hb:Below wr.heap.size wr w2):PS w w2 x X z8 E p :=
 ⟨h.pi.go hb,h.lt8,h.s8.below hb,h.np.below hb⟩
theorem PS.put {w wr : World} {x : Value} {X z8 E E2 : Nat} {a a2 : Option Addr} {n c n2 c2 : Nat} (h : PS w wr x X z8 E (.slice a n c)) (hv : NatIs wr (.agg #[.slice a2 n2 c2]) (X ^ E2)) :
    PS w (wr.setCell ⟨z8,0,none⟩ (.slice a2 n2 c2)) x X z8 E2 (.slice a2 n2 c2):=by
 have hlt:=h.lt8;have hw:Wrote z8 0 1 wr (wr.setCell ⟨z8,0,none⟩ (.slice a2 n2 c2)):=(Wrote.refl z8 0 1 wr).setCell (Nat.le_refl _) (by omega) _;refine⟨⟨h.pi.below.setCell (show w.heap.size<=z8 by omega) _,h.pi.s1.wrote hw (by omega),h.pi.s2.wrote hw (by omega),h.pi.xs.store h.s8.cell (fun _ _ h=>by cases h) _⟩,hlt,⟨World.cell?_setCell_same _ _ _ h.s8.cell,by simp[h.s8.free],by simpa using h.s8.lt⟩,hv.store h.s8.cell (fun _ _ h=>by cases h) _⟩
theorem exp_step{n D j:Nat}(h:j<D):n / 2^(D-(j+1))=2*(n / 2^(D-j))+n / 2^(D-(j+1))%2:=by
 have e:2^(D-j)=2^(D-(j+1))*2:=by rw[← Nat.pow_succ];congr 1;omega
 rw[e,← Nat.div_div_eq_div_mul];omega
end Go.Proofs.YtdmmenaejkpnjaaGreatDoor
namespace Go.Proofs.YtdmmenaejkpnjaaGreatDoor
open Go.RowKit
attribute [local go_sem ↓] Go.wp_at_zero Go.wp_at_succ
theorem limited_any (a : Option Addr) (n c : Nat) (m : Bool) (a2 : Option Addr) (n2 c2 : Nat) (P : Int) (Q : Nat) (w : World) (h : RatAt w a n c m a2 n2 c2 P Q) (hQ : 0 < Q) :
    Calls Tryz.prog 177 #[.agg #[.slice a n c,.bool m,.slice a2 n2 c2]] w fun e w'=>e=.returned (.bool (decide (Q=1)&&(decide (P.natAbs=0)||decide (P.natAbs=1))))/\Below w.heap.size w w':=by
 have B0:=((Bag.start w).rat h).box3 (.slice a n c) (.bool m) (.slice a2 n2 c2) 53;have IW:=Lib.hid (fun wz hz=>isWhole_any a n c m a2 n2 c2 P Q wz hz hQ);have ZE:=Lib.hid (fun wz (h:NatIs wz (.agg #[.slice a n c]) P.natAbs)=>zero_any _ P.natAbs wz h);have ON:=Lib.hid (fun wz (h:NatIs wz (.agg #[.slice a n c]) P.natAbs)=>one_any _ P.natAbs wz h);have BB:=Lib.hid B0;have⟨q0,q1,q2⟩:=B0.now.1.c3;generalize decide (Q=1)=x at *;generalize decide (P.natAbs=0)=y at *;generalize decide (P.natAbs=1)=z at *;clear h hQ B0
 cases x
 · go_enter Tryz.func177,Tryz.ntmps177
   go_wp2_with (first
    | (go_at_call 120;(with_reducible refine(IW.out _ BB.out.now.2.1).mono ?_);rintro e w2 ⟨rfl,hb2⟩;have BB:=Lib.hid (BB.out.go hb2);clear hb2))
   go_ret;exact⟨rfl,BB.out.below⟩
 · cases y
   all_goals
    go_enter Tryz.func177,Tryz.ntmps177
    go_wp2_with (first
     | (go_at_call 120;(with_reducible refine(IW.out _ BB.out.now.2.1).mono ?_);rintro e w2 ⟨rfl,hb2⟩;have BB:=Lib.hid (BB.out.go hb2);clear hb2;have q0:=BB.out.now.1.cell;have q1:=BB.out.now.1.cell1;have q2:=BB.out.now.1.cell2)
     | (go_at_call 114;(with_reducible refine(ZE.out _ BB.out.now.2.1.int.nt).mono ?_);rintro e w3 ⟨rfl,hb3⟩;have BB:=Lib.hid (BB.out.go hb3);clear hb3;have q0:=BB.out.now.1.cell;have q1:=BB.out.now.1.cell1;have q2:=BB.out.now.1.cell2)
     | (go_at_call 168;(with_reducible refine(ON.out _ BB.out.now.2.1.int.nt).mono ?_);rintro e w4 ⟨rfl,hb4⟩;have BB:=Lib.hid (BB.out.go hb4);clear hb4))
    go_ret;exact⟨rfl,BB.out.below⟩
theorem ratInt_any (a : Option Addr) (n c : Nat) (m : Bool) (a2 : Option Addr) (n2 c2 : Nat) (P : Int) (Q : Nat) (w : World) (h : RatAt w a n c m a2 n2 c2 P Q) (hQ : 0 < Q) :
    Calls Tryz.prog 212 #[.agg #[.slice a n c,.bool m,.slice a2 n2 c2]] w fun e w'=>e=.returned (.tuple #[.int .i64 (if Q=1 then fitI P else 0),.bool (decide (Q=1)&&fitB P)])/\Below w.heap.size w w':=by
 have B0:=((Bag.start w).rat h).box3 (.slice a n c) (.bool m) (.slice a2 n2 c2) 53;have IW:=Lib.hid (fun wz hz=>isWhole_any a n c m a2 n2 c2 P Q wz hz hQ);have IN:=Lib.hid (fun wz (h:IntAt wz a n c m P)=>int_any a n c m P wz h);have BB:=Lib.hid B0
 by_cases h1:Q=1
 · rw[decide_eq_true h1]at IW ⊢;rw[if_pos h1,Bool.true_and];generalize fitI P=x at *;generalize fitB P=y at *;clear h hQ B0 h1;go_enter Tryz.func212,Tryz.ntmps212
   go_wp2_with (first
    | (go_at_call 120;(with_reducible refine(IW.out _ BB.out.now.2.1).mono ?_);rintro e w2 ⟨rfl,hb2⟩;have BB:=Lib.hid (BB.out.go hb2);clear hb2;have q0:=BB.out.now.1.cell;have q1:=BB.out.now.1.cell1)
    | (go_at_call 229;(with_reducible refine(IN.out _ BB.out.now.2.1.int).mono ?_);rintro e w3 ⟨rfl,hb3⟩;have BB:=Lib.hid (BB.out.go hb3);clear hb3))
   go_ret2;exact⟨rfl,BB.out.below⟩
 · rw[decide_eq_false h1]at IW ⊢;rw[if_neg h1,Bool.false_and];clear h hQ B0 h1 IN;go_enter Tryz.func212,Tryz.ntmps212
   go_wp2_with (first
    | (go_at_call 120;(with_reducible refine(IW.out _ BB.out.now.2.1).mono ?_);rintro e w2 ⟨rfl,hb2⟩;have BB:=Lib.hid (BB.out.go hb2);clear hb2))
   go_ret2;exact⟨rfl,BB.out.below⟩
def lbs(N:Nat):Nat:=(nbits N+31) / 32
theorem ratLimbs_any (a : Option Addr) (n c : Nat) (m : Bool) (a2 : Option Addr) (n2 c2 : Nat) (P : Int) (Q : Nat) (w : World) (h : RatAt w a n c m a2 n2 c2 P Q) (hQ : 0 < Q) :
    Calls Tryz.prog 126 #[.agg #[.slice a n c,.bool m,.slice a2 n2 c2]] w fun e w'=>e=.returned (.int .i64 (max (lbs P.natAbs:Int) (lbs Q:Int)))/\Below w.heap.size w w':=by
 have B0:=((Bag.start w).rat h).box3 (.slice a n c) (.bool m) (.slice a2 n2 c2) 53;have BT:=Lib.hid (fun wz hz=>bot_any a n c m a2 n2 c2 P Q wz hz hQ);have L1:Hid (∀wz,NatIs wz (.agg #[.slice a n c]) P.natAbs->Calls Tryz.prog 187 #[.agg #[.slice a n c]] wz fun e w'=>e=.returned (.int .i64 (lbs P.natAbs:Nat))/\Below wz.heap.size wz w'):=fun wz h=>limbs_bits _ P.natAbs wz h
 have L2:Hid (∀a n c wz,NatIs wz (.agg #[.slice a n c]) Q->Calls Tryz.prog 187 #[.agg #[.slice a n c]] wz fun e w'=>e=.returned (.int .i64 (lbs Q:Nat))/\Below wz.heap.size wz w'):=fun a n c wz h=>limbs_bits _ Q wz h
 have BB:=Lib.hid B0;generalize lbs P.natAbs=x at *;generalize lbs Q=y at *;clear h hQ B0;go_enter Tryz.func126,Tryz.ntmps126;go_wp2_with fail;have BB:=Lib.hid BB.out.drew
 go_region_held3 (fun y => y.cell? ⟨w.heap.size, 0, none⟩ = some (.slice a n c) /\ y.cell? ⟨w.heap.size, 1, none⟩ = some (.bool m) /\ y.cell? ⟨w.heap.size, 2, none⟩ = some (.slice a2 n2 c2))
  (exact⟨BB.out.now.1.cell,BB.out.now.1.cell1,BB.out.now.1.cell2⟩)
  (first
    | (go_at_call 187;(with_reducible refine(L1.out _ BB.out.now.2.1.int.nt).mono ?_);rintro e w2 ⟨rfl,hb2⟩;have BB:=Lib.hid (BB.out.go hb2))
    | (go_at_call 74;(with_reducible refine(BT.out _ BB.out.now.2.1).mono ?_);rintro e w3 ⟨a3,n3,c3,rfl,hn3,hb3⟩;have BB:=Lib.hid (BB.out.go hb3))
    | (go_at_call 187;(with_reducible refine(L2.out _ _ _ _ hn3).mono ?_);rintro e w4 ⟨rfl,hb4⟩;have BB:=Lib.hid (BB.out.go hb4)))
 go_wp2;go_ret;exact⟨rfl,BB.out.below⟩
theorem ratCmp_any (a : Option Addr) (n c : Nat) (m : Bool) (a2 : Option Addr) (n2 c2 : Nat) (P : Int) (Q : Nat) (b : Option Addr) (k l : Nat) (v : Bool) (b2 : Option Addr) (k2 l2 : Nat) (P' : Int) (Q' : Nat) (w : World)
    (h:RatAt w a n c m a2 n2 c2 P Q) (g:RatAt w b k l v b2 k2 l2 P' Q') (hQ:0<Q) (hQ':0<Q') (K:Nat) (hK:K<=400000) (h1:P.natAbs<4294967296^K) (h2:Q<4294967296^K) (h3:P'.natAbs<4294967296^K) (h4:Q'<4294967296^K) :
    Calls Tryz.prog 61 #[.agg #[.slice a n c,.bool m,.slice a2 n2 c2],.agg #[.slice b k l,.bool v,.slice b2 k2 l2]] w fun e w'=>e=.returned (.int .i64 (cmpZ (P*Q') (P'*Q)))/\Below w.heap.size w w':=by
 have B0:=((((Bag.start w).rat h).rat g).box3 (.slice a n c) (.bool m) (.slice a2 n2 c2) 53).box3 (.slice b k l) (.bool v) (.slice b2 k2 l2) 53;simp only[World.size_alloc]at B0;have IW:=Lib.hid (fun wz hz=>isWhole_any a n c m a2 n2 c2 P Q wz hz hQ);have IW':=Lib.hid (fun wz hz=>isWhole_any b k l v b2 k2 l2 P' Q' wz hz hQ');have BB:=Lib.hid B0;have⟨q0,q1,q2⟩:=B0.now.2.1.c3;have⟨r0,r1,r2⟩:=B0.now.1.c3
 by_cases hw:Q=1/\Q'=1
 · obtain⟨rfl,rfl⟩:=hw;have CM:=Lib.hid (fun wz (h:IntAt wz a n c m P) (g:IntAt wz b k l v P')=>icmp_any a n c m P b k l v P' wz h g);rw[show P*((1:Nat):Int)=P from Int.mul_one P,show P'*((1:Nat):Int)=P' from Int.mul_one P'];rw[decide_eq_true rfl]at IW IW';generalize cmpZ P P'=z at *;clear h g B0 h1 h2 h3 h4 hQ hQ';go_enter Tryz.func61,Tryz.ntmps61
   go_wp2_with (first
    | (go_at_call 120;(with_reducible refine(IW.out _ BB.out.now.2.2.2.1).mono ?_);rintro e w2 ⟨rfl,hb2⟩;have BB:=Lib.hid (BB.out.go hb2);clear hb2;have q0:=BB.out.now.2.1.cell;have q1:=BB.out.now.2.1.cell1;have r0:=BB.out.now.1.cell;have r1:=BB.out.now.1.cell1;have r2:=BB.out.now.1.cell2)
    | (go_at_call 120;(with_reducible refine(IW'.out _ BB.out.now.2.2.1).mono ?_);rintro e w3 ⟨rfl,hb3⟩;have BB:=Lib.hid (BB.out.go hb3);clear hb3;have q0:=BB.out.now.2.1.cell;have q1:=BB.out.now.2.1.cell1;have r0:=BB.out.now.1.cell;have r1:=BB.out.now.1.cell1)
    | (go_at_call 121;(with_reducible refine(CM.out _ BB.out.now.2.2.2.1.int BB.out.now.2.2.1.int).mono ?_);rintro e w4 ⟨rfl,hb4⟩;have BB:=Lib.hid (BB.out.go hb4);clear hb4))
   go_ret;exact⟨rfl,BB.out.below⟩
 · have BL := Lib.hid (fun wz (h : RatAt wz a n c m a2 n2 c2 P Q) => below_any a n c m a2 n2 c2 P Q wz h hQ); have BL' := Lib.hid (fun wz (h : RatAt wz b k l v b2 k2 l2 P' Q') => below_any b k l v b2 k2 l2 P' Q' wz h hQ'); have T1 := Lib.hid (fun sa wz (h : IntAt wz a n c m P) (g : IntsAt wz sa 1 1 (fun _ => (Q' : Int))) => times1_any a n c m P sa Q' wz h g K hK h1 (by rw [Int.natAbs_natCast]; exact h4)); have T2 := Lib.hid (fun sa wz (h : IntAt wz b k l v P') (g : IntsAt wz sa 1 1 (fun _ => (Q : Int))) => times1_any b k l v P' sa Q wz h g K hK h3 (by rw [Int.natAbs_natCast]; exact h2)); have CM := Lib.hid (fun a n c m a2 n2 c2 m2 wz (h : IntAt wz a n c m (P * Q')) (g : IntAt wz a2 n2 c2 m2 (P' * Q)) => icmp_any a n c m (P * Q') a2 n2 c2 m2 (P' * Q) wz h g); generalize cmpZ (P * Q') (P' * Q) = z at *; generalize P * (Q' : Int) = X at *; generalize P' * (Q : Int) = Y at *
   have hx:∃x y:Bool,decide (Q=1)=x/\decide (Q'=1)=y/\(x&&y)=false:=⟨_,_,rfl,rfl,by
    by_cases e1:Q=1
    · rw[decide_eq_false (fun e2=>hw ⟨e1,e2⟩)];simp
    · rw[decide_eq_false e1];rfl⟩
   obtain⟨x,y,hx1,hx2,hxy⟩:=hx;rw[hx1]at IW;rw[hx2]at IW';clear h g B0 h1 h2 h3 h4 hQ hQ' hx1 hx2 hw
   cases x<;>cases y
   all_goals
    first
     | (exact absurd hxy (by decide))
     | skip
   all_goals
    clear hxy;go_enter Tryz.func61,Tryz.ntmps61
    go_wp2_with (first
     | (go_at_call 120;(with_reducible refine(IW.out _ BB.out.now.2.2.2.1).mono ?_);rintro e w2 ⟨rfl,hb2⟩;have BB:=Lib.hid (BB.out.go hb2);clear hb2;have q0:=BB.out.now.2.1.cell;have q1:=BB.out.now.2.1.cell1;have r0:=BB.out.now.1.cell;have r1:=BB.out.now.1.cell1;have r2:=BB.out.now.1.cell2)
     | (go_at_call 120;(with_reducible refine(IW'.out _ BB.out.now.2.2.1).mono ?_);rintro e w3 ⟨rfl,hb3⟩;have BB:=Lib.hid (BB.out.go hb3);clear hb3;have q0:=BB.out.now.2.1.cell;have q1:=BB.out.now.2.1.cell1;have r0:=BB.out.now.1.cell;have r1:=BB.out.now.1.cell1))
    have BB:=Lib.hid BB.out.drew
    go_region_held3 (fun y => (y.cell? ⟨w.heap.size, 0, none⟩ = some (.slice a n c) /\ y.cell? ⟨w.heap.size, 1, none⟩ = some (.bool m) /\ y.cell? ⟨w.heap.size, 2, none⟩ = some (.slice a2 n2 c2)) /\ y.cell? ⟨w.heap.size + 1, 0, none⟩ = some (.slice b k l) /\ y.cell? ⟨w.heap.size + 1, 1, none⟩ = some (.bool v) /\ y.cell? ⟨w.heap.size + 1, 2, none⟩ = some (.slice b2 k2 l2))
     (first
       | (exact⟨⟨BB.out.now.2.1.cell,BB.out.now.2.1.cell1,BB.out.now.2.1.cell2⟩,BB.out.now.1.cell,BB.out.now.1.cell1,BB.out.now.1.cell2⟩)
       | (exact(fun B9:Bag w _ _=>⟨⟨B9.now.2.1.cell,B9.now.2.1.cell1,B9.now.2.1.cell2⟩,B9.now.1.cell,B9.now.1.cell1,B9.now.1.cell2⟩) (BB.out.alloc _)))
     (first
       | (go_at_call 123;(with_reducible refine(BL'.out _ BB.out.now.2.2.1).mono ?_);rintro e w5 ⟨a5,n5,c5,m5,rfl,hi5,hb5⟩;have BB:=Lib.hid (BB.out.go hb5))
       | (go_at_call 122;(with_reducible refine(T1.out _ _ ?_ ?_).mono ?_);exact(BB.out.alloc _).now.2.2.2.1.int;exact IntsAt.mk1 rfl (hi5.below ((Below.refl _ _).alloc (Nat.le_refl _) _));rintro e w6 ⟨a6,n6,c6,m6,rfl,hi6,hb6⟩;have BB:=Lib.hid ((BB.out.alloc _).go hb6))
       | (go_at_call 123;(with_reducible refine(BL.out _ BB.out.now.2.2.2.1).mono ?_);rintro e w7 ⟨a7,n7,c7,m7,rfl,hi7,hb7⟩;have BB:=Lib.hid (BB.out.go hb7))
       | (go_at_call 122;(with_reducible refine(T2.out _ _ ?_ ?_).mono ?_);exact(BB.out.alloc _).now.2.2.1.int;exact IntsAt.mk1 rfl (hi7.below ((Below.refl _ _).alloc (Nat.le_refl _) _));rintro e w8 ⟨a8,n8,c8,m8,rfl,hi8,hb8⟩;have BB:=Lib.hid ((BB.out.alloc _).go hb8))
       | (go_at_call 121;(with_reducible refine(CM.out _ _ _ _ _ _ _ _ _ (((hi6.below hb7).below ((Below.refl _ _).alloc (Nat.le_refl _) _)).below hb8) hi8).mono ?_);rintro e w9 ⟨rfl,hb9⟩;have BB:=Lib.hid (BB.out.go hb9)))
    go_wp2;go_ret;exact⟨rfl,BB.out.below⟩
theorem by_walk (a : Option Addr) (n c : Nat) (m : Bool) (a2 : Option Addr) (n2 c2 : Nat) (P : Int) (Q : Nat) (b : Option Addr) (k l : Nat) (v : Bool) (b2 : Option Addr) (k2 l2 : Nat) (P' : Int) (Q' : Nat) (w : World)
    (h:RatAt w a n c m a2 n2 c2 P Q) (g:RatAt w b k l v b2 k2 l2 P' Q') (hQ:0<Q) (hQ':0<Q') (K:Nat) (hK:K<=400000) (h1:P.natAbs<4294967296^K) (h2:Q<4294967296^K) (h3:P'.natAbs<4294967296^K) (h4:Q'<4294967296^K)
    (X1:Int) (X2:Nat) (ok:Bool) (NW:Hid (∀a n c m b k l v wz,IntAt wz a n c m (P*Q')->IntAt wz b k l v (P'*Q)->Calls Tryz.prog 248 #[.agg #[.slice a n c,.bool m],.agg #[.slice b k l,.bool v]] wz fun e w'=>RatTold3 wz w' e X1 X2 ok)) :
    Calls Tryz.prog 223 #[.agg #[.slice a n c,.bool m,.slice a2 n2 c2],.agg #[.slice b k l,.bool v,.slice b2 k2 l2]] w fun e w'=>RatTold3 w w' e X1 X2 ok:=by
 have B0:=(((((Bag.start w).rat h).rat g).box3 (.slice a n c) (.bool m) (.slice a2 n2 c2) 53).box3 (.slice b k l) (.bool v) (.slice b2 k2 l2) 53).box3 (.slice none 0 0) (.bool false) (.slice none 0 0) 53;simp only[World.size_alloc]at B0;have BL:=Lib.hid (fun wz (h:RatAt wz a n c m a2 n2 c2 P Q)=>below_any a n c m a2 n2 c2 P Q wz h hQ);have BL':=Lib.hid (fun wz (h:RatAt wz b k l v b2 k2 l2 P' Q')=>below_any b k l v b2 k2 l2 P' Q' wz h hQ');have T1:=Lib.hid (fun sa wz (h:IntAt wz a n c m P) (g:IntsAt wz sa 1 1 (fun _=>(Q':Int)))=>times1_any a n c m P sa Q' wz h g K hK h1 (by rw[Int.natAbs_natCast];exact h4));have T2:=Lib.hid (fun sa wz (h:IntAt wz b k l v P') (g:IntsAt wz sa 1 1 (fun _=>(Q:Int)))=>times1_any b k l v P' sa Q wz h g K hK h3 (by rw[Int.natAbs_natCast];exact h2));have BB:=Lib.hid B0.drew;have he:w.heap.size≠w.heap.size+1+1/\w.heap.size+1≠w.heap.size+1+1:=by omega
 unfold RatTold3 at NW;generalize P*(Q':Int)=X at *;generalize P'*(Q:Int)=Y at *;clear h g B0 h1 h2 h3 h4 hQ hQ';go_enter Tryz.func223,Tryz.ntmps223;go_wp2_with fail
 go_region_held3 (fun y => (y.cell? ⟨w.heap.size, 0, none⟩ = some (.slice a n c) /\ y.cell? ⟨w.heap.size, 1, none⟩ = some (.bool m) /\ y.cell? ⟨w.heap.size, 2, none⟩ = some (.slice a2 n2 c2)) /\ y.cell? ⟨w.heap.size + 1, 0, none⟩ = some (.slice b k l) /\ y.cell? ⟨w.heap.size + 1, 1, none⟩ = some (.bool v) /\ y.cell? ⟨w.heap.size + 1, 2, none⟩ = some (.slice b2 k2 l2))
  (first
    | (exact⟨⟨z0.cell,z0.cell1,z0.cell2⟩,z1.cell,z1.cell1,z1.cell2⟩)
    | (exact⟨⟨BB.out.now.2.2.1.cell,BB.out.now.2.2.1.cell1,BB.out.now.2.2.1.cell2⟩,BB.out.now.2.1.cell,BB.out.now.2.1.cell1,BB.out.now.2.1.cell2⟩)
    | (exact(fun B9:Bag w _ _=>⟨⟨B9.now.2.2.1.cell,B9.now.2.2.1.cell1,B9.now.2.2.1.cell2⟩,B9.now.2.1.cell,B9.now.2.1.cell1,B9.now.2.1.cell2⟩) (BB.out.alloc _)))
  (first
    | (go_at_call 123;(with_reducible refine(BL'.out _ BB.out.now.2.2.2.1).mono ?_);rintro e w5 ⟨a5,n5,c5,m5,rfl,hi5,hb5⟩;have BB:=Lib.hid (BB.out.go hb5))
    | (go_at_call 122;(with_reducible refine(T1.out _ _ ?_ ?_).mono ?_);exact(BB.out.alloc _).now.2.2.2.2.1.int;exact IntsAt.mk1 rfl (hi5.below ((Below.refl _ _).alloc (Nat.le_refl _) _));rintro e w6 ⟨a6,n6,c6,m6,rfl,hi6,hb6⟩;have BB:=Lib.hid ((BB.out.alloc _).go hb6))
    | (go_at_call 123;(with_reducible refine(BL.out _ BB.out.now.2.2.2.2.1).mono ?_);rintro e w7 ⟨a7,n7,c7,m7,rfl,hi7,hb7⟩;have BB:=Lib.hid (BB.out.go hb7))
    | (go_at_call 122;(with_reducible refine(T2.out _ _ ?_ ?_).mono ?_);exact(BB.out.alloc _).now.2.2.2.1.int;exact IntsAt.mk1 rfl (hi7.below ((Below.refl _ _).alloc (Nat.le_refl _) _));rintro e w8 ⟨a8,n8,c8,m8,rfl,hi8,hb8⟩;have BB:=Lib.hid ((BB.out.alloc _).go hb8))
    | (go_at_call 248;(with_reducible refine(NW.out _ _ _ _ _ _ _ _ _ (((hi6.below hb7).below ((Below.refl _ _).alloc (Nat.le_refl _) _)).below hb8) hi8).mono ?_);rintro e w9 ⟨a9,n9,c9,m9,a10,n10,c10,rfl,hr,hb9⟩;have BB:=Lib.hid (BB.out.go hb9);have hs:=BB.out.now.1;have r0:=hs.cell;have r1:=hs.cell1;have r2:=hs.cell2;have g0:=hs.free;have g1:=hs.free1;have g2:=hs.free2;have HS:=hs.set (.slice a9 n9 c9) (.bool m9) (.slice a10 n10 c10);have z0:=BB.out.now.2.2.1.set3o he.1 (.slice a9 n9 c9) (.bool m9) (.slice a10 n10 c10);have z1:=BB.out.now.2.1.set3o he.2 (.slice a9 n9 c9) (.bool m9) (.slice a10 n10 c10);have HE:=Lib.hid (RatTold3.done ok BB.out.below (by omega) hs hr)))
 go_wp2;exact bodyPost_ret (by simp[results,Tryz.results223,go_sem,HS]) rfl HE.out
theorem mul_lt32{X Y K:Nat}(h:X<4294967296^K)(g:Y<4294967296^K):X*Y<4294967296^(K+K):=by rw[Nat.pow_add];exact Nat.mul_lt_mul'' h g
theorem mulZ_lt32{X:Int}{Y K:Nat}(h:X.natAbs<4294967296^K)(g:Y<4294967296^K):(X*Y).natAbs<4294967296^(K+K):=by
 rw[Int.natAbs_mul,Int.natAbs_natCast];exact mul_lt32 h g
theorem by_zero (a : Option Addr) (n c : Nat) (m : Bool) (a2 : Option Addr) (n2 c2 : Nat) (P : Int) (Q : Nat) (b : Option Addr) (k l : Nat) (v : Bool) (b2 : Option Addr) (k2 l2 : Nat) (Q' : Nat) (w : World)
    (h:RatAt w a n c m a2 n2 c2 P Q) (g:RatAt w b k l v b2 k2 l2 0 Q') (hQ:0<Q) (hQ':0<Q') (K:Nat) (hK:K<=400000) (h1:P.natAbs<4294967296^K) (h2:Q<4294967296^K) (h4:Q'<4294967296^K) :
    Calls Tryz.prog 223 #[.agg #[.slice a n c,.bool m,.slice a2 n2 c2],.agg #[.slice b k l,.bool v,.slice b2 k2 l2]] w fun e w'=>RatTold3 w w' e 0 1 false :=
 by_walk a n c m a2 n2 c2 P Q b k l v b2 k2 l2 0 Q' w h g hQ hQ' K hK h1 h2 (Nat.pow_pos (by omega)) h4 0 1 false (Lib.hid fun a n c m b k l v wz h g=>by
  rw[Int.zero_mul]at g;exact new_zero a n c m (P*Q') b k l v wz h g)
theorem by_some (a : Option Addr) (n c : Nat) (m : Bool) (a2 : Option Addr) (n2 c2 : Nat) (P : Int) (Q : Nat) (b : Option Addr) (k l : Nat) (v : Bool) (b2 : Option Addr) (k2 l2 : Nat) (P' : Int) (Q' : Nat) (w : World)
    (h:RatAt w a n c m a2 n2 c2 P Q) (g:RatAt w b k l v b2 k2 l2 P' Q') (hQ:0<Q) (hQ':0<Q') (hP:P'≠0) (K:Nat) (hK:K<=400000) (h1:P.natAbs<4294967296^K) (h2:Q<4294967296^K) (h3:P'.natAbs<4294967296^K) (h4:Q'<4294967296^K) :
    Calls Tryz.prog 223 #[.agg #[.slice a n c,.bool m,.slice a2 n2 c2],.agg #[.slice b k l,.bool v,.slice b2 k2 l2]] w fun e w'=>RatTold3 w w' e (nwP (P*Q') (P'*Q)) (nwQ (P*Q') (P'*Q)) true :=
 by_walk a n c m a2 n2 c2 P Q b k l v b2 k2 l2 P' Q' w h g hQ hQ' K hK h1 h2 h3 h4 _ _ true (Lib.hid fun a n c m b k l v wz h g =>
  new_some a n c m (P*Q') b k l v (P'*Q) wz h g (Int.mul_ne_zero hP (by omega)) (K+K) (by omega) (mulZ_lt32 h1 h4) (mulZ_lt32 h3 h2))
def NumTold(w w':World)(e:Ending)(P:Int)(Q:Nat):Prop:=e=.returned (.agg #[.bool (rB P),.string (rS P),.string (str (dec Q))])/\Below w.heap.size w w'
theorem NumTold.done {w w2 : World} {k : Nat} (P : Int) (Q : Nat) (hb : Below w.heap.size w w2) (hk : w.heap.size <= k) {b : Bool} {s t : ByteArray} (h1 : rB P = b) (h2 : rS P = s) (h3 : str (dec Q) = t) :
    NumTold w (((w2.setCell ⟨k,0,none⟩ (.bool b)).setCell ⟨k,1,none⟩ (.string s)).setCell ⟨k,2,none⟩ (.string t)) (.returned (.agg #[.bool b,.string s,.string t])) P Q :=
 ⟨by rw[h1,h2,h3],((hb.setCell hk _).setCell hk _).setCell hk _⟩
theorem num_any (a : Option Addr) (n c : Nat) (m : Bool) (a2 : Option Addr) (n2 c2 : Nat) (P : Int) (Q : Nat) (w : World) (h : RatAt w a n c m a2 n2 c2 P Q) (hQ : 0 < Q)
    (K:Nat) (hK:K<=100000) (h1:P.natAbs<4294967296^K) (h2:Q<4294967296^K) :
    Calls Tryz.prog 21 #[.agg #[.slice a n c,.bool m,.slice a2 n2 c2]] w fun e w'=>NumTold w w' e P Q:=by
 have B0:=(((Bag.start w).rat h).box3 (.slice a n c) (.bool m) (.slice a2 n2 c2) 53).box3 (.bool false) (.string ⟨#[]⟩) (.string ⟨#[]⟩) 46;simp only[World.size_alloc]at B0;have SG:=Lib.hid (fun wz hz=>ratSign_any a n c m a2 n2 c2 P Q wz hz);have BT:=Lib.hid (fun wz hz=>bot_any a n c m a2 n2 c2 P Q wz hz hQ);have X1:Hid (∀wz,NatIs wz (.agg #[.slice a n c]) P.natAbs->Calls Tryz.prog 73 #[.agg #[.slice a n c]] wz fun e w'=>e=.returned (.string (rS P))/\Below wz.heap.size wz w'):=fun wz h=>text_any _ P.natAbs wz h K hK h1
 have X2:=Lib.hid (fun a n c wz (h:NatIs wz (.agg #[.slice a n c]) Q)=>text_any (.agg #[.slice a n c]) Q wz h K hK h2);have BB:=Lib.hid B0.drew;have he:w.heap.size≠w.heap.size+1:=by omega
 have ND:=Lib.hid (fun w2 b s t (hb:Below w.heap.size w w2) (h1:rB P=b) (h2:rS P=s) (h3:str (dec Q)=t)=>NumTold.done (k:=w.heap.size+1) P Q hb (by omega) h1 h2 h3);obtain⟨s,hs⟩:∃s,rS P=s:=⟨_,rfl⟩
 obtain⟨t,ht⟩:∃t,str (dec Q)=t:=⟨_,rfl⟩
 rw[hs]at X1;rw[ht]at X2;have HS0:=Lib.hid hs;have HT0:=Lib.hid ht
 have hv:∃x b,sgnI P=x/\rB P=b/\((x = -1/\b=true)∨(x=0/\b=false)∨(x=1/\b=false)):=by
  refine⟨_,_,rfl,rfl,?_⟩;unfold sgnI rB
  by_cases e1:P<0
  · rw[if_pos e1,decide_eq_true e1];exact .inl ⟨rfl,rfl⟩
  · rw[if_neg e1,decide_eq_false e1]
    by_cases e2:P=0
    · rw[if_pos e2];exact .inr (.inl ⟨rfl,rfl⟩)
    · rw[if_neg e2];exact .inr (.inr ⟨rfl,rfl⟩)
 obtain⟨x,b,hx,hb0,hxb⟩:=hv;rw[hx]at SG;have HB0:=Lib.hid hb0;clear h hQ B0 h1 h2 hs ht hx hb0
 rcases hxb with ⟨rfl,rfl⟩|⟨rfl,rfl⟩|⟨rfl,rfl⟩
 · go_enter Tryz.func21, Tryz.ntmps21; go_wp2_with fail
   go_region_held3 (fun y => y.cell? ⟨w.heap.size, 0, none⟩ = some (.slice a n c) /\ y.cell? ⟨w.heap.size, 1, none⟩ = some (.bool m) /\ y.cell? ⟨w.heap.size, 2, none⟩ = some (.slice a2 n2 c2))
    (first
      | (exact⟨z0.cell,z0.cell1,z0.cell2⟩)
      | (exact⟨BB.out.now.2.1.cell,BB.out.now.2.1.cell1,BB.out.now.2.1.cell2⟩))
    (first
      | (go_at_call 72;(with_reducible refine(SG.out _ BB.out.now.2.2.1).mono ?_);rintro e w2 ⟨rfl,hb2⟩;have BB:=Lib.hid (BB.out.go hb2))
      | (go_at_call 73;(with_reducible refine(X1.out _ BB.out.now.2.2.1.int.nt).mono ?_);rintro e w3 ⟨rfl,hb3⟩;have BB:=Lib.hid (BB.out.go hb3))
      | (go_at_call 74;(with_reducible refine(BT.out _ BB.out.now.2.2.1).mono ?_);rintro e w4 ⟨a3,n3,c3,rfl,hn3,hb4⟩;have BB:=Lib.hid (BB.out.go hb4))
      | (go_at_call 73;(with_reducible refine(X2.out _ _ _ _ hn3).mono ?_);rintro e w5 ⟨rfl,hb5⟩;have BB:=Lib.hid (BB.out.go hb5);have hs:=BB.out.now.1;have r0:=hs.cell;have r1:=hs.cell1;have r2:=hs.cell2;have g0:=hs.free;have g1:=hs.free1;have g2:=hs.free2;have z0:=BB.out.now.2.1.set3o he (.bool true) (.string s) (.string t);have HS:=hs.set (.bool true) (.string s) (.string t);have HE:=Lib.hid (ND.out _ _ _ _ BB.out.below HB0.out HS0.out HT0.out)))
   go_wp2;exact bodyPost_ret (by simp[results,Tryz.results21,go_sem,HS]) rfl HE.out
 · go_enter Tryz.func21, Tryz.ntmps21; go_wp2_with fail
   go_region_held3 (fun y => y.cell? ⟨w.heap.size, 0, none⟩ = some (.slice a n c) /\ y.cell? ⟨w.heap.size, 1, none⟩ = some (.bool m) /\ y.cell? ⟨w.heap.size, 2, none⟩ = some (.slice a2 n2 c2))
    (first
      | (exact⟨z0.cell,z0.cell1,z0.cell2⟩)
      | (exact⟨BB.out.now.2.1.cell,BB.out.now.2.1.cell1,BB.out.now.2.1.cell2⟩))
    (first
      | (go_at_call 72;(with_reducible refine(SG.out _ BB.out.now.2.2.1).mono ?_);rintro e w2 ⟨rfl,hb2⟩;have BB:=Lib.hid (BB.out.go hb2))
      | (go_at_call 73;(with_reducible refine(X1.out _ BB.out.now.2.2.1.int.nt).mono ?_);rintro e w3 ⟨rfl,hb3⟩;have BB:=Lib.hid (BB.out.go hb3))
      | (go_at_call 74;(with_reducible refine(BT.out _ BB.out.now.2.2.1).mono ?_);rintro e w4 ⟨a3,n3,c3,rfl,hn3,hb4⟩;have BB:=Lib.hid (BB.out.go hb4))
      | (go_at_call 73;(with_reducible refine(X2.out _ _ _ _ hn3).mono ?_);rintro e w5 ⟨rfl,hb5⟩;have BB:=Lib.hid (BB.out.go hb5);have hs:=BB.out.now.1;have r0:=hs.cell;have r1:=hs.cell1;have r2:=hs.cell2;have g0:=hs.free;have g1:=hs.free1;have g2:=hs.free2;have z0:=BB.out.now.2.1.set3o he (.bool false) (.string s) (.string t);have HS:=hs.set (.bool false) (.string s) (.string t);have HE:=Lib.hid (ND.out _ _ _ _ BB.out.below HB0.out HS0.out HT0.out)))
   go_wp2;exact bodyPost_ret (by simp[results,Tryz.results21,go_sem,HS]) rfl HE.out
 · go_enter Tryz.func21, Tryz.ntmps21; go_wp2_with fail
   go_region_held3 (fun y => y.cell? ⟨w.heap.size, 0, none⟩ = some (.slice a n c) /\ y.cell? ⟨w.heap.size, 1, none⟩ = some (.bool m) /\ y.cell? ⟨w.heap.size, 2, none⟩ = some (.slice a2 n2 c2))
    (first
      | (exact⟨z0.cell,z0.cell1,z0.cell2⟩)
      | (exact⟨BB.out.now.2.1.cell,BB.out.now.2.1.cell1,BB.out.now.2.1.cell2⟩))
    (first
      | (go_at_call 72;(with_reducible refine(SG.out _ BB.out.now.2.2.1).mono ?_);rintro e w2 ⟨rfl,hb2⟩;have BB:=Lib.hid (BB.out.go hb2))
      | (go_at_call 73;(with_reducible refine(X1.out _ BB.out.now.2.2.1.int.nt).mono ?_);rintro e w3 ⟨rfl,hb3⟩;have BB:=Lib.hid (BB.out.go hb3))
      | (go_at_call 74;(with_reducible refine(BT.out _ BB.out.now.2.2.1).mono ?_);rintro e w4 ⟨a3,n3,c3,rfl,hn3,hb4⟩;have BB:=Lib.hid (BB.out.go hb4))
      | (go_at_call 73;(with_reducible refine(X2.out _ _ _ _ hn3).mono ?_);rintro e w5 ⟨rfl,hb5⟩;have BB:=Lib.hid (BB.out.go hb5);have hs:=BB.out.now.1;have r0:=hs.cell;have r1:=hs.cell1;have r2:=hs.cell2;have g0:=hs.free;have g1:=hs.free1;have g2:=hs.free2;have z0:=BB.out.now.2.1.set3o he (.bool false) (.string s) (.string t);have HS:=hs.set (.bool false) (.string s) (.string t);have HE:=Lib.hid (ND.out _ _ _ _ BB.out.below HB0.out HS0.out HT0.out)))
   go_wp2;exact bodyPost_ret (by simp[results,Tryz.results21,go_sem,HS]) rfl HE.out
theorem shifted0_any (a : Option Addr) (n c : Nat) (k : Int) (w : World) (h : NatIs w (.agg #[.slice a n c]) 0) :
    Calls Tryz.prog 166 #[.agg #[.slice a n c],.int .i64 k] w fun e w'=>NatTold2 w w' e (.agg #[.slice a n c]) 0:=by
 have B0:=(((Bag.start w).nat h).box (.slice a n c) 49).box (.slice none 0 0) 49;simp only[World.size_alloc]at B0;have ZE:=Lib.hid (fun wz (h:NatIs wz (.agg #[.slice a n c]) 0)=>zero_any _ 0 wz h);rw[decide_eq_true rfl]at ZE;have BB:=Lib.hid B0;have q0:=B0.now.2.1.cell;clear h B0;go_enter Tryz.func166,Tryz.ntmps166;go_wp2_with fail;go_at_call 114;refine(ZE.out _ BB.out.now.2.2.1).mono ?_;rintro e w2 ⟨rfl,hb2⟩;have BB:=bgo BB hb2;have q0:=BB.out.now.2.1.cell;have hs:=BB.out.now.1;have hc:=hs.cell;have hf:=hs.free;have HS:=World.cell?_setCell_same w2 ⟨w.heap.size+1,0,none⟩ (.slice a n c) hc;have HE:Hid (NatTold2 w (w2.setCell ⟨w.heap.size+1,0,none⟩ (.slice a n c)) (.returned (.agg #[.slice a n c])) (.agg #[.slice a n c]) 0):=⟨rfl,BB.out.now.2.2.1.storeAt hc (fun _ _ h=>by cases h) _,BB.out.below.setCell (p:=⟨w.heap.size+1,0,none⟩) (show w.heap.size<=w.heap.size+1 by omega) _⟩
 clear hb2 hs;go_wp2;exact bodyPost_ret (by simp[results,Tryz.results166,go_sem,HS]) rfl HE.out
theorem ratRead_yes (s : ByteArray) (w : World) (hs : s.size <= 2000) (hok : okB s.data.toList = true) :
    Calls Tryz.prog 113 #[.string s] w fun e w'=>SubOf3 w w' e (numOf s.data.toList) true:=by
 have B0:=(Bag.start w).box (.slice none 0 0) 49 |>.box (.slice none 0 0) 49
 simp only[World.size_alloc]at B0;have PA:=Lib.hid (fun wz=>parse_any s wz (by unfold maxLen;omega));unfold ParseOut at PA;rw[hok]at PA;have BB:=Lib.hid B0;go_enter Tryz.func113,Tryz.ntmps113;go_wp2;have hsz:¬((s.size:Int)>2000):=by omega
 go_loopw [0] (fun i wr=>i=.string s/\wr=((w.alloc (.cells #[.slice none 0 0] 49)).alloc (.cells #[.slice none 0 0] 49))) (fun _ _=>0)
 case atStart=>exact⟨rfl,rfl⟩
 case round =>
  obtain⟨rfl,rfl⟩:=hrel;go_wp2_with fail;go_at_call 165;(with_reducible refine(PA.out _).mono ?_);rintro e w2 ⟨a,n,c,rfl,hv,_,hb2⟩;rw[if_pos trivial]at hv;have hk2:=(BB.out.go hb2).now.1.lt;have BB:=Lib.hid (((BB.out.go hb2).nat hv).box (.slice a n c) 49);have he:w.heap.size+1≠w.heap.size/\w2.heap.size≠w.heap.size:=by omega
  have SH:=Lib.hid (fun k wz=>shifted0_any none 0 0 k wz (NatIs.zero wz));unfold NatTold2 at SH;obtain⟨K,hK⟩:∃K,K=2000:=⟨_,rfl⟩
  have hN:numOf s.data.toList<4294967296^K:=by
   obtain⟨g1,g2,g3⟩:=okB_digs hok;have h1:=numOf_lt _ g3;have h2:s.data.toList.length=s.size:=rfl;exact Nat.lt_of_lt_of_le h1 (Nat.le_trans (Nat.pow_le_pow_right (by omega) (show s.data.toList.length<=K by omega)) (Nat.pow_le_pow_left (by omega) K))
  have AD:Hid (∀a n c b k l wz,NatIs wz (.agg #[.slice a n c]) 0->NatIs wz (.agg #[.slice b k l]) (numOf s.data.toList)->Calls Tryz.prog 167 #[.agg #[.slice a n c],.agg #[.slice b k l]] wz fun e w'=>NatTold wz w' e (numOf s.data.toList)):=fun a n c b k l wz h g=>by
   have:=(add_any _ _ 0 (numOf s.data.toList) wz h g K (by omega) (Nat.pow_pos (by omega)) hN).mono fun _ _ h=>h.told
   rw[Nat.zero_add]at this;exact this
  clear hv hb2 hN B0;go_wp2_with fail;have BB:=Lib.hid BB.out.drew
  go_region_held3 (fun y => y.cell? ⟨w.heap.size + 1, 0, none⟩ = some (.slice none 0 0) /\ y.cell? ⟨w2.heap.size, 0, none⟩ = some (.slice a n c))
   (first
     | (exact⟨z0.cell,z1.cell⟩)
     | (exact⟨BB.out.now.2.2.1.cell,BB.out.now.1.cell⟩))
   (first
     | (go_at_call 166;(with_reducible refine(SH.out _ _).mono ?_);rintro e w3 ⟨rfl,hn3,hb3⟩;have BB:=Lib.hid (BB.out.go hb3))
     | (go_at_call 167;(with_reducible refine(AD.out _ _ _ _ _ _ _ hn3 BB.out.now.2.1).mono ?_);rintro e w4 ⟨a5,n5,c5,rfl,hn5,hb4⟩;have BB:=Lib.hid (BB.out.go hb4);have hs4:=BB.out.now.2.2.2.1;have hc:=hs4.cell;have hf:=hs4.free;have z0:=BB.out.now.2.2.1.seto he.1 (.slice a5 n5 c5);have z1:=BB.out.now.1.seto he.2 (.slice a5 n5 c5);have HS:=World.cell?_setCell_same w4 ⟨w.heap.size,0,none⟩ (.slice a5 n5 c5) hc;have HE:Hid (SubOf3 w (w4.setCell ⟨w.heap.size,0,none⟩ (.slice a5 n5 c5)) (.returned (.tuple #[.agg #[.slice a5 n5 c5],.bool true])) (numOf s.data.toList) true):=⟨a5,n5,c5,rfl,hn5.storeAt hc (fun _ _ h=>by cases h) _,BB.out.below.setCell (p:=⟨w.heap.size,0,none⟩) (Nat.le_refl _) _⟩))
  go_wp2;exact bodyPost_ret (by simp[results,Tryz.results113,go_sem,HS]) rfl HE.out
theorem ratRead_no (s : ByteArray) (w : World) (hs : s.size <= 2000) (hok : okB s.data.toList = false) :
    Calls Tryz.prog 113 #[.string s] w fun e w'=>SubOf3 w w' e 0 false:=by
 have B0:=(Bag.start w).box (.slice none 0 0) 49 |>.box (.slice none 0 0) 49
 simp only[World.size_alloc]at B0;have PA:=Lib.hid (fun wz=>parse_any s wz (by unfold maxLen;omega));unfold ParseOut at PA;rw[hok]at PA;have BB:=Lib.hid B0;go_enter Tryz.func113,Tryz.ntmps113;go_wp2;have hsz:¬((s.size:Int)>2000):=by omega
 go_loopw [0] (fun i wr=>i=.string s/\wr=((w.alloc (.cells #[.slice none 0 0] 49)).alloc (.cells #[.slice none 0 0] 49))) (fun _ _=>0)
 case atStart=>exact⟨rfl,rfl⟩
 case round =>
  obtain⟨rfl,rfl⟩:=hrel;go_wp2_with fail;go_at_call 165;refine(PA.out _).mono ?_;rintro e w2 ⟨a,n,c,rfl,hv,_,hb2⟩;have BB:=Lib.hid ((BB.out.go hb2).box (.slice a n c) 49);have hs4:=BB.out.now.2.2.1;have hc:=hs4.cell;have hf:=hs4.free;have HS:=World.cell?_setCell_same _ ⟨w.heap.size,0,none⟩ (.slice none 0 0) hc;have HE:=Lib.hid (show SubOf3 w _ (.returned (.tuple #[.agg #[.slice none 0 0],.bool false])) 0 false from⟨none,0,0,rfl,NatIs.zero _,BB.out.below.setCell (p:=⟨w.heap.size,0,none⟩) (Nat.le_refl _) (.slice none 0 0)⟩);clear hv hb2 B0 hs4;go_wp2;exact bodyPost_ret (by simp[results,Tryz.results113,go_sem,HS]) rfl HE.out
end Go.Proofs.YtdmmenaejkpnjaaGreatDoor
namespace Go.Proofs.YtdmmenaejkpnjaaGreatDoor
open Go.RowKit
theorem lbs_le{N k:Nat}:lbs N<=k↔N<2^(32*k):=by
 rw[← nbits_le];unfold lbs
 omega
theorem lbs_mono{N M:Nat}(h:N<=M):lbs N<=lbs M:=lbs_le.2 (Nat.lt_of_le_of_lt h (lbs_le.1 (Nat.le_refl _)))
theorem lbs_one:lbs 1=1:=by decide +kernel
theorem lbs_pos{N:Nat}(h:0<N):1<=lbs N:=by
 have:=lbs_mono (show 1<=N from h);rw[lbs_one]at this;exact this
theorem pow32(k:Nat):4294967296^k=2^(32*k):=by rw[Nat.pow_mul]
theorem lbs_le32{N k:Nat}:lbs N<=k↔N<4294967296^k:=by rw[lbs_le,pow32]
def limZ(P:Int)(Q:Nat):Int:=max (lbs P.natAbs:Int) (lbs Q:Int)
theorem wp_capture{P:Program}{c:Code}{Q:Exit->Act->World->Prop}{a:Act}{w:World}(h:∀R:Exit->Act->World->Prop,(∀e a w,R e a w=Q e a w)->Code.wp P c R a w):Code.wp P c Q a w:=h Q (fun _ _ _=>rfl)
end Go.Proofs.YtdmmenaejkpnjaaGreatDoor
