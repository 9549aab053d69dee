/-
  Texts of this seat, laid together.
-/
import Derived.Lib.SliceRun
import Derived.Lib.Walk
import Derived.Deep.AppendLies
import Derived.Deep.RegionLaw
import Derived.Test.YtdmmenaejkpnjaaGreatDoorF6
set_option maxHeartbeats 12800000
set_option maxRecDepth 100000
set_option linter.unusedSimpArgs false
set_option linter.unusedVariables false
namespace Go.Proofs.YtdmmenaejkpnjaaGreatDoor
open Go.RowKit
attribute [local go_sem ↓] Go.wp_at_zero Go.wp_at_succ
def lbs(N:Nat):Nat:=(nbits N+31) / 32
theorem ratLimbs_any (a : Option Addr) (n c : Nat) (m : Bool) (a2 : Option Addr) (n2 c2 : Nat) (P : Int) (Q : Nat) (w : World) (h : RatAt w a n c m a2 n2 c2 P Q) (hQ : 0 < Q) :
    Calls Tryz.prog 126 #[.agg #[.slice a n c,.bool m,.slice a2 n2 c2]] w fun e w'=>e=.returned (.int .i64 (max (lbs P.natAbs:Int) (lbs Q:Int)))/\Below w.heap.size w w':=by
 have B0:=((Bag.start w).rat h).box3 (.slice a n c) (.bool m) (.slice a2 n2 c2) 53;have BT:=Lib.hid (fun wz hz=>bot_any a n c m a2 n2 c2 P Q wz hz hQ);have L1:Hid (∀wz,NatIs wz (.agg #[.slice a n c]) P.natAbs->Calls Tryz.prog 187 #[.agg #[.slice a n c]] wz fun e w'=>e=.returned (.int .i64 (lbs P.natAbs:Nat))/\Below wz.heap.size wz w'):=fun wz h=>limbs_bits _ P.natAbs wz h
 have L2:Hid (∀a n c wz,NatIs wz (.agg #[.slice a n c]) Q->Calls Tryz.prog 187 #[.agg #[.slice a n c]] wz fun e w'=>e=.returned (.int .i64 (lbs Q:Nat))/\Below wz.heap.size wz w'):=fun a n c wz h=>limbs_bits _ Q wz h
 have BB:=Lib.hid B0;generalize lbs P.natAbs=x at *;generalize lbs Q=y at *;clear h hQ B0;go_enter Tryz.func126,Tryz.ntmps126;go_wp2_with fail;have BB:=Lib.hid BB.out.drew
 go_region_held3 (fun y => y.cell? ⟨w.heap.size, 0, none⟩ = some (.slice a n c) /\ y.cell? ⟨w.heap.size, 1, none⟩ = some (.bool m) /\ y.cell? ⟨w.heap.size, 2, none⟩ = some (.slice a2 n2 c2))
  (exact⟨BB.out.now.1.cell,BB.out.now.1.cell1,BB.out.now.1.cell2⟩)
  (first
    | (go_at_call 187;(with_reducible refine(L1.out _ BB.out.now.2.1.int.nt).mono ?_);rintro e w2 ⟨rfl,hb2⟩;have BB:=Lib.hid (BB.out.go hb2))
    | (go_at_call 74;(with_reducible refine(BT.out _ BB.out.now.2.1).mono ?_);rintro e w3 ⟨a3,n3,c3,rfl,hn3,hb3⟩;have BB:=Lib.hid (BB.out.go hb3))
    | (go_at_call 187;(with_reducible refine(L2.out _ _ _ _ hn3).mono ?_);rintro e w4 ⟨rfl,hb4⟩;have BB:=Lib.hid (BB.out.go hb4)))
 go_wp2;go_ret;exact⟨rfl,BB.out.below⟩
theorem mul_lt32{X Y K:Nat}(h:X<4294967296^K)(g:Y<4294967296^K):X*Y<4294967296^(K+K):=by rw[Nat.pow_add];exact Nat.mul_lt_mul'' h g
theorem mulZ_lt32{X:Int}{Y K:Nat}(h:X.natAbs<4294967296^K)(g:Y<4294967296^K):(X*Y).natAbs<4294967296^(K+K):=by
 rw[Int.natAbs_mul,Int.natAbs_natCast];exact mul_lt32 h g
def NumTold(w w':World)(e:Ending)(P:Int)(Q:Nat):Prop:=e=.returned (.agg #[.bool (rB P),.string (rS P),.string (str (dec Q))])/\Below w.heap.size w w'
theorem NumTold.done {w w2 : World} {k : Nat} (P : Int) (Q : Nat) (hb : Below w.heap.size w w2) (hk : w.heap.size <= k) {b : Bool} {s t : ByteArray} (h1 : rB P = b) (h2 : rS P = s) (h3 : str (dec Q) = t) :
    NumTold w (((w2.setCell ⟨k,0,none⟩ (.bool b)).setCell ⟨k,1,none⟩ (.string s)).setCell ⟨k,2,none⟩ (.string t)) (.returned (.agg #[.bool b,.string s,.string t])) P Q :=
 ⟨by rw[h1,h2,h3],((hb.setCell hk _).setCell hk _).setCell hk _⟩
theorem num_any (a : Option Addr) (n c : Nat) (m : Bool) (a2 : Option Addr) (n2 c2 : Nat) (P : Int) (Q : Nat) (w : World) (h : RatAt w a n c m a2 n2 c2 P Q) (hQ : 0 < Q)
    (K:Nat) (hK:K<=100000) (h1:P.natAbs<4294967296^K) (h2:Q<4294967296^K) :
    Calls Tryz.prog 21 #[.agg #[.slice a n c,.bool m,.slice a2 n2 c2]] w fun e w'=>NumTold w w' e P Q:=by
 have B0:=(((Bag.start w).rat h).box3 (.slice a n c) (.bool m) (.slice a2 n2 c2) 53).box3 (.bool false) (.string ⟨#[]⟩) (.string ⟨#[]⟩) 46;simp only[World.size_alloc]at B0;have SG:=Lib.hid (fun wz hz=>ratSign_any a n c m a2 n2 c2 P Q wz hz);have BT:=Lib.hid (fun wz hz=>bot_any a n c m a2 n2 c2 P Q wz hz hQ);have X1:Hid (∀wz,NatIs wz (.agg #[.slice a n c]) P.natAbs->Calls Tryz.prog 73 #[.agg #[.slice a n c]] wz fun e w'=>e=.returned (.string (rS P))/\Below wz.heap.size wz w'):=fun wz h=>text_any _ P.natAbs wz h K hK h1
 have X2:=Lib.hid (fun a n c wz (h:NatIs wz (.agg #[.slice a n c]) Q)=>text_any (.agg #[.slice a n c]) Q wz h K hK h2);have BB:=Lib.hid B0.drew;have he:w.heap.size≠w.heap.size+1:=by omega
 have ND:=Lib.hid (fun w2 b s t (hb:Below w.heap.size w w2) (h1:rB P=b) (h2:rS P=s) (h3:str (dec Q)=t)=>NumTold.done (k:=w.heap.size+1) P Q hb (by omega) h1 h2 h3);obtain⟨s,hs⟩:∃s,rS P=s:=⟨_,rfl⟩
 obtain⟨t,ht⟩:∃t,str (dec Q)=t:=⟨_,rfl⟩
 rw[hs]at X1;rw[ht]at X2;have HS0:=Lib.hid hs;have HT0:=Lib.hid ht
 have hv:∃x b,sgnI P=x/\rB P=b/\((x = -1/\b=true)∨(x=0/\b=false)∨(x=1/\b=false)):=by
  refine⟨_,_,rfl,rfl,?_⟩;unfold sgnI rB
  by_cases e1:P<0
  · rw[if_pos e1,decide_eq_true e1];exact .inl ⟨rfl,rfl⟩
  · rw[if_neg e1,decide_eq_false e1]
    by_cases e2:P=0
    · rw[if_pos e2];exact .inr (.inl ⟨rfl,rfl⟩)
    · rw[if_neg e2];exact .inr (.inr ⟨rfl,rfl⟩)
 obtain⟨x,b,hx,hb0,hxb⟩:=hv;rw[hx]at SG;have HB0:=Lib.hid hb0;clear h hQ B0 h1 h2 hs ht hx hb0
 rcases hxb with ⟨rfl,rfl⟩|⟨rfl,rfl⟩|⟨rfl,rfl⟩
 · go_enter Tryz.func21, Tryz.ntmps21; go_wp2_with fail
   go_region_held3 (fun y => y.cell? ⟨w.heap.size, 0, none⟩ = some (.slice a n c) /\ y.cell? ⟨w.heap.size, 1, none⟩ = some (.bool m) /\ y.cell? ⟨w.heap.size, 2, none⟩ = some (.slice a2 n2 c2))
    (first
      | (exact⟨z0.cell,z0.cell1,z0.cell2⟩)
      | (exact⟨BB.out.now.2.1.cell,BB.out.now.2.1.cell1,BB.out.now.2.1.cell2⟩))
    (first
      | (go_at_call 72;(with_reducible refine(SG.out _ BB.out.now.2.2.1).mono ?_);rintro e w2 ⟨rfl,hb2⟩;have BB:=Lib.hid (BB.out.go hb2))
      | (go_at_call 73;(with_reducible refine(X1.out _ BB.out.now.2.2.1.int.nt).mono ?_);rintro e w3 ⟨rfl,hb3⟩;have BB:=Lib.hid (BB.out.go hb3))
      | (go_at_call 74;(with_reducible refine(BT.out _ BB.out.now.2.2.1).mono ?_);rintro e w4 ⟨a3,n3,c3,rfl,hn3,hb4⟩;have BB:=Lib.hid (BB.out.go hb4))
      | (go_at_call 73;(with_reducible refine(X2.out _ _ _ _ hn3).mono ?_);rintro e w5 ⟨rfl,hb5⟩;have BB:=Lib.hid (BB.out.go hb5);have hs:=BB.out.now.1;have r0:=hs.cell;have r1:=hs.cell1;have r2:=hs.cell2;have g0:=hs.free;have g1:=hs.free1;have g2:=hs.free2;have z0:=BB.out.now.2.1.set3o he (.bool true) (.string s) (.string t);have HS:=hs.set (.bool true) (.string s) (.string t);have HE:=Lib.hid (ND.out _ _ _ _ BB.out.below HB0.out HS0.out HT0.out)))
   go_wp2;exact bodyPost_ret (by simp[results,Tryz.results21,go_sem,HS]) rfl HE.out
 · go_enter Tryz.func21, Tryz.ntmps21; go_wp2_with fail
   go_region_held3 (fun y => y.cell? ⟨w.heap.size, 0, none⟩ = some (.slice a n c) /\ y.cell? ⟨w.heap.size, 1, none⟩ = some (.bool m) /\ y.cell? ⟨w.heap.size, 2, none⟩ = some (.slice a2 n2 c2))
    (first
      | (exact⟨z0.cell,z0.cell1,z0.cell2⟩)
      | (exact⟨BB.out.now.2.1.cell,BB.out.now.2.1.cell1,BB.out.now.2.1.cell2⟩))
    (first
      | (go_at_call 72;(with_reducible refine(SG.out _ BB.out.now.2.2.1).mono ?_);rintro e w2 ⟨rfl,hb2⟩;have BB:=Lib.hid (BB.out.go hb2))
      | (go_at_call 73;(with_reducible refine(X1.out _ BB.out.now.2.2.1.int.nt).mono ?_);rintro e w3 ⟨rfl,hb3⟩;have BB:=Lib.hid (BB.out.go hb3))
      | (go_at_call 74;(with_reducible refine(BT.out _ BB.out.now.2.2.1).mono ?_);rintro e w4 ⟨a3,n3,c3,rfl,hn3,hb4⟩;have BB:=Lib.hid (BB.out.go hb4))
      | (go_at_call 73;(with_reducible refine(X2.out _ _ _ _ hn3).mono ?_);rintro e w5 ⟨rfl,hb5⟩;have BB:=Lib.hid (BB.out.go hb5);have hs:=BB.out.now.1;have r0:=hs.cell;have r1:=hs.cell1;have r2:=hs.cell2;have g0:=hs.free;have g1:=hs.free1;have g2:=hs.free2;have z0:=BB.out.now.2.1.set3o he (.bool false) (.string s) (.string t);have HS:=hs.set (.bool false) (.string s) (.string t);have HE:=Lib.hid (ND.out _ _ _ _ BB.out.below HB0.out HS0.out HT0.out)))
   go_wp2;exact bodyPost_ret (by simp[results,Tryz.results21,go_sem,HS]) rfl HE.out
 · go_enter Tryz.func21, Tryz.ntmps21; go_wp2_with fail
   go_region_held3 (fun y => y.cell? ⟨w.heap.size, 0, none⟩ = some (.slice a n c) /\ y.cell? ⟨w.heap.size, 1, none⟩ = some (.bool m) /\ y.cell? ⟨w.heap.size, 2, none⟩ = some (.slice a2 n2 c2))
    (first
      | (exact⟨z0.cell,z0.cell1,z0.cell2⟩)
      | (exact⟨BB.out.now.2.1.cell,BB.out.now.2.1.cell1,BB.out.now.2.1.cell2⟩))
    (first
      | (go_at_call 72;(with_reducible refine(SG.out _ BB.out.now.2.2.1).mono ?_);rintro e w2 ⟨rfl,hb2⟩;have BB:=Lib.hid (BB.out.go hb2))
      | (go_at_call 73;(with_reducible refine(X1.out _ BB.out.now.2.2.1.int.nt).mono ?_);rintro e w3 ⟨rfl,hb3⟩;have BB:=Lib.hid (BB.out.go hb3))
      | (go_at_call 74;(with_reducible refine(BT.out _ BB.out.now.2.2.1).mono ?_);rintro e w4 ⟨a3,n3,c3,rfl,hn3,hb4⟩;have BB:=Lib.hid (BB.out.go hb4))
      | (go_at_call 73;(with_reducible refine(X2.out _ _ _ _ hn3).mono ?_);rintro e w5 ⟨rfl,hb5⟩;have BB:=Lib.hid (BB.out.go hb5);have hs:=BB.out.now.1;have r0:=hs.cell;have r1:=hs.cell1;have r2:=hs.cell2;have g0:=hs.free;have g1:=hs.free1;have g2:=hs.free2;have z0:=BB.out.now.2.1.set3o he (.bool false) (.string s) (.string t);have HS:=hs.set (.bool false) (.string s) (.string t);have HE:=Lib.hid (ND.out _ _ _ _ BB.out.below HB0.out HS0.out HT0.out)))
   go_wp2;exact bodyPost_ret (by simp[results,Tryz.results21,go_sem,HS]) rfl HE.out
theorem shifted0_any (a : Option Addr) (n c : Nat) (k : Int) (w : World) (h : NatIs w (.agg #[.slice a n c]) 0) :
    Calls Tryz.prog 166 #[.agg #[.slice a n c],.int .i64 k] w fun e w'=>NatTold2 w w' e (.agg #[.slice a n c]) 0:=by
 have B0:=(((Bag.start w).nat h).box (.slice a n c) 49).box (.slice none 0 0) 49;simp only[World.size_alloc]at B0;have ZE:=Lib.hid (fun wz (h:NatIs wz (.agg #[.slice a n c]) 0)=>zero_any _ 0 wz h);rw[decide_eq_true rfl]at ZE;have BB:=Lib.hid B0;have q0:=B0.now.2.1.cell;clear h B0;go_enter Tryz.func166,Tryz.ntmps166;go_wp2_with fail;go_at_call 114;refine(ZE.out _ BB.out.now.2.2.1).mono ?_;rintro e w2 ⟨rfl,hb2⟩;have BB:=bgo BB hb2;have q0:=BB.out.now.2.1.cell;have hs:=BB.out.now.1;have hc:=hs.cell;have hf:=hs.free;have HS:=World.cell?_setCell_same w2 ⟨w.heap.size+1,0,none⟩ (.slice a n c) hc;have HE:Hid (NatTold2 w (w2.setCell ⟨w.heap.size+1,0,none⟩ (.slice a n c)) (.returned (.agg #[.slice a n c])) (.agg #[.slice a n c]) 0):=⟨rfl,BB.out.now.2.2.1.storeAt hc (fun _ _ h=>by cases h) _,BB.out.below.setCell (p:=⟨w.heap.size+1,0,none⟩) (show w.heap.size<=w.heap.size+1 by omega) _⟩
 clear hb2 hs;go_wp2;exact bodyPost_ret (by simp[results,Tryz.results166,go_sem,HS]) rfl HE.out
theorem ratRead_yes (s : ByteArray) (w : World) (hs : s.size <= 2000) (hok : okB s.data.toList = true) :
    Calls Tryz.prog 113 #[.string s] w fun e w'=>SubOf3 w w' e (numOf s.data.toList) true:=by
 have B0:=(Bag.start w).box (.slice none 0 0) 49 |>.box (.slice none 0 0) 49
 simp only[World.size_alloc]at B0;have PA:=Lib.hid (fun wz=>parse_any s wz (by unfold maxLen;omega));unfold ParseOut at PA;rw[hok]at PA;have BB:=Lib.hid B0;go_enter Tryz.func113,Tryz.ntmps113;go_wp2;have hsz:¬((s.size:Int)>2000):=by omega
 go_loopw [0] (fun i wr=>i=.string s/\wr=((w.alloc (.cells #[.slice none 0 0] 49)).alloc (.cells #[.slice none 0 0] 49))) (fun _ _=>0)
 case atStart=>exact⟨rfl,rfl⟩
 case round =>
  obtain⟨rfl,rfl⟩:=hrel;go_wp2_with fail;go_at_call 165;(with_reducible refine(PA.out _).mono ?_);rintro e w2 ⟨a,n,c,rfl,hv,_,hb2⟩;rw[if_pos trivial]at hv;have hk2:=(BB.out.go hb2).now.1.lt;have BB:=Lib.hid (((BB.out.go hb2).nat hv).box (.slice a n c) 49);have he:w.heap.size+1≠w.heap.size/\w2.heap.size≠w.heap.size:=by omega
  have SH:=Lib.hid (fun k wz=>shifted0_any none 0 0 k wz (NatIs.zero wz));unfold NatTold2 at SH;obtain⟨K,hK⟩:∃K,K=2000:=⟨_,rfl⟩
  have hN:numOf s.data.toList<4294967296^K:=by
   obtain⟨g1,g2,g3⟩:=okB_digs hok;have h1:=numOf_lt _ g3;have h2:s.data.toList.length=s.size:=rfl;exact Nat.lt_of_lt_of_le h1 (Nat.le_trans (Nat.pow_le_pow_right (by omega) (show s.data.toList.length<=K by omega)) (Nat.pow_le_pow_left (by omega) K))
  have AD:Hid (∀a n c b k l wz,NatIs wz (.agg #[.slice a n c]) 0->NatIs wz (.agg #[.slice b k l]) (numOf s.data.toList)->Calls Tryz.prog 167 #[.agg #[.slice a n c],.agg #[.slice b k l]] wz fun e w'=>NatTold wz w' e (numOf s.data.toList)):=fun a n c b k l wz h g=>by
   have:=(add_any _ _ 0 (numOf s.data.toList) wz h g K (by omega) (Nat.pow_pos (by omega)) hN).mono fun _ _ h=>h.told
   rw[Nat.zero_add]at this;exact this
  clear hv hb2 hN B0;go_wp2_with fail;have BB:=Lib.hid BB.out.drew
  go_region_held3 (fun y => y.cell? ⟨w.heap.size + 1, 0, none⟩ = some (.slice none 0 0) /\ y.cell? ⟨w2.heap.size, 0, none⟩ = some (.slice a n c))
   (first
     | (exact⟨z0.cell,z1.cell⟩)
     | (exact⟨BB.out.now.2.2.1.cell,BB.out.now.1.cell⟩))
   (first
     | (go_at_call 166;(with_reducible refine(SH.out _ _).mono ?_);rintro e w3 ⟨rfl,hn3,hb3⟩;have BB:=Lib.hid (BB.out.go hb3))
     | (go_at_call 167;(with_reducible refine(AD.out _ _ _ _ _ _ _ hn3 BB.out.now.2.1).mono ?_);rintro e w4 ⟨a5,n5,c5,rfl,hn5,hb4⟩;have BB:=Lib.hid (BB.out.go hb4);have hs4:=BB.out.now.2.2.2.1;have hc:=hs4.cell;have hf:=hs4.free;have z0:=BB.out.now.2.2.1.seto he.1 (.slice a5 n5 c5);have z1:=BB.out.now.1.seto he.2 (.slice a5 n5 c5);have HS:=World.cell?_setCell_same w4 ⟨w.heap.size,0,none⟩ (.slice a5 n5 c5) hc;have HE:Hid (SubOf3 w (w4.setCell ⟨w.heap.size,0,none⟩ (.slice a5 n5 c5)) (.returned (.tuple #[.agg #[.slice a5 n5 c5],.bool true])) (numOf s.data.toList) true):=⟨a5,n5,c5,rfl,hn5.storeAt hc (fun _ _ h=>by cases h) _,BB.out.below.setCell (p:=⟨w.heap.size,0,none⟩) (Nat.le_refl _) _⟩))
  go_wp2;exact bodyPost_ret (by simp[results,Tryz.results113,go_sem,HS]) rfl HE.out
theorem ratRead_no (s : ByteArray) (w : World) (hs : s.size <= 2000) (hok : okB s.data.toList = false) :
    Calls Tryz.prog 113 #[.string s] w fun e w'=>SubOf3 w w' e 0 false:=by
 have B0:=(Bag.start w).box (.slice none 0 0) 49 |>.box (.slice none 0 0) 49
 simp only[World.size_alloc]at B0;have PA:=Lib.hid (fun wz=>parse_any s wz (by unfold maxLen;omega));unfold ParseOut at PA;rw[hok]at PA;have BB:=Lib.hid B0;go_enter Tryz.func113,Tryz.ntmps113;go_wp2;have hsz:¬((s.size:Int)>2000):=by omega
 go_loopw [0] (fun i wr=>i=.string s/\wr=((w.alloc (.cells #[.slice none 0 0] 49)).alloc (.cells #[.slice none 0 0] 49))) (fun _ _=>0)
 case atStart=>exact⟨rfl,rfl⟩
 case round =>
  obtain⟨rfl,rfl⟩:=hrel;go_wp2_with fail;go_at_call 165;refine(PA.out _).mono ?_;rintro e w2 ⟨a,n,c,rfl,hv,_,hb2⟩;have BB:=Lib.hid ((BB.out.go hb2).box (.slice a n c) 49);have hs4:=BB.out.now.2.2.1;have hc:=hs4.cell;have hf:=hs4.free;have HS:=World.cell?_setCell_same _ ⟨w.heap.size,0,none⟩ (.slice none 0 0) hc;have HE:=Lib.hid (show SubOf3 w _ (.returned (.tuple #[.agg #[.slice none 0 0],.bool false])) 0 false from⟨none,0,0,rfl,NatIs.zero _,BB.out.below.setCell (p:=⟨w.heap.size,0,none⟩) (Nat.le_refl _) (.slice none 0 0)⟩);clear hv hb2 B0 hs4;go_wp2;exact bodyPost_ret (by simp[results,Tryz.results113,go_sem,HS]) rfl HE.out
end Go.Proofs.YtdmmenaejkpnjaaGreatDoor
namespace Go.Proofs.YtdmmenaejkpnjaaGreatDoor
open Go.RowKit
def RRow(w:World)(sa:Option Addr)(n c:Nat)(fP:Nat->Int)(fQ:Nat->Nat):Prop:=n<=c/\c<=maxLen/\(n=0∨∃b off,sa=some ⟨b,off,none⟩/\b<w.heap.size /\
 ∀j,j<n->∃a' n' c' m' a2' n2' c2',w.cell? ⟨b,off+j*3,none⟩=some (.slice a' n' c')/\w.cell? ⟨b,off+j*3+1,none⟩=some (.bool m')/\w.cell? ⟨b,off+j*3+2,none⟩=some (.slice a2' n2' c2')/\RatAt w a' n' c' m' a2' n2' c2' (fP j) (fQ j))
theorem RRow.below{w w':World}{sa:Option Addr}{n c:Nat}{fP:Nat->Int}{fQ:Nat->Nat}(h:RRow w sa n c fP fQ)(hb:Below w.heap.size w w'):RRow w' sa n c fP fQ:=by
 obtain⟨h0,h1,h2⟩:=h;refine⟨h0,h1,h2.imp id ?_⟩;rintro⟨b,off,rfl,hl,hc⟩;refine⟨b,off,rfl,Nat.lt_of_lt_of_le hl hb.size,fun j hj => ?_⟩;obtain⟨a',n',c',m',a2',n2',c2',e1,e2,e3,hr⟩:=hc j hj;exact⟨a',n',c',m',a2',n2',c2',(hb.cell (p:=⟨b,_,none⟩) hl).trans e1,(hb.cell (p:=⟨b,_,none⟩) hl).trans e2,(hb.cell (p:=⟨b,_,none⟩) hl).trans e3,hr.below hb⟩
theorem RRow.get {w : World} {sa : Option Addr} {n c : Nat} {fP : Nat -> Int} {fQ : Nat -> Nat} (h : RRow w sa n c fP fQ) {j : Nat} (hj : j < n) :
    ∃b off a' n' c' m' a2' n2' c2',sa=some ⟨b,off,none⟩/\b<w.heap.size/\w.cell? ⟨b,off+j*3,none⟩=some (.slice a' n' c')/\w.cell? ⟨b,off+j*3+1,none⟩=some (.bool m')/\w.cell? ⟨b,off+j*3+2,none⟩=some (.slice a2' n2' c2')/\RatAt w a' n' c' m' a2' n2' c2' (fP j) (fQ j):=by
 obtain⟨h0,h1,h2⟩:=h
 rcases h2 with h2|⟨b,off,rfl,hl,hc⟩
 · omega
 · obtain⟨a',n',c',m',a2',n2',c2',e⟩:=hc j hj;exact⟨b,off,a',n',c',m',a2',n2',c2',rfl,hl,e⟩
theorem RRow.nought(w:World)(a:Option Addr)(c:Nat)(hc:c<=maxLen)(fP:Nat->Int)(fQ:Nat->Nat):RRow w a 0 c fP fQ:=⟨Nat.zero_le _,hc,.inl rfl⟩
def lies(w:World)(b off n:Nat):List Value:=(List.range n).map fun j=>(w.cell? ⟨b,off+j,none⟩).getD undef
theorem lies_length(w:World)(b off n:Nat):(lies w b off n).length=n:=by simp[lies]
theorem lies_get{w:World}{b off n j:Nat}{u:Value}(h:(lies w b off n)[j]? = some u)(hs:∀i,i<n->(w.cell? ⟨b,off+i,none⟩).isSome=true):w.cell? ⟨b,off+j,none⟩=some u:=by
 unfold lies at h;rw[List.getElem?_map]at h;obtain⟨i,hi,rfl⟩:=Option.map_eq_some_iff.1 h
 have hj:j<n:=by
  have:=(List.getElem?_eq_some_iff.1 hi).1
  simpa using this
 rw[List.getElem?_range hj]at hi;obtain rfl:=Option.some.inj hi;obtain⟨v,hv⟩:=Option.isSome_iff_exists.1 (hs j hj);rw[hv];rfl
theorem lies_at{w:World}{b off n j:Nat}{u:Value}(hj:j<n)(h:w.cell? ⟨b,off+j,none⟩=some u):(lies w b off n)[j]? = some u:=by
 unfold lies;rw[List.getElem?_map,List.getElem?_range hj,Option.map_some,h]
 rfl
theorem three{n:Nat}{p:Nat->Prop}(h:∀j,j<n->p (j*3)/\p (j*3+1)/\p (j*3+2)):∀i,i<n*3->p i:=by
 intro i hi;obtain⟨h1,h2,h3⟩:=h (i / 3) (by omega);have:i=i / 3*3∨i=i / 3*3+1∨i=i / 3*3+2:=by omega
 rcases this with e|e|e<;>rw[e]<;>assumption
theorem infoR:(Tryz.prog.info? 53).map (fun i=>(i.zero,i.size,i.bytes))=some (some (.agg #[.slice none 0 0,.bool false,.slice none 0 0]),3,56):=by kernel_rfl
theorem infoC:(Tryz.prog.info? 21).map (fun i=>(i.zero,i.size,i.bytes))=some (some (.int .i32 0),1,4):=by kernel_rfl
theorem cloneR_any (a : Option Addr) (n c : Nat) (fP : Nat -> Int) (fQ : Nat -> Nat) (w : World) (h : RRow w a n c fP fQ) (hn : n <= 1000000) :
    Calls Tryz.prog 104 #[.slice a n c] w fun e w'=>∃a' c',e=.returned (.slice a' n c')/\RRow w' a' n c' fP fQ/\Below w.heap.size w w':=by
 obtain⟨i0,hi,hz0,hz1,hz2⟩:=info_parts infoR;have q22:∀(w:World) (a:Option Addr) (n c n' c':Nat),(binOp .eql 34 (.slice a n c) (.slice none n' c')).run Tryz.prog w=.ok (.bool a.isNone) w:=fun w a n c n' c'=>Lib.run_eql_slice_nil w _ _ a n c n' c' Tryz.underlying34
 cases a with
 | none =>
  have h0:n=0:=by
   rcases h.2.2 with h|⟨_,_,h,_⟩
   · exact h
   · cases h
  subst h0;go_enter Tryz.func104,Tryz.ntmps104;go_wp2;go_ret;exact⟨none,0,rfl,RRow.nought _ _ _ (Nat.zero_le _) _ _,Below.refl _ _⟩
 | some ad =>
  have hex:∃news:List Value,news.length=n*3/\(∀j u,news[j]? = some u->w.cell? (ad.add j)=some u)/\(∀u ∈ news,u.oneCell'=true) /\
      ∀j,j<n->∃a' n' c' m' a2' n2' c2',news[j*3]? = some (.slice a' n' c')/\news[j*3+1]? = some (.bool m')/\news[j*3+2]? = some (.slice a2' n2' c2')/\RatAt w a' n' c' m' a2' n2' c2' (fP j) (fQ j):=by
   rcases h.2.2 with h0|⟨b,off,he,hb,hc⟩
   · subst h0;exact⟨[],rfl,fun j u hu=>by simp at hu,fun u hu=>by simp at hu,fun j hj=>by omega⟩
   · obtain rfl:=Option.some.inj he
     have hs:∀i,i<n*3->∃u,w.cell? ⟨b,off+i,none⟩=some u/\u.oneCell'=true:=three (p:=fun i=>∃u,w.cell? ⟨b,off+i,none⟩=some u/\u.oneCell'=true) fun j hj=>by
      obtain⟨a',n',c',m',a2',n2',c2',e1,e2,e3,_⟩:=hc j hj;exact⟨⟨_,e1,rfl⟩,⟨_,e2,rfl⟩,⟨_,e3,rfl⟩⟩
     have hs':∀i,i<n*3->(w.cell? ⟨b,off+i,none⟩).isSome=true:=fun i hi=>by obtain⟨u,hu,_⟩:=hs i hi;rw[hu];rfl
     refine⟨lies w b off (n*3),lies_length _ _ _ _,fun j u hu => ?_,fun u hu => ?_,fun j hj => ?_⟩
     · rw[show(⟨b,off,none⟩:Addr).add j=⟨b,off+j,none⟩by simp[Addr.add]];exact lies_get hu hs'
     · obtain⟨j,hj⟩:=List.getElem?_of_mem hu;have hl:=(List.getElem?_eq_some_iff.1 hj).1;rw[lies_length]at hl;obtain⟨v,hv,h1⟩:=hs j hl;have:=lies_get hj hs';rw[hv]at this;obtain rfl:=Option.some.inj this;exact h1
     · obtain⟨a',n',c',m',a2',n2',c2',e1,e2,e3,hr⟩:=hc j hj;exact⟨a',n',c',m',a2',n2',c2',lies_at (by omega) e1,lies_at (by omega) e2,lies_at (by omega) e3,hr⟩
  obtain⟨news,hl,hcell,hone,hrat⟩:=hex;have HC:=Lib.hid hcell;have HO:=Lib.hid hone;have HR:=Lib.hid hrat
  have HL:=Lib.hid hl;have HN:=Lib.hid hn;clear hcell hone hrat hl h hn;go_enter Tryz.func104,Tryz.ntmps104
  go_wp2_with (at_builtin;refine wpList_append_own _ rfl _ _ 34 rfl w.heap.size 53 i0 _ 3 56 Tryz.underlying34 hi hz0 hz1 hz2 rfl (by omega) _ _ _ rfl (World.ownsRow_made w #[] 0 (Nat.le_refl _) (Nat.zero_le _) (by simp)) ad n c news rfl ?qc1 ?qc2 ?qc3 ?qc4 ?qc5 ?qc6 ?_)
  case qc1=>exact HL.out
  case qc2=>exact fun j u hj=>Lib.cell?_alloc_some _ (HC.out j u hj)
  case qc3=>exact HO.out
  case qc4=>have:=HN.out;unfold maxLen;omega
  case qc5=>have:=HN.out;omega
  case qc6=>simp
  intro v' w1 hown hgrow hnil;have hb:Below w.heap.size w w1:=((Below.refl _ w).alloc (Nat.le_refl _) _).grown hgrow (by simp) (by intro k hk;simp[Value.ownBlock]at hk;omega)
  have HE:Hid (∃a' c',v'=.slice a' n c'/\RRow w1 a' n c' fP fQ):=by
   rcases hown.2 with ⟨rfl,h0⟩|⟨g,cap,cur,rfl,_,hh,h1,h2,_,hcs⟩
   · subst h0;exact⟨none,0,rfl,RRow.nought _ _ _ (Nat.zero_le _) _ _⟩
   · refine⟨some ⟨g,0,none⟩,cap,rfl,h1,h2,.inr ⟨g,0,rfl,Row.lt (t:=53) hh,fun j hj => ?_⟩⟩;obtain⟨a',n',c',m',a2',n2',c2',e1,e2,e3,hr⟩:=HR.out j hj;have hc:=hown.cells (g:=g) rfl
     have hc':∀i u,news[i]? = some u->w1.cell? ⟨g,i,none⟩=some u:=fun i u hu=>by
      have:=hc i u hu
      rwa [show(⟨g,0,none⟩:Addr).add i=⟨g,i,none⟩by unfold Addr.add;split<;>simp_all]at this
     refine⟨a',n',c',m',a2',n2',c2',?_,?_,?_,hr.below hb⟩
     · rw[Nat.zero_add];exact hc' _ _ e1
     · rw[Nat.zero_add];exact hc' _ _ e2
     · rw[Nat.zero_add];exact hc' _ _ e3
  have HB:=Lib.hid hb;clear hown hgrow hnil hb;go_wp2;go_ret;obtain⟨a',c',rfl,hr⟩:=HE.out;exact⟨a',c',rfl,hr,HB.out⟩
theorem cloneC_any (a : Option Addr) (n c : Nat) (f : Nat -> Int) (w : World) (h : KRow w .i32 a n c f) (hn : n <= 1000000) :
    Calls Tryz.prog 103 #[.slice a n c] w fun e w'=>∃a' c',e=.returned (.slice a' n c')/\KRow w' .i32 a' n c' f/\Below w.heap.size w w':=by
 obtain⟨i0,hi,hz0,hz1,hz2⟩:=info_parts infoC;have q22:∀(w:World) (a:Option Addr) (n c n' c':Nat),(binOp .eql 23 (.slice a n c) (.slice none n' c')).run Tryz.prog w=.ok (.bool a.isNone) w:=fun w a n c n' c'=>Lib.run_eql_slice_nil w _ _ a n c n' c' Tryz.underlying23
 cases a with
 | none =>
  have h0:n=0:=by
   rcases h.2.2 with h|⟨_,_,h,_⟩
   · exact h
   · cases h
  subst h0;go_enter Tryz.func103,Tryz.ntmps103;go_wp2;go_ret;exact⟨none,0,rfl,KRow.nought _ _ _ _ (Nat.zero_le _) _,Below.refl _ _⟩
 | some ad =>
  have hex:∃news:List Value,news.length=n*1/\(∀j u,news[j]? = some u->w.cell? (ad.add j)=some u)/\(∀u ∈ news,u.oneCell'=true)/\∀j,j<n->news[j]? = some (.int .i32 (f j)):=by
   rcases h.2.2 with h0|⟨b,off,he,hb,hc⟩
   · subst h0;exact⟨[],rfl,fun j u hu=>by simp at hu,fun u hu=>by simp at hu,fun j hj=>by omega⟩
   · obtain rfl := Option.some.inj he; have hg : ∀ j, j < n -> ((List.range n).map fun j => Value.int .i32 (f j))[j]? = some (.int .i32 (f j)) := fun j hj => by rw [List.getElem?_map, List.getElem?_range hj]; rfl
     refine⟨(List.range n).map fun j=>.int .i32 (f j),by simp,fun j u hu => ?_,fun u hu => ?_,hg⟩
     · have hj:j<n:=by
         have:=(List.getElem?_eq_some_iff.1 hu).1
         simpa using this
       rw[hg j hj]at hu;obtain rfl:=Option.some.inj hu;rw[show(⟨b,off,none⟩:Addr).add j=⟨b,off+j,none⟩by simp[Addr.add]];exact hc j hj
     · obtain⟨j,_,rfl⟩:=List.mem_map.1 hu
       rfl
  obtain⟨news,hl,hcell,hone,hrat⟩:=hex;have HC:=Lib.hid hcell;have HO:=Lib.hid hone;have HR:=Lib.hid hrat
  have HL:=Lib.hid hl;have HN:=Lib.hid hn;clear hcell hone hrat hl h hn;go_enter Tryz.func103,Tryz.ntmps103
  go_wp2_with (at_builtin;refine wpList_append_own _ rfl _ _ 23 rfl w.heap.size 21 i0 _ 1 4 Tryz.underlying23 hi hz0 hz1 hz2 rfl (by omega) _ _ _ rfl (World.ownsRow_made w #[] 0 (Nat.le_refl _) (Nat.zero_le _) (by simp)) ad n c news rfl ?qc1 ?qc2 ?qc3 ?qc4 ?qc5 ?qc6 ?_)
  case qc1=>exact HL.out
  case qc2=>exact fun j u hj=>Lib.cell?_alloc_some _ (HC.out j u hj)
  case qc3=>exact HO.out
  case qc4=>have:=HN.out;unfold maxLen;omega
  case qc5=>have:=HN.out;omega
  case qc6=>simp
  intro v' w1 hown hgrow hnil;have hb:Below w.heap.size w w1:=((Below.refl _ w).alloc (Nat.le_refl _) _).grown hgrow (by simp) (by intro k hk;simp[Value.ownBlock]at hk;omega)
  have HE:Hid (∃a' c',v'=.slice a' n c'/\KRow w1 .i32 a' n c' f):=by
   rcases hown.2 with ⟨rfl,h0⟩|⟨g,cap,cur,rfl,_,hh,h1,h2,_,hcs⟩
   · subst h0;exact⟨none,0,rfl,KRow.nought _ _ _ _ (Nat.zero_le _) _⟩
   · refine⟨some ⟨g,0,none⟩,cap,rfl,h1,h2,.inr ⟨g,0,rfl,Row.lt (t:=21) hh,fun j hj => ?_⟩⟩;have:=hown.cells (g:=g) rfl j _ (HR.out j hj)
     rwa [show(⟨g,0,none⟩:Addr).add j=⟨g,0+j,none⟩by unfold Addr.add;split<;>simp_all]at this
  have HB:=Lib.hid hb;clear hown hgrow hnil hb;go_wp2;go_ret;obtain⟨a',c',rfl,hr⟩:=HE.out;exact⟨a',c',rfl,hr,HB.out⟩
def NumArr(w:World)(cs:Array Value)(f:Nat->Int)(r n:Nat)(fP:Nat->Int)(fQ:Nat->Nat):Prop:=∃na nc,cs=arrC false ((r:Int)-1) (dm f r) na n nc none 0 0/\RRow w na n nc fP fQ
def ChrArr(w:World)(cs:Array Value)(f:Nat->Int)(r n:Nat)(g:Nat->Int):Prop:=∃ta tc,cs=arrC true ((r:Int)-1) (dm f r) none 0 0 ta n tc/\KRow w .i32 ta n tc g
theorem NumArr.below{w w':World}{cs:Array Value}{f:Nat->Int}{r n:Nat}{fP:Nat->Int}{fQ:Nat->Nat}(h:NumArr w cs f r n fP fQ)(hb:Below w.heap.size w w'):NumArr w' cs f r n fP fQ:=by
 obtain⟨na,nc,h1,h2⟩:=h;exact⟨na,nc,h1,h2.below hb⟩
theorem ChrArr.below{w w':World}{cs:Array Value}{f:Nat->Int}{r n:Nat}{g:Nat->Int}(h:ChrArr w cs f r n g)(hb:Below w.heap.size w w'):ChrArr w' cs f r n g:=by
 obtain⟨na,nc,h1,h2⟩:=h;exact⟨na,nc,h1,h2.below hb⟩
def zerC:Array Value:=arrC false 0 (fun _=>0) none 0 0 none 0 0
theorem dm_zero:dm (fun _=>0) 1=fun _=>0:=by funext j;unfold dm;split<;>rfl
theorem NumArr.zero(w:World)(fP:Nat->Int)(fQ:Nat->Nat):NumArr w zerC (fun _=>0) 1 0 fP fQ:=⟨none,0,by rw[dm_zero];rfl,RRow.nought _ _ _ (Nat.zero_le _) _ _⟩
def NumsTold(b:Bool)(f:Nat->Int)(r n:Nat)(fP:Nat->Int)(fQ:Nat->Nat)(w w':World)(e:Ending):Prop :=
 ∃cs,e=.returned (.tuple #[.agg cs,.bool b])/\(if b then NumArr w' cs f r n fP fQ else cs=zerC)/\Below w.heap.size w w'
def CharsTold(b:Bool)(f:Nat->Int)(r n:Nat)(g:Nat->Int)(w w':World)(e:Ending):Prop :=
 ∃cs,e=.returned (.tuple #[.agg cs,.bool b])/\(if b then ChrArr w' cs f r n g else cs=zerC)/\Below w.heap.size w w'
theorem KRow.setAt{w:World}{ki:IntKind}{a:Option Addr}{n c:Nat}{f:Nat->Int}{p:Addr}{x:Value}(h:KRow w ki a n c f)(hp:w.cell? p=some x)(hx:∀z,x ≠ .int ki z)(v:Value):KRow (w.setCell p v) ki a n c f:=by
 refine⟨h.1,h.2.1,h.2.2.imp id ?_⟩;rintro⟨b,off,rfl,hl,hc⟩;refine⟨b,off,rfl,by simpa using hl,fun j hj => ?_⟩;rw[World.cell?_setCell_other _ _ _ _ (fun e=>by subst e;rw[hc j hj]at hp;exact hx _ (Option.some.inj hp).symm)];exact hc j hj
def NoLimb(w:World)(g:Nat):Prop:=∀o z,w.cell? ⟨g,o,none⟩≠some (.int .u32 z)
theorem NatIs.away{w w':World}{v:Value}{N g:Nat}(h:NatIs w v N)(hn:NoLimb w g)(hf:Far g w w'):NatIs w' v N:=by
 obtain⟨a,n,c,f,rfl,⟨h1,h2,h3,h4⟩,h5,h6⟩:=h;refine⟨a,n,c,f,rfl,⟨h1,h2,h3,?_⟩,h5,h6⟩
 rcases h4 with h4|⟨b,off,rfl,hb,hc⟩
 · exact .inl h4
 · refine .inr ⟨b,off,rfl,Nat.lt_of_lt_of_le hb hf.size,fun j hj => ?_⟩;have hj':=hc j hj;rw[hf.cell (a:=⟨b,off+j,none⟩) (fun e=>by subst e;exact hn _ _ hj') hb];exact hj'
theorem RatAt.away{w w':World}{a:Option Addr}{n c:Nat}{m:Bool}{a2:Option Addr}{n2 c2:Nat}{P:Int}{Q g:Nat}(h:RatAt w a n c m a2 n2 c2 P Q)(hn:NoLimb w g)(hf:Far g w w'):RatAt w' a n c m a2 n2 c2 P Q:=⟨⟨h.1.1,h.1.2.away hn hf⟩,h.2.away hn hf⟩
theorem RRow.away{w w':World}{sa:Option Addr}{n c:Nat}{fP:Nat->Int}{fQ:Nat->Nat}{g:Nat}(h:RRow w sa n c fP fQ)(hn:NoLimb w g)(hg:n=0∨∀x,sa=some x->x.block≠g)(hf:Far g w w'):RRow w' sa n c fP fQ:=by
 refine⟨h.1,h.2.1,?_⟩
 rcases h.2.2 with h0|⟨b,off,rfl,hl,hcc⟩
 · exact .inl h0
 · rcases hg with h0|hg
   · exact .inl h0
   · have hbg:b≠g:=hg _ rfl;refine .inr ⟨b,off,rfl,Nat.lt_of_lt_of_le hl hf.size,fun j hj => ?_⟩;obtain⟨a',n',c',m',a2',n2',c2',e1,e2,e3,hq⟩:=hcc j hj;exact⟨a',n',c',m',a2',n2',c2',(hf.cell (a:=⟨b,_,none⟩) hbg hl).trans e1,(hf.cell (a:=⟨b,_,none⟩) hbg hl).trans e2,(hf.cell (a:=⟨b,_,none⟩) hbg hl).trans e3,hq.away hn hf⟩
theorem KRow.away{w w':World}{ki:IntKind}{sa:Option Addr}{n c:Nat}{f:Nat->Int}{g:Nat}(h:KRow w ki sa n c f)(hg:n=0∨∀x,sa=some x->x.block≠g)(hf:Far g w w'):KRow w' ki sa n c f:=by
 refine⟨h.1,h.2.1,?_⟩
 rcases h.2.2 with h0|⟨b,off,rfl,hl,hcc⟩
 · exact .inl h0
 · rcases hg with h0|hg
   · exact .inl h0
   · exact .inr ⟨b,off,rfl,Nat.lt_of_lt_of_le hl hf.size,fun j hj=>(hf.cell (a:=⟨b,off+j,none⟩) (show b≠g from hg ⟨b,off,none⟩ rfl) hl).trans (hcc j hj)⟩
theorem arr_cells {ch : Bool} {more : Int} {d : Nat -> Int} {na : Option Addr} {nn nc : Nat} {ta : Option Addr} {tn tc : Nat} (o : Nat) (v : Value) (h : (arrC ch more d na nn nc ta tn tc)[o]? = some v) :
    (o=0/\∃b,v=.bool b)∨(1<=o/\o<10/\∃z,v=.int .i64 z)∨(10<=o/\o<12/\∃a n c,v=.slice a n c):=by
 unfold arrC at h
 rcases o with _|_|_|_|_|_|_|_|_|_|_|_|o
 · exact .inl ⟨rfl,_,(Option.some.inj h).symm⟩
 all_goals first
  | exact .inr (.inl ⟨by omega,by omega,_,(Option.some.inj h).symm⟩)
  | exact .inr (.inr ⟨by omega,by omega,_,_,_,(Option.some.inj h).symm⟩)
  | (exfalso;simp at h)
theorem Row.noLimb{w:World}{g:Nat}{t:TypeId}{ch:Bool}{more:Int}{d:Nat->Int}{na:Option Addr}{nn nc:Nat}{ta:Option Addr}{tn tc:Nat}(h:Row w g t (arrC ch more d na nn nc ta tn tc)):NoLimb w g:=by
 intro o z hc;rw[h.cell o]at hc
 rcases arr_cells o _ hc with ⟨_,_,e⟩|⟨_,_,_,e⟩|⟨_,_,_,_,_,e⟩<;>cases e
theorem RRow.ne {w : World} {sa : Option Addr} {n c : Nat} {fP : Nat -> Int} {fQ : Nat -> Nat} {g : Nat} {t : TypeId} {ch : Bool} {more : Int} {d : Nat -> Int} {na : Option Addr} {nn nc : Nat} {ta : Option Addr} {tn tc : Nat} (h : RRow w sa n c fP fQ) (hr : Row w g t (arrC ch more d na nn nc ta tn tc)) :
    n=0∨∀x,sa=some x->x.block≠g:=by
 rcases Nat.eq_zero_or_pos n with h0|h0
 · exact .inl h0
 · refine .inr fun x hx e => ?_
   obtain⟨b,off,a',n',c',m',a2',n2',c2',e0,hb,e1,e2,e3,_⟩:=h.get h0;rw[hx]at e0;obtain rfl:=Option.some.inj e0;subst e;rw[hr.cell]at e1 e2
   rcases arr_cells _ _ e1 with ⟨_,_,e⟩|⟨_,_,_,e⟩|⟨_,_,_⟩
   · cases e
   · cases e
   · rcases arr_cells _ _ e2 with ⟨_,_,e⟩|⟨_,_,_,e⟩|⟨_,_,_,_,_,e⟩
     · omega
     · cases e
     · cases e
theorem KRow.ne {w : World} {ki : IntKind} {sa : Option Addr} {n c : Nat} {f : Nat -> Int} {g : Nat} {t : TypeId} {ch : Bool} {more : Int} {d : Nat -> Int} {na : Option Addr} {nn nc : Nat} {ta : Option Addr} {tn tc : Nat} (h : KRow w ki sa n c f) (hk : ki ≠ .i64) (hr : Row w g t (arrC ch more d na nn nc ta tn tc)) :
    n=0∨∀x,sa=some x->x.block≠g:=by
 rcases Nat.eq_zero_or_pos n with h0|h0
 · exact .inl h0
 · refine .inr fun x hx e => ?_
   obtain⟨b,off,e0,hb,e1⟩:=h.get h0;rw[hx]at e0;obtain rfl:=Option.some.inj e0;subst e;rw[hr.cell]at e1
   rcases arr_cells _ _ e1 with ⟨_,_,e⟩|⟨_,_,_,e⟩|⟨_,_,_,_,_,e⟩
   · cases e
   · injection e with e;exact hk e
   · cases e
theorem RRow.len{w:World}{a:Option Addr}{n c:Nat}{fP:Nat->Int}{fQ:Nat->Nat}(h:RRow w a n c fP fQ):n<=c/\n<=9223372036854775807:=by
 have h1:=h.1;have h2:=h.2.1;unfold maxLen at h2;exact⟨h1,by omega⟩
theorem nums_yes (a : Option Addr) (r c : Nat) (f : Nat -> Int) (la : Option Addr) (n lc : Nat) (fP : Nat -> Int) (fQ : Nat -> Nat) (w : World) (h : KRow w .i64 a r c f) (hf : In64 f r) (hl : RRow w la n lc fP fQ) (hn : n <= 1000000) (hb : (shB f r && decide (itm f r = n)) = true) :
    Calls Tryz.prog 45 #[.slice a r c,.slice la n lc] w fun e w'=>NumsTold true f r n fP fQ w w' e:=by
 have B0:=(Bag.start w).alloc (.cells zerC 36);have BR:=Lib.hid (fun wz (h:KRow wz .i64 a r c f)=>bare_any a r c f n wz h hf);rw[hb]at BR;unfold BareTold at BR;rw[if_pos rfl]at BR;unfold arrC at BR;have CL:=Lib.hid (fun wz (h:RRow wz la n lc fP fQ)=>cloneR_any la n lc fP fQ wz h hn);have HK:=Lib.hid h;have HL:=Lib.hid hl;have hlen:=hl.len;have h0:Row (w.alloc (.cells zerC 36)) w.heap.size 36 zerC:=Row.new _ _ _;have BB:=Lib.hid (B0.row h0);clear h hl hf hn hb B0 h0;go_enter Tryz.func45,Tryz.ntmps45;go_wp2_with fail;go_at_call 102
 (with_reducible refine(BR.out _ ?_).mono ?_)
 · exact HK.out.below BB.out.below
 rintro e w2 ⟨rfl,hb2⟩;have B2:=BB.out.go hb2;have BB:=Lib.hid (((B2.alloc (.cells (arrC false ((r:Int)-1) (dm f r) none 0 0 none 0 0) 36)).row (Row.new _ _ _)));have hlt:=B2.now.1.lt;clear hb2 B2;unfold arrC at BB;go_wp2_with fail;go_at_call 104
 (with_reducible refine(CL.out _ ?_).mono ?_)
 · exact HL.out.below BB.out.below
 rintro e w3 ⟨a',c',rfl,hr3,hb3⟩;have B3:=BB.out.go hb3;have hb:=B3.below;have hr1:=B3.now.1;have hr0:=B3.now.2.1;have c10:w3.cell? ⟨w2.heap.size,10,none⟩=some (.slice none 0 0):=hr1.cell 10;have g10:w3.frozen? ⟨w2.heap.size,10,none⟩=false:=hr1.free 10;have hne:w.heap.size≠w2.heap.size:=by omega
 have hs1:Row (w3.setCell ⟨w2.heap.size,10,none⟩ (.slice a' n c')) w2.heap.size 36 (arrC false ((r:Int)-1) (dm f r) a' n c' none 0 0):=hr1.set 10 _;have hs0:Row (w3.setCell ⟨w2.heap.size,10,none⟩ (.slice a' n c')) w.heap.size 36 zerC:=hr0.far (a:=⟨w2.heap.size,10,none⟩) hne _;have hr1':Row w3 w2.heap.size 36 (arrC false ((r:Int)-1) (dm f r) none 0 0 none 0 0):=hr1;have hq:=(hr3.away hr1'.noLimb (hr3.ne hr1') (Far.setCell w3 w2.heap.size 10 (.slice a' n c')))
 have HE:Hid (NumsTold true f r n fP fQ w ((w3.setCell ⟨w2.heap.size,10,none⟩ (.slice a' n c')).setRow w.heap.size (arrC false ((r:Int)-1) (dm f r) a' n c' none 0 0)) (.returned (.tuple #[.agg (arrC false ((r:Int)-1) (dm f r) a' n c' none 0 0),.bool true]))) :=
  ⟨_,rfl,by rw[if_pos rfl];exact⟨a',c',rfl,hq.away (Row.noLimb hs0) (RRow.ne hq hs0) (Far.setRow _ _ _)⟩,below_put (hb.setCell (p:=⟨w2.heap.size,10,none⟩) (show w.heap.size<=w2.heap.size by omega) _) (Nat.le_refl _) _⟩
 have HS1:=Lib.hid hs1;have HS0:=Lib.hid hs0;clear hs1 hs0 hr1 hr1' hr0 B3 hb3 hq hr3 hb
 go_wp2_with (first
  | (refine ld_arr rfl (.tmp 6) rfl w2.heap.size rfl HS1.out ?_)
  | (refine st_arr rfl (.tmp 4) (.tmp 19) rfl w.heap.size rfl _ _ _ _ _ _ _ _ _ rfl HS0.out rfl ?_))
 exact bodyPost_ret (res_arr2 Tryz.results45 rfl rfl (HS0.out.put _) rfl) rfl HE.out
theorem chars_yes (a : Option Addr) (r c : Nat) (f : Nat -> Int) (la : Option Addr) (n lc : Nat) (g : Nat -> Int) (w : World) (h : KRow w .i64 a r c f) (hf : In64 f r) (hl : KRow w .i32 la n lc g) (hn : n <= 1000000) (hb : (shB f r && decide (itm f r = n)) = true) :
    Calls Tryz.prog 42 #[.slice a r c,.slice la n lc] w fun e w'=>CharsTold true f r n g w w' e:=by
 have B0:=(Bag.start w).alloc (.cells zerC 36);have BR:=Lib.hid (fun wz (h:KRow wz .i64 a r c f)=>bare_any a r c f n wz h hf);rw[hb]at BR;unfold BareTold at BR;rw[if_pos rfl]at BR;unfold arrC at BR;have CL:=Lib.hid (fun wz (h:KRow wz .i32 la n lc g)=>cloneC_any la n lc g wz h hn);have HK:=Lib.hid h;have HL:=Lib.hid hl;have hlen:=hl.len;have h0:Row (w.alloc (.cells zerC 36)) w.heap.size 36 zerC:=Row.new _ _ _;have BB:=Lib.hid (B0.row h0);clear h hl hf hn hb B0 h0;go_enter Tryz.func42,Tryz.ntmps42;go_wp2_with fail;go_at_call 102
 (with_reducible refine(BR.out _ ?_).mono ?_)
 · exact HK.out.below BB.out.below
 rintro e w2 ⟨rfl,hb2⟩;have B2:=BB.out.go hb2;have BB:=Lib.hid (((B2.alloc (.cells (arrC false ((r:Int)-1) (dm f r) none 0 0 none 0 0) 36)).row (Row.new _ _ _)));have hlt:=B2.now.1.lt;clear hb2 B2;unfold arrC at BB;go_wp2_with fail;go_at_call 103
 (with_reducible refine(CL.out _ ?_).mono ?_)
 · exact HL.out.below BB.out.below
 rintro e w3 ⟨a',c',rfl,hr3,hb3⟩;have B3:=BB.out.go hb3;have hb:=B3.below;have hr1:=B3.now.1;have hr0:=B3.now.2.1;have c0:w3.cell? ⟨w2.heap.size,0,none⟩=some (.bool false):=hr1.cell 0;have g0:w3.frozen? ⟨w2.heap.size,0,none⟩=false:=hr1.free 0;have c11:(w3.setCell ⟨w2.heap.size,0,none⟩ (.bool true)).cell? ⟨w2.heap.size,11,none⟩=some (.slice none 0 0):=(hr1.set 0 (.bool true)).cell 11;have g11:w3.frozen? ⟨w2.heap.size,11,none⟩=false:=hr1.free 11;have hne:w.heap.size≠w2.heap.size:=by omega
 have hs1:Row ((w3.setCell ⟨w2.heap.size,0,none⟩ (.bool true)).setCell ⟨w2.heap.size,11,none⟩ (.slice a' n c')) w2.heap.size 36 (arrC true ((r:Int)-1) (dm f r) none 0 0 a' n c'):=(hr1.set 0 (.bool true)).set 11 _;have hs0:Row ((w3.setCell ⟨w2.heap.size,0,none⟩ (.bool true)).setCell ⟨w2.heap.size,11,none⟩ (.slice a' n c')) w.heap.size 36 zerC:=(hr0.far (a:=⟨w2.heap.size,0,none⟩) hne _).far (a:=⟨w2.heap.size,11,none⟩) hne _;have hr1':Row w3 w2.heap.size 36 (arrC false ((r:Int)-1) (dm f r) none 0 0 none 0 0):=hr1;have hr2':Row (w3.setCell ⟨w2.heap.size,0,none⟩ (.bool true)) w2.heap.size 36 (arrC true ((r:Int)-1) (dm f r) none 0 0 none 0 0):=hr1.set 0 _;have hq0:=hr3.away (hr3.ne (by decide) hr1') (Far.setCell w3 w2.heap.size 0 (.bool true));have hq:=hq0.away (hq0.ne (by decide) hr2') (Far.setCell _ w2.heap.size 11 (.slice a' n c'))
 have HE:Hid (CharsTold true f r n g w (((w3.setCell ⟨w2.heap.size,0,none⟩ (.bool true)).setCell ⟨w2.heap.size,11,none⟩ (.slice a' n c')).setRow w.heap.size (arrC true ((r:Int)-1) (dm f r) none 0 0 a' n c')) (.returned (.tuple #[.agg (arrC true ((r:Int)-1) (dm f r) none 0 0 a' n c'),.bool true]))) :=
  ⟨_,rfl,by rw[if_pos rfl];exact⟨a',c',rfl,hq.away (hq.ne (by decide) hs0) (Far.setRow _ _ _)⟩,below_put ((hb.setCell (p:=⟨w2.heap.size,0,none⟩) (show w.heap.size<=w2.heap.size by omega) _).setCell (p:=⟨w2.heap.size,11,none⟩) (show w.heap.size<=w2.heap.size by omega) _) (Nat.le_refl _) _⟩
 have HS1:=Lib.hid hs1;have HS0:=Lib.hid hs0;clear hs1 hs0 hr1 hr1' hr2' hr0 B3 hb3 hq hq0 hr3 hb
 go_wp2_with (first
  | (refine ld_arr rfl (.tmp 6) rfl w2.heap.size rfl HS1.out ?_)
  | (refine st_arr rfl (.tmp 4) (.tmp 20) rfl w.heap.size rfl _ _ _ _ _ _ _ _ _ rfl HS0.out rfl ?_))
 exact bodyPost_ret (res_arr2 Tryz.results42 rfl rfl (HS0.out.put _) rfl) rfl HE.out
theorem nums_no (a : Option Addr) (r c : Nat) (f : Nat -> Int) (la : Option Addr) (n lc : Nat) (fP : Nat -> Int) (fQ : Nat -> Nat) (w : World) (h : KRow w .i64 a r c f) (hf : In64 f r) (hb : (shB f r && decide (itm f r = n)) = false) :
    Calls Tryz.prog 45 #[.slice a r c,.slice la n lc] w fun e w'=>NumsTold false f r n fP fQ w w' e:=by
 have B0:=(Bag.start w).alloc (.cells zerC 36);have BR:=Lib.hid (fun wz (h:KRow wz .i64 a r c f)=>bare_any a r c f n wz h hf);rw[hb]at BR;unfold BareTold at BR;rw[if_neg (by decide)]at BR;unfold arrC at BR;have HK:=Lib.hid h;have h0:Row (w.alloc (.cells zerC 36)) w.heap.size 36 zerC:=Row.new _ _ _;have BB:=Lib.hid (B0.row h0);clear h hf hb B0 h0;go_enter Tryz.func45,Tryz.ntmps45;go_wp2_with fail;go_at_call 102
 (with_reducible refine(BR.out _ ?_).mono ?_)
 · exact HK.out.below BB.out.below
 rintro e w2 ⟨rfl,hb2⟩;have B2:=BB.out.go hb2;have BB:=Lib.hid (((B2.alloc (.cells zerC 36)).row (Row.new _ _ _)));have hlt:=B2.now.1.lt;clear hb2 B2;have HS1:=Lib.hid BB.out.now.1;have HS0:=Lib.hid BB.out.now.2.1
 have HE:Hid (NumsTold false f r n fP fQ w ((w2.alloc (.cells zerC 36)).setRow w.heap.size zerC) (.returned (.tuple #[.agg zerC,.bool false]))) :=
  ⟨_,rfl,by rw[if_neg (by decide)],below_put BB.out.below (Nat.le_refl _) _⟩
 go_wp2_with (first
  | (refine ld_arr rfl (.tmp 6) rfl w2.heap.size rfl (ch:=false) (more:=0) (d:=fun _=>0) (na:=none) (nn:=0) (nc:=0) (ta:=none) (tn:=0) (tc:=0) HS1.out ?_)
  | (refine st_arr rfl (.tmp 4) (.tmp 19) rfl w.heap.size rfl _ _ _ _ _ _ _ _ _ rfl HS0.out rfl ?_))
 exact bodyPost_ret (res_arr2 Tryz.results45 rfl rfl (HS0.out.put _) rfl) rfl HE.out
theorem chars_no (a : Option Addr) (r c : Nat) (f : Nat -> Int) (la : Option Addr) (n lc : Nat) (g : Nat -> Int) (w : World) (h : KRow w .i64 a r c f) (hf : In64 f r) (hb : (shB f r && decide (itm f r = n)) = false) :
    Calls Tryz.prog 42 #[.slice a r c,.slice la n lc] w fun e w'=>CharsTold false f r n g w w' e:=by
 have B0:=(Bag.start w).alloc (.cells zerC 36);have BR:=Lib.hid (fun wz (h:KRow wz .i64 a r c f)=>bare_any a r c f n wz h hf);rw[hb]at BR;unfold BareTold at BR;rw[if_neg (by decide)]at BR;unfold arrC at BR;have HK:=Lib.hid h;have h0:Row (w.alloc (.cells zerC 36)) w.heap.size 36 zerC:=Row.new _ _ _;have BB:=Lib.hid (B0.row h0);clear h hf hb B0 h0;go_enter Tryz.func42,Tryz.ntmps42;go_wp2_with fail;go_at_call 102
 (with_reducible refine(BR.out _ ?_).mono ?_)
 · exact HK.out.below BB.out.below
 rintro e w2 ⟨rfl,hb2⟩;have B2:=BB.out.go hb2;have BB:=Lib.hid (((B2.alloc (.cells zerC 36)).row (Row.new _ _ _)));have hlt:=B2.now.1.lt;clear hb2 B2;have HS1:=Lib.hid BB.out.now.1;have HS0:=Lib.hid BB.out.now.2.1
 have HE:Hid (CharsTold false f r n g w ((w2.alloc (.cells zerC 36)).setRow w.heap.size zerC) (.returned (.tuple #[.agg zerC,.bool false]))) :=
  ⟨_,rfl,by rw[if_neg (by decide)],below_put BB.out.below (Nat.le_refl _) _⟩
 go_wp2_with (first
  | (refine ld_arr rfl (.tmp 6) rfl w2.heap.size rfl (ch:=false) (more:=0) (d:=fun _=>0) (na:=none) (nn:=0) (nc:=0) (ta:=none) (tn:=0) (tc:=0) HS1.out ?_)
  | (refine st_arr rfl (.tmp 4) (.tmp 20) rfl w.heap.size rfl _ _ _ _ _ _ _ _ _ rfl HS0.out rfl ?_))
 exact bodyPost_ret (res_arr2 Tryz.results42 rfl rfl (HS0.out.put _) rfl) rfl HE.out
theorem nums_any (a : Option Addr) (r c : Nat) (f : Nat -> Int) (la : Option Addr) (n lc : Nat) (fP : Nat -> Int) (fQ : Nat -> Nat) (w : World) (h : KRow w .i64 a r c f) (hf : In64 f r) (hl : RRow w la n lc fP fQ) (hn : n <= 1000000) :
    Calls Tryz.prog 45 #[.slice a r c,.slice la n lc] w fun e w'=>NumsTold (shB f r&&decide (itm f r=n)) f r n fP fQ w w' e:=by
 cases hb:shB f r&&decide (itm f r=n)with
 | false=>exact nums_no a r c f la n lc fP fQ w h hf hb
 | true=>exact nums_yes a r c f la n lc fP fQ w h hf hl hn hb
theorem chars_any (a : Option Addr) (r c : Nat) (f : Nat -> Int) (la : Option Addr) (n lc : Nat) (g : Nat -> Int) (w : World) (h : KRow w .i64 a r c f) (hf : In64 f r) (hl : KRow w .i32 la n lc g) (hn : n <= 1000000) :
    Calls Tryz.prog 42 #[.slice a r c,.slice la n lc] w fun e w'=>CharsTold (shB f r&&decide (itm f r=n)) f r n g w w' e:=by
 cases hb:shB f r&&decide (itm f r=n)with
 | false=>exact chars_no a r c f la n lc g w h hf hb
 | true=>exact chars_yes a r c f la n lc g w h hf hl hn hb
def elP(n:Nat)(fP:Nat->Int)(i:Int):Int:=if 0<=i/\i<n then fP i.toNat else 0
def elQ(n:Nat)(fQ:Nat->Nat)(i:Int):Nat:=if 0<=i/\i<n then fQ i.toNat else 1
theorem RatAt.nought(w:World):RatAt w none 0 0 false none 0 0 0 1:=⟨⟨rfl,NatIs.zero w⟩,NatIs.zero w⟩
def RatsTo(w:World)(g n k:Nat)(fP:Nat->Int)(fQ:Nat->Nat):Prop:=g<w.heap.size/\Free w g/\∀j,j<n->∃a n' c m a2 n2 c2,w.cell? ⟨g,j*3,none⟩=some (.slice a n' c)/\w.cell? ⟨g,j*3+1,none⟩=some (.bool m)/\w.cell? ⟨g,j*3+2,none⟩=some (.slice a2 n2 c2)/\(j<k->RatAt w a n' c m a2 n2 c2 (fP j) (fQ j))
theorem RatsTo.below{w w':World}{g n k:Nat}{fP:Nat->Int}{fQ:Nat->Nat}(h:RatsTo w g n k fP fQ)(hb:Below w.heap.size w w'):RatsTo w' g n k fP fQ:=by
 obtain⟨h1,h2,h3⟩:=h;refine⟨Nat.lt_of_lt_of_le h1 hb.size,h2.below hb h1,fun j hj => ?_⟩;obtain⟨a,n',c,m,a2,n2,c2,e1,e2,e3,e4⟩:=h3 j hj;exact⟨a,n',c,m,a2,n2,c2,(hb.cell (p:=⟨g,_,none⟩) h1).trans e1,(hb.cell (p:=⟨g,_,none⟩) h1).trans e2,(hb.cell (p:=⟨g,_,none⟩) h1).trans e3,fun hk=>(e4 hk).below hb⟩
theorem RatsTo.step {w : World} {g n k : Nat} {fP : Nat -> Int} {fQ : Nat -> Nat} (h : RatsTo w g n k fP fQ) (hk : k < n) {a : Option Addr} {n' c : Nat} {m : Bool} {a2 : Option Addr} {n2 c2 : Nat} (hr : RatAt w a n' c m a2 n2 c2 (fP k) (fQ k)) :
    RatsTo (((w.setCell ⟨g,k*3,none⟩ (.slice a n' c)).setCell ⟨g,k*3+1,none⟩ (.bool m)).setCell ⟨g,k*3+2,none⟩ (.slice a2 n2 c2)) g n (k+1) fP fQ:=by
 obtain⟨h1,h2,h3⟩:=h;obtain⟨b,l,d,v,b2,l2,d2,x1,x2,x3,_⟩:=h3 k hk
 have keep:∀v N,NatIs w v N->NatIs (((w.setCell ⟨g,k*3,none⟩ (.slice a n' c)).setCell ⟨g,k*3+1,none⟩ (.bool m)).setCell ⟨g,k*3+2,none⟩ (.slice a2 n2 c2)) v N:=by
  intro u N hN
  refine((hN.storeAt x1 (fun _ _ h=>by cases h) _).storeAt (x:=.bool v) ?_ (fun _ _ h=>by cases h) _).storeAt (x:=.slice b2 l2 d2) ?_ (fun _ _ h=>by cases h) _
  · rw[World.cell?_setCell_other _ _ _ _ (fun e=>by injection e with _ e;omega)];exact x2
  · rw[World.cell?_setCell_other _ _ _ _ (fun e=>by injection e with _ e;omega),World.cell?_setCell_other _ _ _ _ (fun e=>by injection e with _ e;omega)];exact x3
 have keepR:∀a n c m a2 n2 c2 P Q,RatAt w a n c m a2 n2 c2 P Q->RatAt _ a n c m a2 n2 c2 P Q:=fun _ _ _ _ _ _ _ _ _ hq=>⟨⟨hq.1.1,keep _ _ hq.1.2⟩,keep _ _ hq.2⟩
 refine⟨by simpa using h1,((h2.set _ _).set _ _).set _ _,fun j hj => ?_⟩
 by_cases e:j=k
 · subst e
   refine⟨a,n',c,m,a2,n2,c2,?_,?_,?_,fun _=>keepR _ _ _ _ _ _ _ _ _ hr⟩
   · rw[World.cell?_setCell_other _ _ _ _ (fun e=>by injection e with _ e;omega),World.cell?_setCell_other _ _ _ _ (fun e=>by injection e with _ e;omega)];exact World.cell?_setCell_same _ _ _ x1
   · rw[World.cell?_setCell_other _ _ _ _ (fun e=>by injection e with _ e;omega)];refine World.cell?_setCell_same (u:=.bool v) _ _ _ ?_;rw[World.cell?_setCell_other _ _ _ _ (fun e=>by injection e with _ e;omega)];exact x2
   · refine World.cell?_setCell_same (u:=.slice b2 l2 d2) _ _ _ ?_;rw[World.cell?_setCell_other _ _ _ _ (fun e=>by injection e with _ e;omega),World.cell?_setCell_other _ _ _ _ (fun e=>by injection e with _ e;omega)];exact x3
 · obtain⟨a',n9,c',m',a2',n2',c2',e1,e2,e3,e4⟩:=h3 j hj
   have far:∀o,(o=j*3∨o=j*3+1∨o=j*3+2)->(((w.setCell ⟨g,k*3,none⟩ (.slice a n' c)).setCell ⟨g,k*3+1,none⟩ (.bool m)).setCell ⟨g,k*3+2,none⟩ (.slice a2 n2 c2)).cell? ⟨g,o,none⟩=w.cell? ⟨g,o,none⟩:=by
    intro o ho;rw[World.cell?_setCell_other _ _ _ _ (fun e=>by injection e with _ e;omega),World.cell?_setCell_other _ _ _ _ (fun e=>by injection e with _ e;omega),World.cell?_setCell_other _ _ _ _ (fun e=>by injection e with _ e;omega)]
   exact⟨a',n9,c',m',a2',n2',c2',(far _ (.inl rfl)).trans e1,(far _ (.inr (.inl rfl))).trans e2,(far _ (.inr (.inr rfl))).trans e3,fun hj'=>keepR _ _ _ _ _ _ _ _ _ (e4 (by omega))⟩
theorem RatsTo.done{w:World}{g n:Nat}{fP:Nat->Int}{fQ:Nat->Nat}(h:RatsTo w g n n fP fQ)(hn:n<=maxLen):RRow w (some ⟨g,0,none⟩) n n fP fQ:=by
 refine⟨Nat.le_refl _,hn,.inr ⟨g,0,rfl,h.1,fun j hj => ?_⟩⟩;obtain⟨a,n',c,m,a2,n2,c2,e1,e2,e3,e4⟩:=h.2.2 j hj;rw[Nat.zero_add];exact⟨a,n',c,m,a2,n2,c2,e1,e2,e3,e4 hj⟩
theorem made3{n i:Nat}(h:i<n*3):(madeCells (Value.cells (.agg #[.slice none 0 0,.bool false,.slice none 0 0])) (n*3))[i]? = some (#[Value.slice none 0 0,.bool false,.slice none 0 0][i%3]!):=by
 unfold madeCells;rw[Array.getElem?_map,Array.getElem?_range,if_pos h]
 rfl
theorem RatsTo.made(w:World)(n:Nat)(t:TypeId)(fP:Nat->Int)(fQ:Nat->Nat){mc:Array Value}(hmc:mc=madeCells (Value.cells (.agg #[.slice none 0 0,.bool false,.slice none 0 0])) (n*3)):RatsTo (w.alloc (.cells mc t)) w.heap.size n 0 fP fQ:=by
 subst hmc;have hR:=Row.new w t (madeCells (Value.cells (.agg #[.slice none 0 0,.bool false,.slice none 0 0])) (n*3))
 refine⟨hR.lt,fun o=>hR.free o,fun j hj=>⟨none,0,0,false,none,0,0,?_,?_,?_,fun h=>absurd h (Nat.not_lt_zero _)⟩⟩
 · rw[hR.cell,made3 (by omega)];simp
 · rw[hR.cell,made3 (by omega),show(j*3+1)%3=1 by omega];rfl
 · rw[hR.cell,made3 (by omega),show(j*3+2)%3=2 by omega];rfl
theorem RatsTo.place{w:World}{g n k:Nat}{fP:Nat->Int}{fQ:Nat->Nat}(h:RatsTo w g n k fP fQ){j:Nat}(hj:j<n):(∃a n' c m a2 n2 c2,w.cell? ⟨g,j*3,none⟩=some (.slice a n' c)/\w.cell? ⟨g,j*3+1,none⟩=some (.bool m)/\w.cell? ⟨g,j*3+2,none⟩=some (.slice a2 n2 c2))/\w.frozen? ⟨g,j*3,none⟩=false/\w.frozen? ⟨g,j*3+1,none⟩=false/\w.frozen? ⟨g,j*3+2,none⟩=false:=by
 obtain⟨a,n',c,m,a2,n2,c2,e1,e2,e3,_⟩:=h.2.2 j hj;exact⟨⟨a,n',c,m,a2,n2,c2,e1,e2,e3⟩,h.2.1 _,h.2.1 _,h.2.1 _⟩
def NumTold1(f:Nat->Int)(r n:Nat)(fP:Nat->Int)(fQ:Nat->Nat)(w w':World)(e:Ending):Prop:=∃cs,e=.returned (.agg cs)/\NumArr w' cs f r n fP fQ/\Below w.heap.size w w'
theorem itm_one(f:Nat->Int):itm f 1=f 0:=by show 1*f 0=f 0;omega
theorem shB_one(f:Nat->Int):shB f 1=(decide (0<=f 0)&&decide (f 0<=4096)):=by
 unfold shB;rw[decide_eq_true (by omega),Bool.true_and]
 show(true&&(decide (0<=f 0)&&decide (1*max (f 0) 1<=4096)))=_
 rw[Bool.true_and]
 by_cases h:0<=f 0
 · rw[decide_eq_true h,Bool.true_and,Bool.true_and]
   by_cases h2:f 0<=4096
   · rw[decide_eq_true h2,decide_eq_true (by omega)]
   · rw[decide_eq_false h2,decide_eq_false (by omega)]
 · rw[decide_eq_false h];rfl
theorem sh_list{n:Nat}(h:n<=4096):(shB (fun _=>(n:Int)) 1&&decide (itm (fun _=>(n:Int)) 1=n))=true:=by
 rw[shB_one,itm_one,decide_eq_true (show(0:Int)<=n by omega),decide_eq_true (show(n:Int)<=4096 by omega),decide_eq_true rfl]
 rfl
theorem KRow.one(w:World)(x:Int)(t:TypeId):KRow (w.alloc (.cells #[.int .i64 x] t)) .i64 (some ⟨w.heap.size,0,none⟩) 1 1 (fun _=>x):=by
 refine⟨Nat.le_refl _,by unfold maxLen;omega,.inr ⟨_,0,rfl,by simp,fun j hj => ?_⟩⟩;obtain rfl:j=0:=by omega
 exact(Row.new w t #[.int .i64 x]).cell 0
theorem In64.one{x:Int}(h : -9223372036854775808<=x/\x<=9223372036854775807)(n:Nat):In64 (fun _=>x) n:=fun _ _=>h
theorem Bag.to{w0 w:World}{B:World->Prop}{g n k:Nat}{fP:Nat->Int}{fQ:Nat->Nat}(h:Bag w0 B w)(q:RatsTo w g n k fP fQ):Bag w0 (fun y=>RatsTo y g n k fP fQ/\B y) w:=h.add (fun _ _ hb q=>RatsTo.below q hb) q
theorem Bag.rrow{w0 w:World}{B:World->Prop}{a:Option Addr}{n c:Nat}{fP:Nat->Int}{fQ:Nat->Nat}(h:Bag w0 B w)(q:RRow w a n c fP fQ):Bag w0 (fun y=>RRow y a n c fP fQ/\B y) w:=h.add (fun _ _ hb q=>RRow.below q hb) q
theorem ints_any (sa : Option Addr) (sn sc : Nat) (g : Nat -> Int) (w : World) (hs : KRow w .i64 sa sn sc g) (hg : In64 g sn) (hn : sn <= 4096) :
    Calls Tryz.prog 34 #[.slice sa sn sc] w fun e w'=>NumTold1 (fun _=>sn) 1 sn g (fun _=>1) w w' e:=by
 obtain⟨i0,hi,hz0,hz1,hz2⟩:=info_parts infoR;have hmk:=fun wz=>run_make (P:=Tryz.prog) wz 34 53 i0 _ Tryz.underlying34 hi hz0 .i64 .i64 sn sn (by omega) (by omega) (by rw[hz2];omega) (by omega)
 simp only[Int.toNat_natCast,hz1]at hmk;have HK:=Lib.hid hs;have hl:=hs.len;have FR:=Lib.hid (fun X wz h=>ratFrom_any X wz h);unfold RatTold at FR;have HG:=Lib.hid hg;have NU:=Lib.hid (fun a c la lc wz (h:KRow wz .i64 a 1 c (fun _=>(sn:Int))) (h2:RRow wz la sn lc g (fun _=>1))=>nums_any a 1 c (fun _=>(sn:Int)) la sn lc g (fun _=>1) wz h (In64.one (by omega) 1) h2 (by omega));rw[sh_list hn]at NU;unfold NumsTold at NU
 have H0:Hid (Below w.heap.size w ((w.alloc (.cells zerC 36)).alloc (.cells (madeCells (Value.cells (.agg #[.slice none 0 0,.bool false,.slice none 0 0])) (sn*3)) 53))/\Row ((w.alloc (.cells zerC 36)).alloc (.cells (madeCells (Value.cells (.agg #[.slice none 0 0,.bool false,.slice none 0 0])) (sn*3)) 53)) w.heap.size 36 zerC/\RatsTo ((w.alloc (.cells zerC 36)).alloc (.cells (madeCells (Value.cells (.agg #[.slice none 0 0,.bool false,.slice none 0 0])) (sn*3)) 53)) (w.heap.size+1) sn 0 g (fun _=>1)) :=
  ⟨((Below.refl _ _).alloc (Nat.le_refl _) _).alloc (by simp) _,(Row.new _ _ _).below ((Below.refl _ _).alloc (Nat.le_refl _) _),by have:=RatsTo.made (w.alloc (.cells zerC 36)) sn 53 g (fun _=>1) rfl;rwa [World.size_alloc]at this⟩
 clear hs hg hi hz0 hz1 hz2;go_enter Tryz.func34,Tryz.ntmps34;go_wp2_with fail
 go_loopw [13] (fun i wr=>∃k:Nat,k<=sn/\i=.int .i64 k/\Hid (Below w.heap.size w wr/\Row wr w.heap.size 36 zerC/\RatsTo wr (w.heap.size+1) sn k g (fun _=>1))) (fun i _=>sn-(intOf i).toNat)
 case atStart=>exact⟨0,by omega,rfl,H0.out⟩
 case round =>
  obtain⟨k,hk,rfl,hrel⟩:=hrel;obtain⟨hbl,hrow,hto⟩:=hrel.out;have hwr:=hbl.size
  by_cases hlt:k<sn
  · obtain ⟨b, off, rfl, hb, hc⟩ := (HK.out.below hbl).get hlt; have BB := Lib.hid ((((Bag.start wr).row hrow).to hto)); have HBL := Lib.hid hbl; clear hbl hrow hto; go_wp2_with fail; go_at_call 56
    (with_reducible refine(FR.out _ _ ?_).mono ?_)
    · exact HG.out k hlt
    rintro e w2 ⟨a2,n2,c2,m2,a3,n3,c3,rfl,hr2,hb2⟩;have B2:=BB.out.go hb2;have hto:=B2.now.1;have hrow:=B2.now.2.1;obtain⟨⟨b1,l1,d1,v1,b2,l2,d2,x1,x2,x3⟩,y1,y2,y3⟩:=hto.place hlt
    have HN:Hid (Below w.heap.size w (((w2.setCell ⟨w.heap.size+1,k*3,none⟩ (.slice a2 n2 c2)).setCell ⟨w.heap.size+1,k*3+1,none⟩ (.bool m2)).setCell ⟨w.heap.size+1,k*3+2,none⟩ (.slice a3 n3 c3)) /\
        Row (((w2.setCell ⟨w.heap.size+1,k*3,none⟩ (.slice a2 n2 c2)).setCell ⟨w.heap.size+1,k*3+1,none⟩ (.bool m2)).setCell ⟨w.heap.size+1,k*3+2,none⟩ (.slice a3 n3 c3)) w.heap.size 36 zerC /\
        RatsTo (((w2.setCell ⟨w.heap.size+1,k*3,none⟩ (.slice a2 n2 c2)).setCell ⟨w.heap.size+1,k*3+1,none⟩ (.bool m2)).setCell ⟨w.heap.size+1,k*3+2,none⟩ (.slice a3 n3 c3)) (w.heap.size+1) sn (k+1) g (fun _=>1)) :=
     ⟨(((HBL.out.trans (hb2.mono hwr)).setCell (p:=⟨w.heap.size+1,_,none⟩) (Nat.le_succ _) _).setCell (p:=⟨w.heap.size+1,_,none⟩) (Nat.le_succ _) _).setCell (p:=⟨w.heap.size+1,_,none⟩) (Nat.le_succ _) _,
       ((hrow.far (a:=⟨w.heap.size+1,_,none⟩) (show w.heap.size≠w.heap.size+1 by omega) _).far (a:=⟨w.heap.size+1,_,none⟩) (show w.heap.size≠w.heap.size+1 by omega) _).far (a:=⟨w.heap.size+1,_,none⟩) (show w.heap.size≠w.heap.size+1 by omega) _,
       hto.step hlt hr2⟩
    clear hto hrow hr2 hb2 B2 hc;go_wp2
    go_roundw
    case rel=>exact⟨k+1,by omega,by go_num,HN.out⟩
    case measure=>simp[intOf];omega
  · obtain rfl:k=sn:=by omega
    have hdone:=hto.done (by unfold maxLen;omega);have hkr:KRow (wr.alloc (.cells #[.int .i64 (k:Int)] 3)) .i64 (some ⟨wr.heap.size,0,none⟩) 1 1 (fun _=>(k:Int)):=KRow.one wr k _;have BB:=Lib.hid ((((Bag.start wr).row hrow).alloc (.cells #[.int .i64 (k:Int)] 3)));have HD:=Lib.hid (hdone.below ((Below.refl _ _).alloc (Nat.le_refl _) (.cells #[.int .i64 (k:Int)] 3)));have HKR:=Lib.hid hkr;have HBL:=Lib.hid hbl;clear hbl hrow hto hdone hkr;go_wp2_with fail;go_at_call 45
    (with_reducible refine(NU.out _ _ _ _ _ ?_ ?_).mono ?_)
    · exact HKR.out
    · exact HD.out
    rintro e w3 ⟨cs,rfl,hcs,hb3⟩;rw[if_pos trivial]at hcs;obtain⟨na,nc,rfl,hr3⟩:=hcs;have B3:=(((BB.out.go hb3).rrow hr3).newRow (arrC false (((1:Nat):Int)-1) (dm (fun _=>(k:Int)) 1) na k nc none 0 0) 36)
    have hlt3:w.heap.size<w3.heap.size:=by have:=hb3.size;simp at this;omega
    have hbb:=HBL.out.trans (B3.below.mono hwr);have hr1:=B3.now.1;have hr0:=B3.now.2.2.1;have HR1:=Lib.hid hr1;have HR0:=Lib.hid hr0;have hq:=B3.now.2.1.away (Row.noLimb hr0) (RRow.ne B3.now.2.1 hr0) (Far.setRow _ _ (arrC false (((1:Nat):Int)-1) (dm (fun _=>(k:Int)) 1) na k nc none 0 0))
    have HE:Hid (NumTold1 (fun _=>(k:Int)) 1 k g (fun _=>1) w ((w3.alloc (.cells (arrC false (((1:Nat):Int)-1) (dm (fun _=>(k:Int)) 1) na k nc none 0 0) 36)).setRow w.heap.size (arrC false (((1:Nat):Int)-1) (dm (fun _=>(k:Int)) 1) na k nc none 0 0)) (.returned (.agg (arrC false (((1:Nat):Int)-1) (dm (fun _=>(k:Int)) 1) na k nc none 0 0)))) :=
     ⟨_,rfl,⟨na,nc,rfl,hq⟩,below_put hbb (Nat.le_refl _) _⟩
    clear hr3 hb3 B3 hbb hr1 hr0 hq;unfold arrC
    go_wp2_with (first
     | (refine ld_arr rfl (.tmp 6) rfl w3.heap.size rfl HR1.out ?_)
     | (refine st_arr rfl (.tmp 2) (.tmp 32) rfl w.heap.size rfl _ _ _ _ _ _ _ _ _ rfl HR0.out rfl ?_))
    exact bodyPost_ret (res_arr Tryz.results34 rfl (HR0.out.put _) rfl) rfl HE.out
theorem rank_any (ch : Bool) (d : Nat -> Int) (r : Nat) (na : Option Addr) (nn nc : Nat) (ta : Option Addr) (tn tc : Nat) (w : World) (hr : r <= 1000) :
    Calls Tryz.prog 101 #[.agg (arrC ch ((r:Int)-1) d na nn nc ta tn tc)] w fun e w'=>e=.returned (.int .i64 r)/\Below w.heap.size w w':=by
 have HB:Hid (Below w.heap.size w (w.alloc (.cells (arrC ch ((r:Int)-1) d na nn nc ta tn tc) 36))):=(Below.refl _ _).alloc (Nat.le_refl _) _;have HE:Hid (1+((r:Int)-1)=r):=by show _=_;omega
 unfold arrC at HB;unfold arrC;go_enter Tryz.func101,Tryz.ntmps101;go_wp2;go_ret;exact⟨ret_int HE.out,HB.out⟩
def KTo(w:World)(g n k:Nat)(f:Nat->Int):Prop:=g<w.heap.size/\Free w g/\∀j,j<n->∃z,w.cell? ⟨g,j,none⟩=some (.int .i64 z)/\(j<k->z=f j)
theorem KTo.below{w w':World}{g n k:Nat}{f:Nat->Int}(h:KTo w g n k f)(hb:Below w.heap.size w w'):KTo w' g n k f:=by
 obtain⟨h1,h2,h3⟩:=h;refine⟨Nat.lt_of_lt_of_le h1 hb.size,h2.below hb h1,fun j hj => ?_⟩;obtain⟨z,e1,e2⟩:=h3 j hj;exact⟨z,(hb.cell (p:=⟨g,_,none⟩) h1).trans e1,e2⟩
theorem KTo.step{w:World}{g n k:Nat}{f:Nat->Int}(h:KTo w g n k f)(hk:k<n):KTo (w.setCell ⟨g,k,none⟩ (.int .i64 (f k))) g n (k+1) f:=by
 obtain⟨h1,h2,h3⟩:=h;refine⟨by simpa using h1,h2.set _ _,fun j hj => ?_⟩
 by_cases e:j=k
 · subst e;obtain⟨z,e1,_⟩:=h3 j hj;exact⟨f j,World.cell?_setCell_same _ _ _ e1,fun _=>rfl⟩
 · obtain⟨z,e1,e2⟩:=h3 j hj;exact⟨z,by rw[World.cell?_setCell_other _ _ _ _ (fun h=>by injection h with _ h;omega)];exact e1,fun h=>e2 (by omega)⟩
theorem KTo.done{w:World}{g n:Nat}{f:Nat->Int}(h:KTo w g n n f)(hn:n<=maxLen):KRow w .i64 (some ⟨g,0,none⟩) n n f:=by
 refine⟨Nat.le_refl _,hn,.inr ⟨g,0,rfl,h.1,fun j hj => ?_⟩⟩;obtain⟨z,e1,e2⟩:=h.2.2 j hj;rw[Nat.zero_add,e1,e2 hj]
theorem KTo.made(w:World)(n:Nat)(t:TypeId)(f:Nat->Int){mc:Array Value}(hmc:mc=madeCells (Value.cells (.int .i64 0)) n):KTo (w.alloc (.cells mc t)) w.heap.size n 0 f:=by
 subst hmc;have hR:=Row.new w t (madeCells (Value.cells (.int .i64 0)) n);refine⟨hR.lt,fun o=>hR.free o,fun j hj=>⟨0,?_,fun h=>absurd h (Nat.not_lt_zero _)⟩⟩;rw[hR.cell];unfold madeCells;rw[Array.getElem?_map,Array.getElem?_range,if_pos (by omega),Option.map_some]
 simp[Value.cells,Nat.mod_one]
theorem KTo.place{w:World}{g n k:Nat}{f:Nat->Int}(h:KTo w g n k f){j:Nat}(hj:j<n):(∃z,w.cell? ⟨g,j,none⟩=some (.int .i64 z))/\w.frozen? ⟨g,j,none⟩=false:=by
 obtain⟨z,e1,_⟩:=h.2.2 j hj;exact⟨⟨z,e1⟩,h.2.1 _⟩
def WhTold(b:Bool)(n:Nat)(fP:Nat->Int)(w w':World)(e:Ending):Prop:=∃a m c,e=.returned (.tuple #[.slice a m c,.bool b])/\(if b then m=n/\KRow w' .i64 a n c fP else a=none/\m=0/\c=0)/\Below w.heap.size w w'
def lt(l:List Int)(j:Nat):Int:=l.getD j 0
theorem KRow.lits(w:World)(l:List Int)(t:TypeId)(h:l.length<=1000){cs:Array Value}(hc:cs=(l.map (Value.int .i64)).toArray):KRow (w.alloc (.cells cs t)) .i64 (some ⟨w.heap.size,0,none⟩) l.length l.length (lt l):=by
 subst hc;refine⟨Nat.le_refl _,by unfold maxLen;omega,.inr ⟨_,0,rfl,by simp,fun j hj => ?_⟩⟩;have:=(Row.new w t (l.map (Value.int .i64)).toArray).cell (0+j);rw[this,Nat.zero_add]
 simp[lt,hj]
theorem lt64{l:List Int}(h:l.all (fun x=>decide (-9223372036854775808<=x/\x<=9223372036854775807))=true)(n:Nat):In64 (lt l) n:=by
 intro j _;unfold lt
 by_cases hj:j<l.length
 · have:=List.all_eq_true.1 h (l[j]) (List.getElem_mem hj);rw[decide_eq_true_eq]at this
   simpa[List.getD,hj]using this
 · simp[List.getD,hj]
theorem KRow.of_box{w:World}{k:Nat}{t:TypeId}{ch:Bool}{f:Nat->Int}{r:Nat}{na:Option Addr}{nn nc:Nat}{ta:Option Addr}{tn tc:Nat}{more:Int}(h:Row w k t (arrC ch more (dm f r) na nn nc ta tn tc))(hr:r<=8):KRow w .i64 (some ⟨k,2,none⟩) r 8 f:=by
 refine⟨hr,by unfold maxLen;omega,.inr ⟨k,2,rfl,h.lt,fun j hj => ?_⟩⟩;have hd:dm f r j=f j:=by unfold dm;rw[if_pos hj]
 have hc:=h.cell (2+j);rw[hc,← hd];have hn:j=0∨j=1∨j=2∨j=3∨j=4∨j=5∨j=6∨j=7:=by omega
 rcases hn with rfl|rfl|rfl|rfl|rfl|rfl|rfl|rfl<;>rfl
theorem shape_any (ch : Bool) (f : Nat -> Int) (r : Nat) (na : Option Addr) (nn nc : Nat) (ta : Option Addr) (tn tc : Nat) (w : World) (hr : r <= 8) :
    Calls Tryz.prog 39 #[.agg (arrC ch ((r:Int)-1) (dm f r) na nn nc ta tn tc)] w fun e w'=>∃a c,e=.returned (.slice a r c)/\KRow w' .i64 a r c f/\Below w.heap.size w w':=by
 have RK:=Lib.hid (fun wz=>rank_any ch (dm f r) r na nn nc ta tn tc wz (by omega));have CL:=Lib.hid (fun a c wz h=>cloneI_any a r c f wz h (by omega));have BB:=Lib.hid ((Bag.start w).newRow (arrC ch ((r:Int)-1) (dm f r) na nn nc ta tn tc) 36);have HR:=Lib.hid BB.out.now.1;have h0:(0:Int)<=r:=by omega
 have h8:(r:Int)<=8:=by omega
 unfold arrC;go_enter Tryz.func39,Tryz.ntmps39
 go_wp2_with (refine ld_arr rfl (.tmp 1) rfl w.heap.size rfl HR.out ?_)
 go_at_call 101;refine(RK.out _).mono ?_;rintro e w2 ⟨rfl,hb2⟩;have BB:=bgo BB hb2;clear hb2;go_wp2_with fail;go_at_call 100
 refine(CL.out _ _ _ ?_).mono ?_
 · exact KRow.of_box BB.out.now.1 hr
 rintro e w3 ⟨a3,c3,rfl,hk3,hb3⟩;have HE:Hid (KRow w3 .i64 a3 r c3 f/\Below w.heap.size w w3):=⟨hk3,(BB.out.go hb3).below⟩
 clear hk3 hb3;go_wp2;go_ret;exact⟨a3,c3,rfl,HE.out⟩
theorem runes_any (ch : Bool) (more : Int) (d : Nat -> Int) (na : Option Addr) (nn nc : Nat) (ta : Option Addr) (tn tc : Nat) (g : Nat -> Int) (w : World) (h : KRow w .i32 ta tn tc g) (ht : tn <= 1000000) :
    Calls Tryz.prog 44 #[.agg (arrC ch more d na nn nc ta tn tc)] w fun e w'=>∃a c,e=.returned (.slice a tn c)/\KRow w' .i32 a tn c g/\Below w.heap.size w w':=by
 have CL:=Lib.hid (fun wz h=>cloneC_any ta tn tc g wz h ht);have BB:=Lib.hid (((Bag.start w).krow h).newRow (arrC ch more d na nn nc ta tn tc) 36);clear h;unfold arrC at BB;unfold arrC;go_enter Tryz.func44,Tryz.ntmps44;go_wp2_with fail;go_at_call 103;refine(CL.out _ BB.out.now.2.1).mono ?_;rintro e w3 ⟨a3,c3,rfl,hk3,hb3⟩;have HE:Hid (KRow w3 .i32 a3 tn c3 g/\Below w.heap.size w w3):=⟨hk3,(BB.out.go hb3).below⟩
 clear hk3 hb3;go_wp2;go_ret;exact⟨a3,c3,rfl,HE.out⟩
theorem len_any (ch : Bool) (more : Int) (d : Nat -> Int) (na : Option Addr) (nn nc : Nat) (ta : Option Addr) (tn tc : Nat) (w : World) :
    Calls Tryz.prog 51 #[.agg (arrC ch more d na nn nc ta tn tc)] w fun e w'=>e=.returned (.int .i64 (if ch then(tn:Int)else(nn:Int)))/\Below w.heap.size w w':=by
 have HB:Hid (Below w.heap.size w (w.alloc (.cells (arrC ch more d na nn nc ta tn tc) 36))):=(Below.refl _ _).alloc (Nat.le_refl _) _;unfold arrC at HB;unfold arrC
 cases ch
 · rw[if_neg (by decide)];go_enter Tryz.func51,Tryz.ntmps51;go_wp2;go_ret;exact⟨rfl,HB.out⟩
 · rw[if_pos rfl];go_enter Tryz.func51,Tryz.ntmps51;go_wp2;go_ret;exact⟨rfl,HB.out⟩
def QRow(w:World)(sa:Option Addr)(n c:Nat)(fB:Nat->Bool)(fS fT:Nat->ByteArray):Prop:=n<=c/\c<=maxLen/\(n=0∨∃b off,sa=some ⟨b,off,none⟩/\b<w.heap.size /\
 ∀j,j<n->w.cell? ⟨b,off+j*3,none⟩=some (.bool (fB j))/\w.cell? ⟨b,off+j*3+1,none⟩=some (.string (fS j))/\w.cell? ⟨b,off+j*3+2,none⟩=some (.string (fT j)))
theorem QRow.below{w w':World}{sa:Option Addr}{n c:Nat}{fB:Nat->Bool}{fS fT:Nat->ByteArray}(h:QRow w sa n c fB fS fT)(hb:Below w.heap.size w w'):QRow w' sa n c fB fS fT:=by
 obtain⟨h0,h1,h2⟩:=h;refine⟨h0,h1,h2.imp id ?_⟩;rintro⟨b,off,rfl,hl,hc⟩;refine⟨b,off,rfl,Nat.lt_of_lt_of_le hl hb.size,fun j hj => ?_⟩;obtain⟨e1,e2,e3⟩:=hc j hj;exact⟨(hb.cell (p:=⟨b,_,none⟩) hl).trans e1,(hb.cell (p:=⟨b,_,none⟩) hl).trans e2,(hb.cell (p:=⟨b,_,none⟩) hl).trans e3⟩
theorem QRow.get {w : World} {sa : Option Addr} {n c : Nat} {fB : Nat -> Bool} {fS fT : Nat -> ByteArray} (h : QRow w sa n c fB fS fT) {j : Nat} (hj : j < n) :
    ∃b off,sa=some ⟨b,off,none⟩/\b<w.heap.size/\w.cell? ⟨b,off+j*3,none⟩=some (.bool (fB j))/\w.cell? ⟨b,off+j*3+1,none⟩=some (.string (fS j))/\w.cell? ⟨b,off+j*3+2,none⟩=some (.string (fT j)):=by
 rcases h.2.2 with h2|⟨b,off,rfl,hl,hc⟩
 · omega
 · exact⟨b,off,rfl,hl,hc j hj⟩
theorem QRow.len{w:World}{sa:Option Addr}{n c:Nat}{fB:Nat->Bool}{fS fT:Nat->ByteArray}(h:QRow w sa n c fB fS fT):n<=c/\n<=9223372036854775807:=by
 have h1:=h.1;have h2:=h.2.1;unfold maxLen at h2;exact⟨h1,by omega⟩
theorem QRow.nought(w:World)(a:Option Addr)(c:Nat)(hc:c<=maxLen)(fB:Nat->Bool)(fS fT:Nat->ByteArray):QRow w a 0 c fB fS fT:=⟨Nat.zero_le _,hc,.inl rfl⟩
theorem Bag.qrow{w0 w:World}{B:World->Prop}{a:Option Addr}{n c:Nat}{fB:Nat->Bool}{fS fT:Nat->ByteArray}(h:Bag w0 B w)(q:QRow w a n c fB fS fT):Bag w0 (fun y=>QRow y a n c fB fS fT/\B y) w:=h.add (fun _ _ hb q=>QRow.below q hb) q
def plC(sa:Option Addr)(sn sc:Nat)(ch:Bool)(ta:Option Addr)(tn tc:Nat)(na:Option Addr)(nn nc:Nat):Array Value:=#[.slice sa sn sc,.bool ch,.slice ta tn tc,.slice na nn nc]
def PlnAt(w:World)(cs:Array Value)(S:Nat->Int)(r:Nat)(ch:Bool)(g:Nat->Int)(tn:Nat)(fB:Nat->Bool)(fS fT:Nat->ByteArray)(nn:Nat):Prop :=
 ∃sa sc ta tc na nc,cs=plC sa r sc ch ta tn tc na nn nc/\KRow w .i64 sa r sc S/\KRow w .i32 ta tn tc g/\QRow w na nn nc fB fS fT
theorem PlnAt.below{w w':World}{cs:Array Value}{S:Nat->Int}{r:Nat}{ch:Bool}{g:Nat->Int}{tn:Nat}{fB:Nat->Bool}{fS fT:Nat->ByteArray}{nn:Nat}(h:PlnAt w cs S r ch g tn fB fS fT nn)(hb:Below w.heap.size w w'):PlnAt w' cs S r ch g tn fB fS fT nn:=by
 obtain⟨sa,sc,ta,tc,na,nc,e,h1,h2,h3⟩:=h;exact⟨sa,sc,ta,tc,na,nc,e,h1.below hb,h2.below hb,h3.below hb⟩
theorem infoN:(Tryz.prog.info? 46).map (fun i=>(i.zero,i.size,i.bytes))=some (some (.agg #[.bool false,.string ⟨#[]⟩,.string ⟨#[]⟩]),3,40):=by kernel_rfl
def qcs(fB:Nat->Bool)(fS fT:Nat->ByteArray):Nat->List Value
 | 0 => []
 | k+1=>qcs fB fS fT k ++ [.bool (fB k),.string (fS k),.string (fT k)]
theorem qcs_length(fB:Nat->Bool)(fS fT:Nat->ByteArray):∀k,(qcs fB fS fT k).length=k*3
 | 0=>rfl
 | k+1=>by unfold qcs;rw[List.length_append,qcs_length fB fS fT k];simp;omega
theorem qcs_get (fB : Nat -> Bool) (fS fT : Nat -> ByteArray) : ∀ k j, j < k -> (qcs fB fS fT k)[j * 3]? = some (.bool (fB j)) /\ (qcs fB fS fT k)[j * 3 + 1]? = some (.string (fS j)) /\ (qcs fB fS fT k)[j * 3 + 2]? = some (.string (fT j))
 | 0,j,h=>absurd h (Nat.not_lt_zero _)
 | k+1,j,h=>by
  have hl:=qcs_length fB fS fT k;unfold qcs
  by_cases e:j=k
  · subst e
    refine⟨?_,?_,?_⟩
    · rw[List.getElem?_append_right (by omega),hl,show j*3-j*3=0 by omega];rfl
    · rw[List.getElem?_append_right (by omega),hl,show j*3+1-j*3=1 by omega];rfl
    · rw[List.getElem?_append_right (by omega),hl,show j*3+2-j*3=2 by omega];rfl
  · obtain⟨e1,e2,e3⟩:=qcs_get fB fS fT k j (by omega)
    refine⟨?_,?_,?_⟩
    · rw[List.getElem?_append_left (by omega)];exact e1
    · rw[List.getElem?_append_left (by omega)];exact e2
    · rw[List.getElem?_append_left (by omega)];exact e3
theorem QRow.of_own{w:World}{base:Nat}{v:Value}{n:Nat}{fB:Nat->Bool}{fS fT:Nat->ByteArray}(h:w.ownsRow base 46 3 v n (qcs fB fS fT n)):∃a c,v=.slice a n c/\QRow w a n c fB fS fT:=by
 rcases h.2 with ⟨rfl,rfl⟩|⟨g,cap,cur,rfl,_,hh,h1,h2,_,hcs⟩
 · exact⟨none,0,rfl,QRow.nought _ _ _ (Nat.zero_le _) _ _ _⟩
 · refine⟨some ⟨g,0,none⟩,cap,rfl,h1,h2,.inr ⟨g,0,rfl,Row.lt (t:=46) hh,fun j hj => ?_⟩⟩
   have hc:∀i u,(qcs fB fS fT n)[i]? = some u->w.cell? ⟨g,0+i,none⟩=some u:=fun i u hu=>by
    have:=h.cells (g:=g) rfl i u hu
    rwa [show(⟨g,0,none⟩:Addr).add i=⟨g,0+i,none⟩by unfold Addr.add;split<;>simp_all]at this
   obtain⟨e1,e2,e3⟩:=qcs_get fB fS fT n j hj;exact⟨hc _ _ e1,by rw[show 0+j*3+1=0+(j*3+1)by omega];exact hc _ _ e2,by rw[show 0+j*3+2=0+(j*3+2)by omega];exact hc _ _ e3⟩
theorem Row.grown{w w':World}{g:Nat}{t:TypeId}{cs:Array Value}{row:Option Nat}(h:Row w g t cs)(hg:w.grownBy w' row)(e:some g≠row):Row w' g t cs:=(hg.block g h.lt e).trans h
theorem Row.apart{w:World}{g:Nat}{t e:TypeId}{cs:Array Value}{base size n:Nat}{v:Value}{xs:List Value}(h:Row w g t cs)(ho:w.ownsRow base e size v n xs)(hne:e≠t):some g≠v.ownBlock:=by
 rcases ho.2 with ⟨rfl,_⟩|⟨g',cap,cur,rfl,_,hh,_⟩
 · simp[Value.ownBlock]
 · intro he;have:g=g':=by simpa[Value.ownBlock]using he
   subst this;unfold Row at h;rw[h]at hh
   injection hh with hh
   injection hh with _ hh
   exact hne hh.symm
theorem Row.ne{w:World}{g g':Nat}{t t':TypeId}{cs cs':Array Value}(h:Row w g t cs)(h':Row w g' t' cs')(e:t≠t'):g≠g':=by
 rintro rfl;unfold Row at h h';rw[h]at h'
 injection h' with h'
 injection h' with _ h'
 exact e h'
end Go.Proofs.YtdmmenaejkpnjaaGreatDoor
