/-
  Texts of this seat, laid together.
-/
import Derived.Lib.ItoaNum
import Derived.IntWalk
import Derived.WalkKit
import Derived.WalkSpells
import Derived.Deep.Draws
import Derived.Lib.Hide
import Derived.Lib.TrimByte
import Derived.WalkLawsBesides
import Derived.Laws.CopyOwn
import Derived.Deep.QuietTactic
import Derived.BigQuiet
import Derived.BigRegion
import Derived.RegionTactic
import Derived.Deep.RegionWith
import Derived.StillTailTactics
import Derived.Deep.RegionHeld3
import Derived.Below
import Derived.Lib.SliceRun
import Derived.Lib.Walk
import Derived.Laws.StructEq
import Derived.Shelf.Abstract
import Derived.Deep.MidRow
import Derived.ChangeKeysEq
import Derived.Deep.AppendLies
import Derived.Deep.RegionLaw
import Derived.Lib.AppendZeros
import Derived.Laws.AppendOwnNone
import Derived.Laws.EntriesVeiled
import Derived.Test.YtdmmenaejkpnjaaGreatDoorO2
set_option maxHeartbeats 12800000
set_option maxRecDepth 100000
set_option linter.unusedSimpArgs false
set_option linter.unusedVariables false
namespace Go.Proofs.YtdmmenaejkpnjaaGreatDoor
open Go.RowKit
attribute [local go_sem ↓] Go.wp_at_zero Go.wp_at_succ
set_option linter.unusedVariables false
set_option linter.unusedSimpArgs false
theorem msize_any (a : Option Addr) (n c : Nat) (m : Bool) (a2 : Option Addr) (n2 c2 : Nat) (P : Int) (Q : Nat) (w : World) (h : RatAt w a n c m a2 n2 c2 P Q) :
    Calls Tryz.prog 207 #[.agg #[.slice a n c,.bool m,.slice a2 n2 c2]] w fun e w'=>RatTold w w' e (P.natAbs:Nat) Q:=by
 by_cases hP:P<0
 · have SG:=Lib.hid (fun wz h=>ratSign_any a n c m a2 n2 c2 P Q wz h);have MN:=Lib.hid (fun wz h=>ratMinus_any a n c m a2 n2 c2 P Q wz h);have dS:decide (sgnI P<0)=true:=by unfold sgnI;simp[hP]
   have e0 : -P=(P.natAbs:Nat):=by omega
   rw[e0]at MN;have BB:=Lib.hid ((((Bag.start w).rat h).box3 (.slice a n c) (.bool m) (.slice a2 n2 c2) 53).box3 (.slice none 0 0) (.bool false) (.slice none 0 0) 53);simp only[World.size_alloc]at BB;have⟨q0,q1,q2⟩:=BB.out.now.2.1.c3;obtain⟨sg,hsg⟩:∃z,sgnI P=z:=⟨_,rfl⟩
   rw[hsg]at SG dS;clear h hsg hP e0;go_enter Tryz.func207,Tryz.ntmps207;go_wp2_with fail;go_at_call 72;refine(SG.out _ BB.out.now.2.2.1).mono ?_;rintro e w2 ⟨rfl,hb2⟩;have BB:=bgo BB hb2;clear hb2;have⟨q0,q1,q2⟩:=BB.out.now.2.1.c3;go_wp2_with fail;go_at_call 179;refine(MN.out _ BB.out.now.2.2.1).mono ?_;rintro e w3 ⟨a3,n3,c3,m3,a4,n4,c4,rfl,hr,hb3⟩;have BB:=bgo BB hb3;clear hb3;have hs:=BB.out.now.1;have⟨u0,u1,u2,g0,g1,g2⟩:=hs.s6;have HS:=hs.set (.slice a3 n3 c3) (.bool m3) (.slice a4 n4 c4);have HE:=Lib.hid (RatTold.done BB.out.below (by omega) hs hr);clear hs;go_wp2;exact bodyPost_ret (by simp[results,Tryz.results207,go_sem,HS]) rfl HE.out
 · have SG:=Lib.hid (fun wz h=>ratSign_any a n c m a2 n2 c2 P Q wz h)
   have dS:decide (sgnI P<0)=false:=by
    unfold sgnI;rw[if_neg hP]
    split<;>simp
   have e0:P=(P.natAbs:Nat):=by omega
   have BB:=Lib.hid ((((Bag.start w).rat h).box3 (.slice a n c) (.bool m) (.slice a2 n2 c2) 53).box3 (.slice none 0 0) (.bool false) (.slice none 0 0) 53);simp only[World.size_alloc]at BB;have⟨q0,q1,q2⟩:=BB.out.now.2.1.c3;obtain⟨sg,hsg⟩:∃z,sgnI P=z:=⟨_,rfl⟩
   rw[hsg]at SG dS;have h2:RatAt w a n c m a2 n2 c2 (P.natAbs:Nat) Q:=by rw[← e0];exact h
   have HR:=Lib.hid h2;clear h2;clear h hsg hP e0;go_enter Tryz.func207,Tryz.ntmps207;go_wp2_with fail;go_at_call 72;refine(SG.out _ BB.out.now.2.2.1).mono ?_;rintro e w2 ⟨rfl,hb2⟩;have BB:=bgo BB hb2;clear hb2;have⟨q0,q1,q2⟩:=BB.out.now.2.1.c3;have hr:=HR.out.below BB.out.below;have hs:=BB.out.now.1;have⟨u0,u1,u2,g0,g1,g2⟩:=hs.s6;have HS:=hs.set (.slice a n c) (.bool m) (.slice a2 n2 c2);have HE:=Lib.hid (RatTold.done BB.out.below (by omega) hs hr);clear hs;go_wp2;exact bodyPost_ret (by simp[results,Tryz.results207,go_sem,HS]) rfl HE.out
theorem mnot_no (a : Option Addr) (n c : Nat) (m : Bool) (a2 : Option Addr) (n2 c2 : Nat) (P : Int) (Q : Nat) (w : World) (h : RatAt w a n c m a2 n2 c2 P Q) (hQ : 0 < Q) (hn : ¬ (Q = 1 /\ (P = 0 ∨ P = 1))) :
    Calls Tryz.prog 147 #[.agg #[.slice a n c,.bool m,.slice a2 n2 c2]] w fun e w'=>RatTold4 w w' e 0 1 22:=by
 cases hl:(decide (Q=1)&&(decide (P.natAbs=0)||decide (P.natAbs=1)))with
 | false =>
  have LM:=Lib.hid (fun wz h=>limited_any a n c m a2 n2 c2 P Q wz h hQ);rw[hl]at LM;have BB:=Lib.hid ((((Bag.start w).rat h).box3 (.slice a n c) (.bool m) (.slice a2 n2 c2) 53).box3 (.slice none 0 0) (.bool false) (.slice none 0 0) 53);simp only[World.size_alloc]at BB;have⟨q0,q1,q2⟩:=BB.out.now.2.1.c3;clear h hl hn hQ;go_enter Tryz.func147,Tryz.ntmps147;go_wp2_with fail;go_at_call 177;refine(LM.out _ BB.out.now.2.2.1).mono ?_;rintro e w2 ⟨rfl,hb2⟩;have BB:=bgo BB hb2;clear hb2;have hs:=BB.out.now.1;have⟨u0,u1,u2,g0,g1,g2⟩:=hs.s6;have HS:=hs.set (.slice none 0 0) (.bool false) (.slice none 0 0);have HE:=Lib.hid (RatTold4.done 22 BB.out.below (by omega) hs (RatAt.zero _));clear hs;go_wp2;exact bodyPost_ret (by simp[results,Tryz.results147,go_sem,HS]) rfl HE.out
 | true =>
  have LM:=Lib.hid (fun wz h=>limited_any a n c m a2 n2 c2 P Q wz h hQ);have SG:=Lib.hid (fun wz h=>ratSign_any a n c m a2 n2 c2 P Q wz h);rw[hl]at LM
  have dS:decide (sgnI P<0)=true:=by
   rw[Bool.and_eq_true,Bool.or_eq_true,decide_eq_true_eq,decide_eq_true_eq,decide_eq_true_eq]at hl;have:P<0:=by omega
   unfold sgnI
   simp[this]
  obtain⟨sg,hsg⟩:∃z,sgnI P=z:=⟨_,rfl⟩
  rw[hsg]at SG dS;clear hsg;have BB:=Lib.hid ((((Bag.start w).rat h).box3 (.slice a n c) (.bool m) (.slice a2 n2 c2) 53).box3 (.slice none 0 0) (.bool false) (.slice none 0 0) 53);simp only[World.size_alloc]at BB;have⟨q0,q1,q2⟩:=BB.out.now.2.1.c3;clear h hl hn hQ;go_enter Tryz.func147,Tryz.ntmps147;go_wp2_with fail;go_at_call 177;refine(LM.out _ BB.out.now.2.2.1).mono ?_;rintro e w2 ⟨rfl,hb2⟩;have BB:=bgo BB hb2;clear hb2;have⟨q0,q1,q2⟩:=BB.out.now.2.1.c3;go_wp2_with fail;go_at_call 72;refine(SG.out _ BB.out.now.2.2.1).mono ?_;rintro e w3 ⟨rfl,hb3⟩;have BB:=bgo BB hb3;clear hb3;have hs:=BB.out.now.1;have⟨u0,u1,u2,g0,g1,g2⟩:=hs.s6;have HS:=hs.set (.slice none 0 0) (.bool false) (.slice none 0 0);have HE:=Lib.hid (RatTold4.done 22 BB.out.below (by omega) hs (RatAt.zero _));clear hs;go_wp2;exact bodyPost_ret (by simp[results,Tryz.results147,go_sem,HS]) rfl HE.out
theorem mnot_yes (a : Option Addr) (n c : Nat) (m : Bool) (a2 : Option Addr) (n2 c2 : Nat) (P : Int) (Q : Nat) (w : World) (h : RatAt w a n c m a2 n2 c2 P Q) (hQ : Q = 1) (hP : P = 0 ∨ P = 1) :
    Calls Tryz.prog 147 #[.agg #[.slice a n c,.bool m,.slice a2 n2 c2]] w fun e w'=>RatTold4 w w' e (1-P) 1 0:=by
 have LM:=Lib.hid (fun wz h=>limited_any a n c m a2 n2 c2 P Q wz h (by omega));have SG:=Lib.hid (fun wz h=>ratSign_any a n c m a2 n2 c2 P Q wz h)
 have hl:(decide (Q=1)&&(decide (P.natAbs=0)||decide (P.natAbs=1)))=true:=by
  rw[Bool.and_eq_true,Bool.or_eq_true,decide_eq_true_eq,decide_eq_true_eq,decide_eq_true_eq]
  omega
 rw[hl]at LM;have hsg:sgnI P=P:=by rcases hP with h|h<;>rw[h]<;>rfl
 rw[hsg]at SG;have dS:decide (P<0)=false:=decide_eq_false (by omega);have FR:=Lib.hid (fun wz=>ratFrom_any (1-P) wz (by omega));have hw:=IntWalk.wrap64_in (1-P) (by omega);have BB:=Lib.hid ((((Bag.start w).rat h).box3 (.slice a n c) (.bool m) (.slice a2 n2 c2) 53).box3 (.slice none 0 0) (.bool false) (.slice none 0 0) 53);simp only[World.size_alloc]at BB;have⟨q0,q1,q2⟩:=BB.out.now.2.1.c3;clear h hl hsg hQ hP;go_enter Tryz.func147,Tryz.ntmps147;go_wp2_with fail;go_at_call 177;refine(LM.out _ BB.out.now.2.2.1).mono ?_;rintro e w2 ⟨rfl,hb2⟩;have BB:=bgo BB hb2;clear hb2;have⟨q0,q1,q2⟩:=BB.out.now.2.1.c3;go_wp2_with fail;go_at_call 72;refine(SG.out _ BB.out.now.2.2.1).mono ?_;rintro e w3 ⟨rfl,hb3⟩;have BB:=bgo BB hb3;clear hb3;have⟨q0,q1,q2⟩:=BB.out.now.2.1.c3;go_wp2_with fail;go_at_call 72;refine(SG.out _ BB.out.now.2.2.1).mono ?_;rintro e w4 ⟨rfl,hb4⟩;have BB:=bgo BB hb4;clear hb4;go_wp2_with fail;go_at_call 56;refine(FR.out _).mono ?_;rintro e w5 ⟨a3,n3,c3,m3,a4,n4,c4,rfl,hr,hb5⟩;have BB:=bgo BB hb5;clear hb5;have hs:=BB.out.now.1;have⟨u0,u1,u2,g0,g1,g2⟩:=hs.s6;have HS:=hs.set (.slice a3 n3 c3) (.bool m3) (.slice a4 n4 c4);have HE:=Lib.hid (RatTold4.done 0 BB.out.below (by omega) hs hr);clear hs;go_wp2;exact bodyPost_ret (by simp[results,Tryz.results147,go_sem,HS]) rfl HE.out
theorem mrec_any (a : Option Addr) (n c : Nat) (m : Bool) (a2 : Option Addr) (n2 c2 : Nat) (P : Int) (Q : Nat) (w : World) (h : RatAt w a n c m a2 n2 c2 P Q) (hQ : 0 < Q) (hg : Nat.gcd P.natAbs Q = 1) (K : Nat) (hK : K <= 1000) (h1 : P.natAbs < 4294967296 ^ K) (h2 : Q < 4294967296 ^ K) :
    Calls Tryz.prog 204 #[.agg #[.slice a n c,.bool m,.slice a2 n2 c2]] w fun e w'=>RatTold4 w w' e (if P=0 then 0 else upZ Q P) (if P=0 then 1 else P.natAbs) (if P=0 then 22 else 0):=by
 have hone:(1:Nat)<4294967296^(K+1):=by
  rw[Nat.pow_succ];have:=Nat.pow_pos (n:=K) (show 0<4294967296 by omega)
  omega
 have hlt:(4294967296:Nat)^K<=4294967296^(K+1):=Nat.pow_le_pow_right (by omega) (by omega);have hQ1:Q<4294967296^(K+1):=by omega
 have hP1:P.natAbs<4294967296^(K+1):=by omega
 clear hlt
 by_cases hP:P=0
 · have BY:Hid (∀b k l v b2 k2 l2 wz,RatAt wz b k l v b2 k2 l2 1 1->RatAt wz a n c m a2 n2 c2 P Q->Calls Tryz.prog 223 #[.agg #[.slice b k l,.bool v,.slice b2 k2 l2],.agg #[.slice a n c,.bool m,.slice a2 n2 c2]] wz fun e w'=>RatTold3 wz w' e 0 1 false):=Lib.hid (fun b k l v b2 k2 l2 wz g h=>by
     rw[hP]at h
     exact by_zero b k l v b2 k2 l2 1 1 a n c m a2 n2 c2 Q wz g h (by decide) hQ (K+1) (by omega) hone hone hQ1)
   rw[if_pos hP,if_pos hP,if_pos hP];unfold RatTold3 at BY;have FR:=Lib.hid (fun wz=>ratFrom_any 1 wz (by omega));have BB:=Lib.hid ((((Bag.start w).rat h).box3 (.slice a n c) (.bool m) (.slice a2 n2 c2) 53).box3 (.slice none 0 0) (.bool false) (.slice none 0 0) 53);simp only[World.size_alloc]at BB;have HR:=Lib.hid h;clear h hQ hg h1 h2 hone hQ1 hP1 hP;go_enter Tryz.func204,Tryz.ntmps204;go_wp2_with fail
   have HP:Hid (∀(y:World) (k:Nat) {x0:Option Addr} {y0 z0:Nat} {b0:Bool} {x1:Option Addr} {y1 z1:Nat},Slot3 y k (.slice x0 y0 z0) (.bool b0) (.slice x1 y1 z1)->w.heap.size+1<k->Bag w (fun y=>Slot3 y (w.heap.size+1) (.slice none 0 0) (.bool false) (.slice none 0 0)/\Slot3 y w.heap.size (.slice a n c) (.bool m) (.slice a2 n2 c2)/\RatAt y a n c m a2 n2 c2 P Q/\True) y->∀(a9:Option Addr) (n9 c9:Nat) (m9:Bool) (a10:Option Addr) (n10 c10:Nat),Bag w (fun y=>Slot3 y (w.heap.size+1) (.slice none 0 0) (.bool false) (.slice none 0 0)/\Slot3 y w.heap.size (.slice a n c) (.bool m) (.slice a2 n2 c2)/\RatAt y a n c m a2 n2 c2 P Q/\True) (((y.setCell ⟨k,0,none⟩ (.slice a9 n9 c9)).setCell ⟨k,1,none⟩ (.bool m9)).setCell ⟨k,2,none⟩ (.slice a10 n10 c10))):=by
    intro y k x0 y0 z0 b0 x1 y1 z1 s hk B a9 n9 c9 m9 a10 n10 c10;have q:=B.now;exact⟨((B.below.setCell (p:=⟨k,0,none⟩) (show w.heap.size<=k by omega) _).setCell (p:=⟨k,1,none⟩) (show w.heap.size<=k by omega) _).setCell (p:=⟨k,2,none⟩) (show w.heap.size<=k by omega) _,B.stay,q.1.set3o (by omega) _ _ _,q.2.1.set3o (by omega) _ _ _,q.2.2.1.set3 s _ _ _,trivial⟩
   refine wp_region_inv ⟨(fun j=>([[7], [8], [9], [6], [10], [11], [4], [4], [5]]:List (List Nat)).getD j []),(fun j=>([[], [], [0,1], [0,1,2], [0,1,2,3], [0,1,2,3], [], [0,1,2,3,4,6], [0,1,2,3,4,5,6,7]]:List (List Nat)).getD j []), [6]⟩ (fun jj vv yy=>match jj with|0=>∃(a0:Option Addr),∃(n0:Nat),∃(c0:Nat),∃(m0:Bool),∃(d0:Option Addr),∃(i0:Nat),∃(j0:Nat),vv = [some (.agg #[.slice a0 n0 c0,.bool m0,.slice d0 i0 j0])]/\RatAt yy a0 n0 c0 m0 d0 i0 j0 1 1|1=>vv = [some (.agg #[.slice a n c,.bool m,.slice a2 n2 c2])]|2=>∃(a3:Option Addr),∃(n3:Nat),∃(c3:Nat),∃(m3:Bool),∃(d3:Option Addr),∃(i3:Nat),∃(j3:Nat),vv = [some (.tuple #[.agg #[.slice a3 n3 c3,.bool m3,.slice d3 i3 j3],.bool false])]/\RatAt yy a3 n3 c3 m3 d3 i3 j3 0 1|3=>∃(a3:Option Addr),∃(n3:Nat),∃(c3:Nat),∃(m3:Bool),∃(d3:Option Addr),∃(i3:Nat),∃(j3:Nat),vv = [some (.tuple #[.agg #[.slice a3 n3 c3,.bool m3,.slice d3 i3 j3],.bool false])]/\RatAt yy a3 n3 c3 m3 d3 i3 j3 0 1|4=>∃(a3:Option Addr),∃(n3:Nat),∃(c3:Nat),∃(m3:Bool),∃(d3:Option Addr),∃(i3:Nat),∃(j3:Nat),vv = [some (.agg #[.slice a3 n3 c3,.bool m3,.slice d3 i3 j3])]/\RatAt yy a3 n3 c3 m3 d3 i3 j3 0 1|5=>vv = [some (.bool false)]|6=>∃(k6:Nat),∃(x0:Option Addr),∃(y0:Nat),∃(z0:Nat),∃(b0:Bool),∃(x1:Option Addr),∃(y1:Nat),∃(z1:Nat),vv = [some (.pointer (some ⟨k6,0,none⟩))]/\Slot3 yy k6 (.slice x0 y0 z0) (.bool b0) (.slice x1 y1 z1)/\w.heap.size+1<k6|7=>∃(k6:Nat),∃(a3:Option Addr),∃(n3:Nat),∃(c3:Nat),∃(m3:Bool),∃(d3:Option Addr),∃(i3:Nat),∃(j3:Nat),vv = [some (.pointer (some ⟨k6,0,none⟩))]/\Slot3 yy k6 (.slice a3 n3 c3) (.bool m3) (.slice d3 i3 j3)/\RatAt yy a3 n3 c3 m3 d3 i3 j3 0 1|8=>vv = [some (.bool false)]|_=>True) (Bag w (fun y=>Slot3 y (w.heap.size+1) (.slice none 0 0) (.bool false) (.slice none 0 0)/\Slot3 y w.heap.size (.slice a n c) (.bool m) (.slice a2 n2 c2)/\RatAt y a n c m a2 n2 c2 P Q/\True)) (by kernel_rfl) (by kernel_rfl) (by kernel_rfl) BB.out.drew ?_ ?_ ?_
   · intro jj vv yw yw2 hb h
     match jj,h with
     | 0,⟨a0,n0,c0,m0,d0,i0,j0,e0,g0_0⟩=>exact Exists.intro a0 (Exists.intro n0 (Exists.intro c0 (Exists.intro m0 (Exists.intro d0 (Exists.intro i0 (Exists.intro j0 (And.intro e0 (g0_0.below hb))))))))
     | 1,h=>exact h
     | 2,⟨a3,n3,c3,m3,d3,i3,j3,e2,g2_0⟩=>exact Exists.intro a3 (Exists.intro n3 (Exists.intro c3 (Exists.intro m3 (Exists.intro d3 (Exists.intro i3 (Exists.intro j3 (And.intro e2 (g2_0.below hb))))))))
     | 3,⟨a3,n3,c3,m3,d3,i3,j3,e3,g3_0⟩=>exact Exists.intro a3 (Exists.intro n3 (Exists.intro c3 (Exists.intro m3 (Exists.intro d3 (Exists.intro i3 (Exists.intro j3 (And.intro e3 (g3_0.below hb))))))))
     | 4,⟨a3,n3,c3,m3,d3,i3,j3,e4,g4_0⟩=>exact Exists.intro a3 (Exists.intro n3 (Exists.intro c3 (Exists.intro m3 (Exists.intro d3 (Exists.intro i3 (Exists.intro j3 (And.intro e4 (g4_0.below hb))))))))
     | 5,h=>exact h
     | 6,⟨k6,x0,y0,z0,b0,x1,y1,z1,e6,g6_0,g6_1⟩=>exact Exists.intro k6 (Exists.intro x0 (Exists.intro y0 (Exists.intro z0 (Exists.intro b0 (Exists.intro x1 (Exists.intro y1 (Exists.intro z1 (And.intro e6 (And.intro (g6_0.below hb) g6_1)))))))))
     | 7,⟨k6,a3,n3,c3,m3,d3,i3,j3,e7,g7_0,g7_1⟩=>exact Exists.intro k6 (Exists.intro a3 (Exists.intro n3 (Exists.intro c3 (Exists.intro m3 (Exists.intro d3 (Exists.intro i3 (Exists.intro j3 (And.intro e7 (And.intro (g7_0.below hb) (g7_1.below hb))))))))))
     | 8,h=>exact h
     | _+9,h=>exact h
   · intro ac yw hsz hdf hold hB hp;obtain⟨k6,a3,n3,c3,m3,d3,i3,j3,e7,sA,hr3⟩:=hp 7 (by decide);have t4:ac.tmps[4]? = some (.pointer (some ⟨k6,0,none⟩)):=(List.cons.inj e7).1;have t5:ac.tmps[5]? = some (.bool false):=(List.cons.inj (hp 8 (by decide))).1;have t2:ac.tmps[2]? = some (.pointer (some ⟨w.heap.size+1,0,none⟩)):=hold 2 (by kernel_rfl);clear hold hp e7;obtain⟨F,hF⟩:∃F:Nat->Value,∀i,(ac.tmps[i]?).getD undef=F i:=⟨_,fun _=>rfl⟩
     have f2:=(hF 2).symm.trans (congrArg (fun x=>Option.getD x undef) t2);have f4:=(hF 4).symm.trans (congrArg (fun x=>Option.getD x undef) t4);have f5:=(hF 5).symm.trans (congrArg (fun x=>Option.getD x undef) t5);have hac:=act_eq (n:=16) hsz F hF;rw[show((List.range 16).map F).toArray=#[F 0,F 1,F 2,F 3,F 4,F 5,F 6,F 7,F 8,F 9,F 10,F 11,F 12,F 13,F 14,F 15]from rfl,f2,f4,f5,hdf]at hac;simp only[Option.getD_some]at hac;subst hac;clear hF f2 f4 f5;have BB:=Lib.hid ((hB.slot3 sA).rat hr3);clear hB sA HP t2 t4 t5 FR BY;have hs:=BB.out.now.2.2.1;have⟨u0,u1,u2,g0,g1,g2⟩:=hs.s6;have HS:=hs.set (.slice none 0 0) (.bool false) (.slice none 0 0);have HE:=Lib.hid (RatTold4.done 22 BB.out.below (by omega) hs (RatAt.zero _));clear hs;go_wp2;exact bodyPost_ret (by simp[results,Tryz.results204,go_sem,HS]) rfl HE.out
   refine Stps.cons (o:=_) ?_ ?_
   · intro ac yw hsz hold hB hp K hK;clear hold hp hsz;go_simp
     (go_at_call 56;(with_reducible refine(FR.out _).mono ?_);rintro e wz ⟨a0,n0,c0,m0,d0,i0,j0,rfl,h0_0,hbz⟩)
     exact hK.out _ _ ⟨hB.go hbz,Exists.intro a0 (Exists.intro n0 (Exists.intro c0 (Exists.intro m0 (Exists.intro d0 (Exists.intro i0 (Exists.intro j0 (And.intro rfl h0_0))))))),hbz.size,.inl hbz,fun h=>absurd h (by decide)⟩
   refine Stps.cons (o:=_) ?_ ?_
   · intro ac yw hsz hold hB hp K hK;have t1:ac.tmps[1]? = some (.pointer (some ⟨w.heap.size,0,none⟩)):=hold 1 (by kernel_rfl);clear hold hp hsz;have⟨v0,v1,v2⟩:=hB.now.2.1.c3;go_simp;exact hK.out _ _ ⟨hB,rfl,Nat.le_refl _,.inl (Below.refl _ _),fun h=>absurd h (by decide)⟩
   refine Stps.cons (o:=_) ?_ ?_
   · intro ac yw hsz hold hB hp K hK;obtain⟨a0_0,n0_0,c0_0,m0_0,d0_0,i0_0,j0_0,e0,g0_0⟩:=hp 0 (by decide);have t7:ac.tmps[7]? = some (.agg #[.slice a0_0 n0_0 c0_0,.bool m0_0,.slice d0_0 i0_0 j0_0]):=(List.cons.inj e0).1;have e1:=hp 1 (by decide);have t8:ac.tmps[8]? = some (.agg #[.slice a n c,.bool m,.slice a2 n2 c2]):=(List.cons.inj e1).1;clear hold hp hsz e0 e1;go_simp
     (go_at_call 223;(with_reducible refine(BY.out _ _ _ _ _ _ _ _ g0_0 hB.now.2.2.1).mono ?_);rintro e wz ⟨a3,n3,c3,m3,d3,i3,j3,rfl,h2_0,hbz⟩)
     exact hK.out _ _ ⟨hB.go hbz,Exists.intro a3 (Exists.intro n3 (Exists.intro c3 (Exists.intro m3 (Exists.intro d3 (Exists.intro i3 (Exists.intro j3 (And.intro rfl h2_0))))))),hbz.size,.inl hbz,fun h=>absurd h (by decide)⟩
   refine Stps.cons (o:=_) ?_ ?_
   · intro ac yw hsz hold hB hp K hK;obtain⟨a3_2,n3_2,c3_2,m3_2,d3_2,i3_2,j3_2,e2,g2_0⟩:=hp 2 (by decide);have t9:ac.tmps[9]? = some (.tuple #[.agg #[.slice a3_2 n3_2 c3_2,.bool m3_2,.slice d3_2 i3_2 j3_2],.bool false]):=(List.cons.inj e2).1;clear hold hp hsz e2;go_simp;exact hK.out _ _ ⟨hB,Exists.intro a3_2 (Exists.intro n3_2 (Exists.intro c3_2 (Exists.intro m3_2 (Exists.intro d3_2 (Exists.intro i3_2 (Exists.intro j3_2 (And.intro rfl g2_0))))))),Nat.le_refl _,.inl (Below.refl _ _),fun h=>absurd h (by decide)⟩
   refine Stps.cons (o:=_) ?_ ?_
   · intro ac yw hsz hold hB hp K hK;obtain⟨a3_3,n3_3,c3_3,m3_3,d3_3,i3_3,j3_3,e3,g3_0⟩:=hp 3 (by decide);have t6:ac.tmps[6]? = some (.tuple #[.agg #[.slice a3_3 n3_3 c3_3,.bool m3_3,.slice d3_3 i3_3 j3_3],.bool false]):=(List.cons.inj e3).1;clear hold hp hsz e3;go_simp;exact hK.out _ _ ⟨hB,Exists.intro a3_3 (Exists.intro n3_3 (Exists.intro c3_3 (Exists.intro m3_3 (Exists.intro d3_3 (Exists.intro i3_3 (Exists.intro j3_3 (And.intro rfl g3_0))))))),Nat.le_refl _,.inl (Below.refl _ _),fun h=>absurd h (by decide)⟩
   refine Stps.cons (o:=_) ?_ ?_
   · intro ac yw hsz hold hB hp K hK;obtain⟨a3_3,n3_3,c3_3,m3_3,d3_3,i3_3,j3_3,e3,g3_0⟩:=hp 3 (by decide);have t6:ac.tmps[6]? = some (.tuple #[.agg #[.slice a3_3 n3_3 c3_3,.bool m3_3,.slice d3_3 i3_3 j3_3],.bool false]):=(List.cons.inj e3).1;clear hold hp hsz e3;go_simp;exact hK.out _ _ ⟨hB,rfl,Nat.le_refl _,.inl (Below.refl _ _),fun h=>absurd h (by decide)⟩
   refine Stps.cons (o:=_) ?_ ?_
   · intro ac yw hsz hold hB hp K hK;clear hold hp hsz;have hk0:=hB.now.1.lt;have hsl:=Slot3.new yw (.slice none 0 0) (.bool false) (.slice none 0 0) 53;have hbz:Below yw.heap.size yw (yw.alloc (.cells #[.slice none 0 0,.bool false,.slice none 0 0] 53))/\yw.heap.size<(yw.alloc (.cells #[.slice none 0 0,.bool false,.slice none 0 0] 53)).heap.size:=⟨(Below.refl _ _).alloc (Nat.le_refl _) _,by simp⟩
     go_simp;exact hK.out _ _ ⟨hB.alloc _,Exists.intro yw.heap.size (Exists.intro none (Exists.intro 0 (Exists.intro 0 (Exists.intro false (Exists.intro none (Exists.intro 0 (Exists.intro 0 (And.intro rfl (And.intro hsl hk0))))))))),Nat.le_of_lt hbz.2,.inl hbz.1,fun _=>⟨_,rfl,Nat.le_refl _,hbz.2⟩⟩
   refine Stps.cons (o:=_) ?_ ?_
   · intro ac yw hsz hold hB hp K hK;obtain⟨k6_6,x0_6,y0_6,z0_6,b0_6,x1_6,y1_6,z1_6,e6,g6_0,g6_1⟩:=hp 6 (by decide);have t4:ac.tmps[4]? = some (.pointer (some ⟨k6_6,0,none⟩)):=(List.cons.inj e6).1;obtain⟨a3_4,n3_4,c3_4,m3_4,d3_4,i3_4,j3_4,e4,g4_0⟩:=hp 4 (by decide);have t10:ac.tmps[10]? = some (.agg #[.slice a3_4 n3_4 c3_4,.bool m3_4,.slice d3_4 i3_4 j3_4]):=(List.cons.inj e4).1;clear hold hp hsz e6 e4;have hs:=g6_0;have⟨l0,l1,l2,f0,f1,f2⟩:=hs.s6;have HB:=HP.out _ _ hs g6_1 hB a3_4 n3_4 c3_4 m3_4 d3_4 i3_4 j3_4;go_simp;refine hK.out undef _ ⟨HB,Exists.intro k6_6 (Exists.intro a3_4 (Exists.intro n3_4 (Exists.intro c3_4 (Exists.intro m3_4 (Exists.intro d3_4 (Exists.intro i3_4 (Exists.intro j3_4 (And.intro (congrArg (fun x => [x]) t4) (And.intro (hs.set3 (.slice a3_4 n3_4 c3_4) (.bool m3_4) (.slice d3_4 i3_4 j3_4)) (RatAt.set3 g4_0 hs _ _ _)))))))))),by simp,.inr ?_,fun h=>absurd h (by decide)⟩;intro jj hj hap h
     match jj,h with
     | 0,⟨a0,n0,c0,m0,d0,i0,j0,e0,g0_0⟩ =>
      exact Exists.intro a0 (Exists.intro n0 (Exists.intro c0 (Exists.intro m0 (Exists.intro d0 (Exists.intro i0 (Exists.intro j0 (And.intro e0 (RatAt.set3 g0_0 hs _ _ _))))))))
     | 1,h=>exact h
     | 2,⟨a3,n3,c3,m3,d3,i3,j3,e2,g2_0⟩ =>
      exact Exists.intro a3 (Exists.intro n3 (Exists.intro c3 (Exists.intro m3 (Exists.intro d3 (Exists.intro i3 (Exists.intro j3 (And.intro e2 (RatAt.set3 g2_0 hs _ _ _))))))))
     | 3,⟨a3,n3,c3,m3,d3,i3,j3,e3,g3_0⟩ =>
      exact Exists.intro a3 (Exists.intro n3 (Exists.intro c3 (Exists.intro m3 (Exists.intro d3 (Exists.intro i3 (Exists.intro j3 (And.intro e3 (RatAt.set3 g3_0 hs _ _ _))))))))
     | 4,⟨a3,n3,c3,m3,d3,i3,j3,e4,g4_0⟩ =>
      exact Exists.intro a3 (Exists.intro n3 (Exists.intro c3 (Exists.intro m3 (Exists.intro d3 (Exists.intro i3 (Exists.intro j3 (And.intro e4 (RatAt.set3 g4_0 hs _ _ _))))))))
     | 5,h=>exact h
     | 6,⟨k6,x0,y0,z0,b0,x1,y1,z1,e6,g6_0,g6_1⟩ =>
      have e9:k6=k6_6:=by have:=(List.cons.inj e6).1.symm.trans t4;cases this;rfl
      subst e9;exact Exists.intro _ (Exists.intro _ (Exists.intro _ (Exists.intro _ (Exists.intro _ (Exists.intro _ (Exists.intro _ (Exists.intro _ (And.intro e6 (And.intro (g6_0.set3 _ _ _) g6_1)))))))))
     | 7,_=>exact absurd rfl hj
     | 8,h=>exact h
     | _+9,h=>exact h
   refine Stps.cons (o:=_) ?_ ?_
   · intro ac yw hsz hold hB hp K hK;have e5:=hp 5 (by decide);have t11:ac.tmps[11]? = some (.bool false):=(List.cons.inj e5).1;clear hold hp hsz e5;go_simp;exact hK.out _ _ ⟨hB,rfl,Nat.le_refl _,.inl (Below.refl _ _),fun h=>absurd h (by decide)⟩
   exact Stps.nil _
 · have BY:Hid (∀b k l v b2 k2 l2 wz,RatAt wz b k l v b2 k2 l2 1 1->RatAt wz a n c m a2 n2 c2 P Q->Calls Tryz.prog 223 #[.agg #[.slice b k l,.bool v,.slice b2 k2 l2],.agg #[.slice a n c,.bool m,.slice a2 n2 c2]] wz fun e w'=>RatTold3 wz w' e (upZ Q P) P.natAbs true):=Lib.hid (fun b k l v b2 k2 l2 wz g h=>by
     have:=by_some b k l v b2 k2 l2 1 1 a n c m a2 n2 c2 P Q wz g h (by decide) hQ hP (K+1) (by omega) hone hone hP1 hQ1
     have e1:nwP (1*(Q:Int)) (P*((1:Nat):Int))=upZ Q P/\nwQ (1*(Q:Int)) (P*((1:Nat):Int))=P.natAbs:=by
      rw[Int.one_mul,show P*((1:Nat):Int)=P from Int.mul_one P];unfold nwP nwQ;refine lo_one ?_;rw[upZ_abs,Int.natAbs_natCast,Nat.gcd_comm];exact hg
     rw[e1.1,e1.2]at this
     exact this)
   rw[if_neg hP,if_neg hP,if_neg hP];unfold RatTold3 at BY;have FR:=Lib.hid (fun wz=>ratFrom_any 1 wz (by omega));generalize upZ Q P=UP at BY ⊢;obtain⟨PN,hPN⟩:∃z,P.natAbs=z:=⟨_,rfl⟩
   rw[hPN]at BY ⊢;have BB:=Lib.hid ((((Bag.start w).rat h).box3 (.slice a n c) (.bool m) (.slice a2 n2 c2) 53).box3 (.slice none 0 0) (.bool false) (.slice none 0 0) 53);simp only[World.size_alloc]at BB;have HR:=Lib.hid h;clear h hQ hg h1 h2 hone hQ1 hP1 hP;go_enter Tryz.func204,Tryz.ntmps204;go_wp2_with fail
   have HP:Hid (∀(y:World) (k:Nat) {x0:Option Addr} {y0 z0:Nat} {b0:Bool} {x1:Option Addr} {y1 z1:Nat},Slot3 y k (.slice x0 y0 z0) (.bool b0) (.slice x1 y1 z1)->w.heap.size+1<k->Bag w (fun y=>Slot3 y (w.heap.size+1) (.slice none 0 0) (.bool false) (.slice none 0 0)/\Slot3 y w.heap.size (.slice a n c) (.bool m) (.slice a2 n2 c2)/\RatAt y a n c m a2 n2 c2 P Q/\True) y->∀(a9:Option Addr) (n9 c9:Nat) (m9:Bool) (a10:Option Addr) (n10 c10:Nat),Bag w (fun y=>Slot3 y (w.heap.size+1) (.slice none 0 0) (.bool false) (.slice none 0 0)/\Slot3 y w.heap.size (.slice a n c) (.bool m) (.slice a2 n2 c2)/\RatAt y a n c m a2 n2 c2 P Q/\True) (((y.setCell ⟨k,0,none⟩ (.slice a9 n9 c9)).setCell ⟨k,1,none⟩ (.bool m9)).setCell ⟨k,2,none⟩ (.slice a10 n10 c10))):=by
    intro y k x0 y0 z0 b0 x1 y1 z1 s hk B a9 n9 c9 m9 a10 n10 c10;have q:=B.now;exact⟨((B.below.setCell (p:=⟨k,0,none⟩) (show w.heap.size<=k by omega) _).setCell (p:=⟨k,1,none⟩) (show w.heap.size<=k by omega) _).setCell (p:=⟨k,2,none⟩) (show w.heap.size<=k by omega) _,B.stay,q.1.set3o (by omega) _ _ _,q.2.1.set3o (by omega) _ _ _,q.2.2.1.set3 s _ _ _,trivial⟩
   refine wp_region_inv ⟨(fun j=>([[7], [8], [9], [6], [10], [11], [4], [4], [5]]:List (List Nat)).getD j []),(fun j=>([[], [], [0,1], [0,1,2], [0,1,2,3], [0,1,2,3], [], [0,1,2,3,4,6], [0,1,2,3,4,5,6,7]]:List (List Nat)).getD j []), [6]⟩ (fun jj vv yy=>match jj with|0=>∃(a0:Option Addr),∃(n0:Nat),∃(c0:Nat),∃(m0:Bool),∃(d0:Option Addr),∃(i0:Nat),∃(j0:Nat),vv = [some (.agg #[.slice a0 n0 c0,.bool m0,.slice d0 i0 j0])]/\RatAt yy a0 n0 c0 m0 d0 i0 j0 1 1|1=>vv = [some (.agg #[.slice a n c,.bool m,.slice a2 n2 c2])]|2=>∃(a3:Option Addr),∃(n3:Nat),∃(c3:Nat),∃(m3:Bool),∃(d3:Option Addr),∃(i3:Nat),∃(j3:Nat),vv = [some (.tuple #[.agg #[.slice a3 n3 c3,.bool m3,.slice d3 i3 j3],.bool true])]/\RatAt yy a3 n3 c3 m3 d3 i3 j3 UP PN|3=>∃(a3:Option Addr),∃(n3:Nat),∃(c3:Nat),∃(m3:Bool),∃(d3:Option Addr),∃(i3:Nat),∃(j3:Nat),vv = [some (.tuple #[.agg #[.slice a3 n3 c3,.bool m3,.slice d3 i3 j3],.bool true])]/\RatAt yy a3 n3 c3 m3 d3 i3 j3 UP PN|4=>∃(a3:Option Addr),∃(n3:Nat),∃(c3:Nat),∃(m3:Bool),∃(d3:Option Addr),∃(i3:Nat),∃(j3:Nat),vv = [some (.agg #[.slice a3 n3 c3,.bool m3,.slice d3 i3 j3])]/\RatAt yy a3 n3 c3 m3 d3 i3 j3 UP PN|5=>vv = [some (.bool true)]|6=>∃(k6:Nat),∃(x0:Option Addr),∃(y0:Nat),∃(z0:Nat),∃(b0:Bool),∃(x1:Option Addr),∃(y1:Nat),∃(z1:Nat),vv = [some (.pointer (some ⟨k6,0,none⟩))]/\Slot3 yy k6 (.slice x0 y0 z0) (.bool b0) (.slice x1 y1 z1)/\w.heap.size+1<k6|7=>∃(k6:Nat),∃(a3:Option Addr),∃(n3:Nat),∃(c3:Nat),∃(m3:Bool),∃(d3:Option Addr),∃(i3:Nat),∃(j3:Nat),vv = [some (.pointer (some ⟨k6,0,none⟩))]/\Slot3 yy k6 (.slice a3 n3 c3) (.bool m3) (.slice d3 i3 j3)/\RatAt yy a3 n3 c3 m3 d3 i3 j3 UP PN|8=>vv = [some (.bool true)]|_=>True) (Bag w (fun y=>Slot3 y (w.heap.size+1) (.slice none 0 0) (.bool false) (.slice none 0 0)/\Slot3 y w.heap.size (.slice a n c) (.bool m) (.slice a2 n2 c2)/\RatAt y a n c m a2 n2 c2 P Q/\True)) (by kernel_rfl) (by kernel_rfl) (by kernel_rfl) BB.out.drew ?_ ?_ ?_
   · intro jj vv yw yw2 hb h
     match jj,h with
     | 0,⟨a0,n0,c0,m0,d0,i0,j0,e0,g0_0⟩=>exact Exists.intro a0 (Exists.intro n0 (Exists.intro c0 (Exists.intro m0 (Exists.intro d0 (Exists.intro i0 (Exists.intro j0 (And.intro e0 (g0_0.below hb))))))))
     | 1,h=>exact h
     | 2,⟨a3,n3,c3,m3,d3,i3,j3,e2,g2_0⟩=>exact Exists.intro a3 (Exists.intro n3 (Exists.intro c3 (Exists.intro m3 (Exists.intro d3 (Exists.intro i3 (Exists.intro j3 (And.intro e2 (g2_0.below hb))))))))
     | 3,⟨a3,n3,c3,m3,d3,i3,j3,e3,g3_0⟩=>exact Exists.intro a3 (Exists.intro n3 (Exists.intro c3 (Exists.intro m3 (Exists.intro d3 (Exists.intro i3 (Exists.intro j3 (And.intro e3 (g3_0.below hb))))))))
     | 4,⟨a3,n3,c3,m3,d3,i3,j3,e4,g4_0⟩=>exact Exists.intro a3 (Exists.intro n3 (Exists.intro c3 (Exists.intro m3 (Exists.intro d3 (Exists.intro i3 (Exists.intro j3 (And.intro e4 (g4_0.below hb))))))))
     | 5,h=>exact h
     | 6,⟨k6,x0,y0,z0,b0,x1,y1,z1,e6,g6_0,g6_1⟩=>exact Exists.intro k6 (Exists.intro x0 (Exists.intro y0 (Exists.intro z0 (Exists.intro b0 (Exists.intro x1 (Exists.intro y1 (Exists.intro z1 (And.intro e6 (And.intro (g6_0.below hb) g6_1)))))))))
     | 7,⟨k6,a3,n3,c3,m3,d3,i3,j3,e7,g7_0,g7_1⟩=>exact Exists.intro k6 (Exists.intro a3 (Exists.intro n3 (Exists.intro c3 (Exists.intro m3 (Exists.intro d3 (Exists.intro i3 (Exists.intro j3 (And.intro e7 (And.intro (g7_0.below hb) (g7_1.below hb))))))))))
     | 8,h=>exact h
     | _+9,h=>exact h
   · intro ac yw hsz hdf hold hB hp;obtain⟨k6,a3,n3,c3,m3,d3,i3,j3,e7,sA,hr3⟩:=hp 7 (by decide);have t4:ac.tmps[4]? = some (.pointer (some ⟨k6,0,none⟩)):=(List.cons.inj e7).1;have t5:ac.tmps[5]? = some (.bool true):=(List.cons.inj (hp 8 (by decide))).1;have t2:ac.tmps[2]? = some (.pointer (some ⟨w.heap.size+1,0,none⟩)):=hold 2 (by kernel_rfl);clear hold hp e7;obtain⟨F,hF⟩:∃F:Nat->Value,∀i,(ac.tmps[i]?).getD undef=F i:=⟨_,fun _=>rfl⟩
     have f2:=(hF 2).symm.trans (congrArg (fun x=>Option.getD x undef) t2);have f4:=(hF 4).symm.trans (congrArg (fun x=>Option.getD x undef) t4);have f5:=(hF 5).symm.trans (congrArg (fun x=>Option.getD x undef) t5);have hac:=act_eq (n:=16) hsz F hF;rw[show((List.range 16).map F).toArray=#[F 0,F 1,F 2,F 3,F 4,F 5,F 6,F 7,F 8,F 9,F 10,F 11,F 12,F 13,F 14,F 15]from rfl,f2,f4,f5,hdf]at hac;simp only[Option.getD_some]at hac;subst hac;clear hF f2 f4 f5;have BB:=Lib.hid ((hB.slot3 sA).rat hr3);clear hB sA HP t2 t4 t5 FR BY;have⟨q0,q1,q2⟩:=BB.out.now.2.1.c3;have hs:=BB.out.now.2.2.1;have⟨u0,u1,u2,g0,g1,g2⟩:=hs.s6;have HS:=hs.set (.slice a3 n3 c3) (.bool m3) (.slice d3 i3 j3);have HE:=Lib.hid (RatTold4.done 0 BB.out.below (by omega) hs BB.out.now.1);clear hs;go_wp2;exact bodyPost_ret (by simp[results,Tryz.results204,go_sem,HS]) rfl HE.out
   refine Stps.cons (o:=_) ?_ ?_
   · intro ac yw hsz hold hB hp K hK;clear hold hp hsz;go_simp
     (go_at_call 56;(with_reducible refine(FR.out _).mono ?_);rintro e wz ⟨a0,n0,c0,m0,d0,i0,j0,rfl,h0_0,hbz⟩)
     exact hK.out _ _ ⟨hB.go hbz,Exists.intro a0 (Exists.intro n0 (Exists.intro c0 (Exists.intro m0 (Exists.intro d0 (Exists.intro i0 (Exists.intro j0 (And.intro rfl h0_0))))))),hbz.size,.inl hbz,fun h=>absurd h (by decide)⟩
   refine Stps.cons (o:=_) ?_ ?_
   · intro ac yw hsz hold hB hp K hK;have t1:ac.tmps[1]? = some (.pointer (some ⟨w.heap.size,0,none⟩)):=hold 1 (by kernel_rfl);clear hold hp hsz;have⟨v0,v1,v2⟩:=hB.now.2.1.c3;go_simp;exact hK.out _ _ ⟨hB,rfl,Nat.le_refl _,.inl (Below.refl _ _),fun h=>absurd h (by decide)⟩
   refine Stps.cons (o:=_) ?_ ?_
   · intro ac yw hsz hold hB hp K hK;obtain⟨a0_0,n0_0,c0_0,m0_0,d0_0,i0_0,j0_0,e0,g0_0⟩:=hp 0 (by decide);have t7:ac.tmps[7]? = some (.agg #[.slice a0_0 n0_0 c0_0,.bool m0_0,.slice d0_0 i0_0 j0_0]):=(List.cons.inj e0).1;have e1:=hp 1 (by decide);have t8:ac.tmps[8]? = some (.agg #[.slice a n c,.bool m,.slice a2 n2 c2]):=(List.cons.inj e1).1;clear hold hp hsz e0 e1;go_simp
     (go_at_call 223;(with_reducible refine(BY.out _ _ _ _ _ _ _ _ g0_0 hB.now.2.2.1).mono ?_);rintro e wz ⟨a3,n3,c3,m3,d3,i3,j3,rfl,h2_0,hbz⟩)
     exact hK.out _ _ ⟨hB.go hbz,Exists.intro a3 (Exists.intro n3 (Exists.intro c3 (Exists.intro m3 (Exists.intro d3 (Exists.intro i3 (Exists.intro j3 (And.intro rfl h2_0))))))),hbz.size,.inl hbz,fun h=>absurd h (by decide)⟩
   refine Stps.cons (o:=_) ?_ ?_
   · intro ac yw hsz hold hB hp K hK;obtain⟨a3_2,n3_2,c3_2,m3_2,d3_2,i3_2,j3_2,e2,g2_0⟩:=hp 2 (by decide);have t9:ac.tmps[9]? = some (.tuple #[.agg #[.slice a3_2 n3_2 c3_2,.bool m3_2,.slice d3_2 i3_2 j3_2],.bool true]):=(List.cons.inj e2).1;clear hold hp hsz e2;go_simp;exact hK.out _ _ ⟨hB,Exists.intro a3_2 (Exists.intro n3_2 (Exists.intro c3_2 (Exists.intro m3_2 (Exists.intro d3_2 (Exists.intro i3_2 (Exists.intro j3_2 (And.intro rfl g2_0))))))),Nat.le_refl _,.inl (Below.refl _ _),fun h=>absurd h (by decide)⟩
   refine Stps.cons (o:=_) ?_ ?_
   · intro ac yw hsz hold hB hp K hK;obtain⟨a3_3,n3_3,c3_3,m3_3,d3_3,i3_3,j3_3,e3,g3_0⟩:=hp 3 (by decide);have t6:ac.tmps[6]? = some (.tuple #[.agg #[.slice a3_3 n3_3 c3_3,.bool m3_3,.slice d3_3 i3_3 j3_3],.bool true]):=(List.cons.inj e3).1;clear hold hp hsz e3;go_simp;exact hK.out _ _ ⟨hB,Exists.intro a3_3 (Exists.intro n3_3 (Exists.intro c3_3 (Exists.intro m3_3 (Exists.intro d3_3 (Exists.intro i3_3 (Exists.intro j3_3 (And.intro rfl g3_0))))))),Nat.le_refl _,.inl (Below.refl _ _),fun h=>absurd h (by decide)⟩
   refine Stps.cons (o:=_) ?_ ?_
   · intro ac yw hsz hold hB hp K hK;obtain⟨a3_3,n3_3,c3_3,m3_3,d3_3,i3_3,j3_3,e3,g3_0⟩:=hp 3 (by decide);have t6:ac.tmps[6]? = some (.tuple #[.agg #[.slice a3_3 n3_3 c3_3,.bool m3_3,.slice d3_3 i3_3 j3_3],.bool true]):=(List.cons.inj e3).1;clear hold hp hsz e3;go_simp;exact hK.out _ _ ⟨hB,rfl,Nat.le_refl _,.inl (Below.refl _ _),fun h=>absurd h (by decide)⟩
   refine Stps.cons (o:=_) ?_ ?_
   · intro ac yw hsz hold hB hp K hK;clear hold hp hsz;have hk0:=hB.now.1.lt;have hsl:=Slot3.new yw (.slice none 0 0) (.bool false) (.slice none 0 0) 53;have hbz:Below yw.heap.size yw (yw.alloc (.cells #[.slice none 0 0,.bool false,.slice none 0 0] 53))/\yw.heap.size<(yw.alloc (.cells #[.slice none 0 0,.bool false,.slice none 0 0] 53)).heap.size:=⟨(Below.refl _ _).alloc (Nat.le_refl _) _,by simp⟩
     go_simp;exact hK.out _ _ ⟨hB.alloc _,Exists.intro yw.heap.size (Exists.intro none (Exists.intro 0 (Exists.intro 0 (Exists.intro false (Exists.intro none (Exists.intro 0 (Exists.intro 0 (And.intro rfl (And.intro hsl hk0))))))))),Nat.le_of_lt hbz.2,.inl hbz.1,fun _=>⟨_,rfl,Nat.le_refl _,hbz.2⟩⟩
   refine Stps.cons (o:=_) ?_ ?_
   · intro ac yw hsz hold hB hp K hK;obtain⟨k6_6,x0_6,y0_6,z0_6,b0_6,x1_6,y1_6,z1_6,e6,g6_0,g6_1⟩:=hp 6 (by decide);have t4:ac.tmps[4]? = some (.pointer (some ⟨k6_6,0,none⟩)):=(List.cons.inj e6).1;obtain⟨a3_4,n3_4,c3_4,m3_4,d3_4,i3_4,j3_4,e4,g4_0⟩:=hp 4 (by decide);have t10:ac.tmps[10]? = some (.agg #[.slice a3_4 n3_4 c3_4,.bool m3_4,.slice d3_4 i3_4 j3_4]):=(List.cons.inj e4).1;clear hold hp hsz e6 e4;have hs:=g6_0;have⟨l0,l1,l2,f0,f1,f2⟩:=hs.s6;have HB:=HP.out _ _ hs g6_1 hB a3_4 n3_4 c3_4 m3_4 d3_4 i3_4 j3_4;go_simp;refine hK.out undef _ ⟨HB,Exists.intro k6_6 (Exists.intro a3_4 (Exists.intro n3_4 (Exists.intro c3_4 (Exists.intro m3_4 (Exists.intro d3_4 (Exists.intro i3_4 (Exists.intro j3_4 (And.intro (congrArg (fun x => [x]) t4) (And.intro (hs.set3 (.slice a3_4 n3_4 c3_4) (.bool m3_4) (.slice d3_4 i3_4 j3_4)) (RatAt.set3 g4_0 hs _ _ _)))))))))),by simp,.inr ?_,fun h=>absurd h (by decide)⟩;intro jj hj hap h
     match jj,h with
     | 0,⟨a0,n0,c0,m0,d0,i0,j0,e0,g0_0⟩ =>
      exact Exists.intro a0 (Exists.intro n0 (Exists.intro c0 (Exists.intro m0 (Exists.intro d0 (Exists.intro i0 (Exists.intro j0 (And.intro e0 (RatAt.set3 g0_0 hs _ _ _))))))))
     | 1,h=>exact h
     | 2,⟨a3,n3,c3,m3,d3,i3,j3,e2,g2_0⟩ =>
      exact Exists.intro a3 (Exists.intro n3 (Exists.intro c3 (Exists.intro m3 (Exists.intro d3 (Exists.intro i3 (Exists.intro j3 (And.intro e2 (RatAt.set3 g2_0 hs _ _ _))))))))
     | 3,⟨a3,n3,c3,m3,d3,i3,j3,e3,g3_0⟩ =>
      exact Exists.intro a3 (Exists.intro n3 (Exists.intro c3 (Exists.intro m3 (Exists.intro d3 (Exists.intro i3 (Exists.intro j3 (And.intro e3 (RatAt.set3 g3_0 hs _ _ _))))))))
     | 4,⟨a3,n3,c3,m3,d3,i3,j3,e4,g4_0⟩ =>
      exact Exists.intro a3 (Exists.intro n3 (Exists.intro c3 (Exists.intro m3 (Exists.intro d3 (Exists.intro i3 (Exists.intro j3 (And.intro e4 (RatAt.set3 g4_0 hs _ _ _))))))))
     | 5,h=>exact h
     | 6,⟨k6,x0,y0,z0,b0,x1,y1,z1,e6,g6_0,g6_1⟩ =>
      have e9:k6=k6_6:=by have:=(List.cons.inj e6).1.symm.trans t4;cases this;rfl
      subst e9;exact Exists.intro _ (Exists.intro _ (Exists.intro _ (Exists.intro _ (Exists.intro _ (Exists.intro _ (Exists.intro _ (Exists.intro _ (And.intro e6 (And.intro (g6_0.set3 _ _ _) g6_1)))))))))
     | 7,_=>exact absurd rfl hj
     | 8,h=>exact h
     | _+9,h=>exact h
   refine Stps.cons (o:=_) ?_ ?_
   · intro ac yw hsz hold hB hp K hK;have e5:=hp 5 (by decide);have t11:ac.tmps[11]? = some (.bool true):=(List.cons.inj e5).1;clear hold hp hsz e5;go_simp;exact hK.out _ _ ⟨hB,rfl,Nat.le_refl _,.inl (Below.refl _ _),fun h=>absurd h (by decide)⟩
   exact Stps.nil _
theorem mhas_any(c:Int)(w:World):Calls Tryz.prog 77 #[.int .i32 c] w fun e w'=>e=.returned (.bool (hasO c))/\Below w.heap.size w w':=by
 have HE:=Lib.hid (Below.refl w.heap.size w)
 by_cases h:(c=43∨c=45∨c=124∨c=42∨c=33∨c=126∨c=215∨c=247∨c=8968∨c=8970∨c=9055∨c=9675)
 · rw[show hasO c=true from decide_eq_true h]
   rcases h with rfl|rfl|rfl|rfl|rfl|rfl|rfl|rfl|rfl|rfl|rfl|rfl
   all_goals
    go_enter Tryz.func77,Tryz.ntmps77;go_wp2;go_ret;exact⟨rfl,HE.out⟩
 · rw[show hasO c=false from decide_eq_false h]
   have hh:(c==43)=false/\(c==45)=false/\(c==124)=false/\(c==42)=false/\(c==33)=false/\(c==126)=false/\(c==215)=false/\(c==247)=false/\(c==8968)=false/\(c==8970)=false/\(c==9055)=false/\(c==9675)=false:=by
    refine⟨?_,?_,?_,?_,?_,?_,?_,?_,?_,?_,?_,?_⟩<;>(rw[beq_eq_false_iff_ne];omega)
   obtain⟨h43,h45,h124,h42,h33,h126,h215,h247,h8968,h8970,h9055,h9675⟩:=hh;clear h;go_enter Tryz.func77,Tryz.ntmps77;go_wp2;go_ret;exact⟨rfl,HE.out⟩
theorem mfac_no (a : Option Addr) (n c : Nat) (m : Bool) (a2 : Option Addr) (n2 c2 : Nat) (P : Int) (Q : Nat) (l : Int) (w : World) (h : RatAt w a n c m a2 n2 c2 P Q) (hQ : 0 < Q) (hn : ¬ (Q = 1 /\ 0 <= P)) :
    Calls Tryz.prog 208 #[.agg #[.slice a n c,.bool m,.slice a2 n2 c2],.int .i64 l] w fun e w'=>RatTold4 w w' e 0 1 22:=by
 have IW:=Lib.hid (fun wz hz=>isWhole_any a n c m a2 n2 c2 P Q wz hz hQ);have SG:=Lib.hid (fun wz h=>ratSign_any a n c m a2 n2 c2 P Q wz h)
 by_cases h1:Q=1
 · rw[decide_eq_true h1]at IW
   have dS:decide (sgnI P<0)=true:=by
    have:P<0:=by omega
    unfold sgnI
    simp[this]
   obtain⟨sg,hsg⟩:∃z,sgnI P=z:=⟨_,rfl⟩
   rw[hsg]at SG dS;clear hsg;have BB:=Lib.hid ((((Bag.start w).rat h).box3 (.slice a n c) (.bool m) (.slice a2 n2 c2) 53).box3 (.slice none 0 0) (.bool false) (.slice none 0 0) 53);simp only[World.size_alloc]at BB;have⟨q0,q1,q2⟩:=BB.out.now.2.1.c3;clear h hn hQ h1;go_enter Tryz.func208,Tryz.ntmps208;go_wp2_with fail;go_at_call 120;refine(IW.out _ BB.out.now.2.2.1).mono ?_;rintro e w2 ⟨rfl,hb2⟩;have BB:=bgo BB hb2;clear hb2;have⟨q0,q1,q2⟩:=BB.out.now.2.1.c3;go_wp2_with fail;go_at_call 72;refine(SG.out _ BB.out.now.2.2.1).mono ?_;rintro e w3 ⟨rfl,hb3⟩;have BB:=bgo BB hb3;clear hb3;have hs:=BB.out.now.1;have⟨u0,u1,u2,g0,g1,g2⟩:=hs.s6;have HS:=hs.set (.slice none 0 0) (.bool false) (.slice none 0 0);have HE:=Lib.hid (RatTold4.done 22 BB.out.below (by omega) hs (RatAt.zero _));clear hs;go_wp2;exact bodyPost_ret (by simp[results,Tryz.results208,go_sem,HS]) rfl HE.out
 · rw[decide_eq_false h1]at IW;clear SG;have BB:=Lib.hid ((((Bag.start w).rat h).box3 (.slice a n c) (.bool m) (.slice a2 n2 c2) 53).box3 (.slice none 0 0) (.bool false) (.slice none 0 0) 53);simp only[World.size_alloc]at BB;have⟨q0,q1,q2⟩:=BB.out.now.2.1.c3;clear h hn hQ h1;go_enter Tryz.func208,Tryz.ntmps208;go_wp2_with fail;go_at_call 120;refine(IW.out _ BB.out.now.2.2.1).mono ?_;rintro e w2 ⟨rfl,hb2⟩;have BB:=bgo BB hb2;clear hb2;have hs:=BB.out.now.1;have⟨u0,u1,u2,g0,g1,g2⟩:=hs.s6;have HS:=hs.set (.slice none 0 0) (.bool false) (.slice none 0 0);have HE:=Lib.hid (RatTold4.done 22 BB.out.below (by omega) hs (RatAt.zero _));clear hs;go_wp2;exact bodyPost_ret (by simp[results,Tryz.results208,go_sem,HS]) rfl HE.out
theorem mfac_far (a : Option Addr) (n c : Nat) (m : Bool) (a2 : Option Addr) (n2 c2 : Nat) (P : Int) (Q : Nat) (l : Int) (w : World) (h : RatAt w a n c m a2 n2 c2 P Q) (hQ : Q = 1) (hP : 18446744073709551616 <= P) :
    Calls Tryz.prog 208 #[.agg #[.slice a n c,.bool m,.slice a2 n2 c2],.int .i64 l] w fun e w'=>RatTold4 w w' e 0 1 26:=by
 have hg0:¬P<0:=by omega
 have IW:=Lib.hid (fun wz hz=>isWhole_any a n c m a2 n2 c2 P Q wz hz (by omega));rw[decide_eq_true hQ]at IW;have SG:=Lib.hid (fun wz h=>ratSign_any a n c m a2 n2 c2 P Q wz h)
 have dS:decide (sgnI P<0)=false:=by
  unfold sgnI;rw[if_neg hg0]
  split<;>simp
 obtain⟨sg,hsg⟩:∃z,sgnI P=z:=⟨_,rfl⟩
 rw[hsg]at SG dS;have TP:=Lib.hid (fun wz h=>top_any a n c m a2 n2 c2 P Q wz h);have hfd:∀wz:World,(Instr.field 51 (.agg #[.slice a n c,.bool m]) 0).run Tryz.prog wz=.ok (.agg #[.slice a n c]) wz:=fun _=>by kernel_rfl
 have UI:=Lib.hid (fun wz h=>uint_any (.agg #[.slice a n c]) P.natAbs wz h);unfold UintOut at UI;rw[if_neg (by omega),decide_eq_false (by omega)]at UI;have BB:=Lib.hid ((((Bag.start w).rat h).box3 (.slice a n c) (.bool m) (.slice a2 n2 c2) 53).box3 (.slice none 0 0) (.bool false) (.slice none 0 0) 53);simp only[World.size_alloc]at BB;have⟨q0,q1,q2⟩:=BB.out.now.2.1.c3;clear h hQ hP hsg hg0;go_enter Tryz.func208,Tryz.ntmps208;go_wp2_with fail;go_at_call 120;refine(IW.out _ BB.out.now.2.2.1).mono ?_;rintro e w2 ⟨rfl,hb2⟩;have BB:=bgo BB hb2;clear hb2;have⟨q0,q1,q2⟩:=BB.out.now.2.1.c3;go_wp2_with fail;go_at_call 72;refine(SG.out _ BB.out.now.2.2.1).mono ?_;rintro e w3 ⟨rfl,hb3⟩;have BB:=bgo BB hb3;clear hb3;have⟨q0,q1,q2⟩:=BB.out.now.2.1.c3;go_wp2_with fail;go_at_call 224;refine(TP.out _ BB.out.now.2.2.1).mono ?_;rintro e w4 ⟨rfl,hi4,hb4⟩;have BB:=bgo BB hb4;clear hb4 hi4;go_wp2_with fail;go_at_call 238;refine(UI.out _ BB.out.now.2.2.1.int.nt).mono ?_;rintro e w5 ⟨rfl,hb5⟩;have BB:=bgo BB hb5;clear hb5;have hs:=BB.out.now.1;have⟨u0,u1,u2,g0,g1,g2⟩:=hs.s6;have HS:=hs.set (.slice none 0 0) (.bool false) (.slice none 0 0);have HE:=Lib.hid (RatTold4.done 26 BB.out.below (by omega) hs (RatAt.zero _));clear hs;go_wp2;exact bodyPost_ret (by simp[results,Tryz.results208,go_sem,HS]) rfl HE.out
theorem mfac_some (a : Option Addr) (n c : Nat) (m : Bool) (a2 : Option Addr) (n2 c2 : Nat) (P : Int) (Q : Nat) (l : Int) (w : World) (h : RatAt w a n c m a2 n2 c2 P Q) (hQ : Q = 1) (hP : 0 <= P /\ P < 18446744073709551616) (hl : l <= 64) :
    Calls Tryz.prog 208 #[.agg #[.slice a n c,.bool m,.slice a2 n2 c2],.int .i64 l] w fun e w'=>∃k,k<=P.toNat/\(k=P.toNat∨l<lbs (fac k))/\RatTold4 w w' e (fac k:Nat) 1 0:=by
 have hg0:¬P<0:=by omega
 have IW:=Lib.hid (fun wz hz=>isWhole_any a n c m a2 n2 c2 P Q wz hz (by omega));rw[decide_eq_true hQ]at IW;have SG:=Lib.hid (fun wz h=>ratSign_any a n c m a2 n2 c2 P Q wz h)
 have dS:decide (sgnI P<0)=false:=by
  unfold sgnI;rw[if_neg hg0]
  split<;>simp
 obtain⟨sg,hsg⟩:∃z,sgnI P=z:=⟨_,rfl⟩
 rw[hsg]at SG dS;have TP:=Lib.hid (fun wz h=>top_any a n c m a2 n2 c2 P Q wz h);have hfd:∀wz:World,(Instr.field 51 (.agg #[.slice a n c,.bool m]) 0).run Tryz.prog wz=.ok (.agg #[.slice a n c]) wz:=fun _=>by kernel_rfl
 have UI:=Lib.hid (fun wz h=>uint_any (.agg #[.slice a n c]) P.natAbs wz h);unfold UintOut at UI;obtain⟨N,hN⟩:∃N:Nat,P.toNat=N:=⟨_,rfl⟩
 have hN2:P.natAbs=N:=by omega
 have hN3:N<18446744073709551616:=by omega
 rw[hN2,if_pos hN3,decide_eq_true hN3]at UI;rw[hN];have ON:Hid (∀wz,Calls Tryz.prog 146 #[.int .u64 1] wz fun e w'=>NatTold wz w' e 1):=Lib.hid (fun wz=>of_told 1 wz (by omega));have LI:=Lib.hid (fun a n c k wz (h:NatIs wz (.agg #[.slice a n c]) (fac k))=>limbs_bits _ (fac k) wz h);unfold LimbsOut at LI;have OF1:=Lib.hid (fun k (hk:k<=3000) wz=>of_told k wz (by omega));have MU:=Lib.hid (fun a n c a2 n2 c2 k wz (h:NatIs wz (.agg #[.slice a n c]) (fac k)) (g:NatIs wz (.agg #[.slice a2 n2 c2]) (k+1)) (hk:fac k<4294967296^64) (hk2:k<=3000)=>(mul_any _ _ (fac k) (k+1) wz h g 64 (by omega) hk (Nat.lt_of_lt_of_le (show k+1<4294967296^1 by omega) (Nat.pow_le_pow_right (by omega) (by omega)))).mono fun _ _ h=>h.told);have OFW:=Lib.hid (fun a n c k wz (h:NatIs wz (.agg #[.slice a n c]) (fac k))=>wof_any false a n c (fac k) wz h);have WH:=Lib.hid (fun a n c m k wz (h:IntAt wz a n c m (sgn false (fac k)))=>whole_any a n c m (sgn false (fac k)) wz h);have HN:=Lib.hid hN2;have BB:=Lib.hid ((((Bag.start w).rat h).box3 (.slice a n c) (.bool m) (.slice a2 n2 c2) 53).box3 (.slice none 0 0) (.bool false) (.slice none 0 0) 53);simp only[World.size_alloc]at BB;have⟨q0,q1,q2⟩:=BB.out.now.2.1.c3;clear h hN2 hQ hP hN hsg hg0;go_enter Tryz.func208,Tryz.ntmps208;go_wp2_with fail;go_at_call 120;(with_reducible refine(IW.out _ BB.out.now.2.2.1).mono ?_);rintro e w2 ⟨rfl,hb2⟩;have BB:=bgo BB hb2;clear hb2;have⟨q0,q1,q2⟩:=BB.out.now.2.1.c3;go_wp2_with fail;go_at_call 72;(with_reducible refine(SG.out _ BB.out.now.2.2.1).mono ?_);rintro e w3 ⟨rfl,hb3⟩;have BB:=bgo BB hb3;clear hb3;have⟨q0,q1,q2⟩:=BB.out.now.2.1.c3;go_wp2_with fail;go_at_call 224;(with_reducible refine(TP.out _ BB.out.now.2.2.1).mono ?_);rintro e w4 ⟨rfl,hi4,hb4⟩;have BB:=bgo BB hb4;clear hb4 hi4;go_wp2_with fail;go_at_call 238;(with_reducible refine(UI.out _ (by have q:=BB.out.now.2.2.1.int.nt;rw[HN.out]at q;exact q)).mono ?_);rintro e w5 ⟨rfl,hb5⟩;have BB:=bgo BB hb5;clear hb5;have BB:=Lib.hid (Bag.slot3 (Bag.go (Bag.start w) BB.out.below) BB.out.now.1);clear q0 q1 q2 IW SG TP UI hfd;go_wp2_with fail;go_at_call 146;(with_reducible refine(ON.out _).mono ?_);rintro e w6 ⟨a6,n6,c6,rfl,hn6,hb6⟩
 have j6:w.heap.size+1<w6.heap.size:=by
  have:=BB.out.now.1.lt;have:=hb6.size
  omega
 have BB:=Lib.hid (((BB.out.go hb6).nat hn6).box (.slice a6 n6 c6) 49);clear hn6 hb6 ON;go_wp2_with fail;generalize hW:w6.alloc (.cells #[.slice a6 n6 c6] 49)=y6 at *;clear hW
 go_loopw [9] (fun i wr=>∃(k:Nat) (a8:Option Addr) (n8 c8:Nat),1<=k/\(k<=N∨k=1)/\k<=2050/\i=.int .u64 ((k+1:Nat):Int)/\Hid (Bag w (fun y=>Slot y w6.heap.size (.slice a8 n8 c8)/\NatIs y (.agg #[.slice a8 n8 c8]) (fac k)/\Slot3 y (w.heap.size+1) (.slice none 0 0) (.bool false) (.slice none 0 0)/\True) wr)) (fun i _=>2200-(intOf i).toNat)
 case atStart=>exact⟨1,a6,n6,c6,by omega,.inr rfl,by omega,rfl,BB.out⟩
 case round =>
  obtain⟨k,a8,n8,c8,hk1,hkN,hk2,rfl,hB⟩:=hrel;have BB:=Lib.hid hB.out;clear hB;have q0:=BB.out.now.1.cell
  by_cases h1:k+1<=N
  · have h1' : ((k + 1 : Nat) : Int) <= (N : Int) := by omega
    obtain⟨lk,hlk⟩:∃z,lbs (fac k)=z:=⟨_,rfl⟩
    have LK:Hid (∀wz,NatIs wz (.agg #[.slice a8 n8 c8]) (fac k)->Calls Tryz.prog 187 #[.agg #[.slice a8 n8 c8]] wz fun e w'=>e=.returned (.int .i64 (lk:Nat))/\Below wz.heap.size wz w'):=Lib.hid (fun wz h=>by
     have:=LI.out a8 n8 c8 k wz h;rw[show(nbits (fac k)+31) / 32=lk from hlk]at this
     exact this)
    by_cases h2:(lk:Int)<=l
    · have hk3:lbs (fac k)<=64:=by omega
      have hkF:=fac_lim hk3;have OK:Hid (∀wz,Calls Tryz.prog 146 #[.int .u64 ((k:Int)+1)] wz fun e w'=>NatTold wz w' e (k+1)):=Lib.hid (fun wz=>OF1.out (k+1) (by omega) wz);have MK:=Lib.hid (fun a n c a2 n2 c2 wz h g=>MU.out a n c a2 n2 c2 k wz h g (lbs_le32.1 hk3) (by omega))
      have hw:IntKind.u64.wrap ((k:Int)+1+1)=((k+1+1:Nat):Int):=by
       rw[IntWalk.u64_in _ (by omega)]
       omega
      clear hlk hk3;go_wp2_with fail;go_at_call 187;(with_reducible refine(LK.out _ BB.out.now.2.1).mono ?_);rintro e w7 ⟨rfl,hb7⟩;have BB:=bgo BB hb7;clear hb7 q0;have q0:=BB.out.drew.now.1.cell;go_wp2_with fail
      go_region_with (first
       | (go_at_call 146;(with_reducible refine(OK.out _).mono ?_);rintro e w8 ⟨a9,n9,c9,rfl,hn9,hb8⟩;(have BC:=Lib.hid ((BB.out.drew.go hb8).nat hn9));(have q0:=BC.out.now.2.1.cell);(clear hb8 hn9))
       | (go_at_call 176;(with_reducible refine(MK.out _ _ _ _ _ _ _ BC.out.now.2.2.1 BC.out.now.1).mono ?_);rintro e w9 ⟨a10,n10,c10,rfl,hn10,hb9⟩;(have B7:=BC.out.go hb9);(have hc:=B7.now.2.1.cell);(have hf:=B7.now.2.1.free);(have B8:Hid (Bag w (fun y=>Slot y w6.heap.size (.slice a10 n10 c10)/\NatIs y (.agg #[.slice a10 n10 c10]) (fac (k+1))/\Slot3 y (w.heap.size+1) (.slice none 0 0) (.bool false) (.slice none 0 0)/\True) (w9.setCell ⟨w6.heap.size,0,none⟩ (.slice a10 n10 c10))):=Lib.hid ⟨B7.below.setCell (show w.heap.size<=w6.heap.size by omega) _,fun x y hb h=>⟨h.1.below hb,h.2.1.below hb,h.2.2.1.below hb,trivial⟩,B7.now.2.1.set1 _,hn10.storeAt hc (fun _ _ h=>by cases h) _,B7.now.2.2.2.1.set1o (by omega) _,trivial⟩);(clear B7 hn10 hb9)))
      all_goals go_wp2_with fail
      all_goals go_roundw
      all_goals first
       | exact⟨k+1,a10,n10,c10,by omega,.inl h1,by omega,by go_num,B8.out⟩
       | (simp[intOf];omega)
    · have hE:=Lib.hid (show l<lbs (fac k)by rw[hlk];omega);clear hlk;go_wp2_with fail;go_at_call 187;(with_reducible refine(LK.out _ BB.out.now.2.1).mono ?_);rintro e w7 ⟨rfl,hb7⟩;have BB:=bgo BB hb7;clear hb7 q0;have q0:=BB.out.now.1.cell;go_wp2_with fail;go_at_call 116;(with_reducible refine(OFW.out _ _ _ k _ BB.out.now.2.1).mono ?_);rintro e w8 ⟨a9,n9,c9,m9,rfl,hi9,hb8⟩;have BB:=bgo BB hb8;clear hb8;go_wp2_with fail;go_at_call 117;(with_reducible refine(WH.out _ _ _ _ k _ hi9).mono ?_);rintro e w9 ⟨a3,n3,c3,m3,a4,n4,c4,rfl,hr,hb9⟩;have BB:=bgo BB hb9;clear hb9 hi9;have hs:=BB.out.now.2.2.1;have⟨u0,u1,u2,g0,g1,g2⟩:=hs.s6;have HS:=hs.set (.slice a3 n3 c3) (.bool m3) (.slice a4 n4 c4);have HE:=Lib.hid (RatTold4.done 0 BB.out.below (by omega) hs hr);clear hs;go_wp2;exact bodyPost_ret (v:=.tuple #[.agg #[.slice a3 n3 c3,.bool m3,.slice a4 n4 c4],.int .i64 0]) (by simp[results,Tryz.results208,go_sem,HS]) rfl ⟨k,by omega,.inr hE.out,HE.out⟩
  · have hE := Lib.hid (show k = N ∨ N = 0 by omega); have h1' : ¬ ((k + 1 : Nat) : Int) <= (N : Int) := by omega
    go_wp2_with fail;go_at_call 116;(with_reducible refine(OFW.out _ _ _ k _ BB.out.now.2.1).mono ?_);rintro e w8 ⟨a9,n9,c9,m9,rfl,hi9,hb8⟩;have BB:=bgo BB hb8;clear hb8;go_wp2_with fail;go_at_call 117;(with_reducible refine(WH.out _ _ _ _ k _ hi9).mono ?_);rintro e w9 ⟨a3,n3,c3,m3,a4,n4,c4,rfl,hr,hb9⟩;have BB:=bgo BB hb9;clear hb9 hi9;have hs:=BB.out.now.2.2.1;have⟨u0,u1,u2,g0,g1,g2⟩:=hs.s6;have HS:=hs.set (.slice a3 n3 c3) (.bool m3) (.slice a4 n4 c4);have HE:=Lib.hid (RatTold4.done 0 BB.out.below (by omega) hs hr);clear hs;go_wp2
    exact bodyPost_ret (v:=.tuple #[.agg #[.slice a3 n3 c3,.bool m3,.slice a4 n4 c4],.int .i64 0]) (by simp[results,Tryz.results208,go_sem,HS]) rfl ⟨N,Nat.le_refl _,.inl rfl,by
        rcases hE.out with e|e
        · rw[← e];exact HE.out
        · obtain rfl:k=1:=by omega
          rw[e];exact HE.out⟩
theorem mfac_any (a : Option Addr) (n c : Nat) (m : Bool) (a2 : Option Addr) (n2 c2 : Nat) (P : Int) (Q : Nat) (l : Int) (w : World) (h : RatAt w a n c m a2 n2 c2 P Q) (hQ : 0 < Q) (hl : l <= 64) :
    Calls Tryz.prog 208 #[.agg #[.slice a n c,.bool m,.slice a2 n2 c2],.int .i64 l] w fun e w'=>∃P' Q' E',RatTold4 w w' e P' Q' E'/\Fits 33 P Q l P' Q' E':=by
 by_cases hn:Q=1/\0<=P
 · obtain⟨rfl,h0⟩:=hn
   by_cases hf:P<18446744073709551616
   · refine(mfac_some a n c m a2 n2 c2 P 1 l w h rfl ⟨h0,hf⟩ hl).mono ?_;rintro e w' ⟨k,h1,h2,h3⟩;exact⟨_,_,_,h3,fits_fac h0 h1 h2⟩
   · exact(mfac_far a n c m a2 n2 c2 P 1 l w h rfl (by omega)).mono (fun e w' h3=>⟨_,_,_,h3,fits_far (by omega) hl⟩)
 · refine(mfac_no a n c m a2 n2 c2 P Q l w h hQ hn).mono (fun e w' h3=>⟨_,_,_,h3,fits_no (by decide) (by decide) ?_⟩);unfold aN
   simp
   omega
theorem lenZ_any(w:World):Calls Tryz.prog 51 #[.agg zerC] w fun e w'=>e=.returned (.int .i64 0)/\Below w.heap.size w w' :=
 len_any false 0 (fun _=>0) none 0 0 none 0 0 w
end Go.Proofs.YtdmmenaejkpnjaaGreatDoor
namespace Go.Proofs.YtdmmenaejkpnjaaGreatDoor
open Go.RowKit
theorem Good.small{S:Nat->Int}{r:Nat}{ch:Bool}{L:Nat}{fB:Nat->Bool}{fS fT:Nat->ByteArray}(h:Good S r ch L fB fS fT):Small ch L (gP fB fS fT) (gQ fB fS fT):=fun e=>by
 have:=ofO_cmp (ofB_true h.of).2.2.2.2 h.short;subst e;exact this
theorem res_pln2 {fn : Func} {p q : Tmp} {tmps : Array Value} {w : World} {g : Nat} {cs : Array Value} {v : Value} (h : fn.results = #[.cell p 26, .tmp q]) (hp : tmps.getD p undef = .pointer (some ⟨g, 0, none⟩)) (hq : tmps.getD q undef = v) (hg : Row w g 26 cs) (hs : cs.size = 4) :
    (results fn tmps).run Tryz.prog w=.ok (.tuple #[.agg cs,v]) w:=by
 have hp':tmps[p]?.getD undef=.pointer (some ⟨g,0,none⟩):=by simpa using hp
 have hq':tmps[q]?.getD undef=v:=by simpa using hq
 simp[results,h,hp',hq',asAddr,run_loadVar_row w g 26 26 cs (0,0) _ hg Tryz.underlying26 rfl (by rw[pln4,hs])]
end Go.Proofs.YtdmmenaejkpnjaaGreatDoor
namespace Go.Proofs.YtdmmenaejkpnjaaGreatDoor
open Go.RowKit
attribute [local go_sem ↓] Go.wp_at_zero Go.wp_at_succ
theorem hasChars_any (cs : Array Value) (S : Nat -> Int) (r : Nat) (ch : Bool) (L : Nat) (g fP : Nat -> Int) (fQ : Nat -> Nat) (w : World) (h : Arr w cs S r ch L g fP fQ) :
    Calls Tryz.prog 78 #[.agg cs] w fun e w'=>e=.returned (.bool (ch&&decide (0<L)))/\Below w.heap.size w w':=by
 obtain⟨na,nn,nc,ta,tn,tc,hcs,_⟩:=h.form;subst hcs;have H:=Lib.hid h;have IC:=Lib.hid (fun wz=>isChar_any ch ((r:Int)-1) (dm S r) na nn nc ta tn tc wz);have LN:=Lib.hid (fun wz h=>len8_any (arrC ch ((r:Int)-1) (dm S r) na nn nc ta tn tc) S r ch L g fP fQ wz h);have BB:=Lib.hid ((Bag.start w).newRow (arrC ch ((r:Int)-1) (dm S r) na nn nc ta tn tc) 36);have HR:=Lib.hid BB.out.now.1;clear h;unfold arrC;go_enter Tryz.func78,Tryz.ntmps78
 go_wp2_with (refine ld_arr rfl (.tmp 1) rfl w.heap.size rfl HR.out ?_)
 go_at_call 41;refine(IC.out _).mono ?_;rintro e w2 ⟨rfl,hb2⟩;have BB:=bgo BB hb2;have HR:=Lib.hid BB.out.now.1;clear hb2
 cases ch with
 | false =>
  have HE:=Lib.hid BB.out.below;go_wp2;go_ret;exact⟨rfl,HE.out⟩
 | true =>
  go_wp2_with (refine ld8G (by rfl) 1 rfl w.heap.size _ (by rfl) HR.out rfl ?_)
  go_at_call 51
  refine(LN.out _ ?_).mono ?_
  · exact H.out.below BB.out.below
  rintro e w3 ⟨rfl,hb3⟩;have HE:=Lib.hid (BB.out.go hb3).below;clear hb3;go_wp2;go_ret;exact⟨by simp,HE.out⟩
theorem ratFloor_any (a : Option Addr) (n c : Nat) (m : Bool) (a2 : Option Addr) (n2 c2 : Nat) (P : Int) (Q : Nat) (w : World) (h : RatAt w a n c m a2 n2 c2 P Q) (hQ : 0 < Q) (K : Nat) (hK : K <= 800000) (h1 : P.natAbs < 4294967296 ^ K) :
    Calls Tryz.prog 206 #[.agg #[.slice a n c,.bool m,.slice a2 n2 c2]] w fun e w'=>IntTold w w' e (flQ P Q):=by
 have B0:=((Bag.start w).rat h).box3 (.slice a n c) (.bool m) (.slice a2 n2 c2) 53 |>.box2 (.slice none 0 0) (.bool false) 51
 simp only[World.size_alloc]at B0;have BL:=Lib.hid (fun wz (h:RatAt wz a n c m a2 n2 c2 P Q)=>below_any a n c m a2 n2 c2 P Q wz h hQ);have FL:=Lib.hid (fun a2 n2 c2 m2 wz (h:IntAt wz a n c m P) (g:IntAt wz a2 n2 c2 m2 (Q:Int))=>floor_any a n c m P a2 n2 c2 m2 Q wz h g K hK h1 (by omega));unfold FloorTold at FL;generalize flQ P (Q:Int)=Z at *;generalize flR P (Q:Int)=Y at *;have BB:=Lib.hid B0;clear h B0 hQ h1;go_enter Tryz.func206,Tryz.ntmps206;go_wp2_with fail
 have HP:Hid (∀(y:World) (k:Nat) {x0:Option Addr} {y0 z0:Nat} {b0:Bool},Slot2 y k (.slice x0 y0 z0) (.bool b0)->w.heap.size+1<k->Bag w (fun y=>Slot2 y (w.heap.size+1) (.slice none 0 0) (.bool false)/\Slot3 y w.heap.size (.slice a n c) (.bool m) (.slice a2 n2 c2)/\RatAt y a n c m a2 n2 c2 P Q/\True) y->∀(a9:Option Addr) (n9 c9:Nat) (m9:Bool),Bag w (fun y=>Slot2 y (w.heap.size+1) (.slice none 0 0) (.bool false)/\Slot3 y w.heap.size (.slice a n c) (.bool m) (.slice a2 n2 c2)/\RatAt y a n c m a2 n2 c2 P Q/\True) ((y.setCell ⟨k,0,none⟩ (.slice a9 n9 c9)).setCell ⟨k,1,none⟩ (.bool m9))):=by
  intro y k x0 y0 z0 b0 s hk B a9 n9 c9 m9;have hx:∀(x:Option Addr) (y z:Nat) (ki:IntKind) (i:Int),(Value.slice x y z) ≠ .int ki i:=fun _ _ _ _ _ h=>by cases h
  have hb:∀(x:Bool) (ki:IntKind) (i:Int),(Value.bool x) ≠ .int ki i:=fun _ _ _ h=>by cases h
  have q:=B.now
  exact⟨(B.below.setCell (p:=⟨k,0,none⟩) (show w.heap.size<=k by omega) _).setCell (p:=⟨k,1,none⟩) (show w.heap.size<=k by omega) _,B.stay,q.1.set2o (by omega) _ _,q.2.1.set2o (by omega) _ _,
   ⟨⟨q.2.2.1.int.1,q.2.2.1.int.nt.set2b s (hx _ _ _) (hb _) _ _⟩,q.2.2.1.low.set2b s (hx _ _ _) (hb _) _ _⟩,trivial⟩
 refine wp_region_inv ⟨(fun j=>([[7], [8], [9], [10], [11], [6], [12], [13], [14], [3], [4], [3], [4], [5]]:List (List Nat)).getD j []),(fun j=>([[], [0], [], [2], [0,1,2,3], [0,1,2,3,4], [0,1,2,3,4,5], [0,1,2,3,4,5], [0,1,2,3,4,5], [], [], [0,1,2,3,4,5,6,9,10], [0,1,2,3,4,5,6,7,9,10,11], [0,1,2,3,4,5,6,7,8,9,10,11,12]]:List (List Nat)).getD j []), [9,10]⟩ (fun jj vv yy=>match jj with|0=>vv = [some (.pointer (some ⟨w.heap.size,0,none⟩))]|1=>vv = [some (.agg #[.slice a n c,.bool m])]|2=>vv = [some (.agg #[.slice a n c,.bool m,.slice a2 n2 c2])]|3=>∃(a3:Option Addr),∃(n3:Nat),∃(c3:Nat),∃(m3:Bool),vv = [some (.agg #[.slice a3 n3 c3,.bool m3])]/\IntAt yy a3 n3 c3 m3 (Q:Int)|4=>∃(a5:Option Addr),∃(n5:Nat),∃(c5:Nat),∃(m5:Bool),∃(a6:Option Addr),∃(n6:Nat),∃(c6:Nat),∃(m6:Bool),vv = [some (.tuple #[.agg #[.slice a5 n5 c5,.bool m5],.agg #[.slice a6 n6 c6,.bool m6],.bool true])]/\IntAt yy a5 n5 c5 m5 Z/\IntAt yy a6 n6 c6 m6 Y|5=>∃(a5:Option Addr),∃(n5:Nat),∃(c5:Nat),∃(m5:Bool),∃(a6:Option Addr),∃(n6:Nat),∃(c6:Nat),∃(m6:Bool),vv = [some (.tuple #[.agg #[.slice a5 n5 c5,.bool m5],.agg #[.slice a6 n6 c6,.bool m6],.bool true])]/\IntAt yy a5 n5 c5 m5 Z/\IntAt yy a6 n6 c6 m6 Y|6=>∃(a5:Option Addr),∃(n5:Nat),∃(c5:Nat),∃(m5:Bool),vv = [some (.agg #[.slice a5 n5 c5,.bool m5])]/\IntAt yy a5 n5 c5 m5 Z|7=>∃(a6:Option Addr),∃(n6:Nat),∃(c6:Nat),∃(m6:Bool),vv = [some (.agg #[.slice a6 n6 c6,.bool m6])]/\IntAt yy a6 n6 c6 m6 Y|8=>vv = [some (.bool true)]|9=>∃(k9:Nat),∃(x0:Option Addr),∃(y0:Nat),∃(z0:Nat),∃(b0:Bool),vv = [some (.pointer (some ⟨k9,0,none⟩))]/\Slot2 yy k9 (.slice x0 y0 z0) (.bool b0)/\w.heap.size+1<k9|10=>∃(k10:Nat),∃(x0:Option Addr),∃(y0:Nat),∃(z0:Nat),∃(b0:Bool),vv = [some (.pointer (some ⟨k10,0,none⟩))]/\Slot2 yy k10 (.slice x0 y0 z0) (.bool b0)/\w.heap.size+1<k10|11=>∃(k9:Nat),∃(a5:Option Addr),∃(n5:Nat),∃(c5:Nat),∃(m5:Bool),vv = [some (.pointer (some ⟨k9,0,none⟩))]/\Slot2 yy k9 (.slice a5 n5 c5) (.bool m5)/\IntAt yy a5 n5 c5 m5 Z|12=>∃(k10:Nat),∃(a6:Option Addr),∃(n6:Nat),∃(c6:Nat),∃(m6:Bool),vv = [some (.pointer (some ⟨k10,0,none⟩))]/\Slot2 yy k10 (.slice a6 n6 c6) (.bool m6)/\IntAt yy a6 n6 c6 m6 Y|13=>vv = [some (.bool true)]|_=>True) (Bag w (fun y=>Slot2 y (w.heap.size+1) (.slice none 0 0) (.bool false)/\Slot3 y w.heap.size (.slice a n c) (.bool m) (.slice a2 n2 c2)/\RatAt y a n c m a2 n2 c2 P Q/\True)) (by kernel_rfl) (by kernel_rfl) (by kernel_rfl) BB.out.drew ?_ ?_ ?_
 · intro jj vv yw yw2 hb h
   match jj,h with
   | 0,h=>exact h
   | 1,h=>exact h
   | 2,h=>exact h
   | 3,⟨a3,n3,c3,m3,e3,g3_0⟩=>exact Exists.intro a3 (Exists.intro n3 (Exists.intro c3 (Exists.intro m3 (And.intro e3 (g3_0.below hb)))))
   | 4,⟨a5,n5,c5,m5,a6,n6,c6,m6,e4,g4_0,g4_1⟩=>exact Exists.intro a5 (Exists.intro n5 (Exists.intro c5 (Exists.intro m5 (Exists.intro a6 (Exists.intro n6 (Exists.intro c6 (Exists.intro m6 (And.intro e4 (And.intro (g4_0.below hb) (g4_1.below hb))))))))))
   | 5,⟨a5,n5,c5,m5,a6,n6,c6,m6,e5,g5_0,g5_1⟩=>exact Exists.intro a5 (Exists.intro n5 (Exists.intro c5 (Exists.intro m5 (Exists.intro a6 (Exists.intro n6 (Exists.intro c6 (Exists.intro m6 (And.intro e5 (And.intro (g5_0.below hb) (g5_1.below hb))))))))))
   | 6,⟨a5,n5,c5,m5,e6,g6_0⟩=>exact Exists.intro a5 (Exists.intro n5 (Exists.intro c5 (Exists.intro m5 (And.intro e6 (g6_0.below hb)))))
   | 7,⟨a6,n6,c6,m6,e7,g7_0⟩=>exact Exists.intro a6 (Exists.intro n6 (Exists.intro c6 (Exists.intro m6 (And.intro e7 (g7_0.below hb)))))
   | 8,h=>exact h
   | 9,⟨k9,x0,y0,z0,b0,e9,g9_0,g9_1⟩=>exact Exists.intro k9 (Exists.intro x0 (Exists.intro y0 (Exists.intro z0 (Exists.intro b0 (And.intro e9 (And.intro (g9_0.below hb) g9_1))))))
   | 10,⟨k10,x0,y0,z0,b0,e10,g10_0,g10_1⟩=>exact Exists.intro k10 (Exists.intro x0 (Exists.intro y0 (Exists.intro z0 (Exists.intro b0 (And.intro e10 (And.intro (g10_0.below hb) g10_1))))))
   | 11,⟨k9,a5,n5,c5,m5,e11,g11_0,g11_1⟩=>exact Exists.intro k9 (Exists.intro a5 (Exists.intro n5 (Exists.intro c5 (Exists.intro m5 (And.intro e11 (And.intro (g11_0.below hb) (g11_1.below hb)))))))
   | 12,⟨k10,a6,n6,c6,m6,e12,g12_0,g12_1⟩=>exact Exists.intro k10 (Exists.intro a6 (Exists.intro n6 (Exists.intro c6 (Exists.intro m6 (And.intro e12 (And.intro (g12_0.below hb) (g12_1.below hb)))))))
   | 13,h=>exact h
   | _+14,h=>exact h
 · intro ac yw hsz hdf hold hB hp;obtain⟨k9,a5,n5,c5,m5,e11,sA,hi5⟩:=hp 11 (by decide);have t3:ac.tmps[3]? = some (.pointer (some ⟨k9,0,none⟩)):=(List.cons.inj e11).1;have t2:ac.tmps[2]? = some (.pointer (some ⟨w.heap.size+1,0,none⟩)):=hold 2 (by kernel_rfl);clear hold hp e11;obtain⟨⟨l⟩,df⟩:=ac
   match l,hsz with
   | [u0,u1,u2,u3,u4,u5,u6,u7,u8,u9,u10,u11,u12,u13,u14,u15],_ =>
   obtain rfl:=Option.some.inj (show some u2=_ from t2);obtain rfl:=Option.some.inj (show some u3=_ from t3);have q0:=sA.cell;have q1:=sA.cell1;have hs:=hB.now.1;have hc:=hs.cell;have hc1:=hs.cell1;have hf:=hs.free;have hf1:=hs.free1;have HS:=hs.set (.slice a5 n5 c5) (.bool m5);have HE:=Lib.hid (IntTold.done hB.below (by omega) hs (fun _ _ h=>by cases h) hi5);clear hB sA hi5 hs;go_wp2;exact bodyPost_ret (by simp[results,Tryz.results206,go_sem,HS]) rfl HE.out
 refine Stps.cons (o:=_) ?_ ?_
 · intro ac yw hsz hold hB hp K hK;have t1:ac.tmps[1]? = some (.pointer (some ⟨w.heap.size,0,none⟩)):=hold 1 (by kernel_rfl);clear hold hp hsz;go_simp;exact hK.out _ _ ⟨hB,rfl,Nat.le_refl _,.inl (Below.refl _ _),fun h=>absurd h (by decide)⟩
 refine Stps.cons (o:=_) ?_ ?_
 · intro ac yw hsz hold hB hp K hK;have e0:=hp 0 (by decide);have t7:ac.tmps[7]? = some (.pointer (some ⟨w.heap.size,0,none⟩)):=(List.cons.inj e0).1;clear hold hp hsz e0;have⟨q0,q1,q2⟩:=hB.now.2.1.c3;go_simp;exact hK.out _ _ ⟨hB,rfl,Nat.le_refl _,.inl (Below.refl _ _),fun h=>absurd h (by decide)⟩
 refine Stps.cons (o:=_) ?_ ?_
 · intro ac yw hsz hold hB hp K hK;have t1:ac.tmps[1]? = some (.pointer (some ⟨w.heap.size,0,none⟩)):=hold 1 (by kernel_rfl);clear hold hp hsz;have⟨q0,q1,q2⟩:=hB.now.2.1.c3;go_simp;exact hK.out _ _ ⟨hB,rfl,Nat.le_refl _,.inl (Below.refl _ _),fun h=>absurd h (by decide)⟩
 refine Stps.cons (o:=_) ?_ ?_
 · intro ac yw hsz hold hB hp K hK;have e2:=hp 2 (by decide);have t9:ac.tmps[9]? = some (.agg #[.slice a n c,.bool m,.slice a2 n2 c2]):=(List.cons.inj e2).1;clear hold hp hsz e2;go_simp
   (go_at_call 123;(with_reducible refine(BL.out _ hB.now.2.2.1).mono ?_);rintro e wz ⟨a3,n3,c3,m3,rfl,h3_0,hbz⟩)
   exact hK.out _ _ ⟨hB.go hbz,Exists.intro a3 (Exists.intro n3 (Exists.intro c3 (Exists.intro m3 (And.intro rfl h3_0)))),hbz.size,.inl hbz,fun h=>absurd h (by decide)⟩
 refine Stps.cons (o:=_) ?_ ?_
 · intro ac yw hsz hold hB hp K hK;have e1:=hp 1 (by decide);have t8:ac.tmps[8]? = some (.agg #[.slice a n c,.bool m]):=(List.cons.inj e1).1;obtain⟨a3_3,n3_3,c3_3,m3_3,e3,g3_0⟩:=hp 3 (by decide);have t10:ac.tmps[10]? = some (.agg #[.slice a3_3 n3_3 c3_3,.bool m3_3]):=(List.cons.inj e3).1;clear hold hp hsz e1 e3;go_simp
   (go_at_call 230;(with_reducible refine(FL.out _ _ _ _ _ hB.now.2.2.1.int g3_0).mono ?_);rintro e wz ⟨a5,n5,c5,m5,a6,n6,c6,m6,rfl,h4_0,h4_1,hbz⟩)
   exact hK.out _ _ ⟨hB.go hbz,Exists.intro a5 (Exists.intro n5 (Exists.intro c5 (Exists.intro m5 (Exists.intro a6 (Exists.intro n6 (Exists.intro c6 (Exists.intro m6 (And.intro rfl (And.intro h4_0 h4_1))))))))),hbz.size,.inl hbz,fun h=>absurd h (by decide)⟩
 refine Stps.cons (o:=_) ?_ ?_
 · intro ac yw hsz hold hB hp K hK;obtain⟨a5_4,n5_4,c5_4,m5_4,a6_4,n6_4,c6_4,m6_4,e4,g4_0,g4_1⟩:=hp 4 (by decide);have t11:ac.tmps[11]? = some (.tuple #[.agg #[.slice a5_4 n5_4 c5_4,.bool m5_4],.agg #[.slice a6_4 n6_4 c6_4,.bool m6_4],.bool true]):=(List.cons.inj e4).1;clear hold hp hsz e4;go_simp;exact hK.out _ _ ⟨hB,Exists.intro a5_4 (Exists.intro n5_4 (Exists.intro c5_4 (Exists.intro m5_4 (Exists.intro a6_4 (Exists.intro n6_4 (Exists.intro c6_4 (Exists.intro m6_4 (And.intro rfl (And.intro g4_0 g4_1))))))))),Nat.le_refl _,.inl (Below.refl _ _),fun h=>absurd h (by decide)⟩
 refine Stps.cons (o:=_) ?_ ?_
 · intro ac yw hsz hold hB hp K hK;obtain⟨a5_5,n5_5,c5_5,m5_5,a6_5,n6_5,c6_5,m6_5,e5,g5_0,g5_1⟩:=hp 5 (by decide);have t6:ac.tmps[6]? = some (.tuple #[.agg #[.slice a5_5 n5_5 c5_5,.bool m5_5],.agg #[.slice a6_5 n6_5 c6_5,.bool m6_5],.bool true]):=(List.cons.inj e5).1;clear hold hp hsz e5;go_simp;exact hK.out _ _ ⟨hB,Exists.intro a5_5 (Exists.intro n5_5 (Exists.intro c5_5 (Exists.intro m5_5 (And.intro rfl g5_0)))),Nat.le_refl _,.inl (Below.refl _ _),fun h=>absurd h (by decide)⟩
 refine Stps.cons (o:=_) ?_ ?_
 · intro ac yw hsz hold hB hp K hK;obtain⟨a5_5,n5_5,c5_5,m5_5,a6_5,n6_5,c6_5,m6_5,e5,g5_0,g5_1⟩:=hp 5 (by decide);have t6:ac.tmps[6]? = some (.tuple #[.agg #[.slice a5_5 n5_5 c5_5,.bool m5_5],.agg #[.slice a6_5 n6_5 c6_5,.bool m6_5],.bool true]):=(List.cons.inj e5).1;clear hold hp hsz e5;go_simp;exact hK.out _ _ ⟨hB,Exists.intro a6_5 (Exists.intro n6_5 (Exists.intro c6_5 (Exists.intro m6_5 (And.intro rfl g5_1)))),Nat.le_refl _,.inl (Below.refl _ _),fun h=>absurd h (by decide)⟩
 refine Stps.cons (o:=_) ?_ ?_
 · intro ac yw hsz hold hB hp K hK;obtain⟨a5_5,n5_5,c5_5,m5_5,a6_5,n6_5,c6_5,m6_5,e5,g5_0,g5_1⟩:=hp 5 (by decide);have t6:ac.tmps[6]? = some (.tuple #[.agg #[.slice a5_5 n5_5 c5_5,.bool m5_5],.agg #[.slice a6_5 n6_5 c6_5,.bool m6_5],.bool true]):=(List.cons.inj e5).1;clear hold hp hsz e5;go_simp;exact hK.out _ _ ⟨hB,rfl,Nat.le_refl _,.inl (Below.refl _ _),fun h=>absurd h (by decide)⟩
 refine Stps.cons (o:=_) ?_ ?_
 · intro ac yw hsz hold hB hp K hK;clear hold hp hsz;have hk0:=hB.now.1.lt;have hsl:=Slot2.new yw (.slice none 0 0) (.bool false) 51;have hbz:Below yw.heap.size yw (yw.alloc (.cells #[.slice none 0 0,.bool false] 51))/\yw.heap.size<(yw.alloc (.cells #[.slice none 0 0,.bool false] 51)).heap.size:=⟨(Below.refl _ _).alloc (Nat.le_refl _) _,by simp⟩
   go_simp;exact hK.out _ _ ⟨hB.alloc _,Exists.intro yw.heap.size (Exists.intro none (Exists.intro 0 (Exists.intro 0 (Exists.intro false (And.intro rfl (And.intro hsl hk0)))))),Nat.le_of_lt hbz.2,.inl hbz.1,fun _=>⟨_,rfl,Nat.le_refl _,hbz.2⟩⟩
 refine Stps.cons (o:=_) ?_ ?_
 · intro ac yw hsz hold hB hp K hK;clear hold hp hsz;have hk0:=hB.now.1.lt;have hsl:=Slot2.new yw (.slice none 0 0) (.bool false) 51;have hbz:Below yw.heap.size yw (yw.alloc (.cells #[.slice none 0 0,.bool false] 51))/\yw.heap.size<(yw.alloc (.cells #[.slice none 0 0,.bool false] 51)).heap.size:=⟨(Below.refl _ _).alloc (Nat.le_refl _) _,by simp⟩
   go_simp;exact hK.out _ _ ⟨hB.alloc _,Exists.intro yw.heap.size (Exists.intro none (Exists.intro 0 (Exists.intro 0 (Exists.intro false (And.intro rfl (And.intro hsl hk0)))))),Nat.le_of_lt hbz.2,.inl hbz.1,fun _=>⟨_,rfl,Nat.le_refl _,hbz.2⟩⟩
 refine Stps.cons (o:=_) ?_ ?_
 · intro ac yw hsz hold hB hp K hK;obtain⟨k9_9,x0_9,y0_9,z0_9,b0_9,e9,g9_0,g9_1⟩:=hp 9 (by decide);have t3:ac.tmps[3]? = some (.pointer (some ⟨k9_9,0,none⟩)):=(List.cons.inj e9).1;obtain⟨a5_6,n5_6,c5_6,m5_6,e6,g6_0⟩:=hp 6 (by decide);have t12:ac.tmps[12]? = some (.agg #[.slice a5_6 n5_6 c5_6,.bool m5_6]):=(List.cons.inj e6).1;clear hold hp hsz e9 e6;have hs:=g9_0;have l0:=hs.cell;have l1:=hs.cell1;have f0:=hs.free;have f1:=hs.free1;have HB:=HP.out _ _ hs g9_1 hB a5_6 n5_6 c5_6 m5_6;go_simp;refine hK.out undef _ ⟨HB,Exists.intro k9_9 (Exists.intro a5_6 (Exists.intro n5_6 (Exists.intro c5_6 (Exists.intro m5_6 (And.intro (congrArg (fun x => [x]) t3) (And.intro (hs.set2 (.slice a5_6 n5_6 c5_6) (.bool m5_6)) (IntAt.set2b g6_0 hs _ _))))))),by simp,.inr ?_,fun h=>absurd h (by decide)⟩;intro jj hj hap h
   match jj,h with
   | 0,h=>exact h
   | 1,h=>exact h
   | 2,h=>exact h
   | 3,⟨a3,n3,c3,m3,e3,g3_0⟩ =>
    exact Exists.intro a3 (Exists.intro n3 (Exists.intro c3 (Exists.intro m3 (And.intro e3 (IntAt.set2b g3_0 hs _ _)))))
   | 4,⟨a5,n5,c5,m5,a6,n6,c6,m6,e4,g4_0,g4_1⟩ =>
    exact Exists.intro a5 (Exists.intro n5 (Exists.intro c5 (Exists.intro m5 (Exists.intro a6 (Exists.intro n6 (Exists.intro c6 (Exists.intro m6 (And.intro e4 (And.intro (IntAt.set2b g4_0 hs _ _) (IntAt.set2b g4_1 hs _ _))))))))))
   | 5,⟨a5,n5,c5,m5,a6,n6,c6,m6,e5,g5_0,g5_1⟩ =>
    exact Exists.intro a5 (Exists.intro n5 (Exists.intro c5 (Exists.intro m5 (Exists.intro a6 (Exists.intro n6 (Exists.intro c6 (Exists.intro m6 (And.intro e5 (And.intro (IntAt.set2b g5_0 hs _ _) (IntAt.set2b g5_1 hs _ _))))))))))
   | 6,⟨a5,n5,c5,m5,e6,g6_0⟩ =>
    exact Exists.intro a5 (Exists.intro n5 (Exists.intro c5 (Exists.intro m5 (And.intro e6 (IntAt.set2b g6_0 hs _ _)))))
   | 7,⟨a6,n6,c6,m6,e7,g7_0⟩ =>
    exact Exists.intro a6 (Exists.intro n6 (Exists.intro c6 (Exists.intro m6 (And.intro e7 (IntAt.set2b g7_0 hs _ _)))))
   | 8,h=>exact h
   | 9,⟨k9,x0,y0,z0,b0,e9,g9_0,g9_1⟩ =>
    have e9:k9=k9_9:=by have:=(List.cons.inj e9).1.symm.trans t3;cases this;rfl
    subst e9;exact Exists.intro _ (Exists.intro _ (Exists.intro _ (Exists.intro _ (Exists.intro _ (And.intro e9 (And.intro (g9_0.set2 _ _) g9_1))))))
   | 10,⟨k10,x0,y0,z0,b0,e10,g10_0,g10_1⟩ =>
    have hne:k10≠k9_9:=fun e=>hap 9 (by decide) 10 (by decide) (by decide) (by decide) (by decide) k9_9 ⟨3,rfl,t3⟩ ⟨4,rfl,e▸(List.cons.inj e10).1⟩
    exact Exists.intro k10 (Exists.intro x0 (Exists.intro y0 (Exists.intro z0 (Exists.intro b0 (And.intro e10 (And.intro (Slot2.set2o g10_0 hne _ _) g10_1))))))
   | 11,_=>exact absurd rfl hj
   | 12,⟨k10,a6,n6,c6,m6,e12,g12_0,g12_1⟩ =>
    have hne:k10≠k9_9:=fun e=>hap 9 (by decide) 10 (by decide) (by decide) (by decide) (by decide) k9_9 ⟨3,rfl,t3⟩ ⟨4,rfl,e▸(List.cons.inj e12).1⟩
    exact Exists.intro k10 (Exists.intro a6 (Exists.intro n6 (Exists.intro c6 (Exists.intro m6 (And.intro e12 (And.intro (Slot2.set2o g12_0 hne _ _) (IntAt.set2b g12_1 hs _ _)))))))
   | 13,h=>exact h
   | _+14,h=>exact h
 refine Stps.cons (o:=_) ?_ ?_
 · intro ac yw hsz hold hB hp K hK;obtain⟨k10_10,x0_10,y0_10,z0_10,b0_10,e10,g10_0,g10_1⟩:=hp 10 (by decide);have t4:ac.tmps[4]? = some (.pointer (some ⟨k10_10,0,none⟩)):=(List.cons.inj e10).1;obtain⟨a6_7,n6_7,c6_7,m6_7,e7,g7_0⟩:=hp 7 (by decide);have t13:ac.tmps[13]? = some (.agg #[.slice a6_7 n6_7 c6_7,.bool m6_7]):=(List.cons.inj e7).1;clear hold hp hsz e10 e7;have hs:=g10_0;have l0:=hs.cell;have l1:=hs.cell1;have f0:=hs.free;have f1:=hs.free1;have HB:=HP.out _ _ hs g10_1 hB a6_7 n6_7 c6_7 m6_7;go_simp;refine hK.out undef _ ⟨HB,Exists.intro k10_10 (Exists.intro a6_7 (Exists.intro n6_7 (Exists.intro c6_7 (Exists.intro m6_7 (And.intro (congrArg (fun x => [x]) t4) (And.intro (hs.set2 (.slice a6_7 n6_7 c6_7) (.bool m6_7)) (IntAt.set2b g7_0 hs _ _))))))),by simp,.inr ?_,fun h=>absurd h (by decide)⟩;intro jj hj hap h
   match jj,h with
   | 0,h=>exact h
   | 1,h=>exact h
   | 2,h=>exact h
   | 3,⟨a3,n3,c3,m3,e3,g3_0⟩ =>
    exact Exists.intro a3 (Exists.intro n3 (Exists.intro c3 (Exists.intro m3 (And.intro e3 (IntAt.set2b g3_0 hs _ _)))))
   | 4,⟨a5,n5,c5,m5,a6,n6,c6,m6,e4,g4_0,g4_1⟩ =>
    exact Exists.intro a5 (Exists.intro n5 (Exists.intro c5 (Exists.intro m5 (Exists.intro a6 (Exists.intro n6 (Exists.intro c6 (Exists.intro m6 (And.intro e4 (And.intro (IntAt.set2b g4_0 hs _ _) (IntAt.set2b g4_1 hs _ _))))))))))
   | 5,⟨a5,n5,c5,m5,a6,n6,c6,m6,e5,g5_0,g5_1⟩ =>
    exact Exists.intro a5 (Exists.intro n5 (Exists.intro c5 (Exists.intro m5 (Exists.intro a6 (Exists.intro n6 (Exists.intro c6 (Exists.intro m6 (And.intro e5 (And.intro (IntAt.set2b g5_0 hs _ _) (IntAt.set2b g5_1 hs _ _))))))))))
   | 6,⟨a5,n5,c5,m5,e6,g6_0⟩ =>
    exact Exists.intro a5 (Exists.intro n5 (Exists.intro c5 (Exists.intro m5 (And.intro e6 (IntAt.set2b g6_0 hs _ _)))))
   | 7,⟨a6,n6,c6,m6,e7,g7_0⟩ =>
    exact Exists.intro a6 (Exists.intro n6 (Exists.intro c6 (Exists.intro m6 (And.intro e7 (IntAt.set2b g7_0 hs _ _)))))
   | 8,h=>exact h
   | 9,⟨k9,x0,y0,z0,b0,e9,g9_0,g9_1⟩ =>
    have hne:k9≠k10_10:=fun e=>hap 10 (by decide) 9 (by decide) (by decide) (by decide) (by decide) k10_10 ⟨4,rfl,t4⟩ ⟨3,rfl,e▸(List.cons.inj e9).1⟩
    exact Exists.intro k9 (Exists.intro x0 (Exists.intro y0 (Exists.intro z0 (Exists.intro b0 (And.intro e9 (And.intro (Slot2.set2o g9_0 hne _ _) g9_1))))))
   | 10,⟨k10,x0,y0,z0,b0,e10,g10_0,g10_1⟩ =>
    have e9:k10=k10_10:=by have:=(List.cons.inj e10).1.symm.trans t4;cases this;rfl
    subst e9;exact Exists.intro _ (Exists.intro _ (Exists.intro _ (Exists.intro _ (Exists.intro _ (And.intro e10 (And.intro (g10_0.set2 _ _) g10_1))))))
   | 11,⟨k9,a5,n5,c5,m5,e11,g11_0,g11_1⟩ =>
    have hne:k9≠k10_10:=fun e=>hap 10 (by decide) 9 (by decide) (by decide) (by decide) (by decide) k10_10 ⟨4,rfl,t4⟩ ⟨3,rfl,e▸(List.cons.inj e11).1⟩
    exact Exists.intro k9 (Exists.intro a5 (Exists.intro n5 (Exists.intro c5 (Exists.intro m5 (And.intro e11 (And.intro (Slot2.set2o g11_0 hne _ _) (IntAt.set2b g11_1 hs _ _)))))))
   | 12,_=>exact absurd rfl hj
   | 13,h=>exact h
   | _+14,h=>exact h
 refine Stps.cons (o:=_) ?_ ?_
 · intro ac yw hsz hold hB hp K hK;have e8:=hp 8 (by decide);have t14:ac.tmps[14]? = some (.bool true):=(List.cons.inj e8).1;clear hold hp hsz e8;go_simp;exact hK.out _ _ ⟨hB,rfl,Nat.le_refl _,.inl (Below.refl _ _),fun h=>absurd h (by decide)⟩
 exact Stps.nil _
theorem ratCeil_any (a : Option Addr) (n c : Nat) (m : Bool) (a2 : Option Addr) (n2 c2 : Nat) (P : Int) (Q : Nat) (w : World) (h : RatAt w a n c m a2 n2 c2 P Q) (hQ : 0 < Q) (K : Nat) (hK : K <= 800000) (h1 : P.natAbs < 4294967296 ^ K) :
    Calls Tryz.prog 205 #[.agg #[.slice a n c,.bool m,.slice a2 n2 c2]] w fun e w'=>IntTold w w' e (-(flQ (-P) Q)):=by
 have BB:=Lib.hid (((Bag.start w).rat h).box3 (.slice a n c) (.bool m) (.slice a2 n2 c2) 53 |>.box2 (.slice none 0 0) (.bool false) 51);simp only[World.size_alloc]at BB;have MN:=Lib.hid (fun wz hz=>ratMinus_any a n c m a2 n2 c2 P Q wz hz);have FL:=Lib.hid (fun a n c m a2 n2 c2 wz hz=>ratFloor_any a n c m a2 n2 c2 (-P) Q wz hz hQ K hK (by rw[Int.natAbs_neg];exact h1));generalize flQ (-P) (Q:Int)=Z at *;have MZ:=Lib.hid (fun a n c m wz (h:IntAt wz a n c m Z)=>minus_any a n c m Z wz h);clear h hQ h1;go_enter Tryz.func205,Tryz.ntmps205;go_wp2_with fail;go_at_call 179;refine(MN.out _ BB.out.now.2.2.1).mono ?_;rintro e w2 ⟨a3,n3,c3,m3,a4,n4,c4,rfl,hr,hb2⟩;have BB:=bgo BB hb2;go_wp2_with fail;go_at_call 206;refine(FL.out _ _ _ _ _ _ _ _ hr).mono ?_;rintro e w3 ⟨a5,n5,c5,m5,rfl,hi,hb3⟩;have BB:=bgo BB hb3;go_wp2_with fail;go_at_call 222;refine(MZ.out _ _ _ _ _ hi).mono ?_;rintro e w4 ⟨a6,n6,c6,m6,rfl,hi4,hb4⟩;have BB:=bgo BB hb4;have hs:=BB.out.now.1;have hc:=hs.cell;have hc1:=hs.cell1;have hf:=hs.free;have hf1:=hs.free1;have HS:=hs.set (.slice a6 n6 c6) (.bool m6);have HE:=Lib.hid (IntTold.done BB.out.below (by omega) hs (fun _ _ h=>by cases h) hi4);clear hs hi4;go_wp2;exact bodyPost_ret (by simp[results,Tryz.results205,go_sem,HS]) rfl HE.out
theorem flQ_abs(P:Int)(Q:Int):(flQ P Q).natAbs<=P.natAbs+1:=by
 unfold flQ;rw[sgn_abs];have:=Nat.div_le_self P.natAbs Q.natAbs;split<;>omega
def ElSameP(ch:Bool)(L:Nat)(fP:Nat->Int)(fQ:Nat->Nat)(fB:Nat->Bool)(fS fT:Nat->ByteArray):Prop:=SmallP ch L fP fQ/\∀j,j<nnO ch L->rB (fP j)=fB j/\rS (fP j)=fS j/\str (dec (fQ j))=fT j
theorem showsNoP_any (E : Int) (hE : E ≠ 0) (sa : Option Addr) (sn sc : Nat) (ch : Bool) (ta : Option Addr) (tn tc : Nat) (na : Option Addr) (nn nc : Nat) (w : World) :
    Calls Tryz.prog 26 #[.agg zerC,.int .i64 E,.agg (plC sa sn sc ch ta tn tc na nn nc),.int .i64 E] w fun e w'=>e=.returned (.bool true)/\Below w.heap.size w w':=by
 have LZ:=Lib.hid (fun wz=>lenZ_any wz);have BB:=Lib.hid (((Bag.start w).newRow zerC 36).newRow (plC sa sn sc ch ta tn tc na nn nc) 26);simp only[World.size_alloc]at BB;have HR:=Lib.hid BB.out.now.2.1;have d1:(E != E)=false:=bne_self_eq_false _;have d2:(E != 0)=true:=bne_iff_ne.2 hE;clear hE;unfold zerC arrC plC;unfold zerC at LZ;unfold zerC at HR;go_enter Tryz.func26,Tryz.ntmps26
 go_wp2_with (refine ld_arr rfl (.tmp 4) rfl w.heap.size rfl HR.out ?_)
 go_at_call 51;refine(LZ.out _).mono ?_;rintro e w2 ⟨rfl,hb2⟩;have HE:=Lib.hid (BB.out.go hb2).below;clear hb2;go_wp2;go_ret;exact⟨rfl,HE.out⟩
theorem showsP_any (x p : Array Value) (E : Int) (S : Nat -> Int) (r : Nat) (ch : Bool) (L : Nat) (g fP : Nat -> Int) (fQ : Nat -> Nat) (fB : Nat -> Bool) (fS fT : Nat -> ByteArray) (w : World) (h : MoR w x E S r ch L g fP fQ) (hp : PoR w p E S r ch L g fB fS fT) (hr : E = 0 -> r <= 8 /\ L <= 1000000) (he : ElSameP ch L fP fQ fB fS fT) :
    Calls Tryz.prog 26 #[.agg x,.int .i64 E,.agg p,.int .i64 E] w fun e w'=>e=.returned (.bool true)/\Below w.heap.size w w':=by
 by_cases hE:E=0
 · subst hE;exact showsOkP_any x p w ⟨S,r,ch,L,g,fP,fQ,S,g,fB,fS,fT,h.2.1 rfl,hp.2 rfl,(hr rfl).1,(hr rfl).2,he.1,fun _ _=>rfl,fun _ _=>rfl,he.2⟩
 · rw[h.2.2 hE];obtain⟨⟨sa,sn,sc,ch,ta,tn,tc,na,nn,nc,rfl⟩,_⟩:=hp;exact showsNoP_any E hE _ _ _ _ _ _ _ _ _ _ w
end Go.Proofs.YtdmmenaejkpnjaaGreatDoor
