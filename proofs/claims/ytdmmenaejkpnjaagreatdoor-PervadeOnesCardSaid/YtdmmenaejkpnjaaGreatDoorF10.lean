/-
  Texts of this seat, laid together.
-/
import Derived.Laws.StructEq
import Derived.ChangeKeysEq
import Derived.Test.YtdmmenaejkpnjaaGreatDoorF8
import Derived.Test.YtdmmenaejkpnjaaGreatDoorF9
set_option maxHeartbeats 12800000
set_option maxRecDepth 100000
set_option linter.unusedSimpArgs false
set_option linter.unusedVariables false
namespace Go.Proofs.YtdmmenaejkpnjaaGreatDoor
open Go.RowKit
attribute [local go_sem ↓] Go.wp_at_zero Go.wp_at_succ
def ofK(s t:ByteArray):Bool:=okB s.data.toList&&okB t.data.toList && !decide (numOf t.data.toList=0)
def ofP(b:Bool)(s t:ByteArray):Int:=loP (sgn b (numOf s.data.toList)) (numOf t.data.toList)
def ofQ(b:Bool)(s t:ByteArray):Nat:=loQ (sgn b (numOf s.data.toList)) (numOf t.data.toList)
theorem of_some (b : Bool) (s t : ByteArray) (w : World) (hs : s.size <= 60) (ht : t.size <= 60) (hk : ofK s t = true) (x : Bool) (hx : x = decide (rB (ofP b s t) = b /\ rS (ofP b s t) = s /\ str (dec (ofQ b s t)) = t)) :
    Calls Tryz.prog 55 #[.agg #[.bool b,.string s,.string t]] w fun e w'=>RatTold3 w w' e (if x then ofP b s t else 0) (if x then ofQ b s t else 1) x:=by
 have B0:=(Bag.start w).box3 (.bool b) (.string s) (.string t) 46 |>.box3 (.slice none 0 0) (.bool false) (.slice none 0 0) 53
 simp only[World.size_alloc]at B0;unfold ofK at hk;rw[Bool.and_eq_true,Bool.and_eq_true]at hk;obtain⟨⟨hk1,hk2⟩,hk3⟩:=hk
 have hM:0<numOf t.data.toList:=by
  rw[Bool.not_eq_true',decide_eq_false_iff_not]at hk3;omega
 have RS1:=Lib.hid (fun wz=>ratRead_yes s wz (by omega) hk1);have RS2:=Lib.hid (fun wz=>ratRead_yes t wz (by omega) hk2);unfold SubOf3 at RS1 RS2
 have hsz:∀u:ByteArray,u.size<=60->okB u.data.toList=true->numOf u.data.toList<10^60:=fun u hu hok=>by
  obtain⟨g1,g2,g3⟩:=okB_digs hok;have h2:u.data.toList.length=u.size:=rfl;exact Nat.lt_of_lt_of_le (numOf_lt _ g3) (Nat.pow_le_pow_right (by omega) (by omega))
 have hN1:=hsz s hs hk1;have hM1:=hsz t ht hk2;have h10:(10:Nat)^60<4294967296^7:=by decide
 have ZE:=Lib.hid (fun a n c wz (h:NatIs wz (.agg #[.slice a n c]) (numOf t.data.toList))=>zero_any _ _ wz h);rw[decide_eq_false (show ¬numOf t.data.toList=0 by omega)]at ZE;have OF:=Lib.hid (fun a n c wz (h:NatIs wz (.agg #[.slice a n c]) (numOf s.data.toList))=>wof_any b a n c _ wz h);have LW:=Lib.hid (fun a n c m a2 n2 c2 wz (h:IntAt wz a n c m (sgn b (numOf s.data.toList))) (g:NatIs wz (.agg #[.slice a2 n2 c2]) (numOf t.data.toList))=>lowest_any a n c m _ a2 n2 c2 _ wz h g hM 7 (by omega) (by rw[sgn_abs];omega) (by omega));rw[show loP (sgn b (numOf s.data.toList)) (numOf t.data.toList)=ofP b s t from rfl,show loQ (sgn b (numOf s.data.toList)) (numOf t.data.toList)=ofQ b s t from rfl]at LW;have hQ0:0<ofQ b s t:=loQ_pos _ hM;have hP7:(ofP b s t).natAbs<4294967296^7:=Nat.lt_of_le_of_lt (loP_absle _ _) (by rw[sgn_abs];omega);have hQ7:ofQ b s t<4294967296^7:=Nat.lt_of_le_of_lt (loQ_le _ _) (by omega);have NM:=Lib.hid (fun a n c m a2 n2 c2 wz hz=>num_any a n c m a2 n2 c2 (ofP b s t) (ofQ b s t) wz hz hQ0 7 (by omega) hP7 hQ7);unfold NumTold at NM;generalize ofP b s t=P at *;generalize ofQ b s t=Q at *;obtain⟨pb,hpb⟩:∃pb,rB P=pb:=⟨_,rfl⟩
 obtain⟨ps,hps⟩:∃ps,rS P=ps:=⟨_,rfl⟩
 obtain⟨pt,hpt⟩:∃pt,str (dec Q)=pt:=⟨_,rfl⟩
 rw[hpb,hps,hpt]at NM hx;obtain⟨v1,hv1⟩:∃v,(pb==b)=v:=⟨_,rfl⟩
 obtain⟨v2,hv2⟩:∃v,(ps.toList==s.toList)=v:=⟨_,rfl⟩
 obtain⟨v3,hv3⟩:∃v,(pt.toList==t.toList)=v:=⟨_,rfl⟩
 have hbl:∀u v:ByteArray,u.toList=v.toList↔u=v:=fun u v=>⟨fun h=>by rw[ByteArray.toList_eq,ByteArray.toList_eq]at h;exact ByteArray.ext (Array.toList_inj.1 h),fun h=>by rw[h]⟩
 have hx2:x=(v1&&(v2&&v3)):=by
  rw[hx,Bool.eq_iff_iff,decide_eq_true_eq,Bool.and_eq_true,Bool.and_eq_true,← hv1,← hv2,← hv3,beq_iff_eq,beq_iff_eq,beq_iff_eq,hbl,hbl]
 subst hx2;clear hx hpb hps hpt hbl;have BB:=Lib.hid B0;have⟨q0,q1,q2⟩:=B0.now.2.1.c3;clear B0 hs ht hk1 hk2 hk3 hM hsz hN1 hM1 h10 hQ0 hP7 hQ7;go_enter Tryz.func55,Tryz.ntmps55
 go_wp2_with (first
  | (go_at_call 113;(with_reducible refine(RS1.out _).mono ?_);rintro e w2 ⟨a3,n3,c3,rfl,hn3,hb2⟩;have hk2:=(BB.out.go hb2).now.1.lt;have BB:=Lib.hid (((BB.out.go hb2).nat hn3).box (.slice a3 n3 c3) 49);clear hb2 hn3;have q0:=BB.out.now.2.2.2.1.cell;have q1:=BB.out.now.2.2.2.1.cell1;have q2:=BB.out.now.2.2.2.1.cell2)
  | (go_at_call 113;(with_reducible refine(RS2.out _).mono ?_);rintro e w3 ⟨a4,n4,c4,rfl,hn4,hb3⟩;have hk3:=(BB.out.go hb3).now.1.lt;have BB:=Lib.hid (((BB.out.go hb3).nat hn4).box (.slice a4 n4 c4) 49);clear hb3 hn4;have q3:=BB.out.now.1.cell)
  | (go_at_call 114;(with_reducible refine(ZE.out _ _ _ _ BB.out.now.2.1).mono ?_);rintro e w4 ⟨rfl,hb4⟩;have BB:=Lib.hid (BB.out.go hb4);clear hb4;have q0:=BB.out.now.2.2.2.2.2.1.cell;have q1:=BB.out.now.2.2.2.2.2.1.cell1;have q2:=BB.out.now.2.2.2.2.2.1.cell2;have q3:=BB.out.now.1.cell;have q4:=BB.out.now.2.2.1.cell))
 have HP:Hid (∀(y:World) (k:Nat),Slot3 y k (.slice none 0 0) (.bool false) (.slice none 0 0)->w3.heap.size<k->Bag w (fun y=>Slot y w3.heap.size (.slice a4 n4 c4)/\NatIs y (.agg #[.slice a4 n4 c4]) (numOf t.data.toList)/\Slot y w2.heap.size (.slice a3 n3 c3)/\NatIs y (.agg #[.slice a3 n3 c3]) (numOf s.data.toList)/\Slot3 y (w.heap.size+1) (.slice none 0 0) (.bool false) (.slice none 0 0)/\Slot3 y w.heap.size (.bool b) (.string s) (.string t)/\True) y->∀(a9:Option Addr) (n9 c9:Nat) (m9:Bool) (a10:Option Addr) (n10 c10:Nat),Bag w (fun y=>Slot y w3.heap.size (.slice a4 n4 c4)/\NatIs y (.agg #[.slice a4 n4 c4]) (numOf t.data.toList)/\Slot y w2.heap.size (.slice a3 n3 c3)/\NatIs y (.agg #[.slice a3 n3 c3]) (numOf s.data.toList)/\Slot3 y (w.heap.size+1) (.slice none 0 0) (.bool false) (.slice none 0 0)/\Slot3 y w.heap.size (.bool b) (.string s) (.string t)/\True) (((y.setCell ⟨k,0,none⟩ (.slice a9 n9 c9)).setCell ⟨k,1,none⟩ (.bool m9)).setCell ⟨k,2,none⟩ (.slice a10 n10 c10))):=by
  intro y k s hk B a9 n9 c9 m9 a10 n10 c10;have hx:∀(x:Option Addr) (y z:Nat) (ki:IntKind) (i:Int),(Value.slice x y z) ≠ .int ki i:=fun _ _ _ _ _ h=>by cases h
  have hb:∀(x:Bool) (ki:IntKind) (i:Int),(Value.bool x) ≠ .int ki i:=fun _ _ _ h=>by cases h
  have q:=B.now;exact⟨((B.below.setCell (p:=⟨k,0,none⟩) (show w.heap.size<=k by omega) _).setCell (p:=⟨k,1,none⟩) (show w.heap.size<=k by omega) _).setCell (p:=⟨k,2,none⟩) (show w.heap.size<=k by omega) _,B.stay,q.1.set3o (by omega) _ _ _,q.2.1.set3 s (hx _ _ _) (hb _) (hx _ _ _) _ _ _,q.2.2.1.set3o (by omega) _ _ _,q.2.2.2.1.set3 s (hx _ _ _) (hb _) (hx _ _ _) _ _ _,q.2.2.2.2.1.set3o (by omega) _ _ _,q.2.2.2.2.2.1.set3o (by omega) _ _ _,trivial⟩
 have HC:Hid (∀y,(fun y=>Slot y w3.heap.size (.slice a4 n4 c4)/\NatIs y (.agg #[.slice a4 n4 c4]) (numOf t.data.toList)/\Slot y w2.heap.size (.slice a3 n3 c3)/\NatIs y (.agg #[.slice a3 n3 c3]) (numOf s.data.toList)/\Slot3 y (w.heap.size+1) (.slice none 0 0) (.bool false) (.slice none 0 0)/\Slot3 y w.heap.size (.bool b) (.string s) (.string t)/\True) y->((y.cell? ⟨w.heap.size,0,none⟩=some (.bool b)/\y.cell? ⟨w.heap.size,1,none⟩=some (.string s)/\y.cell? ⟨w.heap.size,2,none⟩=some (.string t))/\y.cell? ⟨w2.heap.size,0,none⟩=some (.slice a3 n3 c3)/\y.cell? ⟨w3.heap.size,0,none⟩=some (.slice a4 n4 c4))):=fun y h=>⟨⟨h.2.2.2.2.2.1.cell,h.2.2.2.2.2.1.cell1,h.2.2.2.2.2.1.cell2⟩,h.2.2.1.cell,h.1.cell⟩
 refine wp_capture (fun R hR => ?_)
 have TL:∀(k8:Nat) (a5:Option Addr) (n5 c5:Nat) (m5:Bool) (a6:Option Addr) (n6 c6:Nat) (m6:Bool) (a7:Option Addr) (n7 c7:Nat) (wy:World),Bag w (fun y=>Slot y w3.heap.size (.slice a4 n4 c4)/\NatIs y (.agg #[.slice a4 n4 c4]) (numOf t.data.toList)/\Slot y w2.heap.size (.slice a3 n3 c3)/\NatIs y (.agg #[.slice a3 n3 c3]) (numOf s.data.toList)/\Slot3 y (w.heap.size+1) (.slice none 0 0) (.bool false) (.slice none 0 0)/\Slot3 y w.heap.size (.bool b) (.string s) (.string t)/\True) wy->Slot3 wy k8 (.slice a6 n6 c6) (.bool m6) (.slice a7 n7 c7)->RatAt wy a6 n6 c6 m6 a7 n7 c7 P Q->R .normal { tmps:=#[Value.agg #[Value.bool b,Value.string s,Value.string t],Value.pointer (some { block:=w.heap.size,off:=0 }),Value.pointer (some { block:=w.heap.size+1,off:=0 }),Value.bool false,Value.pointer (some { block:=w2.heap.size,off:=0 }),Value.bool true,Value.pointer (some { block:=w3.heap.size,off:=0 }),Value.bool true,Value.pointer (some { block:=k8,off:=0 }),Value.tuple #[Value.agg #[Value.slice a3 n3 c3],Value.bool true],Value.pointer (some { block:=w.heap.size,off:=1 }),Value.string s,Value.tuple #[Value.agg #[Value.slice a3 n3 c3],Value.bool true],Value.agg #[Value.slice a3 n3 c3],Value.bool true,Value.tuple #[Value.agg #[Value.slice a4 n4 c4],Value.bool true],Value.pointer (some { block:=w.heap.size,off:=2 }),Value.string t,Value.tuple #[Value.agg #[Value.slice a4 n4 c4],Value.bool true],Value.agg #[Value.slice a4 n4 c4],Value.bool true,Value.bool true,Value.bool false,Value.bool false,Value.bool true,Value.bool false,Value.bool false,Value.bool false,Value.agg #[Value.slice a4 n4 c4],Value.bool false,Value.bool false,undef,Value.pointer (some { block:=w.heap.size,off:=0 }),Value.bool b,Value.agg #[Value.slice a3 n3 c3],Value.agg #[Value.slice a5 n5 c5,Value.bool m5],Value.agg #[Value.slice a4 n4 c4],Value.agg #[Value.slice a6 n6 c6,Value.bool m6,Value.slice a7 n7 c7],undef,undef,undef,undef,undef,undef],defers := [] } wy:=by
  intro k8 a5 n5 c5 m5 a6 n6 c6 m6 a7 n7 c7 wy B1 sA hr5;rw[hR];have BB:=Lib.hid ((B1.slot3 sA).rat hr5);have⟨q0,q1,q2⟩:=BB.out.now.2.1.c3;clear B1 sA hr5;have BB:=Lib.hid BB.out.drew
  cases v1<;>cases v2<;>cases v3
  all_goals
   go_wp2_with fail
   go_region_held3 (fun y => (y.cell? ⟨k8, 0, none⟩ = some (.slice a6 n6 c6) /\ y.cell? ⟨k8, 1, none⟩ = some (.bool m6) /\ y.cell? ⟨k8, 2, none⟩ = some (.slice a7 n7 c7)) /\ y.cell? ⟨w.heap.size, 0, none⟩ = some (.bool b) /\ y.cell? ⟨w.heap.size, 1, none⟩ = some (.string s) /\ y.cell? ⟨w.heap.size, 2, none⟩ = some (.string t))
    (exact⟨⟨BB.out.now.2.1.cell,BB.out.now.2.1.cell1,BB.out.now.2.1.cell2⟩,BB.out.now.2.2.2.2.2.2.2.1.cell,BB.out.now.2.2.2.2.2.2.2.1.cell1,BB.out.now.2.2.2.2.2.2.2.1.cell2⟩)
    (first
      | (go_at_call 21;(with_reducible refine(NM.out _ _ _ _ _ _ _ _ BB.out.now.1).mono ?_);rintro e w9 ⟨rfl,hb9⟩;have BB:=Lib.hid (BB.out.go hb9)))
  all_goals
   have⟨q0,q1,q2⟩:=BB.out.now.2.1.c3;have hs9:=BB.out.now.2.2.2.2.2.2.1;have⟨u0,u1,u2,g0,g1,g2⟩:=hs9.s6
   first
    | (have HS := hs9.set (.slice a6 n6 c6) (.bool m6) (.slice a7 n7 c7)
       have HE:=Lib.hid (RatTold3.done true BB.out.below (show w.heap.size<=w.heap.size+1 by omega) hs9 BB.out.now.1);go_wp2
       exact bodyPost_ret (v:=.tuple #[.agg #[.slice a6 n6 c6,.bool m6,.slice a7 n7 c7],.bool true]) (by simp[results,Tryz.results55,go_sem,HS]) rfl HE.out)
    | (have HS := hs9.set (.slice none 0 0) (.bool false) (.slice none 0 0)
       have HE:=Lib.hid (RatTold3.done false BB.out.below (show w.heap.size<=w.heap.size+1 by omega) hs9 (RatAt.zero _));go_wp2
       exact bodyPost_ret (v:=.tuple #[.agg #[.slice none 0 0,.bool false,.slice none 0 0],.bool false]) (by simp[results,Tryz.results55,go_sem,HS]) rfl HE.out)
 refine wp_region_noPanic ?_
 refine wp_region_held_drew (S:=(fun y=>((y.cell? ⟨w.heap.size,0,none⟩=some (.bool b)/\y.cell? ⟨w.heap.size,1,none⟩=some (.string s)/\y.cell? ⟨w.heap.size,2,none⟩=some (.string t))/\y.cell? ⟨w2.heap.size,0,none⟩=some (.slice a3 n3 c3)/\y.cell? ⟨w3.heap.size,0,none⟩=some (.slice a4 n4 c4))/\Bag w (fun y=>Slot y w3.heap.size (.slice a4 n4 c4)/\NatIs y (.agg #[.slice a4 n4 c4]) (numOf t.data.toList)/\Slot y w2.heap.size (.slice a3 n3 c3)/\NatIs y (.agg #[.slice a3 n3 c3]) (numOf s.data.toList)/\Slot3 y (w.heap.size+1) (.slice none 0 0) (.bool false) (.slice none 0 0)/\Slot3 y w.heap.size (.bool b) (.string s) (.string t)/\True) y)) (by kernel_rfl) ?_ (fun _ => ?_)
 · exact(have B9:=BB.out.drew;⟨HC.out _ B9.now,B9⟩)
 have hH:((w4.drew.cell? ⟨w.heap.size,0,none⟩=some (.bool b)/\w4.drew.cell? ⟨w.heap.size,1,none⟩=some (.string s)/\w4.drew.cell? ⟨w.heap.size,2,none⟩=some (.string t))/\w4.drew.cell? ⟨w2.heap.size,0,none⟩=some (.slice a3 n3 c3)/\w4.drew.cell? ⟨w3.heap.size,0,none⟩=some (.slice a4 n4 c4))/\Bag w (fun y=>Slot y w3.heap.size (.slice a4 n4 c4)/\NatIs y (.agg #[.slice a4 n4 c4]) (numOf t.data.toList)/\Slot y w2.heap.size (.slice a3 n3 c3)/\NatIs y (.agg #[.slice a3 n3 c3]) (numOf s.data.toList)/\Slot3 y (w.heap.size+1) (.slice none 0 0) (.bool false) (.slice none 0 0)/\Slot3 y w.heap.size (.bool b) (.string s) (.string t)/\True) w4.drew:=(have B9:=BB.out.drew;⟨HC.out _ B9.now,B9⟩)
 generalize hw1:w4.drew=w1 at *;refine wpAnyH_take (i:=0) (oi:=⟨some 32,Op.fieldAddr 46 (Operand.tmp 1) 0,0,_,_,none⟩) (v := ?v1) rfl (by kernel_rfl) (by kernel_rfl) (by kernel_rfl) (fun _ _ _ h=>h) (Or.inl ⟨by rfl,?hy1⟩) hH ?_
 case hy1 =>
  intro y hy
  (try dsimp only at hy)
  go_simp
  try with_reducible rfl
 try simp only[Act.put,lsa,lsz,lsc]
 refine wpAnyH_take (i:=1) (oi:=⟨some 33,Op.load 4 (Operand.tmp 32),4,_,_,none⟩) (v := ?v2) rfl (by kernel_rfl) (by kernel_rfl) (by kernel_rfl) (fun _ _ _ h=>h) (Or.inl ⟨by rfl,?hy2⟩) hH ?_
 case hy2 =>
  intro y hy
  (try dsimp only at hy)
  go_simp
  try with_reducible rfl
 try simp only[Act.put,lsa,lsz,lsc]
 refine wpAnyH_take (i:=2) (oi:=⟨some 34,Op.load 49 (Operand.tmp 4),49,_,_,none⟩) (v := ?v3) rfl (by kernel_rfl) (by kernel_rfl) (by kernel_rfl) (fun _ _ _ h=>h) (Or.inl ⟨by rfl,?hy3⟩) hH ?_
 case hy3 =>
  intro y hy
  (try dsimp only at hy)
  go_simp
  try with_reducible rfl
 try simp only[Act.put,lsa,lsz,lsc]
 refine wpAnyH_take (i:=4) (oi:=⟨some 36,Op.load 49 (Operand.tmp 6),49,_,_,none⟩) (v := ?v4) rfl (by kernel_rfl) (by kernel_rfl) (by kernel_rfl) (fun _ _ _ h=>h) (Or.inl ⟨by rfl,?hy4⟩) hH ?_
 case hy4 =>
  intro y hy
  (try dsimp only at hy)
  go_simp
  try with_reducible rfl
 try simp only[Act.put,lsa,lsz,lsc]
 refine wpAnyH_ready (rs := [3,6]) (by kernel_rfl) (by simp) ?_
 refine AllReadyH.cons rfl (fun K hK => ?_) ?_
 · go_simp
   (go_at_call 116;(with_reducible refine(OF.out _ _ _ _ hH.2.now.2.2.2.1).mono ?_);rintro e wy3 ⟨a5,n5,c5,m5,rfl,hi5,hbz⟩)
   refine hK.out _ _ ?_ (fun hH => ?_)
   · exact(have B9:=Bag.go hH.2 hbz;⟨HC.out _ B9.now,B9⟩)
   clear hK K
   try simp only[Act.put,lsa,lsz,lsc]
   refine wpAnyH_ready (rs := [5,6]) (by kernel_rfl) (by simp) ?_
   refine AllReadyH.cons rfl (fun K hK => ?_) ?_
   · go_simp
     (go_at_call 115;(with_reducible refine(LW.out _ _ _ _ _ _ _ _ (IntAt.below hi5 (by exact Below.refl _ _)) hH.2.now.2.1).mono ?_);rintro e wy5 ⟨a6,n6,c6,m6,a7,n7,c7,rfl,hr5,hbz⟩)
     refine hK.out _ _ ?_ (fun hH => ?_)
     · exact(have B9:=Bag.go hH.2 hbz;⟨HC.out _ B9.now,B9⟩)
     clear hK K
     try simp only[Act.put,lsa,lsz,lsc]
     refine wpAnyH_ready (rs := [6]) (by kernel_rfl) (by simp) ?_;refine AllReadyH.cons rfl (fun K hK => ?_) AllReadyH.nil;have hkA:=hH.2.now.1.lt;have sA:=Slot3.new wy5 (.slice none 0 0) (.bool false) (.slice none 0 0) 53;go_simp
     refine hK.out _ _ ?_ (fun hH => ?_)
     · exact(have B9:=Bag.alloc hH.2 _;⟨HC.out _ B9.now,B9⟩)
     clear hK K
     try simp only[Act.put,lsa,lsz,lsc]
     refine wpAnyH_ready (rs := [7]) (by kernel_rfl) (by simp) ?_;refine AllReadyH.cons (o:=⟨none,Op.store 53 (Operand.tmp 8) (Operand.tmp 37),0,_,_,none⟩) rfl (fun K hK => ?_) AllReadyH.nil;have hr5:=hr5.below (show Below wy5.heap.size wy5 (World.alloc wy5 (.cells #[.slice none 0 0,.bool false,.slice none 0 0] 53))from by refine Below.more ?_ _;exact Below.refl _ _);generalize hww:(World.alloc wy5 (.cells #[.slice none 0 0,.bool false,.slice none 0 0] 53))=ww at *;have⟨l0,l1,l2,f0,f1,f2⟩:=sA.s6;have B9s:=HP.out _ _ sA (by omega) hH.2 a6 n6 c6 m6 a7 n7 c7;have hr5:=RatAt.set3 hr5 sA (.slice a6 n6 c6) (.bool m6) (.slice a7 n7 c7);have sA:=(sA.set2 (.slice a6 n6 c6) (.bool m6)).set1 (.slice a7 n7 c7);go_simp
     refine hK.out _ _ ?_ (fun hH => ?_)
     · exact⟨HC.out _ B9s.now,B9s⟩
     clear hK K
     try simp only[Act.put,lsa,lsz,lsc]
     refine wpAnyH_done (by kernel_rfl) ?_ _;refine NoPanic.normal ?_;exact TL _ _ _ _ _ _ _ _ _ _ _ _ _ hH.2 sA hr5
   refine AllReadyH.cons rfl (fun K hK => ?_) ?_
   · have hkA:=hH.2.now.1.lt;have sA:=Slot3.new wy3 (.slice none 0 0) (.bool false) (.slice none 0 0) 53;go_simp
     refine hK.out _ _ ?_ (fun hH => ?_)
     · exact(have B9:=Bag.alloc hH.2 _;⟨HC.out _ B9.now,B9⟩)
     clear hK K
     try simp only[Act.put,lsa,lsz,lsc]
     refine wpAnyH_ready (rs := [5]) (by kernel_rfl) (by simp) ?_;refine AllReadyH.cons rfl (fun K hK => ?_) AllReadyH.nil;go_simp
     (go_at_call 115;(with_reducible refine(LW.out _ _ _ _ _ _ _ _ (IntAt.below hi5 (by refine Below.more ?_ _;exact Below.refl _ _)) hH.2.now.2.1).mono ?_);rintro e wy5 ⟨a6,n6,c6,m6,a7,n7,c7,rfl,hr5,hbz⟩);have sA:=sA.below hbz
     refine hK.out _ _ ?_ (fun hH => ?_)
     · exact(have B9:=Bag.go hH.2 hbz;⟨HC.out _ B9.now,B9⟩)
     clear hK K
     try simp only[Act.put,lsa,lsz,lsc]
     refine wpAnyH_ready (rs := [7]) (by kernel_rfl) (by simp) ?_;refine AllReadyH.cons (o:=⟨none,Op.store 53 (Operand.tmp 8) (Operand.tmp 37),0,_,_,none⟩) rfl (fun K hK => ?_) AllReadyH.nil;have⟨l0,l1,l2,f0,f1,f2⟩:=sA.s6;have B9s:=HP.out _ _ sA (by omega) hH.2 a6 n6 c6 m6 a7 n7 c7;have hr5:=RatAt.set3 hr5 sA (.slice a6 n6 c6) (.bool m6) (.slice a7 n7 c7);have sA:=(sA.set2 (.slice a6 n6 c6) (.bool m6)).set1 (.slice a7 n7 c7);go_simp
     refine hK.out _ _ ?_ (fun hH => ?_)
     · exact⟨HC.out _ B9s.now,B9s⟩
     clear hK K
     try simp only[Act.put,lsa,lsz,lsc]
     refine wpAnyH_done (by kernel_rfl) ?_ _;refine NoPanic.normal ?_;exact TL _ _ _ _ _ _ _ _ _ _ _ _ _ hH.2 sA hr5
   exact AllReadyH.nil
 refine AllReadyH.cons rfl (fun K hK => ?_) ?_
 · have hkA:=hH.2.now.1.lt;have sA:=Slot3.new w1 (.slice none 0 0) (.bool false) (.slice none 0 0) 53;go_simp
   refine hK.out _ _ ?_ (fun hH => ?_)
   · exact(have B9:=Bag.alloc hH.2 _;⟨HC.out _ B9.now,B9⟩)
   clear hK K
   try simp only[Act.put,lsa,lsz,lsc]
   refine wpAnyH_ready (rs := [3]) (by kernel_rfl) (by simp) ?_;refine AllReadyH.cons rfl (fun K hK => ?_) AllReadyH.nil;go_simp
   (go_at_call 116;(with_reducible refine(OF.out _ _ _ _ hH.2.now.2.2.2.1).mono ?_);rintro e wy3 ⟨a5,n5,c5,m5,rfl,hi5,hbz⟩);have sA:=sA.below hbz
   refine hK.out _ _ ?_ (fun hH => ?_)
   · exact(have B9:=Bag.go hH.2 hbz;⟨HC.out _ B9.now,B9⟩)
   clear hK K
   try simp only[Act.put,lsa,lsz,lsc]
   refine wpAnyH_ready (rs := [5]) (by kernel_rfl) (by simp) ?_;refine AllReadyH.cons rfl (fun K hK => ?_) AllReadyH.nil;go_simp
   (go_at_call 115;(with_reducible refine(LW.out _ _ _ _ _ _ _ _ (IntAt.below hi5 (by exact Below.refl _ _)) hH.2.now.2.1).mono ?_);rintro e wy5 ⟨a6,n6,c6,m6,a7,n7,c7,rfl,hr5,hbz⟩);have sA:=sA.below hbz
   refine hK.out _ _ ?_ (fun hH => ?_)
   · exact(have B9:=Bag.go hH.2 hbz;⟨HC.out _ B9.now,B9⟩)
   clear hK K
   try simp only[Act.put,lsa,lsz,lsc]
   refine wpAnyH_ready (rs := [7]) (by kernel_rfl) (by simp) ?_;refine AllReadyH.cons (o:=⟨none,Op.store 53 (Operand.tmp 8) (Operand.tmp 37),0,_,_,none⟩) rfl (fun K hK => ?_) AllReadyH.nil;have⟨l0,l1,l2,f0,f1,f2⟩:=sA.s6;have B9s:=HP.out _ _ sA (by omega) hH.2 a6 n6 c6 m6 a7 n7 c7;have hr5:=RatAt.set3 hr5 sA (.slice a6 n6 c6) (.bool m6) (.slice a7 n7 c7);have sA:=(sA.set2 (.slice a6 n6 c6) (.bool m6)).set1 (.slice a7 n7 c7);go_simp
   refine hK.out _ _ ?_ (fun hH => ?_)
   · exact⟨HC.out _ B9s.now,B9s⟩
   clear hK K
   try simp only[Act.put,lsa,lsz,lsc]
   refine wpAnyH_done (by kernel_rfl) ?_ _;refine NoPanic.normal ?_;exact TL _ _ _ _ _ _ _ _ _ _ _ _ _ hH.2 sA hr5
 exact AllReadyH.nil
theorem of_none (b : Bool) (s t : ByteArray) (w : World) (hs : s.size <= 60) (ht : t.size <= 60) (hk : ofK s t = false) :
    Calls Tryz.prog 55 #[.agg #[.bool b,.string s,.string t]] w fun e w'=>RatTold3 w w' e 0 1 false:=by
 have B0:=(Bag.start w).box3 (.bool b) (.string s) (.string t) 46 |>.box3 (.slice none 0 0) (.bool false) (.slice none 0 0) 53
 simp only[World.size_alloc]at B0
 have RD:∀u:ByteArray,u.size<=60->Hid (∀wz,Calls Tryz.prog 113 #[.string u] wz fun e w'=>SubOf3 wz w' e (if okB u.data.toList then numOf u.data.toList else 0) (okB u.data.toList)):=fun u hu wz=>by
  cases h:okB u.data.toList with
  | true=>exact ratRead_yes u wz (by omega) h
  | false=>exact ratRead_no u wz (by omega) h
 have RS1:=RD s hs;have RS2:=RD t ht;unfold SubOf3 at RS1 RS2;unfold ofK at hk;have ZE:=Lib.hid (fun a n c wz (h:NatIs wz (.agg #[.slice a n c]) (if okB t.data.toList then numOf t.data.toList else 0))=>zero_any _ _ wz h);have hz:∀g,okB t.data.toList=g->g=true->decide ((if okB t.data.toList then numOf t.data.toList else 0)=0)=decide (numOf t.data.toList=0):=fun g h1 h2=>by rw[h1,h2,if_pos rfl]
 obtain⟨g1,hg1⟩:∃g,okB s.data.toList=g:=⟨_,rfl⟩
 obtain⟨g2,hg2⟩:∃g,okB t.data.toList=g:=⟨_,rfl⟩
 have hz2:=hz g2 hg2;clear hz RD;obtain⟨z,hz3⟩:∃z,decide ((if okB t.data.toList then numOf t.data.toList else 0)=0)=z:=⟨_,rfl⟩
 rw[hz3]at ZE hz2;generalize (if okB t.data.toList then numOf t.data.toList else 0)=M at *;generalize (if okB s.data.toList then numOf s.data.toList else 0)=N at *;rw[hg1]at RS1 hk;rw[hg2]at RS2 hk
 have hk2:(g1&&(g2 && !z))=false:=by
  cases g2 with
  | false=>simp
  | true=>rw[← hz2 rfl]at hk;simpa using hk
 have BB:=Lib.hid B0;have⟨q0,q1,q2⟩:=B0.now.2.1.c3;clear B0 hs ht hk hg1 hg2 hz2 hz3
 cases g1<;>cases g2<;>cases z
 all_goals
  first
   | (exact absurd hk2 (by decide))
   | skip
 all_goals
  clear hk2;go_enter Tryz.func55,Tryz.ntmps55;go_wp2_with fail;go_at_call 113;(with_reducible refine(RS1.out _).mono ?_);rintro e w2 ⟨a3,n3,c3,rfl,hn3,hb2⟩;have BB:=Lib.hid ((BB.out.go hb2).alloc (.cells #[.slice a3 n3 c3] 49));clear hb2 hn3;have⟨q0,q1,q2⟩:=BB.out.now.2.1.c3;go_wp2_with fail;go_at_call 113;(with_reducible refine(RS2.out _).mono ?_);rintro e w3 ⟨a4,n4,c4,rfl,hn4,hb3⟩;have BB:=Lib.hid (((BB.out.go hb3).nat hn4).box (.slice a4 n4 c4) 49);clear hb3 hn4;have q3:=BB.out.now.1.cell;have hs9:=BB.out.now.2.2.1;have⟨u0,u1,u2,g0,g1,g2⟩:=hs9.s6;have HS:=hs9.set (.slice none 0 0) (.bool false) (.slice none 0 0);have HE:=Lib.hid (RatTold3.done false BB.out.below (show w.heap.size<=w.heap.size+1 by omega) hs9 (RatAt.zero _));clear hs9
  go_wp2_with (first
   | (go_at_call 114;(with_reducible refine(ZE.out _ _ _ _ BB.out.now.2.1).mono ?_);rintro e w4 ⟨rfl,hb4⟩;have BB:=Lib.hid (BB.out.go hb4);clear hb4;have hs9:=BB.out.now.2.2.1;have u0:=hs9.cell;have u1:=hs9.cell1;have u2:=hs9.cell2;have g0:=hs9.free;have g1:=hs9.free1;have g2:=hs9.free2;have HS:=hs9.set (.slice none 0 0) (.bool false) (.slice none 0 0);have HE:=Lib.hid (RatTold3.done false BB.out.below (show w.heap.size<=w.heap.size+1 by omega) hs9 (RatAt.zero _));clear hs9))
  exact bodyPost_ret (by simp[results,Tryz.results55,go_sem,HS]) rfl HE.out
def ofO(b:Bool)(s t:ByteArray):Bool:=ofK s t&&decide (rB (ofP b s t)=b/\rS (ofP b s t)=s/\str (dec (ofQ b s t))=t)
theorem of_any' (b : Bool) (s t : ByteArray) (w : World) (hs : s.size <= 60) (ht : t.size <= 60) :
    Calls Tryz.prog 55 #[.agg #[.bool b,.string s,.string t]] w fun e w'=>RatTold3 w w' e (if ofO b s t then ofP b s t else 0) (if ofO b s t then ofQ b s t else 1) (ofO b s t):=by
 cases hk:ofK s t with
 | false =>
  have e:ofO b s t=false:=by unfold ofO;rw[hk];rfl
  rw[e];exact of_none b s t w hs ht hk
 | true =>
  have e:ofO b s t=decide (rB (ofP b s t)=b/\rS (ofP b s t)=s/\str (dec (ofQ b s t))=t):=by unfold ofO;rw[hk,Bool.true_and]
  rw[e];exact of_some b s t w hs ht hk _ rfl
end Go.Proofs.YtdmmenaejkpnjaaGreatDoor
namespace Go.Proofs.YtdmmenaejkpnjaaGreatDoor
open Go.RowKit
def okN(fB:Nat->Bool)(fS fT:Nat->ByteArray):Nat->Bool
 | 0=>true
 | k+1=>okN fB fS fT k&&ofO (fB k) (fS k) (fT k)
theorem okN_iff{fB:Nat->Bool}{fS fT:Nat->ByteArray}{n:Nat}:okN fB fS fT n=true↔∀j,j<n->ofO (fB j) (fS j) (fT j)=true:=by
 induction n with
 | zero=>exact⟨fun _ j h=>absurd h (Nat.not_lt_zero _),fun _=>rfl⟩
 | succ n ih =>
  show(okN fB fS fT n&&_)=true↔_
  rw[Bool.and_eq_true,ih]
  constructor
  · rintro⟨h1,h2⟩ j hj
    rcases Nat.lt_or_ge j n with h|h
    · exact h1 j h
    · obtain rfl:j=n:=by omega
      exact h2
  · intro h;exact⟨fun j hj=>h j (by omega),h n (by omega)⟩
def Short(fS fT:Nat->ByteArray)(n:Nat):Prop:=∀j,j<n->(fS j).size<=60/\(fT j).size<=60
def RatsTold(b:Bool)(n:Nat)(fP:Nat->Int)(fQ:Nat->Nat)(w w':World)(e:Ending):Prop:=∃a m c,e=.returned (.tuple #[.slice a m c,.bool b])/\(b=true->m=n/\RRow w' a n c fP fQ)/\Below w.heap.size w w'
theorem rats_any (a : Option Addr) (n c : Nat) (fB : Nat -> Bool) (fS fT : Nat -> ByteArray) (w : World) (h : QRow w a n c fB fS fT) (hs : Short fS fT n) (hn : n <= 100000) :
    Calls Tryz.prog 105 #[.slice a n c] w fun e w'=>RatsTold (okN fB fS fT n) n (fun j=>ofP (fB j) (fS j) (fT j)) (fun j=>ofQ (fB j) (fS j) (fT j)) w w' e:=by
 obtain⟨i0,hi,hz0,hz1,hz2⟩:=info_parts infoR;have hmk:=fun wz=>run_make (P:=Tryz.prog) wz 34 53 i0 _ Tryz.underlying34 hi hz0 .i64 .i64 n n (by omega) (by omega) (by rw[hz2];omega) (by omega)
 simp only[Int.toNat_natCast,hz1]at hmk;have HK:=Lib.hid h;have HS:=Lib.hid hs;have hl:=h.len;have OF:=Lib.hid (fun b s t wz p q=>of_any' b s t wz p q);unfold RatTold3 at OF
 have H0:Hid (Below w.heap.size w (w.alloc (.cells (madeCells (Value.cells (.agg #[.slice none 0 0,.bool false,.slice none 0 0])) (n*3)) 53))/\RatsTo (w.alloc (.cells (madeCells (Value.cells (.agg #[.slice none 0 0,.bool false,.slice none 0 0])) (n*3)) 53)) w.heap.size n 0 (fun j=>ofP (fB j) (fS j) (fT j)) (fun j=>ofQ (fB j) (fS j) (fT j))/\okN fB fS fT 0=true) :=
  ⟨(Below.refl _ _).alloc (Nat.le_refl _) _,RatsTo.made w n 53 _ _ rfl,rfl⟩
 clear h hs hi hz0 hz1 hz2;go_enter Tryz.func105,Tryz.ntmps105;go_wp2_with fail
 go_loopw [14] (fun i wr=>∃k:Nat,k<=n/\i=.int .i64 k/\Hid (Below w.heap.size w wr/\RatsTo wr w.heap.size n k (fun j=>ofP (fB j) (fS j) (fT j)) (fun j=>ofQ (fB j) (fS j) (fT j))/\okN fB fS fT k=true)) (fun i _=>n-(intOf i).toNat)
 case atStart=>exact⟨0,by omega,rfl,H0.out⟩
 case round =>
  obtain⟨k,hk,rfl,hrel⟩:=hrel;obtain⟨hbl,hto,hok⟩:=hrel.out
  by_cases hlt:k<n
  · obtain⟨b,off,rfl,hb,c1,c2,c3⟩:=(HK.out.below hbl).get hlt;have BB:=Lib.hid (((Bag.start wr).to hto).alloc (.cells #[.bool (fB k),.string (fS k),.string (fT k)] 46));have HBL:=Lib.hid hbl;have HOK:=Lib.hid hok;have HSZ:=Lib.hid (HS.out k hlt);clear hbl hto hok
    cases ho:ofO (fB k) (fS k) (fT k)with
    | false =>
     have hno:okN fB fS fT n=false:=by
      cases hx:okN fB fS fT n with
      | false=>rfl
      | true=>rw[okN_iff.1 hx k hlt]at ho;cases ho
     have HNO:=Lib.hid hno;have O1:=Lib.hid (fun wz=>OF.out (fB k) (fS k) (fT k) wz HSZ.out.1 HSZ.out.2);simp only[ho,Bool.false_eq_true,if_false]at O1;clear hno ho;go_wp2_with fail;go_at_call 55;refine(O1.out _).mono ?_;rintro e w2 ⟨a2,n2,c2,m2,a3,n3,c3,rfl,hr2,hb2⟩
     have HE:Hid (RatsTold (okN fB fS fT n) n (fun j=>ofP (fB j) (fS j) (fT j)) (fun j=>ofQ (fB j) (fS j) (fT j)) w (w2.alloc (.cells #[.slice a2 n2 c2,.bool m2,.slice a3 n3 c3] 53)) (.returned (.tuple #[.slice none 0 0,.bool false]))) :=
      ⟨_,_,_,by rw[HNO.out],fun h=>(by rw[HNO.out]at h;cases h),HBL.out.trans (((BB.out.go hb2).below.mono HBL.out.size).trans ((Below.refl _ _).alloc (Nat.le_trans HBL.out.size (BB.out.go hb2).below.size) _))⟩
     clear hr2 hb2;go_wp2;go_ret2;exact HE.out
    | true =>
     have O1:=Lib.hid (fun wz=>OF.out (fB k) (fS k) (fT k) wz HSZ.out.1 HSZ.out.2);simp only[ho,if_true]at O1;have HO2:Hid (okN fB fS fT (k+1)=true):=by show(okN fB fS fT k&&_)=true;rw[HOK.out,ho];rfl
     clear ho;go_wp2_with fail;go_at_call 55;refine(O1.out _).mono ?_;rintro e w2 ⟨a2,n2,c2,m2,a3,n3,c3,rfl,hr2,hb2⟩;have B2:=((BB.out.go hb2).rat hr2)
     have hto:=B2.now.2.1;have hr3:=B2.now.1;obtain⟨⟨b1,l1,d1,v1,b2,l2,d2,x1,x2,x3⟩,y1,y2,y3⟩:=hto.place hlt;have hbb:=HBL.out.trans (B2.below.mono HBL.out.size)
     have HN:Hid (Below w.heap.size w ((((w2.setCell ⟨w.heap.size,k*3,none⟩ (.slice a2 n2 c2)).setCell ⟨w.heap.size,k*3+1,none⟩ (.bool m2)).setCell ⟨w.heap.size,k*3+2,none⟩ (.slice a3 n3 c3)).alloc (.cells #[.slice a2 n2 c2,.bool m2,.slice a3 n3 c3] 53))/\RatsTo ((((w2.setCell ⟨w.heap.size,k*3,none⟩ (.slice a2 n2 c2)).setCell ⟨w.heap.size,k*3+1,none⟩ (.bool m2)).setCell ⟨w.heap.size,k*3+2,none⟩ (.slice a3 n3 c3)).alloc (.cells #[.slice a2 n2 c2,.bool m2,.slice a3 n3 c3] 53)) w.heap.size n (k+1) (fun j=>ofP (fB j) (fS j) (fT j)) (fun j=>ofQ (fB j) (fS j) (fT j))/\okN fB fS fT (k+1)=true) :=
      ⟨(((hbb.setCell (p:=⟨w.heap.size,_,none⟩) (Nat.le_refl _) _).setCell (p:=⟨w.heap.size,_,none⟩) (Nat.le_refl _) _).setCell (p:=⟨w.heap.size,_,none⟩) (Nat.le_refl _) _).alloc (by simpa using hbb.size) _,(hto.step hlt hr3).below ((Below.refl _ _).alloc (Nat.le_refl _) _),HO2.out⟩
     have hks:w.heap.size<w2.heap.size:=by have:=(BB.out.go hb2).now.1;exact this.1
     clear hto hr2 hb2 B2 hbb hr3;go_wp2
     go_roundw
     case rel=>exact⟨k+1,by omega,by go_num,HN.out⟩
     case measure=>simp[intOf];omega
  · obtain rfl:k=n:=by omega
    have HE:Hid (RatsTold (okN fB fS fT k) k (fun j=>ofP (fB j) (fS j) (fT j)) (fun j=>ofQ (fB j) (fS j) (fT j)) w wr (.returned (.tuple #[.slice (some ⟨w.heap.size,0,none⟩) k k,.bool true]))):=by
     rw[hok];exact⟨_,_,_,rfl,fun _=>⟨rfl,hto.done (by unfold maxLen;omega)⟩,hbl⟩
    clear hbl hto hok;go_wp2;go_ret2;exact HE.out
def AArr(w:World)(cs:Array Value)(S:Nat->Int)(r:Nat)(ch:Bool)(g:Nat->Int)(tn:Nat)(fP:Nat->Int)(fQ:Nat->Nat)(nn:Nat):Prop :=
 ∃na nc ta tc,cs=arrC ch ((r:Int)-1) (dm S r) na nn nc ta tn tc/\RRow w na nn nc fP fQ/\KRow w .i32 ta tn tc g/\(ch=false->ta=none/\tc=0)/\(ch=true->na=none/\nc=0)
theorem AArr.below{w w':World}{cs:Array Value}{S:Nat->Int}{r:Nat}{ch:Bool}{g:Nat->Int}{tn:Nat}{fP:Nat->Int}{fQ:Nat->Nat}{nn:Nat}(h:AArr w cs S r ch g tn fP fQ nn)(hb:Below w.heap.size w w'):AArr w' cs S r ch g tn fP fQ nn:=by
 obtain⟨na,nc,ta,tc,e,h1,h2,h3⟩:=h;exact⟨na,nc,ta,tc,e,h1.below hb,h2.below hb,h3⟩
theorem AArr.put{w:World}{cs:Array Value}{S:Nat->Int}{r:Nat}{ch:Bool}{g:Nat->Int}{tn:Nat}{fP:Nat->Int}{fQ:Nat->Nat}{nn:Nat}(h:AArr w cs S r ch g tn fP fQ nn){k:Nat}{t:TypeId}{c1:Bool}{more:Int}{d:Nat->Int}{na:Option Addr}{n1 nc:Nat}{ta:Option Addr}{t1 tc:Nat}(hr:Row w k t (arrC c1 more d na n1 nc ta t1 tc))(cs':Array Value):AArr (w.setRow k cs') cs S r ch g tn fP fQ nn:=by
 obtain⟨na,nc,ta,tc,e,h1,h2,h3⟩:=h;exact⟨na,nc,ta,tc,e,h1.away (Row.noLimb hr) (RRow.ne h1 hr) (Far.setRow _ _ _),h2.away (KRow.ne h2 (by decide) hr) (Far.setRow _ _ _),h3⟩
def ofB(S:Nat->Int)(r:Nat)(ch:Bool)(tn:Nat)(fB:Nat->Bool)(fS fT:Nat->ByteArray)(nn:Nat):Bool :=
 if ch then decide (nn=0)&&(shB S r&&decide (itm S r=tn))else decide (tn=0)&&(okN fB fS fT nn&&(shB S r&&decide (itm S r=nn)))
def OfTold(b:Bool)(S:Nat->Int)(r:Nat)(ch:Bool)(g:Nat->Int)(tn:Nat)(fP:Nat->Int)(fQ:Nat->Nat)(nn:Nat)(w w':World)(e:Ending):Prop :=
 ∃cs,e=.returned (.tuple #[.agg cs,.bool b])/\(if b then AArr w' cs S r ch g tn fP fQ nn else cs=zerC)/\Below w.heap.size w w'
theorem numF {b : Bool} {w : World} {cs : Array Value} {f : Nat -> Int} {r n : Nat} {fP : Nat -> Int} {fQ : Nat -> Nat} (h : if b then NumArr w cs f r n fP fQ else cs = zerC) :
    ∃more d na nn nc,cs=arrC false more d na nn nc none 0 0/\(if b then AArr w cs f r false (fun _=>0) 0 fP fQ n else cs=zerC):=by
 cases b with
 | true =>
  rw[if_pos rfl]at h;obtain⟨na,nc,e,h2⟩:=h;exact⟨_,_,na,n,nc,e,by rw[if_pos rfl];exact⟨na,nc,none,0,e,h2,KRow.nought _ _ _ _ (Nat.zero_le _) _,fun _=>⟨rfl,rfl⟩,fun h=>by cases h⟩⟩
 | false =>
  rw[if_neg (by decide)]at h;exact⟨_,_,none,0,0,h,by rw[if_neg (by decide)];exact h⟩
theorem chrF {b : Bool} {w : World} {cs : Array Value} {f : Nat -> Int} {r n : Nat} {g : Nat -> Int} (h : if b then ChrArr w cs f r n g else cs = zerC) (fP : Nat -> Int) (fQ : Nat -> Nat) :
    ∃ch more d ta tn tc,cs=arrC ch more d none 0 0 ta tn tc/\(if b then AArr w cs f r true g n fP fQ 0 else cs=zerC):=by
 cases b with
 | true =>
  rw[if_pos rfl]at h;obtain⟨na,nc,e,h2⟩:=h;exact⟨true,_,_,na,n,nc,e,by rw[if_pos rfl];exact⟨none,0,na,nc,e,RRow.nought _ _ _ (Nat.zero_le _) _ _,h2,fun h=>(by cases h),fun _=>⟨rfl,rfl⟩⟩⟩
 | false =>
  rw[if_neg (by decide)]at h;exact⟨false,_,_,none,0,0,h,by rw[if_neg (by decide)];exact h⟩
theorem AArr.txt{w:World}{cs:Array Value}{S:Nat->Int}{r:Nat}{ch:Bool}{g:Nat->Int}{fP:Nat->Int}{fQ:Nat->Nat}{nn:Nat}(h:AArr w cs S r ch g 0 fP fQ nn)(g':Nat->Int):AArr w cs S r ch g' 0 fP fQ nn:=by
 obtain⟨na,nc,ta,tc,e,h1,h2,h3⟩:=h;exact⟨na,nc,ta,tc,e,h1,⟨h2.1,h2.2.1,.inl rfl⟩,h3⟩
theorem zerC_eq:zerC=arrC false 0 (fun _=>0) none 0 0 none 0 0:=rfl
theorem ofT_put {b : Bool} {S : Nat -> Int} {r : Nat} {ch : Bool} {g : Nat -> Int} {tn : Nat} {fP : Nat -> Int} {fQ : Nat -> Nat} {nn : Nat} {w w3 : World} {cs : Array Value} (h : if b then AArr w3 cs S r ch g tn fP fQ nn else cs = zerC) (hb : Below w.heap.size w w3) {k : Nat} {t : TypeId} {c1 : Bool} {more : Int} {d : Nat -> Int} {na : Option Addr} {n1 nc : Nat} {ta : Option Addr} {t1 tc : Nat} (hr : Row w3 k t (arrC c1 more d na n1 nc ta t1 tc)) (hk : w.heap.size <= k) :
    OfTold b S r ch g tn fP fQ nn w (w3.setRow k cs) (.returned (.tuple #[.agg cs,.bool b])):=by
 refine⟨cs,rfl,?_,below_put hb hk _⟩
 cases b with
 | true=>rw[if_pos rfl]at h ⊢;exact h.put hr cs
 | false=>rw[if_neg (by decide)]at h ⊢;exact h
theorem ofT_put' {b : Bool} {S : Nat -> Int} {r : Nat} {ch : Bool} {g : Nat -> Int} (g' : Nat -> Int) {fP : Nat -> Int} {fQ : Nat -> Nat} {nn : Nat} {w w3 : World} {cs : Array Value} (h : if b then AArr w3 cs S r ch g 0 fP fQ nn else cs = zerC) (hb : Below w.heap.size w w3) {k : Nat} {t : TypeId} {c1 : Bool} {more : Int} {d : Nat -> Int} {na : Option Addr} {n1 nc : Nat} {ta : Option Addr} {t1 tc : Nat} (hr : Row w3 k t (arrC c1 more d na n1 nc ta t1 tc)) (hk : w.heap.size <= k) :
    OfTold b S r ch g' 0 fP fQ nn w (w3.setRow k cs) (.returned (.tuple #[.agg cs,.bool b])):=by
 refine ofT_put ?_ hb hr hk
 cases b with
 | true=>rw[if_pos rfl]at h ⊢;exact h.txt _
 | false=>rw[if_neg (by decide)]at h ⊢;exact h
theorem ofT_none(S:Nat->Int)(r:Nat)(ch:Bool)(g:Nat->Int)(tn:Nat)(fP:Nat->Int)(fQ:Nat->Nat)(nn:Nat){w w3:World}(hb:Below w.heap.size w w3):OfTold false S r ch g tn fP fQ nn w w3 (.returned (.tuple #[.agg zerC,.bool false])) :=
 ⟨_,rfl,by rw[if_neg (by decide)],hb⟩
theorem ofT_nput(S:Nat->Int)(r:Nat)(ch:Bool)(g:Nat->Int)(tn:Nat)(fP:Nat->Int)(fQ:Nat->Nat)(nn:Nat){w w3:World}(hb:Below w.heap.size w w3){k:Nat}{t:TypeId}{c1:Bool}{more:Int}{d:Nat->Int}{na:Option Addr}{n1 nc:Nat}{ta:Option Addr}{t1 tc:Nat}(_:Row w3 k t (arrC c1 more d na n1 nc ta t1 tc))(hk:w.heap.size<=k):OfTold false S r ch g tn fP fQ nn w (w3.setRow k zerC) (.returned (.tuple #[.agg zerC,.bool false])) :=
 ⟨_,rfl,by rw[if_neg (by decide)],below_put hb hk _⟩
theorem of6_any (cs : Array Value) (S : Nat -> Int) (r : Nat) (ch : Bool) (g : Nat -> Int) (tn : Nat) (fB : Nat -> Bool) (fS fT : Nat -> ByteArray) (nn : Nat) (w : World) (h : PlnAt w cs S r ch g tn fB fS fT nn) (hS : In64 S r) (hs : Short fS fT nn) (hn : nn <= 100000) (htn : tn <= 100000) :
    Calls Tryz.prog 48 #[.agg cs] w fun e w'=>OfTold (ofB S r ch tn fB fS fT nn) S r ch g tn (fun j=>ofP (fB j) (fS j) (fT j)) (fun j=>ofQ (fB j) (fS j) (fT j)) nn w w' e:=by
 obtain⟨sa,sc,ta,tc,na,nc,rfl,h1,h2,h3⟩:=h;have hl1:=h1.len;have hl2:=h2.len;have hl3:=h3.len;have BB:=Lib.hid (((((Bag.start w).krow h1).krow h2).qrow h3).newRow (plC sa r sc ch ta tn tc na nn nc) 26 |>.newRow zerC 36);simp only[World.size_alloc]at BB;unfold plC at BB;unfold plC
 cases ch with
 | true =>
  have e0:ofB S r true tn fB fS fT nn=(decide (nn=0)&&(shB S r&&decide (itm S r=tn))):=by unfold ofB;rw[if_pos rfl]
  rw[e0]
  by_cases h0:nn=0
  · subst h0;rw[decide_eq_true rfl,Bool.true_and];have CH:=Lib.hid (fun wz p q=>chars_any sa r sc S ta tn tc g wz p hS q (by omega));unfold CharsTold at CH;generalize (shB S r&&decide (itm S r=(tn:Int)))=b at *;clear h1 h2 h3 hS hs e0;go_enter Tryz.func48,Tryz.ntmps48;go_wp2_with fail;go_at_call 42
    refine(CH.out _ ?_ ?_).mono ?_
    · exact BB.out.now.2.2.2.2.1
    · exact BB.out.now.2.2.2.1
    rintro e w3 ⟨cs3,rfl,hc3,hb3⟩;obtain⟨c4,more4,d4,ta4,tn4,tc4,rfl,hc4⟩:=chrF hc3 (fun j=>ofP (fB j) (fS j) (fT j)) (fun j=>ofQ (fB j) (fS j) (fT j));have B3:=BB.out.go hb3;have HZ:=Lib.hid B3.now.1;have HE:=Lib.hid (ofT_put (k:=w.heap.size+1) hc4 B3.below (zerC_eq▸B3.now.1) (Nat.le_succ _));clear hb3 hc3 hc4 B3;unfold arrC
    go_wp2_with (refine st_arr rfl (.tmp 2) (.tmp 18) rfl (w.heap.size+1) rfl _ _ _ _ _ _ _ _ _ rfl HZ.out rfl ?_)
    exact bodyPost_ret (res_arr2 Tryz.results48 rfl rfl (HZ.out.put _) rfl) rfl HE.out
  · rw[decide_eq_false h0,Bool.false_and];have dn:(0:Int)<nn:=by omega
    have HE:=Lib.hid (ofT_none S r true g tn (fun j=>ofP (fB j) (fS j) (fT j)) (fun j=>ofQ (fB j) (fS j) (fT j)) nn BB.out.below);have HZ:=Lib.hid BB.out.now.1;clear h1 h2 h3 hS hs e0 h0;unfold zerC arrC at HE HZ;go_enter Tryz.func48,Tryz.ntmps48;go_wp2;exact bodyPost_ret (res_arr2 Tryz.results48 rfl rfl HZ.out rfl) rfl HE.out
 | false =>
  have e0:ofB S r false tn fB fS fT nn=(decide (tn=0)&&(okN fB fS fT nn&&(shB S r&&decide (itm S r=nn)))):=by unfold ofB;rw[if_neg (by decide)]
  rw[e0]
  by_cases h0:tn=0
  · subst h0;rw[decide_eq_true rfl,Bool.true_and];have RT:=Lib.hid (fun wz p=>rats_any na nn nc fB fS fT wz p hs hn);unfold RatsTold at RT;have NU:=Lib.hid (fun la lc wz p q=>nums_any sa r sc S la nn lc (fun j=>ofP (fB j) (fS j) (fT j)) (fun j=>ofQ (fB j) (fS j) (fT j)) wz p hS q (by omega));unfold NumsTold at NU;generalize (shB S r&&decide (itm S r=(nn:Int)))=b at *;clear h1 h2 h3 hS hs e0
    cases ho:okN fB fS fT nn with
    | false =>
     rw[Bool.false_and];rw[ho]at RT;clear ho;go_enter Tryz.func48,Tryz.ntmps48;go_wp2_with fail;go_at_call 105
     refine(RT.out _ ?_).mono ?_
     · exact BB.out.now.2.2.1
     rintro e w3 ⟨a3,m3,c3,rfl,_,hb3⟩;have B3:=BB.out.go hb3;have HE:=Lib.hid (ofT_nput (k:=w.heap.size+1) S r false g 0 (fun j=>ofP (fB j) (fS j) (fT j)) (fun j=>ofQ (fB j) (fS j) (fT j)) nn B3.below (zerC_eq▸B3.now.1) (Nat.le_succ _));have HZ:=Lib.hid B3.now.1;clear hb3 B3
     go_wp2_with (refine st_arr rfl (.tmp 2) (.tmp 33) rfl (w.heap.size+1) rfl false 0 (fun _=>0) none 0 0 none 0 0 rfl HZ.out rfl ?_)
     exact bodyPost_ret (res_arr2 Tryz.results48 rfl rfl (HZ.out.put _) rfl) rfl HE.out
    | true =>
     rw[Bool.true_and];rw[ho]at RT;clear ho;go_enter Tryz.func48,Tryz.ntmps48;go_wp2_with fail;go_at_call 105
     refine(RT.out _ ?_).mono ?_
     · exact BB.out.now.2.2.1
     rintro e w3 ⟨a3,m3,c3,rfl,hr,hb3⟩;obtain⟨rfl,hr3⟩:=hr trivial;have BB:=Lib.hid ((BB.out.go hb3).rrow hr3);obtain⟨q0,q1,q2,q3⟩:=pl_cells BB.out.now.2.2.1;clear hb3 hr hr3;go_wp2_with fail;go_at_call 45
     refine(NU.out _ _ _ ?_ ?_).mono ?_
     · exact BB.out.now.2.2.2.2.2.1
     · exact BB.out.now.1
     rintro e w4 ⟨cs3,rfl,hc3,hb4⟩;obtain⟨more4,d4,na4,nn4,nc4,rfl,hc4⟩:=numF hc3;have B3:=BB.out.go hb4;have HZ:=Lib.hid B3.now.2.1;have HE:=Lib.hid (ofT_put' (k:=w.heap.size+1) g hc4 B3.below (zerC_eq▸B3.now.2.1) (Nat.le_succ _));clear hb4 hc3 hc4 B3;unfold arrC
     go_wp2_with (refine st_arr rfl (.tmp 2) (.tmp 38) rfl (w.heap.size+1) rfl _ _ _ _ _ _ _ _ _ rfl HZ.out rfl ?_)
     exact bodyPost_ret (res_arr2 Tryz.results48 rfl rfl (HZ.out.put _) rfl) rfl HE.out
  · rw[decide_eq_false h0,Bool.false_and];have dn:(0:Int)<tn:=by omega
    have HE:=Lib.hid (ofT_none S r false g tn (fun j=>ofP (fB j) (fS j) (fT j)) (fun j=>ofQ (fB j) (fS j) (fT j)) nn BB.out.below);have HZ:=Lib.hid BB.out.now.1;clear h1 h2 h3 hS hs e0 h0;unfold zerC arrC at HE HZ;go_enter Tryz.func48,Tryz.ntmps48;go_wp2;exact bodyPost_ret (res_arr2 Tryz.results48 rfl rfl HZ.out rfl) rfl HE.out
theorem isChar_any (ch : Bool) (more : Int) (d : Nat -> Int) (na : Option Addr) (nn nc : Nat) (ta : Option Addr) (tn tc : Nat) (w : World) :
    Calls Tryz.prog 41 #[.agg (arrC ch more d na nn nc ta tn tc)] w fun e w'=>e=.returned (.bool ch)/\Below w.heap.size w w':=by
 have HB:Hid (Below w.heap.size w (w.alloc (.cells (arrC ch more d na nn nc ta tn tc) 36))):=(Below.refl _ _).alloc (Nat.le_refl _) _;unfold arrC at HB;unfold arrC;go_enter Tryz.func41,Tryz.ntmps41;go_wp2;go_ret;exact⟨rfl,HB.out⟩
def elC(n:Nat)(g:Nat->Int)(z i:Int):Int:=if 0<=i/\i<n then g i.toNat else z
theorem rune_any (ch : Bool) (more : Int) (d : Nat -> Int) (na : Option Addr) (nn nc : Nat) (ta : Option Addr) (tn tc : Nat) (g : Nat -> Int) (i : Int) (w : World) (h : KRow w .i32 ta tn tc g) :
    Calls Tryz.prog 211 #[.agg (arrC ch more d na nn nc ta tn tc),.int .i64 i] w fun e w'=>e=.returned (.int .i32 (elC tn g 0 i))/\Below w.heap.size w w':=by
 have hl:=h.len;have HB:Hid (Below w.heap.size w (w.alloc (.cells (arrC ch more d na nn nc ta tn tc) 36))):=(Below.refl _ _).alloc (Nat.le_refl _) _;unfold elC
 by_cases hin:0<=i/\i<tn
 · rw[if_pos hin];obtain⟨h0,h1⟩:=hin;obtain⟨k,rfl⟩:∃k:Nat,i=k:=⟨i.toNat,by omega⟩
   have hk:k<tn:=by omega
   rw[show((k:Int)).toNat=k from rfl];obtain⟨b,off,rfl,hb,hc⟩:=h.get hk;have d1:¬((k:Int)<0):=by omega
   have d2:¬((tn:Int)<=k):=by omega
   clear h;generalize g k=x at *;unfold arrC at HB;unfold arrC;go_enter Tryz.func211,Tryz.ntmps211;go_wp2;go_ret;exact⟨rfl,HB.out⟩
 · rw[if_neg hin];clear h;unfold arrC at HB;unfold arrC
   by_cases h0:i<0
   · clear hin;go_enter Tryz.func211,Tryz.ntmps211;go_wp2;go_ret;exact⟨rfl,HB.out⟩
   · have d2:(tn:Int)<=i:=by omega
     clear hin;go_enter Tryz.func211,Tryz.ntmps211;go_wp2;go_ret;exact⟨rfl,HB.out⟩
theorem elemG_any (ch : Bool) (more : Int) (d : Nat -> Int) (na : Option Addr) (n nc : Nat) (ta : Option Addr) (tn tc : Nat) (fP : Nat -> Int) (fQ : Nat -> Nat) (i : Int) (w : World) (hr : RRow w na n nc fP fQ) :
    Calls Tryz.prog 82 #[.agg (arrC ch more d na n nc ta tn tc),.int .i64 i] w fun e w'=>RatTold w w' e (elP n fP i) (elQ n fQ i):=by
 have hl:=hr.len
 by_cases hin:0<=i/\i<n
 · unfold elP elQ;rw[if_pos hin,if_pos hin];obtain⟨h0,h1⟩:=hin;obtain⟨k,rfl⟩:∃k:Nat,i=k:=⟨i.toNat,by omega⟩
   have hk:k<n:=by omega
   rw[show((k:Int)).toNat=k from rfl];obtain⟨b,off,a',n',c',m',a2',n2',c2',rfl,hb,e1,e2,e3,hq⟩:=hr.get hk;have d1:¬((k:Int)<0):=by omega
   have d2:¬((n:Int)<=k):=by omega
   have B0:=((((Bag.start w).rat hq).alloc (.cells (arrC ch more d (some ⟨b,off,none⟩) n nc ta tn tc) 36)).alloc (.cells #[.slice a' n' c',.bool m',.slice a2' n2' c2'] 53))
   have HE:Hid (RatTold w ((w.alloc (.cells (arrC ch more d (some ⟨b,off,none⟩) n nc ta tn tc) 36)).alloc (.cells #[.slice a' n' c',.bool m',.slice a2' n2' c2'] 53)) (.returned (.agg #[.slice a' n' c',.bool m',.slice a2' n2' c2'])) (fP k) (fQ k)) :=
    ⟨a',n',c',m',a2',n2',c2',rfl,B0.now.1,B0.below⟩
   unfold arrC at HE;unfold arrC;clear hr hq B0;go_enter Tryz.func82,Tryz.ntmps82;go_wp2;exact bodyPost_ret (v:=.agg #[.slice a' n' c',.bool m',.slice a2' n2' c2']) (by simp[results,Tryz.results82,go_sem]) rfl HE.out
 · unfold elP elQ;rw[if_neg hin,if_neg hin];have B0:=(((Bag.start w).alloc (.cells (arrC ch more d na n nc ta tn tc) 36)).alloc (.cells #[.slice none 0 0,.bool false,.slice none 0 0] 53))
   have HE:Hid (RatTold w ((w.alloc (.cells (arrC ch more d na n nc ta tn tc) 36)).alloc (.cells #[.slice none 0 0,.bool false,.slice none 0 0] 53)) (.returned (.agg #[.slice none 0 0,.bool false,.slice none 0 0])) 0 1) :=
    ⟨_,_,_,_,_,_,_,rfl,RatAt.nought _,B0.below⟩
   unfold arrC at HE;unfold arrC;clear hr B0
   by_cases h0:i<0
   · clear hin;go_enter Tryz.func82,Tryz.ntmps82;go_wp2;exact bodyPost_ret (v:=.agg #[.slice none 0 0,.bool false,.slice none 0 0]) (by simp[results,Tryz.results82,go_sem]) rfl HE.out
   · have d2:(n:Int)<=i:=by omega
     clear hin;go_enter Tryz.func82,Tryz.ntmps82;go_wp2;exact bodyPost_ret (v:=.agg #[.slice none 0 0,.bool false,.slice none 0 0]) (by simp[results,Tryz.results82,go_sem]) rfl HE.out
def CTo(w:World)(g n k:Nat)(f:Nat->Int):Prop:=g<w.heap.size/\Free w g/\∀j,j<n->∃z,w.cell? ⟨g,j,none⟩=some (.int .i32 z)/\(j<k->z=f j)
theorem CTo.below{w w':World}{g n k:Nat}{f:Nat->Int}(h:CTo w g n k f)(hb:Below w.heap.size w w'):CTo w' g n k f:=by
 obtain⟨h1,h2,h3⟩:=h;refine⟨Nat.lt_of_lt_of_le h1 hb.size,h2.below hb h1,fun j hj => ?_⟩;obtain⟨z,e1,e2⟩:=h3 j hj;exact⟨z,(hb.cell (p:=⟨g,_,none⟩) h1).trans e1,e2⟩
theorem CTo.step{w:World}{g n k:Nat}{f:Nat->Int}(h:CTo w g n k f)(hk:k<n){x:Int}(hx:x=f k):CTo (w.setCell ⟨g,k,none⟩ (.int .i32 x)) g n (k+1) f:=by
 subst hx;obtain⟨h1,h2,h3⟩:=h;refine⟨by simpa using h1,h2.set _ _,fun j hj => ?_⟩
 by_cases e:j=k
 · subst e;obtain⟨z,e1,_⟩:=h3 j hj;exact⟨f j,World.cell?_setCell_same _ _ _ e1,fun _=>rfl⟩
 · obtain⟨z,e1,e2⟩:=h3 j hj;exact⟨z,by rw[World.cell?_setCell_other _ _ _ _ (fun h=>by injection h with _ h;omega)];exact e1,fun h=>e2 (by omega)⟩
theorem CTo.done{w:World}{g n:Nat}{f:Nat->Int}(h:CTo w g n n f)(hn:n<=maxLen):KRow w .i32 (some ⟨g,0,none⟩) n n f:=by
 refine⟨Nat.le_refl _,hn,.inr ⟨g,0,rfl,h.1,fun j hj => ?_⟩⟩;obtain⟨z,e1,e2⟩:=h.2.2 j hj;rw[Nat.zero_add,e1,e2 hj]
theorem CTo.made(w:World)(n:Nat)(t:TypeId)(f:Nat->Int){mc:Array Value}(hmc:mc=madeCells (Value.cells (.int .i32 0)) n):CTo (w.alloc (.cells mc t)) w.heap.size n 0 f:=by
 subst hmc;have hR:=Row.new w t (madeCells (Value.cells (.int .i32 0)) n);refine⟨hR.lt,fun o=>hR.free o,fun j hj=>⟨0,?_,fun h=>absurd h (Nat.not_lt_zero _)⟩⟩;rw[hR.cell];unfold madeCells;rw[Array.getElem?_map,Array.getElem?_range,if_pos (by omega),Option.map_some]
 simp[Value.cells,Nat.mod_one]
theorem CTo.place{w:World}{g n k:Nat}{f:Nat->Int}(h:CTo w g n k f){j:Nat}(hj:j<n):(∃z,w.cell? ⟨g,j,none⟩=some (.int .i32 z))/\w.frozen? ⟨g,j,none⟩=false:=by
 obtain⟨z,e1,_⟩:=h.2.2 j hj;exact⟨⟨z,e1⟩,h.2.1 _⟩
def CmpOk(K:Nat)(fP:Nat->Int)(fQ:Nat->Nat)(n:Nat):Prop:=∀j,j<n->0<fQ j/\(fP j).natAbs<4294967296^K/\fQ j<4294967296^K
def eus(A B:Nat):Nat:=if h:B=0 then 0 else eus B (A%B)+1
termination_by B
decreasing_by exact Nat.mod_lt _ (Nat.pos_of_ne_zero h)
theorem eus_zero(A:Nat):eus A 0=0:=by unfold eus;rw[dif_pos rfl]
theorem eus_step(A:Nat){B:Nat}(h:B≠0):eus A B=eus B (A%B)+1:=by rw[eus,dif_neg h]
theorem eus_le:∀k A B,B<2^k->eus A B<=2*k+1:=by
 intro k
 induction k with
 | zero =>
  intro A B h;obtain rfl:B=0:=by simpa using h
  rw[eus_zero];omega
 | succ k ih =>
  intro A B h
  by_cases h0:B=0
  · subst h0;rw[eus_zero];omega
  · rw[eus_step A h0];have h1:=Nat.mod_lt A (Nat.pos_of_ne_zero h0);obtain⟨C,hC⟩:∃C,A%B=C:=⟨_,rfl⟩
    rw[hC]at h1 ⊢
    by_cases hc0:C=0
    · subst hc0;rw[eus_zero];omega
    · rw[eus_step B hc0];have h2:=Nat.mod_lt B (Nat.pos_of_ne_zero hc0);have h3:=Nat.div_add_mod B C;have h4:1<=B / C:=Nat.div_pos (by omega) (Nat.pos_of_ne_zero hc0);have h5:C*1<=C*(B / C):=Nat.mul_le_mul_left _ h4;have h6:B%C<2^k:=by rw[Nat.pow_succ]at h;omega
      have:=ih C (B%C) h6
      omega
theorem gcd_step(A B:Nat):Nat.gcd B (A%B)=Nat.gcd A B:=by
 rw[Nat.gcd_comm A B,Nat.gcd_rec B A,Nat.gcd_comm]
theorem dec_isnt0(N:Nat):((str (dec N)).toList == [48])=decide (N=0):=by
 have e:(str (dec N)).toList=dec N:=by rw[ByteArray.toList_eq];rfl
 rw[e,Bool.eq_iff_iff,beq_iff_eq,decide_eq_true_eq]
 constructor
 · intro h;have:=congrArg numOf h;unfold dec at this;rw[numOf_sdig,Nat.mod_eq_of_lt (dl_lt N)]at this
   simpa[numOf]using this
 · intro h;rw[h,dec_zero]
theorem dl_mod{A B:Nat}(h:0<B):dl (A%B)<=dl B:=dl_le _ _ (dl_pos B) (Nat.lt_trans (Nat.mod_lt _ h) (dl_lt B))
theorem rgcd_any (x y : Nat) (w : World) (hx : dl x <= 900) (hy : dl y <= 900) (k0 : Nat) (hk0 : k0 <= 4000) (hy2 : y < 2 ^ k0) :
    Calls Tryz.prog 112 #[.string (str (dec x)),.string (str (dec y))] w fun e w'=>e=.returned (.string (str (dec (Nat.gcd x y))))/\Below w.heap.size w w':=by
 have hst:0+eus x y<=10000:=by have:=eus_le k0 x y hy2;omega
 obtain⟨a0,ha0⟩:∃a0,str (dec x)=a0:=⟨_,rfl⟩
 obtain⟨b0,hb0⟩:∃b0,str (dec y)=b0:=⟨_,rfl⟩
 rw[ha0,hb0];have H0:Hid (a0=str (dec x)/\b0=str (dec y)/\dl x<=900/\dl y<=900/\0+eus x y<=10000):=⟨ha0.symm,hb0.symm,hx,hy,hst⟩
 clear hst ha0 hb0 hx hy hy2 hk0;go_enter Tryz.func112,Tryz.ntmps112;go_wp2
 go_loopw [0,1,5] (fun a b i wr=>∃(k A B:Nat) (s t:ByteArray),a=.string s/\b=.string t/\i=.int .i64 k/\k<=10000/\Hid (s=str (dec A)/\t=str (dec B)/\dl A<=900/\dl B<=900/\k+eus A B<=10000/\Nat.gcd A B=Nat.gcd x y)/\Below w.heap.size w wr)
  (fun _ _ i _=>20000-(intOf i).toNat)
 case atStart=>exact⟨0,x,y,_,_,rfl,rfl,rfl,by omega,⟨H0.out.1,H0.out.2.1,H0.out.2.2.1,H0.out.2.2.2.1,H0.out.2.2.2.2,rfl⟩,Below.refl _ _⟩
 case round =>
  obtain⟨k,A,B,s,t,rfl,rfl,rfl,hk,hr,hbl⟩:=hrel;have hz:=dec_isnt0 B;rw[← hr.out.2.1]at hz;have d1:decide ((k:Int)<20000)=true:=decide_eq_true (by omega)
  by_cases h0:B=0
  · rw[decide_eq_true h0]at hz
    have HE:Hid (s=str (dec (Nat.gcd x y))):=by
     show _=_
     rw[hr.out.1,← hr.out.2.2.2.2.2,h0,Nat.gcd_zero_right]
    have HBL:=Lib.hid hbl;clear hr hbl h0;go_wp2;go_ret;exact⟨ret_str HE.out,HBL.out⟩
  · rw[decide_eq_false h0]at hz;have hB0:0<B:=Nat.pos_of_ne_zero h0;have DM:=fun wz=>rdivMod_any A B wz hr.out.2.2.1 hr.out.2.2.2.1 hB0
    rw[← hr.out.1,← hr.out.2.1]at DM;obtain⟨u,hu⟩:∃u,str (dec (A / B))=u:=⟨_,rfl⟩
    obtain⟨v,hv⟩:∃v,str (dec (A%B))=v:=⟨_,rfl⟩
    rw[hu,hv]at DM;have hes:=eus_step A h0;have hkk:k+1<=10000:=by have:=hr.out.2.2.2.2.1;omega
    have HN:Hid (t=str (dec B)/\v=str (dec (A%B))/\dl B<=900/\dl (A%B)<=900/\(k+1)+eus B (A%B)<=10000/\Nat.gcd B (A%B)=Nat.gcd x y) :=
     ⟨hr.out.2.1,hv.symm,hr.out.2.2.2.1,Nat.le_trans (dl_mod hB0) hr.out.2.2.2.1,by have:=hr.out.2.2.2.2.1;omega,by rw[gcd_step];exact hr.out.2.2.2.2.2⟩
    have HD:=Lib.hid DM;have HBL:=Lib.hid hbl;clear DM hu hv hes hr hbl h0 hB0;go_wp2_with fail;go_at_call 164;refine(HD.out _).mono ?_;rintro e w2 ⟨rfl,hb2⟩;have HB2:=Lib.hid (HBL.out.trans (hb2.mono HBL.out.size));clear hb2;go_wp2
    go_roundw
    case rel=>exact⟨k+1,B,A%B,_,_,rfl,rfl,by go_num,hkk,HN.out,HB2.out⟩
    case measure=>simp[intOf];omega
end Go.Proofs.YtdmmenaejkpnjaaGreatDoor
namespace Go.Proofs.YtdmmenaejkpnjaaGreatDoor
open Go.RowKit
attribute [local go_sem ↓] Go.wp_at_zero Go.wp_at_succ
theorem dec1:str (dec 1)=⟨#[49]⟩:=by rw[dec_small (by omega)];rfl
theorem dec_is1(N:Nat):((str (dec N)).toList == [49])=decide (N=1):=dec_eq_digit N 1 (by omega)
theorem r3From_any(X:Int)(w:World)(h : -9223372036854775808<=X/\X<=9223372036854775807):Calls Tryz.prog 57 #[.int .i64 X] w fun e w'=>NumTold w w' e X 1:=by
 have FR:=Lib.hid (fun wz=>rFrom_any X wz h);unfold RTold at FR;have BB:=Lib.hid ((Bag.start w).box3 (.bool false) (.string ⟨#[]⟩) (.string ⟨#[]⟩) 46);have HF:=Lib.hid (fun w2 b x y (hb:Below w.heap.size w w2) (h1:rB X=b) (h2:rS X=x) (h3:str (dec 1)=y)=>NumTold.done (k:=w.heap.size) X 1 hb (Nat.le_refl _) h1 h2 h3);obtain⟨b,hb⟩:∃b,rB X=b:=⟨_,rfl⟩
 obtain⟨s,hs⟩:∃s,rS X=s:=⟨_,rfl⟩
 have HB:=Lib.hid hb;have HS2:=Lib.hid hs;rw[hb,hs]at FR;clear hb hs h;go_enter Tryz.func57,Tryz.ntmps57;go_wp2_with fail;go_at_call 119;refine(FR.out _).mono ?_;rintro e w2 ⟨rfl,hb2⟩;have BB:=Lib.hid ((BB.out.go hb2).box2 (.bool b) (.string s) 159);have q0:=BB.out.now.1.cell;have q1:=BB.out.now.1.cell1;have hs:=BB.out.now.2.1;have⟨u0,u1,u2,g0,g1,g2⟩:=hs.s6;have HS:=hs.set (.bool b) (.string s) (.string ⟨#[49]⟩);have HE:=Lib.hid (HF.out _ b s ⟨#[49]⟩ BB.out.below HB.out HS2.out dec1);clear hs hb2;go_wp2;exact bodyPost_ret (by simp[results,Tryz.results57,go_sem,HS]) rfl HE.out
end Go.Proofs.YtdmmenaejkpnjaaGreatDoor
namespace Go.Proofs.YtdmmenaejkpnjaaGreatDoor
open Go.RowKit
def PlnTold(S:Nat->Int)(r:Nat)(ch:Bool)(g:Nat->Int)(tn:Nat)(fB:Nat->Bool)(fS fT:Nat->ByteArray)(nn:Nat)(w w':World)(e:Ending):Prop:=∃cs,e=.returned (.agg cs)/\PlnAt w' cs S r ch g tn fB fS fT nn/\Below w.heap.size w w'
theorem res_pln {fn : Func} {p : Tmp} {tmps : Array Value} {w : World} {g : Nat} {cs : Array Value} (h : fn.results = #[.cell p 26]) (hp : tmps.getD p undef = .pointer (some ⟨g, 0, none⟩)) (hg : Row w g 26 cs) (hs : cs.size = 4) :
    (results fn tmps).run Tryz.prog w=.ok (.agg cs) w :=
 results_cell_row h tmps w g _ cs (0,0) _ hp hg Tryz.underlying26 rfl (by rw[show(Tryz.prog.info? 26).map (·.size)=some 4 by kernel_rfl,hs])
theorem QRow.one(w:World)(b:Bool)(s t:ByteArray)(T:TypeId):QRow (w.alloc (.cells #[.bool b,.string s,.string t] T)) (some ⟨w.heap.size,0,none⟩) 1 1 (fun _=>b) (fun _=>s) (fun _=>t):=by
 have hR:=Row.new w T #[.bool b,.string s,.string t];refine⟨Nat.le_refl _,by unfold maxLen;omega,.inr ⟨_,0,rfl,by simp,fun j hj => ?_⟩⟩;obtain rfl:j=0:=by omega
 exact⟨hR.cell 0,hR.cell 1,hR.cell 2⟩
theorem pln4:(Tryz.prog.info? 26).map (·.size)=some 4:=by kernel_rfl
theorem ld_pln {ops : Array Oper} {rest : List Oper} {o : Oper} {a : Act} {w : World} {Q : Exit -> Act -> World -> Prop} (hgd : o.guard = none) (x : Operand) (ho : o.op = .load 26 x) (g : Nat) (hx : a.eval x = .pointer (some ⟨g, 0, none⟩))
    {sa:Option Addr} {sn sc:Nat} {ch:Bool} {ta:Option Addr} {tn tc:Nat} {na:Option Addr} {nn nc:Nat} (hg:Row w g 26 (plC sa sn sc ch ta tn tc na nn nc))
    (h:wpList Tryz.prog ops Q rest (a.put o.dst (.agg (plC sa sn sc ch ta tn tc na nn nc))) w):wpList Tryz.prog ops Q (o::rest) a w :=
 wpList_load_row hgd _ x ho g hx _ _ (0,0) _ hg Tryz.underlying26 rfl pln4 h
theorem plC_one(sa:Option Addr)(sn sc:Nat)(ch:Bool)(ta:Option Addr)(tn tc:Nat)(na:Option Addr)(nn nc:Nat):(plC sa sn sc ch ta tn tc na nn nc).all (·.oneCell')=true:=by simp[plC,Value.oneCell']
theorem st_pln {ops : Array Oper} {rest : List Oper} {o : Oper} {a : Act} {w : World} {Q : Exit -> Act -> World -> Prop} (hgd : o.guard = none) (x y : Operand) (ho : o.op = .store 26 x y) (g : Nat) (hx : a.eval x = .pointer (some ⟨g, 0, none⟩))
    (sa:Option Addr) (sn sc:Nat) (ch:Bool) (ta:Option Addr) (tn tc:Nat) (na:Option Addr) (nn nc:Nat) (hy:a.eval y=.agg (plC sa sn sc ch ta tn tc na nn nc)) {old:Array Value} (hg:Row w g 26 old) (ho2:old.size=4)
    (h:wpList Tryz.prog ops Q rest (a.put o.dst undef) (w.setRow g (plC sa sn sc ch ta tn tc na nn nc))):wpList Tryz.prog ops Q (o::rest) a w :=
 wpList_store_row hgd _ x y ho g _ hx hy _ old hg pln4 ho2 (plC_one _ _ _ _ _ _ _ _ _ _) h
def NoStr(cs:Array Value):Prop:=∀(o:Nat) (z:ByteArray),cs[o]? ≠ some (.string z)
theorem noStr_pl(sa:Option Addr)(sn sc:Nat)(ch:Bool)(ta:Option Addr)(tn tc:Nat)(na:Option Addr)(nn nc:Nat):NoStr (plC sa sn sc ch ta tn tc na nn nc):=by
 intro o z h;unfold plC at h
 rcases o with _|_|_|_|o
 all_goals first|(simp at h;done)|(cases h)
theorem QRow.apart{w:World}{a:Option Addr}{n c:Nat}{fB:Nat->Bool}{fS fT:Nat->ByteArray}{g:Nat}{t:TypeId}{cs:Array Value}(h:QRow w a n c fB fS fT)(hr:Row w g t cs)(hn:NoStr cs):n=0∨∀x,a=some x->x.block≠g:=by
 rcases Nat.eq_zero_or_pos n with h0|h0
 · exact .inl h0
 · obtain⟨b,off,rfl,_,hc⟩:=h.2.2.resolve_left (by omega);refine .inr fun x hx e => ?_
   obtain rfl:=Option.some.inj hx;have e:b=g:=e;subst e;have:=(hc 0 h0).2.1;rw[hr.cell]at this;exact hn _ _ this
theorem PlnAt.away{w w':World}{cs:Array Value}{S:Nat->Int}{r:Nat}{ch:Bool}{g:Nat->Int}{tn:Nat}{fB:Nat->Bool}{fS fT:Nat->ByteArray}{nn:Nat}(h:PlnAt w cs S r ch g tn fB fS fT nn){k:Nat}{t:TypeId}{cs0:Array Value}(hr:Row w k t cs0)(h1:NoInt cs0)(h2:NoStr cs0)(hf:Far k w w'):PlnAt w' cs S r ch g tn fB fS fT nn:=by
 obtain⟨sa,sc,ta,tc,na,nc,e,a1,a2,a3⟩:=h;exact⟨sa,sc,ta,tc,na,nc,e,a1.away (a1.apart hr h1) hf,a2.away (a2.apart hr h1) hf,a3.away (a3.apart hr h2) hf⟩
def plZer:Array Value:=plC none 0 0 false none 0 0 none 0 0
theorem ans_pln {w w3 : World} {cs : Array Value} {S : Nat -> Int} {r : Nat} {ch : Bool} {g : Nat -> Int} {tn : Nat} {fB : Nat -> Bool} {fS fT : Nat -> ByteArray} {nn : Nat} (h : PlnAt w3 cs S r ch g tn fB fS fT nn) (hb : Below w.heap.size w w3) {k : Nat} {t : TypeId} (hr0 : Row w3 k t plZer) (hk : w.heap.size <= k) :
    PlnTold S r ch g tn fB fS fT nn w (w3.setRow k cs) (.returned (.agg cs)) :=
 ⟨cs,rfl,h.away hr0 (noInt_pl _ _ _ _ _ _ _ _ _ _) (noStr_pl _ _ _ _ _ _ _ _ _ _) (Far.setRow _ _ _),below_put hb hk _⟩
theorem r6Ints_any (a : Option Addr) (n c : Nat) (g : Nat -> Int) (w : World) (h : KRow w .i64 a n c g) (hg : In64 g n) (hn : n <= 1000000) :
    Calls Tryz.prog 37 #[.slice a n c] w fun e w'=>∀T,PlnTold (fun _=>(n:Int)) 1 false T 0 (fun j=>rB (g j)) (fun j=>rS (g j)) (fun _=>str (dec 1)) n w w' e:=by
 have hl:=h.len;obtain⟨i0,hi,hz0,hz1,hz2⟩:=info_parts infoN;have FR:=Lib.hid (fun X wz hx=>r3From_any X wz hx);unfold NumTold at FR;have HG:=Lib.hid hg;have KR:=KRow.one (w.alloc (.cells plZer 26)) n 3;have BB:=Lib.hid ((((((Bag.start w).krow h).newRow plZer 26).alloc (.cells #[.int .i64 n] 3)).krow KR).newRow (plC (some ⟨w.heap.size+1,0,none⟩) 1 1 false none 0 0 none 0 0) 26);simp only[World.size_alloc]at BB;clear h hg KR;unfold plZer plC at BB;go_enter Tryz.func37,Tryz.ntmps37;go_wp2_with fail;generalize ((w.alloc (.cells #[.slice none 0 0,.bool false,.slice none 0 0,.slice none 0 0] 26)).alloc (.cells #[.int .i64 n] 3)).alloc (.cells #[.slice (some ⟨w.heap.size+1,0,none⟩) 1 1,.bool false,.slice none 0 0,.slice none 0 0] 26)=y0 at *
 go_loopw [4] (fun i wr=>∃(k:Nat) (a1:Option Addr) (c1:Nat),k<=n/\i=.int .i64 k/\Hid (Below w.heap.size w wr/\Far (w.heap.size+1+1) y0 wr/\Row wr (w.heap.size+1+1) 26 (plC (some ⟨w.heap.size+1,0,none⟩) 1 1 false none 0 0 a1 k c1)/\wr.ownsRow y0.heap.size 46 3 (.slice a1 k c1) k (qcs (fun j=>rB (g j)) (fun j=>rS (g j)) (fun _=>str (dec 1)) k))) (fun i _=>n-(intOf i).toNat)
 case atStart=>exact⟨0,none,0,by omega,rfl,BB.out.below,Far.refl _ _,BB.out.now.1,World.ownsRow_nil _ _ _ _⟩
 case round =>
  obtain⟨k,a1,c1,hk,rfl,hrel⟩:=hrel;obtain⟨hbl,hfar,hrp,hown⟩:=hrel.out;have hni:=noInt_pl (some ⟨w.heap.size+1,0,none⟩) 1 1 false none 0 0 none 0 0;have hsz:=BB.out.now.1.lt
  by_cases hlt:k<n
  · have hkr := BB.out.now.2.2.2.1.away (BB.out.now.2.2.2.1.apart BB.out.now.1 hni) hfar; obtain ⟨b, off, rfl, hb, hc⟩ := hkr.get hlt; have HX := Lib.hid (HG.out k hlt); have B1 := Lib.hid (((Bag.start wr).own hown).row hrp); have HBL := Lib.hid hbl; have HF := Lib.hid hfar; have qp : wr.cell? ⟨w.heap.size + 1 + 1, 3, none⟩ = some (.slice a1 k c1) := hrp.cell 3; have HMX := Lib.hid (show k + 1 <= maxLen by unfold maxLen; omega); have HMY := Lib.hid (show (k + 1) * 40 <= 140737488355328 by omega); have HONE := Lib.hid (show ∀ u ∈ ([.bool (rB (g k)), .string (rS (g k)), .string (str (dec 1))] : List Value), u.oneCell' = true by intro u hu; simp at hu; rcases hu with rfl | rfl | rfl <;> rfl); have hk0 : (0 : Int) <= k := by omega
    have hk1:(k:Int)<n:=by omega
    have hk2:(k:Int)<=n:=by omega
    clear hbl hfar hrp hown hkr hni;go_wp2_with fail
    go_region_law (first
     | (go_simp; go_at_call 57; (with_reducible refine (FR.out _ _ HX.out).mono ?_); rintro e w2 ⟨rfl, hb2⟩;
         have B2:=Lib.hid ((B1.out.drew.go hb2).newRow #[.bool (rB (g k)),.string (rS (g k)),.string (str (dec 1))] 46);
         have qp2:w2.cell? ⟨w.heap.size+1+1,3,none⟩=some (.slice a1 k c1):=(B1.out.drew.go hb2).now.1.cell 3;
         have qp3:(w2.alloc (.cells #[.bool (rB (g k)),.string (rS (g k)),.string (str (dec 1))] 46)).cell? ⟨w.heap.size+1+1,3,none⟩=some (.slice a1 k c1):=B2.out.now.2.1.cell 3;
         have HROW:=Lib.hid B2.out.now.2.1;
         have HOWN:=Lib.hid B2.out.now.2.2.1;
         have HNEW:=Lib.hid (World.news_of_block B2.out.now.1);
         have HBA:=Lib.hid (Nat.le_trans HF.out.size B2.out.below.size);
         have HNX:=Lib.hid (pl_step HBL.out HF.out B2.out.below HROW.out HOWN.out (by decide) (by omega) BB.out.below.size);
         clear hb2)
     | (refine step_append_lies _ rfl (.tmp 16) (.tmp 22) 24 rfl y0.heap.size 46 i0 _ 3 40 Tryz.underlying24 hi hz0 hz1 hz2 rfl (by omega) (.slice a1 k c1) k _ rfl HOWN.out ⟨w2.heap.size, 0, none⟩ 1 1 [.bool (rB (g k)), .string (rS (g k)), .string (str (dec 1))] rfl rfl HNEW.out HONE.out (by omega) HMX.out HMY.out HBA.out _ rfl ?_; intro g9 cap9 w3 hown3 hgrow hor hlt3;
         have hr3:=HROW.out.grown hgrow (HROW.out.apart HOWN.out (by decide));have qp:w3.cell? ⟨w.heap.size+1+1,3,none⟩=some (.slice a1 k c1):=hr3.cell 3;have fp:=hr3.free 3;have HN:=Lib.hid (HNX.out g9 cap9 w3 hown3 hgrow);clear hown3 hgrow hor hlt3 hr3))
    all_goals
     go_wp2
     go_roundw
     case rel=>exact⟨k+1,_,cap9,by omega,by go_num,HN.out⟩
     case measure=>simp[intOf];omega
  · obtain rfl:k=n:=by omega
    have hr0:Row wr w.heap.size 26 plZer:=(hfar.block _ (by omega) BB.out.now.2.2.1.lt).trans BB.out.now.2.2.1;have hks:=BB.out.now.2.1.away (BB.out.now.2.1.apart BB.out.now.1 hni) hfar;obtain⟨a9,c9,he,hq⟩:=QRow.of_own hown
    injection he with he1 _ he2
    subst he1 he2
    have HE:Hid (∀T,PlnTold (fun _=>(k:Int)) 1 false T 0 (fun j=>rB (g j)) (fun j=>rS (g j)) (fun _=>str (dec 1)) k w (wr.setRow w.heap.size (plC (some ⟨w.heap.size+1,0,none⟩) 1 1 false none 0 0 a1 k c1)) (.returned (.agg (plC (some ⟨w.heap.size+1,0,none⟩) 1 1 false none 0 0 a1 k c1)))) :=
     Lib.hid fun T=>ans_pln ⟨_,_,_,_,_,_,rfl,hks,KRow.nought _ _ _ _ (Nat.zero_le _) _,hq⟩ hbl hr0 (Nat.le_refl _)
    have HR0:=Lib.hid hr0;have HRP:=Lib.hid hrp;clear hbl hfar hrp hown hks hq hr0 hni
    go_wp2_with (first
     | (refine ld_pln rfl (.tmp 3) rfl (w.heap.size+1+1) rfl HRP.out ?_)
     | (refine st_pln rfl (.tmp 2) (.tmp 25) rfl w.heap.size rfl _ _ _ _ _ _ _ _ _ _ rfl HR0.out rfl ?_))
    exact bodyPost_ret (res_pln Tryz.results37 rfl (HR0.out.put _) rfl) rfl HE.out
end Go.Proofs.YtdmmenaejkpnjaaGreatDoor
