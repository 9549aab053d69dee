/-
  Texts of this seat, laid together.
-/
import Derived.Test.YtdmmenaejkpnjaaGreatDoorV7
set_option maxHeartbeats 12800000
set_option maxRecDepth 100000
set_option linter.unusedSimpArgs false
set_option linter.unusedVariables false
namespace Go.Proofs.YtdmmenaejkpnjaaGreatDoor
open Go.RowKit
attribute [local go_sem ↓] Go.wp_at_zero Go.wp_at_succ
def inP(P:Int)(Q:Nat):Int:=nwP (1*(Q:Int)) (P*((1:Nat):Int))
def inQ(P:Int)(Q:Nat):Nat:=nwQ (1*(Q:Int)) (P*((1:Nat):Int))
theorem inP_abs(P:Int)(Q:Nat):(inP P Q).natAbs<=Q:=by
 refine Nat.le_trans (loP_absle _ _) ?_;rw[upZ_abs,Int.one_mul,Int.natAbs_natCast];exact Nat.le_refl _
theorem inQ_le(P:Int)(Q:Nat):inQ P Q<=P.natAbs:=by
 refine Nat.le_trans (loQ_le _ _) ?_;rw[show((1:Nat):Int)=1 from rfl,Int.mul_one];exact Nat.le_refl _
theorem inQ_pos{P:Int}(Q:Nat)(h:P≠0):0<inQ P Q:=nwQ_pos _ (Int.mul_ne_zero h (by omega))
def sqP(P:Int)(Q:Nat):Int:=tmP P Q P Q
def sqQ(P:Int)(Q:Nat):Nat:=tmQ P Q P Q
def poP(P:Int)(Q:Nat)(n most:Int):Int:=if 0<=n then raP P Q n most else if P=0 then 0 else if n = -9223372036854775808 then raP (sqP (inP P Q) (inQ P Q)) (sqQ (inP P Q) (inQ P Q)) 4611686018427387904 most else raP (inP P Q) (inQ P Q) (-n) most
def poQ(P:Int)(Q:Nat)(n most:Int):Nat:=if 0<=n then raQ P Q n most else if P=0 then 1 else if n = -9223372036854775808 then raQ (sqP (inP P Q) (inQ P Q)) (sqQ (inP P Q) (inQ P Q)) 4611686018427387904 most else raQ (inP P Q) (inQ P Q) (-n) most
def poO(P:Int)(Q:Nat)(n most:Int):Bool:=if 0<=n then raO P Q n most else if P=0 then false else if n = -9223372036854775808 then raO (sqP (inP P Q) (inQ P Q)) (sqQ (inP P Q) (inQ P Q)) 4611686018427387904 most else raO (inP P Q) (inQ P Q) (-n) most
theorem pow_up (a : Option Addr) (n c : Nat) (m : Bool) (a2 : Option Addr) (n2 c2 : Nat) (P : Int) (Q : Nat) (N most : Int) (w : World) (h : RatAt w a n c m a2 n2 c2 P Q) (hQ : 0 < Q) (hl : dl P.natAbs <= 60) (hl2 : dl Q <= 60)
    (hN0:0<=N) (hN:N<=9223372036854775807) (hm:most<=64) (hm0 : -9223372036854775808<=most) :
    Calls Tryz.prog 226 #[.agg #[.slice a n c,.bool m,.slice a2 n2 c2],.int .i64 N,.int .i64 most] w fun e w'=>RatTold3 w w' e (raP P Q N most) (raQ P Q N most) (raO P Q N most):=by
 have BB:=Lib.hid ((Bag.start w).rat h |>.box3 (.slice a n c) (.bool m) (.slice a2 n2 c2) 53 |>.box3 (.slice none 0 0) (.bool false) (.slice none 0 0) 53);simp only[World.size_alloc]at BB;have RA:=Lib.hid (fun wz (h:RatAt wz a n c m a2 n2 c2 P Q)=>raised_any a n c m a2 n2 c2 P Q N most wz h hQ (by omega) (by omega) hN0 hN hm hm0);unfold RatTold3 at RA;generalize raP P Q N most=Z1 at *;generalize raQ P Q N most=Z2 at *;generalize raO P Q N most=z3 at *;have⟨q0,q1,q2⟩:=BB.out.now.2.1.c3;clear h hQ hl hl2 hm hm0;go_enter Tryz.func226,Tryz.ntmps226;go_wp2_with fail;go_at_call 249;refine(RA.out _ BB.out.now.2.2.1).mono ?_;rintro e w2 ⟨a3,n3,c3,m3,a4,n4,c4,rfl,hr,hb2⟩;have BB:=bgo BB hb2;have hs:=BB.out.now.1;have⟨r0,r1,r2,g0,g1,g2⟩:=hs.s6;have HS:=hs.set (.slice a3 n3 c3) (.bool m3) (.slice a4 n4 c4);have HE:=Lib.hid (RatTold3.done z3 BB.out.below (by omega) hs hr);clear hs hr;go_wp2;exact bodyPost_ret (by simp[results,Tryz.results226,go_sem,HS]) rfl HE.out
theorem pow_nought(a:Option Addr)(n c:Nat)(m:Bool)(a2:Option Addr)(n2 c2:Nat)(Q:Nat)(N most:Int)(w:World)(h:RatAt w a n c m a2 n2 c2 0 Q)(hQ:0<Q)(hl2:dl Q<=60)(hN0:¬0<=N):Calls Tryz.prog 226 #[.agg #[.slice a n c,.bool m,.slice a2 n2 c2],.int .i64 N,.int .i64 most] w fun e w'=>RatTold3 w w' e 0 1 false:=by
 have BB:=Lib.hid ((Bag.start w).rat h |>.box3 (.slice a n c) (.bool m) (.slice a2 n2 c2) 53 |>.box3 (.slice none 0 0) (.bool false) (.slice none 0 0) 53);simp only[World.size_alloc]at BB;have FR:=Lib.hid (fun wz=>ratFrom_any 1 wz (by omega));have hQK:Q<4294967296^7:=Nat.lt_of_lt_of_le (dl_lt Q) (Nat.le_trans (Nat.pow_le_pow_right (by omega) hl2) (by decide));have BY:=Lib.hid (fun a' n' c' m' a2' n2' c2' wz (h:RatAt wz a' n' c' m' a2' n2' c2' 1 1) (g:RatAt wz a n c m a2 n2 c2 0 Q)=>by_zero a' n' c' m' a2' n2' c2' 1 1 a n c m a2 n2 c2 Q wz h g (by omega) hQ 7 (by omega) (by decide) (by decide) hQK);obtain⟨U1,hU1⟩:∃U1:Int,U1=0:=⟨_,rfl⟩
 obtain⟨U2,hU2⟩:∃U2:Nat,U2=1:=⟨_,rfl⟩
 have BY:Hid (∀a' n' c' m' a2' n2' c2' wz,RatAt wz a' n' c' m' a2' n2' c2' 1 1->RatAt wz a n c m a2 n2 c2 0 Q->Calls Tryz.prog 223 #[.agg #[.slice a' n' c',.bool m',.slice a2' n2' c2'],.agg #[.slice a n c,.bool m,.slice a2 n2 c2]] wz fun e w'=>RatTold3 wz w' e U1 U2 false):=fun a' n' c' m' a2' n2' c2' wz h g=>by subst hU1;subst hU2;exact BY.out a' n' c' m' a2' n2' c2' wz h g
 clear h hQ hl2 hQK hU1 hU2;unfold RatTold3 at BY;have⟨q0,q1,q2⟩:=BB.out.now.2.1.c3;go_enter Tryz.func226,Tryz.ntmps226
 have HP:Hid (∀(y:World) (k:Nat),Slot3 y k (.slice none 0 0) (.bool false) (.slice none 0 0)->w.heap.size+1<k->Bag w (fun y=>Slot3 y (w.heap.size+1) (.slice none 0 0) (.bool false) (.slice none 0 0)/\Slot3 y w.heap.size (.slice a n c) (.bool m) (.slice a2 n2 c2)/\RatAt y a n c m a2 n2 c2 0 Q/\True) y->∀(a9:Option Addr) (n9 c9:Nat) (m9:Bool) (a10:Option Addr) (n10 c10:Nat),Bag w (fun y=>Slot3 y (w.heap.size+1) (.slice none 0 0) (.bool false) (.slice none 0 0)/\Slot3 y w.heap.size (.slice a n c) (.bool m) (.slice a2 n2 c2)/\RatAt y a n c m a2 n2 c2 0 Q/\True) (((y.setCell ⟨k,0,none⟩ (.slice a9 n9 c9)).setCell ⟨k,1,none⟩ (.bool m9)).setCell ⟨k,2,none⟩ (.slice a10 n10 c10))):=by
  intro y k s hk B a9 n9 c9 m9 a10 n10 c10;have q:=B.now;exact⟨((B.below.setCell (p:=⟨k,0,none⟩) (show w.heap.size<=k by omega) _).setCell (p:=⟨k,1,none⟩) (show w.heap.size<=k by omega) _).setCell (p:=⟨k,2,none⟩) (show w.heap.size<=k by omega) _,B.stay,q.1.set3o (by omega) _ _ _,q.2.1.set3o (by omega) _ _ _,q.2.2.1.set3 s _ _ _,trivial⟩
 have HC:Hid (∀y,(fun y=>Slot3 y (w.heap.size+1) (.slice none 0 0) (.bool false) (.slice none 0 0)/\Slot3 y w.heap.size (.slice a n c) (.bool m) (.slice a2 n2 c2)/\RatAt y a n c m a2 n2 c2 0 Q/\True) y->(y.cell? ⟨w.heap.size,0,none⟩=some (.slice a n c)/\y.cell? ⟨w.heap.size,1,none⟩=some (.bool m)/\y.cell? ⟨w.heap.size,2,none⟩=some (.slice a2 n2 c2))):=fun y h=>⟨h.2.1.cell,h.2.1.cell1,h.2.1.cell2⟩
 go_wp2_with fail;refine wp_capture (fun R hR => ?_)
 have TL:∀(k8:Nat) (a3:Option Addr) (n3 c3:Nat) (m3:Bool) (a4:Option Addr) (n4 c4:Nat) (a5:Option Addr) (n5 c5:Nat) (m5:Bool) (a6:Option Addr) (n6 c6:Nat) (wy:World),Bag w (fun y=>Slot3 y (w.heap.size+1) (.slice none 0 0) (.bool false) (.slice none 0 0)/\Slot3 y w.heap.size (.slice a n c) (.bool m) (.slice a2 n2 c2)/\RatAt y a n c m a2 n2 c2 0 Q/\True) wy->Slot3 wy k8 (.slice a5 n5 c5) (.bool m5) (.slice a6 n6 c6)->RatAt wy a5 n5 c5 m5 a6 n6 c6 U1 U2->w.heap.size+1<k8->R .normal { tmps:=#[Value.agg #[Value.slice a n c,Value.bool m,Value.slice a2 n2 c2],Value.int IntKind.i64 N,Value.int IntKind.i64 most,Value.pointer (some { block:=w.heap.size,off:=0 }),undef,undef,Value.pointer (some { block:=w.heap.size+1,off:=0 }),Value.bool false,Value.pointer (some { block:=k8,off:=0 }),Value.bool false,Value.int IntKind.i64 N,Value.bool false,undef,undef,undef,undef,undef,undef,Value.tuple #[Value.agg #[Value.slice a5 n5 c5,Value.bool m5,Value.slice a6 n6 c6],Value.bool false],Value.agg #[Value.slice a3 n3 c3,Value.bool m3,Value.slice a4 n4 c4],Value.agg #[Value.slice a n c,Value.bool m,Value.slice a2 n2 c2],Value.tuple #[Value.agg #[Value.slice a5 n5 c5,Value.bool m5,Value.slice a6 n6 c6],Value.bool false],Value.agg #[Value.slice a5 n5 c5,Value.bool m5,Value.slice a6 n6 c6],Value.bool false,undef,undef,undef,undef,undef,undef,undef,undef,undef,undef,undef,undef,undef,undef,undef,undef,undef,undef,undef,undef,undef,undef,undef,undef,undef],defers := [] } wy:=by
  intro k8 a3 n3 c3 m3 a4 n4 c4 a5 n5 c5 m5 a6 n6 c6 wy B1 sA hr5 hk8;rw[hR];have BB:=Lib.hid (B1.slot3 sA);clear B1 sA;have hs:=BB.out.now.2.1;have⟨r0,r1,r2,g0,g1,g2⟩:=hs.s6;have HS:=hs.set (.slice none 0 0) (.bool false) (.slice none 0 0);have HE:=Lib.hid (RatTold3.done false BB.out.below (by omega) hs (RatAt.zero _));clear hs;go_wp2;exact bodyPost_ret (v:=.tuple #[.agg #[.slice none 0 0,.bool false,.slice none 0 0],.bool false]) (by simp[results,Tryz.results226,go_sem,HS]) rfl HE.out
 refine wp_region_noPanic ?_
 refine wp_region_held_drew (S:=(fun y=>(y.cell? ⟨w.heap.size,0,none⟩=some (.slice a n c)/\y.cell? ⟨w.heap.size,1,none⟩=some (.bool m)/\y.cell? ⟨w.heap.size,2,none⟩=some (.slice a2 n2 c2))/\Bag w (fun y=>Slot3 y (w.heap.size+1) (.slice none 0 0) (.bool false) (.slice none 0 0)/\Slot3 y w.heap.size (.slice a n c) (.bool m) (.slice a2 n2 c2)/\RatAt y a n c m a2 n2 c2 0 Q/\True) y)) (by kernel_rfl) ?_ (fun _ => ?_)
 · exact(have B9:=BB.out.drew;⟨HC.out _ B9.now,B9⟩)
 have hH:(((w.alloc (.cells #[.slice a n c,.bool m,.slice a2 n2 c2] 53)).alloc (.cells #[.slice none 0 0,.bool false,.slice none 0 0] 53)).drew.cell? ⟨w.heap.size,0,none⟩=some (.slice a n c)/\((w.alloc (.cells #[.slice a n c,.bool m,.slice a2 n2 c2] 53)).alloc (.cells #[.slice none 0 0,.bool false,.slice none 0 0] 53)).drew.cell? ⟨w.heap.size,1,none⟩=some (.bool m)/\((w.alloc (.cells #[.slice a n c,.bool m,.slice a2 n2 c2] 53)).alloc (.cells #[.slice none 0 0,.bool false,.slice none 0 0] 53)).drew.cell? ⟨w.heap.size,2,none⟩=some (.slice a2 n2 c2))/\Bag w (fun y=>Slot3 y (w.heap.size+1) (.slice none 0 0) (.bool false) (.slice none 0 0)/\Slot3 y w.heap.size (.slice a n c) (.bool m) (.slice a2 n2 c2)/\RatAt y a n c m a2 n2 c2 0 Q/\True) ((w.alloc (.cells #[.slice a n c,.bool m,.slice a2 n2 c2] 53)).alloc (.cells #[.slice none 0 0,.bool false,.slice none 0 0] 53)).drew:=(have B9:=BB.out.drew;⟨HC.out _ B9.now,B9⟩)
 generalize hw1:((w.alloc (.cells #[.slice a n c,.bool m,.slice a2 n2 c2] 53)).alloc (.cells #[.slice none 0 0,.bool false,.slice none 0 0] 53)).drew=w1 at *;refine wpAnyH_take (i:=1) (oi:=⟨some 20,Op.load 53 (Operand.tmp 3),53,_,_,none⟩) (v := ?v1) rfl (by kernel_rfl) (by kernel_rfl) (by kernel_rfl) (fun _ _ _ h=>h) (Or.inl ⟨by rfl,?hy1⟩) hH ?_
 case hy1 =>
  intro y hy
  (try dsimp only at hy)
  go_simp
  try with_reducible rfl
 try simp only[Act.put,lsa,lsz,lsc]
 refine wpAnyH_ready (rs := [0,6]) (by kernel_rfl) (by simp) ?_
 refine AllReadyH.cons rfl (fun K hK => ?_) ?_
 · go_simp
   (go_at_call 56;(with_reducible refine(FR.out _).mono ?_);rintro e wy0 ⟨a3,n3,c3,m3,a4,n4,c4,rfl,hr3,hbz⟩)
   refine hK.out _ _ ?_ (fun hH => ?_)
   · exact(have B9:=Bag.go hH.2 hbz;⟨HC.out _ B9.now,B9⟩)
   clear hK K
   try simp only[Act.put,lsa,lsz,lsc]
   refine wpAnyH_ready (rs := [2,6]) (by kernel_rfl) (by simp) ?_
   refine AllReadyH.cons rfl (fun K hK => ?_) ?_
   · go_simp
     (go_at_call 223;(with_reducible refine(BY.out _ _ _ _ _ _ _ _ (RatAt.below hr3 (by exact Below.refl _ _)) hH.2.now.2.2.1).mono ?_);rintro e wy2 ⟨a5,n5,c5,m5,a6,n6,c6,rfl,hr5,hbz⟩)
     refine hK.out _ _ ?_ (fun hH => ?_)
     · exact(have B9:=Bag.go hH.2 hbz;⟨HC.out _ B9.now,B9⟩)
     clear hK K
     try simp only[Act.put,lsa,lsz,lsc]
     refine wpAnyH_take (i:=3) (oi:=⟨some 18,Op.move (Operand.tmp 21),54,_,_,none⟩) (v := ?v2) rfl (by kernel_rfl) (by kernel_rfl) (by kernel_rfl) (fun _ _ _ h=>h) (Or.inl ⟨by rfl,?hy2⟩) hH ?_
     case hy2 =>
      intro y hy
      (try dsimp only at hy)
      go_simp
      try with_reducible rfl
     try simp only[Act.put,lsa,lsz,lsc]
     refine wpAnyH_take (i:=4) (oi:=⟨some 22,Op.extract (Operand.tmp 18) 0,53,_,_,none⟩) (v := ?v3) rfl (by kernel_rfl) (by kernel_rfl) (by kernel_rfl) (fun _ _ _ h=>h) (Or.inl ⟨by rfl,?hy3⟩) hH ?_
     case hy3 =>
      intro y hy
      (try dsimp only at hy)
      go_simp
      try with_reducible rfl
     try simp only[Act.put,lsa,lsz,lsc]
     refine wpAnyH_take (i:=5) (oi:=⟨some 23,Op.extract (Operand.tmp 18) 1,4,_,_,none⟩) (v := ?v4) rfl (by kernel_rfl) (by kernel_rfl) (by kernel_rfl) (fun _ _ _ h=>h) (Or.inl ⟨by rfl,?hy4⟩) hH ?_
     case hy4 =>
      intro y hy
      (try dsimp only at hy)
      go_simp
      try with_reducible rfl
     try simp only[Act.put,lsa,lsz,lsc]
     refine wpAnyH_ready (rs := [6]) (by kernel_rfl) (by simp) ?_;refine AllReadyH.cons rfl (fun K hK => ?_) AllReadyH.nil;have hkA:=hH.2.now.1.lt;have sA:=Slot3.new wy2 (.slice none 0 0) (.bool false) (.slice none 0 0) 53;go_simp
     refine hK.out _ _ ?_ (fun hH => ?_)
     · exact(have B9:=Bag.alloc hH.2 _;⟨HC.out _ B9.now,B9⟩)
     clear hK K
     try simp only[Act.put,lsa,lsz,lsc]
     refine wpAnyH_ready (rs := [7]) (by kernel_rfl) (by simp) ?_;refine AllReadyH.cons (o:=⟨none,Op.store 53 (Operand.tmp 8) (Operand.tmp 22),0,_,_,none⟩) rfl (fun K hK => ?_) AllReadyH.nil;have hr5:=hr5.below (show Below wy2.heap.size wy2 (World.alloc wy2 (.cells #[.slice none 0 0,.bool false,.slice none 0 0] 53))from by refine Below.more ?_ _;exact Below.refl _ _);generalize hww:(World.alloc wy2 (.cells #[.slice none 0 0,.bool false,.slice none 0 0] 53))=ww at *;have⟨l0,l1,l2,f0,f1,f2⟩:=sA.s6;have B9s:=HP.out _ _ sA (by omega) hH.2 a5 n5 c5 m5 a6 n6 c6;have hr5:=RatAt.set3 hr5 sA (.slice a5 n5 c5) (.bool m5) (.slice a6 n6 c6);have sA:=(sA.set2 (.slice a5 n5 c5) (.bool m5)).set1 (.slice a6 n6 c6);go_simp
     refine hK.out _ _ ?_ (fun hH => ?_)
     · exact⟨HC.out _ B9s.now,B9s⟩
     clear hK K
     try simp only[Act.put,lsa,lsz,lsc]
     refine wpAnyH_take (i:=8) (oi:=⟨some 9,Op.assign (Operand.tmp 23),4,_,_,none⟩) (v := ?v5) rfl (by kernel_rfl) (by kernel_rfl) (by kernel_rfl) (fun _ _ _ h=>h) (Or.inl ⟨by rfl,?hy5⟩) hH ?_
     case hy5 =>
      intro y hy
      (try dsimp only at hy)
      go_simp
      try with_reducible rfl
     try simp only[Act.put,lsa,lsz,lsc]
     refine wpAnyH_done (by kernel_rfl) ?_ _;refine NoPanic.normal ?_;exact TL _ _ _ _ _ _ _ _ _ _ _ _ _ _ _ _ hH.2 sA hr5 (by omega)
   refine AllReadyH.cons rfl (fun K hK => ?_) ?_
   · have hkA:=hH.2.now.1.lt;have sA:=Slot3.new wy0 (.slice none 0 0) (.bool false) (.slice none 0 0) 53;go_simp
     refine hK.out _ _ ?_ (fun hH => ?_)
     · exact(have B9:=Bag.alloc hH.2 _;⟨HC.out _ B9.now,B9⟩)
     clear hK K
     try simp only[Act.put,lsa,lsz,lsc]
     refine wpAnyH_ready (rs := [2]) (by kernel_rfl) (by simp) ?_;refine AllReadyH.cons rfl (fun K hK => ?_) AllReadyH.nil;go_simp
     (go_at_call 223;(with_reducible refine(BY.out _ _ _ _ _ _ _ _ (RatAt.below hr3 (by refine Below.more ?_ _;exact Below.refl _ _)) hH.2.now.2.2.1).mono ?_);rintro e wy2 ⟨a5,n5,c5,m5,a6,n6,c6,rfl,hr5,hbz⟩);have sA:=sA.below hbz
     refine hK.out _ _ ?_ (fun hH => ?_)
     · exact(have B9:=Bag.go hH.2 hbz;⟨HC.out _ B9.now,B9⟩)
     clear hK K
     try simp only[Act.put,lsa,lsz,lsc]
     refine wpAnyH_take (i:=3) (oi:=⟨some 18,Op.move (Operand.tmp 21),54,_,_,none⟩) (v := ?v6) rfl (by kernel_rfl) (by kernel_rfl) (by kernel_rfl) (fun _ _ _ h=>h) (Or.inl ⟨by rfl,?hy6⟩) hH ?_
     case hy6 =>
      intro y hy
      (try dsimp only at hy)
      go_simp
      try with_reducible rfl
     try simp only[Act.put,lsa,lsz,lsc]
     refine wpAnyH_take (i:=4) (oi:=⟨some 22,Op.extract (Operand.tmp 18) 0,53,_,_,none⟩) (v := ?v7) rfl (by kernel_rfl) (by kernel_rfl) (by kernel_rfl) (fun _ _ _ h=>h) (Or.inl ⟨by rfl,?hy7⟩) hH ?_
     case hy7 =>
      intro y hy
      (try dsimp only at hy)
      go_simp
      try with_reducible rfl
     try simp only[Act.put,lsa,lsz,lsc]
     refine wpAnyH_take (i:=5) (oi:=⟨some 23,Op.extract (Operand.tmp 18) 1,4,_,_,none⟩) (v := ?v8) rfl (by kernel_rfl) (by kernel_rfl) (by kernel_rfl) (fun _ _ _ h=>h) (Or.inl ⟨by rfl,?hy8⟩) hH ?_
     case hy8 =>
      intro y hy
      (try dsimp only at hy)
      go_simp
      try with_reducible rfl
     try simp only[Act.put,lsa,lsz,lsc]
     refine wpAnyH_ready (rs := [7]) (by kernel_rfl) (by simp) ?_;refine AllReadyH.cons (o:=⟨none,Op.store 53 (Operand.tmp 8) (Operand.tmp 22),0,_,_,none⟩) rfl (fun K hK => ?_) AllReadyH.nil;have⟨l0,l1,l2,f0,f1,f2⟩:=sA.s6;have B9s:=HP.out _ _ sA (by omega) hH.2 a5 n5 c5 m5 a6 n6 c6;have hr5:=RatAt.set3 hr5 sA (.slice a5 n5 c5) (.bool m5) (.slice a6 n6 c6);have sA:=(sA.set2 (.slice a5 n5 c5) (.bool m5)).set1 (.slice a6 n6 c6);go_simp
     refine hK.out _ _ ?_ (fun hH => ?_)
     · exact⟨HC.out _ B9s.now,B9s⟩
     clear hK K
     try simp only[Act.put,lsa,lsz,lsc]
     refine wpAnyH_take (i:=8) (oi:=⟨some 9,Op.assign (Operand.tmp 23),4,_,_,none⟩) (v := ?v9) rfl (by kernel_rfl) (by kernel_rfl) (by kernel_rfl) (fun _ _ _ h=>h) (Or.inl ⟨by rfl,?hy9⟩) hH ?_
     case hy9 =>
      intro y hy
      (try dsimp only at hy)
      go_simp
      try with_reducible rfl
     try simp only[Act.put,lsa,lsz,lsc]
     refine wpAnyH_done (by kernel_rfl) ?_ _;refine NoPanic.normal ?_;exact TL _ _ _ _ _ _ _ _ _ _ _ _ _ _ _ _ hH.2 sA hr5 (by omega)
   exact AllReadyH.nil
 refine AllReadyH.cons rfl (fun K hK => ?_) ?_
 · have hkA:=hH.2.now.1.lt;have sA:=Slot3.new w1 (.slice none 0 0) (.bool false) (.slice none 0 0) 53;go_simp
   refine hK.out _ _ ?_ (fun hH => ?_)
   · exact(have B9:=Bag.alloc hH.2 _;⟨HC.out _ B9.now,B9⟩)
   clear hK K
   try simp only[Act.put,lsa,lsz,lsc]
   refine wpAnyH_ready (rs := [0]) (by kernel_rfl) (by simp) ?_;refine AllReadyH.cons rfl (fun K hK => ?_) AllReadyH.nil;go_simp
   (go_at_call 56;(with_reducible refine(FR.out _).mono ?_);rintro e wy0 ⟨a3,n3,c3,m3,a4,n4,c4,rfl,hr3,hbz⟩);have sA:=sA.below hbz
   refine hK.out _ _ ?_ (fun hH => ?_)
   · exact(have B9:=Bag.go hH.2 hbz;⟨HC.out _ B9.now,B9⟩)
   clear hK K
   try simp only[Act.put,lsa,lsz,lsc]
   refine wpAnyH_ready (rs := [2]) (by kernel_rfl) (by simp) ?_;refine AllReadyH.cons rfl (fun K hK => ?_) AllReadyH.nil;go_simp
   (go_at_call 223;(with_reducible refine(BY.out _ _ _ _ _ _ _ _ (RatAt.below hr3 (by exact Below.refl _ _)) hH.2.now.2.2.1).mono ?_);rintro e wy2 ⟨a5,n5,c5,m5,a6,n6,c6,rfl,hr5,hbz⟩);have sA:=sA.below hbz
   refine hK.out _ _ ?_ (fun hH => ?_)
   · exact(have B9:=Bag.go hH.2 hbz;⟨HC.out _ B9.now,B9⟩)
   clear hK K
   try simp only[Act.put,lsa,lsz,lsc]
   refine wpAnyH_take (i:=3) (oi:=⟨some 18,Op.move (Operand.tmp 21),54,_,_,none⟩) (v := ?v10) rfl (by kernel_rfl) (by kernel_rfl) (by kernel_rfl) (fun _ _ _ h=>h) (Or.inl ⟨by rfl,?hy10⟩) hH ?_
   case hy10 =>
    intro y hy
    (try dsimp only at hy)
    go_simp
    try with_reducible rfl
   try simp only[Act.put,lsa,lsz,lsc]
   refine wpAnyH_take (i:=4) (oi:=⟨some 22,Op.extract (Operand.tmp 18) 0,53,_,_,none⟩) (v := ?v11) rfl (by kernel_rfl) (by kernel_rfl) (by kernel_rfl) (fun _ _ _ h=>h) (Or.inl ⟨by rfl,?hy11⟩) hH ?_
   case hy11 =>
    intro y hy
    (try dsimp only at hy)
    go_simp
    try with_reducible rfl
   try simp only[Act.put,lsa,lsz,lsc]
   refine wpAnyH_take (i:=5) (oi:=⟨some 23,Op.extract (Operand.tmp 18) 1,4,_,_,none⟩) (v := ?v12) rfl (by kernel_rfl) (by kernel_rfl) (by kernel_rfl) (fun _ _ _ h=>h) (Or.inl ⟨by rfl,?hy12⟩) hH ?_
   case hy12 =>
    intro y hy
    (try dsimp only at hy)
    go_simp
    try with_reducible rfl
   try simp only[Act.put,lsa,lsz,lsc]
   refine wpAnyH_ready (rs := [7]) (by kernel_rfl) (by simp) ?_;refine AllReadyH.cons (o:=⟨none,Op.store 53 (Operand.tmp 8) (Operand.tmp 22),0,_,_,none⟩) rfl (fun K hK => ?_) AllReadyH.nil;have⟨l0,l1,l2,f0,f1,f2⟩:=sA.s6;have B9s:=HP.out _ _ sA (by omega) hH.2 a5 n5 c5 m5 a6 n6 c6;have hr5:=RatAt.set3 hr5 sA (.slice a5 n5 c5) (.bool m5) (.slice a6 n6 c6);have sA:=(sA.set2 (.slice a5 n5 c5) (.bool m5)).set1 (.slice a6 n6 c6);go_simp
   refine hK.out _ _ ?_ (fun hH => ?_)
   · exact⟨HC.out _ B9s.now,B9s⟩
   clear hK K
   try simp only[Act.put,lsa,lsz,lsc]
   refine wpAnyH_take (i:=8) (oi:=⟨some 9,Op.assign (Operand.tmp 23),4,_,_,none⟩) (v := ?v13) rfl (by kernel_rfl) (by kernel_rfl) (by kernel_rfl) (fun _ _ _ h=>h) (Or.inl ⟨by rfl,?hy13⟩) hH ?_
   case hy13 =>
    intro y hy
    (try dsimp only at hy)
    go_simp
    try with_reducible rfl
   try simp only[Act.put,lsa,lsz,lsc]
   refine wpAnyH_done (by kernel_rfl) ?_ _;refine NoPanic.normal ?_;exact TL _ _ _ _ _ _ _ _ _ _ _ _ _ _ _ _ hH.2 sA hr5 (by omega)
 exact AllReadyH.nil
theorem pow_neg(a:Option Addr)(n c:Nat)(m:Bool)(a2:Option Addr)(n2 c2:Nat)(P:Int)(Q:Nat)(N most:Int)(w:World)(h:RatAt w a n c m a2 n2 c2 P Q)(hQ:0<Q)(hP:P≠0)(hl:dl P.natAbs<=60)(hl2:dl Q<=60)(hN0:¬0<=N)(hN : -9223372036854775808<N)(hm:most<=64)(hm0 : -9223372036854775808<=most):Calls Tryz.prog 226 #[.agg #[.slice a n c,.bool m,.slice a2 n2 c2],.int .i64 N,.int .i64 most] w fun e w'=>RatTold3 w w' e (raP (inP P Q) (inQ P Q) (-N) most) (raQ (inP P Q) (inQ P Q) (-N) most) (raO (inP P Q) (inQ P Q) (-N) most):=by
 have BB:=Lib.hid ((Bag.start w).rat h |>.box3 (.slice a n c) (.bool m) (.slice a2 n2 c2) 53 |>.box3 (.slice none 0 0) (.bool false) (.slice none 0 0) 53);simp only[World.size_alloc]at BB;have FR:=Lib.hid (fun wz=>ratFrom_any 1 wz (by omega));have hQK:Q<4294967296^7:=Nat.lt_of_lt_of_le (dl_lt Q) (Nat.le_trans (Nat.pow_le_pow_right (by omega) hl2) (by decide));have hPK:P.natAbs<4294967296^7:=Nat.lt_of_lt_of_le (dl_lt _) (Nat.le_trans (Nat.pow_le_pow_right (by omega) hl) (by decide));have BY:=Lib.hid (fun a' n' c' m' a2' n2' c2' wz (h:RatAt wz a' n' c' m' a2' n2' c2' 1 1) (g:RatAt wz a n c m a2 n2 c2 P Q)=>by_some a' n' c' m' a2' n2' c2' 1 1 a n c m a2 n2 c2 P Q wz h g (by omega) hQ hP 7 (by omega) (by decide) (by decide) hPK hQK);rw[show nwP (1*(Q:Int)) (P*((1:Nat):Int))=inP P Q from rfl,show nwQ (1*(Q:Int)) (P*((1:Nat):Int))=inQ P Q from rfl]at BY;have hd1:dl (inP P Q).natAbs<=60:=Nat.le_trans (dl_mono (inP_abs P Q)) hl2;have hd2:dl (inQ P Q)<=60:=Nat.le_trans (dl_mono (inQ_le P Q)) hl;have hp:=inQ_pos Q hP;have RA:=Lib.hid (fun a n c m a2 n2 c2 wz (h:RatAt wz a n c m a2 n2 c2 (inP P Q) (inQ P Q))=>raised_any a n c m a2 n2 c2 (inP P Q) (inQ P Q) (-N) most wz h hp (by omega) (by omega) (by omega) (by omega) hm hm0);unfold RatTold3 at RA;generalize raP (inP P Q) (inQ P Q) (-N) most=Z1 at *;generalize raQ (inP P Q) (inQ P Q) (-N) most=Z2 at *;generalize raO (inP P Q) (inQ P Q) (-N) most=z3 at *;generalize inP P Q=U1 at *;generalize inQ P Q=U2 at *;obtain⟨N',hN'⟩:∃N', -N=N':=⟨_,rfl⟩
 have hw:IntKind.i64.wrap (-N)=N':=by rw[IntWalk.i64_in _ (by omega)];exact hN'
 rw[hN']at RA;have hne:N ≠ -9223372036854775808:=by omega
 clear h hQ hl hl2 hQK hPK hd1 hd2 hp hP hm hm0;unfold RatTold3 at BY;have⟨q0,q1,q2⟩:=BB.out.now.2.1.c3;go_enter Tryz.func226,Tryz.ntmps226
 have HP:Hid (∀(y:World) (k:Nat),Slot3 y k (.slice none 0 0) (.bool false) (.slice none 0 0)->w.heap.size+1<k->Bag w (fun y=>Slot3 y (w.heap.size+1) (.slice none 0 0) (.bool false) (.slice none 0 0)/\Slot3 y w.heap.size (.slice a n c) (.bool m) (.slice a2 n2 c2)/\RatAt y a n c m a2 n2 c2 P Q/\True) y->∀(a9:Option Addr) (n9 c9:Nat) (m9:Bool) (a10:Option Addr) (n10 c10:Nat),Bag w (fun y=>Slot3 y (w.heap.size+1) (.slice none 0 0) (.bool false) (.slice none 0 0)/\Slot3 y w.heap.size (.slice a n c) (.bool m) (.slice a2 n2 c2)/\RatAt y a n c m a2 n2 c2 P Q/\True) (((y.setCell ⟨k,0,none⟩ (.slice a9 n9 c9)).setCell ⟨k,1,none⟩ (.bool m9)).setCell ⟨k,2,none⟩ (.slice a10 n10 c10))):=by
  intro y k s hk B a9 n9 c9 m9 a10 n10 c10;have q:=B.now;exact⟨((B.below.setCell (p:=⟨k,0,none⟩) (show w.heap.size<=k by omega) _).setCell (p:=⟨k,1,none⟩) (show w.heap.size<=k by omega) _).setCell (p:=⟨k,2,none⟩) (show w.heap.size<=k by omega) _,B.stay,q.1.set3o (by omega) _ _ _,q.2.1.set3o (by omega) _ _ _,q.2.2.1.set3 s _ _ _,trivial⟩
 have HC:Hid (∀y,(fun y=>Slot3 y (w.heap.size+1) (.slice none 0 0) (.bool false) (.slice none 0 0)/\Slot3 y w.heap.size (.slice a n c) (.bool m) (.slice a2 n2 c2)/\RatAt y a n c m a2 n2 c2 P Q/\True) y->(y.cell? ⟨w.heap.size,0,none⟩=some (.slice a n c)/\y.cell? ⟨w.heap.size,1,none⟩=some (.bool m)/\y.cell? ⟨w.heap.size,2,none⟩=some (.slice a2 n2 c2))):=fun y h=>⟨h.2.1.cell,h.2.1.cell1,h.2.1.cell2⟩
 go_wp2_with fail;refine wp_capture (fun R hR => ?_)
 have TL:∀(k8:Nat) (a3:Option Addr) (n3 c3:Nat) (m3:Bool) (a4:Option Addr) (n4 c4:Nat) (a5:Option Addr) (n5 c5:Nat) (m5:Bool) (a6:Option Addr) (n6 c6:Nat) (wy:World),Bag w (fun y=>Slot3 y (w.heap.size+1) (.slice none 0 0) (.bool false) (.slice none 0 0)/\Slot3 y w.heap.size (.slice a n c) (.bool m) (.slice a2 n2 c2)/\RatAt y a n c m a2 n2 c2 P Q/\True) wy->Slot3 wy k8 (.slice a5 n5 c5) (.bool m5) (.slice a6 n6 c6)->RatAt wy a5 n5 c5 m5 a6 n6 c6 U1 U2->w.heap.size+1<k8->R .normal { tmps:=#[Value.agg #[Value.slice a n c,Value.bool m,Value.slice a2 n2 c2],Value.int IntKind.i64 N,Value.int IntKind.i64 most,Value.pointer (some { block:=w.heap.size,off:=0 }),undef,undef,Value.pointer (some { block:=w.heap.size+1,off:=0 }),Value.bool false,Value.pointer (some { block:=k8,off:=0 }),Value.bool true,Value.int IntKind.i64 N,Value.bool false,undef,undef,undef,undef,undef,undef,Value.tuple #[Value.agg #[Value.slice a5 n5 c5,Value.bool m5,Value.slice a6 n6 c6],Value.bool true],Value.agg #[Value.slice a3 n3 c3,Value.bool m3,Value.slice a4 n4 c4],Value.agg #[Value.slice a n c,Value.bool m,Value.slice a2 n2 c2],Value.tuple #[Value.agg #[Value.slice a5 n5 c5,Value.bool m5,Value.slice a6 n6 c6],Value.bool true],Value.agg #[Value.slice a5 n5 c5,Value.bool m5,Value.slice a6 n6 c6],Value.bool true,undef,undef,undef,undef,undef,undef,undef,undef,undef,undef,undef,undef,undef,undef,undef,undef,undef,undef,undef,undef,undef,undef,undef,undef,undef],defers := [] } wy:=by
  intro k8 a3 n3 c3 m3 a4 n4 c4 a5 n5 c5 m5 a6 n6 c6 wy B1 sA hr5 hk8;rw[hR];have BB:=Lib.hid (((B1.slot3 sA)).rat hr5);have⟨q0,q1,q2⟩:=BB.out.now.2.1.c3;clear B1 sA hr5;go_wp2_with fail;go_at_call 249;(with_reducible refine(RA.out _ _ _ _ _ _ _ _ BB.out.now.1).mono ?_);rintro e w9 ⟨a7,n7,c7,m7,a8,n8,c8,rfl,hr7,hb9⟩;have BB:=bgo BB hb9;have hs:=BB.out.now.2.2.1;have⟨r0,r1,r2,g0,g1,g2⟩:=hs.s6;have HS:=hs.set (.slice a7 n7 c7) (.bool m7) (.slice a8 n8 c8);have HE:=Lib.hid (RatTold3.done z3 BB.out.below (by omega) hs hr7);clear hs;go_wp2;exact bodyPost_ret (v:=.tuple #[.agg #[.slice a7 n7 c7,.bool m7,.slice a8 n8 c8],.bool z3]) (by simp[results,Tryz.results226,go_sem,HS]) rfl HE.out
 refine wp_region_noPanic ?_
 refine wp_region_held_drew (S:=(fun y=>(y.cell? ⟨w.heap.size,0,none⟩=some (.slice a n c)/\y.cell? ⟨w.heap.size,1,none⟩=some (.bool m)/\y.cell? ⟨w.heap.size,2,none⟩=some (.slice a2 n2 c2))/\Bag w (fun y=>Slot3 y (w.heap.size+1) (.slice none 0 0) (.bool false) (.slice none 0 0)/\Slot3 y w.heap.size (.slice a n c) (.bool m) (.slice a2 n2 c2)/\RatAt y a n c m a2 n2 c2 P Q/\True) y)) (by kernel_rfl) ?_ (fun _ => ?_)
 · exact(have B9:=BB.out.drew;⟨HC.out _ B9.now,B9⟩)
 have hH:(((w.alloc (.cells #[.slice a n c,.bool m,.slice a2 n2 c2] 53)).alloc (.cells #[.slice none 0 0,.bool false,.slice none 0 0] 53)).drew.cell? ⟨w.heap.size,0,none⟩=some (.slice a n c)/\((w.alloc (.cells #[.slice a n c,.bool m,.slice a2 n2 c2] 53)).alloc (.cells #[.slice none 0 0,.bool false,.slice none 0 0] 53)).drew.cell? ⟨w.heap.size,1,none⟩=some (.bool m)/\((w.alloc (.cells #[.slice a n c,.bool m,.slice a2 n2 c2] 53)).alloc (.cells #[.slice none 0 0,.bool false,.slice none 0 0] 53)).drew.cell? ⟨w.heap.size,2,none⟩=some (.slice a2 n2 c2))/\Bag w (fun y=>Slot3 y (w.heap.size+1) (.slice none 0 0) (.bool false) (.slice none 0 0)/\Slot3 y w.heap.size (.slice a n c) (.bool m) (.slice a2 n2 c2)/\RatAt y a n c m a2 n2 c2 P Q/\True) ((w.alloc (.cells #[.slice a n c,.bool m,.slice a2 n2 c2] 53)).alloc (.cells #[.slice none 0 0,.bool false,.slice none 0 0] 53)).drew:=(have B9:=BB.out.drew;⟨HC.out _ B9.now,B9⟩)
 generalize hw1:((w.alloc (.cells #[.slice a n c,.bool m,.slice a2 n2 c2] 53)).alloc (.cells #[.slice none 0 0,.bool false,.slice none 0 0] 53)).drew=w1 at *;refine wpAnyH_take (i:=1) (oi:=⟨some 20,Op.load 53 (Operand.tmp 3),53,_,_,none⟩) (v := ?v14) rfl (by kernel_rfl) (by kernel_rfl) (by kernel_rfl) (fun _ _ _ h=>h) (Or.inl ⟨by rfl,?hy14⟩) hH ?_
 case hy14 =>
  intro y hy
  (try dsimp only at hy)
  go_simp
  try with_reducible rfl
 try simp only[Act.put,lsa,lsz,lsc]
 refine wpAnyH_ready (rs := [0,6]) (by kernel_rfl) (by simp) ?_
 refine AllReadyH.cons rfl (fun K hK => ?_) ?_
 · go_simp
   (go_at_call 56;(with_reducible refine(FR.out _).mono ?_);rintro e wy0 ⟨a3,n3,c3,m3,a4,n4,c4,rfl,hr3,hbz⟩)
   refine hK.out _ _ ?_ (fun hH => ?_)
   · exact(have B9:=Bag.go hH.2 hbz;⟨HC.out _ B9.now,B9⟩)
   clear hK K
   try simp only[Act.put,lsa,lsz,lsc]
   refine wpAnyH_ready (rs := [2,6]) (by kernel_rfl) (by simp) ?_
   refine AllReadyH.cons rfl (fun K hK => ?_) ?_
   · go_simp
     (go_at_call 223;(with_reducible refine(BY.out _ _ _ _ _ _ _ _ (RatAt.below hr3 (by exact Below.refl _ _)) hH.2.now.2.2.1).mono ?_);rintro e wy2 ⟨a5,n5,c5,m5,a6,n6,c6,rfl,hr5,hbz⟩)
     refine hK.out _ _ ?_ (fun hH => ?_)
     · exact(have B9:=Bag.go hH.2 hbz;⟨HC.out _ B9.now,B9⟩)
     clear hK K
     try simp only[Act.put,lsa,lsz,lsc]
     refine wpAnyH_take (i:=3) (oi:=⟨some 18,Op.move (Operand.tmp 21),54,_,_,none⟩) (v := ?v15) rfl (by kernel_rfl) (by kernel_rfl) (by kernel_rfl) (fun _ _ _ h=>h) (Or.inl ⟨by rfl,?hy15⟩) hH ?_
     case hy15 =>
      intro y hy
      (try dsimp only at hy)
      go_simp
      try with_reducible rfl
     try simp only[Act.put,lsa,lsz,lsc]
     refine wpAnyH_take (i:=4) (oi:=⟨some 22,Op.extract (Operand.tmp 18) 0,53,_,_,none⟩) (v := ?v16) rfl (by kernel_rfl) (by kernel_rfl) (by kernel_rfl) (fun _ _ _ h=>h) (Or.inl ⟨by rfl,?hy16⟩) hH ?_
     case hy16 =>
      intro y hy
      (try dsimp only at hy)
      go_simp
      try with_reducible rfl
     try simp only[Act.put,lsa,lsz,lsc]
     refine wpAnyH_take (i:=5) (oi:=⟨some 23,Op.extract (Operand.tmp 18) 1,4,_,_,none⟩) (v := ?v17) rfl (by kernel_rfl) (by kernel_rfl) (by kernel_rfl) (fun _ _ _ h=>h) (Or.inl ⟨by rfl,?hy17⟩) hH ?_
     case hy17 =>
      intro y hy
      (try dsimp only at hy)
      go_simp
      try with_reducible rfl
     try simp only[Act.put,lsa,lsz,lsc]
     refine wpAnyH_ready (rs := [6]) (by kernel_rfl) (by simp) ?_;refine AllReadyH.cons rfl (fun K hK => ?_) AllReadyH.nil;have hkA:=hH.2.now.1.lt;have sA:=Slot3.new wy2 (.slice none 0 0) (.bool false) (.slice none 0 0) 53;go_simp
     refine hK.out _ _ ?_ (fun hH => ?_)
     · exact(have B9:=Bag.alloc hH.2 _;⟨HC.out _ B9.now,B9⟩)
     clear hK K
     try simp only[Act.put,lsa,lsz,lsc]
     refine wpAnyH_ready (rs := [7]) (by kernel_rfl) (by simp) ?_;refine AllReadyH.cons (o:=⟨none,Op.store 53 (Operand.tmp 8) (Operand.tmp 22),0,_,_,none⟩) rfl (fun K hK => ?_) AllReadyH.nil;have hr5:=hr5.below (show Below wy2.heap.size wy2 (World.alloc wy2 (.cells #[.slice none 0 0,.bool false,.slice none 0 0] 53))from by refine Below.more ?_ _;exact Below.refl _ _);generalize hww:(World.alloc wy2 (.cells #[.slice none 0 0,.bool false,.slice none 0 0] 53))=ww at *;have⟨l0,l1,l2,f0,f1,f2⟩:=sA.s6;have B9s:=HP.out _ _ sA (by omega) hH.2 a5 n5 c5 m5 a6 n6 c6;have hr5:=RatAt.set3 hr5 sA (.slice a5 n5 c5) (.bool m5) (.slice a6 n6 c6);have sA:=(sA.set2 (.slice a5 n5 c5) (.bool m5)).set1 (.slice a6 n6 c6);go_simp
     refine hK.out _ _ ?_ (fun hH => ?_)
     · exact⟨HC.out _ B9s.now,B9s⟩
     clear hK K
     try simp only[Act.put,lsa,lsz,lsc]
     refine wpAnyH_take (i:=8) (oi:=⟨some 9,Op.assign (Operand.tmp 23),4,_,_,none⟩) (v := ?v18) rfl (by kernel_rfl) (by kernel_rfl) (by kernel_rfl) (fun _ _ _ h=>h) (Or.inl ⟨by rfl,?hy18⟩) hH ?_
     case hy18 =>
      intro y hy
      (try dsimp only at hy)
      go_simp
      try with_reducible rfl
     try simp only[Act.put,lsa,lsz,lsc]
     refine wpAnyH_done (by kernel_rfl) ?_ _;refine NoPanic.normal ?_;exact TL _ _ _ _ _ _ _ _ _ _ _ _ _ _ _ _ hH.2 sA hr5 (by omega)
   refine AllReadyH.cons rfl (fun K hK => ?_) ?_
   · have hkA:=hH.2.now.1.lt;have sA:=Slot3.new wy0 (.slice none 0 0) (.bool false) (.slice none 0 0) 53;go_simp
     refine hK.out _ _ ?_ (fun hH => ?_)
     · exact(have B9:=Bag.alloc hH.2 _;⟨HC.out _ B9.now,B9⟩)
     clear hK K
     try simp only[Act.put,lsa,lsz,lsc]
     refine wpAnyH_ready (rs := [2]) (by kernel_rfl) (by simp) ?_;refine AllReadyH.cons rfl (fun K hK => ?_) AllReadyH.nil;go_simp
     (go_at_call 223;(with_reducible refine(BY.out _ _ _ _ _ _ _ _ (RatAt.below hr3 (by refine Below.more ?_ _;exact Below.refl _ _)) hH.2.now.2.2.1).mono ?_);rintro e wy2 ⟨a5,n5,c5,m5,a6,n6,c6,rfl,hr5,hbz⟩);have sA:=sA.below hbz
     refine hK.out _ _ ?_ (fun hH => ?_)
     · exact(have B9:=Bag.go hH.2 hbz;⟨HC.out _ B9.now,B9⟩)
     clear hK K
     try simp only[Act.put,lsa,lsz,lsc]
     refine wpAnyH_take (i:=3) (oi:=⟨some 18,Op.move (Operand.tmp 21),54,_,_,none⟩) (v := ?v19) rfl (by kernel_rfl) (by kernel_rfl) (by kernel_rfl) (fun _ _ _ h=>h) (Or.inl ⟨by rfl,?hy19⟩) hH ?_
     case hy19 =>
      intro y hy
      (try dsimp only at hy)
      go_simp
      try with_reducible rfl
     try simp only[Act.put,lsa,lsz,lsc]
     refine wpAnyH_take (i:=4) (oi:=⟨some 22,Op.extract (Operand.tmp 18) 0,53,_,_,none⟩) (v := ?v20) rfl (by kernel_rfl) (by kernel_rfl) (by kernel_rfl) (fun _ _ _ h=>h) (Or.inl ⟨by rfl,?hy20⟩) hH ?_
     case hy20 =>
      intro y hy
      (try dsimp only at hy)
      go_simp
      try with_reducible rfl
     try simp only[Act.put,lsa,lsz,lsc]
     refine wpAnyH_take (i:=5) (oi:=⟨some 23,Op.extract (Operand.tmp 18) 1,4,_,_,none⟩) (v := ?v21) rfl (by kernel_rfl) (by kernel_rfl) (by kernel_rfl) (fun _ _ _ h=>h) (Or.inl ⟨by rfl,?hy21⟩) hH ?_
     case hy21 =>
      intro y hy
      (try dsimp only at hy)
      go_simp
      try with_reducible rfl
     try simp only[Act.put,lsa,lsz,lsc]
     refine wpAnyH_ready (rs := [7]) (by kernel_rfl) (by simp) ?_;refine AllReadyH.cons (o:=⟨none,Op.store 53 (Operand.tmp 8) (Operand.tmp 22),0,_,_,none⟩) rfl (fun K hK => ?_) AllReadyH.nil;have⟨l0,l1,l2,f0,f1,f2⟩:=sA.s6;have B9s:=HP.out _ _ sA (by omega) hH.2 a5 n5 c5 m5 a6 n6 c6;have hr5:=RatAt.set3 hr5 sA (.slice a5 n5 c5) (.bool m5) (.slice a6 n6 c6);have sA:=(sA.set2 (.slice a5 n5 c5) (.bool m5)).set1 (.slice a6 n6 c6);go_simp
     refine hK.out _ _ ?_ (fun hH => ?_)
     · exact⟨HC.out _ B9s.now,B9s⟩
     clear hK K
     try simp only[Act.put,lsa,lsz,lsc]
     refine wpAnyH_take (i:=8) (oi:=⟨some 9,Op.assign (Operand.tmp 23),4,_,_,none⟩) (v := ?v22) rfl (by kernel_rfl) (by kernel_rfl) (by kernel_rfl) (fun _ _ _ h=>h) (Or.inl ⟨by rfl,?hy22⟩) hH ?_
     case hy22 =>
      intro y hy
      (try dsimp only at hy)
      go_simp
      try with_reducible rfl
     try simp only[Act.put,lsa,lsz,lsc]
     refine wpAnyH_done (by kernel_rfl) ?_ _;refine NoPanic.normal ?_;exact TL _ _ _ _ _ _ _ _ _ _ _ _ _ _ _ _ hH.2 sA hr5 (by omega)
   exact AllReadyH.nil
 refine AllReadyH.cons rfl (fun K hK => ?_) ?_
 · have hkA:=hH.2.now.1.lt;have sA:=Slot3.new w1 (.slice none 0 0) (.bool false) (.slice none 0 0) 53;go_simp
   refine hK.out _ _ ?_ (fun hH => ?_)
   · exact(have B9:=Bag.alloc hH.2 _;⟨HC.out _ B9.now,B9⟩)
   clear hK K
   try simp only[Act.put,lsa,lsz,lsc]
   refine wpAnyH_ready (rs := [0]) (by kernel_rfl) (by simp) ?_;refine AllReadyH.cons rfl (fun K hK => ?_) AllReadyH.nil;go_simp
   (go_at_call 56;(with_reducible refine(FR.out _).mono ?_);rintro e wy0 ⟨a3,n3,c3,m3,a4,n4,c4,rfl,hr3,hbz⟩);have sA:=sA.below hbz
   refine hK.out _ _ ?_ (fun hH => ?_)
   · exact(have B9:=Bag.go hH.2 hbz;⟨HC.out _ B9.now,B9⟩)
   clear hK K
   try simp only[Act.put,lsa,lsz,lsc]
   refine wpAnyH_ready (rs := [2]) (by kernel_rfl) (by simp) ?_;refine AllReadyH.cons rfl (fun K hK => ?_) AllReadyH.nil;go_simp
   (go_at_call 223;(with_reducible refine(BY.out _ _ _ _ _ _ _ _ (RatAt.below hr3 (by exact Below.refl _ _)) hH.2.now.2.2.1).mono ?_);rintro e wy2 ⟨a5,n5,c5,m5,a6,n6,c6,rfl,hr5,hbz⟩);have sA:=sA.below hbz
   refine hK.out _ _ ?_ (fun hH => ?_)
   · exact(have B9:=Bag.go hH.2 hbz;⟨HC.out _ B9.now,B9⟩)
   clear hK K
   try simp only[Act.put,lsa,lsz,lsc]
   refine wpAnyH_take (i:=3) (oi:=⟨some 18,Op.move (Operand.tmp 21),54,_,_,none⟩) (v := ?v23) rfl (by kernel_rfl) (by kernel_rfl) (by kernel_rfl) (fun _ _ _ h=>h) (Or.inl ⟨by rfl,?hy23⟩) hH ?_
   case hy23 =>
    intro y hy
    (try dsimp only at hy)
    go_simp
    try with_reducible rfl
   try simp only[Act.put,lsa,lsz,lsc]
   refine wpAnyH_take (i:=4) (oi:=⟨some 22,Op.extract (Operand.tmp 18) 0,53,_,_,none⟩) (v := ?v24) rfl (by kernel_rfl) (by kernel_rfl) (by kernel_rfl) (fun _ _ _ h=>h) (Or.inl ⟨by rfl,?hy24⟩) hH ?_
   case hy24 =>
    intro y hy
    (try dsimp only at hy)
    go_simp
    try with_reducible rfl
   try simp only[Act.put,lsa,lsz,lsc]
   refine wpAnyH_take (i:=5) (oi:=⟨some 23,Op.extract (Operand.tmp 18) 1,4,_,_,none⟩) (v := ?v25) rfl (by kernel_rfl) (by kernel_rfl) (by kernel_rfl) (fun _ _ _ h=>h) (Or.inl ⟨by rfl,?hy25⟩) hH ?_
   case hy25 =>
    intro y hy
    (try dsimp only at hy)
    go_simp
    try with_reducible rfl
   try simp only[Act.put,lsa,lsz,lsc]
   refine wpAnyH_ready (rs := [7]) (by kernel_rfl) (by simp) ?_;refine AllReadyH.cons (o:=⟨none,Op.store 53 (Operand.tmp 8) (Operand.tmp 22),0,_,_,none⟩) rfl (fun K hK => ?_) AllReadyH.nil;have⟨l0,l1,l2,f0,f1,f2⟩:=sA.s6;have B9s:=HP.out _ _ sA (by omega) hH.2 a5 n5 c5 m5 a6 n6 c6;have hr5:=RatAt.set3 hr5 sA (.slice a5 n5 c5) (.bool m5) (.slice a6 n6 c6);have sA:=(sA.set2 (.slice a5 n5 c5) (.bool m5)).set1 (.slice a6 n6 c6);go_simp
   refine hK.out _ _ ?_ (fun hH => ?_)
   · exact⟨HC.out _ B9s.now,B9s⟩
   clear hK K
   try simp only[Act.put,lsa,lsz,lsc]
   refine wpAnyH_take (i:=8) (oi:=⟨some 9,Op.assign (Operand.tmp 23),4,_,_,none⟩) (v := ?v26) rfl (by kernel_rfl) (by kernel_rfl) (by kernel_rfl) (fun _ _ _ h=>h) (Or.inl ⟨by rfl,?hy26⟩) hH ?_
   case hy26 =>
    intro y hy
    (try dsimp only at hy)
    go_simp
    try with_reducible rfl
   try simp only[Act.put,lsa,lsz,lsc]
   refine wpAnyH_done (by kernel_rfl) ?_ _;refine NoPanic.normal ?_;exact TL _ _ _ _ _ _ _ _ _ _ _ _ _ _ _ _ hH.2 sA hr5 (by omega)
 exact AllReadyH.nil
theorem pow_min(a:Option Addr)(n c:Nat)(m:Bool)(a2:Option Addr)(n2 c2:Nat)(P:Int)(Q:Nat)(most:Int)(w:World)(h:RatAt w a n c m a2 n2 c2 P Q)(hQ:0<Q)(hP:P≠0)(hl:dl P.natAbs<=60)(hl2:dl Q<=60)(hm:most<=64)(hm0 : -9223372036854775808<=most):Calls Tryz.prog 226 #[.agg #[.slice a n c,.bool m,.slice a2 n2 c2],.int .i64 (-9223372036854775808),.int .i64 most] w fun e w'=>RatTold3 w w' e (raP (sqP (inP P Q) (inQ P Q)) (sqQ (inP P Q) (inQ P Q)) 4611686018427387904 most) (raQ (sqP (inP P Q) (inQ P Q)) (sqQ (inP P Q) (inQ P Q)) 4611686018427387904 most) (raO (sqP (inP P Q) (inQ P Q)) (sqQ (inP P Q) (inQ P Q)) 4611686018427387904 most):=by
 have BB:=Lib.hid ((Bag.start w).rat h |>.box3 (.slice a n c) (.bool m) (.slice a2 n2 c2) 53 |>.box3 (.slice none 0 0) (.bool false) (.slice none 0 0) 53);simp only[World.size_alloc]at BB;have FR:=Lib.hid (fun wz=>ratFrom_any 1 wz (by omega));have hQK:Q<4294967296^7:=Nat.lt_of_lt_of_le (dl_lt Q) (Nat.le_trans (Nat.pow_le_pow_right (by omega) hl2) (by decide));have hPK:P.natAbs<4294967296^7:=Nat.lt_of_lt_of_le (dl_lt _) (Nat.le_trans (Nat.pow_le_pow_right (by omega) hl) (by decide));have BY:=Lib.hid (fun a' n' c' m' a2' n2' c2' wz (h:RatAt wz a' n' c' m' a2' n2' c2' 1 1) (g:RatAt wz a n c m a2 n2 c2 P Q)=>by_some a' n' c' m' a2' n2' c2' 1 1 a n c m a2 n2 c2 P Q wz h g (by omega) hQ hP 7 (by omega) (by decide) (by decide) hPK hQK);rw[show nwP (1*(Q:Int)) (P*((1:Nat):Int))=inP P Q from rfl,show nwQ (1*(Q:Int)) (P*((1:Nat):Int))=inQ P Q from rfl]at BY;have hd1:dl (inP P Q).natAbs<=60:=Nat.le_trans (dl_mono (inP_abs P Q)) hl2;have hd2:dl (inQ P Q)<=60:=Nat.le_trans (dl_mono (inQ_le P Q)) hl;have hp:=inQ_pos Q hP;have hp2:0<sqQ (inP P Q) (inQ P Q):=tmQ_pos _ _ hp hp;have hI1:(inP P Q).natAbs<4294967296^7:=Nat.lt_of_le_of_lt (inP_abs P Q) hQK;have hI2:inQ P Q<4294967296^7:=Nat.lt_of_le_of_lt (inQ_le P Q) hPK
 have hd3:dl (sqP (inP P Q) (inQ P Q)).natAbs<=130:=by
  refine Nat.le_trans (dl_mono (loP_absle _ _)) (Nat.le_trans (dl_le _ 120 (by omega) ?_) (by omega));rw[Int.natAbs_mul,show 120=60+60 from rfl,Nat.pow_add];have:(inP P Q).natAbs<10^60:=Nat.lt_of_lt_of_le (dl_lt _) (Nat.pow_le_pow_right (by omega) hd1);exact Nat.mul_lt_mul'' this this
 have hd4:dl (sqQ (inP P Q) (inQ P Q))<=130:=by
  refine Nat.le_trans (dl_mono (loQ_le _ _)) (Nat.le_trans (dl_le _ 120 (by omega) ?_) (by omega));rw[show 120=60+60 from rfl,Nat.pow_add];have:inQ P Q<10^60:=Nat.lt_of_lt_of_le (dl_lt _) (Nat.pow_le_pow_right (by omega) hd2);exact Nat.mul_lt_mul'' this this
 have TM:=Lib.hid (fun a n c m a2 n2 c2 sa wz (h:RatAt wz a n c m a2 n2 c2 (inP P Q) (inQ P Q)) (g:RatsAt wz sa 1 1 (fun _=>inP P Q) (fun _=>inQ P Q))=>ratTimes1_any a n c m a2 n2 c2 (inP P Q) (inQ P Q) sa (inP P Q) (inQ P Q) wz h g hp hp 7 (by omega) hI1 hI2 hI1 hI2);rw[show tmP (inP P Q) (inQ P Q) (inP P Q) (inQ P Q)=sqP (inP P Q) (inQ P Q)from rfl,show tmQ (inP P Q) (inQ P Q) (inP P Q) (inQ P Q)=sqQ (inP P Q) (inQ P Q)from rfl]at TM;have RA:=Lib.hid (fun a n c m a2 n2 c2 wz (h:RatAt wz a n c m a2 n2 c2 (sqP (inP P Q) (inQ P Q)) (sqQ (inP P Q) (inQ P Q)))=>raised_any a n c m a2 n2 c2 _ _ 4611686018427387904 most wz h hp2 hd3 hd4 (by omega) (by omega) hm hm0);unfold RatTold3 at RA;generalize raP (sqP (inP P Q) (inQ P Q)) (sqQ (inP P Q) (inQ P Q)) 4611686018427387904 most=Z1 at *;generalize raQ (sqP (inP P Q) (inQ P Q)) (sqQ (inP P Q) (inQ P Q)) 4611686018427387904 most=Z2 at *;generalize raO (sqP (inP P Q) (inQ P Q)) (sqQ (inP P Q) (inQ P Q)) 4611686018427387904 most=z3 at *;generalize sqP (inP P Q) (inQ P Q)=V1 at *;generalize sqQ (inP P Q) (inQ P Q)=V2 at *;generalize inP P Q=U1 at *;generalize inQ P Q=U2 at *;clear h hQ hl hl2 hQK hPK hd1 hd2 hp hP hm hm0 hp2 hI1 hI2 hd3 hd4;unfold RatTold3 at BY;have⟨q0,q1,q2⟩:=BB.out.now.2.1.c3;go_enter Tryz.func226,Tryz.ntmps226
 have HP:Hid (∀(y:World) (k:Nat),Slot3 y k (.slice none 0 0) (.bool false) (.slice none 0 0)->w.heap.size+1<k->Bag w (fun y=>Slot3 y (w.heap.size+1) (.slice none 0 0) (.bool false) (.slice none 0 0)/\Slot3 y w.heap.size (.slice a n c) (.bool m) (.slice a2 n2 c2)/\RatAt y a n c m a2 n2 c2 P Q/\True) y->∀(a9:Option Addr) (n9 c9:Nat) (m9:Bool) (a10:Option Addr) (n10 c10:Nat),Bag w (fun y=>Slot3 y (w.heap.size+1) (.slice none 0 0) (.bool false) (.slice none 0 0)/\Slot3 y w.heap.size (.slice a n c) (.bool m) (.slice a2 n2 c2)/\RatAt y a n c m a2 n2 c2 P Q/\True) (((y.setCell ⟨k,0,none⟩ (.slice a9 n9 c9)).setCell ⟨k,1,none⟩ (.bool m9)).setCell ⟨k,2,none⟩ (.slice a10 n10 c10))):=by
  intro y k s hk B a9 n9 c9 m9 a10 n10 c10;have q:=B.now;exact⟨((B.below.setCell (p:=⟨k,0,none⟩) (show w.heap.size<=k by omega) _).setCell (p:=⟨k,1,none⟩) (show w.heap.size<=k by omega) _).setCell (p:=⟨k,2,none⟩) (show w.heap.size<=k by omega) _,B.stay,q.1.set3o (by omega) _ _ _,q.2.1.set3o (by omega) _ _ _,q.2.2.1.set3 s _ _ _,trivial⟩
 have HC:Hid (∀y,(fun y=>Slot3 y (w.heap.size+1) (.slice none 0 0) (.bool false) (.slice none 0 0)/\Slot3 y w.heap.size (.slice a n c) (.bool m) (.slice a2 n2 c2)/\RatAt y a n c m a2 n2 c2 P Q/\True) y->(y.cell? ⟨w.heap.size,0,none⟩=some (.slice a n c)/\y.cell? ⟨w.heap.size,1,none⟩=some (.bool m)/\y.cell? ⟨w.heap.size,2,none⟩=some (.slice a2 n2 c2))):=fun y h=>⟨h.2.1.cell,h.2.1.cell1,h.2.1.cell2⟩
 go_wp2_with fail;refine wp_capture (fun R hR => ?_)
 have TL:∀(k8:Nat) (a3:Option Addr) (n3 c3:Nat) (m3:Bool) (a4:Option Addr) (n4 c4:Nat) (a5:Option Addr) (n5 c5:Nat) (m5:Bool) (a6:Option Addr) (n6 c6:Nat) (wy:World),Bag w (fun y=>Slot3 y (w.heap.size+1) (.slice none 0 0) (.bool false) (.slice none 0 0)/\Slot3 y w.heap.size (.slice a n c) (.bool m) (.slice a2 n2 c2)/\RatAt y a n c m a2 n2 c2 P Q/\True) wy->Slot3 wy k8 (.slice a5 n5 c5) (.bool m5) (.slice a6 n6 c6)->RatAt wy a5 n5 c5 m5 a6 n6 c6 U1 U2->w.heap.size+1<k8->R .normal { tmps:=#[Value.agg #[Value.slice a n c,Value.bool m,Value.slice a2 n2 c2],Value.int IntKind.i64 (-9223372036854775808),Value.int IntKind.i64 most,Value.pointer (some { block:=w.heap.size,off:=0 }),undef,undef,Value.pointer (some { block:=w.heap.size+1,off:=0 }),Value.bool false,Value.pointer (some { block:=k8,off:=0 }),Value.bool true,Value.int IntKind.i64 (-9223372036854775808),Value.bool false,undef,undef,undef,undef,undef,undef,Value.tuple #[Value.agg #[Value.slice a5 n5 c5,Value.bool m5,Value.slice a6 n6 c6],Value.bool true],Value.agg #[Value.slice a3 n3 c3,Value.bool m3,Value.slice a4 n4 c4],Value.agg #[Value.slice a n c,Value.bool m,Value.slice a2 n2 c2],Value.tuple #[Value.agg #[Value.slice a5 n5 c5,Value.bool m5,Value.slice a6 n6 c6],Value.bool true],Value.agg #[Value.slice a5 n5 c5,Value.bool m5,Value.slice a6 n6 c6],Value.bool true,undef,undef,undef,undef,undef,undef,undef,undef,undef,undef,undef,undef,undef,undef,undef,undef,undef,undef,undef,undef,undef,undef,undef,undef,undef],defers := [] } wy:=by
  intro k8 a3 n3 c3 m3 a4 n4 c4 a5 n5 c5 m5 a6 n6 c6 wy B1 sA hr5 hk8;rw[hR];have BB:=Lib.hid (((B1.slot3 sA)).rat hr5);have⟨q0,q1,q2⟩:=BB.out.now.2.1.c3;clear B1 sA hr5;go_wp2_with fail;go_at_call 180
  (with_reducible refine(TM.out _ _ _ _ _ _ _ _ _ ?_ ?_).mono ?_)
  · exact(BB.out.alloc _).now.1
  · exact RatsAt.old1 (Below.refl _ _) rfl (BB.out.alloc _).now.1
  rintro e w8 ⟨a7,n7,c7,m7,a8,n8,c8,rfl,hr7,hb8⟩;have BB:=Lib.hid ((BB.out.alloc _).go hb8);go_wp2_with fail;go_at_call 249;(with_reducible refine(RA.out _ _ _ _ _ _ _ _ hr7).mono ?_);rintro e w9 ⟨a9,n9,c9,m9,a10,n10,c10,rfl,hr9,hb9⟩;have BB:=bgo BB hb9;have hs:=BB.out.now.2.2.1;have⟨r0,r1,r2,g0,g1,g2⟩:=hs.s6;have HS:=hs.set (.slice a9 n9 c9) (.bool m9) (.slice a10 n10 c10);have HE:=Lib.hid (RatTold3.done z3 BB.out.below (by omega) hs hr9);clear hs;go_wp2;exact bodyPost_ret (v:=.tuple #[.agg #[.slice a9 n9 c9,.bool m9,.slice a10 n10 c10],.bool z3]) (by simp[results,Tryz.results226,go_sem,HS]) rfl HE.out
 refine wp_region_noPanic ?_
 refine wp_region_held_drew (S:=(fun y=>(y.cell? ⟨w.heap.size,0,none⟩=some (.slice a n c)/\y.cell? ⟨w.heap.size,1,none⟩=some (.bool m)/\y.cell? ⟨w.heap.size,2,none⟩=some (.slice a2 n2 c2))/\Bag w (fun y=>Slot3 y (w.heap.size+1) (.slice none 0 0) (.bool false) (.slice none 0 0)/\Slot3 y w.heap.size (.slice a n c) (.bool m) (.slice a2 n2 c2)/\RatAt y a n c m a2 n2 c2 P Q/\True) y)) (by kernel_rfl) ?_ (fun _ => ?_)
 · exact(have B9:=BB.out.drew;⟨HC.out _ B9.now,B9⟩)
 have hH:(((w.alloc (.cells #[.slice a n c,.bool m,.slice a2 n2 c2] 53)).alloc (.cells #[.slice none 0 0,.bool false,.slice none 0 0] 53)).drew.cell? ⟨w.heap.size,0,none⟩=some (.slice a n c)/\((w.alloc (.cells #[.slice a n c,.bool m,.slice a2 n2 c2] 53)).alloc (.cells #[.slice none 0 0,.bool false,.slice none 0 0] 53)).drew.cell? ⟨w.heap.size,1,none⟩=some (.bool m)/\((w.alloc (.cells #[.slice a n c,.bool m,.slice a2 n2 c2] 53)).alloc (.cells #[.slice none 0 0,.bool false,.slice none 0 0] 53)).drew.cell? ⟨w.heap.size,2,none⟩=some (.slice a2 n2 c2))/\Bag w (fun y=>Slot3 y (w.heap.size+1) (.slice none 0 0) (.bool false) (.slice none 0 0)/\Slot3 y w.heap.size (.slice a n c) (.bool m) (.slice a2 n2 c2)/\RatAt y a n c m a2 n2 c2 P Q/\True) ((w.alloc (.cells #[.slice a n c,.bool m,.slice a2 n2 c2] 53)).alloc (.cells #[.slice none 0 0,.bool false,.slice none 0 0] 53)).drew:=(have B9:=BB.out.drew;⟨HC.out _ B9.now,B9⟩)
 generalize hw1:((w.alloc (.cells #[.slice a n c,.bool m,.slice a2 n2 c2] 53)).alloc (.cells #[.slice none 0 0,.bool false,.slice none 0 0] 53)).drew=w1 at *;refine wpAnyH_take (i:=1) (oi:=⟨some 20,Op.load 53 (Operand.tmp 3),53,_,_,none⟩) (v := ?v27) rfl (by kernel_rfl) (by kernel_rfl) (by kernel_rfl) (fun _ _ _ h=>h) (Or.inl ⟨by rfl,?hy27⟩) hH ?_
 case hy27 =>
  intro y hy
  (try dsimp only at hy)
  go_simp
  try with_reducible rfl
 try simp only[Act.put,lsa,lsz,lsc]
 refine wpAnyH_ready (rs := [0,6]) (by kernel_rfl) (by simp) ?_
 refine AllReadyH.cons rfl (fun K hK => ?_) ?_
 · go_simp
   (go_at_call 56;(with_reducible refine(FR.out _).mono ?_);rintro e wy0 ⟨a3,n3,c3,m3,a4,n4,c4,rfl,hr3,hbz⟩)
   refine hK.out _ _ ?_ (fun hH => ?_)
   · exact(have B9:=Bag.go hH.2 hbz;⟨HC.out _ B9.now,B9⟩)
   clear hK K
   try simp only[Act.put,lsa,lsz,lsc]
   refine wpAnyH_ready (rs := [2,6]) (by kernel_rfl) (by simp) ?_
   refine AllReadyH.cons rfl (fun K hK => ?_) ?_
   · go_simp
     (go_at_call 223;(with_reducible refine(BY.out _ _ _ _ _ _ _ _ (RatAt.below hr3 (by exact Below.refl _ _)) hH.2.now.2.2.1).mono ?_);rintro e wy2 ⟨a5,n5,c5,m5,a6,n6,c6,rfl,hr5,hbz⟩)
     refine hK.out _ _ ?_ (fun hH => ?_)
     · exact(have B9:=Bag.go hH.2 hbz;⟨HC.out _ B9.now,B9⟩)
     clear hK K
     try simp only[Act.put,lsa,lsz,lsc]
     refine wpAnyH_take (i:=3) (oi:=⟨some 18,Op.move (Operand.tmp 21),54,_,_,none⟩) (v := ?v28) rfl (by kernel_rfl) (by kernel_rfl) (by kernel_rfl) (fun _ _ _ h=>h) (Or.inl ⟨by rfl,?hy28⟩) hH ?_
     case hy28 =>
      intro y hy
      (try dsimp only at hy)
      go_simp
      try with_reducible rfl
     try simp only[Act.put,lsa,lsz,lsc]
     refine wpAnyH_take (i:=4) (oi:=⟨some 22,Op.extract (Operand.tmp 18) 0,53,_,_,none⟩) (v := ?v29) rfl (by kernel_rfl) (by kernel_rfl) (by kernel_rfl) (fun _ _ _ h=>h) (Or.inl ⟨by rfl,?hy29⟩) hH ?_
     case hy29 =>
      intro y hy
      (try dsimp only at hy)
      go_simp
      try with_reducible rfl
     try simp only[Act.put,lsa,lsz,lsc]
     refine wpAnyH_take (i:=5) (oi:=⟨some 23,Op.extract (Operand.tmp 18) 1,4,_,_,none⟩) (v := ?v30) rfl (by kernel_rfl) (by kernel_rfl) (by kernel_rfl) (fun _ _ _ h=>h) (Or.inl ⟨by rfl,?hy30⟩) hH ?_
     case hy30 =>
      intro y hy
      (try dsimp only at hy)
      go_simp
      try with_reducible rfl
     try simp only[Act.put,lsa,lsz,lsc]
     refine wpAnyH_ready (rs := [6]) (by kernel_rfl) (by simp) ?_;refine AllReadyH.cons rfl (fun K hK => ?_) AllReadyH.nil;have hkA:=hH.2.now.1.lt;have sA:=Slot3.new wy2 (.slice none 0 0) (.bool false) (.slice none 0 0) 53;go_simp
     refine hK.out _ _ ?_ (fun hH => ?_)
     · exact(have B9:=Bag.alloc hH.2 _;⟨HC.out _ B9.now,B9⟩)
     clear hK K
     try simp only[Act.put,lsa,lsz,lsc]
     refine wpAnyH_ready (rs := [7]) (by kernel_rfl) (by simp) ?_;refine AllReadyH.cons (o:=⟨none,Op.store 53 (Operand.tmp 8) (Operand.tmp 22),0,_,_,none⟩) rfl (fun K hK => ?_) AllReadyH.nil;have hr5:=hr5.below (show Below wy2.heap.size wy2 (World.alloc wy2 (.cells #[.slice none 0 0,.bool false,.slice none 0 0] 53))from by refine Below.more ?_ _;exact Below.refl _ _);generalize hww:(World.alloc wy2 (.cells #[.slice none 0 0,.bool false,.slice none 0 0] 53))=ww at *;have⟨l0,l1,l2,f0,f1,f2⟩:=sA.s6;have B9s:=HP.out _ _ sA (by omega) hH.2 a5 n5 c5 m5 a6 n6 c6;have hr5:=RatAt.set3 hr5 sA (.slice a5 n5 c5) (.bool m5) (.slice a6 n6 c6);have sA:=(sA.set2 (.slice a5 n5 c5) (.bool m5)).set1 (.slice a6 n6 c6);go_simp
     refine hK.out _ _ ?_ (fun hH => ?_)
     · exact⟨HC.out _ B9s.now,B9s⟩
     clear hK K
     try simp only[Act.put,lsa,lsz,lsc]
     refine wpAnyH_take (i:=8) (oi:=⟨some 9,Op.assign (Operand.tmp 23),4,_,_,none⟩) (v := ?v31) rfl (by kernel_rfl) (by kernel_rfl) (by kernel_rfl) (fun _ _ _ h=>h) (Or.inl ⟨by rfl,?hy31⟩) hH ?_
     case hy31 =>
      intro y hy
      (try dsimp only at hy)
      go_simp
      try with_reducible rfl
     try simp only[Act.put,lsa,lsz,lsc]
     refine wpAnyH_done (by kernel_rfl) ?_ _;refine NoPanic.normal ?_;exact TL _ _ _ _ _ _ _ _ _ _ _ _ _ _ _ _ hH.2 sA hr5 (by omega)
   refine AllReadyH.cons rfl (fun K hK => ?_) ?_
   · have hkA:=hH.2.now.1.lt;have sA:=Slot3.new wy0 (.slice none 0 0) (.bool false) (.slice none 0 0) 53;go_simp
     refine hK.out _ _ ?_ (fun hH => ?_)
     · exact(have B9:=Bag.alloc hH.2 _;⟨HC.out _ B9.now,B9⟩)
     clear hK K
     try simp only[Act.put,lsa,lsz,lsc]
     refine wpAnyH_ready (rs := [2]) (by kernel_rfl) (by simp) ?_;refine AllReadyH.cons rfl (fun K hK => ?_) AllReadyH.nil;go_simp
     (go_at_call 223;(with_reducible refine(BY.out _ _ _ _ _ _ _ _ (RatAt.below hr3 (by refine Below.more ?_ _;exact Below.refl _ _)) hH.2.now.2.2.1).mono ?_);rintro e wy2 ⟨a5,n5,c5,m5,a6,n6,c6,rfl,hr5,hbz⟩);have sA:=sA.below hbz
     refine hK.out _ _ ?_ (fun hH => ?_)
     · exact(have B9:=Bag.go hH.2 hbz;⟨HC.out _ B9.now,B9⟩)
     clear hK K
     try simp only[Act.put,lsa,lsz,lsc]
     refine wpAnyH_take (i:=3) (oi:=⟨some 18,Op.move (Operand.tmp 21),54,_,_,none⟩) (v := ?v32) rfl (by kernel_rfl) (by kernel_rfl) (by kernel_rfl) (fun _ _ _ h=>h) (Or.inl ⟨by rfl,?hy32⟩) hH ?_
     case hy32 =>
      intro y hy
      (try dsimp only at hy)
      go_simp
      try with_reducible rfl
     try simp only[Act.put,lsa,lsz,lsc]
     refine wpAnyH_take (i:=4) (oi:=⟨some 22,Op.extract (Operand.tmp 18) 0,53,_,_,none⟩) (v := ?v33) rfl (by kernel_rfl) (by kernel_rfl) (by kernel_rfl) (fun _ _ _ h=>h) (Or.inl ⟨by rfl,?hy33⟩) hH ?_
     case hy33 =>
      intro y hy
      (try dsimp only at hy)
      go_simp
      try with_reducible rfl
     try simp only[Act.put,lsa,lsz,lsc]
     refine wpAnyH_take (i:=5) (oi:=⟨some 23,Op.extract (Operand.tmp 18) 1,4,_,_,none⟩) (v := ?v34) rfl (by kernel_rfl) (by kernel_rfl) (by kernel_rfl) (fun _ _ _ h=>h) (Or.inl ⟨by rfl,?hy34⟩) hH ?_
     case hy34 =>
      intro y hy
      (try dsimp only at hy)
      go_simp
      try with_reducible rfl
     try simp only[Act.put,lsa,lsz,lsc]
     refine wpAnyH_ready (rs := [7]) (by kernel_rfl) (by simp) ?_;refine AllReadyH.cons (o:=⟨none,Op.store 53 (Operand.tmp 8) (Operand.tmp 22),0,_,_,none⟩) rfl (fun K hK => ?_) AllReadyH.nil;have⟨l0,l1,l2,f0,f1,f2⟩:=sA.s6;have B9s:=HP.out _ _ sA (by omega) hH.2 a5 n5 c5 m5 a6 n6 c6;have hr5:=RatAt.set3 hr5 sA (.slice a5 n5 c5) (.bool m5) (.slice a6 n6 c6);have sA:=(sA.set2 (.slice a5 n5 c5) (.bool m5)).set1 (.slice a6 n6 c6);go_simp
     refine hK.out _ _ ?_ (fun hH => ?_)
     · exact⟨HC.out _ B9s.now,B9s⟩
     clear hK K
     try simp only[Act.put,lsa,lsz,lsc]
     refine wpAnyH_take (i:=8) (oi:=⟨some 9,Op.assign (Operand.tmp 23),4,_,_,none⟩) (v := ?v35) rfl (by kernel_rfl) (by kernel_rfl) (by kernel_rfl) (fun _ _ _ h=>h) (Or.inl ⟨by rfl,?hy35⟩) hH ?_
     case hy35 =>
      intro y hy
      (try dsimp only at hy)
      go_simp
      try with_reducible rfl
     try simp only[Act.put,lsa,lsz,lsc]
     refine wpAnyH_done (by kernel_rfl) ?_ _;refine NoPanic.normal ?_;exact TL _ _ _ _ _ _ _ _ _ _ _ _ _ _ _ _ hH.2 sA hr5 (by omega)
   exact AllReadyH.nil
 refine AllReadyH.cons rfl (fun K hK => ?_) ?_
 · have hkA:=hH.2.now.1.lt;have sA:=Slot3.new w1 (.slice none 0 0) (.bool false) (.slice none 0 0) 53;go_simp
   refine hK.out _ _ ?_ (fun hH => ?_)
   · exact(have B9:=Bag.alloc hH.2 _;⟨HC.out _ B9.now,B9⟩)
   clear hK K
   try simp only[Act.put,lsa,lsz,lsc]
   refine wpAnyH_ready (rs := [0]) (by kernel_rfl) (by simp) ?_;refine AllReadyH.cons rfl (fun K hK => ?_) AllReadyH.nil;go_simp
   (go_at_call 56;(with_reducible refine(FR.out _).mono ?_);rintro e wy0 ⟨a3,n3,c3,m3,a4,n4,c4,rfl,hr3,hbz⟩);have sA:=sA.below hbz
   refine hK.out _ _ ?_ (fun hH => ?_)
   · exact(have B9:=Bag.go hH.2 hbz;⟨HC.out _ B9.now,B9⟩)
   clear hK K
   try simp only[Act.put,lsa,lsz,lsc]
   refine wpAnyH_ready (rs := [2]) (by kernel_rfl) (by simp) ?_;refine AllReadyH.cons rfl (fun K hK => ?_) AllReadyH.nil;go_simp
   (go_at_call 223;(with_reducible refine(BY.out _ _ _ _ _ _ _ _ (RatAt.below hr3 (by exact Below.refl _ _)) hH.2.now.2.2.1).mono ?_);rintro e wy2 ⟨a5,n5,c5,m5,a6,n6,c6,rfl,hr5,hbz⟩);have sA:=sA.below hbz
   refine hK.out _ _ ?_ (fun hH => ?_)
   · exact(have B9:=Bag.go hH.2 hbz;⟨HC.out _ B9.now,B9⟩)
   clear hK K
   try simp only[Act.put,lsa,lsz,lsc]
   refine wpAnyH_take (i:=3) (oi:=⟨some 18,Op.move (Operand.tmp 21),54,_,_,none⟩) (v := ?v36) rfl (by kernel_rfl) (by kernel_rfl) (by kernel_rfl) (fun _ _ _ h=>h) (Or.inl ⟨by rfl,?hy36⟩) hH ?_
   case hy36 =>
    intro y hy
    (try dsimp only at hy)
    go_simp
    try with_reducible rfl
   try simp only[Act.put,lsa,lsz,lsc]
   refine wpAnyH_take (i:=4) (oi:=⟨some 22,Op.extract (Operand.tmp 18) 0,53,_,_,none⟩) (v := ?v37) rfl (by kernel_rfl) (by kernel_rfl) (by kernel_rfl) (fun _ _ _ h=>h) (Or.inl ⟨by rfl,?hy37⟩) hH ?_
   case hy37 =>
    intro y hy
    (try dsimp only at hy)
    go_simp
    try with_reducible rfl
   try simp only[Act.put,lsa,lsz,lsc]
   refine wpAnyH_take (i:=5) (oi:=⟨some 23,Op.extract (Operand.tmp 18) 1,4,_,_,none⟩) (v := ?v38) rfl (by kernel_rfl) (by kernel_rfl) (by kernel_rfl) (fun _ _ _ h=>h) (Or.inl ⟨by rfl,?hy38⟩) hH ?_
   case hy38 =>
    intro y hy
    (try dsimp only at hy)
    go_simp
    try with_reducible rfl
   try simp only[Act.put,lsa,lsz,lsc]
   refine wpAnyH_ready (rs := [7]) (by kernel_rfl) (by simp) ?_;refine AllReadyH.cons (o:=⟨none,Op.store 53 (Operand.tmp 8) (Operand.tmp 22),0,_,_,none⟩) rfl (fun K hK => ?_) AllReadyH.nil;have⟨l0,l1,l2,f0,f1,f2⟩:=sA.s6;have B9s:=HP.out _ _ sA (by omega) hH.2 a5 n5 c5 m5 a6 n6 c6;have hr5:=RatAt.set3 hr5 sA (.slice a5 n5 c5) (.bool m5) (.slice a6 n6 c6);have sA:=(sA.set2 (.slice a5 n5 c5) (.bool m5)).set1 (.slice a6 n6 c6);go_simp
   refine hK.out _ _ ?_ (fun hH => ?_)
   · exact⟨HC.out _ B9s.now,B9s⟩
   clear hK K
   try simp only[Act.put,lsa,lsz,lsc]
   refine wpAnyH_take (i:=8) (oi:=⟨some 9,Op.assign (Operand.tmp 23),4,_,_,none⟩) (v := ?v39) rfl (by kernel_rfl) (by kernel_rfl) (by kernel_rfl) (fun _ _ _ h=>h) (Or.inl ⟨by rfl,?hy39⟩) hH ?_
   case hy39 =>
    intro y hy
    (try dsimp only at hy)
    go_simp
    try with_reducible rfl
   try simp only[Act.put,lsa,lsz,lsc]
   refine wpAnyH_done (by kernel_rfl) ?_ _;refine NoPanic.normal ?_;exact TL _ _ _ _ _ _ _ _ _ _ _ _ _ _ _ _ hH.2 sA hr5 (by omega)
 exact AllReadyH.nil
theorem ratPow_any (a : Option Addr) (n c : Nat) (m : Bool) (a2 : Option Addr) (n2 c2 : Nat) (P : Int) (Q : Nat) (N most : Int) (w : World) (h : RatAt w a n c m a2 n2 c2 P Q) (hQ : 0 < Q) (hl : dl P.natAbs <= 60) (hl2 : dl Q <= 60)
    (hN0 : -9223372036854775808<=N) (hN:N<=9223372036854775807) (hm:most<=64) (hm0 : -9223372036854775808<=most) :
    Calls Tryz.prog 226 #[.agg #[.slice a n c,.bool m,.slice a2 n2 c2],.int .i64 N,.int .i64 most] w fun e w'=>RatTold3 w w' e (poP P Q N most) (poQ P Q N most) (poO P Q N most):=by
 unfold poP poQ poO
 by_cases h0:0<=N
 · rw[if_pos h0,if_pos h0,if_pos h0];exact pow_up a n c m a2 n2 c2 P Q N most w h hQ hl hl2 h0 hN hm hm0
 · rw[if_neg h0,if_neg h0,if_neg h0]
   by_cases hP:P=0
   · rw[if_pos hP,if_pos hP,if_pos hP];subst hP;exact pow_nought a n c m a2 n2 c2 Q N most w h hQ hl2 h0
   · rw[if_neg hP,if_neg hP,if_neg hP]
     by_cases hM:N = -9223372036854775808
     · rw[if_pos hM,if_pos hM,if_pos hM];subst hM;exact pow_min a n c m a2 n2 c2 P Q most w h hQ hP hl hl2 hm hm0
     · rw[if_neg hM,if_neg hM,if_neg hM];exact pow_neg a n c m a2 n2 c2 P Q N most w h hQ hP hl hl2 h0 (by omega) hm hm0
end Go.Proofs.YtdmmenaejkpnjaaGreatDoor
namespace Go.Proofs.YtdmmenaejkpnjaaGreatDoor
open Go.RowKit
def cmpK(c:Int):Bool:=decide (c=60∨c=8804∨c=61∨c=8805∨c=62∨c=8800)
def logK(c:Int):Bool:=decide (c=8743∨c=8744∨c=9074∨c=9073)
def numK(c:Int):Bool:=decide (c=43∨c=45∨c=215∨c=247∨c=8968∨c=8970∨c=124∨c=42∨c=33∨c=9055∨c=9675)
def kindZ(c:Int):Int:=if cmpK c then 1 else if logK c then 2 else if numK c then 3 else 0
def hasD(c:Int):Bool:=cmpK c||(logK c||numK c)
theorem hasD_kind(c:Int):(kindZ c != 0)=hasD c:=by
 unfold kindZ hasD
 cases cmpK c<;>cases logK c<;>cases numK c<;>rfl
def cmpB(c n:Int):Bool:=if c=60 then decide (n<0)else if c=8804 then decide (n<=0)else if c=61 then decide (n=0)else if c=8805 then decide (0<=n)else if c=62 then decide (0<n)else !decide (n=0)
def truB(P:Int)(Q:Nat):Bool:=decide (Q=1)&&(decide (P=0)||decide (P=1))
def logB(c P P':Int):Bool:=if c=8743 then decide (P=1)&&decide (P'=1)else if c=8744 then decide (P=1)||decide (P'=1)else if c=9074 then !(decide (P=1)&&decide (P'=1))else !(decide (P=1)||decide (P'=1))
def b1(b:Bool):Int:=if b then 1 else 0
theorem b1_bd(b:Bool):0<=b1 b/\b1 b<=1:=by cases b<;>decide
def wy(r:Nat):Nat->Nat
 | 0=>1
 | i+1=>wy r i*(r+(i+1)) / (i+1)
theorem wy_two(r:Nat):∀j,j<=r->2^j<=wy r j
 | 0,_=>Nat.le_refl 1
 | j+1,h=>by
  show 2^(j+1)<=wy r j*(r+(j+1)) / (j+1)
  rw[Nat.le_div_iff_mul_le (by omega),Nat.pow_succ,Nat.mul_assoc];exact Nat.mul_le_mul (wy_two r j (by omega)) (by omega)
theorem wy_pos{r j:Nat}(h:j<=r):0<wy r j:=Nat.lt_of_lt_of_le (Nat.pow_pos (by omega)) (wy_two r j h)
theorem wy_few{r j m:Nat}(h:j<=r)(hl:lbs (wy r j)<=m):j<32*m:=by
 have h1:=lbs_le.1 hl;have h2:=wy_two r j h
 by_cases e:j<32*m
 · exact e
 · have h3:=Nat.pow_le_pow_right (show 0<2 by omega) (show 32*m<=j by omega)
   omega
def wyF(r:Nat)(l:Int):Nat->Bool
 | 0=>decide ((lbs 1:Int)<=l)
 | k+1=>wyF r l k&&decide ((lbs (wy r (k+1)):Int)<=l)
theorem wyF_iff {r : Nat} {l : Int} : ∀ {k}, wyF r l k = true ↔ ∀ j, j <= k -> (lbs (wy r j) : Int) <= l
 | 0=>by
  unfold wyF;rw[decide_eq_true_eq]
  exact ⟨fun h j hj => by obtain rfl : j = 0 := by omega
                          exact h,fun h=>h 0 (Nat.le_refl _)⟩
 | k+1=>by
  unfold wyF;rw[Bool.and_eq_true,decide_eq_true_eq,wyF_iff (k:=k)];refine⟨fun h j hj => ?_,fun h=>⟨fun j hj=>h j (by omega),h _ (Nat.le_refl _)⟩⟩
  by_cases e:j=k+1
  · rw[e];exact h.2
  · exact h.1 j (by omega)
theorem wyF_no{r:Nat}{l:Int}{j k:Nat}(hj:j<=k)(h:l<lbs (wy r j)):wyF r l k=false:=by
 cases e:wyF r l k with
 | false=>rfl
 | true =>
  have:=wyF_iff.1 e j hj
  omega
abbrev Ans:=Int × Nat × Int
def lim3(l:Int)(t:Ans):Ans:=if t.2.2≠0 then(0,1,t.2.2)else if l<limZ t.1 t.2.1 then(0,1,26)else t
def fewK(P P':Int):Nat:=min P.toNat (P'-P).toNat
def waysT(P:Int)(Q:Nat)(P':Int)(Q':Nat)(l:Int):Ans :=
 if Q≠1∨Q'≠1∨P<0∨P'<0 then(0,1,22)else if P'<P then(0,1,0)else if wyF (P'.toNat-fewK P P') l (fewK P P')then(((wy (P'.toNat-fewK P P') (fewK P P'):Nat):Int),1,0)else(0,1,26)
def limB(P:Int)(Q:Nat):Bool:=decide (Q=1)&&(decide (P.natAbs=0)||decide (P.natAbs=1))
def powT(P:Int)(Q:Nat)(P':Int)(Q':Nat)(l:Int):Ans :=
 if Q'≠1∨(P=0/\P'<0)then(0,1,22)else if P'=0 then(1,1,0)else if limB P Q then(if P'%2=0 then P*P else P,1,0)else if fitB P'=false then(0,1,26)else if poO P Q P' l then(poP P Q P' l,poQ P Q P' l,0)else(0,1,26)
def numT(c P:Int)(Q:Nat)(P':Int)(Q':Nat)(l:Int):Ans :=
 if c=43 then(plP P Q P' Q',plQ P Q P' Q',0)else if c=45 then(plP P Q (-P') Q',plQ P Q (-P') Q',0)else if c=215 then(tmP P Q P' Q',tmQ P Q P' Q',0)else
 if c=247 then(if P'=0 then(if P=0 then(1,1,0)else(0,1,22))else(nwP (P*Q') (P'*Q),nwQ (P*Q') (P'*Q),0))else
 if c=8968 then(if cmpZ (P*Q') (P'*Q)<0 then(P',Q',0)else(P,Q,0))else if c=8970 then(if 0<cmpZ (P*Q') (P'*Q)then(P',Q',0)else(P,Q,0))else
 if c=124 then(reP P Q P' Q',reQ P Q P' Q',0)else if c=42 then powT P Q P' Q' l else if c=33 then waysT P Q P' Q' l else(0,1,22)
def twoT(c P:Int)(Q:Nat)(P':Int)(Q':Nat)(l:Int):Ans :=
 if cmpK c then(b1 (cmpB c (cmpZ (P*Q') (P'*Q))),1,0)else if logK c then(if truB P Q&&truB P' Q' then(b1 (logB c P P'),1,0)else(0,1,22))else if numK c then lim3 l (numT c P Q P' Q' l)else(0,1,20)
theorem lim3_no{l:Int}{p:Int}{q:Nat}{e:Int}(h:e≠0):lim3 l (p,q,e)=(0,1,e):=by
 unfold lim3;rw[if_pos h]
theorem lim3_yes{l:Int}{p:Int}{q:Nat}:lim3 l (p,q,0)=if l<limZ p q then(0,1,26)else(p,q,0):=by
 unfold lim3;rw[if_neg (fun h=>h rfl)]
theorem lim3_ways {P P' : Int} {l : Int} {j : Nat} (h0 : 0 <= P) (h1 : P <= P') (hj : j <= fewK P P') (hb : ∀ i, i < j -> (lbs (wy (P'.toNat - fewK P P') i) : Int) <= l) (h : j = fewK P P' ∨ l < lbs (wy (P'.toNat - fewK P P') j)) :
    lim3 l (((wy (P'.toNat-fewK P P') j:Nat):Int),1,0)=lim3 l (waysT P 1 P' 1 l):=by
 have hr:j<=P'.toNat-fewK P P':=by unfold fewK at hj ⊢;omega
 have hz:limZ ((wy (P'.toNat-fewK P P') j:Nat):Int) 1=(lbs (wy (P'.toNat-fewK P P') j):Int):=by
  unfold limZ;rw[Int.natAbs_natCast,lbs_one];have:=lbs_pos (wy_pos hr)
  omega
 have hw:waysT P 1 P' 1 l=if wyF (P'.toNat-fewK P P') l (fewK P P')then(((wy (P'.toNat-fewK P P') (fewK P P'):Nat):Int),1,0)else(0,1,26):=by
  unfold waysT;rw[if_neg (by omega),if_neg (by omega)]
 rw[hw]
 by_cases hl:l<lbs (wy (P'.toNat-fewK P P') j)
 · rw[wyF_no hj hl,if_neg (by decide),lim3_no (e:=26) (by decide),lim3_yes,hz,if_pos hl]
 · have hjk:j=fewK P P':=by
     rcases h with h|h
     · exact h
     · exact absurd h hl
   have hF:wyF (P'.toNat-fewK P P') l (fewK P P')=true:=wyF_iff.2 (fun i hi=>by
    by_cases e:i<j
    · exact hb i e
    · obtain rfl:i=j:=by omega
      omega)
   rw[hF,if_pos rfl,← hjk]
def Good3(l:Int)(t s:Ans):Prop:=0<t.2.1/\lim3 l t=lim3 l s
theorem raQ_pos{P:Int}{Q:Nat}(n l:Int)(h:0<Q):0<raQ P Q n l:=by
 unfold raQ
 split
 · rename_i ho
   unfold raO at ho;rw[Bool.and_eq_true]at ho;exact powN_pos h n l ho.2
 · exact Nat.one_pos
theorem poQ_pos{P:Int}{Q:Nat}(n l:Int)(h:0<Q):0<poQ P Q n l:=by
 unfold poQ
 split
 · exact raQ_pos _ _ h
 · split
   · exact Nat.one_pos
   · rename_i hP
     split
     · exact raQ_pos _ _ (tmQ_pos _ _ (inQ_pos Q hP) (inQ_pos Q hP))
     · exact raQ_pos _ _ (inQ_pos Q hP)
theorem plQ_pos(P P':Int){Q Q':Nat}(h:0<Q)(h':0<Q'):0<plQ P Q P' Q':=loQ_pos _ (Nat.mul_pos h h')
theorem numT_pos(c:Int){P P':Int}{Q Q':Nat}(l:Int)(h:0<Q)(h':0<Q'):0<(numT c P Q P' Q' l).2.1:=by
 unfold numT
 split
 · exact plQ_pos _ _ h h'
 split
 · exact plQ_pos _ _ h h'
 split
 · exact tmQ_pos _ _ h h'
 split
 · split
   · split<;>exact Nat.one_pos
   · rename_i hP
     exact nwQ_pos _ (Int.mul_ne_zero hP (by omega))
 split
 · split
   · exact h'
   · exact h
 split
 · split
   · exact h'
   · exact h
 split
 · unfold reQ
   split
   · exact h'
   · exact plQ_pos _ _ h' (tmQ_pos _ _ h Nat.one_pos)
 split
 · unfold powT
   split
   · exact Nat.one_pos
   split
   · exact Nat.one_pos
   split
   · exact Nat.one_pos
   split
   · exact Nat.one_pos
   split
   · exact poQ_pos _ _ h
   · exact Nat.one_pos
 split
 · unfold waysT
   split
   · exact Nat.one_pos
   split
   · exact Nat.one_pos
   split<;>exact Nat.one_pos
 · exact Nat.one_pos
theorem twoT_bd(c:Int){P P':Int}{Q Q':Nat}{l:Int}(h:0<Q)(h':0<Q')(hl:l<=64):0<(twoT c P Q P' Q' l).2.1/\(twoT c P Q P' Q' l).1.natAbs<4294967296^64/\(twoT c P Q P' Q' l).2.1<4294967296^64:=by
 have one:∀z:Int,0<=z/\z<=1->0<(1:Nat)/\z.natAbs<4294967296^64/\(1:Nat)<4294967296^64:=fun z hz =>
  have h1:(1:Nat)<4294967296^64:=Nat.one_lt_pow (by omega) (by omega)
  ⟨by omega,Nat.lt_of_le_of_lt (show z.natAbs<=1 by omega) h1,h1⟩
 unfold twoT
 split
 · exact one _ (b1_bd _)
 split
 · split
   · exact one _ (b1_bd _)
   · exact one 0 (by decide)
 split
 · have hp:=numT_pos c (P:=P) (P':=P') l h h';generalize numT c P Q P' Q' l=t at *;unfold lim3
   split
   · exact one 0 (by decide)
   split
   · exact one 0 (by decide)
   · rename_i hlt
     unfold limZ at hlt;exact⟨hp,lbs_le32.1 (by omega),lbs_le32.1 (by omega)⟩
 · exact one 0 (by decide)
end Go.Proofs.YtdmmenaejkpnjaaGreatDoor
namespace Go.Proofs.YtdmmenaejkpnjaaGreatDoor
open Go.RowKit
attribute [local go_sem ↓] Go.wp_at_zero Go.wp_at_succ
set_option linter.unusedVariables false
set_option linter.unusedSimpArgs false
def RatTold4(w w':World)(e:Ending)(P:Int)(Q:Nat)(E:Int):Prop:=∃a n c m a2 n2 c2,e=.returned (.tuple #[.agg #[.slice a n c,.bool m,.slice a2 n2 c2],.int .i64 E])/\RatAt w' a n c m a2 n2 c2 P Q/\Below w.heap.size w w'
theorem RatTold4.done {w w2 : World} {k : Nat} {a0 : Option Addr} {n0 c0 : Nat} {m0 : Bool} {a1 : Option Addr} {n1 c1 : Nat} {a : Option Addr} {n c : Nat} {m : Bool} {a2 : Option Addr} {n2 c2 : Nat} {P : Int} {Q : Nat} (E : Int) (hb : Below w.heap.size w w2) (hk : w.heap.size <= k)
    (hs:Slot3 w2 k (.slice a0 n0 c0) (.bool m0) (.slice a1 n1 c1)) (h:RatAt w2 a n c m a2 n2 c2 P Q) :
    RatTold4 w (((w2.setCell ⟨k,0,none⟩ (.slice a n c)).setCell ⟨k,1,none⟩ (.bool m)).setCell ⟨k,2,none⟩ (.slice a2 n2 c2)) (.returned (.tuple #[.agg #[.slice a n c,.bool m,.slice a2 n2 c2],.int .i64 E])) P Q E :=
 ⟨a,n,c,m,a2,n2,c2,rfl,h.set3 hs _ _ _,((hb.setCell hk _).setCell hk _).setCell hk _⟩
set_option linter.unusedVariables false
set_option linter.unusedSimpArgs false
theorem sgn_nn{P:Int}:0<=sgnI P↔0<=P:=by unfold sgnI;split<;>(try split)<;>omega
theorem sgn_zr{P:Int}:sgnI P=0↔P=0:=by unfold sgnI;split<;>(try split)<;>omega
theorem sgn_ng{P:Int}:sgnI P<0↔P<0:=by unfold sgnI;split<;>(try split)<;>omega
theorem dkind_any (c : Int) (w : World)  :
    Calls Tryz.prog 58 #[.int .i32 c] w fun e w'=>e=.returned (.int .i64 (kindZ c))/\Below w.heap.size w w':=by
 have HE:=Lib.hid (Below.refl w.heap.size w)
 by_cases h:c=60∨c=8804∨c=61∨c=8805∨c=62∨c=8800∨c=8743∨c=8744∨c=9074∨c=9073∨c=43∨c=45∨c=215∨c=247∨c=8968∨c=8970∨c=124∨c=42∨c=33∨c=9055∨c=9675
 · rcases h with rfl|rfl|rfl|rfl|rfl|rfl|rfl|rfl|rfl|rfl|rfl|rfl|rfl|rfl|rfl|rfl|rfl|rfl|rfl|rfl|rfl
   all_goals
    go_enter Tryz.func58,Tryz.ntmps58;go_wp2;go_ret;exact⟨rfl,HE.out⟩
 · have e:kindZ c=0:=by
     unfold kindZ cmpK logK numK;rw[decide_eq_false (by omega),decide_eq_false (by omega),decide_eq_false (by omega)]
     rfl
   rw[e]
   have hh:(c==60)=false/\(c==8804)=false/\(c==61)=false/\(c==8805)=false/\(c==62)=false/\(c==8800)=false/\(c==8743)=false/\(c==8744)=false/\(c==9074)=false/\(c==9073)=false/\(c==43)=false/\(c==45)=false/\(c==215)=false/\(c==247)=false/\(c==8968)=false/\(c==8970)=false/\(c==124)=false/\(c==42)=false/\(c==33)=false/\(c==9055)=false/\(c==9675)=false:=by
    refine⟨?_,?_,?_,?_,?_,?_,?_,?_,?_,?_,?_,?_,?_,?_,?_,?_,?_,?_,?_,?_,?_⟩<;>(rw[beq_eq_false_iff_ne];omega)
   obtain⟨h60,h8804,h61,h8805,h62,h8800,h8743,h8744,h9074,h9073,h43,h45,h215,h247,h8968,h8970,h124,h42,h33,h9055,h9675⟩:=hh;clear h e;go_enter Tryz.func58,Tryz.ntmps58;go_wp2;go_ret;exact⟨rfl,HE.out⟩
theorem dhas_any (c : Int) (w : World)  :
    Calls Tryz.prog 19 #[.int .i32 c] w fun e w'=>e=.returned (.bool (hasD c))/\Below w.heap.size w w':=by
 have KI:=Lib.hid (fun wz=>dkind_any c wz);rw[← hasD_kind];generalize kindZ c=kz at *;have BB:=Lib.hid (Bag.start w);go_enter Tryz.func19,Tryz.ntmps19;go_wp2_with fail;go_at_call 58;refine(KI.out _).mono ?_;rintro e w2 ⟨rfl,hb2⟩;have BB:=bgo BB hb2;clear hb2;go_wp2;go_ret;exact⟨rfl,BB.out.below⟩
theorem dcompare_any (c n : Int) (w : World)  :
    Calls Tryz.prog 60 #[.int .i32 c,.int .i64 n] w fun e w'=>e=.returned (.bool (cmpB c n))/\Below w.heap.size w w':=by
 have HE:=Lib.hid (Below.refl w.heap.size w)
 by_cases h:c=60∨c=8804∨c=61∨c=8805∨c=62
 · rcases h with rfl|rfl|rfl|rfl|rfl
   · go_enter Tryz.func60,Tryz.ntmps60;go_wp2;go_ret;refine⟨?_,HE.out⟩
     first|rfl|(simp[cmpB];done)|(simp[cmpB,beq_iff_eq,Bool.eq_iff_iff];done)
   · go_enter Tryz.func60,Tryz.ntmps60;go_wp2;go_ret;refine⟨?_,HE.out⟩
     first|rfl|(simp[cmpB];done)|(simp[cmpB,beq_iff_eq,Bool.eq_iff_iff];done)
   · go_enter Tryz.func60,Tryz.ntmps60;go_wp2;go_ret;refine⟨?_,HE.out⟩
     first|rfl|(simp[cmpB];done)|(simp[cmpB,beq_iff_eq,Bool.eq_iff_iff];done)
   · go_enter Tryz.func60,Tryz.ntmps60;go_wp2;go_ret;refine⟨?_,HE.out⟩
     first|rfl|(simp[cmpB];done)|(simp[cmpB,beq_iff_eq,Bool.eq_iff_iff];done)
   · go_enter Tryz.func60,Tryz.ntmps60;go_wp2;go_ret;refine⟨?_,HE.out⟩
     first|rfl|(simp[cmpB];done)|(simp[cmpB,beq_iff_eq,Bool.eq_iff_iff];done)
 · have hh:(c==60)=false/\(c==8804)=false/\(c==61)=false/\(c==8805)=false/\(c==62)=false:=by
     refine⟨?_,?_,?_,?_,?_⟩<;>(rw[beq_eq_false_iff_ne];omega)
   have e:cmpB c n = !decide (n=0):=by
    unfold cmpB;rw[if_neg (by omega),if_neg (by omega),if_neg (by omega),if_neg (by omega),if_neg (by omega)]
   rw[e];obtain⟨h60,h8804,h61,h8805,h62⟩:=hh;clear h e;go_enter Tryz.func60,Tryz.ntmps60;go_wp2;go_ret;refine⟨?_,HE.out⟩
   first|rfl|(simp;done)|(simp[bne,Bool.eq_iff_iff];done)
theorem dtruth_any (b : Bool) (w : World)  :
    Calls Tryz.prog 59 #[.bool b] w fun e w'=>RatTold w w' e (b1 b) 1:=by
 cases b with
 | false =>
  have FR:=Lib.hid (fun wz=>ratFrom_any 0 wz (by omega));have BB:=Lib.hid ((Bag.start w).box3 (.slice none 0 0) (.bool false) (.slice none 0 0) 53);go_enter Tryz.func59,Tryz.ntmps59;go_wp2_with fail;go_at_call 56;refine(FR.out _).mono ?_;rintro e w1 ⟨x1,xn1,xc1,xm1,y1,yn1,yc1,rfl,hr1,hb1⟩;have BB:=bgo BB hb1;clear hb1;have hs:=BB.out.now.1;have⟨u0,u1,u2,g0,g1,g2⟩:=hs.s6;have HS:=hs.set (.slice x1 xn1 xc1) (.bool xm1) (.slice y1 yn1 yc1);have HE:=Lib.hid (RatTold.done BB.out.below (by omega) hs hr1);clear hs;go_wp2;exact bodyPost_ret (by simp[results,Tryz.results59,go_sem,HS]) rfl HE.out
 | true =>
  have FR:=Lib.hid (fun wz=>ratFrom_any 1 wz (by omega));have BB:=Lib.hid ((Bag.start w).box3 (.slice none 0 0) (.bool false) (.slice none 0 0) 53);go_enter Tryz.func59,Tryz.ntmps59;go_wp2_with fail;go_at_call 56;refine(FR.out _).mono ?_;rintro e w1 ⟨x1,xn1,xc1,xm1,y1,yn1,yc1,rfl,hr1,hb1⟩;have BB:=bgo BB hb1;clear hb1;have hs:=BB.out.now.1;have⟨u0,u1,u2,g0,g1,g2⟩:=hs.s6;have HS:=hs.set (.slice x1 xn1 xc1) (.bool xm1) (.slice y1 yn1 yc1);have HE:=Lib.hid (RatTold.done BB.out.below (by omega) hs hr1);clear hs;go_wp2;exact bodyPost_ret (by simp[results,Tryz.results59,go_sem,HS]) rfl HE.out
theorem disTruth_any (a : Option Addr) (n c : Nat) (m : Bool) (a2 : Option Addr) (n2 c2 : Nat) (P : Int) (Q : Nat) (w : World) (h : RatAt w a n c m a2 n2 c2 P Q) (hQ : 0 < Q) :
    Calls Tryz.prog 124 #[.agg #[.slice a n c,.bool m,.slice a2 n2 c2]] w fun e w'=>e=.returned (.bool (truB P Q))/\Below w.heap.size w w':=by
 have LM:=Lib.hid (fun wz h=>limited_any a n c m a2 n2 c2 P Q wz h hQ);have SG:=Lib.hid (fun wz h=>ratSign_any a n c m a2 n2 c2 P Q wz h)
 have ht:truB P Q=(limB P Q&&decide (0<=sgnI P)):=by
  unfold truB limB;rw[Bool.eq_iff_iff,Bool.and_eq_true,Bool.and_eq_true,Bool.and_eq_true,Bool.or_eq_true,Bool.or_eq_true,decide_eq_true_eq,decide_eq_true_eq,decide_eq_true_eq,decide_eq_true_eq,decide_eq_true_eq,decide_eq_true_eq,sgn_nn]
  omega
 rw[ht];obtain⟨lb,hlb⟩:∃z,limB P Q=z:=⟨_,rfl⟩
 rw[show(decide (Q=1)&&(decide (P.natAbs=0)||decide (P.natAbs=1)))=lb from hlb]at LM;rw[hlb];generalize sgnI P=sg at *;clear hlb ht hQ
 cases lb with
 | false =>
  have BB:=Lib.hid (((Bag.start w).rat h).box3 (.slice a n c) (.bool m) (.slice a2 n2 c2) 53);have⟨q00,q01,q02⟩:=BB.out.now.1.c3;go_enter Tryz.func124,Tryz.ntmps124;go_wp2_with fail;go_at_call 177;refine(LM.out _ BB.out.now.2.1).mono ?_;rintro e w1 ⟨rfl,hb1⟩;have BB:=bgo BB hb1;clear hb1;clear q00 q01 q02;have⟨q00,q01,q02⟩:=BB.out.now.1.c3;go_wp2;go_ret;exact⟨rfl,BB.out.below⟩
 | true =>
  have BB:=Lib.hid (((Bag.start w).rat h).box3 (.slice a n c) (.bool m) (.slice a2 n2 c2) 53);have⟨q00,q01,q02⟩:=BB.out.now.1.c3;go_enter Tryz.func124,Tryz.ntmps124;go_wp2_with fail;go_at_call 177;refine(LM.out _ BB.out.now.2.1).mono ?_;rintro e w1 ⟨rfl,hb1⟩;have BB:=bgo BB hb1;clear hb1;clear q00 q01 q02;have⟨q00,q01,q02⟩:=BB.out.now.1.c3;go_wp2_with fail;go_at_call 72;refine(SG.out _ BB.out.now.2.1).mono ?_;rintro e w2 ⟨rfl,hb2⟩;have BB:=bgo BB hb2;clear hb2;clear q00 q01 q02;have⟨q00,q01,q02⟩:=BB.out.now.1.c3;go_wp2;go_ret;exact⟨rfl,BB.out.below⟩
theorem djoined_no (a : Option Addr) (n c : Nat) (m : Bool) (a2 : Option Addr) (n2 c2 : Nat) (P : Int) (Q : Nat) (b : Option Addr) (k l : Nat) (v : Bool) (b2 : Option Addr) (k2 l2 : Nat) (P' : Int) (Q' : Nat) (c0 : Int) (w : World) (h : RatAt w a n c m a2 n2 c2 P Q) (g : RatAt w b k l v b2 k2 l2 P' Q') (hQ : 0 < Q) (hQ' : 0 < Q') (hn : (truB P Q && truB P' Q') = false) :
    Calls Tryz.prog 62 #[.int .i32 c0,.agg #[.slice a n c,.bool m,.slice a2 n2 c2],.agg #[.slice b k l,.bool v,.slice b2 k2 l2]] w fun e w'=>RatTold4 w w' e 0 1 22:=by
 have TA:=Lib.hid (fun wz h=>disTruth_any a n c m a2 n2 c2 P Q wz h hQ);have TB:=Lib.hid (fun wz h=>disTruth_any b k l v b2 k2 l2 P' Q' wz h hQ')
 cases hp:truB P Q with
 | false =>
  rw[hp]at TA;clear hQ hQ' hn hp;have BB:=bagR h g;have⟨q00,q01,q02,q10,q11,q12⟩:=bq0 BB;go_enter Tryz.func62,Tryz.ntmps62;go_wp2_with fail;go_at_call 124;refine(TA.out _ BB.out.now.2.2.2.2.1).mono ?_;rintro e w1 ⟨rfl,hb1⟩;have BB:=bgo BB hb1;clear hb1;clear q00 q01 q02 q10 q11 q12;have⟨q00,q01,q02,q10,q11,q12⟩:=bq0 BB;have hs:=BB.out.now.1;have⟨u0,u1,u2,g0,g1,g2⟩:=hs.s6;have HS:=hs.set (.slice none 0 0) (.bool false) (.slice none 0 0);have HE:=Lib.hid (RatTold4.done 22 BB.out.below (by omega) hs (RatAt.zero _));clear hs;go_wp2;exact bodyPost_ret (by simp[results,Tryz.results62,go_sem,HS]) rfl HE.out
 | true =>
  rw[hp,Bool.true_and]at hn;rw[hp]at TA;rw[hn]at TB;clear hQ hQ' hn hp;have BB:=bagR h g;have⟨q00,q01,q02,q10,q11,q12⟩:=bq0 BB;go_enter Tryz.func62,Tryz.ntmps62;go_wp2_with fail;go_at_call 124;refine(TA.out _ BB.out.now.2.2.2.2.1).mono ?_;rintro e w1 ⟨rfl,hb1⟩;have BB:=bgo BB hb1;clear hb1;clear q00 q01 q02 q10 q11 q12;have⟨q00,q01,q02,q10,q11,q12⟩:=bq0 BB;go_wp2_with fail;go_at_call 124;refine(TB.out _ BB.out.now.2.2.2.1).mono ?_;rintro e w2 ⟨rfl,hb2⟩;have BB:=bgo BB hb2;clear hb2;clear q00 q01 q02 q10 q11 q12;have⟨q00,q01,q02,q10,q11,q12⟩:=bq0 BB;have hs:=BB.out.now.1;have⟨u0,u1,u2,g0,g1,g2⟩:=hs.s6;have HS:=hs.set (.slice none 0 0) (.bool false) (.slice none 0 0);have HE:=Lib.hid (RatTold4.done 22 BB.out.below (by omega) hs (RatAt.zero _));clear hs;go_wp2;exact bodyPost_ret (by simp[results,Tryz.results62,go_sem,HS]) rfl HE.out
theorem djoined_0_0 (a : Option Addr) (n c : Nat) (m : Bool) (a2 : Option Addr) (n2 c2 : Nat) (b : Option Addr) (k l : Nat) (v : Bool) (b2 : Option Addr) (k2 l2 : Nat) (c0 : Int) (w : World) (h : RatAt w a n c m a2 n2 c2 0 1) (g : RatAt w b k l v b2 k2 l2 0 1) (hc : logK c0 = true) (Z : Int) (hz : b1 (logB c0 0 0) = Z) :
    Calls Tryz.prog 62 #[.int .i32 c0,.agg #[.slice a n c,.bool m,.slice a2 n2 c2],.agg #[.slice b k l,.bool v,.slice b2 k2 l2]] w fun e w'=>RatTold4 w w' e Z 1 0:=by
 have TA:=Lib.hid (fun wz h=>disTruth_any a n c m a2 n2 c2 0 1 wz h (by decide));have TB:=Lib.hid (fun wz h=>disTruth_any b k l v b2 k2 l2 0 1 wz h (by decide));have SA:=Lib.hid (fun wz h=>ratSign_any a n c m a2 n2 c2 0 1 wz h);have SB:=Lib.hid (fun wz h=>ratSign_any b k l v b2 k2 l2 0 1 wz h);rw[show truB 0 1=true from rfl]at TA;rw[show truB 0 1=true from rfl]at TB;rw[show sgnI 0=0 from rfl]at SA;rw[show sgnI 0=0 from rfl]at SB;have TR0:=Lib.hid (fun wz=>dtruth_any false wz);have TR1:=Lib.hid (fun wz=>dtruth_any true wz);rw[show b1 false=0 from rfl]at TR0;rw[show b1 true=1 from rfl]at TR1
 have hz2:Z=0∨Z=1:=by
  rw[← hz];unfold b1
  split<;>simp
 rcases of_decide_eq_true hc with rfl|rfl|rfl|rfl<;>rcases hz2 with rfl|rfl
 all_goals first
  | (exact absurd hz (by decide))
  | skip
 all_goals
  clear hz hc;have BB:=bagR h g;have⟨q00,q01,q02,q10,q11,q12⟩:=bq0 BB;go_enter Tryz.func62,Tryz.ntmps62;go_wp2_with fail;go_at_call 124;(with_reducible refine(TA.out _ BB.out.now.2.2.2.2.1).mono ?_);rintro e w1 ⟨rfl,hb1⟩;have BB:=bgo BB hb1;clear hb1;clear q00 q01 q02 q10 q11 q12;have⟨q00,q01,q02,q10,q11,q12⟩:=bq0 BB;go_wp2_with fail;go_at_call 124;(with_reducible refine(TB.out _ BB.out.now.2.2.2.1).mono ?_);rintro e w2 ⟨rfl,hb2⟩;have BB:=bgo BB hb2;clear hb2;clear q00 q01 q02 q10 q11 q12;have⟨q00,q01,q02,q10,q11,q12⟩:=bq0 BB;go_wp2_with fail;go_at_call 72;(with_reducible refine(SA.out _ BB.out.now.2.2.2.2.1).mono ?_);rintro e w3 ⟨rfl,hb3⟩;have BB:=bgo BB hb3;clear hb3;clear q00 q01 q02 q10 q11 q12;have⟨q00,q01,q02,q10,q11,q12⟩:=bq0 BB;go_wp2_with fail;go_at_call 72;(with_reducible refine(SA.out _ BB.out.now.2.2.2.2.1).mono ?_);rintro e w4 ⟨rfl,hb4⟩;have BB:=bgo BB hb4;clear hb4;clear q00 q01 q02 q10 q11 q12;have⟨q00,q01,q02,q10,q11,q12⟩:=bq0 BB;go_wp2_with fail;go_at_call 72;(with_reducible refine(SB.out _ BB.out.now.2.2.2.1).mono ?_);rintro e w5 ⟨rfl,hb5⟩;have BB:=bgo BB hb5;clear hb5;clear q00 q01 q02 q10 q11 q12;have⟨q00,q01,q02,q10,q11,q12⟩:=bq0 BB;go_wp2_with fail;go_at_call 59
  (first|(with_reducible refine(TR0.out _).mono ?_)|(with_reducible refine(TR1.out _).mono ?_))
  rintro e w6 ⟨x6,xn6,xc6,xm6,y6,yn6,yc6,rfl,hr6,hb6⟩;have BB:=bgo BB hb6;clear hb6;clear q00 q01 q02 q10 q11 q12;have⟨q00,q01,q02,q10,q11,q12⟩:=bq0 BB;have hs:=BB.out.now.1;have⟨u0,u1,u2,g0,g1,g2⟩:=hs.s6;have HS:=hs.set (.slice x6 xn6 xc6) (.bool xm6) (.slice y6 yn6 yc6);have HE:=Lib.hid (RatTold4.done 0 BB.out.below (by omega) hs hr6);clear hs;go_wp2;exact bodyPost_ret (by simp[results,Tryz.results62,go_sem,HS]) rfl HE.out
theorem djoined_0_1 (a : Option Addr) (n c : Nat) (m : Bool) (a2 : Option Addr) (n2 c2 : Nat) (b : Option Addr) (k l : Nat) (v : Bool) (b2 : Option Addr) (k2 l2 : Nat) (c0 : Int) (w : World) (h : RatAt w a n c m a2 n2 c2 0 1) (g : RatAt w b k l v b2 k2 l2 1 1) (hc : logK c0 = true) (Z : Int) (hz : b1 (logB c0 0 1) = Z) :
    Calls Tryz.prog 62 #[.int .i32 c0,.agg #[.slice a n c,.bool m,.slice a2 n2 c2],.agg #[.slice b k l,.bool v,.slice b2 k2 l2]] w fun e w'=>RatTold4 w w' e Z 1 0:=by
 have TA:=Lib.hid (fun wz h=>disTruth_any a n c m a2 n2 c2 0 1 wz h (by decide));have TB:=Lib.hid (fun wz h=>disTruth_any b k l v b2 k2 l2 1 1 wz h (by decide));have SA:=Lib.hid (fun wz h=>ratSign_any a n c m a2 n2 c2 0 1 wz h);have SB:=Lib.hid (fun wz h=>ratSign_any b k l v b2 k2 l2 1 1 wz h);rw[show truB 0 1=true from rfl]at TA;rw[show truB 1 1=true from rfl]at TB;rw[show sgnI 0=0 from rfl]at SA;rw[show sgnI 1=1 from rfl]at SB;have TR0:=Lib.hid (fun wz=>dtruth_any false wz);have TR1:=Lib.hid (fun wz=>dtruth_any true wz);rw[show b1 false=0 from rfl]at TR0;rw[show b1 true=1 from rfl]at TR1
 have hz2:Z=0∨Z=1:=by
  rw[← hz];unfold b1
  split<;>simp
 rcases of_decide_eq_true hc with rfl|rfl|rfl|rfl<;>rcases hz2 with rfl|rfl
 all_goals first
  | (exact absurd hz (by decide))
  | skip
 all_goals
  clear hz hc;have BB:=bagR h g;have⟨q00,q01,q02,q10,q11,q12⟩:=bq0 BB;go_enter Tryz.func62,Tryz.ntmps62;go_wp2_with fail;go_at_call 124;(with_reducible refine(TA.out _ BB.out.now.2.2.2.2.1).mono ?_);rintro e w1 ⟨rfl,hb1⟩;have BB:=bgo BB hb1;clear hb1;clear q00 q01 q02 q10 q11 q12;have⟨q00,q01,q02,q10,q11,q12⟩:=bq0 BB;go_wp2_with fail;go_at_call 124;(with_reducible refine(TB.out _ BB.out.now.2.2.2.1).mono ?_);rintro e w2 ⟨rfl,hb2⟩;have BB:=bgo BB hb2;clear hb2;clear q00 q01 q02 q10 q11 q12;have⟨q00,q01,q02,q10,q11,q12⟩:=bq0 BB;go_wp2_with fail;go_at_call 72;(with_reducible refine(SA.out _ BB.out.now.2.2.2.2.1).mono ?_);rintro e w3 ⟨rfl,hb3⟩;have BB:=bgo BB hb3;clear hb3;clear q00 q01 q02 q10 q11 q12;have⟨q00,q01,q02,q10,q11,q12⟩:=bq0 BB;go_wp2_with fail;go_at_call 72;(with_reducible refine(SA.out _ BB.out.now.2.2.2.2.1).mono ?_);rintro e w4 ⟨rfl,hb4⟩;have BB:=bgo BB hb4;clear hb4;clear q00 q01 q02 q10 q11 q12;have⟨q00,q01,q02,q10,q11,q12⟩:=bq0 BB;go_wp2_with fail;go_at_call 72;(with_reducible refine(SB.out _ BB.out.now.2.2.2.1).mono ?_);rintro e w5 ⟨rfl,hb5⟩;have BB:=bgo BB hb5;clear hb5;clear q00 q01 q02 q10 q11 q12;have⟨q00,q01,q02,q10,q11,q12⟩:=bq0 BB;go_wp2_with fail;go_at_call 59
  (first|(with_reducible refine(TR0.out _).mono ?_)|(with_reducible refine(TR1.out _).mono ?_))
  rintro e w6 ⟨x6,xn6,xc6,xm6,y6,yn6,yc6,rfl,hr6,hb6⟩;have BB:=bgo BB hb6;clear hb6;clear q00 q01 q02 q10 q11 q12;have⟨q00,q01,q02,q10,q11,q12⟩:=bq0 BB;have hs:=BB.out.now.1;have⟨u0,u1,u2,g0,g1,g2⟩:=hs.s6;have HS:=hs.set (.slice x6 xn6 xc6) (.bool xm6) (.slice y6 yn6 yc6);have HE:=Lib.hid (RatTold4.done 0 BB.out.below (by omega) hs hr6);clear hs;go_wp2;exact bodyPost_ret (by simp[results,Tryz.results62,go_sem,HS]) rfl HE.out
theorem djoined_1_0 (a : Option Addr) (n c : Nat) (m : Bool) (a2 : Option Addr) (n2 c2 : Nat) (b : Option Addr) (k l : Nat) (v : Bool) (b2 : Option Addr) (k2 l2 : Nat) (c0 : Int) (w : World) (h : RatAt w a n c m a2 n2 c2 1 1) (g : RatAt w b k l v b2 k2 l2 0 1) (hc : logK c0 = true) (Z : Int) (hz : b1 (logB c0 1 0) = Z) :
    Calls Tryz.prog 62 #[.int .i32 c0,.agg #[.slice a n c,.bool m,.slice a2 n2 c2],.agg #[.slice b k l,.bool v,.slice b2 k2 l2]] w fun e w'=>RatTold4 w w' e Z 1 0:=by
 have TA:=Lib.hid (fun wz h=>disTruth_any a n c m a2 n2 c2 1 1 wz h (by decide));have TB:=Lib.hid (fun wz h=>disTruth_any b k l v b2 k2 l2 0 1 wz h (by decide));have SA:=Lib.hid (fun wz h=>ratSign_any a n c m a2 n2 c2 1 1 wz h);have SB:=Lib.hid (fun wz h=>ratSign_any b k l v b2 k2 l2 0 1 wz h);rw[show truB 1 1=true from rfl]at TA;rw[show truB 0 1=true from rfl]at TB;rw[show sgnI 1=1 from rfl]at SA;rw[show sgnI 0=0 from rfl]at SB;have TR0:=Lib.hid (fun wz=>dtruth_any false wz);have TR1:=Lib.hid (fun wz=>dtruth_any true wz);rw[show b1 false=0 from rfl]at TR0;rw[show b1 true=1 from rfl]at TR1
 have hz2:Z=0∨Z=1:=by
  rw[← hz];unfold b1
  split<;>simp
 rcases of_decide_eq_true hc with rfl|rfl|rfl|rfl<;>rcases hz2 with rfl|rfl
 all_goals first
  | (exact absurd hz (by decide))
  | skip
 all_goals
  clear hz hc;have BB:=bagR h g;have⟨q00,q01,q02,q10,q11,q12⟩:=bq0 BB;go_enter Tryz.func62,Tryz.ntmps62;go_wp2_with fail;go_at_call 124;(with_reducible refine(TA.out _ BB.out.now.2.2.2.2.1).mono ?_);rintro e w1 ⟨rfl,hb1⟩;have BB:=bgo BB hb1;clear hb1;clear q00 q01 q02 q10 q11 q12;have⟨q00,q01,q02,q10,q11,q12⟩:=bq0 BB;go_wp2_with fail;go_at_call 124;(with_reducible refine(TB.out _ BB.out.now.2.2.2.1).mono ?_);rintro e w2 ⟨rfl,hb2⟩;have BB:=bgo BB hb2;clear hb2;clear q00 q01 q02 q10 q11 q12;have⟨q00,q01,q02,q10,q11,q12⟩:=bq0 BB;go_wp2_with fail;go_at_call 72;(with_reducible refine(SA.out _ BB.out.now.2.2.2.2.1).mono ?_);rintro e w3 ⟨rfl,hb3⟩;have BB:=bgo BB hb3;clear hb3;clear q00 q01 q02 q10 q11 q12;have⟨q00,q01,q02,q10,q11,q12⟩:=bq0 BB;go_wp2_with fail;go_at_call 72;(with_reducible refine(SB.out _ BB.out.now.2.2.2.1).mono ?_);rintro e w4 ⟨rfl,hb4⟩;have BB:=bgo BB hb4;clear hb4;clear q00 q01 q02 q10 q11 q12;have⟨q00,q01,q02,q10,q11,q12⟩:=bq0 BB;go_wp2_with fail;go_at_call 72;(with_reducible refine(SA.out _ BB.out.now.2.2.2.2.1).mono ?_);rintro e w5 ⟨rfl,hb5⟩;have BB:=bgo BB hb5;clear hb5;clear q00 q01 q02 q10 q11 q12;have⟨q00,q01,q02,q10,q11,q12⟩:=bq0 BB;go_wp2_with fail;go_at_call 59
  (first|(with_reducible refine(TR0.out _).mono ?_)|(with_reducible refine(TR1.out _).mono ?_))
  rintro e w6 ⟨x6,xn6,xc6,xm6,y6,yn6,yc6,rfl,hr6,hb6⟩;have BB:=bgo BB hb6;clear hb6;clear q00 q01 q02 q10 q11 q12;have⟨q00,q01,q02,q10,q11,q12⟩:=bq0 BB;have hs:=BB.out.now.1;have⟨u0,u1,u2,g0,g1,g2⟩:=hs.s6;have HS:=hs.set (.slice x6 xn6 xc6) (.bool xm6) (.slice y6 yn6 yc6);have HE:=Lib.hid (RatTold4.done 0 BB.out.below (by omega) hs hr6);clear hs;go_wp2;exact bodyPost_ret (by simp[results,Tryz.results62,go_sem,HS]) rfl HE.out
theorem djoined_1_1 (a : Option Addr) (n c : Nat) (m : Bool) (a2 : Option Addr) (n2 c2 : Nat) (b : Option Addr) (k l : Nat) (v : Bool) (b2 : Option Addr) (k2 l2 : Nat) (c0 : Int) (w : World) (h : RatAt w a n c m a2 n2 c2 1 1) (g : RatAt w b k l v b2 k2 l2 1 1) (hc : logK c0 = true) (Z : Int) (hz : b1 (logB c0 1 1) = Z) :
    Calls Tryz.prog 62 #[.int .i32 c0,.agg #[.slice a n c,.bool m,.slice a2 n2 c2],.agg #[.slice b k l,.bool v,.slice b2 k2 l2]] w fun e w'=>RatTold4 w w' e Z 1 0:=by
 have TA:=Lib.hid (fun wz h=>disTruth_any a n c m a2 n2 c2 1 1 wz h (by decide));have TB:=Lib.hid (fun wz h=>disTruth_any b k l v b2 k2 l2 1 1 wz h (by decide));have SA:=Lib.hid (fun wz h=>ratSign_any a n c m a2 n2 c2 1 1 wz h);have SB:=Lib.hid (fun wz h=>ratSign_any b k l v b2 k2 l2 1 1 wz h);rw[show truB 1 1=true from rfl]at TA;rw[show truB 1 1=true from rfl]at TB;rw[show sgnI 1=1 from rfl]at SA;rw[show sgnI 1=1 from rfl]at SB;have TR0:=Lib.hid (fun wz=>dtruth_any false wz);have TR1:=Lib.hid (fun wz=>dtruth_any true wz);rw[show b1 false=0 from rfl]at TR0;rw[show b1 true=1 from rfl]at TR1
 have hz2:Z=0∨Z=1:=by
  rw[← hz];unfold b1
  split<;>simp
 rcases of_decide_eq_true hc with rfl|rfl|rfl|rfl<;>rcases hz2 with rfl|rfl
 all_goals first
  | (exact absurd hz (by decide))
  | skip
 all_goals
  clear hz hc;have BB:=bagR h g;have⟨q00,q01,q02,q10,q11,q12⟩:=bq0 BB;go_enter Tryz.func62,Tryz.ntmps62;go_wp2_with fail;go_at_call 124;(with_reducible refine(TA.out _ BB.out.now.2.2.2.2.1).mono ?_);rintro e w1 ⟨rfl,hb1⟩;have BB:=bgo BB hb1;clear hb1;clear q00 q01 q02 q10 q11 q12;have⟨q00,q01,q02,q10,q11,q12⟩:=bq0 BB;go_wp2_with fail;go_at_call 124;(with_reducible refine(TB.out _ BB.out.now.2.2.2.1).mono ?_);rintro e w2 ⟨rfl,hb2⟩;have BB:=bgo BB hb2;clear hb2;clear q00 q01 q02 q10 q11 q12;have⟨q00,q01,q02,q10,q11,q12⟩:=bq0 BB;go_wp2_with fail;go_at_call 72;(with_reducible refine(SA.out _ BB.out.now.2.2.2.2.1).mono ?_);rintro e w3 ⟨rfl,hb3⟩;have BB:=bgo BB hb3;clear hb3;clear q00 q01 q02 q10 q11 q12;have⟨q00,q01,q02,q10,q11,q12⟩:=bq0 BB;go_wp2_with fail;go_at_call 72;(with_reducible refine(SB.out _ BB.out.now.2.2.2.1).mono ?_);rintro e w4 ⟨rfl,hb4⟩;have BB:=bgo BB hb4;clear hb4;clear q00 q01 q02 q10 q11 q12;have⟨q00,q01,q02,q10,q11,q12⟩:=bq0 BB;go_wp2_with fail;go_at_call 72;(with_reducible refine(SA.out _ BB.out.now.2.2.2.2.1).mono ?_);rintro e w5 ⟨rfl,hb5⟩;have BB:=bgo BB hb5;clear hb5;clear q00 q01 q02 q10 q11 q12;have⟨q00,q01,q02,q10,q11,q12⟩:=bq0 BB;go_wp2_with fail;go_at_call 59
  (first|(with_reducible refine(TR0.out _).mono ?_)|(with_reducible refine(TR1.out _).mono ?_))
  rintro e w6 ⟨x6,xn6,xc6,xm6,y6,yn6,yc6,rfl,hr6,hb6⟩;have BB:=bgo BB hb6;clear hb6;clear q00 q01 q02 q10 q11 q12;have⟨q00,q01,q02,q10,q11,q12⟩:=bq0 BB;have hs:=BB.out.now.1;have⟨u0,u1,u2,g0,g1,g2⟩:=hs.s6;have HS:=hs.set (.slice x6 xn6 xc6) (.bool xm6) (.slice y6 yn6 yc6);have HE:=Lib.hid (RatTold4.done 0 BB.out.below (by omega) hs hr6);clear hs;go_wp2;exact bodyPost_ret (by simp[results,Tryz.results62,go_sem,HS]) rfl HE.out
theorem truB_iff{P:Int}{Q:Nat}(h:truB P Q=true):Q=1/\(P=0∨P=1):=by
 unfold truB at h;rw[Bool.and_eq_true,Bool.or_eq_true,decide_eq_true_eq,decide_eq_true_eq,decide_eq_true_eq]at h;exact h
theorem djoined_any (a : Option Addr) (n c : Nat) (m : Bool) (a2 : Option Addr) (n2 c2 : Nat) (P : Int) (Q : Nat) (b : Option Addr) (k l : Nat) (v : Bool) (b2 : Option Addr) (k2 l2 : Nat) (P' : Int) (Q' : Nat) (c0 : Int) (w : World) (h : RatAt w a n c m a2 n2 c2 P Q) (g : RatAt w b k l v b2 k2 l2 P' Q') (hQ : 0 < Q) (hQ' : 0 < Q') (hc : logK c0 = true) :
    Calls Tryz.prog 62 #[.int .i32 c0,.agg #[.slice a n c,.bool m,.slice a2 n2 c2],.agg #[.slice b k l,.bool v,.slice b2 k2 l2]] w fun e w'=>RatTold4 w w' e (if truB P Q&&truB P' Q' then(b1 (logB c0 P P'),1,0)else(0,1,22):Ans).1 (if truB P Q&&truB P' Q' then(b1 (logB c0 P P'),1,0)else(0,1,22):Ans).2.1 (if truB P Q&&truB P' Q' then(b1 (logB c0 P P'),1,0)else(0,1,22):Ans).2.2:=by
 cases ht:(truB P Q&&truB P' Q')with
 | false=>exact djoined_no a n c m a2 n2 c2 P Q b k l v b2 k2 l2 P' Q' c0 w h g hQ hQ' ht
 | true =>
  rw[Bool.and_eq_true]at ht;obtain⟨rfl,hp⟩:=truB_iff ht.1;obtain⟨rfl,hq⟩:=truB_iff ht.2
  rcases hp with rfl|rfl<;>rcases hq with rfl|rfl
  · exact djoined_0_0 a n c m a2 n2 c2 b k l v b2 k2 l2 c0 w h g hc _ rfl
  · exact djoined_0_1 a n c m a2 n2 c2 b k l v b2 k2 l2 c0 w h g hc _ rfl
  · exact djoined_1_0 a n c m a2 n2 c2 b k l v b2 k2 l2 c0 w h g hc _ rfl
  · exact djoined_1_1 a n c m a2 n2 c2 b k l v b2 k2 l2 c0 w h g hc _ rfl
end Go.Proofs.YtdmmenaejkpnjaaGreatDoor
