/-
  Texts of this seat, laid together.
-/
import Derived.Lib.ItoaNum
import Derived.IntWalk
import Derived.WalkKit
import Derived.WalkSpells
import Derived.Deep.Draws
import Derived.Lib.Hide
import Derived.Lib.TrimByte
import Derived.WalkLawsBesides
import Derived.Laws.CopyOwn
import Derived.Deep.QuietTactic
import Derived.BigQuiet
import Derived.BigRegion
import Derived.RegionTactic
import Derived.Deep.RegionWith
import Derived.StillTailTactics
import Derived.Lib.SliceRun
import Derived.Lib.Walk
import Derived.Laws.StructEq
import Derived.Deep.MidRow
import Derived.ChangeKeysEq
import Derived.Deep.AppendLies
import Derived.Deep.RegionLaw
import Derived.Deep.RegionHeld3
import Derived.Below
import Derived.Test.YtdmmenaejkpnjaaGreatDoorO1
set_option maxHeartbeats 12800000
set_option maxRecDepth 100000
set_option linter.unusedSimpArgs false
set_option linter.unusedVariables false
namespace Go.Proofs.YtdmmenaejkpnjaaGreatDoor
open Go.RowKit
attribute [local go_sem ↓] Go.wp_at_zero Go.wp_at_succ
theorem Bag.drewT{w0 w:World}{P:World->Prop}(h:Bag w0 P w):Bag w0 P w.drew:=h.drew
theorem floor_odd (a : Option Addr) (n c : Nat) (m : Bool) (Z : Int) (a2 : Option Addr) (n2 c2 : Nat) (m2 : Bool) (Y : Int) (w : World) (h : IntAt w a n c m Z) (g : IntAt w a2 n2 c2 m2 Y) (K : Nat) (hK : K <= 800000) (hZ : Z.natAbs < 4294967296 ^ K) (hY : Y ≠ 0)
    (hap:(m != m2)=true) (hr0:Z.natAbs%Y.natAbs≠0) :
    Calls Tryz.prog 230 #[.agg #[.slice a n c,.bool m],.agg #[.slice a2 n2 c2,.bool m2]] w fun e w'=>FloorTold w w' e (flQ Z Y) (flR Z Y):=by
 have hfu:flA Z Y=true/\flQ Z Y=sgn true (Z.natAbs / Y.natAbs+1)/\flR Z Y=sgn m2 (Y.natAbs-Z.natAbs%Y.natAbs):=by
  have e1:flA Z Y=true:=by unfold flA;rw[← h.1,← g.1];exact hap
  refine⟨e1,?_,?_⟩
  · unfold flQ flU;rw[e1];simp[hr0]
  · unfold flR flU;rw[e1,← g.1];simp[hr0]
 obtain⟨_,hfq,hfr⟩:=hfu;have BB:=Lib.hid (FP.start h g);have q0:=BB.out.now.2.2.2.1.cell;have q1:=BB.out.now.2.2.2.1.cell1;have q2:=BB.out.now.2.2.1.cell;have q3:=BB.out.now.2.2.1.cell1;have N1:Hid (∀wz,FP w.heap.size a n c m Z a2 n2 c2 m2 Y wz->Calls Tryz.prog 173 #[.agg #[.slice a n c,.bool m]] wz fun e w'=>e=.returned (.bool m)/\Below wz.heap.size wz w'):=fun wz hz=>neg_any a n c m Z wz hz.2.2.2.2.2
 have N2:Hid (∀wz,FP w.heap.size a n c m Z a2 n2 c2 m2 Y wz->Calls Tryz.prog 173 #[.agg #[.slice a2 n2 c2,.bool m2]] wz fun e w'=>e=.returned (.bool m2)/\Below wz.heap.size wz w'):=fun wz hz=>neg_any a2 n2 c2 m2 Y wz hz.2.2.2.2.1
 have DM:Hid (∀wz,FP w.heap.size a n c m Z a2 n2 c2 m2 Y wz->Calls Tryz.prog 171 #[.agg #[.slice a n c],.agg #[.slice a2 n2 c2]] wz fun e w'=>DivOf3 wz w' e (Z.natAbs / Y.natAbs) (Z.natAbs%Y.natAbs) true):=fun wz hz=>(divMod_any _ _ _ _ wz hz.2.2.2.2.2.2 hz.2.2.2.2.1.2 K (by omega) hZ).mono fun _ _ h=>by
  have:=h.three (b:=true) (by simp;omega);unfold modz at this;rw[if_neg (by omega)]at this;exact this
 have OF1:Hid (∀a3 n3 c3 wz,NatIs wz (.agg #[.slice a3 n3 c3]) (Z.natAbs / Y.natAbs+1)->Calls Tryz.prog 116 #[.bool true,.agg #[.slice a3 n3 c3]] wz fun e w'=>IntTold wz w' e (flQ Z Y)):=by
  intro a3 n3 c3 wz hi;have:=wof_any true a3 n3 c3 _ wz hi;rw[← hfq]at this;exact this
 have OF2:Hid (∀a3 n3 c3 wz,NatIs wz (.agg #[.slice a3 n3 c3]) (Y.natAbs-Z.natAbs%Y.natAbs)->Calls Tryz.prog 116 #[.bool m2,.agg #[.slice a3 n3 c3]] wz fun e w'=>IntTold wz w' e (flR Z Y)):=by
  intro a3 n3 c3 wz hi;have:=wof_any m2 a3 n3 c3 _ wz hi;rw[← hfr]at this;exact this
 obtain⟨N,hN⟩:∃N,Z.natAbs=N:=⟨_,rfl⟩
 obtain⟨M,hM⟩:∃M,Y.natAbs=M:=⟨_,rfl⟩
 have hM0:0<M:=by omega
 have hgM:=g.1;have hNK:N<4294967296^K:=by omega
 have SB:Hid (∀a3 n3 c3 wz,FP w.heap.size a n c m Z a2 n2 c2 m2 Y wz->NatIs wz (.agg #[.slice a3 n3 c3]) (N%M)->Calls Tryz.prog 251 #[.agg #[.slice a2 n2 c2],.agg #[.slice a3 n3 c3]] wz fun e w'=>SubOf3 wz w' e (M-N%M) true):=fun a3 n3 c3 wz hz hi=>(sub_any _ _ M (N%M) wz (by rw[← hM];exact hz.2.2.2.2.1.2) hi).mono fun _ _ h=>h.three (decide_eq_true (Nat.le_of_lt (Nat.mod_lt N hM0)))
 have AD:Hid (∀a3 n3 c3 a4 n4 c4 wz,NatIs wz (.agg #[.slice a3 n3 c3]) (N / M)->NatIs wz (.agg #[.slice a4 n4 c4]) 1->Calls Tryz.prog 167 #[.agg #[.slice a3 n3 c3],.agg #[.slice a4 n4 c4]] wz fun e w'=>NatOf3 wz w' e (N / M+1)):=fun a3 n3 c3 a4 n4 c4 wz hi hj=>(add_any _ _ _ _ wz hi hj (K+1) (by omega) (by
     have:=Nat.div_le_self N M;have h2:=pow_mono32 (show K<=K+1 by omega)
     omega) (by
     have:=pow_mono32 (show 1<=K+1 by omega);rw[Nat.pow_one]at this
     omega)).mono fun _ _ h=>h.three
 rw[hN,hM]at DM OF1 OF2;have hd:(m==m2)=false:=by simpa using hap
 have ZR:Hid (∀a3 n3 c3 wz,NatIs wz (.agg #[.slice a3 n3 c3]) (N%M)->Calls Tryz.prog 114 #[.agg #[.slice a3 n3 c3]] wz fun e w'=>e=.returned (.bool false)/\Below wz.heap.size wz w'):=by
  intro a3 n3 c3 wz hi;have h1:=zero_any _ _ wz hi;rw[show decide (N%M=0)=false from by rw[← hN,← hM];exact decide_eq_false hr0]at h1;exact h1
 clear hr0;clear h g hZ hY hfq hfr hap hN hM hgM hNK hM0;go_enter Tryz.func230,Tryz.ntmps230;go_wp2_with fail;go_at_call 171;(with_reducible refine(DM.out _ BB.out.now).mono ?_);rintro e w4 ⟨aq,nq,cq,ar,nr,cr,rfl,hi3,hi4,hb4⟩;have hk4:w.heap.size+1+1+1<w4.heap.size:=RS.lt (BB.out.go hb4).now.2.1;have BQ:=((((BB.out.go hb4).nat hi4).nat hi3).box (.slice aq nq cq) 49).box (.slice ar nr cr) 49;rw[World.size_alloc]at BQ;have BB:Hid (Bag w (fun y=>Slot y w4.heap.size (.slice aq nq cq)/\NatIs y (.agg #[.slice aq nq cq]) (N / M)/\Slot y (w4.heap.size+1) (.slice ar nr cr)/\NatIs y (.agg #[.slice ar nr cr]) (N%M)/\FP w.heap.size a n c m Z a2 n2 c2 m2 Y y) _):=⟨BQ.below,fun x y hb h=>⟨h.1.below hb,h.2.1.below hb,h.2.2.1.below hb,h.2.2.2.1.below hb,FP.stay x y hb h.2.2.2.2⟩,BQ.now.2.1,BQ.now.2.2.1,BQ.now.1,BQ.now.2.2.2.1,BQ.now.2.2.2.2⟩
 clear hb4 hi3 hi4 q0 q1 q2 q3 BQ;go_wp2_with fail
 go_region_held3 (fun y => (y.cell? ⟨w.heap.size, 0, none⟩ = some (.slice a n c) /\ y.cell? ⟨w.heap.size, 1, none⟩ = some (.bool m) /\ y.cell? ⟨w.heap.size + 1, 0, none⟩ = some (.slice a2 n2 c2) /\ y.cell? ⟨w.heap.size + 1, 1, none⟩ = some (.bool m2)) /\ Bag w (fun y => Slot y w4.heap.size (.slice aq nq cq) /\ NatIs y (.agg #[.slice aq nq cq]) (N / M) /\ Slot y (w4.heap.size + 1) (.slice ar nr cr) /\ NatIs y (.agg #[.slice ar nr cr]) (N % M) /\ FP w.heap.size a n c m Z a2 n2 c2 m2 Y y) y)
  (first|(have B9:=BB.out.drew;exact⟨⟨B9.now.2.2.2.2.2.2.2.1.cell,B9.now.2.2.2.2.2.2.2.1.cell1,B9.now.2.2.2.2.2.2.1.cell,B9.now.2.2.2.2.2.2.1.cell1⟩,B9⟩)|(have B9:=Bag.go (show Bag w (fun y=>Slot y w4.heap.size (.slice aq nq cq)/\NatIs y (.agg #[.slice aq nq cq]) (N / M)/\Slot y (w4.heap.size+1) (.slice ar nr cr)/\NatIs y (.agg #[.slice ar nr cr]) (N%M)/\FP w.heap.size a n c m Z a2 n2 c2 m2 Y y) _ from by go_split_ands;assumption) hb2;exact⟨⟨B9.now.2.2.2.2.2.2.2.1.cell,B9.now.2.2.2.2.2.2.2.1.cell1,B9.now.2.2.2.2.2.2.1.cell,B9.now.2.2.2.2.2.2.1.cell1⟩,B9⟩))
  (first
    | (go_at_call 173;(with_reducible refine(N1.out _ ?_).mono ?_);exact(show Bag w (fun y=>Slot y w4.heap.size (.slice aq nq cq)/\NatIs y (.agg #[.slice aq nq cq]) (N / M)/\Slot y (w4.heap.size+1) (.slice ar nr cr)/\NatIs y (.agg #[.slice ar nr cr]) (N%M)/\FP w.heap.size a n c m Z a2 n2 c2 m2 Y y) _ from by go_split_ands;assumption).now.2.2.2.2;rintro e w2 ⟨rfl,hb2⟩)
    | (go_at_call 173;(with_reducible refine(N2.out _ ?_).mono ?_);exact(show Bag w (fun y=>Slot y w4.heap.size (.slice aq nq cq)/\NatIs y (.agg #[.slice aq nq cq]) (N / M)/\Slot y (w4.heap.size+1) (.slice ar nr cr)/\NatIs y (.agg #[.slice ar nr cr]) (N%M)/\FP w.heap.size a n c m Z a2 n2 c2 m2 Y y) _ from by go_split_ands;assumption).now.2.2.2.2;rintro e w2 ⟨rfl,hb2⟩))
 have BB:=Lib.hid (show Bag w (fun y=>Slot y w4.heap.size (.slice aq nq cq)/\NatIs y (.agg #[.slice aq nq cq]) (N / M)/\Slot y (w4.heap.size+1) (.slice ar nr cr)/\NatIs y (.agg #[.slice ar nr cr]) (N%M)/\FP w.heap.size a n c m Z a2 n2 c2 m2 Y y) _ from by go_split_ands;assumption);have q5:=BB.out.now.2.2.1.cell;go_wp2_with fail;go_at_call 114;(with_reducible refine(ZR.out ar nr cr _ BB.out.now.2.2.2.1).mono ?_);rintro e w6 ⟨rfl,hb6⟩;have BB:=bgo BB hb6;clear hb6 q5;have q5:=BB.out.now.1.cell;go_wp2_with fail
 go_region_with (first
  | (go_at_call 146;refine(of_pl2 1 _ (by omega)).mono ?_;rintro e w2 ⟨a8,n8,c8,rfl,hi8,hb2⟩;have BB:=Lib.hid (Bag.go (BB.out.drewT) hb2);have q5:=BB.out.now.1.cell;clear hb2)
  | (go_at_call 167;(with_reducible refine(AD.out aq nq cq a8 n8 c8 _ BB.out.now.2.1 hi8).mono ?_);rintro e w2 ⟨a9,n9,c9,rfl,hi9,hb2⟩;have B7:=BB.out.go hb2;have hc:=B7.now.1.cell;have hf:=B7.now.1.free;have B8:Hid (Bag w (fun y=>Slot y w4.heap.size (.slice a9 n9 c9)/\NatIs y (.agg #[.slice a9 n9 c9]) (N / M+1)/\Slot y (w4.heap.size+1) (.slice ar nr cr)/\NatIs y (.agg #[.slice ar nr cr]) (N%M)/\FP w.heap.size a n c m Z a2 n2 c2 m2 Y y) (w2.setCell ⟨w4.heap.size,0,none⟩ (.slice a9 n9 c9))):=⟨B7.below.setCell (show w.heap.size<=w4.heap.size by omega) _,fun x y hb h=>⟨h.1.below hb,h.2.1.below hb,h.2.2.1.below hb,h.2.2.2.1.below hb,FP.stay x y hb h.2.2.2.2⟩,B7.now.1.set1 _,hi9.storeAt hc (fun _ _ h=>by cases h) _,B7.now.2.2.1.other _ (by omega),B7.now.2.2.2.1.storeAt hc (fun _ _ h=>by cases h) _,B7.now.2.2.2.2.set1 hc (by omega) _⟩;clear B7 hb2))
 all_goals
  have q5:=B8.out.now.2.2.1.cell;have q6:=B8.out.now.2.2.2.2.2.2.1.cell;go_wp2_with fail;go_at_call 251;(with_reducible refine(SB.out ar nr cr _ B8.out.now.2.2.2.2 B8.out.now.2.2.2.1).mono ?_);rintro e w7 ⟨a10,n10,c10,rfl,hi10,hb7⟩;have B7:=B8.out.go hb7;have hc:=B7.now.2.2.1.cell;have hf:=B7.now.2.2.1.free;have BB:Hid (Bag w (fun y=>Slot y w4.heap.size (.slice a9 n9 c9)/\NatIs y (.agg #[.slice a9 n9 c9]) (N / M+1)/\Slot y (w4.heap.size+1) (.slice a10 n10 c10)/\NatIs y (.agg #[.slice a10 n10 c10]) (M-N%M)/\FP w.heap.size a n c m Z a2 n2 c2 m2 Y y) (w7.setCell ⟨w4.heap.size+1,0,none⟩ (.slice a10 n10 c10))):=⟨B7.below.setCell (show w.heap.size<=w4.heap.size+1 by omega) _,fun x y hb h=>⟨h.1.below hb,h.2.1.below hb,h.2.2.1.below hb,h.2.2.2.1.below hb,FP.stay x y hb h.2.2.2.2⟩,B7.now.1.other _ (by omega),B7.now.2.1.storeAt hc (fun _ _ h=>by cases h) _,B7.now.2.2.1.set1 _,hi10.storeAt hc (fun _ _ h=>by cases h) _,B7.now.2.2.2.2.set1 hc (by omega) _⟩
  clear B7 hb7 hi10 q5 q6;go_wp2_with fail
  go_region_held3 (fun y => (y.cell? ⟨w4.heap.size, 0, none⟩ = some (.slice a9 n9 c9) /\ y.cell? ⟨w4.heap.size + 1, 0, none⟩ = some (.slice a10 n10 c10) /\ y.cell? ⟨w.heap.size + 1, 0, none⟩ = some (.slice a2 n2 c2) /\ y.cell? ⟨w.heap.size + 1, 1, none⟩ = some (.bool m2)) /\ Bag w (fun y => Slot y w4.heap.size (.slice a9 n9 c9) /\ NatIs y (.agg #[.slice a9 n9 c9]) (N / M + 1) /\ Slot y (w4.heap.size + 1) (.slice a10 n10 c10) /\ NatIs y (.agg #[.slice a10 n10 c10]) (M - N % M) /\ FP w.heap.size a n c m Z a2 n2 c2 m2 Y y) y)
   (first
     | (have B9:=BB.out.drew;exact⟨⟨B9.now.1.cell,B9.now.2.2.1.cell,B9.now.2.2.2.2.2.2.1.cell,B9.now.2.2.2.2.2.2.1.cell1⟩,B9⟩)
     | (have B9:=Bag.go (show Bag w (fun y=>Slot y w4.heap.size (.slice a9 n9 c9)/\NatIs y (.agg #[.slice a9 n9 c9]) (N / M+1)/\Slot y (w4.heap.size+1) (.slice a10 n10 c10)/\NatIs y (.agg #[.slice a10 n10 c10]) (M-N%M)/\FP w.heap.size a n c m Z a2 n2 c2 m2 Y y) _ from by go_split_ands;assumption) hb2;exact⟨⟨B9.now.1.cell,B9.now.2.2.1.cell,B9.now.2.2.2.2.2.2.1.cell,B9.now.2.2.2.2.2.2.1.cell1⟩,B9⟩)
     | (have B9:=Bag.put (show Bag w (fun y=>Slot y w4.heap.size (.slice a9 n9 c9)/\NatIs y (.agg #[.slice a9 n9 c9]) (N / M+1)/\Slot y (w4.heap.size+1) (.slice a10 n10 c10)/\NatIs y (.agg #[.slice a10 n10 c10]) (M-N%M)/\FP w.heap.size a n c m Z a2 n2 c2 m2 Y y) _ from by go_split_ands;assumption) (k:=w.heap.size+1+1) (a:=a5) (n:=n5) (c:=c5) (b:=m5) (by omega) (fun h=>⟨h.1.put (by omega) _ _ _ _,h.2.1.put h.2.2.2.2.1 _ _ _ _,h.2.2.1.put (by omega) _ _ _ _,h.2.2.2.1.put h.2.2.2.2.1 _ _ _ _,h.2.2.2.2.put h.2.2.2.2.1 (by omega) (by omega) _ _ _ _⟩);exact⟨⟨B9.now.1.cell,B9.now.2.2.1.cell,B9.now.2.2.2.2.2.2.1.cell,B9.now.2.2.2.2.2.2.1.cell1⟩,B9⟩)
     | (have B9:=Bag.put (show Bag w (fun y=>Slot y w4.heap.size (.slice a9 n9 c9)/\NatIs y (.agg #[.slice a9 n9 c9]) (N / M+1)/\Slot y (w4.heap.size+1) (.slice a10 n10 c10)/\NatIs y (.agg #[.slice a10 n10 c10]) (M-N%M)/\FP w.heap.size a n c m Z a2 n2 c2 m2 Y y) _ from by go_split_ands;assumption) (k:=w.heap.size+1+1+1) (a:=a6) (n:=n6) (c:=c6) (b:=m6) (by omega) (fun h=>⟨h.1.put (by omega) _ _ _ _,h.2.1.put h.2.2.2.2.2.1 _ _ _ _,h.2.2.1.put (by omega) _ _ _ _,h.2.2.2.1.put h.2.2.2.2.2.1 _ _ _ _,h.2.2.2.2.put h.2.2.2.2.2.1 (by omega) (by omega) _ _ _ _⟩);exact⟨⟨B9.now.1.cell,B9.now.2.2.1.cell,B9.now.2.2.2.2.2.2.1.cell,B9.now.2.2.2.2.2.2.1.cell1⟩,B9⟩))
   (first
     | (go_at_call 116;(with_reducible refine(OF1.out a9 n9 c9 _ ?_).mono ?_);exact(show Bag w (fun y=>Slot y w4.heap.size (.slice a9 n9 c9)/\NatIs y (.agg #[.slice a9 n9 c9]) (N / M+1)/\Slot y (w4.heap.size+1) (.slice a10 n10 c10)/\NatIs y (.agg #[.slice a10 n10 c10]) (M-N%M)/\FP w.heap.size a n c m Z a2 n2 c2 m2 Y y) _ from by go_split_ands;assumption).now.2.1;rintro e w2 ⟨a5,n5,c5,m5,rfl,hi5,hb2⟩)
     | (go_at_call 173;(with_reducible refine(N2.out _ ?_).mono ?_);exact(show Bag w (fun y=>Slot y w4.heap.size (.slice a9 n9 c9)/\NatIs y (.agg #[.slice a9 n9 c9]) (N / M+1)/\Slot y (w4.heap.size+1) (.slice a10 n10 c10)/\NatIs y (.agg #[.slice a10 n10 c10]) (M-N%M)/\FP w.heap.size a n c m Z a2 n2 c2 m2 Y y) _ from by go_split_ands;assumption).now.2.2.2.2;rintro e w2 ⟨rfl,hb2⟩;have hi5:=hi5.below hb2)
     | (go_at_call 116; (with_reducible refine (OF2.out a10 n10 c10 _ ?_).mono ?_); exact (show Bag w (fun y => Slot y w4.heap.size (.slice a9 n9 c9) /\ NatIs y (.agg #[.slice a9 n9 c9]) (N / M + 1) /\ Slot y (w4.heap.size + 1) (.slice a10 n10 c10) /\ NatIs y (.agg #[.slice a10 n10 c10]) (M - N % M) /\ FP w.heap.size a n c m Z a2 n2 c2 m2 Y y) _ from by go_split_ands; assumption).now.2.2.2.1; rintro e w2 ⟨a6, n6, c6, m6, rfl, hi6, hb2⟩; have hi5 := hi5.below hb2;
         have B7:=Bag.go (show Bag w (fun y=>Slot y w4.heap.size (.slice a9 n9 c9)/\NatIs y (.agg #[.slice a9 n9 c9]) (N / M+1)/\Slot y (w4.heap.size+1) (.slice a10 n10 c10)/\NatIs y (.agg #[.slice a10 n10 c10]) (M-N%M)/\FP w.heap.size a n c m Z a2 n2 c2 m2 Y y) _ from by go_split_ands;assumption) hb2;
         obtain⟨x8,b8,hs8,_⟩:=B7.now.2.2.2.2.1;
         obtain⟨x9,b9,hs9,_⟩:=B7.now.2.2.2.2.2.1;
         have hc1:=hs8.cell;have hc2:=hs8.cell1;have hc3:=hs9.cell;have hc4:=hs9.cell1;have hf1:=hs8.free;have hf2:=hs8.free1;have hf3:=hs9.free;have hf4:=hs9.free1;
         have HA:=Slot2.put (B7.now.2.2.2.2.1.slotted a5 n5 c5 m5) (show w.heap.size+1+1≠w.heap.size+1+1+1 by omega) a6 n6 c6 m6;
         have HB:=(B7.now.2.2.2.2.2.1.put (k:=w.heap.size+1+1) a5 n5 c5 m5).slotted a6 n6 c6 m6;
         have e1:=HA.cell;have e2:=HA.cell1;have e3:=HB.cell;have e4:=HB.cell1;
         have HE:Hid (FloorTold w (putI (putI w2 (w.heap.size+1+1) a5 n5 c5 m5) (w.heap.size+1+1+1) a6 n6 c6 m6) (.returned (.tuple #[.agg #[.slice a5 n5 c5,.bool m5],.agg #[.slice a6 n6 c6,.bool m6],.bool true])) (flQ Z Y) (flR Z Y)):=⟨a5,n5,c5,m5,a6,n6,c6,m6,rfl,(hi5.put B7.now.2.2.2.2.1 _ _ _ _).put (B7.now.2.2.2.2.2.1.put (k:=w.heap.size+1+1) a5 n5 c5 m5) _ _ _ _,(hi6.put B7.now.2.2.2.2.1 _ _ _ _).put (B7.now.2.2.2.2.2.1.put (k:=w.heap.size+1+1) a5 n5 c5 m5) _ _ _ _,(((B7.below.setCell (show w.heap.size<=w.heap.size+1+1 by omega) _).setCell (show w.heap.size<=w.heap.size+1+1 by omega) _).setCell (show w.heap.size<=w.heap.size+1+1+1 by omega) _).setCell (show w.heap.size<=w.heap.size+1+1+1 by omega) _⟩;
         unfold putI at HE e1 e2 e3 e4;clear hs8 hs9 HA HB B7))
  all_goals
   go_wp2;exact bodyPost_ret (v:=.tuple #[.agg #[.slice a5 n5 c5,.bool m5],.agg #[.slice a6 n6 c6,.bool m6],.bool true]) (by simp[results,Tryz.results230,go_sem,e1,e2,e3,e4]) rfl HE.out
theorem floor_same (a : Option Addr) (n c : Nat) (m : Bool) (Z : Int) (a2 : Option Addr) (n2 c2 : Nat) (m2 : Bool) (Y : Int) (w : World) (h : IntAt w a n c m Z) (g : IntAt w a2 n2 c2 m2 Y) (K : Nat) (hK : K <= 800000) (hZ : Z.natAbs < 4294967296 ^ K) (hY : Y ≠ 0)
    (hap:(m != m2)=false) :
    Calls Tryz.prog 230 #[.agg #[.slice a n c,.bool m],.agg #[.slice a2 n2 c2,.bool m2]] w fun e w'=>FloorTold w w' e (flQ Z Y) (flR Z Y):=by
 have hfu:flA Z Y=false/\flQ Z Y=sgn false (Z.natAbs / Y.natAbs)/\flR Z Y=sgn m2 (Z.natAbs%Y.natAbs):=by
  have e1:flA Z Y=false:=by unfold flA;rw[← h.1,← g.1];exact hap
  refine⟨e1,?_,?_⟩
  · unfold flQ flU;rw[e1];simp 
  · unfold flR flU;rw[e1,← g.1];simp 
 obtain⟨_,hfq,hfr⟩:=hfu;have BB:=Lib.hid (FP.start h g);have q0:=BB.out.now.2.2.2.1.cell;have q1:=BB.out.now.2.2.2.1.cell1;have q2:=BB.out.now.2.2.1.cell;have q3:=BB.out.now.2.2.1.cell1;have N1:Hid (∀wz,FP w.heap.size a n c m Z a2 n2 c2 m2 Y wz->Calls Tryz.prog 173 #[.agg #[.slice a n c,.bool m]] wz fun e w'=>e=.returned (.bool m)/\Below wz.heap.size wz w'):=fun wz hz=>neg_any a n c m Z wz hz.2.2.2.2.2
 have N2:Hid (∀wz,FP w.heap.size a n c m Z a2 n2 c2 m2 Y wz->Calls Tryz.prog 173 #[.agg #[.slice a2 n2 c2,.bool m2]] wz fun e w'=>e=.returned (.bool m2)/\Below wz.heap.size wz w'):=fun wz hz=>neg_any a2 n2 c2 m2 Y wz hz.2.2.2.2.1
 have DM:Hid (∀wz,FP w.heap.size a n c m Z a2 n2 c2 m2 Y wz->Calls Tryz.prog 171 #[.agg #[.slice a n c],.agg #[.slice a2 n2 c2]] wz fun e w'=>DivOf3 wz w' e (Z.natAbs / Y.natAbs) (Z.natAbs%Y.natAbs) true):=fun wz hz=>(divMod_any _ _ _ _ wz hz.2.2.2.2.2.2 hz.2.2.2.2.1.2 K (by omega) hZ).mono fun _ _ h=>by
  have:=h.three (b:=true) (by simp;omega);unfold modz at this;rw[if_neg (by omega)]at this;exact this
 have OF1:Hid (∀a3 n3 c3 wz,NatIs wz (.agg #[.slice a3 n3 c3]) (Z.natAbs / Y.natAbs)->Calls Tryz.prog 116 #[.bool false,.agg #[.slice a3 n3 c3]] wz fun e w'=>IntTold wz w' e (flQ Z Y)):=by
  intro a3 n3 c3 wz hi;have:=wof_any false a3 n3 c3 _ wz hi;rw[← hfq]at this;exact this
 have OF2:Hid (∀a3 n3 c3 wz,NatIs wz (.agg #[.slice a3 n3 c3]) (Z.natAbs%Y.natAbs)->Calls Tryz.prog 116 #[.bool m2,.agg #[.slice a3 n3 c3]] wz fun e w'=>IntTold wz w' e (flR Z Y)):=by
  intro a3 n3 c3 wz hi;have:=wof_any m2 a3 n3 c3 _ wz hi;rw[← hfr]at this;exact this
 obtain⟨N,hN⟩:∃N,Z.natAbs=N:=⟨_,rfl⟩
 obtain⟨M,hM⟩:∃M,Y.natAbs=M:=⟨_,rfl⟩
 have hM0:0<M:=by omega
 have hgM:=g.1;have hNK:N<4294967296^K:=by omega
 have SB:Hid (∀a3 n3 c3 wz,FP w.heap.size a n c m Z a2 n2 c2 m2 Y wz->NatIs wz (.agg #[.slice a3 n3 c3]) (N%M)->Calls Tryz.prog 251 #[.agg #[.slice a2 n2 c2],.agg #[.slice a3 n3 c3]] wz fun e w'=>SubOf3 wz w' e (M-N%M) true):=fun a3 n3 c3 wz hz hi=>(sub_any _ _ M (N%M) wz (by rw[← hM];exact hz.2.2.2.2.1.2) hi).mono fun _ _ h=>h.three (decide_eq_true (Nat.le_of_lt (Nat.mod_lt N hM0)))
 have AD:Hid (∀a3 n3 c3 a4 n4 c4 wz,NatIs wz (.agg #[.slice a3 n3 c3]) (N / M)->NatIs wz (.agg #[.slice a4 n4 c4]) 1->Calls Tryz.prog 167 #[.agg #[.slice a3 n3 c3],.agg #[.slice a4 n4 c4]] wz fun e w'=>NatOf3 wz w' e (N / M+1)):=fun a3 n3 c3 a4 n4 c4 wz hi hj=>(add_any _ _ _ _ wz hi hj (K+1) (by omega) (by
     have:=Nat.div_le_self N M;have h2:=pow_mono32 (show K<=K+1 by omega)
     omega) (by
     have:=pow_mono32 (show 1<=K+1 by omega);rw[Nat.pow_one]at this
     omega)).mono fun _ _ h=>h.three
 rw[hN,hM]at DM OF1 OF2;have hd:(m==m2)=true:=by simpa using hap
 clear h g hZ hY hfq hfr hap hN hM hgM hNK hM0;go_enter Tryz.func230,Tryz.ntmps230;go_wp2_with fail;go_at_call 171;(with_reducible refine(DM.out _ BB.out.now).mono ?_);rintro e w4 ⟨aq,nq,cq,ar,nr,cr,rfl,hi3,hi4,hb4⟩;have hk4:w.heap.size+1+1+1<w4.heap.size:=RS.lt (BB.out.go hb4).now.2.1;have BQ:=((((BB.out.go hb4).nat hi4).nat hi3).box (.slice aq nq cq) 49).box (.slice ar nr cr) 49;rw[World.size_alloc]at BQ;have BB:Hid (Bag w (fun y=>Slot y w4.heap.size (.slice aq nq cq)/\NatIs y (.agg #[.slice aq nq cq]) (N / M)/\Slot y (w4.heap.size+1) (.slice ar nr cr)/\NatIs y (.agg #[.slice ar nr cr]) (N%M)/\FP w.heap.size a n c m Z a2 n2 c2 m2 Y y) _):=⟨BQ.below,fun x y hb h=>⟨h.1.below hb,h.2.1.below hb,h.2.2.1.below hb,h.2.2.2.1.below hb,FP.stay x y hb h.2.2.2.2⟩,BQ.now.2.1,BQ.now.2.2.1,BQ.now.1,BQ.now.2.2.2.1,BQ.now.2.2.2.2⟩
 clear hb4 hi3 hi4 q0 q1 q2 q3 BQ;go_wp2_with fail
 go_region_held3 (fun y => (y.cell? ⟨w.heap.size, 0, none⟩ = some (.slice a n c) /\ y.cell? ⟨w.heap.size, 1, none⟩ = some (.bool m) /\ y.cell? ⟨w.heap.size + 1, 0, none⟩ = some (.slice a2 n2 c2) /\ y.cell? ⟨w.heap.size + 1, 1, none⟩ = some (.bool m2)) /\ Bag w (fun y => Slot y w4.heap.size (.slice aq nq cq) /\ NatIs y (.agg #[.slice aq nq cq]) (N / M) /\ Slot y (w4.heap.size + 1) (.slice ar nr cr) /\ NatIs y (.agg #[.slice ar nr cr]) (N % M) /\ FP w.heap.size a n c m Z a2 n2 c2 m2 Y y) y)
  (first|(have B9:=BB.out.drew;exact⟨⟨B9.now.2.2.2.2.2.2.2.1.cell,B9.now.2.2.2.2.2.2.2.1.cell1,B9.now.2.2.2.2.2.2.1.cell,B9.now.2.2.2.2.2.2.1.cell1⟩,B9⟩)|(have B9:=Bag.go (show Bag w (fun y=>Slot y w4.heap.size (.slice aq nq cq)/\NatIs y (.agg #[.slice aq nq cq]) (N / M)/\Slot y (w4.heap.size+1) (.slice ar nr cr)/\NatIs y (.agg #[.slice ar nr cr]) (N%M)/\FP w.heap.size a n c m Z a2 n2 c2 m2 Y y) _ from by go_split_ands;assumption) hb2;exact⟨⟨B9.now.2.2.2.2.2.2.2.1.cell,B9.now.2.2.2.2.2.2.2.1.cell1,B9.now.2.2.2.2.2.2.1.cell,B9.now.2.2.2.2.2.2.1.cell1⟩,B9⟩))
  (first
    | (go_at_call 173;(with_reducible refine(N1.out _ ?_).mono ?_);exact(show Bag w (fun y=>Slot y w4.heap.size (.slice aq nq cq)/\NatIs y (.agg #[.slice aq nq cq]) (N / M)/\Slot y (w4.heap.size+1) (.slice ar nr cr)/\NatIs y (.agg #[.slice ar nr cr]) (N%M)/\FP w.heap.size a n c m Z a2 n2 c2 m2 Y y) _ from by go_split_ands;assumption).now.2.2.2.2;rintro e w2 ⟨rfl,hb2⟩)
    | (go_at_call 173;(with_reducible refine(N2.out _ ?_).mono ?_);exact(show Bag w (fun y=>Slot y w4.heap.size (.slice aq nq cq)/\NatIs y (.agg #[.slice aq nq cq]) (N / M)/\Slot y (w4.heap.size+1) (.slice ar nr cr)/\NatIs y (.agg #[.slice ar nr cr]) (N%M)/\FP w.heap.size a n c m Z a2 n2 c2 m2 Y y) _ from by go_split_ands;assumption).now.2.2.2.2;rintro e w2 ⟨rfl,hb2⟩))
 have BB:=Lib.hid (show Bag w (fun y=>Slot y w4.heap.size (.slice aq nq cq)/\NatIs y (.agg #[.slice aq nq cq]) (N / M)/\Slot y (w4.heap.size+1) (.slice ar nr cr)/\NatIs y (.agg #[.slice ar nr cr]) (N%M)/\FP w.heap.size a n c m Z a2 n2 c2 m2 Y y) _ from by go_split_ands;assumption);go_wp2_with fail
 go_region_held3 (fun y => (y.cell? ⟨w4.heap.size, 0, none⟩ = some (.slice aq nq cq) /\ y.cell? ⟨w4.heap.size + 1, 0, none⟩ = some (.slice ar nr cr) /\ y.cell? ⟨w.heap.size + 1, 0, none⟩ = some (.slice a2 n2 c2) /\ y.cell? ⟨w.heap.size + 1, 1, none⟩ = some (.bool m2)) /\ Bag w (fun y => Slot y w4.heap.size (.slice aq nq cq) /\ NatIs y (.agg #[.slice aq nq cq]) (N / M) /\ Slot y (w4.heap.size + 1) (.slice ar nr cr) /\ NatIs y (.agg #[.slice ar nr cr]) (N % M) /\ FP w.heap.size a n c m Z a2 n2 c2 m2 Y y) y)
  (first
    | (have B9:=BB.out.drew;exact⟨⟨B9.now.1.cell,B9.now.2.2.1.cell,B9.now.2.2.2.2.2.2.1.cell,B9.now.2.2.2.2.2.2.1.cell1⟩,B9⟩)
    | (have B9:=Bag.go (show Bag w (fun y=>Slot y w4.heap.size (.slice aq nq cq)/\NatIs y (.agg #[.slice aq nq cq]) (N / M)/\Slot y (w4.heap.size+1) (.slice ar nr cr)/\NatIs y (.agg #[.slice ar nr cr]) (N%M)/\FP w.heap.size a n c m Z a2 n2 c2 m2 Y y) _ from by go_split_ands;assumption) hb2;exact⟨⟨B9.now.1.cell,B9.now.2.2.1.cell,B9.now.2.2.2.2.2.2.1.cell,B9.now.2.2.2.2.2.2.1.cell1⟩,B9⟩)
    | (have B9:=Bag.put (show Bag w (fun y=>Slot y w4.heap.size (.slice aq nq cq)/\NatIs y (.agg #[.slice aq nq cq]) (N / M)/\Slot y (w4.heap.size+1) (.slice ar nr cr)/\NatIs y (.agg #[.slice ar nr cr]) (N%M)/\FP w.heap.size a n c m Z a2 n2 c2 m2 Y y) _ from by go_split_ands;assumption) (k:=w.heap.size+1+1) (a:=a5) (n:=n5) (c:=c5) (b:=m5) (by omega) (fun h=>⟨h.1.put (by omega) _ _ _ _,h.2.1.put h.2.2.2.2.1 _ _ _ _,h.2.2.1.put (by omega) _ _ _ _,h.2.2.2.1.put h.2.2.2.2.1 _ _ _ _,h.2.2.2.2.put h.2.2.2.2.1 (by omega) (by omega) _ _ _ _⟩);exact⟨⟨B9.now.1.cell,B9.now.2.2.1.cell,B9.now.2.2.2.2.2.2.1.cell,B9.now.2.2.2.2.2.2.1.cell1⟩,B9⟩)
    | (have B9:=Bag.put (show Bag w (fun y=>Slot y w4.heap.size (.slice aq nq cq)/\NatIs y (.agg #[.slice aq nq cq]) (N / M)/\Slot y (w4.heap.size+1) (.slice ar nr cr)/\NatIs y (.agg #[.slice ar nr cr]) (N%M)/\FP w.heap.size a n c m Z a2 n2 c2 m2 Y y) _ from by go_split_ands;assumption) (k:=w.heap.size+1+1+1) (a:=a6) (n:=n6) (c:=c6) (b:=m6) (by omega) (fun h=>⟨h.1.put (by omega) _ _ _ _,h.2.1.put h.2.2.2.2.2.1 _ _ _ _,h.2.2.1.put (by omega) _ _ _ _,h.2.2.2.1.put h.2.2.2.2.2.1 _ _ _ _,h.2.2.2.2.put h.2.2.2.2.2.1 (by omega) (by omega) _ _ _ _⟩);exact⟨⟨B9.now.1.cell,B9.now.2.2.1.cell,B9.now.2.2.2.2.2.2.1.cell,B9.now.2.2.2.2.2.2.1.cell1⟩,B9⟩))
  (first
    | (go_at_call 116;(with_reducible refine(OF1.out aq nq cq _ ?_).mono ?_);exact(show Bag w (fun y=>Slot y w4.heap.size (.slice aq nq cq)/\NatIs y (.agg #[.slice aq nq cq]) (N / M)/\Slot y (w4.heap.size+1) (.slice ar nr cr)/\NatIs y (.agg #[.slice ar nr cr]) (N%M)/\FP w.heap.size a n c m Z a2 n2 c2 m2 Y y) _ from by go_split_ands;assumption).now.2.1;rintro e w2 ⟨a5,n5,c5,m5,rfl,hi5,hb2⟩)
    | (go_at_call 173;(with_reducible refine(N2.out _ ?_).mono ?_);exact(show Bag w (fun y=>Slot y w4.heap.size (.slice aq nq cq)/\NatIs y (.agg #[.slice aq nq cq]) (N / M)/\Slot y (w4.heap.size+1) (.slice ar nr cr)/\NatIs y (.agg #[.slice ar nr cr]) (N%M)/\FP w.heap.size a n c m Z a2 n2 c2 m2 Y y) _ from by go_split_ands;assumption).now.2.2.2.2;rintro e w2 ⟨rfl,hb2⟩;have hi5:=hi5.below hb2)
    | (go_at_call 116; (with_reducible refine (OF2.out ar nr cr _ ?_).mono ?_); exact (show Bag w (fun y => Slot y w4.heap.size (.slice aq nq cq) /\ NatIs y (.agg #[.slice aq nq cq]) (N / M) /\ Slot y (w4.heap.size + 1) (.slice ar nr cr) /\ NatIs y (.agg #[.slice ar nr cr]) (N % M) /\ FP w.heap.size a n c m Z a2 n2 c2 m2 Y y) _ from by go_split_ands; assumption).now.2.2.2.1; rintro e w2 ⟨a6, n6, c6, m6, rfl, hi6, hb2⟩; have hi5 := hi5.below hb2;
        have B7:=Bag.go (show Bag w (fun y=>Slot y w4.heap.size (.slice aq nq cq)/\NatIs y (.agg #[.slice aq nq cq]) (N / M)/\Slot y (w4.heap.size+1) (.slice ar nr cr)/\NatIs y (.agg #[.slice ar nr cr]) (N%M)/\FP w.heap.size a n c m Z a2 n2 c2 m2 Y y) _ from by go_split_ands;assumption) hb2;
        obtain⟨x8,b8,hs8,_⟩:=B7.now.2.2.2.2.1;
        obtain⟨x9,b9,hs9,_⟩:=B7.now.2.2.2.2.2.1;
        have hc1:=hs8.cell;have hc2:=hs8.cell1;have hc3:=hs9.cell;have hc4:=hs9.cell1;have hf1:=hs8.free;have hf2:=hs8.free1;have hf3:=hs9.free;have hf4:=hs9.free1;
        have HA:=Slot2.put (B7.now.2.2.2.2.1.slotted a5 n5 c5 m5) (show w.heap.size+1+1≠w.heap.size+1+1+1 by omega) a6 n6 c6 m6;
        have HB:=(B7.now.2.2.2.2.2.1.put (k:=w.heap.size+1+1) a5 n5 c5 m5).slotted a6 n6 c6 m6;
        have e1:=HA.cell;have e2:=HA.cell1;have e3:=HB.cell;have e4:=HB.cell1;
        have HE:Hid (FloorTold w (putI (putI w2 (w.heap.size+1+1) a5 n5 c5 m5) (w.heap.size+1+1+1) a6 n6 c6 m6) (.returned (.tuple #[.agg #[.slice a5 n5 c5,.bool m5],.agg #[.slice a6 n6 c6,.bool m6],.bool true])) (flQ Z Y) (flR Z Y)):=⟨a5,n5,c5,m5,a6,n6,c6,m6,rfl,(hi5.put B7.now.2.2.2.2.1 _ _ _ _).put (B7.now.2.2.2.2.2.1.put (k:=w.heap.size+1+1) a5 n5 c5 m5) _ _ _ _,(hi6.put B7.now.2.2.2.2.1 _ _ _ _).put (B7.now.2.2.2.2.2.1.put (k:=w.heap.size+1+1) a5 n5 c5 m5) _ _ _ _,(((B7.below.setCell (show w.heap.size<=w.heap.size+1+1 by omega) _).setCell (show w.heap.size<=w.heap.size+1+1 by omega) _).setCell (show w.heap.size<=w.heap.size+1+1+1 by omega) _).setCell (show w.heap.size<=w.heap.size+1+1+1 by omega) _⟩;
        unfold putI at HE e1 e2 e3 e4;clear hs8 hs9 HA HB B7))
 all_goals
  go_wp2;exact bodyPost_ret (v:=.tuple #[.agg #[.slice a5 n5 c5,.bool m5],.agg #[.slice a6 n6 c6,.bool m6],.bool true]) (by simp[results,Tryz.results230,go_sem,e1,e2,e3,e4]) rfl HE.out
theorem floor_even (a : Option Addr) (n c : Nat) (m : Bool) (Z : Int) (a2 : Option Addr) (n2 c2 : Nat) (m2 : Bool) (Y : Int) (w : World) (h : IntAt w a n c m Z) (g : IntAt w a2 n2 c2 m2 Y) (K : Nat) (hK : K <= 800000) (hZ : Z.natAbs < 4294967296 ^ K) (hY : Y ≠ 0)
    (hap:(m != m2)=true) (hr0:Z.natAbs%Y.natAbs=0) :
    Calls Tryz.prog 230 #[.agg #[.slice a n c,.bool m],.agg #[.slice a2 n2 c2,.bool m2]] w fun e w'=>FloorTold w w' e (flQ Z Y) (flR Z Y):=by
 have hfu:flA Z Y=true/\flQ Z Y=sgn true (Z.natAbs / Y.natAbs)/\flR Z Y=sgn m2 (Z.natAbs%Y.natAbs):=by
  have e1:flA Z Y=true:=by unfold flA;rw[← h.1,← g.1];exact hap
  refine⟨e1,?_,?_⟩
  · unfold flQ flU;rw[e1];simp[hr0]
  · unfold flR flU;rw[e1,← g.1,hr0];simp
 obtain⟨_,hfq,hfr⟩:=hfu;have BB:=Lib.hid (FP.start h g);have q0:=BB.out.now.2.2.2.1.cell;have q1:=BB.out.now.2.2.2.1.cell1;have q2:=BB.out.now.2.2.1.cell;have q3:=BB.out.now.2.2.1.cell1;have N1:Hid (∀wz,FP w.heap.size a n c m Z a2 n2 c2 m2 Y wz->Calls Tryz.prog 173 #[.agg #[.slice a n c,.bool m]] wz fun e w'=>e=.returned (.bool m)/\Below wz.heap.size wz w'):=fun wz hz=>neg_any a n c m Z wz hz.2.2.2.2.2
 have N2:Hid (∀wz,FP w.heap.size a n c m Z a2 n2 c2 m2 Y wz->Calls Tryz.prog 173 #[.agg #[.slice a2 n2 c2,.bool m2]] wz fun e w'=>e=.returned (.bool m2)/\Below wz.heap.size wz w'):=fun wz hz=>neg_any a2 n2 c2 m2 Y wz hz.2.2.2.2.1
 have DM:Hid (∀wz,FP w.heap.size a n c m Z a2 n2 c2 m2 Y wz->Calls Tryz.prog 171 #[.agg #[.slice a n c],.agg #[.slice a2 n2 c2]] wz fun e w'=>DivOf3 wz w' e (Z.natAbs / Y.natAbs) (Z.natAbs%Y.natAbs) true):=fun wz hz=>(divMod_any _ _ _ _ wz hz.2.2.2.2.2.2 hz.2.2.2.2.1.2 K (by omega) hZ).mono fun _ _ h=>by
  have:=h.three (b:=true) (by simp;omega);unfold modz at this;rw[if_neg (by omega)]at this;exact this
 have OF1:Hid (∀a3 n3 c3 wz,NatIs wz (.agg #[.slice a3 n3 c3]) (Z.natAbs / Y.natAbs)->Calls Tryz.prog 116 #[.bool true,.agg #[.slice a3 n3 c3]] wz fun e w'=>IntTold wz w' e (flQ Z Y)):=by
  intro a3 n3 c3 wz hi;have:=wof_any true a3 n3 c3 _ wz hi;rw[← hfq]at this;exact this
 have OF2:Hid (∀a3 n3 c3 wz,NatIs wz (.agg #[.slice a3 n3 c3]) (Z.natAbs%Y.natAbs)->Calls Tryz.prog 116 #[.bool m2,.agg #[.slice a3 n3 c3]] wz fun e w'=>IntTold wz w' e (flR Z Y)):=by
  intro a3 n3 c3 wz hi;have:=wof_any m2 a3 n3 c3 _ wz hi;rw[← hfr]at this;exact this
 obtain⟨N,hN⟩:∃N,Z.natAbs=N:=⟨_,rfl⟩
 obtain⟨M,hM⟩:∃M,Y.natAbs=M:=⟨_,rfl⟩
 have hM0:0<M:=by omega
 have hgM:=g.1;have hNK:N<4294967296^K:=by omega
 have SB:Hid (∀a3 n3 c3 wz,FP w.heap.size a n c m Z a2 n2 c2 m2 Y wz->NatIs wz (.agg #[.slice a3 n3 c3]) (N%M)->Calls Tryz.prog 251 #[.agg #[.slice a2 n2 c2],.agg #[.slice a3 n3 c3]] wz fun e w'=>SubOf3 wz w' e (M-N%M) true):=fun a3 n3 c3 wz hz hi=>(sub_any _ _ M (N%M) wz (by rw[← hM];exact hz.2.2.2.2.1.2) hi).mono fun _ _ h=>h.three (decide_eq_true (Nat.le_of_lt (Nat.mod_lt N hM0)))
 have AD:Hid (∀a3 n3 c3 a4 n4 c4 wz,NatIs wz (.agg #[.slice a3 n3 c3]) (N / M)->NatIs wz (.agg #[.slice a4 n4 c4]) 1->Calls Tryz.prog 167 #[.agg #[.slice a3 n3 c3],.agg #[.slice a4 n4 c4]] wz fun e w'=>NatOf3 wz w' e (N / M+1)):=fun a3 n3 c3 a4 n4 c4 wz hi hj=>(add_any _ _ _ _ wz hi hj (K+1) (by omega) (by
     have:=Nat.div_le_self N M;have h2:=pow_mono32 (show K<=K+1 by omega)
     omega) (by
     have:=pow_mono32 (show 1<=K+1 by omega);rw[Nat.pow_one]at this
     omega)).mono fun _ _ h=>h.three
 rw[hN,hM]at DM OF1 OF2;have hd:(m==m2)=false:=by simpa using hap
 have ZR:Hid (∀a3 n3 c3 wz,NatIs wz (.agg #[.slice a3 n3 c3]) (N%M)->Calls Tryz.prog 114 #[.agg #[.slice a3 n3 c3]] wz fun e w'=>e=.returned (.bool true)/\Below wz.heap.size wz w'):=by
  intro a3 n3 c3 wz hi;have h1:=zero_any _ _ wz hi;rw[show decide (N%M=0)=true from by rw[← hN,← hM];exact decide_eq_true hr0]at h1;exact h1
 clear hr0;clear h g hZ hY hfq hfr hap hN hM hgM hNK hM0;go_enter Tryz.func230,Tryz.ntmps230;go_wp2_with fail;go_at_call 171;(with_reducible refine(DM.out _ BB.out.now).mono ?_);rintro e w4 ⟨aq,nq,cq,ar,nr,cr,rfl,hi3,hi4,hb4⟩;have hk4:w.heap.size+1+1+1<w4.heap.size:=RS.lt (BB.out.go hb4).now.2.1;have BQ:=((((BB.out.go hb4).nat hi4).nat hi3).box (.slice aq nq cq) 49).box (.slice ar nr cr) 49;rw[World.size_alloc]at BQ;have BB:Hid (Bag w (fun y=>Slot y w4.heap.size (.slice aq nq cq)/\NatIs y (.agg #[.slice aq nq cq]) (N / M)/\Slot y (w4.heap.size+1) (.slice ar nr cr)/\NatIs y (.agg #[.slice ar nr cr]) (N%M)/\FP w.heap.size a n c m Z a2 n2 c2 m2 Y y) _):=⟨BQ.below,fun x y hb h=>⟨h.1.below hb,h.2.1.below hb,h.2.2.1.below hb,h.2.2.2.1.below hb,FP.stay x y hb h.2.2.2.2⟩,BQ.now.2.1,BQ.now.2.2.1,BQ.now.1,BQ.now.2.2.2.1,BQ.now.2.2.2.2⟩
 clear hb4 hi3 hi4 q0 q1 q2 q3 BQ;go_wp2_with fail
 go_region_held3 (fun y => (y.cell? ⟨w.heap.size, 0, none⟩ = some (.slice a n c) /\ y.cell? ⟨w.heap.size, 1, none⟩ = some (.bool m) /\ y.cell? ⟨w.heap.size + 1, 0, none⟩ = some (.slice a2 n2 c2) /\ y.cell? ⟨w.heap.size + 1, 1, none⟩ = some (.bool m2)) /\ Bag w (fun y => Slot y w4.heap.size (.slice aq nq cq) /\ NatIs y (.agg #[.slice aq nq cq]) (N / M) /\ Slot y (w4.heap.size + 1) (.slice ar nr cr) /\ NatIs y (.agg #[.slice ar nr cr]) (N % M) /\ FP w.heap.size a n c m Z a2 n2 c2 m2 Y y) y)
  (first|(have B9:=BB.out.drew;exact⟨⟨B9.now.2.2.2.2.2.2.2.1.cell,B9.now.2.2.2.2.2.2.2.1.cell1,B9.now.2.2.2.2.2.2.1.cell,B9.now.2.2.2.2.2.2.1.cell1⟩,B9⟩)|(have B9:=Bag.go (show Bag w (fun y=>Slot y w4.heap.size (.slice aq nq cq)/\NatIs y (.agg #[.slice aq nq cq]) (N / M)/\Slot y (w4.heap.size+1) (.slice ar nr cr)/\NatIs y (.agg #[.slice ar nr cr]) (N%M)/\FP w.heap.size a n c m Z a2 n2 c2 m2 Y y) _ from by go_split_ands;assumption) hb2;exact⟨⟨B9.now.2.2.2.2.2.2.2.1.cell,B9.now.2.2.2.2.2.2.2.1.cell1,B9.now.2.2.2.2.2.2.1.cell,B9.now.2.2.2.2.2.2.1.cell1⟩,B9⟩))
  (first
    | (go_at_call 173;(with_reducible refine(N1.out _ ?_).mono ?_);exact(show Bag w (fun y=>Slot y w4.heap.size (.slice aq nq cq)/\NatIs y (.agg #[.slice aq nq cq]) (N / M)/\Slot y (w4.heap.size+1) (.slice ar nr cr)/\NatIs y (.agg #[.slice ar nr cr]) (N%M)/\FP w.heap.size a n c m Z a2 n2 c2 m2 Y y) _ from by go_split_ands;assumption).now.2.2.2.2;rintro e w2 ⟨rfl,hb2⟩)
    | (go_at_call 173;(with_reducible refine(N2.out _ ?_).mono ?_);exact(show Bag w (fun y=>Slot y w4.heap.size (.slice aq nq cq)/\NatIs y (.agg #[.slice aq nq cq]) (N / M)/\Slot y (w4.heap.size+1) (.slice ar nr cr)/\NatIs y (.agg #[.slice ar nr cr]) (N%M)/\FP w.heap.size a n c m Z a2 n2 c2 m2 Y y) _ from by go_split_ands;assumption).now.2.2.2.2;rintro e w2 ⟨rfl,hb2⟩))
 have BB:=Lib.hid (show Bag w (fun y=>Slot y w4.heap.size (.slice aq nq cq)/\NatIs y (.agg #[.slice aq nq cq]) (N / M)/\Slot y (w4.heap.size+1) (.slice ar nr cr)/\NatIs y (.agg #[.slice ar nr cr]) (N%M)/\FP w.heap.size a n c m Z a2 n2 c2 m2 Y y) _ from by go_split_ands;assumption);have q5:=BB.out.now.2.2.1.cell;go_wp2_with fail;go_at_call 114;(with_reducible refine(ZR.out ar nr cr _ BB.out.now.2.2.2.1).mono ?_);rintro e w6 ⟨rfl,hb6⟩;have BB:=bgo BB hb6;clear hb6 q5;go_wp2_with fail
 go_region_held3 (fun y => (y.cell? ⟨w4.heap.size, 0, none⟩ = some (.slice aq nq cq) /\ y.cell? ⟨w4.heap.size + 1, 0, none⟩ = some (.slice ar nr cr) /\ y.cell? ⟨w.heap.size + 1, 0, none⟩ = some (.slice a2 n2 c2) /\ y.cell? ⟨w.heap.size + 1, 1, none⟩ = some (.bool m2)) /\ Bag w (fun y => Slot y w4.heap.size (.slice aq nq cq) /\ NatIs y (.agg #[.slice aq nq cq]) (N / M) /\ Slot y (w4.heap.size + 1) (.slice ar nr cr) /\ NatIs y (.agg #[.slice ar nr cr]) (N % M) /\ FP w.heap.size a n c m Z a2 n2 c2 m2 Y y) y)
  (first
    | (have B9:=BB.out.drew;exact⟨⟨B9.now.1.cell,B9.now.2.2.1.cell,B9.now.2.2.2.2.2.2.1.cell,B9.now.2.2.2.2.2.2.1.cell1⟩,B9⟩)
    | (have B9:=Bag.go (show Bag w (fun y=>Slot y w4.heap.size (.slice aq nq cq)/\NatIs y (.agg #[.slice aq nq cq]) (N / M)/\Slot y (w4.heap.size+1) (.slice ar nr cr)/\NatIs y (.agg #[.slice ar nr cr]) (N%M)/\FP w.heap.size a n c m Z a2 n2 c2 m2 Y y) _ from by go_split_ands;assumption) hb2;exact⟨⟨B9.now.1.cell,B9.now.2.2.1.cell,B9.now.2.2.2.2.2.2.1.cell,B9.now.2.2.2.2.2.2.1.cell1⟩,B9⟩)
    | (have B9:=Bag.put (show Bag w (fun y=>Slot y w4.heap.size (.slice aq nq cq)/\NatIs y (.agg #[.slice aq nq cq]) (N / M)/\Slot y (w4.heap.size+1) (.slice ar nr cr)/\NatIs y (.agg #[.slice ar nr cr]) (N%M)/\FP w.heap.size a n c m Z a2 n2 c2 m2 Y y) _ from by go_split_ands;assumption) (k:=w.heap.size+1+1) (a:=a5) (n:=n5) (c:=c5) (b:=m5) (by omega) (fun h=>⟨h.1.put (by omega) _ _ _ _,h.2.1.put h.2.2.2.2.1 _ _ _ _,h.2.2.1.put (by omega) _ _ _ _,h.2.2.2.1.put h.2.2.2.2.1 _ _ _ _,h.2.2.2.2.put h.2.2.2.2.1 (by omega) (by omega) _ _ _ _⟩);exact⟨⟨B9.now.1.cell,B9.now.2.2.1.cell,B9.now.2.2.2.2.2.2.1.cell,B9.now.2.2.2.2.2.2.1.cell1⟩,B9⟩)
    | (have B9:=Bag.put (show Bag w (fun y=>Slot y w4.heap.size (.slice aq nq cq)/\NatIs y (.agg #[.slice aq nq cq]) (N / M)/\Slot y (w4.heap.size+1) (.slice ar nr cr)/\NatIs y (.agg #[.slice ar nr cr]) (N%M)/\FP w.heap.size a n c m Z a2 n2 c2 m2 Y y) _ from by go_split_ands;assumption) (k:=w.heap.size+1+1+1) (a:=a6) (n:=n6) (c:=c6) (b:=m6) (by omega) (fun h=>⟨h.1.put (by omega) _ _ _ _,h.2.1.put h.2.2.2.2.2.1 _ _ _ _,h.2.2.1.put (by omega) _ _ _ _,h.2.2.2.1.put h.2.2.2.2.2.1 _ _ _ _,h.2.2.2.2.put h.2.2.2.2.2.1 (by omega) (by omega) _ _ _ _⟩);exact⟨⟨B9.now.1.cell,B9.now.2.2.1.cell,B9.now.2.2.2.2.2.2.1.cell,B9.now.2.2.2.2.2.2.1.cell1⟩,B9⟩))
  (first
    | (go_at_call 116;(with_reducible refine(OF1.out aq nq cq _ ?_).mono ?_);exact(show Bag w (fun y=>Slot y w4.heap.size (.slice aq nq cq)/\NatIs y (.agg #[.slice aq nq cq]) (N / M)/\Slot y (w4.heap.size+1) (.slice ar nr cr)/\NatIs y (.agg #[.slice ar nr cr]) (N%M)/\FP w.heap.size a n c m Z a2 n2 c2 m2 Y y) _ from by go_split_ands;assumption).now.2.1;rintro e w2 ⟨a5,n5,c5,m5,rfl,hi5,hb2⟩)
    | (go_at_call 173;(with_reducible refine(N2.out _ ?_).mono ?_);exact(show Bag w (fun y=>Slot y w4.heap.size (.slice aq nq cq)/\NatIs y (.agg #[.slice aq nq cq]) (N / M)/\Slot y (w4.heap.size+1) (.slice ar nr cr)/\NatIs y (.agg #[.slice ar nr cr]) (N%M)/\FP w.heap.size a n c m Z a2 n2 c2 m2 Y y) _ from by go_split_ands;assumption).now.2.2.2.2;rintro e w2 ⟨rfl,hb2⟩;have hi5:=hi5.below hb2)
    | (go_at_call 116; (with_reducible refine (OF2.out ar nr cr _ ?_).mono ?_); exact (show Bag w (fun y => Slot y w4.heap.size (.slice aq nq cq) /\ NatIs y (.agg #[.slice aq nq cq]) (N / M) /\ Slot y (w4.heap.size + 1) (.slice ar nr cr) /\ NatIs y (.agg #[.slice ar nr cr]) (N % M) /\ FP w.heap.size a n c m Z a2 n2 c2 m2 Y y) _ from by go_split_ands; assumption).now.2.2.2.1; rintro e w2 ⟨a6, n6, c6, m6, rfl, hi6, hb2⟩; have hi5 := hi5.below hb2;
        have B7:=Bag.go (show Bag w (fun y=>Slot y w4.heap.size (.slice aq nq cq)/\NatIs y (.agg #[.slice aq nq cq]) (N / M)/\Slot y (w4.heap.size+1) (.slice ar nr cr)/\NatIs y (.agg #[.slice ar nr cr]) (N%M)/\FP w.heap.size a n c m Z a2 n2 c2 m2 Y y) _ from by go_split_ands;assumption) hb2;
        obtain⟨x8,b8,hs8,_⟩:=B7.now.2.2.2.2.1;
        obtain⟨x9,b9,hs9,_⟩:=B7.now.2.2.2.2.2.1;
        have hc1:=hs8.cell;have hc2:=hs8.cell1;have hc3:=hs9.cell;have hc4:=hs9.cell1;have hf1:=hs8.free;have hf2:=hs8.free1;have hf3:=hs9.free;have hf4:=hs9.free1;
        have HA:=Slot2.put (B7.now.2.2.2.2.1.slotted a5 n5 c5 m5) (show w.heap.size+1+1≠w.heap.size+1+1+1 by omega) a6 n6 c6 m6;
        have HB:=(B7.now.2.2.2.2.2.1.put (k:=w.heap.size+1+1) a5 n5 c5 m5).slotted a6 n6 c6 m6;
        have e1:=HA.cell;have e2:=HA.cell1;have e3:=HB.cell;have e4:=HB.cell1;
        have HE:Hid (FloorTold w (putI (putI w2 (w.heap.size+1+1) a5 n5 c5 m5) (w.heap.size+1+1+1) a6 n6 c6 m6) (.returned (.tuple #[.agg #[.slice a5 n5 c5,.bool m5],.agg #[.slice a6 n6 c6,.bool m6],.bool true])) (flQ Z Y) (flR Z Y)):=⟨a5,n5,c5,m5,a6,n6,c6,m6,rfl,(hi5.put B7.now.2.2.2.2.1 _ _ _ _).put (B7.now.2.2.2.2.2.1.put (k:=w.heap.size+1+1) a5 n5 c5 m5) _ _ _ _,(hi6.put B7.now.2.2.2.2.1 _ _ _ _).put (B7.now.2.2.2.2.2.1.put (k:=w.heap.size+1+1) a5 n5 c5 m5) _ _ _ _,(((B7.below.setCell (show w.heap.size<=w.heap.size+1+1 by omega) _).setCell (show w.heap.size<=w.heap.size+1+1 by omega) _).setCell (show w.heap.size<=w.heap.size+1+1+1 by omega) _).setCell (show w.heap.size<=w.heap.size+1+1+1 by omega) _⟩;
        unfold putI at HE e1 e2 e3 e4;clear hs8 hs9 HA HB B7))
 all_goals
  go_wp2;exact bodyPost_ret (v:=.tuple #[.agg #[.slice a5 n5 c5,.bool m5],.agg #[.slice a6 n6 c6,.bool m6],.bool true]) (by simp[results,Tryz.results230,go_sem,e1,e2,e3,e4]) rfl HE.out
theorem floor_any (a : Option Addr) (n c : Nat) (m : Bool) (Z : Int) (a2 : Option Addr) (n2 c2 : Nat) (m2 : Bool) (Y : Int) (w : World) (h : IntAt w a n c m Z) (g : IntAt w a2 n2 c2 m2 Y) (K : Nat) (hK : K <= 800000) (hZ : Z.natAbs < 4294967296 ^ K) (hY : Y ≠ 0) :
    Calls Tryz.prog 230 #[.agg #[.slice a n c,.bool m],.agg #[.slice a2 n2 c2,.bool m2]] w fun e w'=>FloorTold w w' e (flQ Z Y) (flR Z Y):=by
 cases hap:(m != m2)with
 | false=>exact floor_same a n c m Z a2 n2 c2 m2 Y w h g K hK hZ hY hap
 | true =>
  by_cases hr:Z.natAbs%Y.natAbs=0
  · exact floor_even a n c m Z a2 n2 c2 m2 Y w h g K hK hZ hY hap hr
  · exact floor_odd a n c m Z a2 n2 c2 m2 Y w h g K hK hZ hY hap hr
end Go.Proofs.YtdmmenaejkpnjaaGreatDoor
namespace Go.Proofs.YtdmmenaejkpnjaaGreatDoor
open Go.RowKit
theorem upZ_abs(P Y:Int):(upZ P Y).natAbs=P.natAbs:=by unfold upZ;split<;>omega
end Go.Proofs.YtdmmenaejkpnjaaGreatDoor
namespace Go.Proofs.YtdmmenaejkpnjaaGreatDoor
open Go.RowKit
attribute [local go_sem ↓] Go.wp_at_zero Go.wp_at_succ
def IntTold2(w w':World)(e:Ending)(a:Option Addr)(n c:Nat)(m:Bool)(Z:Int):Prop:=e=.returned (.agg #[.slice a n c,.bool m])/\IntAt w' a n c m Z/\Below w.heap.size w w'
theorem top_any (a : Option Addr) (n c : Nat) (m : Bool) (a2 : Option Addr) (n2 c2 : Nat) (P : Int) (Q : Nat) (w : World) (h : RatAt w a n c m a2 n2 c2 P Q) :
    Calls Tryz.prog 224 #[.agg #[.slice a n c,.bool m,.slice a2 n2 c2]] w fun e w'=>IntTold2 w w' e a n c m P:=by
 have B0:=(((Bag.start w).int h.1).box3 (.slice a n c) (.bool m) (.slice a2 n2 c2) 53).box2 (.slice a n c) (.bool m) 51
 have HE:Hid (IntTold2 w ((w.alloc (.cells #[.slice a n c,.bool m,.slice a2 n2 c2] 53)).alloc (.cells #[.slice a n c,.bool m] 51)) (.returned (.agg #[.slice a n c,.bool m])) a n c m P) :=
  ⟨rfl,B0.now.2.2.1,B0.below⟩
 clear h B0;go_enter Tryz.func224,Tryz.ntmps224;go_wp2;exact bodyPost_ret (v:=.agg #[.slice a n c,.bool m]) (by simp[results,Tryz.results224,go_sem]) rfl HE.out
theorem ratMinus_any (a : Option Addr) (n c : Nat) (m : Bool) (a2 : Option Addr) (n2 c2 : Nat) (P : Int) (Q : Nat) (w : World) (h : RatAt w a n c m a2 n2 c2 P Q) :
    Calls Tryz.prog 179 #[.agg #[.slice a n c,.bool m,.slice a2 n2 c2]] w fun e w'=>RatTold w w' e (-P) Q:=by
 have B0:=(((Bag.start w).rat h).box3 (.slice a n c) (.bool m) (.slice a2 n2 c2) 53).box3 (.slice none 0 0) (.bool false) (.slice none 0 0) 53;rw[World.size_alloc]at B0;have MN:=Lib.hid (fun wz (h:IntAt wz a n c m P)=>minus_any a n c m P wz h);have BB:=Lib.hid B0;clear h B0;go_enter Tryz.func179,Tryz.ntmps179;go_wp2_with fail;go_at_call 222;refine(MN.out _ BB.out.now.2.2.1.1).mono ?_;rintro e w3 ⟨a3,n3,c3,m3,rfl,hi,hb3⟩;have BB:=bgo BB hb3;have hs0:=BB.out.now.2.1;have hs:=BB.out.now.1;have hc:=hs0.cell;have hc1:=hs0.cell1;have hf:=hs0.free;have hf1:=hs0.free1;have hs3:=hs0.set2 (.slice a3 n3 c3) (.bool m3);have hs4:=hs.set2o (k:=w.heap.size) (by omega) (.slice a3 n3 c3) (.bool m3);have⟨q0,q1,q2⟩:=hs3.c3;have⟨r0,r1,r2,g0,g1,g2⟩:=hs4.s6
 have hx:RatAt ((w3.setCell ⟨w.heap.size,0,none⟩ (.slice a3 n3 c3)).setCell ⟨w.heap.size,1,none⟩ (.bool m3)) a3 n3 c3 m3 a2 n2 c2 (-P) Q :=
  ⟨⟨hi.1,hi.2.set2 hs0 (fun _ _ h=>by cases h) (fun _ _ h=>by cases h) _ _⟩,BB.out.now.2.2.1.2.set2 hs0 (fun _ _ h=>by cases h) (fun _ _ h=>by cases h) _ _⟩
 have HS:=hs4.set (.slice a3 n3 c3) (.bool m3) (.slice a2 n2 c2);have HE:=Lib.hid (RatTold.done ((BB.out.below.setCell (Nat.le_refl _) _).setCell (Nat.le_refl _) _) (by omega) hs4 hx);clear hb3 hs hs0 hs3 hs4 hx hi;go_wp2;exact bodyPost_ret (by simp[results,Tryz.results179,go_sem,HS]) rfl HE.out
theorem new_zero (a : Option Addr) (n c : Nat) (m : Bool) (P : Int) (a2 : Option Addr) (n2 c2 : Nat) (m2 : Bool) (w : World) (h : IntAt w a n c m P) (g : IntAt w a2 n2 c2 m2 0) :
    Calls Tryz.prog 248 #[.agg #[.slice a n c,.bool m],.agg #[.slice a2 n2 c2,.bool m2]] w fun e w'=>RatTold3 w w' e 0 1 false:=by
 have ZE:=Lib.hid (fun wz (h:NatIs wz (.agg #[.slice a2 n2 c2]) (0:Int).natAbs)=>zero_any _ (0:Int).natAbs wz h);rw[decide_eq_true (show(0:Int).natAbs=0 from rfl)]at ZE;have B0:=((((Bag.start w).int h).int g).box2 (.slice a n c) (.bool m) 51).box2 (.slice a2 n2 c2) (.bool m2) 51 |>.box3 (.slice none 0 0) (.bool false) (.slice none 0 0) 53
 simp only[World.size_alloc]at B0;have BB:=Lib.hid B0;have q0:=B0.now.2.1.cell;clear h g B0;go_enter Tryz.func248,Tryz.ntmps248;go_wp2_with fail;go_at_call 114;refine(ZE.out _ BB.out.now.2.2.2.1.nt).mono ?_;rintro e w2 ⟨rfl,hb2⟩;have BB:=bgo BB hb2;have hs:=BB.out.now.1;have⟨r0,r1,r2,g0,g1,g2⟩:=hs.s6;have HS:=hs.set (.slice none 0 0) (.bool false) (.slice none 0 0);have HE:=Lib.hid (RatTold3.done false BB.out.below (by omega) hs (RatAt.zero w2));clear hb2 hs;go_wp2;exact bodyPost_ret (by simp[results,Tryz.results248,go_sem,HS]) rfl HE.out
theorem new_some (a : Option Addr) (n c : Nat) (m : Bool) (P : Int) (a2 : Option Addr) (n2 c2 : Nat) (m2 : Bool) (Y : Int) (w : World) (h : IntAt w a n c m P) (g : IntAt w a2 n2 c2 m2 Y) (hY : Y ≠ 0)
    (K:Nat) (hK:K<=900000) (hPK:P.natAbs<4294967296^K) (hYK:Y.natAbs<4294967296^K) :
    Calls Tryz.prog 248 #[.agg #[.slice a n c,.bool m],.agg #[.slice a2 n2 c2,.bool m2]] w fun e w'=>RatTold3 w w' e (nwP P Y) (nwQ P Y) true:=by
 have ZE:=Lib.hid (fun wz (h:NatIs wz (.agg #[.slice a2 n2 c2]) Y.natAbs)=>zero_any _ Y.natAbs wz h);rw[decide_eq_false (show ¬Y.natAbs=0 by omega)]at ZE;have NG:=Lib.hid (fun wz (h:IntAt wz a2 n2 c2 m2 Y)=>neg_any a2 n2 c2 m2 Y wz h);have MN:=Lib.hid (fun wz (h:IntAt wz a n c m P)=>minus_any a n c m P wz h);have SZ:=Lib.hid (fun wz (h:IntAt wz a2 n2 c2 m2 Y)=>size_any a2 n2 c2 m2 Y wz h);unfold NatTold2 at SZ
 have hup:upZ P Y=if m2 then -P else P:=by
  unfold upZ;rw[g.1]
  by_cases h1:Y<0
  · rw[if_pos h1,decide_eq_true h1];rfl
  · rw[if_neg h1,decide_eq_false h1];rfl
 have LW:=Lib.hid (fun a n c m wz (h:IntAt wz a n c m (upZ P Y)) (g:NatIs wz (.agg #[.slice a2 n2 c2]) Y.natAbs)=>lowest_any a n c m (upZ P Y) a2 n2 c2 Y.natAbs wz h g (by omega) K hK (by rw[upZ_abs];exact hPK) hYK);rw[show loP (upZ P Y) Y.natAbs=nwP P Y from rfl,show loQ (upZ P Y) Y.natAbs=nwQ P Y from rfl]at LW;rw[hup]at LW;generalize nwP P Y=P1 at *;generalize nwQ P Y=Q1 at *;have B0:=((((Bag.start w).int h).int g).box2 (.slice a n c) (.bool m) 51).box2 (.slice a2 n2 c2) (.bool m2) 51 |>.box3 (.slice none 0 0) (.bool false) (.slice none 0 0) 53
 simp only[World.size_alloc]at B0;have BB:=Lib.hid B0;have q0:=B0.now.2.1.cell;have q1:=B0.now.2.1.cell1;have he:w.heap.size≠w.heap.size+1+1/\w.heap.size+1≠w.heap.size+1+1/\w.heap.size+1≠w.heap.size:=by omega
 clear h g B0 hPK hYK hup
 cases m2 with
 | false =>
  rw[if_neg (by decide)]at LW;go_enter Tryz.func248,Tryz.ntmps248
  go_wp2_with (first
   | (go_at_call 114;(with_reducible refine(ZE.out _ BB.out.now.2.2.2.1.nt).mono ?_);rintro e w2 ⟨rfl,hb2⟩;have BB:=Lib.hid (BB.out.go hb2);have q0:=BB.out.now.2.1.cell;have q1:=BB.out.now.2.1.cell1;clear hb2)
   | (go_at_call 173;(with_reducible refine(NG.out _ BB.out.now.2.2.2.1).mono ?_);rintro e w3 ⟨rfl,hb3⟩;have BB:=Lib.hid (BB.out.go hb3);have q0:=BB.out.now.2.1.cell;have q1:=BB.out.now.2.1.cell1;clear hb3))
  have BB:=Lib.hid BB.out.drew
  go_region_held3 (fun y => y.cell? ⟨w.heap.size, 0, none⟩ = some (.slice a n c) /\ y.cell? ⟨w.heap.size, 1, none⟩ = some (.bool m) /\ y.cell? ⟨w.heap.size + 1, 0, none⟩ = some (.slice a2 n2 c2) /\ y.cell? ⟨w.heap.size + 1, 1, none⟩ = some (.bool false))
   (first
     | (exact⟨BB.out.now.2.2.1.cell,BB.out.now.2.2.1.cell1,BB.out.now.2.1.cell,BB.out.now.2.1.cell1⟩)
     | (exact⟨z0.cell,z0.cell1,z1.cell,z1.cell1⟩))
   (first
     | (go_at_call 169;(with_reducible refine(SZ.out _ BB.out.now.2.2.2.1).mono ?_);rintro e w6 ⟨rfl,hn6,hb6⟩;have BB:=Lib.hid (BB.out.go hb6))
     | (go_at_call 115;(with_reducible refine(LW.out _ _ _ _ _ BB.out.now.2.2.2.2.1 hn6).mono ?_);rintro e w7 ⟨a6,n6,c6,m6,a7,n7,c7,rfl,hr,hb7⟩;have BB:=Lib.hid (BB.out.go hb7);have hs:=BB.out.now.1;have r0:=hs.cell;have r1:=hs.cell1;have r2:=hs.cell2;have g0:=hs.free;have g1:=hs.free1;have g2:=hs.free2;have HS:=hs.set (.slice a6 n6 c6) (.bool m6) (.slice a7 n7 c7);have z0:=BB.out.now.2.2.1.set3o he.1 (.slice a6 n6 c6) (.bool m6) (.slice a7 n7 c7);have z1:=BB.out.now.2.1.set3o he.2.1 (.slice a6 n6 c6) (.bool m6) (.slice a7 n7 c7);have HE:=Lib.hid (RatTold3.done true BB.out.below (by omega) hs hr);clear hb7 hs hr))
  go_wp2;exact bodyPost_ret (by simp[results,Tryz.results248,go_sem,HS]) rfl HE.out
 | true =>
  rw[if_pos rfl]at LW;go_enter Tryz.func248,Tryz.ntmps248
  go_wp2_with (first
   | (go_at_call 114;(with_reducible refine(ZE.out _ BB.out.now.2.2.2.1.nt).mono ?_);rintro e w2 ⟨rfl,hb2⟩;have BB:=Lib.hid (BB.out.go hb2);have q0:=BB.out.now.2.1.cell;have q1:=BB.out.now.2.1.cell1;clear hb2)
   | (go_at_call 173;(with_reducible refine(NG.out _ BB.out.now.2.2.2.1).mono ?_);rintro e w3 ⟨rfl,hb3⟩;have BB:=Lib.hid (BB.out.go hb3);have q0:=BB.out.now.2.2.1.cell;have q1:=BB.out.now.2.2.1.cell1;clear hb3))
  go_at_call 222;(with_reducible refine(MN.out _ BB.out.now.2.2.2.2.1).mono ?_);rintro e w4 ⟨a3,n3,c3,m3,rfl,hi,hb4⟩;have B4:=BB.out.go hb4;have u0:=B4.now.2.2.1;have hc:=u0.cell;have hc1:=u0.cell1;have hf:=u0.free;have hf1:=u0.free1;have hni:∀(x:Option Addr) (y z:Nat) (ki:IntKind) (i:Int),(Value.slice x y z) ≠ .int ki i:=fun _ _ _ _ _ h=>by cases h
  have hnb:∀(x:Bool) (ki:IntKind) (i:Int),(Value.bool x) ≠ .int ki i:=fun _ _ _ h=>by cases h
  have B5:=(Bag.start w).go ((B4.below.setCell (p:=⟨w.heap.size,0,none⟩) (Nat.le_refl _) (.slice a3 n3 c3)).setCell (p:=⟨w.heap.size,1,none⟩) (Nat.le_refl _) (.bool m3));have B5:=B5.int (a:=a3) (n:=n3) (c:=c3) (m:=m3) (Z := -P) ⟨hi.1,hi.2.set2b u0 (hni _ _ _) (hnb _) _ _⟩;have B5:=B5.int (a:=a2) (n:=n2) (c:=c2) (m:=true) (Z:=Y) ⟨B4.now.2.2.2.1.1,B4.now.2.2.2.1.2.set2b u0 (hni _ _ _) (hnb _) _ _⟩;have B5:=B5.slot2 (u0.set2 (.slice a3 n3 c3) (.bool m3));have B5:=B5.slot2 (B4.now.2.1.set2o he.2.2 (.slice a3 n3 c3) (.bool m3));have B5:=B5.slot3 (B4.now.1.set2o (k:=w.heap.size) (by omega) (.slice a3 n3 c3) (.bool m3));have BB:=Lib.hid B5;clear hi hb4 B4 u0 B5 q0 q1;go_wp2_with fail;have BB:=Lib.hid BB.out.drew
  go_region_held3 (fun y => y.cell? ⟨w.heap.size, 0, none⟩ = some (.slice a3 n3 c3) /\ y.cell? ⟨w.heap.size, 1, none⟩ = some (.bool m3) /\ y.cell? ⟨w.heap.size + 1, 0, none⟩ = some (.slice a2 n2 c2) /\ y.cell? ⟨w.heap.size + 1, 1, none⟩ = some (.bool true))
   (first
     | (exact⟨BB.out.now.2.2.1.cell,BB.out.now.2.2.1.cell1,BB.out.now.2.1.cell,BB.out.now.2.1.cell1⟩)
     | (exact⟨z0.cell,z0.cell1,z1.cell,z1.cell1⟩))
   (first
     | (go_at_call 169;(with_reducible refine(SZ.out _ BB.out.now.2.2.2.1).mono ?_);rintro e w6 ⟨rfl,hn6,hb6⟩;have BB:=Lib.hid (BB.out.go hb6))
     | (go_at_call 115;(with_reducible refine(LW.out _ _ _ _ _ BB.out.now.2.2.2.2.1 hn6).mono ?_);rintro e w7 ⟨a6,n6,c6,m6,a7,n7,c7,rfl,hr,hb7⟩;have BB:=Lib.hid (BB.out.go hb7);have hs:=BB.out.now.1;have r0:=hs.cell;have r1:=hs.cell1;have r2:=hs.cell2;have g0:=hs.free;have g1:=hs.free1;have g2:=hs.free2;have HS:=hs.set (.slice a6 n6 c6) (.bool m6) (.slice a7 n7 c7);have z0:=BB.out.now.2.2.1.set3o he.1 (.slice a6 n6 c6) (.bool m6) (.slice a7 n7 c7);have z1:=BB.out.now.2.1.set3o he.2.1 (.slice a6 n6 c6) (.bool m6) (.slice a7 n7 c7);have HE:=Lib.hid (RatTold3.done true BB.out.below (by omega) hs hr);clear hb7 hs hr))
  go_wp2;exact bodyPost_ret (by simp[results,Tryz.results248,go_sem,HS]) rfl HE.out
end Go.Proofs.YtdmmenaejkpnjaaGreatDoor
namespace Go.Proofs.YtdmmenaejkpnjaaGreatDoor
open Go.RowKit
end Go.Proofs.YtdmmenaejkpnjaaGreatDoor
namespace Go.Proofs.YtdmmenaejkpnjaaGreatDoor
open Go.RowKit
attribute [local go_sem ↓] Go.wp_at_zero Go.wp_at_succ
theorem limited_any (a : Option Addr) (n c : Nat) (m : Bool) (a2 : Option Addr) (n2 c2 : Nat) (P : Int) (Q : Nat) (w : World) (h : RatAt w a n c m a2 n2 c2 P Q) (hQ : 0 < Q) :
    Calls Tryz.prog 177 #[.agg #[.slice a n c,.bool m,.slice a2 n2 c2]] w fun e w'=>e=.returned (.bool (decide (Q=1)&&(decide (P.natAbs=0)||decide (P.natAbs=1))))/\Below w.heap.size w w':=by
 have B0:=((Bag.start w).rat h).box3 (.slice a n c) (.bool m) (.slice a2 n2 c2) 53;have IW:=Lib.hid (fun wz hz=>isWhole_any a n c m a2 n2 c2 P Q wz hz hQ);have ZE:=Lib.hid (fun wz (h:NatIs wz (.agg #[.slice a n c]) P.natAbs)=>zero_any _ P.natAbs wz h);have ON:=Lib.hid (fun wz (h:NatIs wz (.agg #[.slice a n c]) P.natAbs)=>one_any _ P.natAbs wz h);have BB:=Lib.hid B0;have⟨q0,q1,q2⟩:=B0.now.1.c3;generalize decide (Q=1)=x at *;generalize decide (P.natAbs=0)=y at *;generalize decide (P.natAbs=1)=z at *;clear h hQ B0
 cases x
 · go_enter Tryz.func177,Tryz.ntmps177
   go_wp2_with (first
    | (go_at_call 120;(with_reducible refine(IW.out _ BB.out.now.2.1).mono ?_);rintro e w2 ⟨rfl,hb2⟩;have BB:=Lib.hid (BB.out.go hb2);clear hb2))
   go_ret;exact⟨rfl,BB.out.below⟩
 · cases y
   all_goals
    go_enter Tryz.func177,Tryz.ntmps177
    go_wp2_with (first
     | (go_at_call 120;(with_reducible refine(IW.out _ BB.out.now.2.1).mono ?_);rintro e w2 ⟨rfl,hb2⟩;have BB:=Lib.hid (BB.out.go hb2);clear hb2;have q0:=BB.out.now.1.cell;have q1:=BB.out.now.1.cell1;have q2:=BB.out.now.1.cell2)
     | (go_at_call 114;(with_reducible refine(ZE.out _ BB.out.now.2.1.int.nt).mono ?_);rintro e w3 ⟨rfl,hb3⟩;have BB:=Lib.hid (BB.out.go hb3);clear hb3;have q0:=BB.out.now.1.cell;have q1:=BB.out.now.1.cell1;have q2:=BB.out.now.1.cell2)
     | (go_at_call 168;(with_reducible refine(ON.out _ BB.out.now.2.1.int.nt).mono ?_);rintro e w4 ⟨rfl,hb4⟩;have BB:=Lib.hid (BB.out.go hb4);clear hb4))
    go_ret;exact⟨rfl,BB.out.below⟩
theorem by_walk (a : Option Addr) (n c : Nat) (m : Bool) (a2 : Option Addr) (n2 c2 : Nat) (P : Int) (Q : Nat) (b : Option Addr) (k l : Nat) (v : Bool) (b2 : Option Addr) (k2 l2 : Nat) (P' : Int) (Q' : Nat) (w : World)
    (h:RatAt w a n c m a2 n2 c2 P Q) (g:RatAt w b k l v b2 k2 l2 P' Q') (hQ:0<Q) (hQ':0<Q') (K:Nat) (hK:K<=400000) (h1:P.natAbs<4294967296^K) (h2:Q<4294967296^K) (h3:P'.natAbs<4294967296^K) (h4:Q'<4294967296^K)
    (X1:Int) (X2:Nat) (ok:Bool) (NW:Hid (∀a n c m b k l v wz,IntAt wz a n c m (P*Q')->IntAt wz b k l v (P'*Q)->Calls Tryz.prog 248 #[.agg #[.slice a n c,.bool m],.agg #[.slice b k l,.bool v]] wz fun e w'=>RatTold3 wz w' e X1 X2 ok)) :
    Calls Tryz.prog 223 #[.agg #[.slice a n c,.bool m,.slice a2 n2 c2],.agg #[.slice b k l,.bool v,.slice b2 k2 l2]] w fun e w'=>RatTold3 w w' e X1 X2 ok:=by
 have B0:=(((((Bag.start w).rat h).rat g).box3 (.slice a n c) (.bool m) (.slice a2 n2 c2) 53).box3 (.slice b k l) (.bool v) (.slice b2 k2 l2) 53).box3 (.slice none 0 0) (.bool false) (.slice none 0 0) 53;simp only[World.size_alloc]at B0;have BL:=Lib.hid (fun wz (h:RatAt wz a n c m a2 n2 c2 P Q)=>below_any a n c m a2 n2 c2 P Q wz h hQ);have BL':=Lib.hid (fun wz (h:RatAt wz b k l v b2 k2 l2 P' Q')=>below_any b k l v b2 k2 l2 P' Q' wz h hQ');have T1:=Lib.hid (fun sa wz (h:IntAt wz a n c m P) (g:IntsAt wz sa 1 1 (fun _=>(Q':Int)))=>times1_any a n c m P sa Q' wz h g K hK h1 (by rw[Int.natAbs_natCast];exact h4));have T2:=Lib.hid (fun sa wz (h:IntAt wz b k l v P') (g:IntsAt wz sa 1 1 (fun _=>(Q:Int)))=>times1_any b k l v P' sa Q wz h g K hK h3 (by rw[Int.natAbs_natCast];exact h2));have BB:=Lib.hid B0.drew;have he:w.heap.size≠w.heap.size+1+1/\w.heap.size+1≠w.heap.size+1+1:=by omega
 unfold RatTold3 at NW;generalize P*(Q':Int)=X at *;generalize P'*(Q:Int)=Y at *;clear h g B0 h1 h2 h3 h4 hQ hQ';go_enter Tryz.func223,Tryz.ntmps223;go_wp2_with fail
 go_region_held3 (fun y => (y.cell? ⟨w.heap.size, 0, none⟩ = some (.slice a n c) /\ y.cell? ⟨w.heap.size, 1, none⟩ = some (.bool m) /\ y.cell? ⟨w.heap.size, 2, none⟩ = some (.slice a2 n2 c2)) /\ y.cell? ⟨w.heap.size + 1, 0, none⟩ = some (.slice b k l) /\ y.cell? ⟨w.heap.size + 1, 1, none⟩ = some (.bool v) /\ y.cell? ⟨w.heap.size + 1, 2, none⟩ = some (.slice b2 k2 l2))
  (first
    | (exact⟨⟨z0.cell,z0.cell1,z0.cell2⟩,z1.cell,z1.cell1,z1.cell2⟩)
    | (exact⟨⟨BB.out.now.2.2.1.cell,BB.out.now.2.2.1.cell1,BB.out.now.2.2.1.cell2⟩,BB.out.now.2.1.cell,BB.out.now.2.1.cell1,BB.out.now.2.1.cell2⟩)
    | (exact(fun B9:Bag w _ _=>⟨⟨B9.now.2.2.1.cell,B9.now.2.2.1.cell1,B9.now.2.2.1.cell2⟩,B9.now.2.1.cell,B9.now.2.1.cell1,B9.now.2.1.cell2⟩) (BB.out.alloc _)))
  (first
    | (go_at_call 123;(with_reducible refine(BL'.out _ BB.out.now.2.2.2.1).mono ?_);rintro e w5 ⟨a5,n5,c5,m5,rfl,hi5,hb5⟩;have BB:=Lib.hid (BB.out.go hb5))
    | (go_at_call 122;(with_reducible refine(T1.out _ _ ?_ ?_).mono ?_);exact(BB.out.alloc _).now.2.2.2.2.1.int;exact IntsAt.mk1 rfl (hi5.below ((Below.refl _ _).alloc (Nat.le_refl _) _));rintro e w6 ⟨a6,n6,c6,m6,rfl,hi6,hb6⟩;have BB:=Lib.hid ((BB.out.alloc _).go hb6))
    | (go_at_call 123;(with_reducible refine(BL.out _ BB.out.now.2.2.2.2.1).mono ?_);rintro e w7 ⟨a7,n7,c7,m7,rfl,hi7,hb7⟩;have BB:=Lib.hid (BB.out.go hb7))
    | (go_at_call 122;(with_reducible refine(T2.out _ _ ?_ ?_).mono ?_);exact(BB.out.alloc _).now.2.2.2.1.int;exact IntsAt.mk1 rfl (hi7.below ((Below.refl _ _).alloc (Nat.le_refl _) _));rintro e w8 ⟨a8,n8,c8,m8,rfl,hi8,hb8⟩;have BB:=Lib.hid ((BB.out.alloc _).go hb8))
    | (go_at_call 248;(with_reducible refine(NW.out _ _ _ _ _ _ _ _ _ (((hi6.below hb7).below ((Below.refl _ _).alloc (Nat.le_refl _) _)).below hb8) hi8).mono ?_);rintro e w9 ⟨a9,n9,c9,m9,a10,n10,c10,rfl,hr,hb9⟩;have BB:=Lib.hid (BB.out.go hb9);have hs:=BB.out.now.1;have r0:=hs.cell;have r1:=hs.cell1;have r2:=hs.cell2;have g0:=hs.free;have g1:=hs.free1;have g2:=hs.free2;have HS:=hs.set (.slice a9 n9 c9) (.bool m9) (.slice a10 n10 c10);have z0:=BB.out.now.2.2.1.set3o he.1 (.slice a9 n9 c9) (.bool m9) (.slice a10 n10 c10);have z1:=BB.out.now.2.1.set3o he.2 (.slice a9 n9 c9) (.bool m9) (.slice a10 n10 c10);have HE:=Lib.hid (RatTold3.done ok BB.out.below (by omega) hs hr)))
 go_wp2;exact bodyPost_ret (by simp[results,Tryz.results223,go_sem,HS]) rfl HE.out
theorem by_zero (a : Option Addr) (n c : Nat) (m : Bool) (a2 : Option Addr) (n2 c2 : Nat) (P : Int) (Q : Nat) (b : Option Addr) (k l : Nat) (v : Bool) (b2 : Option Addr) (k2 l2 : Nat) (Q' : Nat) (w : World)
    (h:RatAt w a n c m a2 n2 c2 P Q) (g:RatAt w b k l v b2 k2 l2 0 Q') (hQ:0<Q) (hQ':0<Q') (K:Nat) (hK:K<=400000) (h1:P.natAbs<4294967296^K) (h2:Q<4294967296^K) (h4:Q'<4294967296^K) :
    Calls Tryz.prog 223 #[.agg #[.slice a n c,.bool m,.slice a2 n2 c2],.agg #[.slice b k l,.bool v,.slice b2 k2 l2]] w fun e w'=>RatTold3 w w' e 0 1 false :=
 by_walk a n c m a2 n2 c2 P Q b k l v b2 k2 l2 0 Q' w h g hQ hQ' K hK h1 h2 (Nat.pow_pos (by omega)) h4 0 1 false (Lib.hid fun a n c m b k l v wz h g=>by
  rw[Int.zero_mul]at g;exact new_zero a n c m (P*Q') b k l v wz h g)
theorem by_some (a : Option Addr) (n c : Nat) (m : Bool) (a2 : Option Addr) (n2 c2 : Nat) (P : Int) (Q : Nat) (b : Option Addr) (k l : Nat) (v : Bool) (b2 : Option Addr) (k2 l2 : Nat) (P' : Int) (Q' : Nat) (w : World)
    (h:RatAt w a n c m a2 n2 c2 P Q) (g:RatAt w b k l v b2 k2 l2 P' Q') (hQ:0<Q) (hQ':0<Q') (hP:P'≠0) (K:Nat) (hK:K<=400000) (h1:P.natAbs<4294967296^K) (h2:Q<4294967296^K) (h3:P'.natAbs<4294967296^K) (h4:Q'<4294967296^K) :
    Calls Tryz.prog 223 #[.agg #[.slice a n c,.bool m,.slice a2 n2 c2],.agg #[.slice b k l,.bool v,.slice b2 k2 l2]] w fun e w'=>RatTold3 w w' e (nwP (P*Q') (P'*Q)) (nwQ (P*Q') (P'*Q)) true :=
 by_walk a n c m a2 n2 c2 P Q b k l v b2 k2 l2 P' Q' w h g hQ hQ' K hK h1 h2 h3 h4 _ _ true (Lib.hid fun a n c m b k l v wz h g =>
  new_some a n c m (P*Q') b k l v (P'*Q) wz h g (Int.mul_ne_zero hP (by omega)) (K+K) (by omega) (mulZ_lt32 h1 h4) (mulZ_lt32 h3 h2))
end Go.Proofs.YtdmmenaejkpnjaaGreatDoor
namespace Go.Proofs.YtdmmenaejkpnjaaGreatDoor
open Go.RowKit
end Go.Proofs.YtdmmenaejkpnjaaGreatDoor
namespace Go.Proofs.YtdmmenaejkpnjaaGreatDoor
open Go.RowKit
attribute [local go_sem ↓] Go.wp_at_zero Go.wp_at_succ
theorem dec0:str (dec 0)=⟨#[48]⟩:=by rw[dec_small (by omega)];rfl
theorem r3Zero_any(w:World):Calls Tryz.prog 64 #[] w fun e w'=>NumTold w w' e 0 1:=by
 have B0:=(Bag.start w).alloc (.cells #[.bool false,.string ⟨#[48]⟩,.string ⟨#[49]⟩] 46);have HE:Hid (NumTold w (w.alloc (.cells #[.bool false,.string ⟨#[48]⟩,.string ⟨#[49]⟩] 46)) (.returned (.agg #[.bool false,.string ⟨#[48]⟩,.string ⟨#[49]⟩])) 0 1):=⟨by rw[show rB 0=false from rfl,show rS 0=str (dec 0)from rfl,dec0,dec1],B0.below⟩
 go_enter Tryz.func64,Tryz.ntmps64;go_wp2;exact bodyPost_ret (v:=.agg #[.bool false,.string ⟨#[48]⟩,.string ⟨#[49]⟩]) (by simp[results,Tryz.results64,go_sem]) rfl HE.out
theorem r3Whole_any(Z:Int)(w:World):Calls Tryz.prog 151 #[.agg #[.bool (rB Z),.string (rS Z)]] w fun e w'=>NumTold w w' e Z 1:=by
 have B0:=((Bag.start w).alloc (.cells #[.bool (rB Z),.string (rS Z)] 159)).alloc (.cells #[.bool (rB Z),.string (rS Z),.string ⟨#[49]⟩] 46);have HE:Hid (NumTold w ((w.alloc (.cells #[.bool (rB Z),.string (rS Z)] 159)).alloc (.cells #[.bool (rB Z),.string (rS Z),.string ⟨#[49]⟩] 46)) (.returned (.agg #[.bool (rB Z),.string (rS Z),.string ⟨#[49]⟩])) Z 1):=⟨by rw[dec1],B0.below⟩
 generalize rB Z=b at *;generalize rS Z=s at *;clear B0;go_enter Tryz.func151,Tryz.ntmps151;go_wp2;exact bodyPost_ret (v:=.agg #[.bool b,.string s,.string ⟨#[49]⟩]) (by simp[results,Tryz.results151,go_sem]) rfl HE.out
theorem r3Top_any(P:Int)(t:ByteArray)(w:World)(hl:dl P.natAbs<=10000000):Calls Tryz.prog 129 #[.agg #[.bool (rB P),.string (rS P),.string t]] w fun e w'=>RTold w w' e P:=by
 have B0:=((Bag.start w).box3 (.bool (rB P)) (.string (rS P)) (.string t) 46).box2 (.bool false) (.string ⟨#[]⟩) 159;simp only[World.size_alloc]at B0
 have OF:Hid (∀wz,Calls Tryz.prog 189 #[.bool (rB P),.string (rS P)] wz fun e w'=>RTold wz w' e P):=by
  intro wz;have h1:=rOf_dec (rB P) P.natAbs wz hl;rw[show sgn (rB P) P.natAbs=P from sgn_self P]at h1;exact h1
 have BB:=Lib.hid B0;have HF:=Lib.hid (fun w2 b s (hb:Below w.heap.size w w2) (h1:rB P=b) (h2:rS P=s)=>RTold.fin (Y:=P) hb (show w.heap.size<=w.heap.size+1 by omega) h1 h2);obtain⟨b,hb⟩:∃b,rB P=b:=⟨_,rfl⟩
 obtain⟨s,hs⟩:∃s,rS P=s:=⟨_,rfl⟩
 have HB:=Lib.hid hb;have HS2:=Lib.hid hs;unfold RTold at OF;rw[hb,hs]at OF BB;rw[hb,hs];clear B0 hl hb hs;go_enter Tryz.func129,Tryz.ntmps129;go_wp2_with fail;go_at_call 189;refine(OF.out _).mono ?_;rintro e w2 ⟨rfl,hb2⟩;have BB:=bgo BB hb2;have hs2:=BB.out.now.1;have hc1:=hs2.cell;have hc2:=hs2.cell1;have hf1:=hs2.free;have hf2:=hs2.free1;have HS:=hs2.set (.bool b) (.string s);have HE:=Lib.hid (HF.out w2 b s BB.out.below HB.out HS2.out);unfold put2 at HE;clear hb2 hs2;go_wp2;exact bodyPost_ret (by simp[results,Tryz.results129,go_sem,HS]) rfl HE.out
theorem rB_nat(Q:Nat):rB (Q:Int)=false:=by unfold rB;exact decide_eq_false (by omega)
theorem rS_nat(Q:Nat):rS (Q:Int)=str (dec Q):=by unfold rS;rw[Int.natAbs_natCast]
theorem r3Bot_any(b:Bool)(s:ByteArray)(Q:Nat)(w:World)(hl:dl Q<=10000000):Calls Tryz.prog 130 #[.agg #[.bool b,.string s,.string (str (dec Q))]] w fun e w'=>RTold w w' e (Q:Int):=by
 have B0:=((Bag.start w).box3 (.bool b) (.string s) (.string (str (dec Q))) 46).box2 (.bool false) (.string ⟨#[]⟩) 159;simp only[World.size_alloc]at B0
 have OF:Hid (∀wz,Calls Tryz.prog 189 #[.bool false,.string (str (dec Q))] wz fun e w'=>RTold wz w' e (Q:Int)):=by
  intro wz;have h1:=rOf_dec false Q wz hl;rw[show sgn false Q=(Q:Int)from rfl]at h1;exact h1
 have BB:=Lib.hid B0;have HF:=Lib.hid (fun w2 b s (hb:Below w.heap.size w w2) (h1:rB (Q:Int)=b) (h2:rS (Q:Int)=s)=>RTold.fin (Y:=Q) hb (show w.heap.size<=w.heap.size+1 by omega) h1 h2);unfold RTold at OF;rw[rB_nat,rS_nat]at OF;rw[rB_nat,rS_nat]at HF;generalize str (dec Q)=t at *;clear B0 hl;go_enter Tryz.func130,Tryz.ntmps130;go_wp2_with fail;go_at_call 189;refine(OF.out _).mono ?_;rintro e w2 ⟨rfl,hb2⟩;have BB:=bgo BB hb2;have hs2:=BB.out.now.1;have hc1:=hs2.cell;have hc2:=hs2.cell1;have hf1:=hs2.free;have hf2:=hs2.free1;have HS:=hs2.set (.bool false) (.string t);have HE:=Lib.hid (HF.out w2 false t BB.out.below rfl rfl);unfold put2 at HE;clear hb2 hs2;go_wp2;exact bodyPost_ret (by simp[results,Tryz.results130,go_sem,HS]) rfl HE.out
theorem dec_is0'(N:Nat):((str (dec N)).toList == [48])=decide (N=0):=dec_eq_digit N 0 (by omega)
theorem r3Minus_any(P:Int)(Q:Nat)(w:World):Calls Tryz.prog 133 #[.agg #[.bool (rB P),.string (rS P),.string (str (dec Q))]] w fun e w'=>NumTold w w' e (-P) Q:=by
 have h2:=rS_is0 P;have BB:=Lib.hid (((Bag.start w).box3 (.bool (rB P)) (.string (rS P)) (.string (str (dec Q))) 46).box3 (.bool false) (.string ⟨#[]⟩) (.string ⟨#[]⟩) 46);simp only[World.size_alloc]at BB
 have hn:rB (-P)=(!rB P && !decide (P=0)):=by
  unfold rB
  by_cases e1:P<0
  · rw[decide_eq_false (by omega),decide_eq_true e1];rfl
  · rw[decide_eq_false e1]
    by_cases e2:P=0
    · rw[decide_eq_false (by omega),decide_eq_true e2];rfl
    · rw[decide_eq_true (by omega),decide_eq_false e2];rfl
 have hs:rS (-P)=rS P:=by unfold rS;rw[Int.natAbs_neg]
 have HF2:=Lib.hid (fun V (hv:(!rB P && !decide (P=0))=V)=>(show NumTold w ((w.alloc (.cells #[.bool V,.string (rS P),.string (str (dec Q))] 46)).alloc (.cells #[.bool V,.string (rS P),.string (str (dec Q))] 46)) (.returned (.agg #[.bool V,.string (rS P),.string (str (dec Q))])) (-P) Q from
  ⟨by rw[hn,hs,hv],((Bag.start w).alloc _).alloc _ |>.below⟩))
 generalize rS P=s at *;generalize str (dec Q)=t at *;generalize rB P=b at *;generalize decide (P=0)=z at *;have⟨q0,q1,q2⟩:=BB.out.now.2.1.c3;clear hn hs
 cases b<;>cases z
 all_goals
  go_enter Tryz.func133,Tryz.ntmps133;go_wp2
  first
   | exact bodyPost_ret (v:=.agg #[.bool true,.string s,.string t]) (by simp[results,Tryz.results133,go_sem]) rfl (HF2.out true rfl)
   | exact bodyPost_ret (v:=.agg #[.bool false,.string s,.string t]) (by simp[results,Tryz.results133,go_sem]) rfl (HF2.out false rfl)
theorem r3Limbs_any (b : Bool) (P : Int) (Q E : Nat) (w : World) (hl : dl P.natAbs <= 1000) (hl2 : dl Q <= 1000) (hE : E <= 200) (h1 : P.natAbs < 65536 ^ E) (h2 : Q < 65536 ^ E) :
    Calls Tryz.prog 70 #[.agg #[.bool b,.string (rS P),.string (str (dec Q))]] w fun e w'=>e=.returned (.int .i64 (max ((nbits P.natAbs+31) / 32:Nat) ((nbits Q+31) / 32:Nat):Nat))/\Below w.heap.size w w':=by
 have L1:=Lib.hid (fun wz=>rlimbs_any P.natAbs E wz hl hE h1);have L2:=Lib.hid (fun wz=>rlimbs_any Q E wz hl2 hE h2);have BB:=Lib.hid ((Bag.start w).box3 (.bool b) (.string (rS P)) (.string (str (dec Q))) 46);unfold rS at *;generalize str (dec P.natAbs)=s at *;generalize str (dec Q)=t at *;generalize (nbits P.natAbs+31) / 32=x at *;generalize (nbits Q+31) / 32=y at *;have⟨q0,q1,q2⟩:=BB.out.now.1.c3;clear hl hl2 hE h1 h2
 by_cases hxy:y<x
 · have hxy2 : (y : Int) < (x : Int) := by omega
   rw[show max x y=x by omega];go_enter Tryz.func70,Tryz.ntmps70;go_wp2_with fail;have BB:=Lib.hid BB.out.drew
   go_region_held3 (fun y => y.cell? ⟨w.heap.size, 0, none⟩ = some (.bool b) /\ y.cell? ⟨w.heap.size, 1, none⟩ = some (.string s) /\ y.cell? ⟨w.heap.size, 2, none⟩ = some (.string t))
    (exact⟨BB.out.now.1.cell,BB.out.now.1.cell1,BB.out.now.1.cell2⟩)
    (first
      | (go_at_call 139;(with_reducible refine(L1.out _).mono ?_);rintro e w2 ⟨rfl,hb2⟩;have BB:=Lib.hid (BB.out.go hb2))
      | (go_at_call 139;(with_reducible refine(L2.out _).mono ?_);rintro e w3 ⟨rfl,hb3⟩;have BB:=Lib.hid (BB.out.go hb3)))
   go_wp2;go_ret;exact⟨rfl,BB.out.below⟩
 · have hxy2 : ¬ (y : Int) < (x : Int) := by omega
   rw[show max x y=y by omega];go_enter Tryz.func70,Tryz.ntmps70;go_wp2_with fail;have BB:=Lib.hid BB.out.drew
   go_region_held3 (fun y => y.cell? ⟨w.heap.size, 0, none⟩ = some (.bool b) /\ y.cell? ⟨w.heap.size, 1, none⟩ = some (.string s) /\ y.cell? ⟨w.heap.size, 2, none⟩ = some (.string t))
    (exact⟨BB.out.now.1.cell,BB.out.now.1.cell1,BB.out.now.1.cell2⟩)
    (first
      | (go_at_call 139;(with_reducible refine(L1.out _).mono ?_);rintro e w2 ⟨rfl,hb2⟩;have BB:=Lib.hid (BB.out.go hb2))
      | (go_at_call 139;(with_reducible refine(L2.out _).mono ?_);rintro e w3 ⟨rfl,hb3⟩;have BB:=Lib.hid (BB.out.go hb3)))
   go_wp2;go_ret;exact⟨rfl,BB.out.below⟩
end Go.Proofs.YtdmmenaejkpnjaaGreatDoor
namespace Go.Proofs.YtdmmenaejkpnjaaGreatDoor
open Go.RowKit
theorem ofO_small{b:Bool}{s t:ByteArray}(h:ofO b s t=true)(hs:s.size<=60)(ht:t.size<=60):(ofP b s t).natAbs<4294967296^7/\ofQ b s t<4294967296^7:=by
 obtain⟨_,h2,h3,_,_⟩:=ofO_facts h;have big:(10:Nat)^60<4294967296^7:=by decide
 have mono:∀k,k<=60->(10:Nat)^k<=10^60:=fun k hk=>Nat.pow_le_pow_right (by decide) hk
 constructor
 · have e:s.size=dl (ofP b s t).natAbs:=by
     have:=congrArg ByteArray.size h2;unfold rS at this;rw[str_size,dec_length]at this;exact this.symm
   exact Nat.lt_of_lt_of_le (dl_lt _) (Nat.le_trans (mono _ (by omega)) (Nat.le_of_lt big))
 · have e:t.size=dl (ofQ b s t):=by
     have:=congrArg ByteArray.size h3;rw[str_size,dec_length]at this;exact this.symm
   exact Nat.lt_of_lt_of_le (dl_lt _) (Nat.le_trans (mono _ (by omega)) (Nat.le_of_lt big))
theorem ofO_cmp{fB:Nat->Bool}{fS fT:Nat->ByteArray}{n:Nat}(h:∀j,j<n->ofO (fB j) (fS j) (fT j)=true)(hs:Short fS fT n):CmpOk 7 (fun j=>ofP (fB j) (fS j) (fT j)) (fun j=>ofQ (fB j) (fS j) (fT j)) n :=
 fun j hj=>⟨(ofO_facts (h j hj)).2.2.2.1,ofO_small (h j hj) (hs j hj).1 (hs j hj).2⟩
def fac:Nat->Nat
 | 0=>1
 | n+1=>fac n*(n+1)
theorem fac_pos:∀n,0<fac n
 | 0=>by decide
 | n+1=>Nat.mul_pos (fac_pos n) (by omega)
theorem fac_mono{m n:Nat}(h:m<=n):fac m<=fac n:=by
 induction n with
 | zero => obtain rfl : m = 0 := by omega
           exact Nat.le_refl _
 | succ n ih =>
  by_cases e:m=n+1
  · rw[e];exact Nat.le_refl _
  · exact Nat.le_trans (ih (by omega)) (Nat.le_mul_of_pos_right _ (by omega))
theorem fac_two:∀n,2^n<=fac (n+1)
 | 0=>by decide
 | n+1=>by
  rw[Nat.pow_succ]
  show 2^n*2<=fac (n+1)*(n+1+1)
  exact Nat.mul_le_mul (fac_two n) (by omega)
theorem lbs_le{N k:Nat}:lbs N<=k↔N<2^(32*k):=by
 rw[← nbits_le];unfold lbs
 omega
theorem lbs_mono{N M:Nat}(h:N<=M):lbs N<=lbs M:=lbs_le.2 (Nat.lt_of_le_of_lt h (lbs_le.1 (Nat.le_refl _)))
theorem lbs_one:lbs 1=1:=by decide +kernel
theorem lbs_pos{N:Nat}(h:0<N):1<=lbs N:=by
 have:=lbs_mono (show 1<=N from h);rw[lbs_one]at this;exact this
theorem pow32(k:Nat):4294967296^k=2^(32*k):=by rw[Nat.pow_mul]
theorem lbs_le32{N k:Nat}:lbs N<=k↔N<4294967296^k:=by rw[lbs_le,pow32]
theorem fac_lim{n:Nat}(h:lbs (fac n)<=64):n<=2048:=by
 have h1:=lbs_le.1 h
 by_cases e:n<=2048
 · exact e
 · have h2:=fac_two (n-1);rw[show n-1+1=n by omega]at h2;have h3:=Nat.pow_le_pow_right (show 0<2 by omega) (show 32*64<=n-1 by omega)
   omega
def hasO(c:Int):Bool:=decide (c=43∨c=45∨c=124∨c=42∨c=33∨c=126∨c=215∨c=247∨c=8968∨c=8970∨c=9055∨c=9675)
def aN(c P:Int)(Q:Nat):Bool:=(decide (c=43)||decide (c=45)||decide (c=215)||decide (c=8968)||decide (c=8970)||decide (c=124))||((decide (c=247) && !decide (P=0))||(decide (c=33)&&(decide (Q=1)&&decide (0<=P))))
def aP(c P:Int)(Q:Nat):Int:=if c=43 then P else if c=45 then -P else if c=215 then sgnI P else if c=8968 then -(flQ (-P) Q)else if c=8970 then flQ P Q else if c=124 then(P.natAbs:Nat)else if c=247 then(if P<0 then -(Q:Int)else(Q:Int))else(fac P.toNat:Nat)
def aQ(c P:Int)(Q:Nat):Nat:=if c=43 then Q else if c=45 then Q else if c=215 then 1 else if c=8968 then 1 else if c=8970 then 1 else if c=124 then Q else if c=247 then P.natAbs else 1
def oE(c P:Int)(Q:Nat)(l:Int):Int:=if hasO c=false then 20 else if c=126 then(if Q=1/\(P=0∨P=1)then 0 else 22)else if aN c P Q=false then 22 else if l<limZ (aP c P Q) (aQ c P Q)then 26 else 0
def oP(c P:Int)(Q:Nat)(l:Int):Int:=if oE c P Q l=0 then(if c=126 then 1-P else aP c P Q)else 0
def oQ(c P:Int)(Q:Nat)(l:Int):Nat:=if oE c P Q l=0 then(if c=126 then 1 else aQ c P Q)else 1
def Fits(c P:Int)(Q:Nat)(l:Int)(P':Int)(Q':Nat)(E':Int):Prop :=
 0<Q'/\(E'=0∨E'=22∨E'=26)/\(E'≠0->oE c P Q l=E')/\(E'=0->if l<limZ P' Q' then oE c P Q l=26 else oE c P Q l=0/\oP c P Q l=P'/\oQ c P Q l=Q')
theorem fits_ok{c P:Int}{Q:Nat}{l:Int}(hc:hasO c=true)(h:c≠126)(hn:aN c P Q=true)(hQ:0<aQ c P Q):Fits c P Q l (aP c P Q) (aQ c P Q) 0:=by
 have e:oE c P Q l=if l<limZ (aP c P Q) (aQ c P Q)then 26 else 0:=by
  unfold oE;rw[hc,if_neg (by decide),if_neg h,hn,if_neg (by decide)]
 refine⟨hQ,.inl rfl,fun h=>absurd rfl h,fun _ => ?_⟩;rw[e]
 split
 · rfl
 · refine⟨rfl,?_,?_⟩
   · unfold oP
     rename_i h1
     rw[e,if_neg h1,if_pos rfl,if_neg h]
   · unfold oQ
     rename_i h1
     rw[e,if_neg h1,if_pos rfl,if_neg h]
theorem fits_no{c P:Int}{Q:Nat}{l:Int}(hc:hasO c=true)(h:c≠126)(hn:aN c P Q=false):Fits c P Q l 0 1 22:=by
 refine⟨by omega,.inr (.inl rfl),fun _ => ?_,fun h=>by omega⟩;unfold oE;rw[hc,if_neg (by decide),if_neg h,hn,if_pos rfl]
theorem fits_fac{P:Int}{l:Int}{m:Nat}(h0:0<=P)(hm:m<=P.toNat)(h:m=P.toNat∨l<lbs (fac m)):Fits 33 P 1 l (fac m:Nat) 1 0:=by
 have hp:=lbs_pos (fac_pos m)
 have hlz:limZ (fac m:Nat) 1=(lbs (fac m):Int):=by
  unfold limZ;rw[Int.natAbs_natCast,lbs_one]
  omega
 rcases h with h|h
 · subst h;exact fits_ok (c:=33) (P:=P) (Q:=1) (by decide) (by decide) (by unfold aN;simp[h0]) Nat.one_pos
 · refine⟨by omega,.inl rfl,fun h=>absurd rfl h,fun _ => ?_⟩;rw[if_pos (by rw[hlz];exact h)];have h2:=lbs_mono (fac_mono hm);have e:aN 33 P 1=true:=by unfold aN;simp[h0]
   have hlz2:limZ (aP 33 P 1) (aQ 33 P 1)=(lbs (fac P.toNat):Int):=by
    show limZ ((fac P.toNat:Nat):Int) 1=_
    unfold limZ;rw[Int.natAbs_natCast,lbs_one];have:=lbs_pos (fac_pos P.toNat)
    omega
   unfold oE;rw[show hasO 33=true from rfl,if_neg (by decide),if_neg (by decide),e,if_neg (by decide),if_pos (by rw[hlz2];omega)]
theorem fits_far{P:Int}{l:Int}(h0:2100<=P)(hl:l<=64):Fits 33 P 1 l 0 1 26:=by
 refine⟨by omega,.inr (.inr rfl),fun _ => ?_,fun h=>by omega⟩;have e:aN 33 P 1=true:=by unfold aN;simp;omega
 have hlz2:limZ (aP 33 P 1) (aQ 33 P 1)=(lbs (fac P.toNat):Int):=by
  show limZ ((fac P.toNat:Nat):Int) 1=_
  unfold limZ;rw[Int.natAbs_natCast,lbs_one];have:=lbs_pos (fac_pos P.toNat)
  omega
 have h3:¬lbs (fac P.toNat)<=64:=fun h=>by
  have:=fac_lim h
  omega
 unfold oE;rw[show hasO 33=true from rfl,if_neg (by decide),if_neg (by decide),e,if_neg (by decide),if_pos (by rw[hlz2];omega)]
end Go.Proofs.YtdmmenaejkpnjaaGreatDoor
