/-
  Texts of this seat, laid together.
-/
import Derived.Lib.ItoaNum
import Derived.IntWalk
import Derived.WalkKit
import Derived.WalkSpells
import Derived.Deep.Draws
import Derived.Lib.Hide
import Derived.Lib.TrimByte
import Derived.WalkLawsBesides
import Derived.Laws.CopyOwn
import Derived.Deep.QuietTactic
import Derived.BigQuiet
import Derived.BigRegion
import Derived.RegionTactic
import Derived.Deep.RegionWith
import Derived.StillTailTactics
import Derived.Deep.RegionHeld3
import Derived.Below
import Derived.Laws.StructEq
import Derived.Test.YtdmmenaejkpnjaaGreatDoorO4
set_option maxHeartbeats 12800000
set_option maxRecDepth 100000
set_option linter.unusedSimpArgs false
set_option linter.unusedVariables false
namespace Go.Proofs.YtdmmenaejkpnjaaGreatDoor
open Go.RowKit
attribute [local go_sem ↓] Go.wp_at_zero Go.wp_at_succ
theorem r3Floor_any (P : Int) (Q : Nat) (w : World) (hQ : 0 < Q) (h1 : dl P.natAbs <= 400) (h2 : dl Q <= 400) :
    Calls Tryz.prog 153 #[.agg #[.bool (rB P),.string (rS P),.string (str (dec Q))]] w fun e w'=>RTold w w' e (flQ P Q):=by
 have BB:=Lib.hid ((Bag.start w).box3 (.bool (rB P)) (.string (rS P)) (.string (str (dec Q))) 46 |>.box2 (.bool false) (.string ⟨#[]⟩) 159);simp only[World.size_alloc]at BB;have TA:Hid (∀wz,Calls Tryz.prog 129 #[.agg #[.bool (rB P),.string (rS P),.string (str (dec Q))]] wz fun e w'=>RTold wz w' e P):=fun wz=>r3Top_any P _ wz (by omega)
 have BA:Hid (∀wz,Calls Tryz.prog 130 #[.agg #[.bool (rB P),.string (rS P),.string (str (dec Q))]] wz fun e w'=>RTold wz w' e (Q:Int)):=fun wz=>r3Bot_any _ _ Q wz (by omega)
 have FL:=Lib.hid (fun wz=>rFloor_any P (Q:Int) wz h1 (by rw[Int.natAbs_natCast];exact h2) (by omega));have HF:=Lib.hid (fun w2 b s (hb:Below w.heap.size w w2) (h1:rB (flQ P (Q:Int))=b) (h2:rS (flQ P (Q:Int))=s)=>RTold.fin (Y:=flQ P (Q:Int)) hb (show w.heap.size<=w.heap.size+1 by omega) h1 h2);unfold RTold at TA BA;unfold RFloor at FL;obtain⟨x1,hx1⟩:∃x,rB (flQ P (Q:Int))=x:=⟨_,rfl⟩
 obtain⟨x2,hx2⟩:∃x,rS (flQ P (Q:Int))=x:=⟨_,rfl⟩
 have HX:=Lib.hid (And.intro hx1 hx2);rw[hx1,hx2]at FL;generalize rB (flR P (Q:Int))=y1 at *;generalize rS (flR P (Q:Int))=y2 at *;generalize rB (Q:Int)=qb at *;generalize rS (Q:Int)=qs at *;generalize rB P=pb at *;generalize rS P=ps at *;generalize str (dec Q)=q at *;clear h1 h2 hx1 hx2 hQ
 have HP:Hid (∀(y:World) (k:Nat) {b0:Bool} {s0:ByteArray},Slot2 y k (.bool b0) (.string s0)->w.heap.size+1<k->Bag w (fun y=>Slot2 y (w.heap.size+1) (.bool false) (.string ⟨#[]⟩)/\Slot3 y w.heap.size (.bool pb) (.string ps) (.string q)/\True) y->∀(z1:Bool) (z2:ByteArray),Bag w (fun y=>Slot2 y (w.heap.size+1) (.bool false) (.string ⟨#[]⟩)/\Slot3 y w.heap.size (.bool pb) (.string ps) (.string q)/\True) ((y.setCell ⟨k,0,none⟩ (.bool z1)).setCell ⟨k,1,none⟩ (.string z2))):=by
  intro y k b0 s0 s hk B z1 z2;have q:=B.now;exact⟨(B.below.setCell (p:=⟨k,0,none⟩) (show w.heap.size<=k by omega) _).setCell (p:=⟨k,1,none⟩) (show w.heap.size<=k by omega) _,B.stay,q.1.set2o (by omega) _ _,q.2.1.set2o (by omega) _ _,trivial⟩
 go_enter Tryz.func153,Tryz.ntmps153;go_wp2_with fail
 refine wp_region_inv ⟨(fun j=>([[6], [7], [8], [9], [10], [5], [11], [12], [3], [4], [3], [4]]:List (List Nat)).getD j []),(fun j=>([[], [0], [], [0,1,2], [0,1,2,3], [0,1,2,3,4], [0,1,2,3,4,5], [0,1,2,3,4,5], [], [], [0,1,2,3,4,5,6,8,9], [0,1,2,3,4,5,6,7,8,9,10]]:List (List Nat)).getD j []), [8,9]⟩ (fun jj vv yy=>match jj with|0=>vv = [some (.agg #[.bool pb,.string ps,.string q])]|1=>vv = [some (.agg #[.bool pb,.string ps])]|2=>vv = [some (.agg #[.bool pb,.string ps,.string q])]|3=>vv = [some (.agg #[.bool qb,.string qs])]|4=>vv = [some (.tuple #[.agg #[.bool x1,.string x2],.agg #[.bool y1,.string y2]])]|5=>vv = [some (.tuple #[.agg #[.bool x1,.string x2],.agg #[.bool y1,.string y2]])]|6=>vv = [some (.agg #[.bool x1,.string x2])]|7=>vv = [some (.agg #[.bool y1,.string y2])]|8=>∃(k8:Nat),∃(b0:Bool),∃(s0:ByteArray),vv = [some (.pointer (some ⟨k8,0,none⟩))]/\Slot2 yy k8 (.bool b0) (.string s0)/\w.heap.size+1<k8|9=>∃(k9:Nat),∃(b0:Bool),∃(s0:ByteArray),vv = [some (.pointer (some ⟨k9,0,none⟩))]/\Slot2 yy k9 (.bool b0) (.string s0)/\w.heap.size+1<k9|10=>∃(k8:Nat),vv = [some (.pointer (some ⟨k8,0,none⟩))]/\Slot2 yy k8 (.bool x1) (.string x2)|11=>∃(k9:Nat),vv = [some (.pointer (some ⟨k9,0,none⟩))]/\Slot2 yy k9 (.bool y1) (.string y2)|_=>True) (Bag w (fun y=>Slot2 y (w.heap.size+1) (.bool false) (.string ⟨#[]⟩)/\Slot3 y w.heap.size (.bool pb) (.string ps) (.string q)/\True)) (by kernel_rfl) (by kernel_rfl) (by kernel_rfl) BB.out.drew ?_ ?_ ?_
 · intro jj vv yw yw2 hb h
   match jj,h with
   | 0,h=>exact h
   | 1,h=>exact h
   | 2,h=>exact h
   | 3,h=>exact h
   | 4,h=>exact h
   | 5,h=>exact h
   | 6,h=>exact h
   | 7,h=>exact h
   | 8,⟨k8,b0,s0,e8,g8_0,g8_1⟩=>exact Exists.intro k8 (Exists.intro b0 (Exists.intro s0 (And.intro e8 (And.intro (g8_0.below hb) g8_1))))
   | 9,⟨k9,b0,s0,e9,g9_0,g9_1⟩=>exact Exists.intro k9 (Exists.intro b0 (Exists.intro s0 (And.intro e9 (And.intro (g9_0.below hb) g9_1))))
   | 10,⟨k8,e10,g10_0⟩=>exact Exists.intro k8 (And.intro e10 (g10_0.below hb))
   | 11,⟨k9,e11,g11_0⟩=>exact Exists.intro k9 (And.intro e11 (g11_0.below hb))
   | _+12,h=>exact h
 · intro ac yw hsz hdf hold hB hp;obtain⟨k8,e10,sA⟩:=hp 10 (by decide);have t3:ac.tmps[3]? = some (.pointer (some ⟨k8,0,none⟩)):=(List.cons.inj e10).1;have t2:ac.tmps[2]? = some (.pointer (some ⟨w.heap.size+1,0,none⟩)):=hold 2 (by kernel_rfl);clear hold hp e10;obtain⟨⟨l⟩,df⟩:=ac
   match l,hsz with
   | [u0,u1,u2,u3,u4,u5,u6,u7,u8,u9,u10,u11,u12,u13],_ =>
   obtain rfl:=Option.some.inj (show some u2=_ from t2);obtain rfl:=Option.some.inj (show some u3=_ from t3);have q0:=sA.cell;have q1:=sA.cell1;have hs:=hB.now.1;have hc:=hs.cell;have hc1:=hs.cell1;have hf:=hs.free;have hf1:=hs.free1;have HS:=hs.set (.bool x1) (.string x2);have HE:=Lib.hid (HF.out _ x1 x2 hB.below HX.out.1 HX.out.2);unfold put2 at HE;clear hB sA hs;go_wp2;exact bodyPost_ret (by simp[results,Tryz.results153,go_sem,HS]) rfl HE.out
 refine Stps.cons (o:=_) ?_ ?_
 · intro ac yw hsz hold hB hp K hK;have t1:ac.tmps[1]? = some (.pointer (some ⟨w.heap.size,0,none⟩)):=hold 1 (by kernel_rfl);clear hold hp hsz;have⟨q0,q1,q2⟩:=hB.now.2.1.c3;go_simp;exact hK.out _ _ ⟨hB,rfl,Nat.le_refl _,.inl (Below.refl _ _),fun h=>absurd h (by decide)⟩
 refine Stps.cons (o:=_) ?_ ?_
 · intro ac yw hsz hold hB hp K hK;have e0:=hp 0 (by decide);have t6:ac.tmps[6]? = some (.agg #[.bool pb,.string ps,.string q]):=(List.cons.inj e0).1;clear hold hp hsz e0;go_simp
   (go_at_call 129;(with_reducible refine(TA.out _).mono ?_);rintro e wz ⟨rfl,hbz⟩)
   exact hK.out _ _ ⟨hB.go hbz,rfl,hbz.size,.inl hbz,fun h=>absurd h (by decide)⟩
 refine Stps.cons (o:=_) ?_ ?_
 · intro ac yw hsz hold hB hp K hK;have t1:ac.tmps[1]? = some (.pointer (some ⟨w.heap.size,0,none⟩)):=hold 1 (by kernel_rfl);clear hold hp hsz;have⟨q0,q1,q2⟩:=hB.now.2.1.c3;go_simp;exact hK.out _ _ ⟨hB,rfl,Nat.le_refl _,.inl (Below.refl _ _),fun h=>absurd h (by decide)⟩
 refine Stps.cons (o:=_) ?_ ?_
 · intro ac yw hsz hold hB hp K hK;have e2:=hp 2 (by decide);have t8:ac.tmps[8]? = some (.agg #[.bool pb,.string ps,.string q]):=(List.cons.inj e2).1;clear hold hp hsz e2;go_simp
   (go_at_call 130;(with_reducible refine(BA.out _).mono ?_);rintro e wz ⟨rfl,hbz⟩)
   exact hK.out _ _ ⟨hB.go hbz,rfl,hbz.size,.inl hbz,fun h=>absurd h (by decide)⟩
 refine Stps.cons (o:=_) ?_ ?_
 · intro ac yw hsz hold hB hp K hK;have e1:=hp 1 (by decide);have t7:ac.tmps[7]? = some (.agg #[.bool pb,.string ps]):=(List.cons.inj e1).1;have e3:=hp 3 (by decide);have t9:ac.tmps[9]? = some (.agg #[.bool qb,.string qs]):=(List.cons.inj e3).1;clear hold hp hsz e1 e3;go_simp
   (go_at_call 210;(with_reducible refine(FL.out _).mono ?_);rintro e wz ⟨rfl,hbz⟩)
   exact hK.out _ _ ⟨hB.go hbz,rfl,hbz.size,.inl hbz,fun h=>absurd h (by decide)⟩
 refine Stps.cons (o:=_) ?_ ?_
 · intro ac yw hsz hold hB hp K hK;have e4:=hp 4 (by decide);have t10:ac.tmps[10]? = some (.tuple #[.agg #[.bool x1,.string x2],.agg #[.bool y1,.string y2]]):=(List.cons.inj e4).1;clear hold hp hsz e4;go_simp;exact hK.out _ _ ⟨hB,rfl,Nat.le_refl _,.inl (Below.refl _ _),fun h=>absurd h (by decide)⟩
 refine Stps.cons (o:=_) ?_ ?_
 · intro ac yw hsz hold hB hp K hK;have e5:=hp 5 (by decide);have t5:ac.tmps[5]? = some (.tuple #[.agg #[.bool x1,.string x2],.agg #[.bool y1,.string y2]]):=(List.cons.inj e5).1;clear hold hp hsz e5;go_simp;exact hK.out _ _ ⟨hB,rfl,Nat.le_refl _,.inl (Below.refl _ _),fun h=>absurd h (by decide)⟩
 refine Stps.cons (o:=_) ?_ ?_
 · intro ac yw hsz hold hB hp K hK;have e5:=hp 5 (by decide);have t5:ac.tmps[5]? = some (.tuple #[.agg #[.bool x1,.string x2],.agg #[.bool y1,.string y2]]):=(List.cons.inj e5).1;clear hold hp hsz e5;go_simp;exact hK.out _ _ ⟨hB,rfl,Nat.le_refl _,.inl (Below.refl _ _),fun h=>absurd h (by decide)⟩
 refine Stps.cons (o:=_) ?_ ?_
 · intro ac yw hsz hold hB hp K hK;clear hold hp hsz;have hk0:=hB.now.1.lt;have hsl:=Slot2.new yw (.bool false) (.string ⟨#[]⟩) 159;have hbz:Below yw.heap.size yw (yw.alloc (.cells #[.bool false,.string ⟨#[]⟩] 159))/\yw.heap.size<(yw.alloc (.cells #[.bool false,.string ⟨#[]⟩] 159)).heap.size:=⟨(Below.refl _ _).alloc (Nat.le_refl _) _,by simp⟩
   go_simp;exact hK.out _ _ ⟨hB.alloc _,Exists.intro yw.heap.size (Exists.intro false (Exists.intro ⟨#[]⟩ (And.intro rfl (And.intro hsl hk0)))),Nat.le_of_lt hbz.2,.inl hbz.1,fun _=>⟨_,rfl,Nat.le_refl _,hbz.2⟩⟩
 refine Stps.cons (o:=_) ?_ ?_
 · intro ac yw hsz hold hB hp K hK;clear hold hp hsz;have hk0:=hB.now.1.lt;have hsl:=Slot2.new yw (.bool false) (.string ⟨#[]⟩) 159;have hbz:Below yw.heap.size yw (yw.alloc (.cells #[.bool false,.string ⟨#[]⟩] 159))/\yw.heap.size<(yw.alloc (.cells #[.bool false,.string ⟨#[]⟩] 159)).heap.size:=⟨(Below.refl _ _).alloc (Nat.le_refl _) _,by simp⟩
   go_simp;exact hK.out _ _ ⟨hB.alloc _,Exists.intro yw.heap.size (Exists.intro false (Exists.intro ⟨#[]⟩ (And.intro rfl (And.intro hsl hk0)))),Nat.le_of_lt hbz.2,.inl hbz.1,fun _=>⟨_,rfl,Nat.le_refl _,hbz.2⟩⟩
 refine Stps.cons (o:=_) ?_ ?_
 · intro ac yw hsz hold hB hp K hK;obtain⟨k8_8,b0_8,s0_8,e8,g8_0,g8_1⟩:=hp 8 (by decide);have t3:ac.tmps[3]? = some (.pointer (some ⟨k8_8,0,none⟩)):=(List.cons.inj e8).1;have e6:=hp 6 (by decide);have t11:ac.tmps[11]? = some (.agg #[.bool x1,.string x2]):=(List.cons.inj e6).1;clear hold hp hsz e8 e6;have hs:=g8_0;have l0:=hs.cell;have l1:=hs.cell1;have f0:=hs.free;have f1:=hs.free1;have HB:=HP.out _ _ hs g8_1 hB x1 x2;go_simp;refine hK.out undef _ ⟨HB,Exists.intro k8_8 (And.intro (congrArg (fun x => [x]) t3) (hs.set2 (.bool x1) (.string x2))),by simp,.inr ?_,fun h=>absurd h (by decide)⟩;intro jj hj hap h
   match jj,h with
   | 0,h=>exact h
   | 1,h=>exact h
   | 2,h=>exact h
   | 3,h=>exact h
   | 4,h=>exact h
   | 5,h=>exact h
   | 6,h=>exact h
   | 7,h=>exact h
   | 8,⟨k8,b0,s0,e8,g8_0,g8_1⟩ =>
    have e9:k8=k8_8:=by have:=(List.cons.inj e8).1.symm.trans t3;cases this;rfl
    subst e9;exact Exists.intro _ (Exists.intro _ (Exists.intro _ (And.intro e8 (And.intro (g8_0.set2 _ _) g8_1))))
   | 9,⟨k9,b0,s0,e9,g9_0,g9_1⟩ =>
    have hne:k9≠k8_8:=fun e=>hap 8 (by decide) 9 (by decide) (by decide) (by decide) (by decide) k8_8 ⟨3,rfl,t3⟩ ⟨4,rfl,e▸(List.cons.inj e9).1⟩
    exact Exists.intro k9 (Exists.intro b0 (Exists.intro s0 (And.intro e9 (And.intro (Slot2.set2o g9_0 hne _ _) g9_1))))
   | 10,_=>exact absurd rfl hj
   | 11,⟨k9,e11,g11_0⟩ =>
    have hne:k9≠k8_8:=fun e=>hap 8 (by decide) 9 (by decide) (by decide) (by decide) (by decide) k8_8 ⟨3,rfl,t3⟩ ⟨4,rfl,e▸(List.cons.inj e11).1⟩
    exact Exists.intro k9 (And.intro e11 (Slot2.set2o g11_0 hne _ _))
   | _+12,h=>exact h
 refine Stps.cons (o:=_) ?_ ?_
 · intro ac yw hsz hold hB hp K hK;obtain⟨k9_9,b0_9,s0_9,e9,g9_0,g9_1⟩:=hp 9 (by decide);have t4:ac.tmps[4]? = some (.pointer (some ⟨k9_9,0,none⟩)):=(List.cons.inj e9).1;have e7:=hp 7 (by decide);have t12:ac.tmps[12]? = some (.agg #[.bool y1,.string y2]):=(List.cons.inj e7).1;clear hold hp hsz e9 e7;have hs:=g9_0;have l0:=hs.cell;have l1:=hs.cell1;have f0:=hs.free;have f1:=hs.free1;have HB:=HP.out _ _ hs g9_1 hB y1 y2;go_simp;refine hK.out undef _ ⟨HB,Exists.intro k9_9 (And.intro (congrArg (fun x => [x]) t4) (hs.set2 (.bool y1) (.string y2))),by simp,.inr ?_,fun h=>absurd h (by decide)⟩;intro jj hj hap h
   match jj,h with
   | 0,h=>exact h
   | 1,h=>exact h
   | 2,h=>exact h
   | 3,h=>exact h
   | 4,h=>exact h
   | 5,h=>exact h
   | 6,h=>exact h
   | 7,h=>exact h
   | 8,⟨k8,b0,s0,e8,g8_0,g8_1⟩ =>
    have hne:k8≠k9_9:=fun e=>hap 9 (by decide) 8 (by decide) (by decide) (by decide) (by decide) k9_9 ⟨4,rfl,t4⟩ ⟨3,rfl,e▸(List.cons.inj e8).1⟩
    exact Exists.intro k8 (Exists.intro b0 (Exists.intro s0 (And.intro e8 (And.intro (Slot2.set2o g8_0 hne _ _) g8_1))))
   | 9,⟨k9,b0,s0,e9,g9_0,g9_1⟩ =>
    have e9:k9=k9_9:=by have:=(List.cons.inj e9).1.symm.trans t4;cases this;rfl
    subst e9;exact Exists.intro _ (Exists.intro _ (Exists.intro _ (And.intro e9 (And.intro (g9_0.set2 _ _) g9_1))))
   | 10,⟨k8,e10,g10_0⟩ =>
    have hne:k8≠k9_9:=fun e=>hap 9 (by decide) 8 (by decide) (by decide) (by decide) (by decide) k9_9 ⟨4,rfl,t4⟩ ⟨3,rfl,e▸(List.cons.inj e10).1⟩
    exact Exists.intro k8 (And.intro e10 (Slot2.set2o g10_0 hne _ _))
   | 11,_=>exact absurd rfl hj
   | _+12,h=>exact h
 exact Stps.nil _
theorem dl_one:dl 1=1:=Nat.le_antisymm (dl_le 1 1 (by omega) (by decide)) (dl_pos 1)
theorem r3Ceil_any (P : Int) (Q : Nat) (w : World) (hQ : 0 < Q) (h1 : dl P.natAbs <= 400) (h2 : dl Q <= 400) :
    Calls Tryz.prog 152 #[.agg #[.bool (rB P),.string (rS P),.string (str (dec Q))]] w fun e w'=>RTold w w' e (-(flQ (-P) Q)):=by
 have BB:=Lib.hid ((Bag.start w).box3 (.bool (rB P)) (.string (rS P)) (.string (str (dec Q))) 46 |>.box2 (.bool false) (.string ⟨#[]⟩) 159);simp only[World.size_alloc]at BB;have MN:=Lib.hid (fun wz=>r3Minus_any P Q wz);have FL:=Lib.hid (fun wz=>r3Floor_any (-P) Q wz hQ (by rw[Int.natAbs_neg];exact h1) h2)
 have hz:dl (flQ (-P) (Q:Int)).natAbs<=401:=by
  have:=flQ_abs (-P) (Q:Int);rw[Int.natAbs_neg]at this;exact Nat.le_trans (dl_mono this) (dl_add_le (k:=400) h1 (Nat.le_trans (dl_le 1 1 (by omega) (by decide)) (by omega)))
 have MZ:=Lib.hid (fun wz=>rMinus_any (flQ (-P) (Q:Int)) wz (by omega));have HF:=Lib.hid (fun w2 b s (hb:Below w.heap.size w w2) (h1:rB (-(flQ (-P) (Q:Int)))=b) (h2:rS (-(flQ (-P) (Q:Int)))=s)=>RTold.fin (Y := -(flQ (-P) (Q:Int))) hb (show w.heap.size<=w.heap.size+1 by omega) h1 h2);unfold NumTold at MN;unfold RTold at FL MZ;obtain⟨b,hb⟩:∃b,rB (-(flQ (-P) (Q:Int)))=b:=⟨_,rfl⟩
 obtain⟨s,hs⟩:∃s,rS (-(flQ (-P) (Q:Int)))=s:=⟨_,rfl⟩
 have HB:=Lib.hid (And.intro hb hs);rw[hb,hs]at MZ;generalize rB (flQ (-P) (Q:Int))=b2 at *;generalize rS (flQ (-P) (Q:Int))=s2 at *;generalize rB (-P)=b3 at *;generalize rS (-P)=s3 at *;generalize rB P=b4 at *;generalize rS P=s4 at *;generalize str (dec Q)=t at *;have⟨q0,q1,q2⟩:=BB.out.now.2.1.c3;clear hb hs hz h1 h2 hQ;go_enter Tryz.func152,Tryz.ntmps152;go_wp2_with fail;go_at_call 133;refine(MN.out _).mono ?_;rintro e w2 ⟨rfl,hb2⟩;have BB:=bgo BB hb2;go_wp2_with fail;go_at_call 153;refine(FL.out _).mono ?_;rintro e w3 ⟨rfl,hb3⟩;have BB:=bgo BB hb3;go_wp2_with fail;go_at_call 209;refine(MZ.out _).mono ?_;rintro e w4 ⟨rfl,hb4⟩;have BB:=bgo BB hb4;have hs:=BB.out.now.1;have hc:=hs.cell;have hc1:=hs.cell1;have hf:=hs.free;have hf1:=hs.free1;have HS:=hs.set (.bool b) (.string s);have HE:=Lib.hid (HF.out _ b s BB.out.below HB.out.1 HB.out.2);unfold put2 at HE;clear hs;go_wp2;exact bodyPost_ret (by simp[results,Tryz.results152,go_sem,HS]) rfl HE.out
set_option linter.unusedVariables false
set_option linter.unusedSimpArgs false
def NumTold4(w w':World)(e:Ending)(P:Int)(Q:Nat)(E:Int):Prop:=e=.returned (.tuple #[.agg #[.bool (rB P),.string (rS P),.string (str (dec Q))],.int .i64 E])/\Below w.heap.size w w'
theorem NumTold4.done {w w2 : World} {k : Nat} (P : Int) (Q : Nat) (E : Int) (hb : Below w.heap.size w w2) (hk : w.heap.size <= k) {b : Bool} {s t : ByteArray} (h1 : rB P = b) (h2 : rS P = s) (h3 : str (dec Q) = t) :
    NumTold4 w (((w2.setCell ⟨k,0,none⟩ (.bool b)).setCell ⟨k,1,none⟩ (.string s)).setCell ⟨k,2,none⟩ (.string t)) (.returned (.tuple #[.agg #[.bool b,.string s,.string t],.int .i64 E])) P Q E :=
 ⟨by rw[h1,h2,h3],((hb.setCell hk _).setCell hk _).setCell hk _⟩
theorem dec_same(a b:Nat):((str (dec a)).toList==(str (dec b)).toList)=decide (a=b):=by
 rw[ByteArray.toList_eq,ByteArray.toList_eq,str_toList,str_toList]
 by_cases h:a=b
 · subst h;rw[decide_eq_true rfl,beq_self_eq_true]
 · rw[decide_eq_false h,beq_eq_false_iff_ne];intro e;refine h ?_;have:=congrArg numOf e;rw[numOf_dec,numOf_dec]at this;exact this
def wE(P:Int)(Q:Nat)(l:Int):Int:=if l<limZ P Q then 26 else 0
def wP(P:Int)(Q:Nat)(l:Int):Int:=if l<limZ P Q then 0 else P
def wQ(P:Int)(Q:Nat)(l:Int):Nat:=if l<limZ P Q then 1 else Q
theorem o_w{c P:Int}{Q:Nat}{l:Int}(hc:hasO c=true)(h:c≠126)(hn:aN c P Q=true):oP c P Q l=wP (aP c P Q) (aQ c P Q) l/\oQ c P Q l=wQ (aP c P Q) (aQ c P Q) l/\oE c P Q l=wE (aP c P Q) (aQ c P Q) l:=by
 have e:oE c P Q l=wE (aP c P Q) (aQ c P Q) l:=by
  unfold oE wE;rw[hc,if_neg (by decide),if_neg h,hn,if_neg (by decide)]
 refine⟨?_,?_,e⟩
 · unfold oP wP;rw[e];unfold wE
   split
   · rw[if_neg (by decide)]
   · rw[if_pos rfl]
 · unfold oQ wQ;rw[e];unfold wE
   split
   · rw[if_neg (by decide)]
   · rw[if_pos rfl]
theorem o_no{c P:Int}{Q:Nat}{l:Int}(hc:hasO c=true)(h:c≠126)(hn:aN c P Q=false):oP c P Q l=0/\oQ c P Q l=1/\oE c P Q l=22:=by
 have e:oE c P Q l=22:=by
  unfold oE;rw[hc,if_neg (by decide),if_neg h,hn,if_pos rfl]
 unfold oP oQ;rw[e,if_neg (by decide),if_neg (by decide)];exact⟨rfl,rfl,rfl⟩
theorem rhas12_any(c:Int)(w:World):Calls Tryz.prog 83 #[.int .i32 c] w fun e w'=>e=.returned (.bool (hasO c))/\Below w.heap.size w w':=by
 have HE:=Lib.hid (Below.refl w.heap.size w)
 by_cases h:(c=43∨c=45∨c=124∨c=42∨c=33∨c=126∨c=215∨c=247∨c=8968∨c=8970∨c=9055∨c=9675)
 · rw[show hasO c=true from decide_eq_true h]
   rcases h with rfl|rfl|rfl|rfl|rfl|rfl|rfl|rfl|rfl|rfl|rfl|rfl
   all_goals
    go_enter Tryz.func83,Tryz.ntmps83;go_wp2;go_ret;exact⟨rfl,HE.out⟩
 · rw[show hasO c=false from decide_eq_false h]
   have hh:(c==43)=false/\(c==45)=false/\(c==124)=false/\(c==42)=false/\(c==33)=false/\(c==126)=false/\(c==215)=false/\(c==247)=false/\(c==8968)=false/\(c==8970)=false/\(c==9055)=false/\(c==9675)=false:=by
    refine⟨?_,?_,?_,?_,?_,?_,?_,?_,?_,?_,?_,?_⟩<;>(rw[beq_eq_false_iff_ne];omega)
   obtain⟨h43,h45,h124,h42,h33,h126,h215,h247,h8968,h8970,h9055,h9675⟩:=hh;clear h;go_enter Tryz.func83,Tryz.ntmps83;go_wp2;go_ret;exact⟨rfl,HE.out⟩
theorem num_zero:rB 0=false/\rS 0=⟨#[48]⟩/\str (dec 1)=⟨#[49]⟩:=⟨rfl,dec0,dec1⟩
theorem hfz(w:World)(E:Int):Hid (∀w2,Below w.heap.size w w2 → NumTold4 w (((w2.setCell ⟨w.heap.size+1+1,0,none⟩ (.bool false)).setCell ⟨w.heap.size+1+1,1,none⟩ (.string ⟨#[48]⟩)).setCell ⟨w.heap.size+1+1,2,none⟩ (.string ⟨#[49]⟩)) (.returned (.tuple #[.agg #[.bool false,.string ⟨#[48]⟩,.string ⟨#[49]⟩],.int .i64 E])) 0 1 E):=Lib.hid (fun w2 hb=>NumTold4.done (k:=w.heap.size+1+1) 0 1 E hb (by omega) num_zero.1 num_zero.2.1 num_zero.2.2)
theorem zen:Hid (∀wz,Calls Tryz.prog 64 #[] wz fun e w'=>e=.returned (.agg #[.bool false,.string ⟨#[48]⟩,.string ⟨#[49]⟩]) ∧ Below wz.heap.size wz w'):=by
 have ZE:=Lib.hid (fun wz=>r3Zero_any wz)
 unfold NumTold at ZE
 rw[num_zero.1,num_zero.2.1,num_zero.2.2]at ZE
 exact ZE
theorem rwithin_any (P : Int) (Q : Nat) (l : Int) (w : World) (E : Nat) (hE : E <= 200) (hl1 : dl P.natAbs <= 1000) (hl2 : dl Q <= 1000) (h1 : P.natAbs < 65536 ^ E) (h2 : Q < 65536 ^ E) :
    Calls Tryz.prog 149 #[.agg #[.bool (rB P),.string (rS P),.string (str (dec Q))],.int .i64 l] w fun e w'=>NumTold4 w w' e (wP P Q l) (wQ P Q l) (wE P Q l):=by
 have LM:Hid (∀wz,Calls Tryz.prog 70 #[.agg #[.bool (rB P),.string (rS P),.string (str (dec Q))]] wz fun e w'=>e=.returned (.int .i64 (limZ P Q))/\Below wz.heap.size wz w'):=Lib.hid (fun wz=>by
  have:=r3Limbs_any (rB P) P Q E wz hl1 hl2 hE h1 h2
  rw[show(((max ((nbits P.natAbs+31) / 32) ((nbits Q+31) / 32):Nat)):Int)=limZ P Q by
   show(((max (lbs P.natAbs) (lbs Q):Nat)):Int)=max (lbs P.natAbs:Int) (lbs Q:Int)
   omega]at this
  exact this)
 by_cases hlt:l<limZ P Q
 · rw[show wP P Q l=0 from if_pos hlt,show wQ P Q l=1 from if_pos hlt,show wE P Q l=26 from if_pos hlt];have HF:Hid (∀w2,Below w.heap.size w w2->NumTold4 w (((w2.setCell ⟨w.heap.size+1,0,none⟩ (.bool false)).setCell ⟨w.heap.size+1,1,none⟩ (.string ⟨#[48]⟩)).setCell ⟨w.heap.size+1,2,none⟩ (.string ⟨#[49]⟩)) (.returned (.tuple #[.agg #[.bool false,.string ⟨#[48]⟩,.string ⟨#[49]⟩],.int .i64 26])) 0 1 26):=Lib.hid (fun w2 hb=>NumTold4.done (k:=w.heap.size+1) 0 1 26 hb (by omega) num_zero.1 num_zero.2.1 num_zero.2.2);have ZE:=zen;obtain⟨LZ,hLZ⟩:∃z,limZ P Q=z:=⟨_,rfl⟩
   rw[hLZ]at LM hlt;clear hLZ;clear hE hl1 hl2 h1 h2;generalize rB P=b at *;generalize rS P=s at *;generalize str (dec Q)=q at *;have BB:=Lib.hid (((Bag.start w).box3 (.bool b) (.string s) (.string q) 46).box3 (.bool false) (.string ⟨#[]⟩) (.string ⟨#[]⟩) 46);simp only[World.size_alloc]at BB;have⟨r0,r1,r2⟩:=BB.out.now.2.1.c3;go_enter Tryz.func149,Tryz.ntmps149;go_wp2_with fail;go_at_call 70;refine(LM.out _).mono ?_;rintro e w2 ⟨rfl,hb2⟩;have BB:=bgo BB hb2;clear hb2;go_wp2_with fail;go_at_call 64;refine(ZE.out _).mono ?_;rintro e w3 ⟨rfl,hb3⟩;have BB:=bgo BB hb3;clear hb3;have hs:=BB.out.now.1;have⟨u0,u1,u2,g0,g1,g2⟩:=hs.s6;have HS:=hs.set (.bool false) (.string ⟨#[48]⟩) (.string ⟨#[49]⟩);have HE:=Lib.hid (HF.out _ BB.out.below);clear hs;go_wp2;exact bodyPost_ret (by simp[results,Tryz.results149,go_sem,HS]) rfl HE.out
 · rw[show wP P Q l=P from if_neg hlt,show wQ P Q l=Q from if_neg hlt,show wE P Q l=0 from if_neg hlt];have HF:=Lib.hid (fun w2 (hb:Below w.heap.size w w2)=>NumTold4.done (k:=w.heap.size+1) P Q 0 hb (by omega) rfl rfl rfl);obtain⟨LZ,hLZ⟩:∃z,limZ P Q=z:=⟨_,rfl⟩
   rw[hLZ]at LM hlt;clear hLZ;clear hE hl1 hl2 h1 h2;generalize rB P=b at *;generalize rS P=s at *;generalize str (dec Q)=q at *;have BB:=Lib.hid (((Bag.start w).box3 (.bool b) (.string s) (.string q) 46).box3 (.bool false) (.string ⟨#[]⟩) (.string ⟨#[]⟩) 46);simp only[World.size_alloc]at BB;have⟨r0,r1,r2⟩:=BB.out.now.2.1.c3;go_enter Tryz.func149,Tryz.ntmps149;go_wp2_with fail;go_at_call 70;refine(LM.out _).mono ?_;rintro e w2 ⟨rfl,hb2⟩;have BB:=bgo BB hb2;clear hb2;have⟨r0,r1,r2⟩:=BB.out.now.2.1.c3;have hs:=BB.out.now.1;have⟨u0,u1,u2,g0,g1,g2⟩:=hs.s6;have HS:=hs.set (.bool b) (.string s) (.string q);have HE:=Lib.hid (HF.out _ BB.out.below);clear hs;go_wp2;exact bodyPost_ret (by simp[results,Tryz.results149,go_sem,HS]) rfl HE.out
theorem big10{N m:Nat}(h:N<4294967296^m):N<10^(10*m):=by
 refine Nat.lt_of_lt_of_le h ?_;rw[Nat.pow_mul];exact Nat.pow_le_pow_left (by decide) _
theorem fac_dl{k m:Nat}(h:fac k<4294967296^m)(hk:k<=3000):dl (fac k)<=10*m+1/\dl (fac (k+1))<=10*m+4/\fac (k+1)<65536^(2*m+2):=by
 have h1:=big10 h
 refine⟨dl_le _ _ (by omega) (Nat.lt_of_lt_of_le h1 (Nat.pow_le_pow_right (by omega) (by omega))),dl_le _ _ (by omega) ?_,?_⟩
 · show fac k*(k+1)<10^(10*m+4)
   rw[Nat.pow_add];exact Nat.mul_lt_mul'' h1 (by omega)
 · show fac k*(k+1)<65536^(2*m+2)
   rw[Nat.pow_add,Nat.pow_mul];exact Nat.mul_lt_mul'' (show fac k<(65536^2)^m from h) (by omega)
theorem wfac_long{k N:Nat}{l:Int}(hk:k<=N)(h:l<lbs (fac k)):wP (fac N:Nat) 1 l=0/\wQ (fac N:Nat) 1 l=1/\wE (fac N:Nat) 1 l=26:=by
 have h1:=lbs_mono (fac_mono hk);have h2:=lbs_pos (fac_pos N)
 have h3:l<limZ (fac N:Nat) 1:=by
  unfold limZ;rw[Int.natAbs_natCast,lbs_one]
  omega
 unfold wP wQ wE;rw[if_pos h3,if_pos h3,if_pos h3];exact⟨rfl,rfl,rfl⟩
theorem rB_nat0(N:Nat):rB (N:Int)=false:=by unfold rB;exact decide_eq_false (by omega)
theorem rS_nat0(N:Nat):rS (N:Int)=str (dec N):=by unfold rS;rw[Int.natAbs_natCast]
theorem rfac_any (N : Nat) (l : Int) (w : World) (hl : l <= 64) :
    Calls Tryz.prog 154 #[.agg #[.bool false,.string (str (dec N)),.string (str (dec 1))],.int .i64 l] w fun e w'=>NumTold4 w w' e (wP (fac N:Nat) 1 l) (wQ (fac N:Nat) 1 l) (wE (fac N:Nat) 1 l):=by
 obtain⟨m,hm64⟩:∃m,m=64:=⟨_,rfl⟩
 have AD:Hid (∀k,k<=3000->∀wz,Calls Tryz.prog 197 #[.string (str (dec k)),.string ⟨#[49]⟩] wz fun e w'=>e=.returned (.string (str (dec (k+1))))/\Below wz.heap.size wz w'):=Lib.hid (fun k (hk:k<=3000) wz=>radd_any k (dl k) 1 1 wz (dl_lt k) (by omega) (by have:=dl_mono hk;have:dl 3000<=4:=dl_le _ _ (by omega) (by decide);omega) (by omega));have ML:Hid (∀k,fac k<4294967296^m->k<=3000->∀wz,Calls Tryz.prog 190 #[.string (str (dec (fac k))),.string (str (dec (k+1)))] wz fun e w'=>e=.returned (.string (str (dec (fac (k+1)))))/\Below wz.heap.size wz w'):=Lib.hid (fun k (h:fac k<4294967296^m) (hk:k<=3000) wz=>rmul_any (fac k) (dl (fac k)) (k+1) (dl (k+1)) wz (dl_lt _) (dl_lt _) (by have:=(fac_dl h hk).1;omega) (by have:=dl_mono (show k+1<=3001 by omega);have:dl 3001<=4:=dl_le _ _ (by omega) (by decide);omega));have LB:Hid (∀k,fac k<4294967296^m->k<=3000->∀wz,Calls Tryz.prog 139 #[.string (str (dec (fac (k+1))))] wz fun e w'=>e=.returned (.int .i64 (lbs (fac (k+1)):Nat))/\Below wz.heap.size wz w'):=Lib.hid (fun k (h:fac k<4294967296^m) (hk:k<=3000) wz=>rlimbs_any (fac (k+1)) (2*m+2) wz (by have:=(fac_dl h hk).2.1;omega) (by omega) (fac_dl h hk).2.2)
 have WI:Hid (∀(h:fac N<4294967296^m) (hk:N<=3000) wz,Calls Tryz.prog 149 #[.agg #[.bool false,.string (str (dec (fac N))),.string (str (dec 1))],.int .i64 l] wz fun e w'=>NumTold4 wz w' e (wP (fac N:Nat) 1 l) (wQ (fac N:Nat) 1 l) (wE (fac N:Nat) 1 l)):=Lib.hid (fun h hk wz=>by
  have:=rwithin_any (fac N:Nat) 1 l wz (2*m+2) (by omega) (by rw[Int.natAbs_natCast];have:=(fac_dl h hk).1;omega) (by rw[dl_one];omega) (by rw[Int.natAbs_natCast];exact Nat.lt_of_le_of_lt (fac_mono (Nat.le_succ N)) (fac_dl h hk).2.2) (Nat.one_lt_pow (by omega) (by omega));rw[rB_nat0,rS_nat0]at this
  exact this)
 have HL:=Lib.hid (fun k (hk:k<=N) (h:l<lbs (fac k))=>wfac_long hk h)
 have HZ:Hid (∀w2,Below w.heap.size w w2->wP (fac N:Nat) 1 l=0/\wQ (fac N:Nat) 1 l=1/\wE (fac N:Nat) 1 l=26->NumTold4 w (((w2.setCell ⟨w.heap.size+1,0,none⟩ (.bool false)).setCell ⟨w.heap.size+1,1,none⟩ (.string ⟨#[48]⟩)).setCell ⟨w.heap.size+1,2,none⟩ (.string ⟨#[49]⟩)) (.returned (.tuple #[.agg #[.bool false,.string ⟨#[48]⟩,.string ⟨#[49]⟩],.int .i64 26])) (wP (fac N:Nat) 1 l) (wQ (fac N:Nat) 1 l) (wE (fac N:Nat) 1 l)):=Lib.hid (fun w2 hb h=>by
  rw[h.1,h.2.1,h.2.2]
  exact NumTold4.done (k:=w.heap.size+1) 0 1 26 hb (by omega) num_zero.1 num_zero.2.1 num_zero.2.2)
 have HY:Hid (∀w2,Below w.heap.size w w2->NumTold4 w (((w2.setCell ⟨w.heap.size+1,0,none⟩ (.bool (rB (wP (fac N:Nat) 1 l)))).setCell ⟨w.heap.size+1,1,none⟩ (.string (rS (wP (fac N:Nat) 1 l)))).setCell ⟨w.heap.size+1,2,none⟩ (.string (str (dec (wQ (fac N:Nat) 1 l))))) (.returned (.tuple #[.agg #[.bool (rB (wP (fac N:Nat) 1 l)),.string (rS (wP (fac N:Nat) 1 l)),.string (str (dec (wQ (fac N:Nat) 1 l)))],.int .i64 (wE (fac N:Nat) 1 l)])) (wP (fac N:Nat) 1 l) (wQ (fac N:Nat) 1 l) (wE (fac N:Nat) 1 l)):=Lib.hid (fun w2 hb=>NumTold4.done (k:=w.heap.size+1) _ _ _ hb (by omega) rfl rfl rfl);have HD:=Lib.hid (fun a=>dec_same a N);have D0:Hid (str (dec 0)=⟨#[48]⟩/\str (dec 1)=⟨#[49]⟩/\str (dec (fac 0))=⟨#[49]⟩):=Lib.hid ⟨dec0,dec1,dec1⟩;unfold NumTold4 at WI;have ZE:=zen;generalize wP (fac N:Nat) 1 l=WP at *;generalize wQ (fac N:Nat) 1 l=WQ at *;generalize wE (fac N:Nat) 1 l=WE at *;generalize rB WP=wb at *;generalize rS WP=ws at *;generalize str (dec WQ)=wq at *;obtain⟨D,hD⟩:∃z,(fun k:Nat=>str (dec k))=z:=⟨_,rfl⟩
 have eD:∀k,str (dec k)=D k:=fun k=>by rw[← hD]
 simp only[eD]at AD ML LB WI HD D0 ⊢;obtain⟨dz0,dz1,dz2⟩:=D0.out;have DZ:=Lib.hid (And.intro dz0 dz2);rw[dz1]at WI ⊢;have BB:=Lib.hid (((Bag.start w).box3 (.bool false) (.string (D N)) (.string ⟨#[49]⟩) 46).box3 (.bool false) (.string ⟨#[]⟩) (.string ⟨#[]⟩) 46);simp only[World.size_alloc]at BB;have⟨r0,r1,r2⟩:=BB.out.now.2.1.c3;have HM:=Lib.hid hm64;clear hD eD D0 dz0 dz1 dz2 hm64;go_enter Tryz.func154,Tryz.ntmps154;go_wp2_with fail;generalize hW:((w.alloc (.cells _ 46)).alloc (.cells _ 46))=y0 at *;clear hW;obtain⟨M9,hM9⟩:∃z:Nat,3000<=z:=⟨3000,Nat.le_refl _⟩
 have HM9:=Lib.hid hM9;clear hM9
 go_loopw [6,7,8] (fun s i kk wr=>∃k:Nat,k<=N/\k<=2050/\s=.string (D (fac k))/\i=.string (D k)/\kk=.int .i64 k/\Hid (k=0∨lbs (fac k)<=l)/\Hid (Below y0.heap.size y0 wr)) (fun _ _ kk _=>M9-(intOf kk).toNat)
 case atStart=>exact⟨0,by omega,by omega,by rw[DZ.out.2],by rw[DZ.out.1],rfl,.inl rfl,Below.refl _ _⟩
 case round =>
  obtain⟨k,hkN,hk2,rfl,rfl,rfl,hkl,hbr⟩:=hrel;have BB:=Lib.hid (BB.out.go hbr.out)
  have HK:Hid (∀h:(k=0∨lbs (fac k)<=l),fac k<4294967296^m):=Lib.hid (fun h=>lbs_le32.1 (by
   have hm64:=HM.out
   rcases h with h|h
   · rw[h]
     show lbs 1<=m
     rw[lbs_one]
     omega
   · omega))
  have hk3:k<=2049:=by
   rcases hkl.out with h|h
   · omega
   · have:=fac_lim (n:=k) (by omega)
     omega
  have hk5:(k:Int)<100000:=by omega
  have⟨r0,r1,r2⟩:=BB.out.now.2.1.c3;have HBR:=Lib.hid hbr.out;clear hbr
  by_cases hk:k=N
  · subst hk;have hd:((D k).toList==(D k).toList)=true:=beq_self_eq_true _;have WK:=Lib.hid (fun wz=>WI.out (HK.out hkl.out) (by omega) wz);clear hkl WI HK hkN;go_wp2_with fail;go_at_call 149;refine(WK.out _).mono ?_;rintro e w2 ⟨rfl,hb2⟩;have BB:=bgo BB hb2;clear hb2;have hs:=BB.out.now.1;have⟨u0,u1,u2,g0,g1,g2⟩:=hs.s6;have HS:=hs.set (.bool wb) (.string ws) (.string wq);have HE:=Lib.hid (HY.out _ BB.out.below);clear hs;go_wp2;exact bodyPost_ret (by simp[results,Tryz.results154,go_sem,HS]) rfl HE.out
  · have hd : ((D k).toList == (D N).toList) = false := by rw [HD.out k, decide_eq_false hk]
    have A1:=Lib.hid (fun wz=>AD.out k (by omega) wz);have M1:=Lib.hid (fun wz=>ML.out k (HK.out hkl.out) (by omega) wz);have L1:=Lib.hid (fun wz=>LB.out k (HK.out hkl.out) (by omega) wz);obtain⟨lk,hlk⟩:∃z,lbs (fac (k+1))=z:=⟨_,rfl⟩
    rw[hlk]at L1;clear hkl;go_wp2_with fail;go_at_call 197;refine(A1.out _).mono ?_;rintro e w2 ⟨rfl,hb2⟩;have BB:=bgo BB hb2;have HBR:=Lib.hid (HBR.out.trans (hb2.mono HBR.out.size));clear hb2;go_wp2_with fail;go_at_call 190;refine(M1.out _).mono ?_;rintro e w3 ⟨rfl,hb3⟩;have BB:=bgo BB hb3;have HBR:=Lib.hid (HBR.out.trans (hb3.mono HBR.out.size));clear hb3;go_wp2_with fail;go_at_call 139;refine(L1.out _).mono ?_;rintro e w4 ⟨rfl,hb4⟩;have BB:=bgo BB hb4;have HBR:=Lib.hid (HBR.out.trans (hb4.mono HBR.out.size));clear hb4 r0 r1 r2
    by_cases hlt:l<(lk:Int)
    · have HQ:=Lib.hid (HL.out (k+1) (by omega) (by rw[hlk];exact hlt));clear hlk;go_wp2_with fail;go_at_call 64;refine(ZE.out _).mono ?_;rintro e w6 ⟨rfl,hb6⟩;have BB:=bgo BB hb6;clear hb6;have hs:=BB.out.now.1;have⟨u0,u1,u2,g0,g1,g2⟩:=hs.s6;have HS:=hs.set (.bool false) (.string ⟨#[48]⟩) (.string ⟨#[49]⟩);have HE:=Lib.hid (HZ.out _ BB.out.below HQ.out);clear hs;go_wp2;exact bodyPost_ret (by simp[results,Tryz.results154,go_sem,HS]) rfl HE.out
    · have HQ:=Lib.hid (show lbs (fac (k+1))<=l by rw[hlk];omega);have HKB:=Lib.hid (show k+1<=N/\k<=2049 by omega);have hd9:decide (l<(lk:Int))=false:=decide_eq_false hlt;have hw:=IntWalk.wrap64_in ((k:Int)+1) (by omega);clear hlk hk hkN A1 M1 L1 WI HZ HY HL HD AD ML LB ZE HK hlt hd hk2 hk3 hk5 hl;go_wp2_with fail
      go_roundw
      case rel=>exact⟨k+1,HKB.out.1,by have:=HKB.out.2;omega,rfl,rfl,by go_num,.inr HQ.out,HBR.out⟩
      case measure =>
       have:=HKB.out.2;have:=HM9.out;rw[hw]
       simp[intOf]
       omega
set_option linter.unusedVariables false
set_option linter.unusedSimpArgs false
theorem dl61{N:Nat}(h:dl N<=61):N<65536^13:=Nat.lt_of_lt_of_le (dl_lt N) (Nat.le_trans (Nat.pow_le_pow_right (by omega) h) (by decide))
theorem within61 (P : Int) (Q : Nat) (l : Int) (w : World) (h1 : dl P.natAbs <= 61) (h2 : dl Q <= 61) :
    Calls Tryz.prog 149 #[.agg #[.bool (rB P),.string (rS P),.string (str (dec Q))],.int .i64 l] w fun e w'=>NumTold4 w w' e (wP P Q l) (wQ P Q l) (wE P Q l) :=
 rwithin_any P Q l w 13 (by omega) (by omega) (by omega) (dl61 h1) (dl61 h2)
theorem Slot3.setA{w:World}{k:Nat}{x y z:Value}(h:Slot3 w k x y z)(t:Value):Slot3 (w.setCell ⟨k,0,none⟩ t) k t y z:=by
 refine⟨World.cell?_setCell_same _ _ _ h.cell,?_,?_,by simp[h.free],by simp[h.free1],by simp[h.free2],by simpa using h.lt⟩
 · rw[World.cell?_setCell_other _ _ _ _ (fun e=>by cases e)];exact h.cell1
 · rw[World.cell?_setCell_other _ _ _ _ (fun e=>by cases e)];exact h.cell2
theorem rone_plus (P : Int) (Q : Nat) (l : Int) (w : World) (hQ : 0 < Q) (h1 : dl P.natAbs <= 60) (h2 : dl Q <= 60) :
    Calls Tryz.prog 84 #[.int .i32 43,.agg #[.bool (rB P),.string (rS P),.string (str (dec Q))],.int .i64 l] w fun e w'=>NumTold4 w w' e (wP P Q l) (wQ P Q l) (wE P Q l):=by
 have RH:=Lib.hid (fun wz=>rhas12_any 43 wz);rw[show hasO 43=true from rfl]at RH;have WI:=Lib.hid (fun wz=>within61 P Q l wz (by omega) (by omega));have HF:=Lib.hid (fun w2 (hb:Below w.heap.size w w2)=>NumTold4.done (k:=w.heap.size+1) (wP P Q l) (wQ P Q l) (wE P Q l) hb (by omega) rfl rfl rfl);unfold NumTold4 at WI;generalize wP P Q l=WP at *;generalize wQ P Q l=WQ at *;generalize wE P Q l=WE at *;generalize rB WP=wb at *;generalize rS WP=ws at *;generalize str (dec WQ)=wq at *;generalize rB P=b at *;generalize rS P=s at *;generalize str (dec Q)=q at *;have BB:=Lib.hid (((Bag.start w).box3 (.bool b) (.string s) (.string q) 46).box3 (.bool false) (.string ⟨#[]⟩) (.string ⟨#[]⟩) 46);simp only[World.size_alloc]at BB;have⟨r0,r1,r2⟩:=BB.out.now.2.1.c3;clear hQ h1 h2;go_enter Tryz.func84,Tryz.ntmps84;go_wp2_with fail;go_at_call 83;refine(RH.out _).mono ?_;rintro e w1 ⟨rfl,hb1⟩;have BB:=bgo BB hb1;clear hb1;have⟨r0,r1,r2⟩:=BB.out.now.2.1.c3;go_wp2_with fail;go_at_call 149;refine(WI.out _).mono ?_;rintro e w2 ⟨rfl,hb2⟩;have BB:=bgo BB hb2;clear hb2;have hs:=BB.out.now.1;have⟨u0,u1,u2,g0,g1,g2⟩:=hs.s6;have HS:=hs.set (.bool wb) (.string ws) (.string wq);have HE:=Lib.hid (HF.out _ BB.out.below);clear hs;go_wp2;exact bodyPost_ret (by simp[results,Tryz.results84,go_sem,HS]) rfl HE.out
theorem rone_minus (P : Int) (Q : Nat) (l : Int) (w : World) (hQ : 0 < Q) (h1 : dl P.natAbs <= 60) (h2 : dl Q <= 60) :
    Calls Tryz.prog 84 #[.int .i32 45,.agg #[.bool (rB P),.string (rS P),.string (str (dec Q))],.int .i64 l] w fun e w'=>NumTold4 w w' e (wP (-P) Q l) (wQ (-P) Q l) (wE (-P) Q l):=by
 have RH:=Lib.hid (fun wz=>rhas12_any 45 wz);rw[show hasO 45=true from rfl]at RH;have WI:=Lib.hid (fun wz=>within61 (-P) Q l wz (by rw[Int.natAbs_neg];omega) (by omega));have MN:=Lib.hid (fun wz=>r3Minus_any P Q wz);unfold NumTold at MN;have HF:=Lib.hid (fun w2 (hb:Below w.heap.size w w2)=>NumTold4.done (k:=w.heap.size+1) (wP (-P) Q l) (wQ (-P) Q l) (wE (-P) Q l) hb (by omega) rfl rfl rfl);unfold NumTold4 at WI;generalize wP (-P) Q l=WP at *;generalize wQ (-P) Q l=WQ at *;generalize wE (-P) Q l=WE at *;generalize rB WP=wb at *;generalize rS WP=ws at *;generalize str (dec WQ)=wq at *;generalize rB (-P)=b5 at *;generalize rS (-P)=s5 at *;generalize rB P=b at *;generalize rS P=s at *;generalize str (dec Q)=q at *;have BB:=Lib.hid (((Bag.start w).box3 (.bool b) (.string s) (.string q) 46).box3 (.bool false) (.string ⟨#[]⟩) (.string ⟨#[]⟩) 46);simp only[World.size_alloc]at BB;have⟨r0,r1,r2⟩:=BB.out.now.2.1.c3;clear hQ h1 h2;go_enter Tryz.func84,Tryz.ntmps84;go_wp2_with fail;go_at_call 83;refine(RH.out _).mono ?_;rintro e w1 ⟨rfl,hb1⟩;have BB:=bgo BB hb1;clear hb1;have⟨r0,r1,r2⟩:=BB.out.now.2.1.c3;go_wp2_with fail;go_at_call 133;refine(MN.out _).mono ?_;rintro e w2 ⟨rfl,hb2⟩;have BB:=bgo BB hb2;clear hb2;go_wp2_with fail;go_at_call 149;refine(WI.out _).mono ?_;rintro e w3 ⟨rfl,hb3⟩;have BB:=bgo BB hb3;clear hb3;have hs:=BB.out.now.1;have⟨u0,u1,u2,g0,g1,g2⟩:=hs.s6;have HS:=hs.set (.bool wb) (.string ws) (.string wq);have HE:=Lib.hid (HF.out _ BB.out.below);clear hs;go_wp2;exact bodyPost_ret (by simp[results,Tryz.results84,go_sem,HS]) rfl HE.out
theorem rone_sign (P : Int) (Q : Nat) (l : Int) (w : World) (hQ : 0 < Q) (h1 : dl P.natAbs <= 60) (h2 : dl Q <= 60) :
    Calls Tryz.prog 84 #[.int .i32 215,.agg #[.bool (rB P),.string (rS P),.string (str (dec Q))],.int .i64 l] w fun e w'=>NumTold4 w w' e (wP (sgnI P) 1 l) (wQ (sgnI P) 1 l) (wE (sgnI P) 1 l):=by
 have RH:=Lib.hid (fun wz=>rhas12_any 215 wz);rw[show hasO 215=true from rfl]at RH;have hsg : -1<=sgnI P/\sgnI P<=1:=by unfold sgnI;split<;>(try split)<;>omega
 have hd:dl (sgnI P).natAbs<=61:=Nat.le_trans (dl_le _ 1 (by omega) (by omega)) (by omega);have WI:=Lib.hid (fun wz=>within61 (sgnI P) 1 l wz hd (by rw[dl_one];omega));have TA:Hid (∀wz,Calls Tryz.prog 129 #[.agg #[.bool (rB P),.string (rS P),.string (str (dec Q))]] wz fun e w'=>RTold wz w' e P):=fun wz=>r3Top_any P _ wz (by omega)
 have SG:=Lib.hid (fun wz=>rSign_any P wz);have FR:=Lib.hid (fun wz=>r3From_any (sgnI P) wz (by omega));unfold NumTold at FR;unfold RTold at TA;clear hd hsg;have HF:=Lib.hid (fun w2 (hb:Below w.heap.size w w2)=>NumTold4.done (k:=w.heap.size+1) (wP (sgnI P) 1 l) (wQ (sgnI P) 1 l) (wE (sgnI P) 1 l) hb (by omega) rfl rfl rfl);unfold NumTold4 at WI;generalize wP (sgnI P) 1 l=WP at *;generalize wQ (sgnI P) 1 l=WQ at *;generalize wE (sgnI P) 1 l=WE at *;generalize rB WP=wb at *;generalize rS WP=ws at *;generalize str (dec WQ)=wq at *;generalize sgnI P=sg at *;generalize rB sg=b5 at *;generalize rS sg=s5 at *;generalize str (dec 1)=q5 at *;generalize rB P=b at *;generalize rS P=s at *;generalize str (dec Q)=q at *;have BB:=Lib.hid (((Bag.start w).box3 (.bool b) (.string s) (.string q) 46).box3 (.bool false) (.string ⟨#[]⟩) (.string ⟨#[]⟩) 46);simp only[World.size_alloc]at BB;have⟨r0,r1,r2⟩:=BB.out.now.2.1.c3;clear hQ h1 h2;go_enter Tryz.func84,Tryz.ntmps84;go_wp2_with fail;go_at_call 83;refine(RH.out _).mono ?_;rintro e w1 ⟨rfl,hb1⟩;have BB:=bgo BB hb1;clear hb1;have⟨r0,r1,r2⟩:=BB.out.now.2.1.c3;go_wp2_with fail;go_at_call 129;refine(TA.out _).mono ?_;rintro e w2 ⟨rfl,hb2⟩;have BB:=bgo BB hb2;clear hb2;go_wp2_with fail;go_at_call 150;refine(SG.out _).mono ?_;rintro e w3 ⟨rfl,hb3⟩;have BB:=bgo BB hb3;clear hb3;go_wp2_with fail;go_at_call 57;refine(FR.out _).mono ?_;rintro e w4 ⟨rfl,hb4⟩;have BB:=bgo BB hb4;clear hb4;go_wp2_with fail;go_at_call 149;refine(WI.out _).mono ?_;rintro e w5 ⟨rfl,hb5⟩;have BB:=bgo BB hb5;clear hb5;have hs:=BB.out.now.1;have⟨u0,u1,u2,g0,g1,g2⟩:=hs.s6;have HS:=hs.set (.bool wb) (.string ws) (.string wq);have HE:=Lib.hid (HF.out _ BB.out.below);clear hs;go_wp2;exact bodyPost_ret (by simp[results,Tryz.results84,go_sem,HS]) rfl HE.out
theorem rone_ceil (P : Int) (Q : Nat) (l : Int) (w : World) (hQ : 0 < Q) (h1 : dl P.natAbs <= 60) (h2 : dl Q <= 60) :
    Calls Tryz.prog 84 #[.int .i32 8968,.agg #[.bool (rB P),.string (rS P),.string (str (dec Q))],.int .i64 l] w fun e w'=>NumTold4 w w' e (wP (-(flQ (-P) Q)) 1 l) (wQ (-(flQ (-P) Q)) 1 l) (wE (-(flQ (-P) Q)) 1 l):=by
 have RH:=Lib.hid (fun wz=>rhas12_any 8968 wz);rw[show hasO 8968=true from rfl]at RH
 have hz:dl (-(flQ (-P) Q)).natAbs<=61:=by
  have:=flQ_abs (-P) (Q:Int);rw[Int.natAbs_neg]at this;rw[Int.natAbs_neg];exact Nat.le_trans (dl_mono this) (dl_add_le (k:=60) h1 (Nat.le_trans (dl_le 1 1 (by omega) (by decide)) (by omega)))
 have WI:=Lib.hid (fun wz=>within61 (-(flQ (-P) Q)) 1 l wz hz (by rw[dl_one];omega));have CE:=Lib.hid (fun wz=>r3Ceil_any P Q wz hQ (by omega) (by omega));have WH:=Lib.hid (fun wz=>r3Whole_any (-(flQ (-P) Q)) wz);unfold NumTold at WH;unfold RTold at CE;clear hz;have HF:=Lib.hid (fun w2 (hb:Below w.heap.size w w2)=>NumTold4.done (k:=w.heap.size+1) (wP (-(flQ (-P) Q)) 1 l) (wQ (-(flQ (-P) Q)) 1 l) (wE (-(flQ (-P) Q)) 1 l) hb (by omega) rfl rfl rfl);unfold NumTold4 at WI;generalize wP (-(flQ (-P) Q)) 1 l=WP at *;generalize wQ (-(flQ (-P) Q)) 1 l=WQ at *;generalize wE (-(flQ (-P) Q)) 1 l=WE at *;generalize rB WP=wb at *;generalize rS WP=ws at *;generalize str (dec WQ)=wq at *;generalize (-(flQ (-P) Q))=Z at *;generalize rB Z=b5 at *;generalize rS Z=s5 at *;generalize str (dec 1)=q5 at *;generalize rB P=b at *;generalize rS P=s at *;generalize str (dec Q)=q at *;have BB:=Lib.hid (((Bag.start w).box3 (.bool b) (.string s) (.string q) 46).box3 (.bool false) (.string ⟨#[]⟩) (.string ⟨#[]⟩) 46);simp only[World.size_alloc]at BB;have⟨r0,r1,r2⟩:=BB.out.now.2.1.c3;clear hQ h1 h2;go_enter Tryz.func84,Tryz.ntmps84;go_wp2_with fail;go_at_call 83;refine(RH.out _).mono ?_;rintro e w1 ⟨rfl,hb1⟩;have BB:=bgo BB hb1;clear hb1;have⟨r0,r1,r2⟩:=BB.out.now.2.1.c3;go_wp2_with fail;go_at_call 152;refine(CE.out _).mono ?_;rintro e w2 ⟨rfl,hb2⟩;have BB:=bgo BB hb2;clear hb2;go_wp2_with fail;go_at_call 151;refine(WH.out _).mono ?_;rintro e w3 ⟨rfl,hb3⟩;have BB:=bgo BB hb3;clear hb3;go_wp2_with fail;go_at_call 149;refine(WI.out _).mono ?_;rintro e w4 ⟨rfl,hb4⟩;have BB:=bgo BB hb4;clear hb4;have hs:=BB.out.now.1;have⟨u0,u1,u2,g0,g1,g2⟩:=hs.s6;have HS:=hs.set (.bool wb) (.string ws) (.string wq);have HE:=Lib.hid (HF.out _ BB.out.below);clear hs;go_wp2;exact bodyPost_ret (by simp[results,Tryz.results84,go_sem,HS]) rfl HE.out
theorem rone_floor (P : Int) (Q : Nat) (l : Int) (w : World) (hQ : 0 < Q) (h1 : dl P.natAbs <= 60) (h2 : dl Q <= 60) :
    Calls Tryz.prog 84 #[.int .i32 8970,.agg #[.bool (rB P),.string (rS P),.string (str (dec Q))],.int .i64 l] w fun e w'=>NumTold4 w w' e (wP (flQ P Q) 1 l) (wQ (flQ P Q) 1 l) (wE (flQ P Q) 1 l):=by
 have RH:=Lib.hid (fun wz=>rhas12_any 8970 wz);rw[show hasO 8970=true from rfl]at RH
 have hz:dl (flQ P Q).natAbs<=61:=by
  have:=flQ_abs P (Q:Int);exact Nat.le_trans (dl_mono this) (dl_add_le (k:=60) h1 (Nat.le_trans (dl_le 1 1 (by omega) (by decide)) (by omega)))
 have WI:=Lib.hid (fun wz=>within61 (flQ P Q) 1 l wz hz (by rw[dl_one];omega));have CE:=Lib.hid (fun wz=>r3Floor_any P Q wz hQ (by omega) (by omega));have WH:=Lib.hid (fun wz=>r3Whole_any (flQ P Q) wz);unfold NumTold at WH;unfold RTold at CE;clear hz;have HF:=Lib.hid (fun w2 (hb:Below w.heap.size w w2)=>NumTold4.done (k:=w.heap.size+1) (wP (flQ P Q) 1 l) (wQ (flQ P Q) 1 l) (wE (flQ P Q) 1 l) hb (by omega) rfl rfl rfl);unfold NumTold4 at WI;generalize wP (flQ P Q) 1 l=WP at *;generalize wQ (flQ P Q) 1 l=WQ at *;generalize wE (flQ P Q) 1 l=WE at *;generalize rB WP=wb at *;generalize rS WP=ws at *;generalize str (dec WQ)=wq at *;generalize (flQ P Q)=Z at *;generalize rB Z=b5 at *;generalize rS Z=s5 at *;generalize str (dec 1)=q5 at *;generalize rB P=b at *;generalize rS P=s at *;generalize str (dec Q)=q at *;have BB:=Lib.hid (((Bag.start w).box3 (.bool b) (.string s) (.string q) 46).box3 (.bool false) (.string ⟨#[]⟩) (.string ⟨#[]⟩) 46);simp only[World.size_alloc]at BB;have⟨r0,r1,r2⟩:=BB.out.now.2.1.c3;clear hQ h1 h2;go_enter Tryz.func84,Tryz.ntmps84;go_wp2_with fail;go_at_call 83;refine(RH.out _).mono ?_;rintro e w1 ⟨rfl,hb1⟩;have BB:=bgo BB hb1;clear hb1;have⟨r0,r1,r2⟩:=BB.out.now.2.1.c3;go_wp2_with fail;go_at_call 153;refine(CE.out _).mono ?_;rintro e w2 ⟨rfl,hb2⟩;have BB:=bgo BB hb2;clear hb2;go_wp2_with fail;go_at_call 151;refine(WH.out _).mono ?_;rintro e w3 ⟨rfl,hb3⟩;have BB:=bgo BB hb3;clear hb3;go_wp2_with fail;go_at_call 149;refine(WI.out _).mono ?_;rintro e w4 ⟨rfl,hb4⟩;have BB:=bgo BB hb4;clear hb4;have hs:=BB.out.now.1;have⟨u0,u1,u2,g0,g1,g2⟩:=hs.s6;have HS:=hs.set (.bool wb) (.string ws) (.string wq);have HE:=Lib.hid (HF.out _ BB.out.below);clear hs;go_wp2;exact bodyPost_ret (by simp[results,Tryz.results84,go_sem,HS]) rfl HE.out
theorem rone_size (P : Int) (Q : Nat) (l : Int) (w : World) (hQ : 0 < Q) (h1 : dl P.natAbs <= 60) (h2 : dl Q <= 60) :
    Calls Tryz.prog 84 #[.int .i32 124,.agg #[.bool (rB P),.string (rS P),.string (str (dec Q))],.int .i64 l] w fun e w'=>NumTold4 w w' e (wP (P.natAbs:Nat) Q l) (wQ (P.natAbs:Nat) Q l) (wE (P.natAbs:Nat) Q l):=by
 have RH:=Lib.hid (fun wz=>rhas12_any 124 wz);rw[show hasO 124=true from rfl]at RH
 have WI:Hid (∀wz,Calls Tryz.prog 149 #[.agg #[.bool false,.string (rS P),.string (str (dec Q))],.int .i64 l] wz fun e w'=>NumTold4 wz w' e (wP (P.natAbs:Nat) Q l) (wQ (P.natAbs:Nat) Q l) (wE (P.natAbs:Nat) Q l)):=Lib.hid (fun wz=>by
  have:=within61 (P.natAbs:Nat) Q l wz (by rw[Int.natAbs_natCast];omega) (by omega);rw[rB_nat0,rS_nat0]at this
  exact this)
 have HF:=Lib.hid (fun w2 (hb:Below w.heap.size w w2)=>NumTold4.done (k:=w.heap.size+1) (wP (P.natAbs:Nat) Q l) (wQ (P.natAbs:Nat) Q l) (wE (P.natAbs:Nat) Q l) hb (by omega) rfl rfl rfl);unfold NumTold4 at WI;generalize wP (P.natAbs:Nat) Q l=WP at *;generalize wQ (P.natAbs:Nat) Q l=WQ at *;generalize wE (P.natAbs:Nat) Q l=WE at *;generalize rB WP=wb at *;generalize rS WP=ws at *;generalize str (dec WQ)=wq at *;generalize rB P=b at *;generalize rS P=s at *;generalize str (dec Q)=q at *;have BB:=Lib.hid (((Bag.start w).box3 (.bool b) (.string s) (.string q) 46).box3 (.bool false) (.string ⟨#[]⟩) (.string ⟨#[]⟩) 46);simp only[World.size_alloc]at BB;have⟨r0,r1,r2⟩:=BB.out.now.2.1.c3;clear hQ h1 h2;go_enter Tryz.func84,Tryz.ntmps84;go_wp2_with fail;go_at_call 83;refine(RH.out _).mono ?_;rintro e w1 ⟨rfl,hb1⟩;have BB:=bgo BB hb1;clear hb1;have⟨r0,r1,r2⟩:=BB.out.now.2.1.c3;have hx:=BB.out.now.2.1;have hf:=hx.free;have BB:=Lib.hid (Bag.slot3 (Bag.slot3 (Bag.go (Bag.start w) (BB.out.below.setCell (p:=⟨w.heap.size,0,none⟩) (Nat.le_refl _) (.bool false))) (hx.setA (.bool false))) (BB.out.now.1.set1o (k:=w.heap.size) (o:=0) (by omega) (.bool false)));clear hx;have⟨x0,x1,x2⟩:=BB.out.now.2.1.c3;go_wp2_with fail;go_at_call 149;refine(WI.out _).mono ?_;rintro e w2 ⟨rfl,hb2⟩;have BB:=bgo BB hb2;clear hb2;have hs:=BB.out.now.1;have⟨u0,u1,u2,g0,g1,g2⟩:=hs.s6;have HS:=hs.set (.bool wb) (.string ws) (.string wq);have HE:=Lib.hid (HF.out _ BB.out.below);clear hs;go_wp2;exact bodyPost_ret (by simp[results,Tryz.results84,go_sem,HS]) rfl HE.out
theorem rone_rec (P : Int) (Q : Nat) (l : Int) (w : World) (hQ : 0 < Q) (h1 : dl P.natAbs <= 60) (h2 : dl Q <= 60) (hP : P ≠ 0) :
    Calls Tryz.prog 84 #[.int .i32 247,.agg #[.bool (rB P),.string (rS P),.string (str (dec Q))],.int .i64 l] w fun e w'=>NumTold4 w w' e (wP (upZ Q P) P.natAbs l) (wQ (upZ Q P) P.natAbs l) (wE (upZ Q P) P.natAbs l):=by
 have RH:=Lib.hid (fun wz=>rhas12_any 247 wz);rw[show hasO 247=true from rfl]at RH;have d0:=dec_is0' P.natAbs;rw[decide_eq_false (show ¬P.natAbs=0 by omega)]at d0;have d0:((rS P).toList == [48])=false:=d0
 have WI:Hid (∀wz,Calls Tryz.prog 149 #[.agg #[.bool (rB P),.string (str (dec Q)),.string (rS P)],.int .i64 l] wz fun e w'=>NumTold4 wz w' e (wP (upZ Q P) P.natAbs l) (wQ (upZ Q P) P.natAbs l) (wE (upZ Q P) P.natAbs l)):=Lib.hid (fun wz=>by
  have:=within61 (upZ Q P) P.natAbs l wz (by rw[upZ_abs,Int.natAbs_natCast];omega) (by omega);rw[show rB (upZ Q P)=rB P by unfold rB upZ;split<;>simp<;>omega,show rS (upZ Q P)=str (dec Q)by unfold rS;rw[upZ_abs,Int.natAbs_natCast]]at this
  exact this)
 clear hP;have HF:=Lib.hid (fun w2 (hb:Below w.heap.size w w2)=>NumTold4.done (k:=w.heap.size+1) (wP (upZ Q P) P.natAbs l) (wQ (upZ Q P) P.natAbs l) (wE (upZ Q P) P.natAbs l) hb (by omega) rfl rfl rfl);unfold NumTold4 at WI;generalize wP (upZ Q P) P.natAbs l=WP at *;generalize wQ (upZ Q P) P.natAbs l=WQ at *;generalize wE (upZ Q P) P.natAbs l=WE at *;generalize rB WP=wb at *;generalize rS WP=ws at *;generalize str (dec WQ)=wq at *;generalize rB P=b at *;generalize rS P=s at *;generalize str (dec Q)=q at *;have BB:=Lib.hid (((Bag.start w).box3 (.bool b) (.string s) (.string q) 46).box3 (.bool false) (.string ⟨#[]⟩) (.string ⟨#[]⟩) 46);simp only[World.size_alloc]at BB;have⟨r0,r1,r2⟩:=BB.out.now.2.1.c3;clear hQ h1 h2;go_enter Tryz.func84,Tryz.ntmps84;go_wp2_with fail;go_at_call 83;refine(RH.out _).mono ?_;rintro e w1 ⟨rfl,hb1⟩;have BB:=bgo BB hb1;clear hb1;have⟨r0,r1,r2⟩:=BB.out.now.2.1.c3;go_wp2_with fail;go_at_call 149;refine(WI.out _).mono ?_;rintro e w2 ⟨rfl,hb2⟩;have BB:=bgo BB hb2;clear hb2;have hs:=BB.out.now.1;have⟨u0,u1,u2,g0,g1,g2⟩:=hs.s6;have HS:=hs.set (.bool wb) (.string ws) (.string wq);have HE:=Lib.hid (HF.out _ BB.out.below);clear hs;go_wp2;exact bodyPost_ret (by simp[results,Tryz.results84,go_sem,HS]) rfl HE.out
theorem rone_fac (P : Int) (Q : Nat) (l : Int) (w : World) (hQ : 0 < Q) (h1 : dl P.natAbs <= 60) (h2 : dl Q <= 60) (hP : 0 <= P) (hQ1 : Q = 1) (hl : l <= 64) :
    Calls Tryz.prog 84 #[.int .i32 33,.agg #[.bool (rB P),.string (rS P),.string (str (dec Q))],.int .i64 l] w fun e w'=>NumTold4 w w' e (wP (fac P.toNat:Nat) 1 l) (wQ (fac P.toNat:Nat) 1 l) (wE (fac P.toNat:Nat) 1 l):=by
 have RH:=Lib.hid (fun wz=>rhas12_any 33 wz);rw[show hasO 33=true from rfl]at RH;subst hQ1;have d0:=dec_is1 1;rw[decide_eq_true rfl]at d0;have eb:rB P=false:=by unfold rB;exact decide_eq_false (by omega)
 have WI:Hid (∀wz,Calls Tryz.prog 154 #[.agg #[.bool false,.string (rS P),.string (str (dec 1))],.int .i64 l] wz fun e w'=>NumTold4 wz w' e (wP (fac P.toNat:Nat) 1 l) (wQ (fac P.toNat:Nat) 1 l) (wE (fac P.toNat:Nat) 1 l)):=Lib.hid (fun wz=>by
  have:=rfac_any P.toNat l wz hl;rw[show str (dec P.toNat)=rS P by unfold rS;rw[show P.natAbs=P.toNat by omega]]at this
  exact this)
 rw[eb];clear hP hl eb;have HF:=Lib.hid (fun w2 (hb:Below w.heap.size w w2)=>NumTold4.done (k:=w.heap.size+1) (wP (fac P.toNat:Nat) 1 l) (wQ (fac P.toNat:Nat) 1 l) (wE (fac P.toNat:Nat) 1 l) hb (by omega) rfl rfl rfl);unfold NumTold4 at WI;generalize wP (fac P.toNat:Nat) 1 l=WP at *;generalize wQ (fac P.toNat:Nat) 1 l=WQ at *;generalize wE (fac P.toNat:Nat) 1 l=WE at *;generalize rB WP=wb at *;generalize rS WP=ws at *;generalize str (dec WQ)=wq at *;generalize rS P=s at *;generalize str (dec 1)=q at *;have BB:=Lib.hid (((Bag.start w).box3 (.bool false) (.string s) (.string q) 46).box3 (.bool false) (.string ⟨#[]⟩) (.string ⟨#[]⟩) 46);simp only[World.size_alloc]at BB;have⟨r0,r1,r2⟩:=BB.out.now.2.1.c3;clear hQ h1 h2;go_enter Tryz.func84,Tryz.ntmps84;go_wp2_with fail;go_at_call 83;refine(RH.out _).mono ?_;rintro e w1 ⟨rfl,hb1⟩;have BB:=bgo BB hb1;clear hb1;have⟨r0,r1,r2⟩:=BB.out.now.2.1.c3;go_wp2_with fail;go_at_call 154;refine(WI.out _).mono ?_;rintro e w2 ⟨rfl,hb2⟩;have BB:=bgo BB hb2;clear hb2;have hs:=BB.out.now.1;have⟨u0,u1,u2,g0,g1,g2⟩:=hs.s6;have HS:=hs.set (.bool wb) (.string ws) (.string wq);have HE:=Lib.hid (HF.out _ BB.out.below);clear hs;go_wp2;exact bodyPost_ret (by simp[results,Tryz.results84,go_sem,HS]) rfl HE.out
theorem rone_star (P : Int) (Q : Nat) (l : Int) (w : World) (hQ : 0 < Q) (h1 : dl P.natAbs <= 60) (h2 : dl Q <= 60) :
    Calls Tryz.prog 84 #[.int .i32 42,.agg #[.bool (rB P),.string (rS P),.string (str (dec Q))],.int .i64 l] w fun e w'=>NumTold4 w w' e 0 1 22:=by
 have RH:=Lib.hid (fun wz=>rhas12_any 42 wz);rw[show hasO 42=true from rfl]at RH;have HF:Hid (∀w2,Below w.heap.size w w2->NumTold4 w (((w2.setCell ⟨w.heap.size+1,0,none⟩ (.bool false)).setCell ⟨w.heap.size+1,1,none⟩ (.string ⟨#[48]⟩)).setCell ⟨w.heap.size+1,2,none⟩ (.string ⟨#[49]⟩)) (.returned (.tuple #[.agg #[.bool false,.string ⟨#[48]⟩,.string ⟨#[49]⟩],.int .i64 22])) 0 1 22):=Lib.hid (fun w2 hb=>NumTold4.done (k:=w.heap.size+1) 0 1 22 hb (by omega) num_zero.1 num_zero.2.1 num_zero.2.2);have ZE:=zen;generalize rB P=b at *;generalize rS P=s at *;generalize str (dec Q)=q at *;have BB:=Lib.hid (((Bag.start w).box3 (.bool b) (.string s) (.string q) 46).box3 (.bool false) (.string ⟨#[]⟩) (.string ⟨#[]⟩) 46);simp only[World.size_alloc]at BB;have⟨r0,r1,r2⟩:=BB.out.now.2.1.c3;clear hQ h1 h2;go_enter Tryz.func84,Tryz.ntmps84;go_wp2_with fail;go_at_call 83;refine(RH.out _).mono ?_;rintro e w1 ⟨rfl,hb1⟩;have BB:=bgo BB hb1;clear hb1;have⟨r0,r1,r2⟩:=BB.out.now.2.1.c3;go_wp2_with fail;go_at_call 64;refine(ZE.out _).mono ?_;rintro e w5 ⟨rfl,hb5⟩;have BB:=bgo BB hb5;clear hb5;have hs:=BB.out.now.1;have⟨u0,u1,u2,g0,g1,g2⟩:=hs.s6;have HS:=hs.set (.bool false) (.string ⟨#[48]⟩) (.string ⟨#[49]⟩);have HE:=Lib.hid (HF.out _ BB.out.below);clear hs;go_wp2;exact bodyPost_ret (by simp[results,Tryz.results84,go_sem,HS]) rfl HE.out
theorem rone_log (P : Int) (Q : Nat) (l : Int) (w : World) (hQ : 0 < Q) (h1 : dl P.natAbs <= 60) (h2 : dl Q <= 60) :
    Calls Tryz.prog 84 #[.int .i32 9055,.agg #[.bool (rB P),.string (rS P),.string (str (dec Q))],.int .i64 l] w fun e w'=>NumTold4 w w' e 0 1 22:=by
 have RH:=Lib.hid (fun wz=>rhas12_any 9055 wz);rw[show hasO 9055=true from rfl]at RH;have HF:Hid (∀w2,Below w.heap.size w w2->NumTold4 w (((w2.setCell ⟨w.heap.size+1,0,none⟩ (.bool false)).setCell ⟨w.heap.size+1,1,none⟩ (.string ⟨#[48]⟩)).setCell ⟨w.heap.size+1,2,none⟩ (.string ⟨#[49]⟩)) (.returned (.tuple #[.agg #[.bool false,.string ⟨#[48]⟩,.string ⟨#[49]⟩],.int .i64 22])) 0 1 22):=Lib.hid (fun w2 hb=>NumTold4.done (k:=w.heap.size+1) 0 1 22 hb (by omega) num_zero.1 num_zero.2.1 num_zero.2.2);have ZE:=zen;generalize rB P=b at *;generalize rS P=s at *;generalize str (dec Q)=q at *;have BB:=Lib.hid (((Bag.start w).box3 (.bool b) (.string s) (.string q) 46).box3 (.bool false) (.string ⟨#[]⟩) (.string ⟨#[]⟩) 46);simp only[World.size_alloc]at BB;have⟨r0,r1,r2⟩:=BB.out.now.2.1.c3;clear hQ h1 h2;go_enter Tryz.func84,Tryz.ntmps84;go_wp2_with fail;go_at_call 83;refine(RH.out _).mono ?_;rintro e w1 ⟨rfl,hb1⟩;have BB:=bgo BB hb1;clear hb1;have⟨r0,r1,r2⟩:=BB.out.now.2.1.c3;go_wp2_with fail;go_at_call 64;refine(ZE.out _).mono ?_;rintro e w5 ⟨rfl,hb5⟩;have BB:=bgo BB hb5;clear hb5;have hs:=BB.out.now.1;have⟨u0,u1,u2,g0,g1,g2⟩:=hs.s6;have HS:=hs.set (.bool false) (.string ⟨#[48]⟩) (.string ⟨#[49]⟩);have HE:=Lib.hid (HF.out _ BB.out.below);clear hs;go_wp2;exact bodyPost_ret (by simp[results,Tryz.results84,go_sem,HS]) rfl HE.out
theorem rone_circle (P : Int) (Q : Nat) (l : Int) (w : World) (hQ : 0 < Q) (h1 : dl P.natAbs <= 60) (h2 : dl Q <= 60) :
    Calls Tryz.prog 84 #[.int .i32 9675,.agg #[.bool (rB P),.string (rS P),.string (str (dec Q))],.int .i64 l] w fun e w'=>NumTold4 w w' e 0 1 22:=by
 have RH:=Lib.hid (fun wz=>rhas12_any 9675 wz);rw[show hasO 9675=true from rfl]at RH;have HF:Hid (∀w2,Below w.heap.size w w2->NumTold4 w (((w2.setCell ⟨w.heap.size+1,0,none⟩ (.bool false)).setCell ⟨w.heap.size+1,1,none⟩ (.string ⟨#[48]⟩)).setCell ⟨w.heap.size+1,2,none⟩ (.string ⟨#[49]⟩)) (.returned (.tuple #[.agg #[.bool false,.string ⟨#[48]⟩,.string ⟨#[49]⟩],.int .i64 22])) 0 1 22):=Lib.hid (fun w2 hb=>NumTold4.done (k:=w.heap.size+1) 0 1 22 hb (by omega) num_zero.1 num_zero.2.1 num_zero.2.2);have ZE:=zen;generalize rB P=b at *;generalize rS P=s at *;generalize str (dec Q)=q at *;have BB:=Lib.hid (((Bag.start w).box3 (.bool b) (.string s) (.string q) 46).box3 (.bool false) (.string ⟨#[]⟩) (.string ⟨#[]⟩) 46);simp only[World.size_alloc]at BB;have⟨r0,r1,r2⟩:=BB.out.now.2.1.c3;clear hQ h1 h2;go_enter Tryz.func84,Tryz.ntmps84;go_wp2_with fail;go_at_call 83;refine(RH.out _).mono ?_;rintro e w1 ⟨rfl,hb1⟩;have BB:=bgo BB hb1;clear hb1;have⟨r0,r1,r2⟩:=BB.out.now.2.1.c3;go_wp2_with fail;go_at_call 64;refine(ZE.out _).mono ?_;rintro e w5 ⟨rfl,hb5⟩;have BB:=bgo BB hb5;clear hb5;have hs:=BB.out.now.1;have⟨u0,u1,u2,g0,g1,g2⟩:=hs.s6;have HS:=hs.set (.bool false) (.string ⟨#[48]⟩) (.string ⟨#[49]⟩);have HE:=Lib.hid (HF.out _ BB.out.below);clear hs;go_wp2;exact bodyPost_ret (by simp[results,Tryz.results84,go_sem,HS]) rfl HE.out
theorem rone_rec0 (P : Int) (Q : Nat) (l : Int) (w : World) (hQ : 0 < Q) (h1 : dl P.natAbs <= 60) (h2 : dl Q <= 60) (hP : P = 0) :
    Calls Tryz.prog 84 #[.int .i32 247,.agg #[.bool (rB P),.string (rS P),.string (str (dec Q))],.int .i64 l] w fun e w'=>NumTold4 w w' e 0 1 22:=by
 have RH:=Lib.hid (fun wz=>rhas12_any 247 wz);rw[show hasO 247=true from rfl]at RH;have d0:=dec_is0' P.natAbs;rw[decide_eq_true (show P.natAbs=0 by omega)]at d0;have d0:((rS P).toList == [48])=true:=d0;clear hP;have HF:Hid (∀w2,Below w.heap.size w w2->NumTold4 w (((w2.setCell ⟨w.heap.size+1,0,none⟩ (.bool false)).setCell ⟨w.heap.size+1,1,none⟩ (.string ⟨#[48]⟩)).setCell ⟨w.heap.size+1,2,none⟩ (.string ⟨#[49]⟩)) (.returned (.tuple #[.agg #[.bool false,.string ⟨#[48]⟩,.string ⟨#[49]⟩],.int .i64 22])) 0 1 22):=Lib.hid (fun w2 hb=>NumTold4.done (k:=w.heap.size+1) 0 1 22 hb (by omega) num_zero.1 num_zero.2.1 num_zero.2.2);have ZE:=zen;generalize rB P=b at *;generalize rS P=s at *;generalize str (dec Q)=q at *;have BB:=Lib.hid (((Bag.start w).box3 (.bool b) (.string s) (.string q) 46).box3 (.bool false) (.string ⟨#[]⟩) (.string ⟨#[]⟩) 46);simp only[World.size_alloc]at BB;have⟨r0,r1,r2⟩:=BB.out.now.2.1.c3;clear hQ h1 h2;go_enter Tryz.func84,Tryz.ntmps84;go_wp2_with fail;go_at_call 83;refine(RH.out _).mono ?_;rintro e w1 ⟨rfl,hb1⟩;have BB:=bgo BB hb1;clear hb1;have⟨r0,r1,r2⟩:=BB.out.now.2.1.c3;go_wp2_with fail;go_at_call 64;refine(ZE.out _).mono ?_;rintro e w5 ⟨rfl,hb5⟩;have BB:=bgo BB hb5;clear hb5;have hs:=BB.out.now.1;have⟨u0,u1,u2,g0,g1,g2⟩:=hs.s6;have HS:=hs.set (.bool false) (.string ⟨#[48]⟩) (.string ⟨#[49]⟩);have HE:=Lib.hid (HF.out _ BB.out.below);clear hs;go_wp2;exact bodyPost_ret (by simp[results,Tryz.results84,go_sem,HS]) rfl HE.out
theorem rone_facno1 (P : Int) (Q : Nat) (l : Int) (w : World) (hQ : 0 < Q) (h1 : dl P.natAbs <= 60) (h2 : dl Q <= 60) (hP : P < 0) (hQ1 : Q = 1) :
    Calls Tryz.prog 84 #[.int .i32 33,.agg #[.bool (rB P),.string (rS P),.string (str (dec Q))],.int .i64 l] w fun e w'=>NumTold4 w w' e 0 1 22:=by
 have RH:=Lib.hid (fun wz=>rhas12_any 33 wz);rw[show hasO 33=true from rfl]at RH;have d0:=dec_is1 Q;rw[decide_eq_true hQ1]at d0;have eb:rB P=true:=by unfold rB;exact decide_eq_true (by omega)
 rw[eb];clear hQ1 hP eb;have HF:Hid (∀w2,Below w.heap.size w w2->NumTold4 w (((w2.setCell ⟨w.heap.size+1,0,none⟩ (.bool false)).setCell ⟨w.heap.size+1,1,none⟩ (.string ⟨#[48]⟩)).setCell ⟨w.heap.size+1,2,none⟩ (.string ⟨#[49]⟩)) (.returned (.tuple #[.agg #[.bool false,.string ⟨#[48]⟩,.string ⟨#[49]⟩],.int .i64 22])) 0 1 22):=Lib.hid (fun w2 hb=>NumTold4.done (k:=w.heap.size+1) 0 1 22 hb (by omega) num_zero.1 num_zero.2.1 num_zero.2.2);have ZE:=zen;generalize rS P=s at *;generalize str (dec Q)=q at *;have BB:=Lib.hid (((Bag.start w).box3 (.bool true) (.string s) (.string q) 46).box3 (.bool false) (.string ⟨#[]⟩) (.string ⟨#[]⟩) 46);simp only[World.size_alloc]at BB;have⟨r0,r1,r2⟩:=BB.out.now.2.1.c3;clear hQ h1 h2;go_enter Tryz.func84,Tryz.ntmps84;go_wp2_with fail;go_at_call 83;refine(RH.out _).mono ?_;rintro e w1 ⟨rfl,hb1⟩;have BB:=bgo BB hb1;clear hb1;have⟨r0,r1,r2⟩:=BB.out.now.2.1.c3;go_wp2_with fail;go_at_call 64;refine(ZE.out _).mono ?_;rintro e w5 ⟨rfl,hb5⟩;have BB:=bgo BB hb5;clear hb5;have hs:=BB.out.now.1;have⟨u0,u1,u2,g0,g1,g2⟩:=hs.s6;have HS:=hs.set (.bool false) (.string ⟨#[48]⟩) (.string ⟨#[49]⟩);have HE:=Lib.hid (HF.out _ BB.out.below);clear hs;go_wp2;exact bodyPost_ret (by simp[results,Tryz.results84,go_sem,HS]) rfl HE.out
theorem rone_facno2 (P : Int) (Q : Nat) (l : Int) (w : World) (hQ : 0 < Q) (h1 : dl P.natAbs <= 60) (h2 : dl Q <= 60) (hQ1 : ¬ Q = 1) :
    Calls Tryz.prog 84 #[.int .i32 33,.agg #[.bool (rB P),.string (rS P),.string (str (dec Q))],.int .i64 l] w fun e w'=>NumTold4 w w' e 0 1 22:=by
 have RH:=Lib.hid (fun wz=>rhas12_any 33 wz);rw[show hasO 33=true from rfl]at RH;have d0:=dec_is1 Q;rw[decide_eq_false hQ1]at d0;clear hQ1;have HF:Hid (∀w2,Below w.heap.size w w2->NumTold4 w (((w2.setCell ⟨w.heap.size+1,0,none⟩ (.bool false)).setCell ⟨w.heap.size+1,1,none⟩ (.string ⟨#[48]⟩)).setCell ⟨w.heap.size+1,2,none⟩ (.string ⟨#[49]⟩)) (.returned (.tuple #[.agg #[.bool false,.string ⟨#[48]⟩,.string ⟨#[49]⟩],.int .i64 22])) 0 1 22):=Lib.hid (fun w2 hb=>NumTold4.done (k:=w.heap.size+1) 0 1 22 hb (by omega) num_zero.1 num_zero.2.1 num_zero.2.2);have ZE:=zen;generalize rB P=b at *;generalize rS P=s at *;generalize str (dec Q)=q at *;have BB:=Lib.hid (((Bag.start w).box3 (.bool b) (.string s) (.string q) 46).box3 (.bool false) (.string ⟨#[]⟩) (.string ⟨#[]⟩) 46);simp only[World.size_alloc]at BB;have⟨r0,r1,r2⟩:=BB.out.now.2.1.c3;clear hQ h1 h2;go_enter Tryz.func84,Tryz.ntmps84;go_wp2_with fail;go_at_call 83;refine(RH.out _).mono ?_;rintro e w1 ⟨rfl,hb1⟩;have BB:=bgo BB hb1;clear hb1;have⟨r0,r1,r2⟩:=BB.out.now.2.1.c3;go_wp2_with fail;go_at_call 64;refine(ZE.out _).mono ?_;rintro e w5 ⟨rfl,hb5⟩;have BB:=bgo BB hb5;clear hb5;have hs:=BB.out.now.1;have⟨u0,u1,u2,g0,g1,g2⟩:=hs.s6;have HS:=hs.set (.bool false) (.string ⟨#[48]⟩) (.string ⟨#[49]⟩);have HE:=Lib.hid (HF.out _ BB.out.below);clear hs;go_wp2;exact bodyPost_ret (by simp[results,Tryz.results84,go_sem,HS]) rfl HE.out
theorem rone_notno1 (P : Int) (Q : Nat) (l : Int) (w : World) (hQ : 0 < Q) (h1 : dl P.natAbs <= 60) (h2 : dl Q <= 60) (hQ1 : ¬ Q = 1) :
    Calls Tryz.prog 84 #[.int .i32 126,.agg #[.bool (rB P),.string (rS P),.string (str (dec Q))],.int .i64 l] w fun e w'=>NumTold4 w w' e 0 1 22:=by
 have RH:=Lib.hid (fun wz=>rhas12_any 126 wz);rw[show hasO 126=true from rfl]at RH;have d0:=dec_is1 Q;rw[decide_eq_false hQ1]at d0;clear hQ1;have HF:Hid (∀w2,Below w.heap.size w w2->NumTold4 w (((w2.setCell ⟨w.heap.size+1,0,none⟩ (.bool false)).setCell ⟨w.heap.size+1,1,none⟩ (.string ⟨#[48]⟩)).setCell ⟨w.heap.size+1,2,none⟩ (.string ⟨#[49]⟩)) (.returned (.tuple #[.agg #[.bool false,.string ⟨#[48]⟩,.string ⟨#[49]⟩],.int .i64 22])) 0 1 22):=Lib.hid (fun w2 hb=>NumTold4.done (k:=w.heap.size+1) 0 1 22 hb (by omega) num_zero.1 num_zero.2.1 num_zero.2.2);have ZE:=zen;generalize rB P=b at *;generalize rS P=s at *;generalize str (dec Q)=q at *;have BB:=Lib.hid (((Bag.start w).box3 (.bool b) (.string s) (.string q) 46).box3 (.bool false) (.string ⟨#[]⟩) (.string ⟨#[]⟩) 46);simp only[World.size_alloc]at BB;have⟨r0,r1,r2⟩:=BB.out.now.2.1.c3;clear hQ h1 h2;go_enter Tryz.func84,Tryz.ntmps84;go_wp2_with fail;go_at_call 83;refine(RH.out _).mono ?_;rintro e w1 ⟨rfl,hb1⟩;have BB:=bgo BB hb1;clear hb1;have⟨r0,r1,r2⟩:=BB.out.now.2.1.c3;go_wp2_with fail;go_at_call 64;refine(ZE.out _).mono ?_;rintro e w5 ⟨rfl,hb5⟩;have BB:=bgo BB hb5;clear hb5;have hs:=BB.out.now.1;have⟨u0,u1,u2,g0,g1,g2⟩:=hs.s6;have HS:=hs.set (.bool false) (.string ⟨#[48]⟩) (.string ⟨#[49]⟩);have HE:=Lib.hid (HF.out _ BB.out.below);clear hs;go_wp2;exact bodyPost_ret (by simp[results,Tryz.results84,go_sem,HS]) rfl HE.out
theorem rone_notno2 (P : Int) (Q : Nat) (l : Int) (w : World) (hQ : 0 < Q) (h1 : dl P.natAbs <= 60) (h2 : dl Q <= 60) (hP : P < 0) (hQ1 : Q = 1) :
    Calls Tryz.prog 84 #[.int .i32 126,.agg #[.bool (rB P),.string (rS P),.string (str (dec Q))],.int .i64 l] w fun e w'=>NumTold4 w w' e 0 1 22:=by
 have RH:=Lib.hid (fun wz=>rhas12_any 126 wz);rw[show hasO 126=true from rfl]at RH;have d0:=dec_is1 Q;rw[decide_eq_true hQ1]at d0;have eb:rB P=true:=by unfold rB;exact decide_eq_true (by omega)
 rw[eb];clear hQ1 hP eb;have HF:Hid (∀w2,Below w.heap.size w w2->NumTold4 w (((w2.setCell ⟨w.heap.size+1,0,none⟩ (.bool false)).setCell ⟨w.heap.size+1,1,none⟩ (.string ⟨#[48]⟩)).setCell ⟨w.heap.size+1,2,none⟩ (.string ⟨#[49]⟩)) (.returned (.tuple #[.agg #[.bool false,.string ⟨#[48]⟩,.string ⟨#[49]⟩],.int .i64 22])) 0 1 22):=Lib.hid (fun w2 hb=>NumTold4.done (k:=w.heap.size+1) 0 1 22 hb (by omega) num_zero.1 num_zero.2.1 num_zero.2.2);have ZE:=zen;generalize rS P=s at *;generalize str (dec Q)=q at *;have BB:=Lib.hid (((Bag.start w).box3 (.bool true) (.string s) (.string q) 46).box3 (.bool false) (.string ⟨#[]⟩) (.string ⟨#[]⟩) 46);simp only[World.size_alloc]at BB;have⟨r0,r1,r2⟩:=BB.out.now.2.1.c3;clear hQ h1 h2;go_enter Tryz.func84,Tryz.ntmps84;go_wp2_with fail;go_at_call 83;refine(RH.out _).mono ?_;rintro e w1 ⟨rfl,hb1⟩;have BB:=bgo BB hb1;clear hb1;have⟨r0,r1,r2⟩:=BB.out.now.2.1.c3;go_wp2_with fail;go_at_call 64;refine(ZE.out _).mono ?_;rintro e w5 ⟨rfl,hb5⟩;have BB:=bgo BB hb5;clear hb5;have hs:=BB.out.now.1;have⟨u0,u1,u2,g0,g1,g2⟩:=hs.s6;have HS:=hs.set (.bool false) (.string ⟨#[48]⟩) (.string ⟨#[49]⟩);have HE:=Lib.hid (HF.out _ BB.out.below);clear hs;go_wp2;exact bodyPost_ret (by simp[results,Tryz.results84,go_sem,HS]) rfl HE.out
theorem rone_notno3 (P : Int) (Q : Nat) (l : Int) (w : World) (hQ : 0 < Q) (h1 : dl P.natAbs <= 60) (h2 : dl Q <= 60) (hP : 2 <= P) (hQ1 : Q = 1) :
    Calls Tryz.prog 84 #[.int .i32 126,.agg #[.bool (rB P),.string (rS P),.string (str (dec Q))],.int .i64 l] w fun e w'=>NumTold4 w w' e 0 1 22:=by
 have RH:=Lib.hid (fun wz=>rhas12_any 126 wz);rw[show hasO 126=true from rfl]at RH;have d0:=dec_is1 Q;rw[decide_eq_true hQ1]at d0;have d1:=dec_is1 P.natAbs;rw[decide_eq_false (show ¬P.natAbs=1 by omega)]at d1;have d1:((rS P).toList == [49])=false:=d1;have d2:=dec_is0' P.natAbs;rw[decide_eq_false (show ¬P.natAbs=0 by omega)]at d2;have d2:((rS P).toList == [48])=false:=d2;have eb:rB P=false:=by unfold rB;exact decide_eq_false (by omega)
 rw[eb];clear hQ1 hP eb;have HF:Hid (∀w2,Below w.heap.size w w2->NumTold4 w (((w2.setCell ⟨w.heap.size+1,0,none⟩ (.bool false)).setCell ⟨w.heap.size+1,1,none⟩ (.string ⟨#[48]⟩)).setCell ⟨w.heap.size+1,2,none⟩ (.string ⟨#[49]⟩)) (.returned (.tuple #[.agg #[.bool false,.string ⟨#[48]⟩,.string ⟨#[49]⟩],.int .i64 22])) 0 1 22):=Lib.hid (fun w2 hb=>NumTold4.done (k:=w.heap.size+1) 0 1 22 hb (by omega) num_zero.1 num_zero.2.1 num_zero.2.2);have ZE:=zen;generalize rS P=s at *;generalize str (dec Q)=q at *;have BB:=Lib.hid (((Bag.start w).box3 (.bool false) (.string s) (.string q) 46).box3 (.bool false) (.string ⟨#[]⟩) (.string ⟨#[]⟩) 46);simp only[World.size_alloc]at BB;have⟨r0,r1,r2⟩:=BB.out.now.2.1.c3;clear hQ h1 h2;go_enter Tryz.func84,Tryz.ntmps84;go_wp2_with fail;go_at_call 83;refine(RH.out _).mono ?_;rintro e w1 ⟨rfl,hb1⟩;have BB:=bgo BB hb1;clear hb1;have⟨r0,r1,r2⟩:=BB.out.now.2.1.c3;go_wp2_with fail;go_at_call 64;refine(ZE.out _).mono ?_;rintro e w5 ⟨rfl,hb5⟩;have BB:=bgo BB hb5;clear hb5;have hs:=BB.out.now.1;have⟨u0,u1,u2,g0,g1,g2⟩:=hs.s6;have HS:=hs.set (.bool false) (.string ⟨#[48]⟩) (.string ⟨#[49]⟩);have HE:=Lib.hid (HF.out _ BB.out.below);clear hs;go_wp2;exact bodyPost_ret (by simp[results,Tryz.results84,go_sem,HS]) rfl HE.out
theorem rone_not0 (l : Int) (w : World) :
    Calls Tryz.prog 84 #[.int .i32 126,.agg #[.bool false,.string ⟨#[48]⟩,.string ⟨#[49]⟩],.int .i64 l] w fun e w'=>NumTold4 w w' e 1 1 0:=by
 have RH:=Lib.hid (fun wz=>rhas12_any 126 wz);rw[show hasO 126=true from rfl]at RH;have FR0:=fun X wz (h:X=1)=>r3From_any X wz (by omega)
 have FR:Hid (∀(X:Int) (wz:World),X=1->Calls Tryz.prog 57 #[.int .i64 X] wz fun e w'=>e=.returned (.agg #[.bool (rB 1),.string (rS 1),.string (str (dec 1))])/\Below wz.heap.size wz w'):=Lib.hid (fun X wz h=>by
  have q:=FR0 X wz h;subst h
  exact q)
 clear FR0;have HF:=Lib.hid (fun w2 (hb:Below w.heap.size w w2)=>NumTold4.done (k:=w.heap.size+1) 1 1 0 hb (by omega) rfl rfl rfl);generalize rB 1=wb at *;generalize rS 1=ws at *;generalize str (dec 1)=wq at *;have BB:=Lib.hid (((Bag.start w).box3 (.bool false) (.string ⟨#[48]⟩) (.string ⟨#[49]⟩) 46).box3 (.bool false) (.string ⟨#[]⟩) (.string ⟨#[]⟩) 46);simp only[World.size_alloc]at BB;have⟨r0,r1,r2⟩:=BB.out.now.2.1.c3;go_enter Tryz.func84,Tryz.ntmps84;go_wp2_with fail;go_at_call 83;refine(RH.out _).mono ?_;rintro e w1 ⟨rfl,hb1⟩;have BB:=bgo BB hb1;clear hb1;have⟨r0,r1,r2⟩:=BB.out.now.2.1.c3;go_wp2_with fail;go_at_call 57;refine(FR.out _ _ (by kernel_rfl)).mono ?_;rintro e w4 ⟨rfl,hb4⟩;have BB:=bgo BB hb4;clear hb4;have hs:=BB.out.now.1;have⟨u0,u1,u2,g0,g1,g2⟩:=hs.s6;have HS:=hs.set (.bool wb) (.string ws) (.string wq);have HE:=Lib.hid (HF.out _ BB.out.below);clear hs;go_wp2;exact bodyPost_ret (by simp[results,Tryz.results84,go_sem,HS]) rfl HE.out
theorem rone_not1 (l : Int) (w : World) :
    Calls Tryz.prog 84 #[.int .i32 126,.agg #[.bool false,.string ⟨#[49]⟩,.string ⟨#[49]⟩],.int .i64 l] w fun e w'=>NumTold4 w w' e 0 1 0:=by
 have RH:=Lib.hid (fun wz=>rhas12_any 126 wz);rw[show hasO 126=true from rfl]at RH;have FR0:=fun X wz (h:X=0)=>r3From_any X wz (by omega)
 have FR:Hid (∀(X:Int) (wz:World),X=0->Calls Tryz.prog 57 #[.int .i64 X] wz fun e w'=>e=.returned (.agg #[.bool (rB 0),.string (rS 0),.string (str (dec 1))])/\Below wz.heap.size wz w'):=Lib.hid (fun X wz h=>by
  have q:=FR0 X wz h;subst h
  exact q)
 clear FR0;have HF:=Lib.hid (fun w2 (hb:Below w.heap.size w w2)=>NumTold4.done (k:=w.heap.size+1) 0 1 0 hb (by omega) rfl rfl rfl);generalize rB 0=wb at *;generalize rS 0=ws at *;generalize str (dec 1)=wq at *;have BB:=Lib.hid (((Bag.start w).box3 (.bool false) (.string ⟨#[49]⟩) (.string ⟨#[49]⟩) 46).box3 (.bool false) (.string ⟨#[]⟩) (.string ⟨#[]⟩) 46);simp only[World.size_alloc]at BB;have⟨r0,r1,r2⟩:=BB.out.now.2.1.c3;go_enter Tryz.func84,Tryz.ntmps84;go_wp2_with fail;go_at_call 83;refine(RH.out _).mono ?_;rintro e w1 ⟨rfl,hb1⟩;have BB:=bgo BB hb1;clear hb1;have⟨r0,r1,r2⟩:=BB.out.now.2.1.c3;go_wp2_with fail;go_at_call 57;refine(FR.out _ _ (by kernel_rfl)).mono ?_;rintro e w4 ⟨rfl,hb4⟩;have BB:=bgo BB hb4;clear hb4;have hs:=BB.out.now.1;have⟨u0,u1,u2,g0,g1,g2⟩:=hs.s6;have HS:=hs.set (.bool wb) (.string ws) (.string wq);have HE:=Lib.hid (HF.out _ BB.out.below);clear hs;go_wp2;exact bodyPost_ret (by simp[results,Tryz.results84,go_sem,HS]) rfl HE.out
theorem rone_hasnt (c0 : Int) (P : Int) (Q : Nat) (l : Int) (w : World) (hc : hasO c0 = false) :
    Calls Tryz.prog 84 #[.int .i32 c0,.agg #[.bool (rB P),.string (rS P),.string (str (dec Q))],.int .i64 l] w fun e w'=>NumTold4 w w' e 0 1 20:=by
 have RH:=Lib.hid (fun wz=>rhas12_any c0 wz);rw[hc]at RH;clear hc;have HF:Hid (∀w2,Below w.heap.size w w2->NumTold4 w (((w2.setCell ⟨w.heap.size+1,0,none⟩ (.bool false)).setCell ⟨w.heap.size+1,1,none⟩ (.string ⟨#[48]⟩)).setCell ⟨w.heap.size+1,2,none⟩ (.string ⟨#[49]⟩)) (.returned (.tuple #[.agg #[.bool false,.string ⟨#[48]⟩,.string ⟨#[49]⟩],.int .i64 20])) 0 1 20):=Lib.hid (fun w2 hb=>NumTold4.done (k:=w.heap.size+1) 0 1 20 hb (by omega) num_zero.1 num_zero.2.1 num_zero.2.2);have ZE:=zen;generalize rB P=b at *;generalize rS P=s at *;generalize str (dec Q)=q at *;have BB:=Lib.hid (((Bag.start w).box3 (.bool b) (.string s) (.string q) 46).box3 (.bool false) (.string ⟨#[]⟩) (.string ⟨#[]⟩) 46);simp only[World.size_alloc]at BB;have⟨r0,r1,r2⟩:=BB.out.now.2.1.c3;go_enter Tryz.func84,Tryz.ntmps84;go_wp2_with fail;go_at_call 83;refine(RH.out _).mono ?_;rintro e w1 ⟨rfl,hb1⟩;have BB:=bgo BB hb1;clear hb1;have⟨r0,r1,r2⟩:=BB.out.now.2.1.c3;go_wp2_with fail;go_at_call 64;refine(ZE.out _).mono ?_;rintro e w5 ⟨rfl,hb5⟩;have BB:=bgo BB hb5;clear hb5;have hs:=BB.out.now.1;have⟨u0,u1,u2,g0,g1,g2⟩:=hs.s6;have HS:=hs.set (.bool false) (.string ⟨#[48]⟩) (.string ⟨#[49]⟩);have HE:=Lib.hid (HF.out _ BB.out.below);clear hs;go_wp2;exact bodyPost_ret (by simp[results,Tryz.results84,go_sem,HS]) rfl HE.out
theorem rone_any (c0 : Int) (P : Int) (Q : Nat) (l : Int) (w : World) (hQ : 0 < Q) (h1 : dl P.natAbs <= 60) (h2 : dl Q <= 60) (hl : l <= 64) :
    Calls Tryz.prog 84 #[.int .i32 c0,.agg #[.bool (rB P),.string (rS P),.string (str (dec Q))],.int .i64 l] w fun e w'=>NumTold4 w w' e (oP c0 P Q l) (oQ c0 P Q l) (oE c0 P Q l):=by
 cases hc:hasO c0 with
 | false =>
  have hE:oE c0 P Q l=20:=by
   unfold oE;rw[if_pos hc]
  unfold oP oQ;rw[hE,if_neg (by decide),if_neg (by decide)];exact rone_hasnt c0 P Q l w hc
 | true =>
  have hc2:=of_decide_eq_true hc
  have yes:∀ {c:Int},hasO c=true->c≠126->aN c P Q=true->Calls Tryz.prog 84 #[.int .i32 c,.agg #[.bool (rB P),.string (rS P),.string (str (dec Q))],.int .i64 l] w (fun e w'=>NumTold4 w w' e (wP (aP c P Q) (aQ c P Q) l) (wQ (aP c P Q) (aQ c P Q) l) (wE (aP c P Q) (aQ c P Q) l))->Calls Tryz.prog 84 #[.int .i32 c,.agg #[.bool (rB P),.string (rS P),.string (str (dec Q))],.int .i64 l] w (fun e w'=>NumTold4 w w' e (oP c P Q l) (oQ c P Q l) (oE c P Q l)):=fun h1 h2 h3 h=>by
   obtain⟨e1,e2,e3⟩:=o_w (l:=l) h1 h2 h3;rw[e1,e2,e3];exact h
  have no:∀ {c:Int},hasO c=true->c≠126->aN c P Q=false->Calls Tryz.prog 84 #[.int .i32 c,.agg #[.bool (rB P),.string (rS P),.string (str (dec Q))],.int .i64 l] w (fun e w'=>NumTold4 w w' e 0 1 22)->Calls Tryz.prog 84 #[.int .i32 c,.agg #[.bool (rB P),.string (rS P),.string (str (dec Q))],.int .i64 l] w (fun e w'=>NumTold4 w w' e (oP c P Q l) (oQ c P Q l) (oE c P Q l)):=fun h1 h2 h3 h=>by
   obtain⟨e1,e2,e3⟩:=o_no (l:=l) h1 h2 h3;rw[e1,e2,e3];exact h
  rcases hc2 with rfl|rfl|rfl|rfl|rfl|rfl|rfl|rfl|rfl|rfl|rfl|rfl
  · exact yes (by decide) (by decide) (by unfold aN;simp) (rone_plus P Q l w hQ h1 h2)
  · exact yes (by decide) (by decide) (by unfold aN;simp) (rone_minus P Q l w hQ h1 h2)
  · exact yes (by decide) (by decide) (by unfold aN;simp) (rone_size P Q l w hQ h1 h2)
  · exact no (by decide) (by decide) (by unfold aN;simp) (rone_star P Q l w hQ h1 h2)
  · by_cases hQ1:Q=1
    · by_cases hP:P<0
      · exact no (by decide) (by decide) (by unfold aN;simp;omega) (rone_facno1 P Q l w hQ h1 h2 hP hQ1)
      · exact yes (by decide) (by decide) (by unfold aN;simp;omega) (rone_fac P Q l w hQ h1 h2 (by omega) hQ1 hl)
    · exact no (by decide) (by decide) (by unfold aN;simp;omega) (rone_facno2 P Q l w hQ h1 h2 hQ1)
  · have key:∀(p:Int) (q:Nat) (e:Int),oE 126 P Q l=e->(e=0->p=1-P/\q=1)->(e≠0->p=0/\q=1)->oP 126 P Q l=p/\oQ 126 P Q l=q:=fun p q e he h1 h2=>by
      unfold oP oQ;rw[he]
      by_cases e0:e=0
      · rw[if_pos e0,if_pos e0,if_pos rfl,if_pos rfl];exact⟨(h1 e0).1.symm,(h1 e0).2.symm⟩
      · rw[if_neg e0,if_neg e0];exact⟨(h2 e0).1.symm,(h2 e0).2.symm⟩
    by_cases hq:Q=1/\(P=0∨P=1)
    · have hE:oE 126 P Q l=0:=by
        unfold oE;rw[if_neg (by decide),if_pos rfl,if_pos hq]
      obtain⟨e1,e2⟩:=key (1-P) 1 0 hE (fun _=>⟨rfl,rfl⟩) (fun h=>absurd rfl h);rw[hE,e1,e2]
      obtain⟨rfl,rfl|rfl⟩:=hq
      · have:=rone_not0 l w;rw[← dec0,← dec1]at this;exact this
      · have:=rone_not1 l w;rw[← dec1]at this;exact this
    · have hE:oE 126 P Q l=22:=by
        unfold oE;rw[if_neg (by decide),if_pos rfl,if_neg hq]
      obtain⟨e1,e2⟩:=key 0 1 22 hE (fun h=>by omega) (fun _=>⟨rfl,rfl⟩);rw[hE,e1,e2]
      by_cases hQ1:Q=1
      · by_cases hP:P<0
        · exact rone_notno2 P Q l w hQ h1 h2 hP hQ1
        · exact rone_notno3 P Q l w hQ h1 h2 (by omega) hQ1
      · exact rone_notno1 P Q l w hQ h1 h2 hQ1
  · exact yes (by decide) (by decide) (by unfold aN;simp) (rone_sign P Q l w hQ h1 h2)
  · by_cases hP:P=0
    · exact no (by decide) (by decide) (by unfold aN;simp[hP]) (rone_rec0 P Q l w hQ h1 h2 hP)
    · exact yes (by decide) (by decide) (by unfold aN;simp[hP]) (rone_rec P Q l w hQ h1 h2 hP)
  · exact yes (by decide) (by decide) (by unfold aN;simp) (rone_ceil P Q l w hQ h1 h2)
  · exact yes (by decide) (by decide) (by unfold aN;simp) (rone_floor P Q l w hQ h1 h2)
  · exact no (by decide) (by decide) (by unfold aN;simp) (rone_log P Q l w hQ h1 h2)
  · exact no (by decide) (by decide) (by unfold aN;simp) (rone_circle P Q l w hQ h1 h2)
end Go.Proofs.YtdmmenaejkpnjaaGreatDoor
