/-
  Texts of this seat, laid together.
-/
import Derived.Laws.StructEq
import Derived.Deep.MidRow
import Derived.Test.YtdmmenaejkpnjaaGreatDoorV10
import Derived.Test.YtdmmenaejkpnjaaGreatDoorV11
set_option maxHeartbeats 12800000
set_option maxRecDepth 100000
set_option linter.unusedSimpArgs false
set_option linter.unusedVariables false
namespace Go.Proofs.YtdmmenaejkpnjaaGreatDoor
open Go.RowKit
attribute [local go_sem ↓] Go.wp_at_zero Go.wp_at_succ
def QK(q k:Nat):Int := -((q+k:Nat):Int)
def RT1(Z Y:Int):Nat:=if Z.natAbs%Y.natAbs=0 then 0 else 1
theorem RT1_le(Z Y:Int):RT1 Z Y<=1:=by unfold RT1;split<;>omega
theorem flQ_apart{Z Y:Int}(ha:flA Z Y=true):flQ Z Y=QK (Z.natAbs / Y.natAbs) (RT1 Z Y):=by
 unfold flQ flU RT1 QK;rw[ha]
 by_cases h:Z.natAbs%Y.natAbs=0
 · simp[h,sgn]
 · simp[h,sgn]
theorem qk_nat(q k y:Nat):QK q k*(y:Int) = -(((q+k)*y:Nat):Int):=by
 unfold QK;rw[Int.neg_mul];simp
theorem qk_abs(q k:Nat):(QK q k).natAbs=q+k:=by unfold QK;rw[Int.natAbs_neg,Int.natAbs_natCast]
theorem cmpZ_pos{A B:Int}(h:B<A):cmpZ A B=1:=by unfold cmpZ;split<;>(try split)<;>omega
theorem cmpZ_npos{A B:Int}(h:A<=B):decide ((0:Int)<cmpZ A B)=false:=by refine decide_eq_false ?_;unfold cmpZ;split<;>(try split)<;>omega
theorem rS_m1:rS (-1)=⟨#[49]⟩:=by
 have h:str (dec 1)=⟨#[49]⟩:=by
  have h1:dl 1=1:=by unfold dl;rfl
  unfold dec;rw[h1];rfl
 exact h
theorem qk_more{z y:Nat}(hr:¬z%y=0) : -(z:Int)<QK (z / y) 0*(y:Int):=by
 rw[qk_nat];have e:=Nat.div_add_mod z y;have:(z / y+0)*y=y*(z / y):=by rw[Nat.add_zero,Nat.mul_comm]
 rw[this];omega
theorem qk_done{z y k:Nat}(hy:0<y)(hk:k=if z%y=0 then 0 else 1):QK (z / y) k*(y:Int) <= -(z:Int):=by
 rw[qk_nat];have e:=Nat.div_add_mod z y;have hl:=Nat.mod_lt z hy
 by_cases hr:z%y=0
 · rw[if_pos hr]at hk;subst hk;have:(z / y+0)*y=y*(z / y):=by rw[Nat.add_zero,Nat.mul_comm]
   rw[this];omega
 · rw[if_neg hr]at hk;subst hk;have:(z / y+1)*y=y*(z / y)+y:=by rw[Nat.add_mul,Nat.mul_comm,Nat.one_mul]
   rw[this];omega
theorem rFloor_apart (Z Y : Int) (w : World) (hl : dl Z.natAbs <= 400) (hl2 : dl Y.natAbs <= 400) (hY : Y ≠ 0) (hs : ¬ rB Z = rB Y) :
    Calls Tryz.prog 210 #[.agg #[.bool (rB Z),.string (rS Z)],.agg #[.bool (rB Y),.string (rS Y)]] w fun e w'=>RFloor w w' e (flQ Z Y) (flR Z Y):=by
 have ha:flA Z Y=true:=by rw[flA_rB];revert hs;cases rB Z<;>cases rB Y<;>simp
 have hqe:=flQ_apart ha;obtain⟨t,htT⟩:∃t,RT1 Z Y=t:=⟨_,rfl⟩
 have ht1:t<=1:=by rw[← htT];exact RT1_le Z Y
 have htd:t=if Z.natAbs%Y.natAbs=0 then 0 else 1:=by rw[← htT];rfl
 obtain⟨q,hq⟩:∃q,Z.natAbs / Y.natAbs=q:=⟨_,rfl⟩
 rw[hq,htT]at hqe;have hy0:0<Y.natAbs:=by omega
 have hqz:q<=Z.natAbs:=by rw[← hq];exact Nat.div_le_self _ _
 have hqk:∀k,k<=1->dl (QK q k).natAbs<=401:=by
  intro k hk;rw[qk_abs];exact Nat.le_trans (dl_mono (show q+k<=Z.natAbs+1 by omega)) (dl_add_le (k:=400) hl (by exact Nat.le_trans (dl_mono (show 1<=Y.natAbs by omega)) hl2))
 have hqd:dl (flQ Z Y).natAbs<=401:=by rw[hqe];exact hqk t ht1
 have hpd:dl (flQ Z Y*Y).natAbs<=801:=by rw[Int.natAbs_mul];exact dl_mul_le hqd hl2
 have hR:Z + -(flQ Z Y*Y)=flR Z Y:=by have:=fl_times (Z:=Z) hY;omega
 have DM:Hid (∀wz,Calls Tryz.prog 164 #[.string (rS Z),.string (rS Y)] wz fun e w'=>e=.returned (.tuple #[.string (str (dec q)),.string (str (dec (Z.natAbs%Y.natAbs)))])/\Below wz.heap.size wz w'):=fun wz=>by have h1:=rdivMod_any Z.natAbs Y.natAbs wz (by omega) (by omega) (by omega);rw[hq]at h1;exact h1
 have OF:Hid (∀wz,Calls Tryz.prog 189 #[.bool true,.string (str (dec q))] wz fun e w'=>RTold wz w' e (QK q 0)):=by
  intro wz;have h1:=rOf_dec true q wz (Nat.le_trans (dl_mono hqz) (by omega));rw[show sgn true q=QK q 0 from by simp[sgn,QK]]at h1;exact h1
 have O1:Hid (∀wz,Calls Tryz.prog 189 #[.bool false,.string (rS Y)] wz fun e w'=>RTold wz w' e (Y.natAbs:Int)):=by
  intro wz;exact rOf_dec false Y.natAbs wz (by omega)
 have O2:Hid (∀wz,Calls Tryz.prog 189 #[.bool true,.string (rS Z)] wz fun e w'=>RTold wz w' e (-(Z.natAbs:Int))):=by
  intro wz;exact rOf_dec true Z.natAbs wz (by omega)
 have MUA:Hid (∀k,k<=1->∀wz,Calls Tryz.prog 128 #[.agg #[.bool (rB (QK q k)),.string (rS (QK q k))],.agg #[.bool (rB (Y.natAbs:Int)),.string (rS (Y.natAbs:Int))]] wz fun e w'=>RTold wz w' e (QK q k*(Y.natAbs:Int))):=fun k hk wz=>rMul_any _ _ wz (by have:=hqk k hk;omega) (by rw[Int.natAbs_natCast];omega)
 have CMA:Hid (∀k,k<=1->∀wz,Calls Tryz.prog 127 #[.agg #[.bool (rB (QK q k*(Y.natAbs:Int))),.string (rS (QK q k*(Y.natAbs:Int)))],.agg #[.bool (rB (-(Z.natAbs:Int))),.string (rS (-(Z.natAbs:Int)))]] wz fun e w'=>e=.returned (.int .i64 (cmpZ (QK q k*(Y.natAbs:Int)) (-(Z.natAbs:Int))))/\Below wz.heap.size wz w'):=fun k hk wz=>rCmp_any _ _ wz (by rw[Int.natAbs_mul,Int.natAbs_natCast];have:=dl_mul_le (hqk k hk) hl2;omega) (by rw[Int.natAbs_neg,Int.natAbs_natCast];omega)
 have A1:Hid (∀k,k<=0->∀wz,Calls Tryz.prog 193 #[.agg #[.bool (rB (QK q k)),.string (rS (QK q k))],.agg #[.bool true,.string ⟨#[49]⟩]] wz fun e w'=>RTold wz w' e (QK q (k+1))):=by
  intro k hk wz;have h1:=rAdd_any (QK q k) (-1) wz (by have:=hqk k (by omega);omega) (Nat.le_trans (dl_le 1 1 (by omega) (by omega)) (by omega));rw[show QK q k + -1=QK q (k+1)from by unfold QK;omega,show rB (-1)=true from rfl,rS_m1]at h1;exact h1
 have HD1:Hid (∀k,k<t->decide ((0:Int)<cmpZ (QK q k*(Y.natAbs:Int)) (-(Z.natAbs:Int)))=true):=by
  intro k hk;have hk0:k=0:=by omega
  subst hk0;rw[cmpZ_pos (by rw[← hq];refine qk_more ?_;intro h;rw[if_pos h]at htd;omega)];rfl
 have HD2:Hid (decide ((0:Int)<cmpZ (QK q t*(Y.natAbs:Int)) (-(Z.natAbs:Int)))=false):=cmpZ_npos (by rw[← hq];exact qk_done hy0 htd);have MU:Hid (∀wz,Calls Tryz.prog 128 #[.agg #[.bool (rB (flQ Z Y)),.string (rS (flQ Z Y))],.agg #[.bool (rB Y),.string (rS Y)]] wz fun e w'=>RTold wz w' e (flQ Z Y*Y)):=fun wz=>rMul_any _ _ wz (by omega) (by omega)
 have MI:Hid (∀wz,Calls Tryz.prog 209 #[.agg #[.bool (rB (flQ Z Y*Y)),.string (rS (flQ Z Y*Y))]] wz fun e w'=>RTold wz w' e (-(flQ Z Y*Y))):=fun wz=>rMinus_any _ wz (by omega)
 have AD:Hid (∀wz,Calls Tryz.prog 193 #[.agg #[.bool (rB Z),.string (rS Z)],.agg #[.bool (rB (-(flQ Z Y*Y))),.string (rS (-(flQ Z Y*Y)))]] wz fun e w'=>RTold wz w' e (flR Z Y)):=by
  intro wz;have h1:=rAdd_any Z (-(flQ Z Y*Y)) wz (by omega) (by rw[Int.natAbs_neg];omega);rw[hR]at h1;exact h1
 unfold RTold at OF O1 O2 MUA A1 MU MI AD;have hd:(rB Z==rB Y)=false:=by revert hs;cases rB Z<;>cases rB Y<;>simp
 obtain⟨sq,hsq⟩:∃sq,rS (flQ Z Y)=sq:=⟨_,rfl⟩
 obtain⟨qb,hqb⟩:∃qb,rB (flQ Z Y)=qb:=⟨_,rfl⟩
 obtain⟨R,hRe⟩:∃R,flR Z Y=R:=⟨_,rfl⟩
 obtain⟨V,hV⟩:∃V,flQ Z Y*Y=V:=⟨_,rfl⟩
 have HQ:Hid (Ending.returned (.tuple #[.agg #[.bool qb,.string sq],.agg #[.bool (rB R),.string (rS R)]])=.returned (.tuple #[.agg #[.bool (rB (flQ Z Y)),.string (rS (flQ Z Y))],.agg #[.bool (rB (flR Z Y)),.string (rS (flR Z Y))]])):=Lib.hid (by rw[hqb,hsq,hRe]);have HT:Hid (rB (QK q t)=qb/\rS (QK q t)=sq):=⟨by rw[← hqe];exact hqb,by rw[← hqe];exact hsq⟩
 rw[hqb,hsq]at MU;rw[hRe]at AD;rw[hV]at MU MI AD;obtain⟨b,hbe⟩:∃b,rB Z=b:=⟨_,rfl⟩
 obtain⟨b2,hbe2⟩:∃b2,rB Y=b2:=⟨_,rfl⟩
 obtain⟨s,hse⟩:∃s,rS Z=s:=⟨_,rfl⟩
 obtain⟨s2,hse2⟩:∃s2,rS Y=s2:=⟨_,rfl⟩
 obtain⟨YA,hYA⟩:∃YA,(Y.natAbs:Int)=YA:=⟨_,rfl⟩
 obtain⟨ZA,hZA⟩:∃ZA, -(Z.natAbs:Int)=ZA:=⟨_,rfl⟩
 rw[hbe]at AD hd ⊢;rw[hbe2]at MU hd ⊢;rw[hse]at DM AD O2 ⊢;rw[hse2]at DM MU O1 ⊢;rw[hYA]at O1 MUA CMA HD1 HD2;rw[hZA]at O2 CMA HD1 HD2;have BB:=Lib.hid (RF.start w b s b2 s2);have q0:=BB.out.now.2.2.2.cell;have q1:=BB.out.now.2.2.2.cell1;have q2:=BB.out.now.2.2.1.cell;have q3:=BB.out.now.2.2.1.cell1;clear hl hl2 hY hs ha hqe htT htd hq hy0 hqz hqk hqd hpd hR hsq hqb hRe hV hbe hbe2 hse hse2 hYA hZA;obtain⟨u,hu⟩:∃u,rB (QK q 0)=u:=⟨_,rfl⟩
 rw[hu]at OF
 cases u
 · go_enter Tryz.func210, Tryz.ntmps210
   go_wp2_with (first
    | (go_at_call 164;(with_reducible refine(DM.out _).mono ?_);rintro e w2 ⟨rfl,hb2⟩;have BB:=Lib.hid (BB.out.go hb2);have q0:=BB.out.now.2.2.2.cell;have q1:=BB.out.now.2.2.2.cell1;have q2:=BB.out.now.2.2.1.cell;have q3:=BB.out.now.2.2.1.cell1;clear hb2)
    | (go_at_call 189;(with_reducible refine(OF.out _).mono ?_);rintro e w3 ⟨rfl,hb3⟩;have hk3:w.heap.size+1+1+1<w3.heap.size:=RX.lt (BB.out.go hb3).now.2.1;have BB:=Lib.hid ((BB.out.go hb3).box2 (.bool false) (.string (rS (QK q 0))) 159);have q0:=BB.out.now.2.2.2.2.cell;have q1:=BB.out.now.2.2.2.2.cell1;have q2:=BB.out.now.2.2.2.1.cell;have q3:=BB.out.now.2.2.2.1.cell1;have q4:=BB.out.now.1.cell;have q5:=BB.out.now.1.cell1;clear hb3))
   go_loopw [9] (fun i wr=>∃k:Nat,k<=t/\i=.int .i64 k/\Hid (Bag w (fun y=>Slot2 y w3.heap.size (.bool (rB (QK q k))) (.string (rS (QK q k)))/\RF w.heap.size b s b2 s2 y) wr))
    (fun i _=>2-(intOf i).toNat)
   case atStart =>
    refine⟨0,by omega,rfl,?_⟩
    show Hid (Bag w (fun y=>Slot2 y w3.heap.size (.bool (rB (QK q 0))) (.string (rS (QK q 0)))/\RF w.heap.size b s b2 s2 y) _)
    rw[hu];exact BB
   case round =>
    obtain⟨k,hk,rfl,BB⟩:=hrel;have q0:=BB.out.now.2.2.2.2.cell;have q1:=BB.out.now.2.2.2.2.cell1;have q2:=BB.out.now.2.2.2.1.cell;have q3:=BB.out.now.2.2.2.1.cell1;have q4:=BB.out.now.1.cell;have q5:=BB.out.now.1.cell1;have MUK:=Lib.hid (MUA.out k (by omega));have CMK:=Lib.hid (CMA.out k (by omega))
    by_cases hkt:k<t
    · have d1 := HD1.out k hkt; have d2 : decide ((k : Int) < 2) = true := decide_eq_true (by omega); obtain ⟨c, hc⟩ : ∃ c, cmpZ (QK q k * YA) ZA = c := ⟨_, rfl⟩
      rw[hc]at CMK d1;have A1K:=Lib.hid (A1.out k (by omega));clear hc HD1 HD2;go_wp2_with fail
      go_region_held3 (fun y => (y.cell? ⟨w.heap.size, 0, none⟩ = some (.bool b) /\ y.cell? ⟨w.heap.size, 1, none⟩ = some (.string s) /\ y.cell? ⟨w.heap.size + 1, 0, none⟩ = some (.bool b2) /\ y.cell? ⟨w.heap.size + 1, 1, none⟩ = some (.string s2) /\ y.cell? ⟨w3.heap.size, 0, none⟩ = some (.bool (rB (QK q k))) /\ y.cell? ⟨w3.heap.size, 1, none⟩ = some (.string (rS (QK q k)))) /\ Bag w (fun y => Slot2 y w3.heap.size (.bool (rB (QK q k))) (.string (rS (QK q k))) /\ RF w.heap.size b s b2 s2 y) y)
       (first
         | (have B9:=BB.out.drew;exact⟨⟨B9.now.2.2.2.2.cell,B9.now.2.2.2.2.cell1,B9.now.2.2.2.1.cell,B9.now.2.2.2.1.cell1,B9.now.1.cell,B9.now.1.cell1⟩,B9⟩)
         | (have B9:=Bag.go (show Bag w (fun y=>Slot2 y w3.heap.size (.bool (rB (QK q k))) (.string (rS (QK q k)))/\RF w.heap.size b s b2 s2 y) _ from by go_split_ands;assumption) hb2;exact⟨⟨B9.now.2.2.2.2.cell,B9.now.2.2.2.2.cell1,B9.now.2.2.2.1.cell,B9.now.2.2.2.1.cell1,B9.now.1.cell,B9.now.1.cell1⟩,B9⟩))
       (first
         | (go_at_call 189;(with_reducible refine(O1.out _).mono ?_);rintro e w2 ⟨rfl,hb2⟩)
         | (go_at_call 189;(with_reducible refine(O2.out _).mono ?_);rintro e w2 ⟨rfl,hb2⟩)
         | (go_at_call 128;(with_reducible refine(MUK.out _).mono ?_);rintro e w2 ⟨rfl,hb2⟩)
         | (go_at_call 127;(with_reducible refine(CMK.out _).mono ?_);rintro e w2 ⟨rfl,hb2⟩))
      have BB:=Lib.hid (show Bag w (fun y=>Slot2 y w3.heap.size (.bool (rB (QK q k))) (.string (rS (QK q k)))/\RF w.heap.size b s b2 s2 y) _ from by go_split_ands;assumption);have q0:=BB.out.now.2.2.2.2.cell;have q1:=BB.out.now.2.2.2.2.cell1;have q2:=BB.out.now.2.2.2.1.cell;have q3:=BB.out.now.2.2.2.1.cell1;have q4:=BB.out.now.1.cell;have q5:=BB.out.now.1.cell1
      go_wp2_with (go_at_call 193;(with_reducible refine(A1K.out _).mono ?_);rintro e w4 ⟨rfl,hb4⟩;have B4:=BB.out.go hb4;have hs4:=B4.now.1;have hc1:=hs4.cell;have hc2:=hs4.cell1;have hf1:=hs4.free;have hf2:=hs4.free1)
      go_roundw
      case rel=>exact⟨k+1,by omega,by go_num,Lib.hid ⟨((B4.below.setCell (show w.heap.size<=w3.heap.size by omega) _).setCell (show w.heap.size<=w3.heap.size by omega) _),fun x y hb h=>⟨h.1.below hb,RF.stay x y hb h.2⟩,hs4.put2s _ _,B4.now.2.put2 (by omega) (by omega) _ _⟩⟩
      case measure=>simp[intOf];omega
    · have hkt : k = t := by omega
      subst hkt;have d1:=HD2.out;have d2:decide ((k:Int)<2)=true:=decide_eq_true (by omega);obtain⟨c,hc⟩:∃c,cmpZ (QK q k*YA) ZA=c:=⟨_,rfl⟩
      rw[hc]at CMK d1;clear hc HD1 HD2;go_wp2_with fail
      go_region_held3 (fun y => (y.cell? ⟨w.heap.size, 0, none⟩ = some (.bool b) /\ y.cell? ⟨w.heap.size, 1, none⟩ = some (.string s) /\ y.cell? ⟨w.heap.size + 1, 0, none⟩ = some (.bool b2) /\ y.cell? ⟨w.heap.size + 1, 1, none⟩ = some (.string s2) /\ y.cell? ⟨w3.heap.size, 0, none⟩ = some (.bool (rB (QK q k))) /\ y.cell? ⟨w3.heap.size, 1, none⟩ = some (.string (rS (QK q k)))) /\ Bag w (fun y => Slot2 y w3.heap.size (.bool (rB (QK q k))) (.string (rS (QK q k))) /\ RF w.heap.size b s b2 s2 y) y)
       (first
         | (have B9:=BB.out.drew;exact⟨⟨B9.now.2.2.2.2.cell,B9.now.2.2.2.2.cell1,B9.now.2.2.2.1.cell,B9.now.2.2.2.1.cell1,B9.now.1.cell,B9.now.1.cell1⟩,B9⟩)
         | (have B9:=Bag.go (show Bag w (fun y=>Slot2 y w3.heap.size (.bool (rB (QK q k))) (.string (rS (QK q k)))/\RF w.heap.size b s b2 s2 y) _ from by go_split_ands;assumption) hb2;exact⟨⟨B9.now.2.2.2.2.cell,B9.now.2.2.2.2.cell1,B9.now.2.2.2.1.cell,B9.now.2.2.2.1.cell1,B9.now.1.cell,B9.now.1.cell1⟩,B9⟩))
       (first
         | (go_at_call 189;(with_reducible refine(O1.out _).mono ?_);rintro e w2 ⟨rfl,hb2⟩)
         | (go_at_call 189;(with_reducible refine(O2.out _).mono ?_);rintro e w2 ⟨rfl,hb2⟩)
         | (go_at_call 128;(with_reducible refine(MUK.out _).mono ?_);rintro e w2 ⟨rfl,hb2⟩)
         | (go_at_call 127;(with_reducible refine(CMK.out _).mono ?_);rintro e w2 ⟨rfl,hb2⟩))
      have BB:=Lib.hid (show Bag w (fun y=>Slot2 y w3.heap.size (.bool (rB (QK q k))) (.string (rS (QK q k)))/\RF w.heap.size b s b2 s2 y) _ from by go_split_ands;assumption);have q0:=BB.out.now.2.2.2.2.cell;have q1:=BB.out.now.2.2.2.2.cell1;have q2:=BB.out.now.2.2.2.1.cell;have q3:=BB.out.now.2.2.2.1.cell1;have q4:=BB.out.now.1.cell;have q5:=BB.out.now.1.cell1;go_wp2_with fail;obtain⟨ht1,ht2⟩:=HT.out;rw[ht1,ht2]at BB;rw[ht1]at q4;rw[ht2]at q5;clear ht1 ht2
      go_region_held3 (fun y => (y.cell? ⟨w.heap.size, 0, none⟩ = some (.bool b) /\ y.cell? ⟨w.heap.size, 1, none⟩ = some (.string s) /\ y.cell? ⟨w.heap.size + 1, 0, none⟩ = some (.bool b2) /\ y.cell? ⟨w.heap.size + 1, 1, none⟩ = some (.string s2) /\ y.cell? ⟨w3.heap.size, 0, none⟩ = some (.bool qb) /\ y.cell? ⟨w3.heap.size, 1, none⟩ = some (.string sq)) /\ Bag w (fun y => Slot2 y w3.heap.size (.bool qb) (.string sq) /\ RF w.heap.size b s b2 s2 y) y)
       (first
         | (have B9:=BB.out.drew;exact⟨⟨B9.now.2.2.2.2.cell,B9.now.2.2.2.2.cell1,B9.now.2.2.2.1.cell,B9.now.2.2.2.1.cell1,B9.now.1.cell,B9.now.1.cell1⟩,B9⟩)
         | (have B9:=Bag.go (show Bag w (fun y=>Slot2 y w3.heap.size (.bool qb) (.string sq)/\RF w.heap.size b s b2 s2 y) _ from by go_split_ands;assumption) hb2;exact⟨⟨B9.now.2.2.2.2.cell,B9.now.2.2.2.2.cell1,B9.now.2.2.2.1.cell,B9.now.2.2.2.1.cell1,B9.now.1.cell,B9.now.1.cell1⟩,B9⟩)
         | (have B9:=Bag.put2 (show Bag w (fun y=>Slot2 y w3.heap.size (.bool qb) (.string sq)/\RF w.heap.size b s b2 s2 y) _ from by go_split_ands;assumption) (k:=w.heap.size+1+1) (u:=.bool qb) (v:=.string sq) (by omega) (fun h=>⟨h.1.put2o (by omega) _ _,h.2.put2 (by omega) (by omega) _ _⟩);exact⟨⟨B9.now.2.2.2.2.cell,B9.now.2.2.2.2.cell1,B9.now.2.2.2.1.cell,B9.now.2.2.2.1.cell1,B9.now.1.cell,B9.now.1.cell1⟩,B9⟩)
         | (have B9:=Bag.put2 (show Bag w (fun y=>Slot2 y w3.heap.size (.bool qb) (.string sq)/\RF w.heap.size b s b2 s2 y) _ from by go_split_ands;assumption) (k:=w.heap.size+1+1+1) (u:=.bool (rB R)) (v:=.string (rS R)) (by omega) (fun h=>⟨h.1.put2o (by omega) _ _,h.2.put2 (by omega) (by omega) _ _⟩);exact⟨⟨B9.now.2.2.2.2.cell,B9.now.2.2.2.2.cell1,B9.now.2.2.2.1.cell,B9.now.2.2.2.1.cell1,B9.now.1.cell,B9.now.1.cell1⟩,B9⟩))
       (first
         | (go_at_call 128;(with_reducible refine(MU.out _).mono ?_);rintro e w2 ⟨rfl,hb2⟩)
         | (go_at_call 209;(with_reducible refine(MI.out _).mono ?_);rintro e w2 ⟨rfl,hb2⟩)
         | (go_at_call 193; (with_reducible refine (AD.out _).mono ?_); rintro e w2 ⟨rfl, hb2⟩;
             have B7:=Bag.go (show Bag w (fun y=>Slot2 y w3.heap.size (.bool qb) (.string sq)/\RF w.heap.size b s b2 s2 y) _ from by go_split_ands;assumption) hb2;
             obtain⟨x8,z8,hs8⟩:=B7.now.2.1;
             obtain⟨x9,z9,hs9⟩:=B7.now.2.2.1;
             have hc1:=hs8.cell;have hc2:=hs8.cell1;have hc3:=hs9.cell;have hc4:=hs9.cell1;have hf1:=hs8.free;have hf2:=hs8.free1;have hf3:=hs9.free;have hf4:=hs9.free1;
             have HA:=(hs8.put2s (.bool qb) (.string sq)).put2o (show w.heap.size+1+1≠w.heap.size+1+1+1 by omega) (.bool (rB R)) (.string (rS R));
             have HB:=(hs9.put2o (show w.heap.size+1+1+1≠w.heap.size+1+1 by omega) (.bool qb) (.string sq)).put2s (.bool (rB R)) (.string (rS R));
             have e1:=HA.cell;have e2:=HA.cell1;have e3:=HB.cell;have e4:=HB.cell1;
             have HE:Hid (RFloor w (put2 (put2 w2 (w.heap.size+1+1) (.bool qb) (.string sq)) (w.heap.size+1+1+1) (.bool (rB R)) (.string (rS R))) (.returned (.tuple #[.agg #[.bool qb,.string sq],.agg #[.bool (rB R),.string (rS R)]])) (flQ Z Y) (flR Z Y)):=⟨HQ.out,(((B7.below.setCell (show w.heap.size<=w.heap.size+1+1 by omega) _).setCell (show w.heap.size<=w.heap.size+1+1 by omega) _).setCell (show w.heap.size<=w.heap.size+1+1+1 by omega) _).setCell (show w.heap.size<=w.heap.size+1+1+1 by omega) _⟩;
             unfold put2 at HE e1 e2 e3 e4;clear hs8 hs9 HA HB B7))
      all_goals
       go_wp2;exact bodyPost_ret (v:=.tuple #[.agg #[.bool qb,.string sq],.agg #[.bool (rB R),.string (rS R)]]) (by simp[results,Tryz.results210,go_sem,e1,e2,e3,e4]) rfl HE.out
 · go_enter Tryz.func210, Tryz.ntmps210
   go_wp2_with (first
    | (go_at_call 164;(with_reducible refine(DM.out _).mono ?_);rintro e w2 ⟨rfl,hb2⟩;have BB:=Lib.hid (BB.out.go hb2);have q0:=BB.out.now.2.2.2.cell;have q1:=BB.out.now.2.2.2.cell1;have q2:=BB.out.now.2.2.1.cell;have q3:=BB.out.now.2.2.1.cell1;clear hb2)
    | (go_at_call 189;(with_reducible refine(OF.out _).mono ?_);rintro e w3 ⟨rfl,hb3⟩;have hk3:w.heap.size+1+1+1<w3.heap.size:=RX.lt (BB.out.go hb3).now.2.1;have BB:=Lib.hid ((BB.out.go hb3).box2 (.bool true) (.string (rS (QK q 0))) 159);have q0:=BB.out.now.2.2.2.2.cell;have q1:=BB.out.now.2.2.2.2.cell1;have q2:=BB.out.now.2.2.2.1.cell;have q3:=BB.out.now.2.2.2.1.cell1;have q4:=BB.out.now.1.cell;have q5:=BB.out.now.1.cell1;clear hb3))
   go_loopw [9] (fun i wr=>∃k:Nat,k<=t/\i=.int .i64 k/\Hid (Bag w (fun y=>Slot2 y w3.heap.size (.bool (rB (QK q k))) (.string (rS (QK q k)))/\RF w.heap.size b s b2 s2 y) wr))
    (fun i _=>2-(intOf i).toNat)
   case atStart =>
    refine⟨0,by omega,rfl,?_⟩
    show Hid (Bag w (fun y=>Slot2 y w3.heap.size (.bool (rB (QK q 0))) (.string (rS (QK q 0)))/\RF w.heap.size b s b2 s2 y) _)
    rw[hu];exact BB
   case round =>
    obtain⟨k,hk,rfl,BB⟩:=hrel;have q0:=BB.out.now.2.2.2.2.cell;have q1:=BB.out.now.2.2.2.2.cell1;have q2:=BB.out.now.2.2.2.1.cell;have q3:=BB.out.now.2.2.2.1.cell1;have q4:=BB.out.now.1.cell;have q5:=BB.out.now.1.cell1;have MUK:=Lib.hid (MUA.out k (by omega));have CMK:=Lib.hid (CMA.out k (by omega))
    by_cases hkt:k<t
    · have d1 := HD1.out k hkt; have d2 : decide ((k : Int) < 2) = true := decide_eq_true (by omega); obtain ⟨c, hc⟩ : ∃ c, cmpZ (QK q k * YA) ZA = c := ⟨_, rfl⟩
      rw[hc]at CMK d1;have A1K:=Lib.hid (A1.out k (by omega));clear hc HD1 HD2;go_wp2_with fail
      go_region_held3 (fun y => (y.cell? ⟨w.heap.size, 0, none⟩ = some (.bool b) /\ y.cell? ⟨w.heap.size, 1, none⟩ = some (.string s) /\ y.cell? ⟨w.heap.size + 1, 0, none⟩ = some (.bool b2) /\ y.cell? ⟨w.heap.size + 1, 1, none⟩ = some (.string s2) /\ y.cell? ⟨w3.heap.size, 0, none⟩ = some (.bool (rB (QK q k))) /\ y.cell? ⟨w3.heap.size, 1, none⟩ = some (.string (rS (QK q k)))) /\ Bag w (fun y => Slot2 y w3.heap.size (.bool (rB (QK q k))) (.string (rS (QK q k))) /\ RF w.heap.size b s b2 s2 y) y)
       (first
         | (have B9:=BB.out.drew;exact⟨⟨B9.now.2.2.2.2.cell,B9.now.2.2.2.2.cell1,B9.now.2.2.2.1.cell,B9.now.2.2.2.1.cell1,B9.now.1.cell,B9.now.1.cell1⟩,B9⟩)
         | (have B9:=Bag.go (show Bag w (fun y=>Slot2 y w3.heap.size (.bool (rB (QK q k))) (.string (rS (QK q k)))/\RF w.heap.size b s b2 s2 y) _ from by go_split_ands;assumption) hb2;exact⟨⟨B9.now.2.2.2.2.cell,B9.now.2.2.2.2.cell1,B9.now.2.2.2.1.cell,B9.now.2.2.2.1.cell1,B9.now.1.cell,B9.now.1.cell1⟩,B9⟩))
       (first
         | (go_at_call 189;(with_reducible refine(O1.out _).mono ?_);rintro e w2 ⟨rfl,hb2⟩)
         | (go_at_call 189;(with_reducible refine(O2.out _).mono ?_);rintro e w2 ⟨rfl,hb2⟩)
         | (go_at_call 128;(with_reducible refine(MUK.out _).mono ?_);rintro e w2 ⟨rfl,hb2⟩)
         | (go_at_call 127;(with_reducible refine(CMK.out _).mono ?_);rintro e w2 ⟨rfl,hb2⟩))
      have BB:=Lib.hid (show Bag w (fun y=>Slot2 y w3.heap.size (.bool (rB (QK q k))) (.string (rS (QK q k)))/\RF w.heap.size b s b2 s2 y) _ from by go_split_ands;assumption);have q0:=BB.out.now.2.2.2.2.cell;have q1:=BB.out.now.2.2.2.2.cell1;have q2:=BB.out.now.2.2.2.1.cell;have q3:=BB.out.now.2.2.2.1.cell1;have q4:=BB.out.now.1.cell;have q5:=BB.out.now.1.cell1
      go_wp2_with (go_at_call 193;(with_reducible refine(A1K.out _).mono ?_);rintro e w4 ⟨rfl,hb4⟩;have B4:=BB.out.go hb4;have hs4:=B4.now.1;have hc1:=hs4.cell;have hc2:=hs4.cell1;have hf1:=hs4.free;have hf2:=hs4.free1)
      go_roundw
      case rel=>exact⟨k+1,by omega,by go_num,Lib.hid ⟨((B4.below.setCell (show w.heap.size<=w3.heap.size by omega) _).setCell (show w.heap.size<=w3.heap.size by omega) _),fun x y hb h=>⟨h.1.below hb,RF.stay x y hb h.2⟩,hs4.put2s _ _,B4.now.2.put2 (by omega) (by omega) _ _⟩⟩
      case measure=>simp[intOf];omega
    · have hkt : k = t := by omega
      subst hkt;have d1:=HD2.out;have d2:decide ((k:Int)<2)=true:=decide_eq_true (by omega);obtain⟨c,hc⟩:∃c,cmpZ (QK q k*YA) ZA=c:=⟨_,rfl⟩
      rw[hc]at CMK d1;clear hc HD1 HD2;go_wp2_with fail
      go_region_held3 (fun y => (y.cell? ⟨w.heap.size, 0, none⟩ = some (.bool b) /\ y.cell? ⟨w.heap.size, 1, none⟩ = some (.string s) /\ y.cell? ⟨w.heap.size + 1, 0, none⟩ = some (.bool b2) /\ y.cell? ⟨w.heap.size + 1, 1, none⟩ = some (.string s2) /\ y.cell? ⟨w3.heap.size, 0, none⟩ = some (.bool (rB (QK q k))) /\ y.cell? ⟨w3.heap.size, 1, none⟩ = some (.string (rS (QK q k)))) /\ Bag w (fun y => Slot2 y w3.heap.size (.bool (rB (QK q k))) (.string (rS (QK q k))) /\ RF w.heap.size b s b2 s2 y) y)
       (first
         | (have B9:=BB.out.drew;exact⟨⟨B9.now.2.2.2.2.cell,B9.now.2.2.2.2.cell1,B9.now.2.2.2.1.cell,B9.now.2.2.2.1.cell1,B9.now.1.cell,B9.now.1.cell1⟩,B9⟩)
         | (have B9:=Bag.go (show Bag w (fun y=>Slot2 y w3.heap.size (.bool (rB (QK q k))) (.string (rS (QK q k)))/\RF w.heap.size b s b2 s2 y) _ from by go_split_ands;assumption) hb2;exact⟨⟨B9.now.2.2.2.2.cell,B9.now.2.2.2.2.cell1,B9.now.2.2.2.1.cell,B9.now.2.2.2.1.cell1,B9.now.1.cell,B9.now.1.cell1⟩,B9⟩))
       (first
         | (go_at_call 189;(with_reducible refine(O1.out _).mono ?_);rintro e w2 ⟨rfl,hb2⟩)
         | (go_at_call 189;(with_reducible refine(O2.out _).mono ?_);rintro e w2 ⟨rfl,hb2⟩)
         | (go_at_call 128;(with_reducible refine(MUK.out _).mono ?_);rintro e w2 ⟨rfl,hb2⟩)
         | (go_at_call 127;(with_reducible refine(CMK.out _).mono ?_);rintro e w2 ⟨rfl,hb2⟩))
      have BB:=Lib.hid (show Bag w (fun y=>Slot2 y w3.heap.size (.bool (rB (QK q k))) (.string (rS (QK q k)))/\RF w.heap.size b s b2 s2 y) _ from by go_split_ands;assumption);have q0:=BB.out.now.2.2.2.2.cell;have q1:=BB.out.now.2.2.2.2.cell1;have q2:=BB.out.now.2.2.2.1.cell;have q3:=BB.out.now.2.2.2.1.cell1;have q4:=BB.out.now.1.cell;have q5:=BB.out.now.1.cell1;go_wp2_with fail;obtain⟨ht1,ht2⟩:=HT.out;rw[ht1,ht2]at BB;rw[ht1]at q4;rw[ht2]at q5;clear ht1 ht2
      go_region_held3 (fun y => (y.cell? ⟨w.heap.size, 0, none⟩ = some (.bool b) /\ y.cell? ⟨w.heap.size, 1, none⟩ = some (.string s) /\ y.cell? ⟨w.heap.size + 1, 0, none⟩ = some (.bool b2) /\ y.cell? ⟨w.heap.size + 1, 1, none⟩ = some (.string s2) /\ y.cell? ⟨w3.heap.size, 0, none⟩ = some (.bool qb) /\ y.cell? ⟨w3.heap.size, 1, none⟩ = some (.string sq)) /\ Bag w (fun y => Slot2 y w3.heap.size (.bool qb) (.string sq) /\ RF w.heap.size b s b2 s2 y) y)
       (first
         | (have B9:=BB.out.drew;exact⟨⟨B9.now.2.2.2.2.cell,B9.now.2.2.2.2.cell1,B9.now.2.2.2.1.cell,B9.now.2.2.2.1.cell1,B9.now.1.cell,B9.now.1.cell1⟩,B9⟩)
         | (have B9:=Bag.go (show Bag w (fun y=>Slot2 y w3.heap.size (.bool qb) (.string sq)/\RF w.heap.size b s b2 s2 y) _ from by go_split_ands;assumption) hb2;exact⟨⟨B9.now.2.2.2.2.cell,B9.now.2.2.2.2.cell1,B9.now.2.2.2.1.cell,B9.now.2.2.2.1.cell1,B9.now.1.cell,B9.now.1.cell1⟩,B9⟩)
         | (have B9:=Bag.put2 (show Bag w (fun y=>Slot2 y w3.heap.size (.bool qb) (.string sq)/\RF w.heap.size b s b2 s2 y) _ from by go_split_ands;assumption) (k:=w.heap.size+1+1) (u:=.bool qb) (v:=.string sq) (by omega) (fun h=>⟨h.1.put2o (by omega) _ _,h.2.put2 (by omega) (by omega) _ _⟩);exact⟨⟨B9.now.2.2.2.2.cell,B9.now.2.2.2.2.cell1,B9.now.2.2.2.1.cell,B9.now.2.2.2.1.cell1,B9.now.1.cell,B9.now.1.cell1⟩,B9⟩)
         | (have B9:=Bag.put2 (show Bag w (fun y=>Slot2 y w3.heap.size (.bool qb) (.string sq)/\RF w.heap.size b s b2 s2 y) _ from by go_split_ands;assumption) (k:=w.heap.size+1+1+1) (u:=.bool (rB R)) (v:=.string (rS R)) (by omega) (fun h=>⟨h.1.put2o (by omega) _ _,h.2.put2 (by omega) (by omega) _ _⟩);exact⟨⟨B9.now.2.2.2.2.cell,B9.now.2.2.2.2.cell1,B9.now.2.2.2.1.cell,B9.now.2.2.2.1.cell1,B9.now.1.cell,B9.now.1.cell1⟩,B9⟩))
       (first
         | (go_at_call 128;(with_reducible refine(MU.out _).mono ?_);rintro e w2 ⟨rfl,hb2⟩)
         | (go_at_call 209;(with_reducible refine(MI.out _).mono ?_);rintro e w2 ⟨rfl,hb2⟩)
         | (go_at_call 193; (with_reducible refine (AD.out _).mono ?_); rintro e w2 ⟨rfl, hb2⟩;
             have B7:=Bag.go (show Bag w (fun y=>Slot2 y w3.heap.size (.bool qb) (.string sq)/\RF w.heap.size b s b2 s2 y) _ from by go_split_ands;assumption) hb2;
             obtain⟨x8,z8,hs8⟩:=B7.now.2.1;
             obtain⟨x9,z9,hs9⟩:=B7.now.2.2.1;
             have hc1:=hs8.cell;have hc2:=hs8.cell1;have hc3:=hs9.cell;have hc4:=hs9.cell1;have hf1:=hs8.free;have hf2:=hs8.free1;have hf3:=hs9.free;have hf4:=hs9.free1;
             have HA:=(hs8.put2s (.bool qb) (.string sq)).put2o (show w.heap.size+1+1≠w.heap.size+1+1+1 by omega) (.bool (rB R)) (.string (rS R));
             have HB:=(hs9.put2o (show w.heap.size+1+1+1≠w.heap.size+1+1 by omega) (.bool qb) (.string sq)).put2s (.bool (rB R)) (.string (rS R));
             have e1:=HA.cell;have e2:=HA.cell1;have e3:=HB.cell;have e4:=HB.cell1;
             have HE:Hid (RFloor w (put2 (put2 w2 (w.heap.size+1+1) (.bool qb) (.string sq)) (w.heap.size+1+1+1) (.bool (rB R)) (.string (rS R))) (.returned (.tuple #[.agg #[.bool qb,.string sq],.agg #[.bool (rB R),.string (rS R)]])) (flQ Z Y) (flR Z Y)):=⟨HQ.out,(((B7.below.setCell (show w.heap.size<=w.heap.size+1+1 by omega) _).setCell (show w.heap.size<=w.heap.size+1+1 by omega) _).setCell (show w.heap.size<=w.heap.size+1+1+1 by omega) _).setCell (show w.heap.size<=w.heap.size+1+1+1 by omega) _⟩;
             unfold put2 at HE e1 e2 e3 e4;clear hs8 hs9 HA HB B7))
      all_goals
       go_wp2;exact bodyPost_ret (v:=.tuple #[.agg #[.bool qb,.string sq],.agg #[.bool (rB R),.string (rS R)]]) (by simp[results,Tryz.results210,go_sem,e1,e2,e3,e4]) rfl HE.out
theorem rFloor_any (Z Y : Int) (w : World) (hl : dl Z.natAbs <= 400) (hl2 : dl Y.natAbs <= 400) (hY : Y ≠ 0) :
    Calls Tryz.prog 210 #[.agg #[.bool (rB Z),.string (rS Z)],.agg #[.bool (rB Y),.string (rS Y)]] w fun e w'=>RFloor w w' e (flQ Z Y) (flR Z Y):=by
 by_cases hs:rB Z=rB Y
 · exact rFloor_same Z Y w hl hl2 hY hs
 · exact rFloor_apart Z Y w hl hl2 hY hs
theorem r3Floor_any (P : Int) (Q : Nat) (w : World) (hQ : 0 < Q) (h1 : dl P.natAbs <= 400) (h2 : dl Q <= 400) :
    Calls Tryz.prog 153 #[.agg #[.bool (rB P),.string (rS P),.string (str (dec Q))]] w fun e w'=>RTold w w' e (flQ P Q):=by
 have BB:=Lib.hid ((Bag.start w).box3 (.bool (rB P)) (.string (rS P)) (.string (str (dec Q))) 46 |>.box2 (.bool false) (.string ⟨#[]⟩) 159);simp only[World.size_alloc]at BB;have TA:Hid (∀wz,Calls Tryz.prog 129 #[.agg #[.bool (rB P),.string (rS P),.string (str (dec Q))]] wz fun e w'=>RTold wz w' e P):=fun wz=>r3Top_any P _ wz (by omega)
 have BA:Hid (∀wz,Calls Tryz.prog 130 #[.agg #[.bool (rB P),.string (rS P),.string (str (dec Q))]] wz fun e w'=>RTold wz w' e (Q:Int)):=fun wz=>r3Bot_any _ _ Q wz (by omega)
 have FL:=Lib.hid (fun wz=>rFloor_any P (Q:Int) wz h1 (by rw[Int.natAbs_natCast];exact h2) (by omega));have HF:=Lib.hid (fun w2 b s (hb:Below w.heap.size w w2) (h1:rB (flQ P (Q:Int))=b) (h2:rS (flQ P (Q:Int))=s)=>RTold.fin (Y:=flQ P (Q:Int)) hb (show w.heap.size<=w.heap.size+1 by omega) h1 h2);unfold RTold at TA BA;unfold RFloor at FL;obtain⟨x1,hx1⟩:∃x,rB (flQ P (Q:Int))=x:=⟨_,rfl⟩
 obtain⟨x2,hx2⟩:∃x,rS (flQ P (Q:Int))=x:=⟨_,rfl⟩
 have HX:=Lib.hid (And.intro hx1 hx2);rw[hx1,hx2]at FL;generalize rB (flR P (Q:Int))=y1 at *;generalize rS (flR P (Q:Int))=y2 at *;generalize rB (Q:Int)=qb at *;generalize rS (Q:Int)=qs at *;generalize rB P=pb at *;generalize rS P=ps at *;generalize str (dec Q)=q at *;clear h1 h2 hx1 hx2 hQ
 have HP:Hid (∀(y:World) (k:Nat) {b0:Bool} {s0:ByteArray},Slot2 y k (.bool b0) (.string s0)->w.heap.size+1<k->Bag w (fun y=>Slot2 y (w.heap.size+1) (.bool false) (.string ⟨#[]⟩)/\Slot3 y w.heap.size (.bool pb) (.string ps) (.string q)/\True) y->∀(z1:Bool) (z2:ByteArray),Bag w (fun y=>Slot2 y (w.heap.size+1) (.bool false) (.string ⟨#[]⟩)/\Slot3 y w.heap.size (.bool pb) (.string ps) (.string q)/\True) ((y.setCell ⟨k,0,none⟩ (.bool z1)).setCell ⟨k,1,none⟩ (.string z2))):=by
  intro y k b0 s0 s hk B z1 z2;have q:=B.now;exact⟨(B.below.setCell (p:=⟨k,0,none⟩) (show w.heap.size<=k by omega) _).setCell (p:=⟨k,1,none⟩) (show w.heap.size<=k by omega) _,B.stay,q.1.set2o (by omega) _ _,q.2.1.set2o (by omega) _ _,trivial⟩
 go_enter Tryz.func153,Tryz.ntmps153;go_wp2_with fail
 refine wp_region_inv ⟨(fun j=>([[6], [7], [8], [9], [10], [5], [11], [12], [3], [4], [3], [4]]:List (List Nat)).getD j []),(fun j=>([[], [0], [], [0,1,2], [0,1,2,3], [0,1,2,3,4], [0,1,2,3,4,5], [0,1,2,3,4,5], [], [], [0,1,2,3,4,5,6,8,9], [0,1,2,3,4,5,6,7,8,9,10]]:List (List Nat)).getD j []), [8,9]⟩ (fun jj vv yy=>match jj with|0=>vv = [some (.agg #[.bool pb,.string ps,.string q])]|1=>vv = [some (.agg #[.bool pb,.string ps])]|2=>vv = [some (.agg #[.bool pb,.string ps,.string q])]|3=>vv = [some (.agg #[.bool qb,.string qs])]|4=>vv = [some (.tuple #[.agg #[.bool x1,.string x2],.agg #[.bool y1,.string y2]])]|5=>vv = [some (.tuple #[.agg #[.bool x1,.string x2],.agg #[.bool y1,.string y2]])]|6=>vv = [some (.agg #[.bool x1,.string x2])]|7=>vv = [some (.agg #[.bool y1,.string y2])]|8=>∃(k8:Nat),∃(b0:Bool),∃(s0:ByteArray),vv = [some (.pointer (some ⟨k8,0,none⟩))]/\Slot2 yy k8 (.bool b0) (.string s0)/\w.heap.size+1<k8|9=>∃(k9:Nat),∃(b0:Bool),∃(s0:ByteArray),vv = [some (.pointer (some ⟨k9,0,none⟩))]/\Slot2 yy k9 (.bool b0) (.string s0)/\w.heap.size+1<k9|10=>∃(k8:Nat),vv = [some (.pointer (some ⟨k8,0,none⟩))]/\Slot2 yy k8 (.bool x1) (.string x2)|11=>∃(k9:Nat),vv = [some (.pointer (some ⟨k9,0,none⟩))]/\Slot2 yy k9 (.bool y1) (.string y2)|_=>True) (Bag w (fun y=>Slot2 y (w.heap.size+1) (.bool false) (.string ⟨#[]⟩)/\Slot3 y w.heap.size (.bool pb) (.string ps) (.string q)/\True)) (by kernel_rfl) (by kernel_rfl) (by kernel_rfl) BB.out.drew ?_ ?_ ?_
 · intro jj vv yw yw2 hb h
   match jj,h with
   | 0,h=>exact h
   | 1,h=>exact h
   | 2,h=>exact h
   | 3,h=>exact h
   | 4,h=>exact h
   | 5,h=>exact h
   | 6,h=>exact h
   | 7,h=>exact h
   | 8,⟨k8,b0,s0,e8,g8_0,g8_1⟩=>exact Exists.intro k8 (Exists.intro b0 (Exists.intro s0 (And.intro e8 (And.intro (g8_0.below hb) g8_1))))
   | 9,⟨k9,b0,s0,e9,g9_0,g9_1⟩=>exact Exists.intro k9 (Exists.intro b0 (Exists.intro s0 (And.intro e9 (And.intro (g9_0.below hb) g9_1))))
   | 10,⟨k8,e10,g10_0⟩=>exact Exists.intro k8 (And.intro e10 (g10_0.below hb))
   | 11,⟨k9,e11,g11_0⟩=>exact Exists.intro k9 (And.intro e11 (g11_0.below hb))
   | _+12,h=>exact h
 · intro ac yw hsz hdf hold hB hp;obtain⟨k8,e10,sA⟩:=hp 10 (by decide);have t3:ac.tmps[3]? = some (.pointer (some ⟨k8,0,none⟩)):=(List.cons.inj e10).1;have t2:ac.tmps[2]? = some (.pointer (some ⟨w.heap.size+1,0,none⟩)):=hold 2 (by kernel_rfl);clear hold hp e10;obtain⟨⟨l⟩,df⟩:=ac
   match l,hsz with
   | [u0,u1,u2,u3,u4,u5,u6,u7,u8,u9,u10,u11,u12,u13],_ =>
   obtain rfl:=Option.some.inj (show some u2=_ from t2);obtain rfl:=Option.some.inj (show some u3=_ from t3);have q0:=sA.cell;have q1:=sA.cell1;have hs:=hB.now.1;have hc:=hs.cell;have hc1:=hs.cell1;have hf:=hs.free;have hf1:=hs.free1;have HS:=hs.set (.bool x1) (.string x2);have HE:=Lib.hid (HF.out _ x1 x2 hB.below HX.out.1 HX.out.2);unfold put2 at HE;clear hB sA hs;go_wp2;exact bodyPost_ret (by simp[results,Tryz.results153,go_sem,HS]) rfl HE.out
 refine Stps.cons (o:=_) ?_ ?_
 · intro ac yw hsz hold hB hp K hK;have t1:ac.tmps[1]? = some (.pointer (some ⟨w.heap.size,0,none⟩)):=hold 1 (by kernel_rfl);clear hold hp hsz;have⟨q0,q1,q2⟩:=hB.now.2.1.c3;go_simp;exact hK.out _ _ ⟨hB,rfl,Nat.le_refl _,.inl (Below.refl _ _),fun h=>absurd h (by decide)⟩
 refine Stps.cons (o:=_) ?_ ?_
 · intro ac yw hsz hold hB hp K hK;have e0:=hp 0 (by decide);have t6:ac.tmps[6]? = some (.agg #[.bool pb,.string ps,.string q]):=(List.cons.inj e0).1;clear hold hp hsz e0;go_simp
   (go_at_call 129;(with_reducible refine(TA.out _).mono ?_);rintro e wz ⟨rfl,hbz⟩)
   exact hK.out _ _ ⟨hB.go hbz,rfl,hbz.size,.inl hbz,fun h=>absurd h (by decide)⟩
 refine Stps.cons (o:=_) ?_ ?_
 · intro ac yw hsz hold hB hp K hK;have t1:ac.tmps[1]? = some (.pointer (some ⟨w.heap.size,0,none⟩)):=hold 1 (by kernel_rfl);clear hold hp hsz;have⟨q0,q1,q2⟩:=hB.now.2.1.c3;go_simp;exact hK.out _ _ ⟨hB,rfl,Nat.le_refl _,.inl (Below.refl _ _),fun h=>absurd h (by decide)⟩
 refine Stps.cons (o:=_) ?_ ?_
 · intro ac yw hsz hold hB hp K hK;have e2:=hp 2 (by decide);have t8:ac.tmps[8]? = some (.agg #[.bool pb,.string ps,.string q]):=(List.cons.inj e2).1;clear hold hp hsz e2;go_simp
   (go_at_call 130;(with_reducible refine(BA.out _).mono ?_);rintro e wz ⟨rfl,hbz⟩)
   exact hK.out _ _ ⟨hB.go hbz,rfl,hbz.size,.inl hbz,fun h=>absurd h (by decide)⟩
 refine Stps.cons (o:=_) ?_ ?_
 · intro ac yw hsz hold hB hp K hK;have e1:=hp 1 (by decide);have t7:ac.tmps[7]? = some (.agg #[.bool pb,.string ps]):=(List.cons.inj e1).1;have e3:=hp 3 (by decide);have t9:ac.tmps[9]? = some (.agg #[.bool qb,.string qs]):=(List.cons.inj e3).1;clear hold hp hsz e1 e3;go_simp
   (go_at_call 210;(with_reducible refine(FL.out _).mono ?_);rintro e wz ⟨rfl,hbz⟩)
   exact hK.out _ _ ⟨hB.go hbz,rfl,hbz.size,.inl hbz,fun h=>absurd h (by decide)⟩
 refine Stps.cons (o:=_) ?_ ?_
 · intro ac yw hsz hold hB hp K hK;have e4:=hp 4 (by decide);have t10:ac.tmps[10]? = some (.tuple #[.agg #[.bool x1,.string x2],.agg #[.bool y1,.string y2]]):=(List.cons.inj e4).1;clear hold hp hsz e4;go_simp;exact hK.out _ _ ⟨hB,rfl,Nat.le_refl _,.inl (Below.refl _ _),fun h=>absurd h (by decide)⟩
 refine Stps.cons (o:=_) ?_ ?_
 · intro ac yw hsz hold hB hp K hK;have e5:=hp 5 (by decide);have t5:ac.tmps[5]? = some (.tuple #[.agg #[.bool x1,.string x2],.agg #[.bool y1,.string y2]]):=(List.cons.inj e5).1;clear hold hp hsz e5;go_simp;exact hK.out _ _ ⟨hB,rfl,Nat.le_refl _,.inl (Below.refl _ _),fun h=>absurd h (by decide)⟩
 refine Stps.cons (o:=_) ?_ ?_
 · intro ac yw hsz hold hB hp K hK;have e5:=hp 5 (by decide);have t5:ac.tmps[5]? = some (.tuple #[.agg #[.bool x1,.string x2],.agg #[.bool y1,.string y2]]):=(List.cons.inj e5).1;clear hold hp hsz e5;go_simp;exact hK.out _ _ ⟨hB,rfl,Nat.le_refl _,.inl (Below.refl _ _),fun h=>absurd h (by decide)⟩
 refine Stps.cons (o:=_) ?_ ?_
 · intro ac yw hsz hold hB hp K hK;clear hold hp hsz;have hk0:=hB.now.1.lt;have hsl:=Slot2.new yw (.bool false) (.string ⟨#[]⟩) 159;have hbz:Below yw.heap.size yw (yw.alloc (.cells #[.bool false,.string ⟨#[]⟩] 159))/\yw.heap.size<(yw.alloc (.cells #[.bool false,.string ⟨#[]⟩] 159)).heap.size:=⟨(Below.refl _ _).alloc (Nat.le_refl _) _,by simp⟩
   go_simp;exact hK.out _ _ ⟨hB.alloc _,Exists.intro yw.heap.size (Exists.intro false (Exists.intro ⟨#[]⟩ (And.intro rfl (And.intro hsl hk0)))),Nat.le_of_lt hbz.2,.inl hbz.1,fun _=>⟨_,rfl,Nat.le_refl _,hbz.2⟩⟩
 refine Stps.cons (o:=_) ?_ ?_
 · intro ac yw hsz hold hB hp K hK;clear hold hp hsz;have hk0:=hB.now.1.lt;have hsl:=Slot2.new yw (.bool false) (.string ⟨#[]⟩) 159;have hbz:Below yw.heap.size yw (yw.alloc (.cells #[.bool false,.string ⟨#[]⟩] 159))/\yw.heap.size<(yw.alloc (.cells #[.bool false,.string ⟨#[]⟩] 159)).heap.size:=⟨(Below.refl _ _).alloc (Nat.le_refl _) _,by simp⟩
   go_simp;exact hK.out _ _ ⟨hB.alloc _,Exists.intro yw.heap.size (Exists.intro false (Exists.intro ⟨#[]⟩ (And.intro rfl (And.intro hsl hk0)))),Nat.le_of_lt hbz.2,.inl hbz.1,fun _=>⟨_,rfl,Nat.le_refl _,hbz.2⟩⟩
 refine Stps.cons (o:=_) ?_ ?_
 · intro ac yw hsz hold hB hp K hK;obtain⟨k8_8,b0_8,s0_8,e8,g8_0,g8_1⟩:=hp 8 (by decide);have t3:ac.tmps[3]? = some (.pointer (some ⟨k8_8,0,none⟩)):=(List.cons.inj e8).1;have e6:=hp 6 (by decide);have t11:ac.tmps[11]? = some (.agg #[.bool x1,.string x2]):=(List.cons.inj e6).1;clear hold hp hsz e8 e6;have hs:=g8_0;have l0:=hs.cell;have l1:=hs.cell1;have f0:=hs.free;have f1:=hs.free1;have HB:=HP.out _ _ hs g8_1 hB x1 x2;go_simp;refine hK.out undef _ ⟨HB,Exists.intro k8_8 (And.intro (congrArg (fun x => [x]) t3) (hs.set2 (.bool x1) (.string x2))),by simp,.inr ?_,fun h=>absurd h (by decide)⟩;intro jj hj hap h
   match jj,h with
   | 0,h=>exact h
   | 1,h=>exact h
   | 2,h=>exact h
   | 3,h=>exact h
   | 4,h=>exact h
   | 5,h=>exact h
   | 6,h=>exact h
   | 7,h=>exact h
   | 8,⟨k8,b0,s0,e8,g8_0,g8_1⟩ =>
    have e9:k8=k8_8:=by have:=(List.cons.inj e8).1.symm.trans t3;cases this;rfl
    subst e9;exact Exists.intro _ (Exists.intro _ (Exists.intro _ (And.intro e8 (And.intro (g8_0.set2 _ _) g8_1))))
   | 9,⟨k9,b0,s0,e9,g9_0,g9_1⟩ =>
    have hne:k9≠k8_8:=fun e=>hap 8 (by decide) 9 (by decide) (by decide) (by decide) (by decide) k8_8 ⟨3,rfl,t3⟩ ⟨4,rfl,e▸(List.cons.inj e9).1⟩
    exact Exists.intro k9 (Exists.intro b0 (Exists.intro s0 (And.intro e9 (And.intro (Slot2.set2o g9_0 hne _ _) g9_1))))
   | 10,_=>exact absurd rfl hj
   | 11,⟨k9,e11,g11_0⟩ =>
    have hne:k9≠k8_8:=fun e=>hap 8 (by decide) 9 (by decide) (by decide) (by decide) (by decide) k8_8 ⟨3,rfl,t3⟩ ⟨4,rfl,e▸(List.cons.inj e11).1⟩
    exact Exists.intro k9 (And.intro e11 (Slot2.set2o g11_0 hne _ _))
   | _+12,h=>exact h
 refine Stps.cons (o:=_) ?_ ?_
 · intro ac yw hsz hold hB hp K hK;obtain⟨k9_9,b0_9,s0_9,e9,g9_0,g9_1⟩:=hp 9 (by decide);have t4:ac.tmps[4]? = some (.pointer (some ⟨k9_9,0,none⟩)):=(List.cons.inj e9).1;have e7:=hp 7 (by decide);have t12:ac.tmps[12]? = some (.agg #[.bool y1,.string y2]):=(List.cons.inj e7).1;clear hold hp hsz e9 e7;have hs:=g9_0;have l0:=hs.cell;have l1:=hs.cell1;have f0:=hs.free;have f1:=hs.free1;have HB:=HP.out _ _ hs g9_1 hB y1 y2;go_simp;refine hK.out undef _ ⟨HB,Exists.intro k9_9 (And.intro (congrArg (fun x => [x]) t4) (hs.set2 (.bool y1) (.string y2))),by simp,.inr ?_,fun h=>absurd h (by decide)⟩;intro jj hj hap h
   match jj,h with
   | 0,h=>exact h
   | 1,h=>exact h
   | 2,h=>exact h
   | 3,h=>exact h
   | 4,h=>exact h
   | 5,h=>exact h
   | 6,h=>exact h
   | 7,h=>exact h
   | 8,⟨k8,b0,s0,e8,g8_0,g8_1⟩ =>
    have hne:k8≠k9_9:=fun e=>hap 9 (by decide) 8 (by decide) (by decide) (by decide) (by decide) k9_9 ⟨4,rfl,t4⟩ ⟨3,rfl,e▸(List.cons.inj e8).1⟩
    exact Exists.intro k8 (Exists.intro b0 (Exists.intro s0 (And.intro e8 (And.intro (Slot2.set2o g8_0 hne _ _) g8_1))))
   | 9,⟨k9,b0,s0,e9,g9_0,g9_1⟩ =>
    have e9:k9=k9_9:=by have:=(List.cons.inj e9).1.symm.trans t4;cases this;rfl
    subst e9;exact Exists.intro _ (Exists.intro _ (Exists.intro _ (And.intro e9 (And.intro (g9_0.set2 _ _) g9_1))))
   | 10,⟨k8,e10,g10_0⟩ =>
    have hne:k8≠k9_9:=fun e=>hap 9 (by decide) 8 (by decide) (by decide) (by decide) (by decide) k9_9 ⟨4,rfl,t4⟩ ⟨3,rfl,e▸(List.cons.inj e10).1⟩
    exact Exists.intro k8 (And.intro e10 (Slot2.set2o g10_0 hne _ _))
   | 11,_=>exact absurd rfl hj
   | _+12,h=>exact h
 exact Stps.nil _
theorem nw_dl(Z Y:Int):dl (nwP Z Y).natAbs<=dl Z.natAbs/\dl (nwQ Z Y)<=dl Y.natAbs:=by
 rw[(nw_abs Z Y).1,(nw_abs Z Y).2];exact⟨dl_mono (Nat.div_le_self _ _),dl_mono (Nat.div_le_self _ _)⟩
theorem lo_dl(Z:Int)(Y:Nat):dl (loP Z Y).natAbs<=dl Z.natAbs/\dl (loQ Z Y)<=dl Y:=⟨dl_mono (loP_absle _ _),dl_mono (loQ_le _ _)⟩
theorem dl_one:dl 1=1:=Nat.le_antisymm (dl_le 1 1 (by omega) (by decide)) (dl_pos 1)
theorem r3Int_any (P : Int) (Q : Nat) (w : World) (hl : dl P.natAbs <= 1000) :
    Calls Tryz.prog 131 #[.agg #[.bool (rB P),.string (rS P),.string (str (dec Q))]] w fun e w'=>e=.returned (.tuple #[.int .i64 (if Q=1 then fitI P else 0),.bool (decide (Q=1)&&fitB P)])/\Below w.heap.size w w':=by
 have h1:=dec_is1 Q;have TA:Hid (∀wz,Calls Tryz.prog 129 #[.agg #[.bool (rB P),.string (rS P),.string (str (dec Q))]] wz fun e w'=>RTold wz w' e P):=fun wz=>r3Top_any P _ wz (by omega)
 have SM:=Lib.hid (fun wz=>rSmall_any P wz hl);unfold RTold at TA;have BB:=Lib.hid ((Bag.start w).box3 (.bool (rB P)) (.string (rS P)) (.string (str (dec Q))) 46);generalize str (dec Q)=t at *;generalize rB P=b at *;generalize rS P=s at *;generalize fitI P=x at *;generalize fitB P=y at *;have⟨q0,q1,q2⟩:=BB.out.now.1.c3;clear hl
 by_cases hq:Q=1
 · rw[decide_eq_true hq]at h1;rw[if_pos hq,decide_eq_true hq,Bool.true_and];clear hq;go_enter Tryz.func131,Tryz.ntmps131
   go_wp2_with (first
    | (go_at_call 129;(with_reducible refine(TA.out _).mono ?_);rintro e w2 ⟨rfl,hb2⟩;have BB:=Lib.hid (BB.out.go hb2))
    | (go_at_call 191;(with_reducible refine(SM.out _).mono ?_);rintro e w3 ⟨rfl,hb3⟩;have BB:=Lib.hid (BB.out.go hb3)))
   go_ret2;exact⟨rfl,BB.out.below⟩
 · rw[decide_eq_false hq]at h1;rw[if_neg hq,decide_eq_false hq,Bool.false_and];clear hq TA SM;go_enter Tryz.func131,Tryz.ntmps131;go_wp2;go_ret2;exact⟨rfl,BB.out.below⟩
set_option linter.unusedVariables false
set_option linter.unusedSimpArgs false
def NumTold4(w w':World)(e:Ending)(P:Int)(Q:Nat)(E:Int):Prop:=e=.returned (.tuple #[.agg #[.bool (rB P),.string (rS P),.string (str (dec Q))],.int .i64 E])/\Below w.heap.size w w'
theorem NumTold4.done {w w2 : World} {k : Nat} (P : Int) (Q : Nat) (E : Int) (hb : Below w.heap.size w w2) (hk : w.heap.size <= k) {b : Bool} {s t : ByteArray} (h1 : rB P = b) (h2 : rS P = s) (h3 : str (dec Q) = t) :
    NumTold4 w (((w2.setCell ⟨k,0,none⟩ (.bool b)).setCell ⟨k,1,none⟩ (.string s)).setCell ⟨k,2,none⟩ (.string t)) (.returned (.tuple #[.agg #[.bool b,.string s,.string t],.int .i64 E])) P Q E :=
 ⟨by rw[h1,h2,h3],((hb.setCell hk _).setCell hk _).setCell hk _⟩
theorem dec_same(a b:Nat):((str (dec a)).toList==(str (dec b)).toList)=decide (a=b):=by
 rw[ByteArray.toList_eq,ByteArray.toList_eq,str_toList,str_toList]
 by_cases h:a=b
 · subst h;rw[decide_eq_true rfl,beq_self_eq_true]
 · rw[decide_eq_false h,beq_eq_false_iff_ne];intro e;refine h ?_;have:=congrArg numOf e;rw[numOf_dec,numOf_dec]at this;exact this
theorem num_zero:rB 0=false/\rS 0=⟨#[48]⟩/\str (dec 1)=⟨#[49]⟩:=⟨rfl,dec0,dec1⟩
theorem hfz(w:World)(E:Int):Hid (∀w2,Below w.heap.size w w2 → NumTold4 w (((w2.setCell ⟨w.heap.size+1+1,0,none⟩ (.bool false)).setCell ⟨w.heap.size+1+1,1,none⟩ (.string ⟨#[48]⟩)).setCell ⟨w.heap.size+1+1,2,none⟩ (.string ⟨#[49]⟩)) (.returned (.tuple #[.agg #[.bool false,.string ⟨#[48]⟩,.string ⟨#[49]⟩],.int .i64 E])) 0 1 E):=Lib.hid (fun w2 hb=>NumTold4.done (k:=w.heap.size+1+1) 0 1 E hb (by omega) num_zero.1 num_zero.2.1 num_zero.2.2)
theorem zen:Hid (∀wz,Calls Tryz.prog 64 #[] wz fun e w'=>e=.returned (.agg #[.bool false,.string ⟨#[48]⟩,.string ⟨#[49]⟩]) ∧ Below wz.heap.size wz w'):=by
 have ZE:=Lib.hid (fun wz=>r3Zero_any wz)
 unfold NumTold at ZE
 rw[num_zero.1,num_zero.2.1,num_zero.2.2]at ZE
 exact ZE
theorem rB_nat0(N:Nat):rB (N:Int)=false:=by unfold rB;exact decide_eq_false (by omega)
theorem rS_nat0(N:Nat):rS (N:Int)=str (dec N):=by unfold rS;rw[Int.natAbs_natCast]
set_option linter.unusedVariables false
set_option linter.unusedSimpArgs false
def rd13(b:Bool)(s t:ByteArray):Bool:=decide (s.size<=40)&&(decide (t.size<=40)&&ofO b s t)
theorem size_dl13(N:Nat):(str (dec N)).size=dl N:=by rw[str_size];exact sdig_length _ _
theorem ten40:(10:Nat)^40<4294967296^7:=by decide
theorem rd13_spec{b:Bool}{s t:ByteArray}(h:rd13 b s t=true):rB (ofP b s t)=b/\rS (ofP b s t)=s/\str (dec (ofQ b s t))=t/\0<ofQ b s t/\Nat.gcd (ofP b s t).natAbs (ofQ b s t)=1/\dl (ofP b s t).natAbs<=40/\dl (ofQ b s t)<=40/\(ofP b s t).natAbs<4294967296^7/\ofQ b s t<4294967296^7:=by
 unfold rd13 ofO at h;rw[Bool.and_eq_true,Bool.and_eq_true,Bool.and_eq_true,decide_eq_true_eq,decide_eq_true_eq,decide_eq_true_eq]at h;obtain⟨hs,ht,hk,h1,h2,h3⟩:=h;unfold ofK at hk;rw[Bool.and_eq_true,Bool.and_eq_true,Bool.not_eq_true',decide_eq_false_iff_not]at hk;have hM:0<numOf t.data.toList:=by omega
 have d1:dl (ofP b s t).natAbs<=40:=by have:=congrArg ByteArray.size h2;unfold rS at this;rw[size_dl13]at this;omega
 have d2:dl (ofQ b s t)<=40:=by have:=congrArg ByteArray.size h3;rw[size_dl13]at this;omega
 have lim:∀N,dl N<=40->N<4294967296^7:=fun N h=>Nat.lt_trans (Nat.lt_of_lt_of_le (dl_lt N) (Nat.pow_le_pow_right (by omega) h)) ten40
 exact⟨h1,h2,h3,loQ_pos _ hM,lo_cop _ hM,d1,d2,lim _ d1,lim _ d2⟩
theorem read13_yes (b : Bool) (s t : ByteArray) (w : World) (h : rd13 b s t = true) :
    Calls Tryz.prog 15 #[.agg #[.bool b,.string s,.string t]] w fun e w'=>RatTold3 w w' e (ofP b s t) (ofQ b s t) true:=by
 unfold rd13 at h;rw[Bool.and_eq_true,Bool.and_eq_true,decide_eq_true_eq,decide_eq_true_eq]at h;have BB:=Lib.hid ((Bag.start w).box3 (.bool b) (.string s) (.string t) 46 |>.box3 (.slice none 0 0) (.bool false) (.slice none 0 0) 53);simp only[World.size_alloc]at BB;have RT:=Lib.hid (fun wz=>r3Right_any b s t wz (by omega) (by omega));have OF:=Lib.hid (fun wz=>of_any' b s t wz (by omega) (by omega));rw[h.2.2,if_pos rfl,if_pos rfl]at OF;rw[h.2.2]at RT;unfold RatTold3 at OF;generalize ofP b s t=P at *;generalize ofQ b s t=Q at *;have⟨q0,q1,q2⟩:=BB.out.now.2.1.c3;have l1:decide ((40:Int)<s.size)=false:=decide_eq_false (by omega);have l2:decide ((40:Int)<t.size)=false:=decide_eq_false (by omega);clear h;go_enter Tryz.func15,Tryz.ntmps15;go_wp2_with fail;go_at_call 54;refine(RT.out _).mono ?_;rintro e w2 ⟨rfl,hb2⟩;have BB:=bgo BB hb2;have⟨q0,q1,q2⟩:=BB.out.now.2.1.c3;clear hb2;go_wp2_with fail;go_at_call 55;refine(OF.out _).mono ?_;rintro e w3 ⟨a3,n3,c3,m3,a4,n4,c4,rfl,hr,hb3⟩;have BB:=bgo BB hb3;have hs:=BB.out.now.1;have⟨u0,u1,u2,g0,g1,g2⟩:=hs.s6;have HS:=hs.set (.slice a3 n3 c3) (.bool m3) (.slice a4 n4 c4);have HE:=Lib.hid (RatTold3.done true BB.out.below (by omega) hs hr);clear hs hr hb3;go_wp2;exact bodyPost_ret (by simp[results,Tryz.results15,go_sem,HS]) rfl HE.out
theorem read13_no (b : Bool) (s t : ByteArray) (w : World) (h : rd13 b s t = false) :
    Calls Tryz.prog 15 #[.agg #[.bool b,.string s,.string t]] w fun e w'=>RatTold3 w w' e 0 1 false:=by
 have BB:=Lib.hid ((Bag.start w).box3 (.bool b) (.string s) (.string t) 46 |>.box3 (.slice none 0 0) (.bool false) (.slice none 0 0) 53);simp only[World.size_alloc]at BB;have⟨q0,q1,q2⟩:=BB.out.now.2.1.c3
 by_cases h1:s.size<=40
 · by_cases h2:t.size<=40
   · unfold rd13 at h;rw[decide_eq_true h1,decide_eq_true h2,Bool.true_and,Bool.true_and]at h;have RT:=Lib.hid (fun wz=>r3Right_any b s t wz (by omega) (by omega));rw[h]at RT;have l1:decide ((40:Int)<s.size)=false:=decide_eq_false (by omega);have l2:decide ((40:Int)<t.size)=false:=decide_eq_false (by omega);clear h h1 h2;go_enter Tryz.func15,Tryz.ntmps15;go_wp2_with fail;go_at_call 54;refine(RT.out _).mono ?_;rintro e w2 ⟨rfl,hb2⟩;have BB:=bgo BB hb2;have hs:=BB.out.now.1;have⟨u0,u1,u2,g0,g1,g2⟩:=hs.s6;have HS:=hs.set (.slice none 0 0) (.bool false) (.slice none 0 0);have HE:=Lib.hid (RatTold3.done false BB.out.below (by omega) hs (RatAt.zero _));clear hs hb2;go_wp2;exact bodyPost_ret (by simp[results,Tryz.results15,go_sem,HS]) rfl HE.out
   · have l1:decide ((40:Int)<s.size)=false:=decide_eq_false (by omega);have l2:decide ((40:Int)<t.size)=true:=decide_eq_true (by omega);have hs:=BB.out.now.1;have⟨u0,u1,u2,g0,g1,g2⟩:=hs.s6;clear hs h h1 h2;go_enter Tryz.func15,Tryz.ntmps15;go_wp2;exact bodyPost_ret (v:=.tuple #[.agg #[.slice none 0 0,.bool false,.slice none 0 0],.bool false]) (by simp[results,Tryz.results15,go_sem]) rfl ⟨none,0,0,false,none,0,0,rfl,RatAt.zero _,BB.out.below⟩
 · have l1:decide ((40:Int)<s.size)=true:=decide_eq_true (by omega);have hs:=BB.out.now.1;have⟨u0,u1,u2,g0,g1,g2⟩:=hs.s6;clear hs h h1;go_enter Tryz.func15,Tryz.ntmps15;go_wp2;exact bodyPost_ret (v:=.tuple #[.agg #[.slice none 0 0,.bool false,.slice none 0 0],.bool false]) (by simp[results,Tryz.results15,go_sem]) rfl ⟨none,0,0,false,none,0,0,rfl,RatAt.zero _,BB.out.below⟩
theorem aw13:twoT 33 2 1 5 1 4=(10,1,0)/\twoT 42 2 1 (-3) 1 4=(1,8,0)/\twoT 124 3 1 7 1 4=(1,1,0):=by
 refine⟨?_,?_,?_⟩<;>decide +kernel
theorem num1:rB 1=false/\rS 1=⟨#[49]⟩/\str (dec 8)=⟨#[56]⟩:=⟨rfl,dec1,by rw[dec_small (by omega)];rfl⟩
theorem dl_small:dl (2:Int).natAbs<=60:=Nat.le_trans (dl_le 2 1 (by omega) (by decide)) (by omega)
theorem dl_small3:dl (3:Int).natAbs<=60:=Nat.le_trans (dl_le 3 1 (by omega) (by decide)) (by omega)
theorem dl_small1:dl 1<=60:=Nat.le_trans (dl_le 1 1 (by omega) (by decide)) (by omega)
theorem awake13_any  (w : World)  :
    Calls Tryz.prog 16 #[] w fun e w'=>e=.returned (.bool true)/\Below w.heap.size w w':=by
 have F1:=Lib.hid (fun wz=>ratFrom_any (2) wz (by omega));have F2:=Lib.hid (fun wz=>ratFrom_any (5) wz (by omega));have F3:=Lib.hid (fun wz=>ratFrom_any (-3) wz (by omega));have F4:=Lib.hid (fun wz=>ratFrom_any (3) wz (by omega));have F5:=Lib.hid (fun wz=>ratFrom_any (7) wz (by omega));have T1:=Lib.hid (fun a n c m a2 n2 c2 b k l v b2 k2 l2 wz h g=>dtwo_any 33 a n c m a2 n2 c2 2 1 b k l v b2 k2 l2 (5) 1 4 wz h g (by decide) (by decide) 1 (by omega) (by decide) (by decide) (by decide) (by decide) (by omega) (fun _=>⟨dl_small,dl_small1⟩));have T2:=Lib.hid (fun a n c m a2 n2 c2 b k l v b2 k2 l2 wz h g=>dtwo_any 42 a n c m a2 n2 c2 2 1 b k l v b2 k2 l2 (-3) 1 4 wz h g (by decide) (by decide) 1 (by omega) (by decide) (by decide) (by decide) (by decide) (by omega) (fun _=>⟨dl_small,dl_small1⟩));have T3:=Lib.hid (fun a n c m a2 n2 c2 b k l v b2 k2 l2 wz h g=>dtwo_any 124 a n c m a2 n2 c2 3 1 b k l v b2 k2 l2 (7) 1 4 wz h g (by decide) (by decide) 1 (by omega) (by decide) (by decide) (by decide) (by decide) (by omega) (fun _=>⟨dl_small3,dl_small1⟩));rw[aw13.1]at T1;rw[aw13.2.1]at T2;rw[aw13.2.2]at T3;have N1:=Lib.hid (fun a n c m a2 n2 c2 wz h=>num_any a n c m a2 n2 c2 10 1 wz h (by decide) 1 (by omega) (by decide) (by decide));have N2:=Lib.hid (fun a n c m a2 n2 c2 wz h=>num_any a n c m a2 n2 c2 1 8 wz h (by decide) 1 (by omega) (by decide) (by decide));have N3:=Lib.hid (fun a n c m a2 n2 c2 wz h=>num_any a n c m a2 n2 c2 1 1 wz h (by decide) 1 (by omega) (by decide) (by decide));have R1:=Lib.hid (fun wz=>r3From_any 10 wz (by omega));have R3:=Lib.hid (fun wz=>r3From_any 1 wz (by omega));unfold RatTold4 at T1 T2 T3;unfold NumTold at N1 N2 N3 R1 R3;rw[num1.1,num1.2.1,num1.2.2]at N2;rw[num1.1,num1.2.1,dec1]at N3 R3;rw[dec1]at N1 R1;generalize rB 10=b1 at *;generalize rS 10=s1 at *;have BB:=Lib.hid (Bag.start w);go_enter Tryz.func16,Tryz.ntmps16;go_wp2_with fail;go_at_call 56;refine(F1.out _).mono ?_;rintro e w1 ⟨x1,xn1,xc1,xm1,y1,yn1,yc1,rfl,hr1,hb1⟩;have BB:=Lib.hid ((BB.out.go hb1).rat hr1);clear hb1;clear hr1;go_wp2_with fail;go_at_call 56;refine(F2.out _).mono ?_;rintro e w2 ⟨x2,xn2,xc2,xm2,y2,yn2,yc2,rfl,hr2,hb2⟩;have BB:=Lib.hid ((BB.out.go hb2).rat hr2);clear hb2;clear hr2;go_wp2_with fail;go_at_call 17;refine(T1.out _ _ _ _ _ _ _ _ _ _ _ _ _ _ _ BB.out.now.2.1 BB.out.now.1).mono ?_;rintro e w3 ⟨x3,xn3,xc3,xm3,y3,yn3,yc3,rfl,hr3,hb3⟩;have BB:=Lib.hid (((BB.out.go hb3).rat hr3).box3 (.slice x3 xn3 xc3) (.bool xm3) (.slice y3 yn3 yc3) 53);clear hb3;clear hr3;go_wp2_with fail;go_at_call 56;refine(F1.out _).mono ?_;rintro e w4 ⟨x4,xn4,xc4,xm4,y4,yn4,yc4,rfl,hr4,hb4⟩;have BB:=Lib.hid ((BB.out.go hb4).rat hr4);clear hb4;clear hr4;go_wp2_with fail;go_at_call 56;refine(F3.out _).mono ?_;rintro e w5 ⟨x5,xn5,xc5,xm5,y5,yn5,yc5,rfl,hr5,hb5⟩
 have BB:=Lib.hid ((BB.out.go hb5).rat hr5);clear hb5;clear hr5;go_wp2_with fail;go_at_call 17;refine(T2.out _ _ _ _ _ _ _ _ _ _ _ _ _ _ _ BB.out.now.2.1 BB.out.now.1).mono ?_;rintro e w6 ⟨x6,xn6,xc6,xm6,y6,yn6,yc6,rfl,hr6,hb6⟩;have BB:=Lib.hid (((BB.out.go hb6).rat hr6).box3 (.slice x6 xn6 xc6) (.bool xm6) (.slice y6 yn6 yc6) 53);clear hb6;clear hr6;go_wp2_with fail;go_at_call 56;refine(F4.out _).mono ?_;rintro e w7 ⟨x7,xn7,xc7,xm7,y7,yn7,yc7,rfl,hr7,hb7⟩;have BB:=Lib.hid ((BB.out.go hb7).rat hr7);clear hb7;clear hr7;go_wp2_with fail;go_at_call 56;refine(F5.out _).mono ?_;rintro e w8 ⟨x8,xn8,xc8,xm8,y8,yn8,yc8,rfl,hr8,hb8⟩;have BB:=Lib.hid ((BB.out.go hb8).rat hr8);clear hb8;clear hr8;go_wp2_with fail;go_at_call 17;refine(T3.out _ _ _ _ _ _ _ _ _ _ _ _ _ _ _ BB.out.now.2.1 BB.out.now.1).mono ?_;rintro e w9 ⟨x9,xn9,xc9,xm9,y9,yn9,yc9,rfl,hr9,hb9⟩;have BB:=Lib.hid (((BB.out.go hb9).rat hr9).box3 (.slice x9 xn9 xc9) (.bool xm9) (.slice y9 yn9 yc9) 53);clear hb9;clear hr9;have⟨q00,q01,q02⟩:=BB.out.now.2.2.2.2.2.2.2.2.1.c3;go_wp2_with fail;go_at_call 21;refine(N1.out _ _ _ _ _ _ _ _ BB.out.now.2.2.2.2.2.2.2.2.2.1).mono ?_;rintro e w10 ⟨rfl,hb10⟩;have BB:=bgo BB hb10;clear hb10;clear q00 q01 q02;have⟨q00,q01,q02⟩:=BB.out.now.2.2.2.2.2.2.2.2.1.c3;go_wp2_with fail;go_at_call 57;refine(R1.out _).mono ?_;rintro e w11 ⟨rfl,hb11⟩;have BB:=bgo BB hb11;clear hb11;clear q00 q01 q02;have⟨q00,q01,q02⟩:=BB.out.now.2.2.2.2.2.2.2.2.1.c3;clear q00 q01 q02;have⟨q00,q01,q02⟩:=BB.out.now.2.2.2.2.1.c3;go_wp2_with fail;go_at_call 21;refine(N2.out _ _ _ _ _ _ _ _ BB.out.now.2.2.2.2.2.1).mono ?_;rintro e w12 ⟨rfl,hb12⟩;have BB:=bgo BB hb12;clear hb12;clear q00 q01 q02;have⟨q00,q01,q02⟩:=BB.out.now.2.2.2.2.1.c3;clear q00 q01 q02;have⟨q00,q01,q02⟩:=BB.out.now.1.c3;go_wp2_with fail;go_at_call 21;refine(N3.out _ _ _ _ _ _ _ _ BB.out.now.2.1).mono ?_;rintro e w13 ⟨rfl,hb13⟩;have BB:=bgo BB hb13;clear hb13;clear q00 q01 q02;have⟨q00,q01,q02⟩:=BB.out.now.1.c3;go_wp2_with fail;go_at_call 57;refine(R3.out _).mono ?_;rintro e w14 ⟨rfl,hb14⟩;have BB:=bgo BB hb14;clear hb14;clear q00 q01 q02;have⟨q00,q01,q02⟩:=BB.out.now.1.c3;go_wp2;go_ret;exact⟨rfl,BB.out.below⟩
theorem rcompare13_any (c n : Int) (w : World)  :
    Calls Tryz.prog 66 #[.int .i32 c,.int .i64 n] w fun e w'=>e=.returned (.bool (cmpB c n))/\Below w.heap.size w w':=by
 have HE:=Lib.hid (Below.refl w.heap.size w);have tri:n<0∨n=0∨0<n:=by omega
 by_cases h:c=60∨c=8804∨c=61∨c=8805∨c=62
 · rcases h with rfl | rfl | rfl | rfl | rfl
   · rcases tri with hn | hn | hn
     · have e:cmpB 60 n=true:=by
         unfold cmpB
         simp
         try omega
       rw[e];clear e;have dn:decide (n<0)=true:=decide_eq_true hn;have dz:(n==0)=false:=beq_eq_false_iff_ne.2 (by omega);have dp:decide (0<n)=false:=decide_eq_false (by omega);clear hn;go_enter Tryz.func66,Tryz.ntmps66;go_wp2;go_ret;exact⟨rfl,HE.out⟩
     · have e:cmpB 60 n=false:=by
         unfold cmpB
         simp
         try omega
       rw[e];clear e;subst hn;go_enter Tryz.func66,Tryz.ntmps66;go_wp2;go_ret;exact⟨rfl,HE.out⟩
     · have e:cmpB 60 n=false:=by
         unfold cmpB
         simp
         try omega
       rw[e];clear e;have dn:decide (n<0)=false:=decide_eq_false (by omega);have dz:(n==0)=false:=beq_eq_false_iff_ne.2 (by omega);have dp:decide (0<n)=true:=decide_eq_true hn;clear hn;go_enter Tryz.func66,Tryz.ntmps66;go_wp2;go_ret;exact⟨rfl,HE.out⟩
   · rcases tri with hn | hn | hn
     · have e:cmpB 8804 n=true:=by
         unfold cmpB
         simp
         try omega
       rw[e];clear e;have dn:decide (n<0)=true:=decide_eq_true hn;have dz:(n==0)=false:=beq_eq_false_iff_ne.2 (by omega);have dp:decide (0<n)=false:=decide_eq_false (by omega);clear hn;go_enter Tryz.func66,Tryz.ntmps66;go_wp2;go_ret;exact⟨rfl,HE.out⟩
     · have e:cmpB 8804 n=true:=by
         unfold cmpB
         simp
         try omega
       rw[e];clear e;subst hn;go_enter Tryz.func66,Tryz.ntmps66;go_wp2;go_ret;exact⟨rfl,HE.out⟩
     · have e:cmpB 8804 n=false:=by
         unfold cmpB
         simp
         try omega
       rw[e];clear e;have dn:decide (n<0)=false:=decide_eq_false (by omega);have dz:(n==0)=false:=beq_eq_false_iff_ne.2 (by omega);have dp:decide (0<n)=true:=decide_eq_true hn;clear hn;go_enter Tryz.func66,Tryz.ntmps66;go_wp2;go_ret;exact⟨rfl,HE.out⟩
   · rcases tri with hn | hn | hn
     · have e:cmpB 61 n=false:=by
         unfold cmpB
         simp
         try omega
       rw[e];clear e;have dn:decide (n<0)=true:=decide_eq_true hn;have dz:(n==0)=false:=beq_eq_false_iff_ne.2 (by omega);have dp:decide (0<n)=false:=decide_eq_false (by omega);clear hn;go_enter Tryz.func66,Tryz.ntmps66;go_wp2;go_ret;exact⟨rfl,HE.out⟩
     · have e:cmpB 61 n=true:=by
         unfold cmpB
         simp
         try omega
       rw[e];clear e;subst hn;go_enter Tryz.func66,Tryz.ntmps66;go_wp2;go_ret;exact⟨rfl,HE.out⟩
     · have e:cmpB 61 n=false:=by
         unfold cmpB
         simp
         try omega
       rw[e];clear e;have dn:decide (n<0)=false:=decide_eq_false (by omega);have dz:(n==0)=false:=beq_eq_false_iff_ne.2 (by omega);have dp:decide (0<n)=true:=decide_eq_true hn;clear hn;go_enter Tryz.func66,Tryz.ntmps66;go_wp2;go_ret;exact⟨rfl,HE.out⟩
   · rcases tri with hn | hn | hn
     · have e:cmpB 8805 n=false:=by
         unfold cmpB
         simp
         try omega
       rw[e];clear e;have dn:decide (n<0)=true:=decide_eq_true hn;have dz:(n==0)=false:=beq_eq_false_iff_ne.2 (by omega);have dp:decide (0<n)=false:=decide_eq_false (by omega);clear hn;go_enter Tryz.func66,Tryz.ntmps66;go_wp2;go_ret;exact⟨rfl,HE.out⟩
     · have e:cmpB 8805 n=true:=by
         unfold cmpB
         simp
         try omega
       rw[e];clear e;subst hn;go_enter Tryz.func66,Tryz.ntmps66;go_wp2;go_ret;exact⟨rfl,HE.out⟩
     · have e:cmpB 8805 n=true:=by
         unfold cmpB
         simp
         try omega
       rw[e];clear e;have dn:decide (n<0)=false:=decide_eq_false (by omega);have dz:(n==0)=false:=beq_eq_false_iff_ne.2 (by omega);have dp:decide (0<n)=true:=decide_eq_true hn;clear hn;go_enter Tryz.func66,Tryz.ntmps66;go_wp2;go_ret;exact⟨rfl,HE.out⟩
   · rcases tri with hn | hn | hn
     · have e:cmpB 62 n=false:=by
         unfold cmpB
         simp
         try omega
       rw[e];clear e;have dn:decide (n<0)=true:=decide_eq_true hn;have dz:(n==0)=false:=beq_eq_false_iff_ne.2 (by omega);have dp:decide (0<n)=false:=decide_eq_false (by omega);clear hn;go_enter Tryz.func66,Tryz.ntmps66;go_wp2;go_ret;exact⟨rfl,HE.out⟩
     · have e:cmpB 62 n=false:=by
         unfold cmpB
         simp
         try omega
       rw[e];clear e;subst hn;go_enter Tryz.func66,Tryz.ntmps66;go_wp2;go_ret;exact⟨rfl,HE.out⟩
     · have e:cmpB 62 n=true:=by
         unfold cmpB
         simp
         try omega
       rw[e];clear e;have dn:decide (n<0)=false:=decide_eq_false (by omega);have dz:(n==0)=false:=beq_eq_false_iff_ne.2 (by omega);have dp:decide (0<n)=true:=decide_eq_true hn;clear hn;go_enter Tryz.func66,Tryz.ntmps66;go_wp2;go_ret;exact⟨rfl,HE.out⟩
 · have hh:(c==60)=false/\(c==8804)=false/\(c==61)=false/\(c==8805)=false/\(c==62)=false:=by
     refine⟨?_,?_,?_,?_,?_⟩<;>(rw[beq_eq_false_iff_ne];omega)
   have e:cmpB c n = !decide (n=0):=by
    unfold cmpB;rw[if_neg (by omega),if_neg (by omega),if_neg (by omega),if_neg (by omega),if_neg (by omega)]
   obtain⟨h60,h8804,h61,h8805,h62⟩:=hh;rw[e];clear h e
   rcases tri with hn|hn|hn
   · rw[show(!decide (n=0))=true by simp;try omega];have dn:decide (n<0)=true:=decide_eq_true hn;have dz:(n==0)=false:=beq_eq_false_iff_ne.2 (by omega);have dp:decide (0<n)=false:=decide_eq_false (by omega);clear hn;go_enter Tryz.func66,Tryz.ntmps66;go_wp2;go_ret;exact⟨rfl,HE.out⟩
   · rw[show(!decide (n=0))=false by simp;try omega];subst hn;go_enter Tryz.func66,Tryz.ntmps66;go_wp2;go_ret;exact⟨rfl,HE.out⟩
   · rw[show(!decide (n=0))=true by simp;try omega];have dn:decide (n<0)=false:=decide_eq_false (by omega);have dz:(n==0)=false:=beq_eq_false_iff_ne.2 (by omega);have dp:decide (0<n)=true:=decide_eq_true hn;clear hn;go_enter Tryz.func66,Tryz.ntmps66;go_wp2;go_ret;exact⟨rfl,HE.out⟩
end Go.Proofs.YtdmmenaejkpnjaaGreatDoor
namespace Go.Proofs.YtdmmenaejkpnjaaGreatDoor
open Go.RowKit
def KRow(w:World)(ki:IntKind)(a:Option Addr)(n c:Nat)(f:Nat->Int):Prop:=n<=c/\c<=maxLen/\(n=0∨∃b off,a=some ⟨b,off,none⟩/\b<w.heap.size/\∀j,j<n->w.cell? ⟨b,off+j,none⟩=some (.int ki (f j)))
theorem KRow.below{w w':World}{ki:IntKind}{a:Option Addr}{n c:Nat}{f:Nat->Int}(h:KRow w ki a n c f)(hb:Below w.heap.size w w'):KRow w' ki a n c f:=by
 obtain⟨h1,h2,h3⟩:=h;refine⟨h1,h2,h3.imp id ?_⟩;rintro⟨b,off,rfl,hl,hc⟩;exact⟨b,off,rfl,Nat.lt_of_lt_of_le hl hb.size,fun j hj=>(hb.cell (p:=⟨b,off+j,none⟩) hl).trans (hc j hj)⟩
theorem KRow.get{w:World}{ki:IntKind}{a:Option Addr}{n c:Nat}{f:Nat->Int}(h:KRow w ki a n c f){j:Nat}(hj:j<n):∃b off,a=some ⟨b,off,none⟩/\b<w.heap.size/\w.cell? ⟨b,off+j,none⟩=some (.int ki (f j)):=by
 rcases h.2.2 with h|⟨b,off,rfl,hl,hc⟩
 · omega
 · exact⟨b,off,rfl,hl,hc j hj⟩
theorem KRow.len{w:World}{ki:IntKind}{a:Option Addr}{n c:Nat}{f:Nat->Int}(h:KRow w ki a n c f):n<=c/\n<=9223372036854775807:=by
 have h1:=h.1;have h2:=h.2.1;unfold maxLen at h2;exact⟨h1,by omega⟩
def Row(w:World)(g:Nat)(t:TypeId)(cs:Array Value):Prop:=w.heap[g]? = some (.cells cs t (0,0))
theorem Row.lt{w:World}{g:Nat}{t:TypeId}{cs:Array Value}(h:Row w g t cs):g<w.heap.size:=by
 rcases Nat.lt_or_ge g w.heap.size with h1|h1
 · exact h1
 · unfold Row at h;rw[Array.getElem?_eq_none h1]at h;cases h
theorem Row.below{w w':World}{g:Nat}{t:TypeId}{cs:Array Value}(h:Row w g t cs)(hb:Below w.heap.size w w'):Row w' g t cs:=(hb.block g h.lt).trans h
theorem Row.new(w:World)(t:TypeId)(cs:Array Value):Row (w.alloc (.cells cs t)) w.heap.size t cs:=heap_new _ _
theorem Row.cell{w:World}{g:Nat}{t:TypeId}{cs:Array Value}(h:Row w g t cs)(i:Nat):w.cell? ⟨g,i,none⟩=cs[i]? := cell_of_row w g i cs t (0,0) h
theorem Row.free{w:World}{g:Nat}{t:TypeId}{cs:Array Value}(h:Row w g t cs)(i:Nat):w.frozen? ⟨g,i,none⟩=false:=frozen_of_row w g i cs t h
theorem Bag.row{w0 w:World}{P:World->Prop}{g:Nat}{t:TypeId}{cs:Array Value}(h:Bag w0 P w)(q:Row w g t cs):Bag w0 (fun y=>Row y g t cs/\P y) w:=h.add (fun _ _ hb q=>q.below hb) q
theorem Row.put{w:World}{g:Nat}{t:TypeId}{cs:Array Value}(h:Row w g t cs)(cs':Array Value):Row (w.setRow g cs') g t cs':=setRow_heap w g cs cs' t (0,0) h
end Go.Proofs.YtdmmenaejkpnjaaGreatDoor
namespace Go.Proofs.YtdmmenaejkpnjaaGreatDoor
open Go.RowKit
attribute [local go_sem ↓] Go.wp_at_zero Go.wp_at_succ
set_option linter.unusedVariables false
set_option linter.unusedSimpArgs false
def sgD(j:Nat):Int:=([43,45,215,247,8968,8970,124,42,33,9055,9675,60,8804,61,8805,62,8800,8743,8744,9074,9073]:List Int).getD j 0
abbrev sdV:Array Value:=#[.int .i32 43,.int .i32 45,.int .i32 215,.int .i32 247,.int .i32 8968,.int .i32 8970,.int .i32 124,.int .i32 42,.int .i32 33,.int .i32 9055,.int .i32 9675,.int .i32 60,.int .i32 8804,.int .i32 61,.int .i32 8805,.int .i32 62,.int .i32 8800,.int .i32 8743,.int .i32 8744,.int .i32 9074,.int .i32 9073]
structure SdAt(y:World)(k:Nat):Prop where
 lt:k<y.heap.size
 at':∀j,j<21->y.cell? ⟨k,j,none⟩=some (.int .i32 (sgD j))
theorem SdAt.below{w w':World}{k:Nat}(h:SdAt w k)(hb:Below w.heap.size w w'):SdAt w' k:=⟨Nat.lt_of_lt_of_le h.lt hb.size,fun j hj=>(hb.cell (p:=⟨k,j,none⟩) h.lt).trans (h.at' j hj)⟩
theorem sdV_at:∀j,j<21->sdV[j]? = some (.int .i32 (sgD j)):=by
 intro j hj
 rcases(by omega:j=0∨j=1∨j=2∨j=3∨j=4∨j=5∨j=6∨j=7∨j=8∨j=9∨j=10∨j=11∨j=12∨j=13∨j=14∨j=15∨j=16∨j=17∨j=18∨j=19∨j=20)with rfl|rfl|rfl|rfl|rfl|rfl|rfl|rfl|rfl|rfl|rfl|rfl|rfl|rfl|rfl|rfl|rfl|rfl|rfl|rfl|rfl<;>rfl
theorem SdAt.new(w:World)(t:TypeId):SdAt (w.alloc (.cells sdV t)) w.heap.size:=⟨by simp,fun j hj=>((Row.new w t sdV).cell j).trans (sdV_at j hj)⟩
theorem Bag.sd{w0 w:World}{P:World->Prop}{k:Nat}(h:Bag w0 P w)(q:SdAt w k):Bag w0 (fun y=>SdAt y k/\P y) w:=h.add (fun _ _ hb q=>q.below hb) q
theorem hasD_yes{j:Nat}(hj:j<21):hasD (sgD j)=true:=by
 have:∀j:Fin 21,hasD (sgD j.val)=true:=by decide +kernel
 exact this ⟨j,hj⟩
theorem hasD_no{c:Int}(h:∀j,j<21->sgD j≠c):hasD c=false:=by
 cases e:hasD c with
 | false=>rfl
 | true =>
  unfold hasD cmpK logK numK at e;rw[Bool.or_eq_true,Bool.or_eq_true,decide_eq_true_eq,decide_eq_true_eq,decide_eq_true_eq]at e;have hall:∀x:Int,x=c->(∃j,j<21/\sgD j=x)->False:=fun x hx ⟨j,hj,he⟩=>h j hj (he.trans hx)
  exfalso
  rcases e with (rfl|rfl|rfl|rfl|rfl|rfl)|(rfl|rfl|rfl|rfl)|(rfl|rfl|rfl|rfl|rfl|rfl|rfl|rfl|rfl|rfl|rfl)
  · exact hall 60 rfl ⟨11,by omega,rfl⟩
  · exact hall 8804 rfl ⟨12,by omega,rfl⟩
  · exact hall 61 rfl ⟨13,by omega,rfl⟩
  · exact hall 8805 rfl ⟨14,by omega,rfl⟩
  · exact hall 62 rfl ⟨15,by omega,rfl⟩
  · exact hall 8800 rfl ⟨16,by omega,rfl⟩
  · exact hall 8743 rfl ⟨17,by omega,rfl⟩
  · exact hall 8744 rfl ⟨18,by omega,rfl⟩
  · exact hall 9074 rfl ⟨19,by omega,rfl⟩
  · exact hall 9073 rfl ⟨20,by omega,rfl⟩
  · exact hall 43 rfl ⟨0,by omega,rfl⟩
  · exact hall 45 rfl ⟨1,by omega,rfl⟩
  · exact hall 215 rfl ⟨2,by omega,rfl⟩
  · exact hall 247 rfl ⟨3,by omega,rfl⟩
  · exact hall 8968 rfl ⟨4,by omega,rfl⟩
  · exact hall 8970 rfl ⟨5,by omega,rfl⟩
  · exact hall 124 rfl ⟨6,by omega,rfl⟩
  · exact hall 42 rfl ⟨7,by omega,rfl⟩
  · exact hall 33 rfl ⟨8,by omega,rfl⟩
  · exact hall 9055 rfl ⟨9,by omega,rfl⟩
  · exact hall 9675 rfl ⟨10,by omega,rfl⟩
theorem rsigns13_any  (w : World)  :
    Calls Tryz.prog 71 #[] w fun e w'=>e=.returned (.slice (some ⟨w.heap.size,0,none⟩) 21 21)/\SdAt w' w.heap.size/\Below w.heap.size w w':=by
 have HE:Hid (SdAt (w.alloc (.cells sdV 21)) w.heap.size/\Below w.heap.size w (w.alloc (.cells sdV 21))):=Lib.hid ⟨SdAt.new w _,(Below.refl _ _).alloc (Nat.le_refl _) _⟩;go_enter Tryz.func71,Tryz.ntmps71;go_wp2;go_ret;exact⟨rfl,HE.out.1,HE.out.2⟩
theorem rhas13_any (c : Int) (w : World)  :
    Calls Tryz.prog 20 #[.int .i32 c] w fun e w'=>e=.returned (.bool (hasD c))/\Below w.heap.size w w':=by
 have SI:=Lib.hid (fun wz=>rsigns13_any wz);have BB:=Lib.hid (Bag.start w);go_enter Tryz.func20,Tryz.ntmps20;go_wp2_with fail;go_at_call 71;refine(SI.out _).mono ?_;rintro e w2 ⟨rfl,hs2,hb2⟩;have BB:=Lib.hid ((BB.out.go hb2).sd hs2);clear hs2 hb2 SI;obtain⟨kS,hkS⟩:∃z,w.heap.size=z:=⟨_,rfl⟩
 rw[hkS]at BB ⊢;clear hkS;go_wp2_with fail
 go_loopw [4] (fun i wr=>∃j:Nat,j<=21/\(∀i,i<j->sgD i≠c)/\i=.int .i64 (j:Int)/\Hid (Bag w (fun y=>SdAt y kS/\True) wr)) (fun i _=>22-(intOf i).toNat)
 case atStart=>exact⟨0,by omega,fun i hi=>absurd hi (Nat.not_lt_zero _),rfl,BB.out⟩
 case round =>
  obtain⟨j,hj,hne,rfl,hB⟩:=hrel;have BB:=Lib.hid hB.out;have HNE:=Lib.hid hne;clear hB hne
  by_cases hj2:j<21
  · have q0 := BB.out.now.1.at' j hj2; obtain ⟨c9, hc9⟩ : ∃ z, sgD j = z := ⟨_, rfl⟩
    rw[hc9]at q0
    by_cases he:c9=c
    · have hY:Hid (hasD c=true):=Lib.hid (by rw[← he,← hc9];exact hasD_yes hj2);have d1:(c9==c)=true:=beq_iff_eq.2 he;clear hc9 he;go_wp2;go_ret;exact⟨by rw[hY.out];rfl,BB.out.below⟩
    · have HN:Hid (∀i,i<j+1->sgD i≠c):=Lib.hid (fun i hi=>by
        by_cases e:i<j
        · exact HNE.out i e
        · obtain rfl:i=j:=by omega
          rw[hc9];exact he)
      have d1:(c9==c)=false:=beq_eq_false_iff_ne.2 he;clear hc9 he;go_wp2
      go_roundw
      case rel=>exact⟨j+1,by omega,HN.out,by go_num,BB.out⟩
      case measure=>simp[intOf];omega
  · obtain rfl:j=21:=by omega
    have hY:Hid (hasD c=false):=Lib.hid (hasD_no HNE.out);go_wp2;go_ret;exact⟨by rw[hY.out];rfl,BB.out.below⟩
theorem rtruth13_any (b : Bool) (w : World)  :
    Calls Tryz.prog 65 #[.bool b] w fun e w'=>NumTold w w' e (b1 b) 1:=by
 cases b with
 | false =>
  show Calls _ _ _ _ (fun e w'=>NumTold w w' e 0 1)
  have HF:=Lib.hid (fun w2 (hb:Below w.heap.size w w2)=>NumTold.done (k:=w.heap.size) 0 1 hb (by omega) rfl rfl rfl);have FR:=Lib.hid (fun wz=>r3Zero_any wz);unfold NumTold at FR;generalize rB 0=wb at *;generalize rS 0=ws at *;generalize str (dec 1)=wq at *;have BB:=Lib.hid ((Bag.start w).box3 (.bool false) (.string ⟨#[]⟩) (.string ⟨#[]⟩) 46);go_enter Tryz.func65,Tryz.ntmps65;go_wp2_with fail;go_at_call 64;refine(FR.out _).mono ?_;rintro e w1 ⟨rfl,hb1⟩;have BB:=bgo BB hb1;clear hb1;have hs:=BB.out.now.1;have⟨u0,u1,u2,g0,g1,g2⟩:=hs.s6;have HS:=hs.set (.bool wb) (.string ws) (.string wq);have HE:=Lib.hid (HF.out _ BB.out.below);clear hs;go_wp2;exact bodyPost_ret (by simp[results,Tryz.results65,go_sem,HS]) rfl HE.out
 | true =>
  show Calls _ _ _ _ (fun e w'=>NumTold w w' e 1 1)
  have HF:=Lib.hid (fun w2 (hb:Below w.heap.size w w2)=>NumTold.done (k:=w.heap.size) 1 1 hb (by omega) rfl rfl rfl);have FR:=Lib.hid (fun wz=>r3From_any 1 wz (by omega));unfold NumTold at FR;generalize rB 1=wb at *;generalize rS 1=ws at *;generalize str (dec 1)=wq at *;have BB:=Lib.hid ((Bag.start w).box3 (.bool false) (.string ⟨#[]⟩) (.string ⟨#[]⟩) 46);go_enter Tryz.func65,Tryz.ntmps65;go_wp2_with fail;go_at_call 57;refine(FR.out _).mono ?_;rintro e w1 ⟨rfl,hb1⟩;have BB:=bgo BB hb1;clear hb1;have hs:=BB.out.now.1;have⟨u0,u1,u2,g0,g1,g2⟩:=hs.s6;have HS:=hs.set (.bool wb) (.string ws) (.string wq);have HE:=Lib.hid (HF.out _ BB.out.below);clear hs;go_wp2;exact bodyPost_ret (by simp[results,Tryz.results65,go_sem,HS]) rfl HE.out
theorem cop64{n:Nat}(h:n%2=1):Nat.Coprime (2^64) n:=by
 refine Nat.Coprime.pow_left 64 ?_
 show Nat.gcd 2 n=1
 rw[Nat.gcd_rec,h];exact Nat.gcd_one_left 2
theorem sq_self{P:Int}(hP : -9223372036854775808<=P/\P<=9223372036854775807)(h:IntKind.i64.wrap (P*P)=P):P=0∨P=1:=by
 rw[IntKind.wrap_i64]at h
 have hd:(18446744073709551616:Int)∣P*(P-1):=by
  rw[Int.mul_sub,Int.mul_one];refine⟨(P*P+9223372036854775808) / 18446744073709551616,?_⟩
  omega
 have hd2:(2^64:Nat)∣P.natAbs*(P-1).natAbs:=by
  rw[← Int.natAbs_mul];have:=Int.natAbs_dvd_natAbs.2 hd;exact this
 by_cases he:P%2=0
 · have h1:=Nat.Coprime.dvd_of_dvd_mul_right (cop64 (n:=(P-1).natAbs) (by omega)) hd2;obtain⟨q,hq⟩:=h1
   omega
 · have h1:=Nat.Coprime.dvd_of_dvd_mul_left (cop64 (n:=P.natAbs) (by omega)) hd2;obtain⟨q,hq⟩:=h1
   omega
theorem rjudged_bad (x y : Int) (f g : Bool) (P : Int) (Q : Nat) (P' : Int) (Q' : Nat) (c0 : Int) (w : World) (hx : ∀ wz, Calls Tryz.prog 131 #[.agg #[.bool (rB P), .string (rS P), .string (str (dec Q))]] wz fun e w' => e = .returned (.tuple #[.int .i64 x, .bool f]) /\ Below wz.heap.size wz w') (hy : ∀ wz, Calls Tryz.prog 131 #[.agg #[.bool (rB P'), .string (rS P'), .string (str (dec Q'))]] wz fun e w' => e = .returned (.tuple #[.int .i64 y, .bool g]) /\ Below wz.heap.size wz w') (h : f = false ∨ (f = true /\ g = false) ∨ (f = true /\ g = true /\ IntKind.i64.wrap (x * x) ≠ x) ∨ (f = true /\ g = true /\ (x = 0 ∨ x = 1) /\ IntKind.i64.wrap (y * y) ≠ y)) :
    Calls Tryz.prog 68 #[.int .i32 c0,.agg #[.bool (rB P),.string (rS P),.string (str (dec Q))],.agg #[.bool (rB P'),.string (rS P'),.string (str (dec Q'))]] w fun e w'=>NumTold4 w w' e 0 1 22:=by
 have HF:=hfz w 22;have ZE:=zen;have I1:=Lib.hid hx;have I2:=Lib.hid hy;generalize rB P=ba at *;generalize rS P=sa at *;generalize str (dec Q)=qa at *;generalize rB P'=bb at *;generalize rS P'=sb at *;generalize str (dec Q')=qb at *;clear hx hy
 rcases h with rfl|⟨rfl,rfl⟩|⟨rfl,rfl,h⟩|⟨rfl,rfl,hx,h⟩
 · have BB:=bagN w ba sa qa bb sb qb;have⟨q00,q01,q02,q10,q11,q12⟩:=bq0 BB;go_enter Tryz.func68,Tryz.ntmps68;go_wp2_with fail;go_at_call 131;refine(I1.out _).mono ?_;rintro e w1 ⟨rfl,hb1⟩;have BB:=bgo BB hb1;clear hb1;clear q00 q01 q02 q10 q11 q12;have⟨q00,q01,q02,q10,q11,q12⟩:=bq0 BB;go_wp2_with fail;go_at_call 131;refine(I2.out _).mono ?_;rintro e w2 ⟨rfl,hb2⟩;have BB:=bgo BB hb2;clear hb2;clear q00 q01 q02 q10 q11 q12;have⟨q00,q01,q02,q10,q11,q12⟩:=bq0 BB;go_wp2_with fail;go_at_call 64;refine(ZE.out _).mono ?_;rintro e w3 ⟨rfl,hb3⟩;have BB:=bgo BB hb3;clear hb3;clear q00 q01 q02 q10 q11 q12;have⟨q00,q01,q02,q10,q11,q12⟩:=bq0 BB;have hs:=BB.out.now.1;have⟨u0,u1,u2,g0,g1,g2⟩:=hs.s6;have HS:=hs.set (.bool false) (.string ⟨#[48]⟩) (.string ⟨#[49]⟩);have HE:=Lib.hid (HF.out _ BB.out.below);clear hs;go_wp2;exact bodyPost_ret (by simp[results,Tryz.results68,go_sem,HS]) rfl HE.out
 · have BB:=bagN w ba sa qa bb sb qb;have⟨q00,q01,q02,q10,q11,q12⟩:=bq0 BB;go_enter Tryz.func68,Tryz.ntmps68;go_wp2_with fail;go_at_call 131;refine(I1.out _).mono ?_;rintro e w1 ⟨rfl,hb1⟩;have BB:=bgo BB hb1;clear hb1;clear q00 q01 q02 q10 q11 q12;have⟨q00,q01,q02,q10,q11,q12⟩:=bq0 BB;go_wp2_with fail;go_at_call 131;refine(I2.out _).mono ?_;rintro e w2 ⟨rfl,hb2⟩;have BB:=bgo BB hb2;clear hb2;clear q00 q01 q02 q10 q11 q12;have⟨q00,q01,q02,q10,q11,q12⟩:=bq0 BB;go_wp2_with fail;go_at_call 64;refine(ZE.out _).mono ?_;rintro e w3 ⟨rfl,hb3⟩;have BB:=bgo BB hb3;clear hb3;clear q00 q01 q02 q10 q11 q12;have⟨q00,q01,q02,q10,q11,q12⟩:=bq0 BB;have hs:=BB.out.now.1;have⟨u0,u1,u2,g0,g1,g2⟩:=hs.s6;have HS:=hs.set (.bool false) (.string ⟨#[48]⟩) (.string ⟨#[49]⟩);have HE:=Lib.hid (HF.out _ BB.out.below);clear hs;go_wp2;exact bodyPost_ret (by simp[results,Tryz.results68,go_sem,HS]) rfl HE.out
 · obtain⟨xx,hxx⟩:∃z,IntKind.i64.wrap (x*x)=z:=⟨_,rfl⟩
   rw[hxx]at h;have d0:(xx != x)=true:=bne_iff_ne.2 h;clear h;have BB:=bagN w ba sa qa bb sb qb;have⟨q00,q01,q02,q10,q11,q12⟩:=bq0 BB;go_enter Tryz.func68,Tryz.ntmps68;go_wp2_with fail;go_at_call 131;refine(I1.out _).mono ?_;rintro e w1 ⟨rfl,hb1⟩;have BB:=bgo BB hb1;clear hb1;clear q00 q01 q02 q10 q11 q12;have⟨q00,q01,q02,q10,q11,q12⟩:=bq0 BB;go_wp2_with fail;go_at_call 131;refine(I2.out _).mono ?_;rintro e w2 ⟨rfl,hb2⟩;have BB:=bgo BB hb2;clear hb2;clear q00 q01 q02 q10 q11 q12;have⟨q00,q01,q02,q10,q11,q12⟩:=bq0 BB;go_wp2_with fail;go_at_call 64;refine(ZE.out _).mono ?_;rintro e w3 ⟨rfl,hb3⟩;have BB:=bgo BB hb3;clear hb3;clear q00 q01 q02 q10 q11 q12;have⟨q00,q01,q02,q10,q11,q12⟩:=bq0 BB;have hs:=BB.out.now.1;have⟨u0,u1,u2,g0,g1,g2⟩:=hs.s6;have HS:=hs.set (.bool false) (.string ⟨#[48]⟩) (.string ⟨#[49]⟩);have HE:=Lib.hid (HF.out _ BB.out.below);clear hs;go_wp2;exact bodyPost_ret (by simp[results,Tryz.results68,go_sem,HS]) rfl HE.out
 · obtain⟨yy,hyy⟩:∃z,IntKind.i64.wrap (y*y)=z:=⟨_,rfl⟩
   rw[hyy]at h;have d0:(yy != y)=true:=bne_iff_ne.2 h;clear h
   rcases hx with rfl|rfl
   · have BB:=bagN w ba sa qa bb sb qb;have⟨q00,q01,q02,q10,q11,q12⟩:=bq0 BB;go_enter Tryz.func68,Tryz.ntmps68;go_wp2_with fail;go_at_call 131;refine(I1.out _).mono ?_;rintro e w1 ⟨rfl,hb1⟩;have BB:=bgo BB hb1;clear hb1;clear q00 q01 q02 q10 q11 q12;have⟨q00,q01,q02,q10,q11,q12⟩:=bq0 BB;go_wp2_with fail;go_at_call 131;refine(I2.out _).mono ?_;rintro e w2 ⟨rfl,hb2⟩;have BB:=bgo BB hb2;clear hb2;clear q00 q01 q02 q10 q11 q12;have⟨q00,q01,q02,q10,q11,q12⟩:=bq0 BB;go_wp2_with fail;go_at_call 64;refine(ZE.out _).mono ?_;rintro e w3 ⟨rfl,hb3⟩;have BB:=bgo BB hb3;clear hb3;clear q00 q01 q02 q10 q11 q12;have⟨q00,q01,q02,q10,q11,q12⟩:=bq0 BB;have hs:=BB.out.now.1;have⟨u0,u1,u2,g0,g1,g2⟩:=hs.s6;have HS:=hs.set (.bool false) (.string ⟨#[48]⟩) (.string ⟨#[49]⟩);have HE:=Lib.hid (HF.out _ BB.out.below);clear hs;go_wp2;exact bodyPost_ret (by simp[results,Tryz.results68,go_sem,HS]) rfl HE.out
   · have BB:=bagN w ba sa qa bb sb qb;have⟨q00,q01,q02,q10,q11,q12⟩:=bq0 BB;go_enter Tryz.func68,Tryz.ntmps68;go_wp2_with fail;go_at_call 131;refine(I1.out _).mono ?_;rintro e w1 ⟨rfl,hb1⟩;have BB:=bgo BB hb1;clear hb1;clear q00 q01 q02 q10 q11 q12;have⟨q00,q01,q02,q10,q11,q12⟩:=bq0 BB;go_wp2_with fail;go_at_call 131;refine(I2.out _).mono ?_;rintro e w2 ⟨rfl,hb2⟩;have BB:=bgo BB hb2;clear hb2;clear q00 q01 q02 q10 q11 q12;have⟨q00,q01,q02,q10,q11,q12⟩:=bq0 BB;go_wp2_with fail;go_at_call 64;refine(ZE.out _).mono ?_;rintro e w3 ⟨rfl,hb3⟩;have BB:=bgo BB hb3;clear hb3;clear q00 q01 q02 q10 q11 q12;have⟨q00,q01,q02,q10,q11,q12⟩:=bq0 BB;have hs:=BB.out.now.1;have⟨u0,u1,u2,g0,g1,g2⟩:=hs.s6;have HS:=hs.set (.bool false) (.string ⟨#[48]⟩) (.string ⟨#[49]⟩);have HE:=Lib.hid (HF.out _ BB.out.below);clear hs;go_wp2;exact bodyPost_ret (by simp[results,Tryz.results68,go_sem,HS]) rfl HE.out
theorem rjudged_0_0 (c0 : Int) (w : World) (hc : logK c0 = true) (Z : Int) (hz : b1 (logB c0 0 0) = Z) :
    Calls Tryz.prog 68 #[.int .i32 c0,.agg #[.bool (rB 0),.string (rS 0),.string (str (dec 1))],.agg #[.bool (rB 0),.string (rS 0),.string (str (dec 1))]] w fun e w'=>NumTold4 w w' e Z 1 0:=by
 have HF:=Lib.hid (fun w2 (hb:Below w.heap.size w w2)=>NumTold4.done (k:=w.heap.size+1+1) Z 1 0 hb (by omega) rfl rfl rfl);have I1:Hid (∀wz,Calls Tryz.prog 131 #[.agg #[.bool (rB 0),.string (rS 0),.string (str (dec 1))]] wz fun e w'=>e=.returned (.tuple #[.int .i64 0,.bool true])/\Below wz.heap.size wz w'):=Lib.hid (fun wz=>r3Int_any 0 1 wz (Nat.le_trans (dl_le _ 1 (by omega) (by decide)) (by omega)));have I2:Hid (∀wz,Calls Tryz.prog 131 #[.agg #[.bool (rB 0),.string (rS 0),.string (str (dec 1))]] wz fun e w'=>e=.returned (.tuple #[.int .i64 0,.bool true])/\Below wz.heap.size wz w'):=Lib.hid (fun wz=>r3Int_any 0 1 wz (Nat.le_trans (dl_le _ 1 (by omega) (by decide)) (by omega)));have TR:=Lib.hid (fun b wz (h:b1 b=Z)=>(by rw[← h];exact rtruth13_any b wz:Calls Tryz.prog 65 #[.bool b] wz fun e w'=>NumTold wz w' e Z 1));unfold NumTold at TR;generalize rB Z=wb at *;generalize rS Z=ws at *;have dq:str (dec 1)=⟨#[49]⟩:=dec1;rw[dq]at HF TR I1 I2 ⊢;clear dq;obtain⟨ba,hba⟩:∃z,rB 0=z:=⟨_,rfl⟩
 obtain⟨sa,hsa⟩:∃z,rS 0=z:=⟨_,rfl⟩
 rw[hba,hsa]at I1 ⊢;rw[hba,hsa]at I2;obtain⟨bb,hbb⟩:∃z,ba=z:=⟨_,rfl⟩
 obtain⟨sb,hsb⟩:∃z,sa=z:=⟨_,rfl⟩
 clear hba hsa hbb hsb
 rcases of_decide_eq_true hc with rfl|rfl|rfl|rfl
 all_goals
  clear hc;have BB:=bagN w ba sa ⟨#[49]⟩ ba sa ⟨#[49]⟩;have⟨q00,q01,q02,q10,q11,q12⟩:=bq0 BB;go_enter Tryz.func68,Tryz.ntmps68;go_wp2_with fail;go_at_call 131;(with_reducible refine(I1.out _).mono ?_);rintro e w1 ⟨rfl,hb1⟩;have BB:=bgo BB hb1;clear hb1;clear q00 q01 q02 q10 q11 q12;have⟨q00,q01,q02,q10,q11,q12⟩:=bq0 BB;go_wp2_with fail;go_at_call 131;(with_reducible refine(I2.out _).mono ?_);rintro e w2 ⟨rfl,hb2⟩;have BB:=bgo BB hb2;clear hb2;clear q00 q01 q02 q10 q11 q12;have⟨q00,q01,q02,q10,q11,q12⟩:=bq0 BB;go_wp2_with fail;go_at_call 65
  (first|(refine(TR.out false _ (show b1 false=Z from hz)).mono ?_)|(refine(TR.out true _ (show b1 true=Z from hz)).mono ?_))
  rintro e w3 ⟨rfl,hb3⟩;have BB:=bgo BB hb3;clear hb3;clear q00 q01 q02 q10 q11 q12;have⟨q00,q01,q02,q10,q11,q12⟩:=bq0 BB;have hs:=BB.out.now.1;have⟨u0,u1,u2,g0,g1,g2⟩:=hs.s6;have HS:=hs.set (.bool wb) (.string ws) (.string ⟨#[49]⟩);have HE:=Lib.hid (HF.out _ BB.out.below);clear hs;go_wp2;exact bodyPost_ret (by simp[results,Tryz.results68,go_sem,HS]) rfl HE.out
theorem rjudged_0_1 (c0 : Int) (w : World) (hc : logK c0 = true) (Z : Int) (hz : b1 (logB c0 0 1) = Z) :
    Calls Tryz.prog 68 #[.int .i32 c0,.agg #[.bool (rB 0),.string (rS 0),.string (str (dec 1))],.agg #[.bool (rB 1),.string (rS 1),.string (str (dec 1))]] w fun e w'=>NumTold4 w w' e Z 1 0:=by
 have HF:=Lib.hid (fun w2 (hb:Below w.heap.size w w2)=>NumTold4.done (k:=w.heap.size+1+1) Z 1 0 hb (by omega) rfl rfl rfl);have I1:Hid (∀wz,Calls Tryz.prog 131 #[.agg #[.bool (rB 0),.string (rS 0),.string (str (dec 1))]] wz fun e w'=>e=.returned (.tuple #[.int .i64 0,.bool true])/\Below wz.heap.size wz w'):=Lib.hid (fun wz=>r3Int_any 0 1 wz (Nat.le_trans (dl_le _ 1 (by omega) (by decide)) (by omega)));have I2:Hid (∀wz,Calls Tryz.prog 131 #[.agg #[.bool (rB 1),.string (rS 1),.string (str (dec 1))]] wz fun e w'=>e=.returned (.tuple #[.int .i64 1,.bool true])/\Below wz.heap.size wz w'):=Lib.hid (fun wz=>r3Int_any 1 1 wz (Nat.le_trans (dl_le _ 1 (by omega) (by decide)) (by omega)));have TR:=Lib.hid (fun b wz (h:b1 b=Z)=>(by rw[← h];exact rtruth13_any b wz:Calls Tryz.prog 65 #[.bool b] wz fun e w'=>NumTold wz w' e Z 1));unfold NumTold at TR;generalize rB Z=wb at *;generalize rS Z=ws at *;have dq:str (dec 1)=⟨#[49]⟩:=dec1;rw[dq]at HF TR I1 I2 ⊢;clear dq;obtain⟨ba,hba⟩:∃z,rB 0=z:=⟨_,rfl⟩
 obtain⟨sa,hsa⟩:∃z,rS 0=z:=⟨_,rfl⟩
 rw[hba,hsa]at I1 ⊢;obtain⟨bb,hbb⟩:∃z,rB 1=z:=⟨_,rfl⟩
 obtain⟨sb,hsb⟩:∃z,rS 1=z:=⟨_,rfl⟩
 rw[hbb,hsb]at I2 ⊢;clear hba hsa hbb hsb
 rcases of_decide_eq_true hc with rfl|rfl|rfl|rfl
 all_goals
  clear hc;have BB:=bagN w ba sa ⟨#[49]⟩ bb sb ⟨#[49]⟩;have⟨q00,q01,q02,q10,q11,q12⟩:=bq0 BB;go_enter Tryz.func68,Tryz.ntmps68;go_wp2_with fail;go_at_call 131;(with_reducible refine(I1.out _).mono ?_);rintro e w1 ⟨rfl,hb1⟩;have BB:=bgo BB hb1;clear hb1;clear q00 q01 q02 q10 q11 q12;have⟨q00,q01,q02,q10,q11,q12⟩:=bq0 BB;go_wp2_with fail;go_at_call 131;(with_reducible refine(I2.out _).mono ?_);rintro e w2 ⟨rfl,hb2⟩;have BB:=bgo BB hb2;clear hb2;clear q00 q01 q02 q10 q11 q12;have⟨q00,q01,q02,q10,q11,q12⟩:=bq0 BB;go_wp2_with fail;go_at_call 65
  (first|(refine(TR.out false _ (show b1 false=Z from hz)).mono ?_)|(refine(TR.out true _ (show b1 true=Z from hz)).mono ?_))
  rintro e w3 ⟨rfl,hb3⟩;have BB:=bgo BB hb3;clear hb3;clear q00 q01 q02 q10 q11 q12;have⟨q00,q01,q02,q10,q11,q12⟩:=bq0 BB;have hs:=BB.out.now.1;have⟨u0,u1,u2,g0,g1,g2⟩:=hs.s6;have HS:=hs.set (.bool wb) (.string ws) (.string ⟨#[49]⟩);have HE:=Lib.hid (HF.out _ BB.out.below);clear hs;go_wp2;exact bodyPost_ret (by simp[results,Tryz.results68,go_sem,HS]) rfl HE.out
theorem rjudged_1_0 (c0 : Int) (w : World) (hc : logK c0 = true) (Z : Int) (hz : b1 (logB c0 1 0) = Z) :
    Calls Tryz.prog 68 #[.int .i32 c0,.agg #[.bool (rB 1),.string (rS 1),.string (str (dec 1))],.agg #[.bool (rB 0),.string (rS 0),.string (str (dec 1))]] w fun e w'=>NumTold4 w w' e Z 1 0:=by
 have HF:=Lib.hid (fun w2 (hb:Below w.heap.size w w2)=>NumTold4.done (k:=w.heap.size+1+1) Z 1 0 hb (by omega) rfl rfl rfl);have I1:Hid (∀wz,Calls Tryz.prog 131 #[.agg #[.bool (rB 1),.string (rS 1),.string (str (dec 1))]] wz fun e w'=>e=.returned (.tuple #[.int .i64 1,.bool true])/\Below wz.heap.size wz w'):=Lib.hid (fun wz=>r3Int_any 1 1 wz (Nat.le_trans (dl_le _ 1 (by omega) (by decide)) (by omega)));have I2:Hid (∀wz,Calls Tryz.prog 131 #[.agg #[.bool (rB 0),.string (rS 0),.string (str (dec 1))]] wz fun e w'=>e=.returned (.tuple #[.int .i64 0,.bool true])/\Below wz.heap.size wz w'):=Lib.hid (fun wz=>r3Int_any 0 1 wz (Nat.le_trans (dl_le _ 1 (by omega) (by decide)) (by omega)));have TR:=Lib.hid (fun b wz (h:b1 b=Z)=>(by rw[← h];exact rtruth13_any b wz:Calls Tryz.prog 65 #[.bool b] wz fun e w'=>NumTold wz w' e Z 1));unfold NumTold at TR;generalize rB Z=wb at *;generalize rS Z=ws at *;have dq:str (dec 1)=⟨#[49]⟩:=dec1;rw[dq]at HF TR I1 I2 ⊢;clear dq;obtain⟨ba,hba⟩:∃z,rB 1=z:=⟨_,rfl⟩
 obtain⟨sa,hsa⟩:∃z,rS 1=z:=⟨_,rfl⟩
 rw[hba,hsa]at I1 ⊢;obtain⟨bb,hbb⟩:∃z,rB 0=z:=⟨_,rfl⟩
 obtain⟨sb,hsb⟩:∃z,rS 0=z:=⟨_,rfl⟩
 rw[hbb,hsb]at I2 ⊢;clear hba hsa hbb hsb
 rcases of_decide_eq_true hc with rfl|rfl|rfl|rfl
 all_goals
  clear hc;have BB:=bagN w ba sa ⟨#[49]⟩ bb sb ⟨#[49]⟩;have⟨q00,q01,q02,q10,q11,q12⟩:=bq0 BB;go_enter Tryz.func68,Tryz.ntmps68;go_wp2_with fail;go_at_call 131;(with_reducible refine(I1.out _).mono ?_);rintro e w1 ⟨rfl,hb1⟩;have BB:=bgo BB hb1;clear hb1;clear q00 q01 q02 q10 q11 q12;have⟨q00,q01,q02,q10,q11,q12⟩:=bq0 BB;go_wp2_with fail;go_at_call 131;(with_reducible refine(I2.out _).mono ?_);rintro e w2 ⟨rfl,hb2⟩;have BB:=bgo BB hb2;clear hb2;clear q00 q01 q02 q10 q11 q12;have⟨q00,q01,q02,q10,q11,q12⟩:=bq0 BB;go_wp2_with fail;go_at_call 65
  (first|(refine(TR.out false _ (show b1 false=Z from hz)).mono ?_)|(refine(TR.out true _ (show b1 true=Z from hz)).mono ?_))
  rintro e w3 ⟨rfl,hb3⟩;have BB:=bgo BB hb3;clear hb3;clear q00 q01 q02 q10 q11 q12;have⟨q00,q01,q02,q10,q11,q12⟩:=bq0 BB;have hs:=BB.out.now.1;have⟨u0,u1,u2,g0,g1,g2⟩:=hs.s6;have HS:=hs.set (.bool wb) (.string ws) (.string ⟨#[49]⟩);have HE:=Lib.hid (HF.out _ BB.out.below);clear hs;go_wp2;exact bodyPost_ret (by simp[results,Tryz.results68,go_sem,HS]) rfl HE.out
theorem rjudged_1_1 (c0 : Int) (w : World) (hc : logK c0 = true) (Z : Int) (hz : b1 (logB c0 1 1) = Z) :
    Calls Tryz.prog 68 #[.int .i32 c0,.agg #[.bool (rB 1),.string (rS 1),.string (str (dec 1))],.agg #[.bool (rB 1),.string (rS 1),.string (str (dec 1))]] w fun e w'=>NumTold4 w w' e Z 1 0:=by
 have HF:=Lib.hid (fun w2 (hb:Below w.heap.size w w2)=>NumTold4.done (k:=w.heap.size+1+1) Z 1 0 hb (by omega) rfl rfl rfl);have I1:Hid (∀wz,Calls Tryz.prog 131 #[.agg #[.bool (rB 1),.string (rS 1),.string (str (dec 1))]] wz fun e w'=>e=.returned (.tuple #[.int .i64 1,.bool true])/\Below wz.heap.size wz w'):=Lib.hid (fun wz=>r3Int_any 1 1 wz (Nat.le_trans (dl_le _ 1 (by omega) (by decide)) (by omega)));have I2:Hid (∀wz,Calls Tryz.prog 131 #[.agg #[.bool (rB 1),.string (rS 1),.string (str (dec 1))]] wz fun e w'=>e=.returned (.tuple #[.int .i64 1,.bool true])/\Below wz.heap.size wz w'):=Lib.hid (fun wz=>r3Int_any 1 1 wz (Nat.le_trans (dl_le _ 1 (by omega) (by decide)) (by omega)));have TR:=Lib.hid (fun b wz (h:b1 b=Z)=>(by rw[← h];exact rtruth13_any b wz:Calls Tryz.prog 65 #[.bool b] wz fun e w'=>NumTold wz w' e Z 1));unfold NumTold at TR;generalize rB Z=wb at *;generalize rS Z=ws at *;have dq:str (dec 1)=⟨#[49]⟩:=dec1;rw[dq]at HF TR I1 I2 ⊢;clear dq;obtain⟨ba,hba⟩:∃z,rB 1=z:=⟨_,rfl⟩
 obtain⟨sa,hsa⟩:∃z,rS 1=z:=⟨_,rfl⟩
 rw[hba,hsa]at I1 ⊢;rw[hba,hsa]at I2;obtain⟨bb,hbb⟩:∃z,ba=z:=⟨_,rfl⟩
 obtain⟨sb,hsb⟩:∃z,sa=z:=⟨_,rfl⟩
 clear hba hsa hbb hsb
 rcases of_decide_eq_true hc with rfl|rfl|rfl|rfl
 all_goals
  clear hc;have BB:=bagN w ba sa ⟨#[49]⟩ ba sa ⟨#[49]⟩;have⟨q00,q01,q02,q10,q11,q12⟩:=bq0 BB;go_enter Tryz.func68,Tryz.ntmps68;go_wp2_with fail;go_at_call 131;(with_reducible refine(I1.out _).mono ?_);rintro e w1 ⟨rfl,hb1⟩;have BB:=bgo BB hb1;clear hb1;clear q00 q01 q02 q10 q11 q12;have⟨q00,q01,q02,q10,q11,q12⟩:=bq0 BB;go_wp2_with fail;go_at_call 131;(with_reducible refine(I2.out _).mono ?_);rintro e w2 ⟨rfl,hb2⟩;have BB:=bgo BB hb2;clear hb2;clear q00 q01 q02 q10 q11 q12;have⟨q00,q01,q02,q10,q11,q12⟩:=bq0 BB;go_wp2_with fail;go_at_call 65
  (first|(refine(TR.out false _ (show b1 false=Z from hz)).mono ?_)|(refine(TR.out true _ (show b1 true=Z from hz)).mono ?_))
  rintro e w3 ⟨rfl,hb3⟩;have BB:=bgo BB hb3;clear hb3;clear q00 q01 q02 q10 q11 q12;have⟨q00,q01,q02,q10,q11,q12⟩:=bq0 BB;have hs:=BB.out.now.1;have⟨u0,u1,u2,g0,g1,g2⟩:=hs.s6;have HS:=hs.set (.bool wb) (.string ws) (.string ⟨#[49]⟩);have HE:=Lib.hid (HF.out _ BB.out.below);clear hs;go_wp2;exact bodyPost_ret (by simp[results,Tryz.results68,go_sem,HS]) rfl HE.out
theorem rjudged_any (P : Int) (Q : Nat) (P' : Int) (Q' : Nat) (c0 : Int) (w : World) (hc : logK c0 = true) (d1 : dl P.natAbs <= 60) (d2 : dl P'.natAbs <= 60) :
    Calls Tryz.prog 68 #[.int .i32 c0,.agg #[.bool (rB P),.string (rS P),.string (str (dec Q))],.agg #[.bool (rB P'),.string (rS P'),.string (str (dec Q'))]] w fun e w'=>NumTold4 w w' e (if truB P Q&&truB P' Q' then(b1 (logB c0 P P'),1,0)else(0,1,22):Ans).1 (if truB P Q&&truB P' Q' then(b1 (logB c0 P P'),1,0)else(0,1,22):Ans).2.1 (if truB P Q&&truB P' Q' then(b1 (logB c0 P P'),1,0)else(0,1,22):Ans).2.2:=by
 have i1:=fun wz=>r3Int_any P Q wz (Nat.le_trans d1 (by omega))
 have i2:=fun wz=>r3Int_any P' Q' wz (Nat.le_trans d2 (by omega))
 cases ht:(truB P Q&&truB P' Q')with
 | true =>
  rw[Bool.and_eq_true]at ht;obtain⟨rfl,hp⟩:=truB_iff ht.1;obtain⟨rfl,hq⟩:=truB_iff ht.2
  rcases hp with rfl|rfl<;>rcases hq with rfl|rfl
  · exact rjudged_0_0 c0 w hc _ rfl
  · exact rjudged_0_1 c0 w hc _ rfl
  · exact rjudged_1_0 c0 w hc _ rfl
  · exact rjudged_1_1 c0 w hc _ rfl
 | false =>
  refine rjudged_bad _ _ _ _ P Q P' Q' c0 w i1 i2 ?_
  have tb:∀(A:Int) (B:Nat),(decide (B=1)&&fitB A)=true->IntKind.i64.wrap ((if B=1 then fitI A else 0)*(if B=1 then fitI A else 0))=(if B=1 then fitI A else 0)->truB A B=true/\((if B=1 then fitI A else 0)=0∨(if B=1 then fitI A else 0)=1):=fun A B h1 h2=>by
   rw[Bool.and_eq_true,decide_eq_true_eq]at h1;obtain⟨rfl,h1⟩:=h1;have hf:=fit_inD h1;rw[if_pos rfl,hf.1]at h2 ⊢;have:=sq_self hf.2 h2;refine⟨?_,this⟩;unfold truB
   rcases this with rfl|rfl<;>rfl
  cases f1:(decide (Q=1)&&fitB P)with
  | false=>exact .inl rfl
  | true =>
   cases f2:(decide (Q'=1)&&fitB P')with
   | false=>exact .inr (.inl ⟨rfl,rfl⟩)
   | true =>
    by_cases h1:IntKind.i64.wrap ((if Q=1 then fitI P else 0)*(if Q=1 then fitI P else 0))=(if Q=1 then fitI P else 0)
    · refine .inr (.inr (.inr ⟨rfl,rfl,(tb P Q f1 h1).2,fun h2 => ?_⟩));rw[(tb P Q f1 h1).1,(tb P' Q' f2 h2).1]at ht;exact absurd ht (by decide)
    · exact .inr (.inr (.inl ⟨rfl,rfl,h1⟩))
end Go.Proofs.YtdmmenaejkpnjaaGreatDoor
namespace Go.Proofs.YtdmmenaejkpnjaaGreatDoor
open Go.RowKit
def odd2(N:Int):Bool := !(N.tmod 2==0)
theorem odd2_pos{N:Int}(h:0<=N):odd2 N=decide (N%2=1):=by
 unfold odd2;rw[Int.tmod_eq_emod_of_nonneg h,Bool.eq_iff_iff,decide_eq_true_eq,Bool.not_eq_true',beq_eq_false_iff_ne]
 omega
theorem odd2_neg{N:Int}(h:N<0):odd2 N=decide ((-N)%2=1):=by
 unfold odd2;have e:N.tmod 2 = -((-N).tmod 2):=by rw[Int.neg_tmod,Int.neg_neg]
 rw[e,Int.tmod_eq_emod_of_nonneg (by omega),Bool.eq_iff_iff,decide_eq_true_eq,Bool.not_eq_true',beq_eq_false_iff_ne]
 omega
theorem powN_one(n most:Int):powN 1 n most=(1,true):=by unfold powN;rw[if_pos (.inr rfl)]
theorem powN_nought{n:Int}(h:0<n)(most:Int):powN 0 n most=(0,true):=by unfold powN;rw[if_neg (by omega),if_pos rfl]
theorem powN_none{X:Nat}{n:Int}(h:n<=0)(most:Int):powN X n most=(1,true):=by unfold powN;rw[if_pos (.inl h)]
theorem powN_huge{X:Nat}{n most:Int}(hX:2<=X)(hn:600<=n)(hm:most<=16):powN X n most=(0,false):=by
 obtain⟨k,hk⟩:∃k:Nat,k=600:=⟨_,rfl⟩
 refine powN_long (k:=k) hX (by omega) (by omega) ?_;obtain⟨m0,hm0⟩:∃m:Nat,m=16:=⟨_,rfl⟩
 have h1:¬lb (X^k)<=m0:=by
  rw[lb_le];have h2:2^k<=X^k:=Nat.pow_le_pow_left hX k;have h3:2^(32*m0)<=2^k:=Nat.pow_le_pow_right (by omega) (by omega)
  omega
 omega
theorem ra_told(P:Int)(Q:Nat)(n most:Int):raO P Q n most=((powN P.natAbs n most).2&&(powN Q n most).2) /\
    (raO P Q n most=true->rB (raP P Q n most)=(rB P&&decide (n%2=1))/\rS (raP P Q n most)=str (dec (powN P.natAbs n most).1)/\raQ P Q n most=(powN Q n most).1)/\(raO P Q n most=false->raP P Q n most=0/\raQ P Q n most=1):=by
 refine⟨rfl,fun h => ?_,fun h => ?_⟩
 · unfold raP raQ;rw[if_pos h,if_pos h,rsgn_B,rsgn_S];refine⟨?_,rfl,rfl⟩;have ho:=h;unfold raO at ho;rw[Bool.and_eq_true]at ho;unfold raS rB
   by_cases hP:P<0
   · have:=powN_pos (X:=P.natAbs) (by omega) n most ho.1;rw[decide_eq_false (show ¬(powN P.natAbs n most).1=0 by omega)]
     simp
   · rw[decide_eq_false hP];simp
 · unfold raP raQ;rw[h];exact⟨rfl,rfl⟩
theorem abs1{P:Int}(h:(decide (P.natAbs=0)||decide (P.natAbs=1))=true):P=0∨P=1∨P = -1:=by
 rw[Bool.or_eq_true,decide_eq_true_eq,decide_eq_true_eq]at h;omega
theorem po_lim {P N most : Int} (hN : N ≠ 0) (hP : (decide (P.natAbs = 0) || decide (P.natAbs = 1)) = true) (h : ¬ (P = 0 /\ N < 0)) :
    poO P 1 N most=true/\poQ P 1 N most=1/\rB (poP P 1 N most)=(rB P&&odd2 N)/\rS (poP P 1 N most)=rS P:=by
 have hp:=abs1 hP;have hab:P.natAbs=0∨P.natAbs=1:=by omega
 by_cases hn:0<=N
 · have hx:powN P.natAbs N most=(P.natAbs,true):=by
     rcases hab with e|e
     · rw[e];exact powN_nought (by omega) most
     · rw[e];exact powN_one N most
   have ho:raO P 1 N most=true:=by unfold raO;rw[hx,powN_one];rfl
   obtain⟨_,h2,_⟩:=ra_told P 1 N most;obtain⟨h3,h4,h5⟩:=h2 ho;unfold poO poP poQ;rw[if_pos hn,if_pos hn,if_pos hn,ho,h3,h4,h5,hx,powN_one,odd2_pos hn];exact⟨rfl,rfl,rfl,rfl⟩
 · have hP0:P≠0:=fun e=>h ⟨e,by omega⟩
   have h1:P=1∨P = -1:=by omega
   have hin:inP P 1=P/\inQ P 1=1:=by rcases h1 with rfl|rfl<;>decide +kernel
   have hsq:sqP P 1=1/\sqQ P 1=1:=by rcases h1 with rfl|rfl<;>decide +kernel
   unfold poO poP poQ;rw[if_neg hn,if_neg hn,if_neg hn,if_neg hP0,if_neg hP0,if_neg hP0,hin.1,hin.2,hsq.1,hsq.2]
   have hone:∀(Z n:Int),Z.natAbs=1->raO Z 1 n most=true/\rB (raP Z 1 n most)=(rB Z&&decide (n%2=1))/\rS (raP Z 1 n most)=str (dec 1)/\raQ Z 1 n most=1:=by
    intro Z n hZ;have ho:raO Z 1 n most=true:=by unfold raO;rw[hZ,powN_one];rfl
    obtain⟨h3,h4,h5⟩:=(ra_told Z 1 n most).2.1 ho;rw[hZ,powN_one]at h4;rw[powN_one]at h5;exact⟨ho,h3,h4,h5⟩
   have hrs:rS P=str (dec 1):=by unfold rS;rw[show P.natAbs=1 by omega]
   by_cases hm:N = -9223372036854775808
   · rw[if_pos hm,if_pos hm,if_pos hm];obtain⟨i1,i2,i3,i4⟩:=hone 1 4611686018427387904 rfl;rw[i1,i2,i3,i4,hrs,odd2_neg (by omega),hm];exact⟨rfl,rfl,by simp[rB],rfl⟩
   · rw[if_neg hm,if_neg hm,if_neg hm];obtain⟨i1,i2,i3,i4⟩:=hone P (-N) (by omega);rw[i1,i2,i3,i4,hrs,odd2_neg (by omega)];exact⟨rfl,rfl,rfl,rfl⟩
def upN(N:Int):Int:=if N < -9223372036854775807 then 9223372036854775807 else -N
theorem in_abs{P:Int}{Q:Nat}(hc:Nat.gcd P.natAbs Q=1):(inP P Q).natAbs=Q/\inQ P Q=P.natAbs:=by
 have h:=nw_abs (1*(Q:Int)) (P*((1:Nat):Int));rw[show((1:Nat):Int)=1 from rfl,Int.mul_one,Int.one_mul,Int.natAbs_natCast,Nat.gcd_comm,hc,Nat.div_one,Nat.div_one]at h;unfold inP inQ;rw[show((1:Nat):Int)=1 from rfl,Int.mul_one,Int.one_mul];exact h
theorem sq_abs{P:Int}{Q:Nat}(hc:Nat.gcd P.natAbs Q=1):(sqP P Q).natAbs=P.natAbs*P.natAbs/\sqQ P Q=Q*Q:=by
 have h:Nat.gcd (P*P).natAbs (Q*Q)=1:=by
  rw[Int.natAbs_mul];exact Nat.Coprime.mul_left (Nat.Coprime.mul_right hc hc) (Nat.Coprime.mul_right hc hc)
 have:=lo_one h;unfold sqP sqQ tmP tmQ;rw[this.1,this.2,Int.natAbs_mul];exact⟨rfl,rfl⟩
theorem po_neg {P : Int} {Q : Nat} {N most : Int} (hQ : 0 < Q) (hc : Nat.gcd P.natAbs Q = 1) (hN : N < 0) (hN0 : -9223372036854775808 <= N) (hP : P ≠ 0) (hm : most <= 16) (hl : (decide (Q = 1) && (decide (P.natAbs = 0) || decide (P.natAbs = 1))) = false) :
    poO P Q N most=((powN (inP P Q).natAbs (upN N) most).2&&(powN (inQ P Q) (upN N) most).2) /\
    (poO P Q N most=true->rB (poP P Q N most)=(rB (inP P Q)&&odd2 N)/\rS (poP P Q N most)=str (dec (powN (inP P Q).natAbs (upN N) most).1)/\poQ P Q N most=(powN (inQ P Q) (upN N) most).1)/\(poO P Q N most=false->poP P Q N most=0/\poQ P Q N most=1):=by
 have hn:¬0<=N:=by omega
 unfold poO poP poQ;rw[if_neg hn,if_neg hn,if_neg hn,if_neg hP,if_neg hP,if_neg hP]
 by_cases hmn:N = -9223372036854775808
 · rw [if_pos hmn, if_pos hmn, if_pos hmn]; obtain ⟨e1, e2⟩ := in_abs hc; have hc2 : Nat.gcd (inP P Q).natAbs (inQ P Q) = 1 := by rw [e1, e2, Nat.gcd_comm]; exact hc
   obtain⟨e3,e4⟩:=sq_abs hc2;have hu:upN N=9223372036854775807:=by unfold upN;rw[if_pos (by omega)]
   have hbig:2<=Q∨2<=P.natAbs:=by
    rcases Nat.lt_or_ge Q 2 with h1|h1
    · right
      have:Q=1:=by omega
      rw[decide_eq_true this,Bool.true_and,Bool.or_eq_false_iff,decide_eq_false_iff_not,decide_eq_false_iff_not]at hl
      omega
    · exact .inl h1
   have hno:raO (sqP (inP P Q) (inQ P Q)) (sqQ (inP P Q) (inQ P Q)) 4611686018427387904 most=false:=by
    unfold raO;rw[e3,e4,e1,e2]
    rcases hbig with h|h
    · rw[powN_huge (X:=Q*Q) (Nat.le_trans h (Nat.le_mul_of_pos_left Q (by omega))) (by omega) hm];rfl
    · rw[powN_huge (X:=P.natAbs*P.natAbs) (Nat.le_trans h (Nat.le_mul_of_pos_left P.natAbs (by omega))) (by omega) hm];simp
   have hno2:((powN (inP P Q).natAbs (upN N) most).2&&(powN (inQ P Q) (upN N) most).2)=false:=by
    rw[e1,e2,hu]
    rcases hbig with h|h
    · rw[powN_huge (X:=Q) h (by omega) hm];rfl
    · rw[powN_huge (X:=P.natAbs) h (by omega) hm];simp
   obtain⟨_,_,h3⟩:=ra_told (sqP (inP P Q) (inQ P Q)) (sqQ (inP P Q) (inQ P Q)) 4611686018427387904 most;rw[hno2,hno];exact⟨rfl,(fun h=>by cases h),fun _=>h3 hno⟩
 · rw[if_neg hmn,if_neg hmn,if_neg hmn];have hu:upN N = -N:=by unfold upN;rw[if_neg (by omega)]
   rw[hu,odd2_neg hN];exact ra_told (inP P Q) (inQ P Q) (-N) most
end Go.Proofs.YtdmmenaejkpnjaaGreatDoor
namespace Go.Proofs.YtdmmenaejkpnjaaGreatDoor
open Go.RowKit
attribute [local go_sem ↓] Go.wp_at_zero Go.wp_at_succ
theorem r3Pow_none(P:Int)(Q:Nat)(most:Int)(w:World):Calls Tryz.prog 195 #[.agg #[.bool (rB P),.string (rS P),.string (str (dec Q))],.int .i64 0,.int .i64 most] w fun e w'=>NumTold3 w w' e 1 1 true:=by
 have BB:=Lib.hid ((Bag.start w).box3 (.bool (rB P)) (.string (rS P)) (.string (str (dec Q))) 46 |>.box3 (.bool false) (.string ⟨#[]⟩) (.string ⟨#[]⟩) 46);simp only[World.size_alloc]at BB;have FR:=Lib.hid (fun wz=>r3From_any 1 wz (by omega));unfold NumTold at FR;obtain⟨y1,hy1⟩:∃x,rB 1=x:=⟨_,rfl⟩
 obtain⟨y2,hy2⟩:∃x,rS 1=x:=⟨_,rfl⟩
 obtain⟨y3,hy3⟩:∃x,str (dec 1)=x:=⟨_,rfl⟩
 rw[hy1,hy2,hy3]at FR;have HF:=Lib.hid (fun w2 (hb:Below w.heap.size w w2)=>(show NumTold3 w (((w2.setCell ⟨w.heap.size+1,0,none⟩ (.bool y1)).setCell ⟨w.heap.size+1,1,none⟩ (.string y2)).setCell ⟨w.heap.size+1,2,none⟩ (.string y3)) (.returned (.tuple #[.agg #[.bool y1,.string y2,.string y3],.bool true])) 1 1 true from⟨by rw[hy1,hy2,hy3],((hb.setCell (p:=⟨w.heap.size+1,0,none⟩) (show w.heap.size<=w.heap.size+1 by omega) _).setCell (p:=⟨w.heap.size+1,1,none⟩) (show w.heap.size<=w.heap.size+1 by omega) _).setCell (p:=⟨w.heap.size+1,2,none⟩) (show w.heap.size<=w.heap.size+1 by omega) _⟩));clear hy1 hy2 hy3;go_enter Tryz.func195,Tryz.ntmps195;go_wp2_with fail;go_at_call 57;refine(FR.out _).mono ?_;rintro e w2 ⟨rfl,hb2⟩;have BB:=bgo BB hb2;clear hb2;have hs:=BB.out.now.1;have⟨u0,u1,u2,g0,g1,g2⟩:=hs.s6;have HS:=hs.set (.bool y1) (.string y2) (.string y3);have HE:=Lib.hid (HF.out _ BB.out.below);clear hs;go_wp2;exact bodyPost_ret (by simp[results,Tryz.results195,go_sem,HS]) rfl HE.out
theorem r3Pow_nought(Q:Nat)(N most:Int)(w:World)(hN:N<0):Calls Tryz.prog 195 #[.agg #[.bool (rB 0),.string (rS 0),.string (str (dec Q))],.int .i64 N,.int .i64 most] w fun e w'=>NumTold3 w w' e 0 1 false:=by
 have z0:((rS 0).toList == [48])=true:=by rw[rS_is0];rfl
 have BB:=Lib.hid ((Bag.start w).box3 (.bool (rB 0)) (.string (rS 0)) (.string (str (dec Q))) 46 |>.box3 (.bool false) (.string ⟨#[]⟩) (.string ⟨#[]⟩) 46);simp only[World.size_alloc]at BB;have ZR:=Lib.hid (fun wz=>r3Zero_any wz);unfold NumTold at ZR;obtain⟨y1,hy1⟩:∃x,rB 0=x:=⟨_,rfl⟩
 obtain⟨y2,hy2⟩:∃x,rS 0=x:=⟨_,rfl⟩
 obtain⟨y3,hy3⟩:∃x,str (dec 1)=x:=⟨_,rfl⟩
 rw[hy1,hy2,hy3]at ZR;rw[hy1,hy2]at BB;rw[hy2]at z0;rw[hy1,hy2];have HF:=Lib.hid (fun w2 (hb:Below w.heap.size w w2)=>(show NumTold3 w (((w2.setCell ⟨w.heap.size+1,0,none⟩ (.bool y1)).setCell ⟨w.heap.size+1,1,none⟩ (.string y2)).setCell ⟨w.heap.size+1,2,none⟩ (.string y3)) (.returned (.tuple #[.agg #[.bool y1,.string y2,.string y3],.bool false])) 0 1 false from⟨by rw[hy1,hy2,hy3],((hb.setCell (p:=⟨w.heap.size+1,0,none⟩) (show w.heap.size<=w.heap.size+1 by omega) _).setCell (p:=⟨w.heap.size+1,1,none⟩) (show w.heap.size<=w.heap.size+1 by omega) _).setCell (p:=⟨w.heap.size+1,2,none⟩) (show w.heap.size<=w.heap.size+1 by omega) _⟩));have⟨q0,q1,q2⟩:=BB.out.now.2.1.c3;have hn0:N≠0:=by omega
 clear hy1 hy2 hy3;go_enter Tryz.func195,Tryz.ntmps195;go_wp2_with fail;go_at_call 64;refine(ZR.out _).mono ?_;rintro e w2 ⟨rfl,hb2⟩;have BB:=bgo BB hb2;clear hb2 q0 q1 q2;have hs:=BB.out.now.1;have⟨u0,u1,u2,g0,g1,g2⟩:=hs.s6;have HS:=hs.set (.bool y1) (.string y2) (.string y3);have HE:=Lib.hid (HF.out _ BB.out.below);clear hs;go_wp2;exact bodyPost_ret (by simp[results,Tryz.results195,go_sem,HS]) rfl HE.out
theorem r3Pow_lim(P N most:Int)(w:World)(hN:N≠0)(hP:(decide (P.natAbs=0)||decide (P.natAbs=1))=true)(h:¬(P=0/\N<0)):Calls Tryz.prog 195 #[.agg #[.bool (rB P),.string (rS P),.string (str (dec 1))],.int .i64 N,.int .i64 most] w fun e w'=>NumTold3 w w' e (poP P 1 N most) (poQ P 1 N most) (poO P 1 N most):=by
 obtain⟨s1,s2,s3,s4⟩:=po_lim (most:=most) hN hP h;have z0:=rS_is0 P;have BB:=Lib.hid ((Bag.start w).box3 (.bool (rB P)) (.string (rS P)) (.string (str (dec 1))) 46 |>.box3 (.bool false) (.string ⟨#[]⟩) (.string ⟨#[]⟩) 46);simp only[World.size_alloc]at BB;have LI:=Lib.hid (fun wz=>r3Limited_any (rB P) P 1 wz);rw[decide_eq_true rfl,Bool.true_and,hP]at LI;have ho:(!(N.tmod 2==0))=odd2 N:=rfl;obtain⟨od,hod⟩:∃x,odd2 N=x:=⟨_,rfl⟩
 rw[hod]at ho s3;have ho2:(N.tmod 2 != 0)=od:=ho;have hN2:(N==0)=false:=by rw[beq_eq_false_iff_ne];exact hN
 obtain⟨zz,hzz⟩:∃x,decide (P=0)=x:=⟨_,rfl⟩
 obtain⟨nn,hnn⟩:∃x,decide (N<0)=x:=⟨_,rfl⟩
 have hzn:(zz&&nn)=false:=by rw[← hzz,← hnn,← Bool.not_eq_true,Bool.and_eq_true,decide_eq_true_eq,decide_eq_true_eq];exact h
 rw[hzz]at z0;rw[s1];have d1:=dec1;generalize hPP:poP P 1 N most=PP at *;generalize hQQ:poQ P 1 N most=QQ at *;subst s2;have HR:Hid (rB PP=(rB P&&od)/\rS PP=rS P/\str (dec 1)=⟨#[49]⟩):=⟨s3,s4,d1⟩
 clear s3 s4 hPP hQQ h hP hzz hod d1 s1;generalize rB P=pb at *;generalize rS P=ps at *;generalize str (dec 1)=o1 at *;have⟨q0,q1,q2⟩:=BB.out.now.2.1.c3
 cases pb<;>cases od<;>cases zz<;>cases nn
 all_goals
  first
   | (cases hzn;done)
   | skip
 all_goals
  clear hzn;go_enter Tryz.func195,Tryz.ntmps195;go_wp2_with fail;go_at_call 194;(with_reducible refine(LI.out _).mono ?_);rintro e w2 ⟨rfl,hb2⟩;have BB:=bgo BB hb2;clear hb2 q0 q1 q2;have⟨q0,q1,q2⟩:=BB.out.now.2.1.c3;have hs:=BB.out.now.1;have⟨u0,u1,u2,g0,g1,g2⟩:=hs.s6;have HE:=fun b w2 (hb:Below w.heap.size w w2) (hh:rB PP=b)=>(show NumTold3 w (((w2.setCell ⟨w.heap.size+1,0,none⟩ (.bool b)).setCell ⟨w.heap.size+1,1,none⟩ (.string ps)).setCell ⟨w.heap.size+1,2,none⟩ (.string ⟨#[49]⟩)) (.returned (.tuple #[.agg #[.bool b,.string ps,.string ⟨#[49]⟩],.bool true])) PP 1 true from⟨by rw[hh,HR.out.2.1,dec1],((hb.setCell (p:=⟨w.heap.size+1,0,none⟩) (show w.heap.size<=w.heap.size+1 by omega) _).setCell (p:=⟨w.heap.size+1,1,none⟩) (show w.heap.size<=w.heap.size+1 by omega) _).setCell (p:=⟨w.heap.size+1,2,none⟩) (show w.heap.size<=w.heap.size+1 by omega) _⟩)
  have HT:=hs.set (.bool true) (.string ps) (.string ⟨#[49]⟩);have HF:=hs.set (.bool false) (.string ps) (.string ⟨#[49]⟩);have HE:=Lib.hid HE;clear hs;go_wp2
  first
   | (have hb:rB PP=true:=HR.out.1;exact bodyPost_ret (v:=.tuple #[.agg #[.bool true,.string ps,.string ⟨#[49]⟩],.bool true]) (by simp[results,Tryz.results195,go_sem,HT]) rfl (HE.out true _ BB.out.below hb))
   | (have hb:rB PP=false:=HR.out.1;exact bodyPost_ret (v:=.tuple #[.agg #[.bool false,.string ps,.string ⟨#[49]⟩],.bool true]) (by simp[results,Tryz.results195,go_sem,HF]) rfl (HE.out false _ BB.out.below hb))
theorem r3Pow_up(P:Int)(Q:Nat)(N most:Int)(w:World)(hN:0<N)(hN2:N<=9223372036854775807)(hm:most<=16)(d1:dl P.natAbs<=40)(d2:dl Q<=40)(hl:(decide (Q=1)&&(decide (P.natAbs=0)||decide (P.natAbs=1)))=false):Calls Tryz.prog 195 #[.agg #[.bool (rB P),.string (rS P),.string (str (dec Q))],.int .i64 N,.int .i64 most] w fun e w'=>NumTold3 w w' e (raP P Q N most) (raQ P Q N most) (raO P Q N most):=by
 have z0:=rS_is0 P;have BB:=Lib.hid ((Bag.start w).box3 (.bool (rB P)) (.string (rS P)) (.string (str (dec Q))) 46 |>.box3 (.bool false) (.string ⟨#[]⟩) (.string ⟨#[]⟩) 46);simp only[World.size_alloc]at BB;have LI:=Lib.hid (fun wz=>r3Limited_any (rB P) P Q wz);rw[hl]at LI;have PX:Hid (∀wz,Calls Tryz.prog 233 #[.string (rS P),.int .i64 N,.int .i64 most] wz fun e w'=>e=.returned (.tuple #[.string (str (dec (powN P.natAbs N most).1)),.bool (powN P.natAbs N most).2])/\Below wz.heap.size wz w'):=fun wz=>rpow_any P.natAbs N most wz d1 hm hN2 (by omega)
 have PY:=Lib.hid (fun wz=>rpow_any Q N most wz d2 hm hN2 (by omega));obtain⟨t1,t2,t3⟩:=ra_told P Q N most;have ho:(!(N.tmod 2==0))=odd2 N:=rfl;rw[← odd2_pos (show 0<=N by omega)]at t2;obtain⟨od,hod⟩:∃x,odd2 N=x:=⟨_,rfl⟩
 rw[hod]at ho t2;have ho2:(N.tmod 2 != 0)=od:=ho
 have ho3:(N%2 != 0)=od:=by
  rw[← hod,odd2_pos (by omega),Bool.eq_iff_iff,decide_eq_true_eq,bne_iff_ne];omega
 rw[t1]at t2 t3 ⊢;obtain⟨zz,hzz⟩:∃x,decide (P=0)=x:=⟨_,rfl⟩
 rw[hzz]at z0;generalize raP P Q N most=PP at *;generalize raQ P Q N most=QQ at *;generalize (powN P.natAbs N most).2=k1 at *;generalize (powN Q N most).2=k2 at *;generalize str (dec (powN P.natAbs N most).1)=xs at *;have hxq:∃xq,str (dec (powN Q N most).1)=xq:=⟨_,rfl⟩
 obtain⟨xq,hxq⟩:=hxq;rw[hxq]at PY;have ZR:=Lib.hid (fun wz=>r3Zero_any wz);unfold NumTold at ZR;obtain⟨y1,hy1⟩:∃x,rB 0=x:=⟨_,rfl⟩
 obtain⟨y2,hy2⟩:∃x,rS 0=x:=⟨_,rfl⟩
 obtain⟨y3,hy3⟩:∃x,str (dec 1)=x:=⟨_,rfl⟩
 rw[hy1,hy2,hy3]at ZR
 have HN:Hid ((k1&&k2)=false->∀w2,Below w.heap.size w w2->NumTold3 w (((w2.setCell ⟨w.heap.size+1,0,none⟩ (.bool y1)).setCell ⟨w.heap.size+1,1,none⟩ (.string y2)).setCell ⟨w.heap.size+1,2,none⟩ (.string y3)) (.returned (.tuple #[.agg #[.bool y1,.string y2,.string y3],.bool false])) PP QQ (k1&&k2)):=by
  intro hk w2 hb;obtain⟨i1,i2⟩:=t3 hk;rw[i1,i2,hk];exact⟨by rw[hy1,hy2,hy3],((hb.setCell (p:=⟨w.heap.size+1,0,none⟩) (show w.heap.size<=w.heap.size+1 by omega) _).setCell (p:=⟨w.heap.size+1,1,none⟩) (show w.heap.size<=w.heap.size+1 by omega) _).setCell (p:=⟨w.heap.size+1,2,none⟩) (show w.heap.size<=w.heap.size+1 by omega) _⟩
 have HY:Hid ((k1&&k2)=true->∀w2,Below w.heap.size w w2->NumTold3 w (((w2.setCell ⟨w.heap.size+1,0,none⟩ (.bool (rB P&&od))).setCell ⟨w.heap.size+1,1,none⟩ (.string xs)).setCell ⟨w.heap.size+1,2,none⟩ (.string xq)) (.returned (.tuple #[.agg #[.bool (rB P&&od),.string xs,.string xq],.bool true])) PP QQ (k1&&k2)):=by
  intro hk w2 hb;obtain⟨i1,i2,i3⟩:=t2 hk;rw[hk];exact⟨by rw[i1,i2,i3,hxq],((hb.setCell (p:=⟨w.heap.size+1,0,none⟩) (show w.heap.size<=w.heap.size+1 by omega) _).setCell (p:=⟨w.heap.size+1,1,none⟩) (show w.heap.size<=w.heap.size+1 by omega) _).setCell (p:=⟨w.heap.size+1,2,none⟩) (show w.heap.size<=w.heap.size+1 by omega) _⟩
 clear hy1 hy2 hy3 t2 t3 hxq;have hn1:N≠0:=by omega
 have hn2:¬N<0:=by omega
 clear hl hzz hod d1 d2 hm hN2 t1;generalize rB P=pb at *;generalize rS P=ps at *;generalize str (dec Q)=q at *;have⟨q0,q1,q2⟩:=BB.out.now.2.1.c3
 cases zz<;>cases od
 all_goals
  go_enter Tryz.func195,Tryz.ntmps195;go_wp2_with fail;go_at_call 194;(with_reducible refine(LI.out _).mono ?_);rintro e w2 ⟨rfl,hb2⟩;have BB:=bgo BB hb2;clear hb2 q0 q1 q2;have⟨q0,q1,q2⟩:=BB.out.now.2.1.c3;go_wp2_with fail;go_at_call 233;(with_reducible refine(PX.out _).mono ?_);rintro e w5 ⟨rfl,hb5⟩;have BB:=bgo BB hb5;clear hb5 q0 q1 q2;have⟨q0,q1,q2⟩:=BB.out.now.2.1.c3;go_wp2_with fail;go_at_call 233;(with_reducible refine(PY.out _).mono ?_);rintro e w6 ⟨rfl,hb6⟩;have BB:=bgo BB hb6;clear hb6 q0 q1 q2;have⟨q0,q1,q2⟩:=BB.out.now.2.1.c3
  cases k1 with
  | false =>
   go_wp2_with fail;go_at_call 64;(with_reducible refine(ZR.out _).mono ?_);rintro e w7 ⟨rfl,hb7⟩;have BB:=bgo BB hb7;clear hb7 q0 q1 q2;have hs:=BB.out.now.1;have⟨u0,u1,u2,g0,g1,g2⟩:=hs.s6;have HS:=hs.set (.bool y1) (.string y2) (.string y3);have HE:=Lib.hid (HN.out rfl _ BB.out.below);clear hs;go_wp2;exact bodyPost_ret (by simp[results,Tryz.results195,go_sem,HS]) rfl HE.out
  | true =>
   cases k2 with
   | false =>
    go_wp2_with fail;go_at_call 64;(with_reducible refine(ZR.out _).mono ?_);rintro e w7 ⟨rfl,hb7⟩;have BB:=bgo BB hb7;clear hb7 q0 q1 q2;have hs:=BB.out.now.1;have⟨u0,u1,u2,g0,g1,g2⟩:=hs.s6;have HS:=hs.set (.bool y1) (.string y2) (.string y3);have HE:=Lib.hid (HN.out rfl _ BB.out.below);clear hs;go_wp2;exact bodyPost_ret (by simp[results,Tryz.results195,go_sem,HS]) rfl HE.out
   | true =>
    cases pb
    all_goals
     have hs:=BB.out.now.1;have⟨u0,u1,u2,g0,g1,g2⟩:=hs.s6;have HT:=hs.set (.bool true) (.string xs) (.string xq);have HF:=hs.set (.bool false) (.string xs) (.string xq);have HE:=Lib.hid (HY.out rfl _ BB.out.below);clear hs;go_wp2
     first
      | exact bodyPost_ret (v:=.tuple #[.agg #[.bool true,.string xs,.string xq],.bool true]) (by simp[results,Tryz.results195,go_sem,HT]) rfl HE.out
      | exact bodyPost_ret (v:=.tuple #[.agg #[.bool false,.string xs,.string xq],.bool true]) (by simp[results,Tryz.results195,go_sem,HF]) rfl HE.out
end Go.Proofs.YtdmmenaejkpnjaaGreatDoor
