/-
  Texts of this seat, laid together.
-/
import Derived.Test.YtdmmenaejkpnjaaGreatDoorV12
set_option maxHeartbeats 12800000
set_option maxRecDepth 100000
set_option linter.unusedSimpArgs false
set_option linter.unusedVariables false
namespace Go.Proofs.YtdmmenaejkpnjaaGreatDoor
open Go.RowKit
attribute [local go_sem ↓] Go.wp_at_zero Go.wp_at_succ
theorem r3Pow_down(P:Int)(Q:Nat)(N most:Int)(w:World)(hQ:0<Q)(hc:Nat.gcd P.natAbs Q=1)(hN:N<0)(hN0 : -9223372036854775808<=N)(hP:P≠0)(hm:most<=16)(d1:dl P.natAbs<=40)(d2:dl Q<=40)(hl:(decide (Q=1)&&(decide (P.natAbs=0)||decide (P.natAbs=1)))=false):Calls Tryz.prog 195 #[.agg #[.bool (rB P),.string (rS P),.string (str (dec Q))],.int .i64 N,.int .i64 most] w fun e w'=>NumTold3 w w' e (poP P Q N most) (poQ P Q N most) (poO P Q N most):=by
 have z0:((rS P).toList == [48])=false:=by rw[rS_is0];exact decide_eq_false hP
 have BB:=Lib.hid ((Bag.start w).box3 (.bool (rB P)) (.string (rS P)) (.string (str (dec Q))) 46 |>.box3 (.bool false) (.string ⟨#[]⟩) (.string ⟨#[]⟩) 46);simp only[World.size_alloc]at BB;have LI:=Lib.hid (fun wz=>r3Limited_any (rB P) P Q wz);rw[hl]at LI;have FR:=Lib.hid (fun wz=>r3From_any 1 wz (by omega));unfold NumTold at FR;have DV:Hid (∀wz,Calls Tryz.prog 135 #[.agg #[.bool (rB 1),.string (rS 1),.string (str (dec 1))],.agg #[.bool (rB P),.string (rS P),.string (str (dec Q))]] wz fun e w'=>NumTold3 wz w' e (inP P Q) (inQ P Q) true):=fun wz=>r3Div_some 1 1 P Q wz (by omega) hP (Nat.le_trans (dl_le _ 1 (by omega) (by decide)) (by omega)) (Nat.le_trans (dl_le _ 1 (by omega) (by decide)) (by omega)) (by omega) (by omega)
 unfold NumTold3 at DV;have hu:0<upN N/\upN N<=9223372036854775807:=by unfold upN;split<;>omega
 have PX:Hid (∀wz,Calls Tryz.prog 233 #[.string (rS (inP P Q)),.int .i64 (upN N),.int .i64 most] wz fun e w'=>e=.returned (.tuple #[.string (str (dec (powN (inP P Q).natAbs (upN N) most).1)),.bool (powN (inP P Q).natAbs (upN N) most).2])/\Below wz.heap.size wz w'):=fun wz=>rpow_any (inP P Q).natAbs (upN N) most wz (Nat.le_trans (dl_mono (inP_abs P Q)) d2) hm hu.2 (by omega)
 have PY:=Lib.hid (fun wz=>rpow_any (inQ P Q) (upN N) most wz (Nat.le_trans (dl_mono (inQ_le P Q)) d1) hm hu.2 (by omega));obtain⟨t1,t2,t3⟩:=po_neg hQ hc hN hN0 hP hm hl;have ho:(!(N.tmod 2==0))=odd2 N:=rfl;obtain⟨od,hod⟩:∃x,odd2 N=x:=⟨_,rfl⟩
 rw[hod]at ho t2;have ho2:(N.tmod 2 != 0)=od:=ho;rw[t1]at t2 t3 ⊢;generalize poP P Q N most=PP at *;generalize poQ P Q N most=QQ at *;generalize (powN (inP P Q).natAbs (upN N) most).2=k1 at *;generalize (powN (inQ P Q) (upN N) most).2=k2 at *;generalize str (dec (powN (inP P Q).natAbs (upN N) most).1)=xs at *;have hxq:∃xq,str (dec (powN (inQ P Q) (upN N) most).1)=xq:=⟨_,rfl⟩
 obtain⟨xq,hxq⟩:=hxq;rw[hxq]at PY;have ZR:=Lib.hid (fun wz=>r3Zero_any wz);unfold NumTold at ZR;obtain⟨y1,hy1⟩:∃x,rB 0=x:=⟨_,rfl⟩
 obtain⟨y2,hy2⟩:∃x,rS 0=x:=⟨_,rfl⟩
 obtain⟨y3,hy3⟩:∃x,str (dec 1)=x:=⟨_,rfl⟩
 rw[hy1,hy2,hy3]at ZR
 have HN:Hid ((k1&&k2)=false->∀w2,Below w.heap.size w w2->NumTold3 w (((w2.setCell ⟨w.heap.size+1,0,none⟩ (.bool y1)).setCell ⟨w.heap.size+1,1,none⟩ (.string y2)).setCell ⟨w.heap.size+1,2,none⟩ (.string y3)) (.returned (.tuple #[.agg #[.bool y1,.string y2,.string y3],.bool false])) PP QQ (k1&&k2)):=by
  intro hk w2 hb;obtain⟨i1,i2⟩:=t3 hk;rw[i1,i2,hk];exact⟨by rw[hy1,hy2,hy3],((hb.setCell (p:=⟨w.heap.size+1,0,none⟩) (show w.heap.size<=w.heap.size+1 by omega) _).setCell (p:=⟨w.heap.size+1,1,none⟩) (show w.heap.size<=w.heap.size+1 by omega) _).setCell (p:=⟨w.heap.size+1,2,none⟩) (show w.heap.size<=w.heap.size+1 by omega) _⟩
 have HY:Hid ((k1&&k2)=true->∀w2,Below w.heap.size w w2->NumTold3 w (((w2.setCell ⟨w.heap.size+1,0,none⟩ (.bool (rB (inP P Q)&&od))).setCell ⟨w.heap.size+1,1,none⟩ (.string xs)).setCell ⟨w.heap.size+1,2,none⟩ (.string xq)) (.returned (.tuple #[.agg #[.bool (rB (inP P Q)&&od),.string xs,.string xq],.bool true])) PP QQ (k1&&k2)):=by
  intro hk w2 hb;obtain⟨i1,i2,i3⟩:=t2 hk;rw[hk];exact⟨by rw[i1,i2,i3,hxq],((hb.setCell (p:=⟨w.heap.size+1,0,none⟩) (show w.heap.size<=w.heap.size+1 by omega) _).setCell (p:=⟨w.heap.size+1,1,none⟩) (show w.heap.size<=w.heap.size+1 by omega) _).setCell (p:=⟨w.heap.size+1,2,none⟩) (show w.heap.size<=w.heap.size+1 by omega) _⟩
 clear hy1 hy2 hy3 t2 t3 hxq;have hn1:N≠0:=by omega
 have hw1:¬N < -9223372036854775807 -> -N=upN N:=by
  intro h;unfold upN;rw[if_neg h]
 have hw5:¬N < -9223372036854775807->IntKind.i64.wrap (-N) = -N:=fun h=>IntWalk.i64_in _ (by omega)
 have hw6:¬N < -9223372036854775807->IntKind.i64.wrap (0-N) = -N:=fun h=>by rw[IntWalk.i64_in _ (by omega)];omega
 have hw2:N < -9223372036854775807->(9223372036854775807:Int)=upN N:=by
  intro h;unfold upN;rw[if_pos h]
 have hw3:IntKind.i64.wrap (0 - -9223372036854775807)=9223372036854775807:=by rw[IntWalk.i64_in _ (by omega)];rfl
 clear hl hod d1 d2 hm hN0 t1 hQ hc hP hu;generalize upN N=U at *;generalize rB (inP P Q)=ib at *;generalize rS (inP P Q)=is at *;generalize str (dec (inQ P Q))=iq at *;generalize rB 1=e1 at *;generalize rS 1=e2 at *;generalize str (dec 1)=e3 at *;generalize rB P=pb at *;generalize rS P=ps at *;generalize str (dec Q)=q at *;have⟨q0,q1,q2⟩:=BB.out.now.2.1.c3
 by_cases hmn:N < -9223372036854775807
 all_goals
  first
   | (have hw4 := hw2 hmn
      subst hw4)
   | (have hw4 := hw1 hmn
      subst hw4;have hw7:=hw5 hmn
      have hw8:=hw6 hmn)
 all_goals cases od
 all_goals
  clear hw1 hw2 hw5 hw6;go_enter Tryz.func195,Tryz.ntmps195;go_wp2_with fail;go_at_call 194;(with_reducible refine(LI.out _).mono ?_);rintro e w2 ⟨rfl,hb2⟩;have BB:=bgo BB hb2;clear hb2 q0 q1 q2;have⟨q0,q1,q2⟩:=BB.out.now.2.1.c3;go_wp2_with fail;have BB:=Lib.hid BB.out.drew
  go_region_with (first
   | (go_at_call 57;(with_reducible refine(FR.out _).mono ?_);rintro e w3 ⟨rfl,hb3⟩;have BB:=Lib.hid (BB.out.go hb3);have q0:=BB.out.now.2.1.cell;have q1:=BB.out.now.2.1.cell1;have q2:=BB.out.now.2.1.cell2)
   | (go_at_call 135;(with_reducible refine(DV.out _).mono ?_);rintro e w4 ⟨rfl,hb4⟩;have B7:=BB.out.go hb4;have hs:=B7.now.2.1;have hr:=B7.now.1;have l0:=hs.cell;have l1:=hs.cell1;have l2:=hs.cell2;have f0:=hs.free;have f1:=hs.free1;have f2:=hs.free2;have BB:=Lib.hid ((((Bag.start w).go (((B7.below.setCell (p:=⟨w.heap.size,0,none⟩) (Nat.le_refl _) (.bool ib)).setCell (p:=⟨w.heap.size,1,none⟩) (Nat.le_refl _) (.string is)).setCell (p:=⟨w.heap.size,2,none⟩) (Nat.le_refl _) (.string iq))).slot3 (hs.set3 (.bool ib) (.string is) (.string iq))).slot3 (hr.set3o (k:=w.heap.size) (by omega) (.bool ib) (.string is) (.string iq)))))
  all_goals
   have⟨q0,q1,q2⟩:=BB.out.now.2.1.c3;go_wp2_with fail;go_at_call 233;(with_reducible refine(PX.out _).mono ?_);rintro e w5 ⟨rfl,hb5⟩;have BB:=bgo BB hb5;clear hb5 q0 q1 q2;have⟨q0,q1,q2⟩:=BB.out.now.2.1.c3;go_wp2_with fail;go_at_call 233;(with_reducible refine(PY.out _).mono ?_);rintro e w6 ⟨rfl,hb6⟩;have BB:=bgo BB hb6;clear hb6 q0 q1 q2;have⟨q0,q1,q2⟩:=BB.out.now.2.1.c3
   cases k1 with
   | false =>
    go_wp2_with fail;go_at_call 64;(with_reducible refine(ZR.out _).mono ?_);rintro e w7 ⟨rfl,hb7⟩;have BB:=bgo BB hb7;clear hb7 q0 q1 q2;have hs:=BB.out.now.1;have⟨u0,u1,u2,g0,g1,g2⟩:=hs.s6;have HS:=hs.set (.bool y1) (.string y2) (.string y3);have HE:=Lib.hid (HN.out rfl _ BB.out.below);clear hs;go_wp2;exact bodyPost_ret (by simp[results,Tryz.results195,go_sem,HS]) rfl HE.out
   | true =>
    cases k2 with
    | false =>
     go_wp2_with fail;go_at_call 64;(with_reducible refine(ZR.out _).mono ?_);rintro e w7 ⟨rfl,hb7⟩;have BB:=bgo BB hb7;clear hb7 q0 q1 q2;have hs:=BB.out.now.1;have⟨u0,u1,u2,g0,g1,g2⟩:=hs.s6;have HS:=hs.set (.bool y1) (.string y2) (.string y3);have HE:=Lib.hid (HN.out rfl _ BB.out.below);clear hs;go_wp2;exact bodyPost_ret (by simp[results,Tryz.results195,go_sem,HS]) rfl HE.out
    | true =>
     cases ib
     all_goals
      have hs:=BB.out.now.1;have⟨u0,u1,u2,g0,g1,g2⟩:=hs.s6;have HT:=hs.set (.bool true) (.string xs) (.string xq);have HF:=hs.set (.bool false) (.string xs) (.string xq);have HE:=Lib.hid (HY.out rfl _ BB.out.below);clear hs;go_wp2
      first
       | exact bodyPost_ret (v:=.tuple #[.agg #[.bool true,.string xs,.string xq],.bool true]) (by simp[results,Tryz.results195,go_sem,HT]) rfl HE.out
       | exact bodyPost_ret (v:=.tuple #[.agg #[.bool false,.string xs,.string xq],.bool true]) (by simp[results,Tryz.results195,go_sem,HF]) rfl HE.out
theorem r3Pow_any(P:Int)(Q:Nat)(N most:Int)(w:World)(hQ:0<Q)(hc:Nat.gcd P.natAbs Q=1)(hN0 : -9223372036854775808<=N)(hN:N<=9223372036854775807)(hm:most<=16)(d1:dl P.natAbs<=40)(d2:dl Q<=40):Calls Tryz.prog 195 #[.agg #[.bool (rB P),.string (rS P),.string (str (dec Q))],.int .i64 N,.int .i64 most] w fun e w'=>NumTold3 w w' e (poP P Q N most) (poQ P Q N most) (poO P Q N most):=by
 by_cases h0:N=0
 · subst h0;have e:raO P Q 0 most=true:=by unfold raO;rw[powN_none (Int.le_refl _),powN_none (Int.le_refl _)];rfl
   have e2:poP P Q 0 most=1/\poQ P Q 0 most=1/\poO P Q 0 most=true:=by
    unfold poP poQ poO raP raQ raS;rw[if_pos (Int.le_refl _),if_pos (Int.le_refl _),if_pos (Int.le_refl _),e,if_pos rfl,if_pos rfl,powN_none (Int.le_refl _),powN_none (Int.le_refl _)];refine⟨?_,rfl,rfl⟩;rw[decide_eq_false (show ¬(0:Int)%2=1 by decide),Bool.and_false]
    rfl
   rw[e2.1,e2.2.1,e2.2.2];exact r3Pow_none P Q most w
 · cases hl:(decide (Q=1)&&(decide (P.natAbs=0)||decide (P.natAbs=1)))with
   | true =>
    rw[Bool.and_eq_true,decide_eq_true_eq]at hl;obtain⟨rfl,hl⟩:=hl
    by_cases hz:P=0/\N<0
    · obtain⟨rfl,hz⟩:=hz
      have e2:poP 0 1 N most=0/\poQ 0 1 N most=1/\poO 0 1 N most=false:=by
       unfold poP poQ poO;have hz2:¬0<=N:=by omega
       simp only[if_neg hz2,if_pos,and_self]
      rw[e2.1,e2.2.1,e2.2.2];exact r3Pow_nought 1 N most w hz
    · exact r3Pow_lim P N most w h0 hl hz
   | false =>
    by_cases hn:0<=N
    · have e:poP P Q N most=raP P Q N most/\poQ P Q N most=raQ P Q N most/\poO P Q N most=raO P Q N most:=by
        unfold poP poQ poO;rw[if_pos hn,if_pos hn,if_pos hn];exact⟨rfl,rfl,rfl⟩
      rw[e.1,e.2.1,e.2.2];exact r3Pow_up P Q N most w (by omega) hN hm d1 d2 hl
    · by_cases hP:P=0
      · subst hP;have hq:Q=1:=by rw[show(0:Int).natAbs=0 from rfl,Nat.gcd_zero_left]at hc;exact hc
        rw[hq]at hl
        cases hl
      · exact r3Pow_down P Q N most w hQ hc (by omega) hN0 hP hm d1 d2 hl
end Go.Proofs.YtdmmenaejkpnjaaGreatDoor
namespace Go.Proofs.YtdmmenaejkpnjaaGreatDoor
open Go.RowKit
theorem limB_cases{P:Int}{Q:Nat}(h:limB P Q=true):Q=1/\(P=0∨P=1∨P = -1):=by
 unfold limB at h;rw[Bool.and_eq_true,Bool.or_eq_true,decide_eq_true_eq,decide_eq_true_eq,decide_eq_true_eq]at h
 omega
end Go.Proofs.YtdmmenaejkpnjaaGreatDoor
namespace Go.Proofs.YtdmmenaejkpnjaaGreatDoor
open Go.RowKit
attribute [local go_sem ↓] Go.wp_at_zero Go.wp_at_succ
set_option linter.unusedVariables false
set_option linter.unusedSimpArgs false
theorem rpower_frac (P : Int) (Q : Nat) (P' : Int) (Q' : Nat) (l : Int) (w : World) (hn : Q' ≠ 1) :
    Calls Tryz.prog 137 #[.agg #[.bool (rB P),.string (rS P),.string (str (dec Q))],.agg #[.bool (rB P'),.string (rS P'),.string (str (dec Q'))],.int .i64 l] w fun e w'=>NumTold4 w w' e 0 1 22:=by
 have HF:=hfz w 22;have ZE:=zen;have d0:=dec_is1 Q';rw[decide_eq_false hn]at d0;generalize rB P=ba at *;generalize rS P=sa at *;generalize str (dec Q)=qa at *;generalize rB P'=bb at *;generalize rS P'=sb at *;generalize str (dec Q')=qb at *;clear hn;have BB:=bagN w ba sa qa bb sb qb;have⟨q00,q01,q02,q10,q11,q12⟩:=bq0 BB;go_enter Tryz.func137,Tryz.ntmps137;go_wp2_with fail;go_at_call 64;refine(ZE.out _).mono ?_;rintro e w1 ⟨rfl,hb1⟩;have BB:=bgo BB hb1;clear hb1;clear q00 q01 q02 q10 q11 q12;have⟨q00,q01,q02,q10,q11,q12⟩:=bq0 BB;have hs:=BB.out.now.1;have⟨u0,u1,u2,g0,g1,g2⟩:=hs.s6;have HS:=hs.set (.bool false) (.string ⟨#[48]⟩) (.string ⟨#[49]⟩);have HE:=Lib.hid (HF.out _ BB.out.below);clear hs;go_wp2;exact bodyPost_ret (by simp[results,Tryz.results137,go_sem,HS]) rfl HE.out
theorem rpower_nought (Q : Nat) (P' : Int) (l : Int) (w : World) (hn : P' < 0) :
    Calls Tryz.prog 137 #[.agg #[.bool (rB 0),.string (rS 0),.string (str (dec Q))],.agg #[.bool (rB P'),.string (rS P'),.string (str (dec 1))],.int .i64 l] w fun e w'=>NumTold4 w w' e 0 1 22:=by
 have HF:=hfz w 22;have ZE:=zen;have eb:rB P'=true:=decide_eq_true hn;have dz:rS 0=⟨#[48]⟩:=num_zero.2.1;have dq1:str (dec 1)=⟨#[49]⟩:=dec1;rw[dq1];rw[eb,dz];generalize rB 0=ba at *;generalize str (dec Q)=qa at *;generalize rS P'=sb at *;clear hn eb dz dq1;have BB:=bagN w ba ⟨#[48]⟩ qa true sb ⟨#[49]⟩;have⟨q00,q01,q02,q10,q11,q12⟩:=bq0 BB;go_enter Tryz.func137,Tryz.ntmps137;go_wp2_with fail;go_at_call 64;refine(ZE.out _).mono ?_;rintro e w1 ⟨rfl,hb1⟩;have BB:=bgo BB hb1;clear hb1;clear q00 q01 q02 q10 q11 q12;have⟨q00,q01,q02,q10,q11,q12⟩:=bq0 BB;have hs:=BB.out.now.1;have⟨u0,u1,u2,g0,g1,g2⟩:=hs.s6;have HS:=hs.set (.bool false) (.string ⟨#[48]⟩) (.string ⟨#[49]⟩);have HE:=Lib.hid (HF.out _ BB.out.below);clear hs;go_wp2;exact bodyPost_ret (by simp[results,Tryz.results137,go_sem,HS]) rfl HE.out
theorem rpower_none (P : Int) (Q : Nat) (l : Int) (w : World)  :
    Calls Tryz.prog 137 #[.agg #[.bool (rB P),.string (rS P),.string (str (dec Q))],.agg #[.bool (rB 0),.string (rS 0),.string (str (dec 1))],.int .i64 l] w fun e w'=>NumTold4 w w' e 1 1 0:=by
 have dq1:str (dec 1)=⟨#[49]⟩:=dec1;rw[dq1];have dz:rS 0=⟨#[48]⟩:=num_zero.2.1;have ez:rB 0=false:=num_zero.1;rw[dz,ez];have HF:=Lib.hid (fun w2 (hb:Below w.heap.size w w2)=>NumTold4.done (k:=w.heap.size+1+1) 1 1 0 hb (by omega) rfl rfl rfl);have FR:=Lib.hid (fun wz=>r3From_any 1 wz (by omega));unfold NumTold at FR;rw[dq1]at FR HF;generalize rB 1=wb at *;generalize rS 1=ws at *
 by_cases hz:P=0
 · have dP:=dec_is0' P.natAbs;have dP:((rS P).toList == [48])=decide (P.natAbs=0):=dP;rw[decide_eq_true (by omega)]at dP;generalize rB P=ba at *;generalize rS P=sa at *;generalize str (dec Q)=qa at *;clear hz dz ez dq1;have BB:=bagN w ba sa qa false ⟨#[48]⟩ ⟨#[49]⟩;have⟨q00,q01,q02,q10,q11,q12⟩:=bq0 BB;go_enter Tryz.func137,Tryz.ntmps137;go_wp2_with fail;go_at_call 57;refine(FR.out _).mono ?_;rintro e w1 ⟨rfl,hb1⟩;have BB:=bgo BB hb1;clear hb1;clear q00 q01 q02 q10 q11 q12;have⟨q00,q01,q02,q10,q11,q12⟩:=bq0 BB;have hs:=BB.out.now.1;have⟨u0,u1,u2,g0,g1,g2⟩:=hs.s6;have HS:=hs.set (.bool wb) (.string ws) (.string ⟨#[49]⟩);have HE:=Lib.hid (HF.out _ BB.out.below);clear hs;go_wp2;exact bodyPost_ret (by simp[results,Tryz.results137,go_sem,HS]) rfl HE.out
 · have dP:=dec_is0' P.natAbs;have dP:((rS P).toList == [48])=decide (P.natAbs=0):=dP;rw[decide_eq_false (by omega)]at dP;generalize rB P=ba at *;generalize rS P=sa at *;generalize str (dec Q)=qa at *;clear hz dz ez dq1;have BB:=bagN w ba sa qa false ⟨#[48]⟩ ⟨#[49]⟩;have⟨q00,q01,q02,q10,q11,q12⟩:=bq0 BB;go_enter Tryz.func137,Tryz.ntmps137;go_wp2_with fail;go_at_call 57;refine(FR.out _).mono ?_;rintro e w1 ⟨rfl,hb1⟩;have BB:=bgo BB hb1;clear hb1;clear q00 q01 q02 q10 q11 q12;have⟨q00,q01,q02,q10,q11,q12⟩:=bq0 BB;have hs:=BB.out.now.1;have⟨u0,u1,u2,g0,g1,g2⟩:=hs.s6;have HS:=hs.set (.bool wb) (.string ws) (.string ⟨#[49]⟩);have HE:=Lib.hid (HF.out _ BB.out.below);clear hs;go_wp2;exact bodyPost_ret (by simp[results,Tryz.results137,go_sem,HS]) rfl HE.out
theorem lim_sign{P P':Int}(h:limB P 1=true):rB (if P'%2=0 then P*P else P)=(rB P&&decide (P'.natAbs%2=1))/\rS (if P'%2=0 then P*P else P)=rS P:=by
 obtain⟨_,hP⟩:=limB_cases h
 by_cases he:P'%2=0
 · rw[if_pos he,decide_eq_false (show ¬P'.natAbs%2=1 by omega),Bool.and_false]
   rcases hP with rfl|rfl|rfl<;>exact⟨rfl,rfl⟩
 · rw[if_neg he,decide_eq_true (show P'.natAbs%2=1 by omega),Bool.and_true];exact⟨rfl,rfl⟩
theorem rpower_lim (P : Int) (P' : Int) (l : Int) (w : World) (hl : limB P 1 = true) (hn : P' ≠ 0) (hb : P' < 0 -> P ≠ 0) (hd : dl P'.natAbs <= 40) :
    Calls Tryz.prog 137 #[.agg #[.bool (rB P),.string (rS P),.string (str (dec 1))],.agg #[.bool (rB P'),.string (rS P'),.string (str (dec 1))],.int .i64 l] w fun e w'=>NumTold4 w w' e (if P'%2=0 then P*P else P) 1 0:=by
 have dq1:str (dec 1)=⟨#[49]⟩:=dec1;rw[dq1];have vB:rB (if P'%2=0 then P*P else P)=(rB P&&decide (P'.natAbs%2=1))/\rS (if P'%2=0 then P*P else P)=rS P:=lim_sign hl
 have LM:Hid (∀wz,Calls Tryz.prog 194 #[.agg #[.bool (rB P),.string (rS P),.string (str (dec 1))]] wz fun e w'=>e=.returned (.bool true)/\Below wz.heap.size wz w'):=Lib.hid (fun wz=>by
  have:=r3Limited_any (rB P) P 1 wz;rw[show(decide ((1:Nat)=1)&&(decide (P.natAbs=0)||decide (P.natAbs=1)))=true from hl]at this
  exact this)
 obtain⟨V,hV⟩:∃z,(if P'%2=0 then P*P else P)=z:=⟨_,rfl⟩
 rw[hV]at vB ⊢;have HF:=Lib.hid (fun w2 (hb:Below w.heap.size w w2)=>NumTold4.done (k:=w.heap.size+1+1) V 1 0 hb (by omega) vB.1 vB.2 dq1);rw[dq1]at LM;have hb0:0<dl P'.natAbs:=dl_pos P'.natAbs;have hsz:(rS P').size=dl P'.natAbs:=by unfold rS;rw[str_size];exact sdig_length _ _
 obtain⟨kx,hkx⟩:∃kx,dl P'.natAbs=kx+1:=⟨dl P'.natAbs-1,by omega⟩
 have hlast:∃h:kx<(rS P').size,((rS P')[kx]).toNat=48+P'.natAbs%10:=⟨by omega,last_digit P'.natAbs hkx (by unfold rS at hsz;omega)⟩
 obtain⟨od,hod⟩:∃z,decide (P'.natAbs%2=1)=z:=⟨_,rfl⟩
 rw[hod]at HF;have dB:=dec_is0' P'.natAbs;have dB:((rS P').toList == [48])=decide (P'.natAbs=0):=dB;rw[decide_eq_false (by omega)]at dB
 by_cases hz:P=0
 · have dP:=dec_is0' P.natAbs;have dP:((rS P).toList == [48])=decide (P.natAbs=0):=dP;rw[decide_eq_true (by omega)]at dP;have eb:rB P'=false:=decide_eq_false (by omega);rw[eb]
   try rw[eb]at IN
   generalize rS P'=sb at *;generalize rB P=ba at *;generalize rS P=sa at *;obtain⟨hkD,hlast3⟩:=hlast;obtain⟨dx,hdx⟩:∃x,P'.natAbs%10=x:=⟨_,rfl⟩
   obtain⟨dy,hdy⟩:∃y,dx%2=y:=⟨_,rfl⟩
   obtain⟨cc,hcc⟩:∃cc,sb[kx]=cc:=⟨_,rfl⟩
   rw[hcc,hdx]at hlast3;have e1:(sb.size:Int)-1=(kx:Int):=by omega
   have e2:(cc.toNat:Int)-48=(dx:Int):=by omega
   have e3:(dx:Int)%2=(dy:Int):=by omega
   have e4:(48:Int)<=(cc.toNat:Int):=by omega
   have e5:((dy:Int)==1)=od:=by rw[← hod,Bool.eq_iff_iff,beq_iff_eq,decide_eq_true_eq];omega
   have e6:(dx:Int)%256=(dx:Int):=by omega
   have hsl:sb.size<=120:=by omega
   have hkk:(kx:Int)<(sb.size:Int):=by omega
   clear hl hb hd hsz hkx hod hlast3 hdx hdy hb0 hn hz vB hV dq1 eb
   cases ba with
   | false =>
    cases od with
    | false =>
     have BB:=bagN w false sa ⟨#[49]⟩ false sb ⟨#[49]⟩;have⟨q00,q01,q02,q10,q11,q12⟩:=bq0 BB;go_enter Tryz.func137,Tryz.ntmps137;go_wp2_with fail;go_at_call 194;refine(LM.out _).mono ?_;rintro e w1 ⟨rfl,hb1⟩;have BB:=bgo BB hb1;clear hb1;clear q00 q01 q02 q10 q11 q12;have⟨q00,q01,q02,q10,q11,q12⟩:=bq0 BB;have hs:=BB.out.now.1;have⟨u0,u1,u2,g0,g1,g2⟩:=hs.s6;have HS:=hs.set (.bool false) (.string sa) (.string ⟨#[49]⟩);have HE:=Lib.hid (HF.out _ BB.out.below);clear hs;go_wp2;exact bodyPost_ret (by simp[results,Tryz.results137,go_sem,HS]) rfl HE.out
    | true =>
     have BB:=bagN w false sa ⟨#[49]⟩ false sb ⟨#[49]⟩;have⟨q00,q01,q02,q10,q11,q12⟩:=bq0 BB;go_enter Tryz.func137,Tryz.ntmps137;go_wp2_with fail;go_at_call 194;refine(LM.out _).mono ?_;rintro e w1 ⟨rfl,hb1⟩;have BB:=bgo BB hb1;clear hb1;clear q00 q01 q02 q10 q11 q12;have⟨q00,q01,q02,q10,q11,q12⟩:=bq0 BB;have hs:=BB.out.now.1;have⟨u0,u1,u2,g0,g1,g2⟩:=hs.s6;have HS:=hs.set (.bool false) (.string sa) (.string ⟨#[49]⟩);have HE:=Lib.hid (HF.out _ BB.out.below);clear hs;go_wp2;exact bodyPost_ret (by simp[results,Tryz.results137,go_sem,HS]) rfl HE.out
   | true =>
    cases od with
    | false =>
     have BB:=bagN w true sa ⟨#[49]⟩ false sb ⟨#[49]⟩;have⟨q00,q01,q02,q10,q11,q12⟩:=bq0 BB;go_enter Tryz.func137,Tryz.ntmps137;go_wp2_with fail;go_at_call 194;refine(LM.out _).mono ?_;rintro e w1 ⟨rfl,hb1⟩;have BB:=bgo BB hb1;clear hb1;clear q00 q01 q02 q10 q11 q12;have⟨q00,q01,q02,q10,q11,q12⟩:=bq0 BB;have hs:=BB.out.now.1;have⟨u0,u1,u2,g0,g1,g2⟩:=hs.s6;have HS:=hs.set (.bool false) (.string sa) (.string ⟨#[49]⟩);have HE:=Lib.hid (HF.out _ BB.out.below);clear hs;go_wp2;exact bodyPost_ret (by simp[results,Tryz.results137,go_sem,HS]) rfl HE.out
    | true =>
     have BB:=bagN w true sa ⟨#[49]⟩ false sb ⟨#[49]⟩;have⟨q00,q01,q02,q10,q11,q12⟩:=bq0 BB;go_enter Tryz.func137,Tryz.ntmps137;go_wp2_with fail;go_at_call 194;refine(LM.out _).mono ?_;rintro e w1 ⟨rfl,hb1⟩;have BB:=bgo BB hb1;clear hb1;clear q00 q01 q02 q10 q11 q12;have⟨q00,q01,q02,q10,q11,q12⟩:=bq0 BB;have hs:=BB.out.now.1;have⟨u0,u1,u2,g0,g1,g2⟩:=hs.s6;have HS:=hs.set (.bool true) (.string sa) (.string ⟨#[49]⟩);have HE:=Lib.hid (HF.out _ BB.out.below);clear hs;go_wp2;exact bodyPost_ret (by simp[results,Tryz.results137,go_sem,HS]) rfl HE.out
 · have dP:=dec_is0' P.natAbs;have dP:((rS P).toList == [48])=decide (P.natAbs=0):=dP;rw[decide_eq_false (by omega)]at dP;generalize rS P'=sb at *;generalize rB P'=bb at *;generalize rB P=ba at *;generalize rS P=sa at *;obtain⟨hkD,hlast3⟩:=hlast;obtain⟨dx,hdx⟩:∃x,P'.natAbs%10=x:=⟨_,rfl⟩
   obtain⟨dy,hdy⟩:∃y,dx%2=y:=⟨_,rfl⟩
   obtain⟨cc,hcc⟩:∃cc,sb[kx]=cc:=⟨_,rfl⟩
   rw[hcc,hdx]at hlast3;have e1:(sb.size:Int)-1=(kx:Int):=by omega
   have e2:(cc.toNat:Int)-48=(dx:Int):=by omega
   have e3:(dx:Int)%2=(dy:Int):=by omega
   have e4:(48:Int)<=(cc.toNat:Int):=by omega
   have e5:((dy:Int)==1)=od:=by rw[← hod,Bool.eq_iff_iff,beq_iff_eq,decide_eq_true_eq];omega
   have e6:(dx:Int)%256=(dx:Int):=by omega
   have hsl:sb.size<=120:=by omega
   have hkk:(kx:Int)<(sb.size:Int):=by omega
   clear hl hb hd hsz hkx hod hlast3 hdx hdy hb0 hn hz vB hV dq1
   cases ba with
   | false =>
    cases od with
    | false =>
     have BB:=bagN w false sa ⟨#[49]⟩ bb sb ⟨#[49]⟩;have⟨q00,q01,q02,q10,q11,q12⟩:=bq0 BB;go_enter Tryz.func137,Tryz.ntmps137;go_wp2_with fail;go_at_call 194;refine(LM.out _).mono ?_;rintro e w1 ⟨rfl,hb1⟩;have BB:=bgo BB hb1;clear hb1;clear q00 q01 q02 q10 q11 q12;have⟨q00,q01,q02,q10,q11,q12⟩:=bq0 BB;have hs:=BB.out.now.1;have⟨u0,u1,u2,g0,g1,g2⟩:=hs.s6;have HS:=hs.set (.bool false) (.string sa) (.string ⟨#[49]⟩);have HE:=Lib.hid (HF.out _ BB.out.below);clear hs;go_wp2;exact bodyPost_ret (by simp[results,Tryz.results137,go_sem,HS]) rfl HE.out
    | true =>
     have BB:=bagN w false sa ⟨#[49]⟩ bb sb ⟨#[49]⟩;have⟨q00,q01,q02,q10,q11,q12⟩:=bq0 BB;go_enter Tryz.func137,Tryz.ntmps137;go_wp2_with fail;go_at_call 194;refine(LM.out _).mono ?_;rintro e w1 ⟨rfl,hb1⟩;have BB:=bgo BB hb1;clear hb1;clear q00 q01 q02 q10 q11 q12;have⟨q00,q01,q02,q10,q11,q12⟩:=bq0 BB;have hs:=BB.out.now.1;have⟨u0,u1,u2,g0,g1,g2⟩:=hs.s6;have HS:=hs.set (.bool false) (.string sa) (.string ⟨#[49]⟩);have HE:=Lib.hid (HF.out _ BB.out.below);clear hs;go_wp2;exact bodyPost_ret (by simp[results,Tryz.results137,go_sem,HS]) rfl HE.out
   | true =>
    cases od with
    | false =>
     have BB:=bagN w true sa ⟨#[49]⟩ bb sb ⟨#[49]⟩;have⟨q00,q01,q02,q10,q11,q12⟩:=bq0 BB;go_enter Tryz.func137,Tryz.ntmps137;go_wp2_with fail;go_at_call 194;refine(LM.out _).mono ?_;rintro e w1 ⟨rfl,hb1⟩;have BB:=bgo BB hb1;clear hb1;clear q00 q01 q02 q10 q11 q12;have⟨q00,q01,q02,q10,q11,q12⟩:=bq0 BB;have hs:=BB.out.now.1;have⟨u0,u1,u2,g0,g1,g2⟩:=hs.s6;have HS:=hs.set (.bool false) (.string sa) (.string ⟨#[49]⟩);have HE:=Lib.hid (HF.out _ BB.out.below);clear hs;go_wp2;exact bodyPost_ret (by simp[results,Tryz.results137,go_sem,HS]) rfl HE.out
    | true =>
     have BB:=bagN w true sa ⟨#[49]⟩ bb sb ⟨#[49]⟩;have⟨q00,q01,q02,q10,q11,q12⟩:=bq0 BB;go_enter Tryz.func137,Tryz.ntmps137;go_wp2_with fail;go_at_call 194;refine(LM.out _).mono ?_;rintro e w1 ⟨rfl,hb1⟩;have BB:=bgo BB hb1;clear hb1;clear q00 q01 q02 q10 q11 q12;have⟨q00,q01,q02,q10,q11,q12⟩:=bq0 BB;have hs:=BB.out.now.1;have⟨u0,u1,u2,g0,g1,g2⟩:=hs.s6;have HS:=hs.set (.bool true) (.string sa) (.string ⟨#[49]⟩);have HE:=Lib.hid (HF.out _ BB.out.below);clear hs;go_wp2;exact bodyPost_ret (by simp[results,Tryz.results137,go_sem,HS]) rfl HE.out
theorem rpower_far (P : Int) (Q : Nat) (P' : Int) (l : Int) (w : World) (hl : limB P Q = false) (hn : P' ≠ 0) (hb : P' < 0 -> P ≠ 0) (hd : dl P'.natAbs <= 40) (hf : fitB P' = false) :
    Calls Tryz.prog 137 #[.agg #[.bool (rB P),.string (rS P),.string (str (dec Q))],.agg #[.bool (rB P'),.string (rS P'),.string (str (dec 1))],.int .i64 l] w fun e w'=>NumTold4 w w' e 0 1 26:=by
 have dq1:str (dec 1)=⟨#[49]⟩:=dec1;rw[dq1];have HF:=hfz w 26;have ZE:=zen;have LM:=Lib.hid (fun wz=>r3Limited_any (rB P) P Q wz);rw[show(decide (Q=1)&&(decide (P.natAbs=0)||decide (P.natAbs=1)))=false from hl]at LM;have IN:Hid (∀wz,Calls Tryz.prog 131 #[.agg #[.bool (rB P'),.string (rS P'),.string (str (dec 1))]] wz fun e w'=>e=.returned (.tuple #[.int .i64 (fitI P'),.bool (fitB P')])/\Below wz.heap.size wz w'):=Lib.hid (fun wz=>r3Int_any P' 1 wz (by omega));rw[dq1]at IN;rw[hf]at IN;generalize fitI P'=fi at *;have hb0:0<dl P'.natAbs:=dl_pos P'.natAbs;have hsz:(rS P').size=dl P'.natAbs:=by unfold rS;rw[str_size];exact sdig_length _ _
 obtain⟨kx,hkx⟩:∃kx,dl P'.natAbs=kx+1:=⟨dl P'.natAbs-1,by omega⟩
 have hlast:∃h:kx<(rS P').size,((rS P')[kx]).toNat=48+P'.natAbs%10:=⟨by omega,last_digit P'.natAbs hkx (by unfold rS at hsz;omega)⟩
 obtain⟨od,hod⟩:∃z,decide (P'.natAbs%2=1)=z:=⟨_,rfl⟩
 have dB:=dec_is0' P'.natAbs;have dB:((rS P').toList == [48])=decide (P'.natAbs=0):=dB;rw[decide_eq_false (by omega)]at dB
 by_cases hz:P=0
 focus
  have dP:=dec_is0' P.natAbs;have dP:((rS P).toList == [48])=decide (P.natAbs=0):=dP;rw[decide_eq_true (by omega)]at dP;have eb:rB P'=false:=decide_eq_false (by omega);rw[eb]
  try rw[eb]at IN
  generalize rS P'=sb at *;generalize rB P=ba at *;generalize rS P=sa at *;generalize str (dec Q)=qa at *;obtain⟨hkD,hlast3⟩:=hlast;obtain⟨dx,hdx⟩:∃x,P'.natAbs%10=x:=⟨_,rfl⟩
  obtain⟨dy,hdy⟩:∃y,dx%2=y:=⟨_,rfl⟩
  obtain⟨cc,hcc⟩:∃cc,sb[kx]=cc:=⟨_,rfl⟩
  rw[hcc,hdx]at hlast3;have e1:(sb.size:Int)-1=(kx:Int):=by omega
  have e2:(cc.toNat:Int)-48=(dx:Int):=by omega
  have e3:(dx:Int)%2=(dy:Int):=by omega
  have e4:(48:Int)<=(cc.toNat:Int):=by omega
  have e5:((dy:Int)==1)=od:=by rw[← hod,Bool.eq_iff_iff,beq_iff_eq,decide_eq_true_eq];omega
  have e6:(dx:Int)%256=(dx:Int):=by omega
  have hsl:sb.size<=120:=by omega
  have hkk:(kx:Int)<(sb.size:Int):=by omega
  clear hl hb hd hsz hkx hod hlast3 hdx hdy hb0 hn hz hf dq1 eb;have BB:=bagN w ba sa qa false sb ⟨#[49]⟩;have⟨q00,q01,q02,q10,q11,q12⟩:=bq0 BB;go_enter Tryz.func137,Tryz.ntmps137
 rotate_left
 focus
  have dP:=dec_is0' P.natAbs;have dP:((rS P).toList == [48])=decide (P.natAbs=0):=dP;rw[decide_eq_false (by omega)]at dP;generalize rS P'=sb at *;generalize rB P'=bb at *;generalize rB P=ba at *;generalize rS P=sa at *;generalize str (dec Q)=qa at *;obtain⟨hkD,hlast3⟩:=hlast;obtain⟨dx,hdx⟩:∃x,P'.natAbs%10=x:=⟨_,rfl⟩
  obtain⟨dy,hdy⟩:∃y,dx%2=y:=⟨_,rfl⟩
  obtain⟨cc,hcc⟩:∃cc,sb[kx]=cc:=⟨_,rfl⟩
  rw[hcc,hdx]at hlast3;have e1:(sb.size:Int)-1=(kx:Int):=by omega
  have e2:(cc.toNat:Int)-48=(dx:Int):=by omega
  have e3:(dx:Int)%2=(dy:Int):=by omega
  have e4:(48:Int)<=(cc.toNat:Int):=by omega
  have e5:((dy:Int)==1)=od:=by rw[← hod,Bool.eq_iff_iff,beq_iff_eq,decide_eq_true_eq];omega
  have e6:(dx:Int)%256=(dx:Int):=by omega
  have hsl:sb.size<=120:=by omega
  have hkk:(kx:Int)<(sb.size:Int):=by omega
  clear hl hb hd hsz hkx hod hlast3 hdx hdy hb0 hn hz hf dq1;have BB:=bagN w ba sa qa bb sb ⟨#[49]⟩;have⟨q00,q01,q02,q10,q11,q12⟩:=bq0 BB;go_enter Tryz.func137,Tryz.ntmps137
 all_goals
  go_wp2_with fail;go_at_call 194;refine(LM.out _).mono ?_;rintro e w1 ⟨rfl,hb1⟩;have BB:=bgo BB hb1;clear hb1;clear q00 q01 q02 q10 q11 q12;have⟨q00,q01,q02,q10,q11,q12⟩:=bq0 BB;go_wp2_with fail;go_at_call 131;refine(IN.out _).mono ?_;rintro e w2 ⟨rfl,hb2⟩;have BB:=bgo BB hb2;clear hb2;clear q00 q01 q02 q10 q11 q12;have⟨q00,q01,q02,q10,q11,q12⟩:=bq0 BB;go_wp2_with fail;go_at_call 64;refine(ZE.out _).mono ?_;rintro e w3 ⟨rfl,hb3⟩;have BB:=bgo BB hb3;clear hb3;clear q00 q01 q02 q10 q11 q12;have⟨q00,q01,q02,q10,q11,q12⟩:=bq0 BB;have hs:=BB.out.now.1;have⟨u0,u1,u2,g0,g1,g2⟩:=hs.s6;have HS:=hs.set (.bool false) (.string ⟨#[48]⟩) (.string ⟨#[49]⟩);have HE:=Lib.hid (HF.out _ BB.out.below);clear hs;go_wp2;exact bodyPost_ret (by simp[results,Tryz.results137,go_sem,HS]) rfl HE.out
theorem rpower_yes (P : Int) (Q : Nat) (P' : Int) (l : Int) (w : World) (hl : limB P Q = false) (hn : P' ≠ 0) (hb : P' < 0 -> P ≠ 0) (hd : dl P'.natAbs <= 40) (hf : fitB P' = true) (hQ : 0 < Q) (hg : Nat.gcd P.natAbs Q = 1) (hlm : l <= 16) (d1 : dl P.natAbs <= 40) (d2 : dl Q <= 40) (ho : poO P Q P' l = true) :
    Calls Tryz.prog 137 #[.agg #[.bool (rB P),.string (rS P),.string (str (dec Q))],.agg #[.bool (rB P'),.string (rS P'),.string (str (dec 1))],.int .i64 l] w fun e w'=>NumTold4 w w' e (poP P Q P' l) (poQ P Q P' l) 0:=by
 have dq1:str (dec 1)=⟨#[49]⟩:=dec1;rw[dq1];have HF:=Lib.hid (fun w2 (hb:Below w.heap.size w w2)=>NumTold4.done (k:=w.heap.size+1+1) (poP P Q P' l) (poQ P Q P' l) 0 hb (by omega) rfl rfl rfl);have LM:=Lib.hid (fun wz=>r3Limited_any (rB P) P Q wz);rw[show(decide (Q=1)&&(decide (P.natAbs=0)||decide (P.natAbs=1)))=false from hl]at LM;have IN:Hid (∀wz,Calls Tryz.prog 131 #[.agg #[.bool (rB P'),.string (rS P'),.string (str (dec 1))]] wz fun e w'=>e=.returned (.tuple #[.int .i64 (fitI P'),.bool (fitB P')])/\Below wz.heap.size wz w'):=Lib.hid (fun wz=>r3Int_any P' 1 wz (by omega));rw[dq1]at IN;rw[hf]at IN;have hfi:=fit_inD hf;rw[hfi.1]at IN;have PW:=Lib.hid (fun wz=>r3Pow_any P Q P' l wz hQ hg hfi.2.1 hfi.2.2 hlm d1 d2);unfold NumTold3 at PW;rw[ho]at PW;generalize rB (poP P Q P' l)=wb at *;generalize rS (poP P Q P' l)=ws at *;generalize str (dec (poQ P Q P' l))=wq at *;have hb0:0<dl P'.natAbs:=dl_pos P'.natAbs;have hsz:(rS P').size=dl P'.natAbs:=by unfold rS;rw[str_size];exact sdig_length _ _
 obtain⟨kx,hkx⟩:∃kx,dl P'.natAbs=kx+1:=⟨dl P'.natAbs-1,by omega⟩
 have hlast:∃h:kx<(rS P').size,((rS P')[kx]).toNat=48+P'.natAbs%10:=⟨by omega,last_digit P'.natAbs hkx (by unfold rS at hsz;omega)⟩
 obtain⟨od,hod⟩:∃z,decide (P'.natAbs%2=1)=z:=⟨_,rfl⟩
 have dB:=dec_is0' P'.natAbs;have dB:((rS P').toList == [48])=decide (P'.natAbs=0):=dB;rw[decide_eq_false (by omega)]at dB
 by_cases hz:P=0
 focus
  have dP:=dec_is0' P.natAbs;have dP:((rS P).toList == [48])=decide (P.natAbs=0):=dP;rw[decide_eq_true (by omega)]at dP;have eb:rB P'=false:=decide_eq_false (by omega);rw[eb]
  try rw[eb]at IN
  generalize rS P'=sb at *;generalize rB P=ba at *;generalize rS P=sa at *;generalize str (dec Q)=qa at *;obtain⟨hkD,hlast3⟩:=hlast;obtain⟨dx,hdx⟩:∃x,P'.natAbs%10=x:=⟨_,rfl⟩
  obtain⟨dy,hdy⟩:∃y,dx%2=y:=⟨_,rfl⟩
  obtain⟨cc,hcc⟩:∃cc,sb[kx]=cc:=⟨_,rfl⟩
  rw[hcc,hdx]at hlast3;have e1:(sb.size:Int)-1=(kx:Int):=by omega
  have e2:(cc.toNat:Int)-48=(dx:Int):=by omega
  have e3:(dx:Int)%2=(dy:Int):=by omega
  have e4:(48:Int)<=(cc.toNat:Int):=by omega
  have e5:((dy:Int)==1)=od:=by rw[← hod,Bool.eq_iff_iff,beq_iff_eq,decide_eq_true_eq];omega
  have e6:(dx:Int)%256=(dx:Int):=by omega
  have hsl:sb.size<=120:=by omega
  have hkk:(kx:Int)<(sb.size:Int):=by omega
  clear hl hb hd hsz hkx hod hlast3 hdx hdy hb0 hn hz hf hfi ho hQ hg hlm d1 d2 dq1 eb;have BB:=bagN w ba sa qa false sb ⟨#[49]⟩;have⟨q00,q01,q02,q10,q11,q12⟩:=bq0 BB;go_enter Tryz.func137,Tryz.ntmps137
 rotate_left
 focus
  have dP:=dec_is0' P.natAbs;have dP:((rS P).toList == [48])=decide (P.natAbs=0):=dP;rw[decide_eq_false (by omega)]at dP;generalize rS P'=sb at *;generalize rB P'=bb at *;generalize rB P=ba at *;generalize rS P=sa at *;generalize str (dec Q)=qa at *;obtain⟨hkD,hlast3⟩:=hlast;obtain⟨dx,hdx⟩:∃x,P'.natAbs%10=x:=⟨_,rfl⟩
  obtain⟨dy,hdy⟩:∃y,dx%2=y:=⟨_,rfl⟩
  obtain⟨cc,hcc⟩:∃cc,sb[kx]=cc:=⟨_,rfl⟩
  rw[hcc,hdx]at hlast3;have e1:(sb.size:Int)-1=(kx:Int):=by omega
  have e2:(cc.toNat:Int)-48=(dx:Int):=by omega
  have e3:(dx:Int)%2=(dy:Int):=by omega
  have e4:(48:Int)<=(cc.toNat:Int):=by omega
  have e5:((dy:Int)==1)=od:=by rw[← hod,Bool.eq_iff_iff,beq_iff_eq,decide_eq_true_eq];omega
  have e6:(dx:Int)%256=(dx:Int):=by omega
  have hsl:sb.size<=120:=by omega
  have hkk:(kx:Int)<(sb.size:Int):=by omega
  clear hl hb hd hsz hkx hod hlast3 hdx hdy hb0 hn hz hf hfi ho hQ hg hlm d1 d2 dq1;have BB:=bagN w ba sa qa bb sb ⟨#[49]⟩;have⟨q00,q01,q02,q10,q11,q12⟩:=bq0 BB;go_enter Tryz.func137,Tryz.ntmps137
 all_goals
  go_wp2_with fail;go_at_call 194;refine(LM.out _).mono ?_;rintro e w1 ⟨rfl,hb1⟩;have BB:=bgo BB hb1;clear hb1;clear q00 q01 q02 q10 q11 q12;have⟨q00,q01,q02,q10,q11,q12⟩:=bq0 BB;go_wp2_with fail;go_at_call 131;refine(IN.out _).mono ?_;rintro e w2 ⟨rfl,hb2⟩;have BB:=bgo BB hb2;clear hb2;clear q00 q01 q02 q10 q11 q12;have⟨q00,q01,q02,q10,q11,q12⟩:=bq0 BB;go_wp2_with fail;go_at_call 195;refine(PW.out _).mono ?_;rintro e w3 ⟨rfl,hb3⟩;have BB:=Lib.hid ((BB.out.go hb3).box3 (.bool wb) (.string ws) (.string wq) 46);clear hb3;clear q00 q01 q02 q10 q11 q12;have⟨q00,q01,q02,q10,q11,q12⟩:=bq1 BB;have⟨q20,q21,q22⟩:=BB.out.now.1.c3;have hs:=BB.out.now.2.1;have⟨u0,u1,u2,g0,g1,g2⟩:=hs.s6;have HS:=hs.set (.bool wb) (.string ws) (.string wq);have HE:=Lib.hid (HF.out _ BB.out.below);clear hs;go_wp2;exact bodyPost_ret (by simp[results,Tryz.results137,go_sem,HS]) rfl HE.out
theorem rpower_long (P : Int) (Q : Nat) (P' : Int) (l : Int) (w : World) (hl : limB P Q = false) (hn : P' ≠ 0) (hb : P' < 0 -> P ≠ 0) (hd : dl P'.natAbs <= 40) (hf : fitB P' = true) (hQ : 0 < Q) (hg : Nat.gcd P.natAbs Q = 1) (hlm : l <= 16) (d1 : dl P.natAbs <= 40) (d2 : dl Q <= 40) (ho : poO P Q P' l = false) :
    Calls Tryz.prog 137 #[.agg #[.bool (rB P),.string (rS P),.string (str (dec Q))],.agg #[.bool (rB P'),.string (rS P'),.string (str (dec 1))],.int .i64 l] w fun e w'=>NumTold4 w w' e 0 1 26:=by
 have dq1:str (dec 1)=⟨#[49]⟩:=dec1;rw[dq1];have HF:=hfz w 26;have ZE:=zen;have LM:=Lib.hid (fun wz=>r3Limited_any (rB P) P Q wz);rw[show(decide (Q=1)&&(decide (P.natAbs=0)||decide (P.natAbs=1)))=false from hl]at LM;have IN:Hid (∀wz,Calls Tryz.prog 131 #[.agg #[.bool (rB P'),.string (rS P'),.string (str (dec 1))]] wz fun e w'=>e=.returned (.tuple #[.int .i64 (fitI P'),.bool (fitB P')])/\Below wz.heap.size wz w'):=Lib.hid (fun wz=>r3Int_any P' 1 wz (by omega));rw[dq1]at IN;rw[hf]at IN;have hfi:=fit_inD hf;rw[hfi.1]at IN;have PW:=Lib.hid (fun wz=>r3Pow_any P Q P' l wz hQ hg hfi.2.1 hfi.2.2 hlm d1 d2);unfold NumTold3 at PW;rw[ho]at PW;generalize rB (poP P Q P' l)=wb at *;generalize rS (poP P Q P' l)=ws at *;generalize str (dec (poQ P Q P' l))=wq at *;have hb0:0<dl P'.natAbs:=dl_pos P'.natAbs;have hsz:(rS P').size=dl P'.natAbs:=by unfold rS;rw[str_size];exact sdig_length _ _
 obtain⟨kx,hkx⟩:∃kx,dl P'.natAbs=kx+1:=⟨dl P'.natAbs-1,by omega⟩
 have hlast:∃h:kx<(rS P').size,((rS P')[kx]).toNat=48+P'.natAbs%10:=⟨by omega,last_digit P'.natAbs hkx (by unfold rS at hsz;omega)⟩
 obtain⟨od,hod⟩:∃z,decide (P'.natAbs%2=1)=z:=⟨_,rfl⟩
 have dB:=dec_is0' P'.natAbs;have dB:((rS P').toList == [48])=decide (P'.natAbs=0):=dB;rw[decide_eq_false (by omega)]at dB
 by_cases hz:P=0
 focus
  have dP:=dec_is0' P.natAbs;have dP:((rS P).toList == [48])=decide (P.natAbs=0):=dP;rw[decide_eq_true (by omega)]at dP;have eb:rB P'=false:=decide_eq_false (by omega);rw[eb]
  try rw[eb]at IN
  generalize rS P'=sb at *;generalize rB P=ba at *;generalize rS P=sa at *;generalize str (dec Q)=qa at *;obtain⟨hkD,hlast3⟩:=hlast;obtain⟨dx,hdx⟩:∃x,P'.natAbs%10=x:=⟨_,rfl⟩
  obtain⟨dy,hdy⟩:∃y,dx%2=y:=⟨_,rfl⟩
  obtain⟨cc,hcc⟩:∃cc,sb[kx]=cc:=⟨_,rfl⟩
  rw[hcc,hdx]at hlast3;have e1:(sb.size:Int)-1=(kx:Int):=by omega
  have e2:(cc.toNat:Int)-48=(dx:Int):=by omega
  have e3:(dx:Int)%2=(dy:Int):=by omega
  have e4:(48:Int)<=(cc.toNat:Int):=by omega
  have e5:((dy:Int)==1)=od:=by rw[← hod,Bool.eq_iff_iff,beq_iff_eq,decide_eq_true_eq];omega
  have e6:(dx:Int)%256=(dx:Int):=by omega
  have hsl:sb.size<=120:=by omega
  have hkk:(kx:Int)<(sb.size:Int):=by omega
  clear hl hb hd hsz hkx hod hlast3 hdx hdy hb0 hn hz hf hfi ho hQ hg hlm d1 d2 dq1 eb;have BB:=bagN w ba sa qa false sb ⟨#[49]⟩;have⟨q00,q01,q02,q10,q11,q12⟩:=bq0 BB;go_enter Tryz.func137,Tryz.ntmps137
 rotate_left
 focus
  have dP:=dec_is0' P.natAbs;have dP:((rS P).toList == [48])=decide (P.natAbs=0):=dP;rw[decide_eq_false (by omega)]at dP;generalize rS P'=sb at *;generalize rB P'=bb at *;generalize rB P=ba at *;generalize rS P=sa at *;generalize str (dec Q)=qa at *;obtain⟨hkD,hlast3⟩:=hlast;obtain⟨dx,hdx⟩:∃x,P'.natAbs%10=x:=⟨_,rfl⟩
  obtain⟨dy,hdy⟩:∃y,dx%2=y:=⟨_,rfl⟩
  obtain⟨cc,hcc⟩:∃cc,sb[kx]=cc:=⟨_,rfl⟩
  rw[hcc,hdx]at hlast3;have e1:(sb.size:Int)-1=(kx:Int):=by omega
  have e2:(cc.toNat:Int)-48=(dx:Int):=by omega
  have e3:(dx:Int)%2=(dy:Int):=by omega
  have e4:(48:Int)<=(cc.toNat:Int):=by omega
  have e5:((dy:Int)==1)=od:=by rw[← hod,Bool.eq_iff_iff,beq_iff_eq,decide_eq_true_eq];omega
  have e6:(dx:Int)%256=(dx:Int):=by omega
  have hsl:sb.size<=120:=by omega
  have hkk:(kx:Int)<(sb.size:Int):=by omega
  clear hl hb hd hsz hkx hod hlast3 hdx hdy hb0 hn hz hf hfi ho hQ hg hlm d1 d2 dq1;have BB:=bagN w ba sa qa bb sb ⟨#[49]⟩;have⟨q00,q01,q02,q10,q11,q12⟩:=bq0 BB;go_enter Tryz.func137,Tryz.ntmps137
 all_goals
  go_wp2_with fail;go_at_call 194;refine(LM.out _).mono ?_;rintro e w1 ⟨rfl,hb1⟩;have BB:=bgo BB hb1;clear hb1;clear q00 q01 q02 q10 q11 q12;have⟨q00,q01,q02,q10,q11,q12⟩:=bq0 BB;go_wp2_with fail;go_at_call 131;refine(IN.out _).mono ?_;rintro e w2 ⟨rfl,hb2⟩;have BB:=bgo BB hb2;clear hb2;clear q00 q01 q02 q10 q11 q12;have⟨q00,q01,q02,q10,q11,q12⟩:=bq0 BB;go_wp2_with fail;go_at_call 195;refine(PW.out _).mono ?_;rintro e w3 ⟨rfl,hb3⟩;have BB:=Lib.hid ((BB.out.go hb3).box3 (.bool wb) (.string ws) (.string wq) 46);clear hb3;clear q00 q01 q02 q10 q11 q12;have⟨q00,q01,q02,q10,q11,q12⟩:=bq1 BB;have⟨q20,q21,q22⟩:=BB.out.now.1.c3;go_wp2_with fail;go_at_call 64;refine(ZE.out _).mono ?_;rintro e w4 ⟨rfl,hb4⟩;have BB:=bgo BB hb4;clear hb4;clear q00 q01 q02 q10 q11 q12 q20 q21 q22;have⟨q00,q01,q02,q10,q11,q12⟩:=bq1 BB;have⟨q20,q21,q22⟩:=BB.out.now.1.c3;have hs:=BB.out.now.2.1;have⟨u0,u1,u2,g0,g1,g2⟩:=hs.s6;have HS:=hs.set (.bool false) (.string ⟨#[48]⟩) (.string ⟨#[49]⟩);have HE:=Lib.hid (HF.out _ BB.out.below);clear hs;go_wp2;exact bodyPost_ret (by simp[results,Tryz.results137,go_sem,HS]) rfl HE.out
theorem rpower_any (P : Int) (Q : Nat) (P' : Int) (Q' : Nat) (l : Int) (w : World) (hQ : 0 < Q) (hg : Nat.gcd P.natAbs Q = 1) (hlm : l <= 16) (d1 : dl P.natAbs <= 40) (d2 : dl Q <= 40) (d3 : dl P'.natAbs <= 40) :
    Calls Tryz.prog 137 #[.agg #[.bool (rB P),.string (rS P),.string (str (dec Q))],.agg #[.bool (rB P'),.string (rS P'),.string (str (dec Q'))],.int .i64 l] w fun e w'=>NumTold4 w w' e (powT P Q P' Q' l).1 (powT P Q P' Q' l).2.1 (powT P Q P' Q' l).2.2:=by
 unfold powT
 by_cases hw:Q'=1
 case neg =>
  rw[if_pos (.inl hw)];exact rpower_frac P Q P' Q' l w hw
 case pos =>
 subst hw
 by_cases hz:P=0/\P'<0
 · rw[if_pos (.inr hz)];obtain⟨rfl,hn⟩:=hz;exact rpower_nought Q P' l w hn
 rw[if_neg (by omega)]
 by_cases hn:P'=0
 · rw[if_pos hn];subst hn;exact rpower_none P Q l w
 rw[if_neg hn]
 cases hl:limB P Q with
 | true =>
  rw[if_pos rfl];obtain⟨rfl,_⟩:=limB_cases hl;exact rpower_lim P P' l w hl hn (by omega) d3
 | false =>
  rw[if_neg (by decide)]
  cases hf:fitB P' with
  | false =>
   rw[if_pos rfl];exact rpower_far P Q P' l w hl hn (by omega) d3 hf
  | true =>
   rw[if_neg (by decide)]
   cases ho:poO P Q P' l with
   | true =>
    rw[if_pos rfl];exact rpower_yes P Q P' l w hl hn (by omega) d3 hf hQ hg hlm d1 d2 ho
   | false =>
    rw[if_neg (by decide)];exact rpower_long P Q P' l w hl hn (by omega) d3 hf hQ hg hlm d1 d2 ho
set_option linter.unusedVariables false
set_option linter.unusedSimpArgs false
theorem rways_no (P : Int) (Q : Nat) (P' : Int) (Q' : Nat) (l : Int) (w : World) (hn : Q ≠ 1 ∨ Q' ≠ 1 ∨ P < 0 ∨ P' < 0) :
    Calls Tryz.prog 138 #[.agg #[.bool (rB P),.string (rS P),.string (str (dec Q))],.agg #[.bool (rB P'),.string (rS P'),.string (str (dec Q'))],.int .i64 l] w fun e w'=>NumTold4 w w' e 0 1 22:=by
 have HF:=hfz w 22;have ZE:=zen;have dQ:=dec_is1 Q;have dQ':=dec_is1 Q'
 by_cases h1:Q=1
 · rw[decide_eq_true h1]at dQ
   by_cases h2:Q'=1
   · rw[decide_eq_true h2]at dQ'
     by_cases h3:P<0
     · have eb:rB P=true:=decide_eq_true h3;rw[eb];generalize rS P=sa at *;generalize str (dec Q)=qa at *;generalize rB P'=bb at *;generalize rS P'=sb at *;generalize str (dec Q')=qb at *;clear h1 h2 h3 hn eb;have BB:=bagN w true sa qa bb sb qb;have⟨q00,q01,q02,q10,q11,q12⟩:=bq0 BB;go_enter Tryz.func138,Tryz.ntmps138;go_wp2_with fail;go_at_call 64;refine(ZE.out _).mono ?_;rintro e w1 ⟨rfl,hb1⟩;have BB:=bgo BB hb1;clear hb1;clear q00 q01 q02 q10 q11 q12;have⟨q00,q01,q02,q10,q11,q12⟩:=bq0 BB;have hs:=BB.out.now.1;have⟨u0,u1,u2,g0,g1,g2⟩:=hs.s6;have HS:=hs.set (.bool false) (.string ⟨#[48]⟩) (.string ⟨#[49]⟩);have HE:=Lib.hid (HF.out _ BB.out.below);clear hs;go_wp2;exact bodyPost_ret (by simp[results,Tryz.results138,go_sem,HS]) rfl HE.out
     · have eb:rB P=false:=decide_eq_false h3;have eb':rB P'=true:=decide_eq_true (by omega);rw[eb,eb'];generalize rS P=sa at *;generalize str (dec Q)=qa at *;generalize rS P'=sb at *;generalize str (dec Q')=qb at *;clear h1 h2 h3 hn eb eb';have BB:=bagN w false sa qa true sb qb;have⟨q00,q01,q02,q10,q11,q12⟩:=bq0 BB;go_enter Tryz.func138,Tryz.ntmps138;go_wp2_with fail;go_at_call 64;refine(ZE.out _).mono ?_;rintro e w1 ⟨rfl,hb1⟩;have BB:=bgo BB hb1;clear hb1;clear q00 q01 q02 q10 q11 q12;have⟨q00,q01,q02,q10,q11,q12⟩:=bq0 BB;have hs:=BB.out.now.1;have⟨u0,u1,u2,g0,g1,g2⟩:=hs.s6;have HS:=hs.set (.bool false) (.string ⟨#[48]⟩) (.string ⟨#[49]⟩);have HE:=Lib.hid (HF.out _ BB.out.below);clear hs;go_wp2;exact bodyPost_ret (by simp[results,Tryz.results138,go_sem,HS]) rfl HE.out
   · rw[decide_eq_false h2]at dQ';generalize rB P=ba at *;generalize rS P=sa at *;generalize str (dec Q)=qa at *;generalize rB P'=bb at *;generalize rS P'=sb at *;generalize str (dec Q')=qb at *;clear h1 h2 hn;have BB:=bagN w ba sa qa bb sb qb;have⟨q00,q01,q02,q10,q11,q12⟩:=bq0 BB;go_enter Tryz.func138,Tryz.ntmps138;go_wp2_with fail;go_at_call 64;refine(ZE.out _).mono ?_;rintro e w1 ⟨rfl,hb1⟩;have BB:=bgo BB hb1;clear hb1;clear q00 q01 q02 q10 q11 q12;have⟨q00,q01,q02,q10,q11,q12⟩:=bq0 BB;have hs:=BB.out.now.1;have⟨u0,u1,u2,g0,g1,g2⟩:=hs.s6;have HS:=hs.set (.bool false) (.string ⟨#[48]⟩) (.string ⟨#[49]⟩);have HE:=Lib.hid (HF.out _ BB.out.below);clear hs;go_wp2;exact bodyPost_ret (by simp[results,Tryz.results138,go_sem,HS]) rfl HE.out
 · rw[decide_eq_false h1]at dQ;generalize rB P=ba at *;generalize rS P=sa at *;generalize str (dec Q)=qa at *;generalize rB P'=bb at *;generalize rS P'=sb at *;generalize str (dec Q')=qb at *;clear h1 hn;have BB:=bagN w ba sa qa bb sb qb;have⟨q00,q01,q02,q10,q11,q12⟩:=bq0 BB;go_enter Tryz.func138,Tryz.ntmps138;go_wp2_with fail;go_at_call 64;refine(ZE.out _).mono ?_;rintro e w1 ⟨rfl,hb1⟩;have BB:=bgo BB hb1;clear hb1;clear q00 q01 q02 q10 q11 q12;have⟨q00,q01,q02,q10,q11,q12⟩:=bq0 BB;have hs:=BB.out.now.1;have⟨u0,u1,u2,g0,g1,g2⟩:=hs.s6;have HS:=hs.set (.bool false) (.string ⟨#[48]⟩) (.string ⟨#[49]⟩);have HE:=Lib.hid (HF.out _ BB.out.below);clear hs;go_wp2;exact bodyPost_ret (by simp[results,Tryz.results138,go_sem,HS]) rfl HE.out
theorem cmpI_ps(a b:Nat):decide (0<cmpI a b)=decide (b<a):=by
 unfold cmpI
 split
 · rw[decide_eq_false (by omega),decide_eq_false (by omega)]
 · split
   · rw[decide_eq_false (by omega),decide_eq_false (by omega)]
   · rw[decide_eq_true (by omega),decide_eq_true (by omega)]
theorem cmpI_ng(a b:Nat):decide (cmpI a b<0)=decide (a<b):=by
 unfold cmpI
 split
 · rw[decide_eq_true (by omega),decide_eq_true (by omega)]
 · split
   · rw[decide_eq_false (by omega),decide_eq_false (by omega)]
   · rw[decide_eq_false (by omega),decide_eq_false (by omega)]
theorem dl_pow{N m:Nat}(h:N<10^m):dl N<=m+1:=dl_le _ _ (by omega) (Nat.lt_of_lt_of_le h (Nat.pow_le_pow_right (by omega) (by omega)))
theorem rways_less (p p' : Nat) (l : Int) (w : World) (hlt : p' < p) (d1 : dl p <= 40) (d2 : dl p' <= 40) :
    Calls Tryz.prog 138 #[.agg #[.bool false,.string (str (dec p)),.string ⟨#[49]⟩],.agg #[.bool false,.string (str (dec p')),.string ⟨#[49]⟩],.int .i64 l] w fun e w'=>NumTold4 w w' e 0 1 0:=by
 have HF:=hfz w 0;have ZE:=zen;have CM:=Lib.hid (fun wz=>rcmp_any p p' wz (by omega) (by omega));obtain⟨cz,hcz⟩:∃z,cmpI p p'=z:=⟨_,rfl⟩
 have d0:=cmpI_ps p p';rw[hcz,decide_eq_true hlt]at d0;rw[hcz]at CM;clear hcz;obtain⟨D,hD⟩:∃z,(fun k:Nat=>str (dec k))=z:=⟨_,rfl⟩
 have eD:∀k,str (dec k)=D k:=fun k=>by rw[← hD]
 simp only[eD]at CM ⊢;clear eD;have BB:=Lib.hid ((((Bag.start w).box3 (.bool false) (.string (D p)) (.string ⟨#[49]⟩) 46).box3 (.bool false) (.string (D p')) (.string ⟨#[49]⟩) 46).box3 (.bool false) (.string ⟨#[]⟩) (.string ⟨#[]⟩) 46);simp only[World.size_alloc]at BB;have⟨q00,q01,q02,q10,q11,q12⟩:=bq0 BB;clear hlt d1 d2 hD;go_enter Tryz.func138,Tryz.ntmps138;go_wp2_with fail;go_at_call 188;refine(CM.out _).mono ?_;rintro e w1 ⟨rfl,rfl⟩;go_wp2_with fail;go_at_call 64;refine(ZE.out _).mono ?_;rintro e w2 ⟨rfl,hb2⟩;have BB:=bgo BB hb2;clear hb2;clear q00 q01 q02 q10 q11 q12;have⟨q00,q01,q02,q10,q11,q12⟩:=bq0 BB;have hs:=BB.out.now.1;have⟨u0,u1,u2,g0,g1,g2⟩:=hs.s6;have HS:=hs.set (.bool false) (.string ⟨#[48]⟩) (.string ⟨#[49]⟩);have HE:=Lib.hid (HF.out _ BB.out.below);clear hs;go_wp2;exact bodyPost_ret (by simp[results,Tryz.results138,go_sem,HS]) rfl HE.out
theorem num3{w y:World}{k1 k2:Nat}{x1 x2 x3 y1 y2 y3:Value}{U:World->Prop}(h:Bag w (fun y=>Slot3 y k1 x1 x2 x3/\Slot3 y k2 y1 y2 y3/\U y) y):Bag w (fun y=>Slot3 y k1 x1 x2 x3/\Slot3 y k2 y1 y2 y3/\True) y :=
 ⟨h.below,fun _ _ hb q=>⟨q.1.below hb,q.2.1.below hb,trivial⟩,h.now.1,h.now.2.1,trivial⟩
theorem rways_yes (p p' : Nat) (l : Int) (w : World) (hlt : p <= p') (d1 : dl p <= 40) (d2 : dl p' <= 40) (hm : 1 <= l /\ l <= 16) :
    Calls Tryz.prog 138 #[.agg #[.bool false,.string (str (dec p)),.string ⟨#[49]⟩],.agg #[.bool false,.string (str (dec p')),.string ⟨#[49]⟩],.int .i64 l] w fun e w'=>NumTold4 w w' e (waysT ((p:Nat):Int) 1 ((p':Nat):Int) 1 l).1 (waysT ((p:Nat):Int) 1 ((p':Nat):Int) 1 l).2.1 (waysT ((p:Nat):Int) 1 ((p':Nat):Int) 1 l).2.2:=by
 obtain⟨T,hT⟩:∃z,waysT ((p:Nat):Int) 1 ((p':Nat):Int) 1 l=z:=⟨_,rfl⟩
 rw[hT]
 have HWT:Hid (∀q,q=min p (p'-p)->T=if wyF (p'-q) l q then(((wy (p'-q) q:Nat):Int),1,0)else(0,1,26)):=Lib.hid (fun q hq=>by
  rw[← hT];unfold waysT;rw[if_neg (by omega),if_neg (by omega)]
  rw[show fewK ((p:Nat):Int) ((p':Nat):Int)=q by unfold fewK;omega,Int.toNat_natCast])
 have HFY:=Lib.hid (fun X (hX:T=(((X:Nat):Int),1,0))=>(show ∀w2,Below w.heap.size w w2->NumTold4 w (((w2.setCell ⟨w.heap.size+1+1,0,none⟩ (.bool false)).setCell ⟨w.heap.size+1+1,1,none⟩ (.string (str (dec X)))).setCell ⟨w.heap.size+1+1,2,none⟩ (.string ⟨#[49]⟩)) (.returned (.tuple #[.agg #[.bool false,.string (str (dec X)),.string ⟨#[49]⟩],.int .i64 0])) T.1 T.2.1 T.2.2 from fun w2 hb=>by rw[hX];exact NumTold4.done (k:=w.heap.size+1+1) ((X:Nat):Int) 1 0 hb (by omega) (rB_nat0 X) (rS_nat0 X) dec1));have HF:=hfz w 26;have ZE:=zen;have HFZ:=HF;clear HF;have HFZ:=Lib.hid (fun(hX:T=(0,1,26))=>(show ∀w2,Below w.heap.size w w2->NumTold4 w (((w2.setCell ⟨w.heap.size+1+1,0,none⟩ (.bool false)).setCell ⟨w.heap.size+1+1,1,none⟩ (.string ⟨#[48]⟩)).setCell ⟨w.heap.size+1+1,2,none⟩ (.string ⟨#[49]⟩)) (.returned (.tuple #[.agg #[.bool false,.string ⟨#[48]⟩,.string ⟨#[49]⟩],.int .i64 26])) T.1 T.2.1 T.2.2 from fun w2 hb=>by rw[hX];exact HFZ.out w2 hb));have hm20:(10:Nat)^40<65536^9:=by decide +kernel
 have hp10:p'<10^40:=Nat.lt_of_lt_of_le (dl_lt p') (Nat.pow_le_pow_right (by omega) d2);obtain⟨kk,hkk⟩:∃z,min p (p'-p)=z:=⟨_,rfl⟩
 obtain⟨rr,hrr⟩:∃z,p'-kk=z:=⟨_,rfl⟩
 have hkr:kk<=rr:=by omega
 have hr10:rr<10^40:=by omega
 have hk10:kk<10^40:=by omega
 have hd0:∀N,N<10^40->dl N<=41:=fun N h=>dl_pow h
 have CM1:Hid (∀wz,Calls Tryz.prog 188 #[.string (str (dec p)),.string (str (dec p'))] wz fun e w'=>e=.returned (.int .i64 (cmpI p p'))/\wz=w'):=Lib.hid (fun wz=>rcmp_any p p' wz (by omega) (by omega));have SB1:Hid (∀wz,Calls Tryz.prog 196 #[.string (str (dec p')),.string (str (dec p))] wz fun e w'=>e=.returned (.string (str (dec (p'-p))))/\Below wz.heap.size wz w'):=Lib.hid (fun wz=>rsub_any p' (dl p') p (dl p) wz (dl_lt _) (dl_lt _) (by omega) (by omega) hlt);have CM2:Hid (∀wz,Calls Tryz.prog 188 #[.string (str (dec (p'-p))),.string (str (dec p))] wz fun e w'=>e=.returned (.int .i64 (cmpI (p'-p) p))/\wz=w'):=Lib.hid (fun wz=>rcmp_any (p'-p) p wz (Nat.le_trans (hd0 _ (by omega)) (by omega)) (by omega))
 have SB2:Hid (∀wz,Calls Tryz.prog 196 #[.string (str (dec p')),.string (str (dec kk))] wz fun e w'=>e=.returned (.string (str (dec rr)))/\Below wz.heap.size wz w'):=Lib.hid (fun wz=>by
  have:=rsub_any p' (dl p') kk (dl kk) wz (dl_lt _) (dl_lt _) (by omega) (Nat.le_trans (hd0 _ hk10) (by omega)) (by omega);rw[hrr]at this
  exact this)
 have AD1:Hid (∀j,j<=600->∀wz,Calls Tryz.prog 197 #[.string (str (dec j)),.string ⟨#[49]⟩] wz fun e w'=>e=.returned (.string (str (dec (j+1))))/\Below wz.heap.size wz w'):=Lib.hid (fun j hj wz=>radd_any j (dl j) 1 1 wz (dl_lt _) (by omega) (Nat.le_trans (hd0 _ (by omega)) (by omega)) (by omega));have AD2:Hid (∀j,j<=600->∀wz,Calls Tryz.prog 197 #[.string (str (dec rr)),.string (str (dec (j+1)))] wz fun e w'=>e=.returned (.string (str (dec (rr+(j+1)))))/\Below wz.heap.size wz w'):=Lib.hid (fun j hj wz=>radd_any rr (dl rr) (j+1) (dl (j+1)) wz (dl_lt _) (dl_lt _) (Nat.le_trans (hd0 _ hr10) (by omega)) (Nat.le_trans (hd0 _ (by omega)) (by omega)));have WB:∀j,lbs (wy rr j)<=16->wy rr j<10^160:=fun j h=>Nat.lt_of_lt_of_le (lbs_le32.1 h) (by decide +kernel)
 have SM:∀j,j<=600->rr+(j+1)<10^41:=fun j hj=>by
  rw[show(10:Nat)^41=10^40*10 from Nat.pow_succ 10 40]
  omega
 have ML:Hid (∀j,j<=600->lbs (wy rr j)<=16->∀wz,Calls Tryz.prog 190 #[.string (str (dec (wy rr j))),.string (str (dec (rr+(j+1))))] wz fun e w'=>e=.returned (.string (str (dec (wy rr j*(rr+(j+1))))))/\Below wz.heap.size wz w'):=Lib.hid (fun j hj hl wz=>rmul_any _ (dl (wy rr j)) _ (dl (rr+(j+1))) wz (dl_lt _) (dl_lt _) (Nat.le_trans (dl_pow (WB j hl)) (by omega)) (Nat.le_trans (dl_pow (SM j hj)) (by omega)))
 have MB:∀j,j<=600->lbs (wy rr j)<=16->wy rr j*(rr+(j+1))<10^201:=fun j hj hl=>by
  rw[show 201=160+41 from rfl,Nat.pow_add];exact Nat.mul_lt_mul'' (WB j hl) (SM j hj)
 have DM:Hid (∀j,j<=600->lbs (wy rr j)<=16->∀wz,Calls Tryz.prog 164 #[.string (str (dec (wy rr j*(rr+(j+1))))),.string (str (dec (j+1)))] wz fun e w'=>e=.returned (.tuple #[.string (str (dec (wy rr (j+1)))),.string (str (dec (wy rr j*(rr+(j+1))%(j+1))))])/\Below wz.heap.size wz w'):=Lib.hid (fun j hj hl wz=>rdivMod_any _ _ wz (Nat.le_trans (dl_pow (MB j hj hl)) (by omega)) (Nat.le_trans (hd0 _ (by omega)) (by omega)) (by omega))
 have LB:Hid (∀j,j<=600->lbs (wy rr j)<=16->∀wz,Calls Tryz.prog 139 #[.string (str (dec (wy rr (j+1))))] wz fun e w'=>e=.returned (.int .i64 (lbs (wy rr (j+1)):Nat))/\Below wz.heap.size wz w'):=Lib.hid (fun j hj hl wz=>by
  have hb:wy rr (j+1)<10^201:=Nat.lt_of_le_of_lt (Nat.div_le_self _ _) (MB j hj hl)
  exact rlimbs_any (wy rr (j+1)) 42 wz (Nat.le_trans (dl_pow hb) (by omega)) (by omega) (Nat.lt_trans hb (by decide +kernel)))
 have HD:=Lib.hid (fun j=>dec_same j kk);have HFEW:=Lib.hid (fun j (h:j<=kk) (hl:lbs (wy rr j)<=16)=>wy_few (m:=16) (show j<=rr by omega) hl);have HL1:Hid ((lbs (wy rr 0):Int)<=l):=Lib.hid (by show(lbs 1:Int)<=l;rw[lbs_one];omega);have dwy0:str (dec (wy rr 0))=⟨#[49]⟩:=dec1;have dz0:str (dec 0)=⟨#[48]⟩:=dec0;have c1:=cmpI_ps p p';rw[decide_eq_false (show ¬p'<p by omega)]at c1;have c2:=cmpI_ng (p'-p) p;obtain⟨cz1,hcz1⟩:∃z,cmpI p p'=z:=⟨_,rfl⟩
 obtain⟨cz2,hcz2⟩:∃z,cmpI (p'-p) p=z:=⟨_,rfl⟩
 rw[hcz1]at CM1 c1;rw[hcz2]at CM2 c2;have HWT:Hid (T=if wyF rr l kk then(((wy rr kk:Nat):Int),1,0)else(0,1,26)):=Lib.hid (by have:=HWT.out kk hkk.symm;rw[hrr]at this;exact this);obtain⟨D,hD⟩:∃z,(fun k:Nat=>str (dec k))=z:=⟨_,rfl⟩
 have eD:∀k,str (dec k)=D k:=fun k=>by rw[← hD]
 simp only[eD]at CM1 CM2 SB1 SB2 AD1 AD2 ML DM LB HD HFY dwy0 dz0 ⊢;have DW0:=Lib.hid (And.intro dwy0 dz0)
 have HPQ:Hid ((D (p'-p)=D kk/\p'-p<p)∨(D p=D kk/\¬p'-p<p)):=Lib.hid (by
  by_cases h:p'-p<p
  · exact .inl ⟨by rw[show p'-p=kk by omega],h⟩
  · exact .inr ⟨by rw[show p=kk by omega],h⟩)
 clear hT hm20 hp10 hkr hr10 hk10 hd0 WB SM MB hkk hrr hcz1 hcz2 hD eD dwy0 dz0 d1 d2 hlt;have BB:=Lib.hid ((((Bag.start w).box3 (.bool false) (.string (D p)) (.string ⟨#[49]⟩) 46).box3 (.bool false) (.string (D p')) (.string ⟨#[49]⟩) 46).box3 (.bool false) (.string ⟨#[]⟩) (.string ⟨#[]⟩) 46);simp only[World.size_alloc]at BB;have⟨q00,q01,q02,q10,q11,q12⟩:=bq0 BB;go_enter Tryz.func138,Tryz.ntmps138;go_wp2_with fail;go_at_call 188;refine(CM1.out _).mono ?_;rintro e w1 ⟨rfl,rfl⟩;clear CM1;go_wp2_with fail;go_at_call 196;refine(SB1.out _).mono ?_;rintro e w2 ⟨rfl,hb2⟩;have BB:=bgo BB hb2;clear hb2;clear q00 q01 q02 q10 q11 q12;have⟨q00,q01,q02,q10,q11,q12⟩:=bq0 BB;go_wp2_with fail;go_at_call 188;refine(CM2.out _).mono ?_;rintro e w3 ⟨rfl,rfl⟩
 rcases HPQ.out with ⟨hDk,hs⟩|⟨hDk,hs⟩
 focus
  rw[decide_eq_true hs]at c2;have SB1:=SB1;rw[hDk]at SB1;go_wp2_with fail;go_at_call 196;refine(SB1.out _).mono ?_;rintro e w4 ⟨rfl,hb4⟩;have BB:=bgo BB hb4;clear hb4;clear q00 q01 q02 q10 q11 q12;have⟨q00,q01,q02,q10,q11,q12⟩:=bq0 BB;clear hDk hs SB1 CM2 HPQ;go_wp2_with fail;have BB:=Lib.hid (num3 BB.out)
 rotate_left
 focus
  rw[decide_eq_false hs]at c2;go_wp2_with fail;clear hDk hs SB1 CM2 HPQ;have BB:=Lib.hid (num3 BB.out)
 all_goals
  go_loopw [9,10,11] (fun z i n wr=>∃j:Nat,j<=kk/\(∀i,i<=j->(lbs (wy rr i):Int)<=l)/\Hid (z=.string (D (wy rr j))/\i=.string (D j))/\n=.int .i64 (j:Int)/\Hid (Bag w (fun y=>Slot3 y (w.heap.size+1+1) (.bool false) (.string ⟨#[]⟩) (.string ⟨#[]⟩)/\Slot3 y (w.heap.size+1) (.bool false) (.string (D p')) (.string ⟨#[49]⟩)/\True) wr)) (fun _ _ n _=>700-(intOf n).toNat)
  case atStart => exact ⟨0, Nat.zero_le _, fun i hi => (by obtain rfl : i = 0 := by omega
                                                           exact HL1.out),⟨by rw[DW0.out.1],by rw[DW0.out.2]⟩,rfl,BB.out⟩
  case round =>
   obtain⟨j,hjk,hjl,hzi,rfl,hB⟩:=hrel;obtain⟨rfl,rfl⟩:=hzi.out;have BB:=Lib.hid hB.out;have HJL:=Lib.hid hjl;have hl16:lbs (wy rr j)<=16:=by have:=hjl j (Nat.le_refl _);omega
   have hj5:=HFEW.out j hjk hl16;have dj:decide ((j:Int)<100000)=true:=decide_eq_true (by omega);have dd:=HD.out j;clear hB hjl hzi
   by_cases hj:j=kk
   · rw[decide_eq_true hj]at dd;have HT:Hid (T=(((wy rr kk:Nat):Int),1,0)):=Lib.hid (by rw[HWT.out,wyF_iff.2 (fun i hi=>HJL.out i (by omega))];rfl);have HF:=Lib.hid (HFY.out _ HT.out);subst hj;obtain⟨X,hX⟩:∃z,wy rr j=z:=⟨_,rfl⟩
     rw[hX]at HF ⊢;obtain⟨DX,hDX⟩:∃z,D X=z:=⟨_,rfl⟩
     rw[hDX]at HF ⊢;clear HD hX hDX HT;have hs:=BB.out.now.1;have⟨u0,u1,u2,g0,g1,g2⟩:=hs.s6;have HS:=hs.set (.bool false) (.string DX) (.string ⟨#[49]⟩);have HE:=Lib.hid (HF.out _ BB.out.below);clear hs;go_wp2;exact bodyPost_ret (by simp[results,Tryz.results138,go_sem,HS]) rfl HE.out
   · rw [decide_eq_false hj] at dd; have A1 := Lib.hid (AD1.out j (by omega)); have A2 := Lib.hid (AD2.out j (by omega)); have M1 := Lib.hid (ML.out j (by omega) hl16); have M2 := Lib.hid (DM.out j (by omega) hl16); have L1 := Lib.hid (LB.out j (by omega) hl16); have HJ1 := Lib.hid (show j + 1 <= kk by omega); obtain ⟨lj, hlj⟩ : ∃ z, lbs (wy rr (j + 1)) = z := ⟨_, rfl⟩
     rw[hlj]at L1;have HLJ:=Lib.hid hlj;obtain⟨X1,hX1⟩:∃z,D (wy rr (j+1))=z:=⟨_,rfl⟩
     obtain⟨X2,hX2⟩:∃z,D (wy rr j*(rr+(j+1)))=z:=⟨_,rfl⟩
     obtain⟨X3,hX3⟩:∃z,D (rr+(j+1))=z:=⟨_,rfl⟩
     obtain⟨X4,hX4⟩:∃z,D (wy rr j*(rr+(j+1))%(j+1))=z:=⟨_,rfl⟩
     obtain⟨X5,hX5⟩:∃z,D (j+1)=z:=⟨_,rfl⟩
     rw[hX5]at A1 A2 M2;rw[hX3]at A2 M1;rw[hX2]at M1 M2;rw[hX1,hX4]at M2;rw[hX1]at L1;have HXX:=Lib.hid (And.intro hX1 hX5);clear hX1 hX2 hX3 hX4 hX5 hlj hl16;have⟨q00,q01,q02⟩:=BB.out.now.2.1.c3;go_wp2_with fail;go_at_call 197;refine(A1.out _).mono ?_;rintro e w60 ⟨rfl,hb60⟩;have BB:=bgo BB hb60;clear hb60;clear q00 q01 q02;have⟨q00,q01,q02⟩:=BB.out.now.2.1.c3;go_wp2_with fail;go_at_call 196;refine(SB2.out _).mono ?_;rintro e w61 ⟨rfl,hb61⟩;have BB:=bgo BB hb61;clear hb61;clear q00 q01 q02;have⟨q00,q01,q02⟩:=BB.out.now.2.1.c3;go_wp2_with fail;go_at_call 197;refine(A2.out _).mono ?_;rintro e w62 ⟨rfl,hb62⟩;have BB:=bgo BB hb62;clear hb62;clear q00 q01 q02;have⟨q00,q01,q02⟩:=BB.out.now.2.1.c3;go_wp2_with fail;go_at_call 190;refine(M1.out _).mono ?_;rintro e w63 ⟨rfl,hb63⟩;have BB:=bgo BB hb63;clear hb63;clear q00 q01 q02;have⟨q00,q01,q02⟩:=BB.out.now.2.1.c3;go_wp2_with fail;go_at_call 164;refine(M2.out _).mono ?_;rintro e w64 ⟨rfl,hb64⟩;have BB:=bgo BB hb64;clear hb64;clear q00 q01 q02;have⟨q00,q01,q02⟩:=BB.out.now.2.1.c3;go_wp2_with fail;go_at_call 139;refine(L1.out _).mono ?_;rintro e w65 ⟨rfl,hb65⟩;have BB:=bgo BB hb65;clear hb65;clear q00 q01 q02;have⟨q00,q01,q02⟩:=BB.out.now.2.1.c3
     by_cases hl:l<(lj:Int)
     · have dl1:decide (l<(lj:Int))=true:=decide_eq_true hl;have HT:Hid (T=(0,1,26)):=Lib.hid (by rw[HWT.out,wyF_no HJ1.out (by rw[HLJ.out];exact hl)];rfl);have HF:=Lib.hid (HFZ.out HT.out);clear HT hl;go_wp2_with fail;go_at_call 64;refine(ZE.out _).mono ?_;rintro e w66 ⟨rfl,hb66⟩;have BB:=bgo BB hb66;clear hb66;clear q00 q01 q02;have⟨q00,q01,q02⟩:=BB.out.now.2.1.c3;have hs:=BB.out.now.1;have⟨u0,u1,u2,g0,g1,g2⟩:=hs.s6;have HS:=hs.set (.bool false) (.string ⟨#[48]⟩) (.string ⟨#[49]⟩);have HE:=Lib.hid (HF.out _ BB.out.below);clear hs;go_wp2;exact bodyPost_ret (by simp[results,Tryz.results138,go_sem,HS]) rfl HE.out
     · have dl1 : decide (l < (lj : Int)) = false := decide_eq_false hl
       have HN:Hid (∀i,i<=j+1->(lbs (wy rr i):Int)<=l):=Lib.hid (fun i hi=>by
        by_cases e:i<=j
        · exact HJL.out i e
        · obtain rfl:i=j+1:=by omega
          rw[HLJ.out];omega)
       clear hl;go_wp2_with fail
       go_roundw
       case rel=>exact⟨j+1,HJ1.out,HN.out,⟨by rw[HXX.out.1],by rw[HXX.out.2]⟩,by go_num,BB.out⟩
       case measure=>simp[intOf];omega
theorem rways_any (P : Int) (Q : Nat) (P' : Int) (Q' : Nat) (l : Int) (w : World) (hm : 1 <= l /\ l <= 16) (d1 : dl P.natAbs <= 40) (d2 : dl P'.natAbs <= 40) :
    Calls Tryz.prog 138 #[.agg #[.bool (rB P),.string (rS P),.string (str (dec Q))],.agg #[.bool (rB P'),.string (rS P'),.string (str (dec Q'))],.int .i64 l] w fun e w'=>NumTold4 w w' e (waysT P Q P' Q' l).1 (waysT P Q P' Q' l).2.1 (waysT P Q P' Q' l).2.2:=by
 by_cases hn:Q≠1∨Q'≠1∨P<0∨P'<0
 · rw[show waysT P Q P' Q' l=(0,1,22)by unfold waysT;rw[if_pos hn]];exact rways_no P Q P' Q' l w hn
 · obtain rfl:Q=1:=by omega
   obtain rfl:Q'=1:=by omega
   obtain⟨p,rfl⟩:∃p:Nat,P=(p:Int):=⟨P.toNat,by omega⟩
   obtain⟨p',rfl⟩:∃p:Nat,P'=(p:Int):=⟨P'.toNat,by omega⟩
   rw[Int.natAbs_natCast]at d1 d2;rw[rB_nat0,rS_nat0,rB_nat0,rS_nat0,show str (dec 1)=⟨#[49]⟩from dec1]
   by_cases hlt:p'<p
   · rw[show waysT ((p:Nat):Int) 1 ((p':Nat):Int) 1 l=(0,1,0)from ways_less (by omega) (by omega) (by omega)];exact rways_less p p' l w hlt d1 d2
   · exact rways_yes p p' l w (by omega) d1 d2 hm
theorem nw_nat(Z:Int){Q:Nat}:nwP Z (Q:Int)=loP Z Q/\nwQ Z (Q:Int)=loQ Z Q:=by
 unfold nwP nwQ upZ;rw[if_neg (by omega),Int.natAbs_natCast];exact⟨rfl,rfl⟩
theorem r3Mul_any (P : Int) (Q : Nat) (P' : Int) (Q' : Nat) (w : World) (hQ : 0 < Q) (hQ' : 0 < Q') (h1 : dl P.natAbs <= 400) (h2 : dl Q <= 400) (h3 : dl P'.natAbs <= 400) (h4 : dl Q' <= 400) :
    Calls Tryz.prog 134 #[.agg #[.bool (rB P),.string (rS P),.string (str (dec Q))],.agg #[.bool (rB P'),.string (rS P'),.string (str (dec Q'))]] w fun e w'=>NumTold w w' e (tmP P Q P' Q') (tmQ P Q P' Q'):=by
 have BB:=Lib.hid (((Bag.start w).box3 (.bool (rB P)) (.string (rS P)) (.string (str (dec Q))) 46).box3 (.bool (rB P')) (.string (rS P')) (.string (str (dec Q'))) 46 |>.box3 (.bool false) (.string ⟨#[]⟩) (.string ⟨#[]⟩) 46 |>.drew);simp only[World.size_alloc]at BB;have TA:Hid (∀wz,Calls Tryz.prog 129 #[.agg #[.bool (rB P),.string (rS P),.string (str (dec Q))]] wz fun e w'=>RTold wz w' e P):=fun wz=>r3Top_any P _ wz (by omega)
 have TB:Hid (∀wz,Calls Tryz.prog 129 #[.agg #[.bool (rB P'),.string (rS P'),.string (str (dec Q'))]] wz fun e w'=>RTold wz w' e P'):=fun wz=>r3Top_any P' _ wz (by omega)
 have BA:Hid (∀wz,Calls Tryz.prog 130 #[.agg #[.bool (rB P),.string (rS P),.string (str (dec Q))]] wz fun e w'=>RTold wz w' e (Q:Int)):=fun wz=>r3Bot_any _ _ Q wz (by omega)
 have BB2:Hid (∀wz,Calls Tryz.prog 130 #[.agg #[.bool (rB P'),.string (rS P'),.string (str (dec Q'))]] wz fun e w'=>RTold wz w' e (Q':Int)):=fun wz=>r3Bot_any _ _ Q' wz (by omega)
 have M1:=Lib.hid (fun wz=>rMul_any P P' wz (by omega) (by omega));have M2:=Lib.hid (fun wz=>rMul_any (Q:Int) (Q':Int) wz (by rw[Int.natAbs_natCast];omega) (by rw[Int.natAbs_natCast];omega));rw[← Int.natCast_mul]at M2;have NW:=Lib.hid (fun wz=>r3New_some (P*P') ((Q*Q':Nat):Int) wz (by have:=Nat.mul_pos hQ hQ';omega) (by rw[Int.natAbs_mul];exact Nat.le_trans (dl_mul4 h1 h3) (by omega)) (by rw[Int.natAbs_natCast];exact Nat.le_trans (dl_mul4 h2 h4) (by omega)));rw[(nw_nat (P*P') (Q:=Q*Q')).1,(nw_nat (P*P') (Q:=Q*Q')).2,show loP (P*P') (Q*Q')=tmP P Q P' Q' from rfl,show loQ (P*P') (Q*Q')=tmQ P Q P' Q' from rfl]at NW;generalize tmP P Q P' Q'=X1 at *;generalize tmQ P Q P' Q'=X2 at *;have HF:=Lib.hid (fun w2 b x y (hb:Below w.heap.size w w2) (h1:rB X1=b) (h2:rS X1=x) (h3:str (dec X2)=y)=>NumTold.done (k:=w.heap.size+1+1) X1 X2 hb (by omega) h1 h2 h3);unfold RTold at TA TB BA BB2 M1 M2;unfold NumTold3 at NW;obtain⟨x1,hx1⟩:∃x,rB X1=x:=⟨_,rfl⟩
 obtain⟨x2,hx2⟩:∃x,rS X1=x:=⟨_,rfl⟩
 obtain⟨x3,hx3⟩:∃x,str (dec X2)=x:=⟨_,rfl⟩
 rw[hx1,hx2,hx3]at NW;have HX:=Lib.hid (And.intro hx1 (And.intro hx2 hx3));generalize rB (P*P')=u1 at *;generalize rS (P*P')=u2 at *;generalize rB ((Q*Q':Nat):Int)=v1 at *;generalize rS ((Q*Q':Nat):Int)=v2 at *;generalize rB (Q:Int)=qb at *;generalize rS (Q:Int)=qs at *;generalize rB (Q':Int)=qb' at *;generalize rS (Q':Int)=qs' at *;generalize rB P=pb at *;generalize rS P=ps at *;generalize rB P'=pb' at *;generalize rS P'=ps' at *;generalize str (dec Q)=q at *;generalize str (dec Q')=q' at *;clear h1 h2 h3 h4 hx1 hx2 hx3 hQ hQ'
 have HP:Hid (∀(y:World) (k:Nat) {b0:Bool} {s0 t0:ByteArray},Slot3 y k (.bool b0) (.string s0) (.string t0)->w.heap.size+1+1<k->Bag w (fun y=>Slot3 y (w.heap.size+1+1) (.bool false) (.string ⟨#[]⟩) (.string ⟨#[]⟩)/\Slot3 y (w.heap.size+1) (.bool pb') (.string ps') (.string q')/\Slot3 y w.heap.size (.bool pb) (.string ps) (.string q)/\True) y->∀(z1:Bool) (z2 z3:ByteArray),Bag w (fun y=>Slot3 y (w.heap.size+1+1) (.bool false) (.string ⟨#[]⟩) (.string ⟨#[]⟩)/\Slot3 y (w.heap.size+1) (.bool pb') (.string ps') (.string q')/\Slot3 y w.heap.size (.bool pb) (.string ps) (.string q)/\True) (((y.setCell ⟨k,0,none⟩ (.bool z1)).setCell ⟨k,1,none⟩ (.string z2)).setCell ⟨k,2,none⟩ (.string z3))):=by
  intro y k b0 s0 t0 s hk B z1 z2 z3;have q:=B.now;exact⟨((B.below.setCell (p:=⟨k,0,none⟩) (show w.heap.size<=k by omega) _).setCell (p:=⟨k,1,none⟩) (show w.heap.size<=k by omega) _).setCell (p:=⟨k,2,none⟩) (show w.heap.size<=k by omega) _,B.stay,q.1.set3o (by omega) _ _ _,q.2.1.set3o (by omega) _ _ _,q.2.2.1.set3o (by omega) _ _ _,trivial⟩
 go_enter Tryz.func134,Tryz.ntmps134;go_wp2_with fail
 refine wp_region_inv ⟨(fun j=>([[8], [9], [10], [11], [12], [13], [14], [15], [16], [17], [18], [7], [19], [20], [5], [5], [6]]:List (List Nat)).getD j []),(fun j=>([[], [0], [], [0,1,2], [0,1,2,3], [], [0,1,2,3,4,5], [], [0,1,2,3,4,5,6,7], [0,1,2,3,4,5,6,7,8], [0,1,2,3,4,5,6,7,8,9], [0,1,2,3,4,5,6,7,8,9,10], [0,1,2,3,4,5,6,7,8,9,10,11], [0,1,2,3,4,5,6,7,8,9,10,11], [], [0,1,2,3,4,5,6,7,8,9,10,11,12,14], [0,1,2,3,4,5,6,7,8,9,10,11,12,13,14,15]]:List (List Nat)).getD j []), [14]⟩ (fun jj vv yy=>match jj with|0=>vv = [some (.agg #[.bool pb,.string ps,.string q])]|1=>vv = [some (.agg #[.bool pb,.string ps])]|2=>vv = [some (.agg #[.bool pb',.string ps',.string q'])]|3=>vv = [some (.agg #[.bool pb',.string ps'])]|4=>vv = [some (.agg #[.bool u1,.string u2])]|5=>vv = [some (.agg #[.bool pb,.string ps,.string q])]|6=>vv = [some (.agg #[.bool qb,.string qs])]|7=>vv = [some (.agg #[.bool pb',.string ps',.string q'])]|8=>vv = [some (.agg #[.bool qb',.string qs'])]|9=>vv = [some (.agg #[.bool v1,.string v2])]|10=>vv = [some (.tuple #[.agg #[.bool x1,.string x2,.string x3],.bool true])]|11=>vv = [some (.tuple #[.agg #[.bool x1,.string x2,.string x3],.bool true])]|12=>vv = [some (.agg #[.bool x1,.string x2,.string x3])]|13=>vv = [some (.bool true)]|14=>∃(k14:Nat),∃(b0:Bool),∃(s0:ByteArray),∃(t0:ByteArray),vv = [some (.pointer (some ⟨k14,0,none⟩))]/\Slot3 yy k14 (.bool b0) (.string s0) (.string t0)/\w.heap.size+1+1<k14|15=>∃(k14:Nat),vv = [some (.pointer (some ⟨k14,0,none⟩))]/\Slot3 yy k14 (.bool x1) (.string x2) (.string x3)|16=>vv = [some (.bool true)]|_=>True) (Bag w (fun y=>Slot3 y (w.heap.size+1+1) (.bool false) (.string ⟨#[]⟩) (.string ⟨#[]⟩)/\Slot3 y (w.heap.size+1) (.bool pb') (.string ps') (.string q')/\Slot3 y w.heap.size (.bool pb) (.string ps) (.string q)/\True)) (by kernel_rfl) (by kernel_rfl) (by kernel_rfl) BB.out ?_ ?_ ?_
 · intro jj vv yw yw2 hb h
   match jj,h with
   | 0,h=>exact h
   | 1,h=>exact h
   | 2,h=>exact h
   | 3,h=>exact h
   | 4,h=>exact h
   | 5,h=>exact h
   | 6,h=>exact h
   | 7,h=>exact h
   | 8,h=>exact h
   | 9,h=>exact h
   | 10,h=>exact h
   | 11,h=>exact h
   | 12,h=>exact h
   | 13,h=>exact h
   | 14,⟨k14,b0,s0,t0,e14,g14_0,g14_1⟩=>exact Exists.intro k14 (Exists.intro b0 (Exists.intro s0 (Exists.intro t0 (And.intro e14 (And.intro (g14_0.below hb) g14_1)))))
   | 15,⟨k14,e15,g15_0⟩=>exact Exists.intro k14 (And.intro e15 (g15_0.below hb))
   | 16,h=>exact h
   | _+17,h=>exact h
 · intro ac yw hsz hdf hold hB hp;obtain⟨k14,e15,hs⟩:=hp 15 (by decide);have t5:ac.tmps[5]? = some (.pointer (some ⟨k14,0,none⟩)):=(List.cons.inj e15).1;have t4:ac.tmps[4]? = some (.pointer (some ⟨w.heap.size+1+1,0,none⟩)):=hold 4 (by kernel_rfl);have e6:=hp 16 (by decide);have t6:ac.tmps[6]? = some (.bool true):=(List.cons.inj e6).1;clear hold hp e15 e6;obtain⟨⟨l⟩,df⟩:=ac
   match l,hsz with
   | [u0,u1,u2,u3,u4,u5,u6,u7,u8,u9,u10,u11,u12,u13,u14,u15,u16,u17,u18,u19,u20,u21],_ =>
   obtain rfl:=Option.some.inj (show some u4=_ from t4);obtain rfl:=Option.some.inj (show some u5=_ from t5);obtain rfl:=Option.some.inj (show some u6=_ from t6);have⟨q0,q1,q2⟩:=hs.c3;have hr:=hB.now.1;have⟨r0,r1,r2,g0,g1,g2⟩:=hr.s6;have HS:=hr.set (.bool x1) (.string x2) (.string x3);have HE:=Lib.hid (HF.out _ x1 x2 x3 hB.below HX.out.1 HX.out.2.1 HX.out.2.2);clear hr hs hB;go_wp2;exact bodyPost_ret (by simp[results,Tryz.results134,go_sem,HS]) rfl HE.out
 refine Stps.cons (o:=_) ?_ ?_
 · intro ac yw hsz hold hB hp K hK;have t2:ac.tmps[2]? = some (.pointer (some ⟨w.heap.size,0,none⟩)):=hold 2 (by kernel_rfl);clear hold hp hsz;have⟨q1,q2,q3⟩:=hB.now.2.1.c3;have⟨r1,r2,r3⟩:=hB.now.2.2.1.c3;go_simp;exact hK.out _ _ ⟨hB,rfl,Nat.le_refl _,.inl (Below.refl _ _),fun h=>absurd h (by decide)⟩
 refine Stps.cons (o:=_) ?_ ?_
 · intro ac yw hsz hold hB hp K hK;have e0:=hp 0 (by decide);have t8:ac.tmps[8]? = some (.agg #[.bool pb,.string ps,.string q]):=(List.cons.inj e0).1;clear hold hp hsz e0;go_simp
   (go_at_call 129;(with_reducible refine(TA.out _).mono ?_);rintro e wz ⟨rfl,hbz⟩)
   exact hK.out _ _ ⟨hB.go hbz,rfl,hbz.size,.inl hbz,fun h=>absurd h (by decide)⟩
 refine Stps.cons (o:=_) ?_ ?_
 · intro ac yw hsz hold hB hp K hK;have t3:ac.tmps[3]? = some (.pointer (some ⟨w.heap.size+1,0,none⟩)):=hold 3 (by kernel_rfl);clear hold hp hsz;have⟨q1,q2,q3⟩:=hB.now.2.1.c3;have⟨r1,r2,r3⟩:=hB.now.2.2.1.c3;go_simp;exact hK.out _ _ ⟨hB,rfl,Nat.le_refl _,.inl (Below.refl _ _),fun h=>absurd h (by decide)⟩
 refine Stps.cons (o:=_) ?_ ?_
 · intro ac yw hsz hold hB hp K hK;have e2:=hp 2 (by decide);have t10:ac.tmps[10]? = some (.agg #[.bool pb',.string ps',.string q']):=(List.cons.inj e2).1;clear hold hp hsz e2;go_simp
   (go_at_call 129;(with_reducible refine(TB.out _).mono ?_);rintro e wz ⟨rfl,hbz⟩)
   exact hK.out _ _ ⟨hB.go hbz,rfl,hbz.size,.inl hbz,fun h=>absurd h (by decide)⟩
 refine Stps.cons (o:=_) ?_ ?_
 · intro ac yw hsz hold hB hp K hK;have e1:=hp 1 (by decide);have t9:ac.tmps[9]? = some (.agg #[.bool pb,.string ps]):=(List.cons.inj e1).1;have e3:=hp 3 (by decide);have t11:ac.tmps[11]? = some (.agg #[.bool pb',.string ps']):=(List.cons.inj e3).1;clear hold hp hsz e1 e3;go_simp
   (go_at_call 128;(with_reducible refine(M1.out _).mono ?_);rintro e wz ⟨rfl,hbz⟩)
   exact hK.out _ _ ⟨hB.go hbz,rfl,hbz.size,.inl hbz,fun h=>absurd h (by decide)⟩
 refine Stps.cons (o:=_) ?_ ?_
 · intro ac yw hsz hold hB hp K hK;have t2:ac.tmps[2]? = some (.pointer (some ⟨w.heap.size,0,none⟩)):=hold 2 (by kernel_rfl);clear hold hp hsz;have⟨q1,q2,q3⟩:=hB.now.2.1.c3;have⟨r1,r2,r3⟩:=hB.now.2.2.1.c3;go_simp;exact hK.out _ _ ⟨hB,rfl,Nat.le_refl _,.inl (Below.refl _ _),fun h=>absurd h (by decide)⟩
 refine Stps.cons (o:=_) ?_ ?_
 · intro ac yw hsz hold hB hp K hK;have e5:=hp 5 (by decide);have t13:ac.tmps[13]? = some (.agg #[.bool pb,.string ps,.string q]):=(List.cons.inj e5).1;clear hold hp hsz e5;go_simp
   (go_at_call 130;(with_reducible refine(BA.out _).mono ?_);rintro e wz ⟨rfl,hbz⟩)
   exact hK.out _ _ ⟨hB.go hbz,rfl,hbz.size,.inl hbz,fun h=>absurd h (by decide)⟩
 refine Stps.cons (o:=_) ?_ ?_
 · intro ac yw hsz hold hB hp K hK;have t3:ac.tmps[3]? = some (.pointer (some ⟨w.heap.size+1,0,none⟩)):=hold 3 (by kernel_rfl);clear hold hp hsz;have⟨q1,q2,q3⟩:=hB.now.2.1.c3;have⟨r1,r2,r3⟩:=hB.now.2.2.1.c3;go_simp;exact hK.out _ _ ⟨hB,rfl,Nat.le_refl _,.inl (Below.refl _ _),fun h=>absurd h (by decide)⟩
 refine Stps.cons (o:=_) ?_ ?_
 · intro ac yw hsz hold hB hp K hK;have e7:=hp 7 (by decide);have t15:ac.tmps[15]? = some (.agg #[.bool pb',.string ps',.string q']):=(List.cons.inj e7).1;clear hold hp hsz e7;go_simp
   (go_at_call 130;(with_reducible refine(BB2.out _).mono ?_);rintro e wz ⟨rfl,hbz⟩)
   exact hK.out _ _ ⟨hB.go hbz,rfl,hbz.size,.inl hbz,fun h=>absurd h (by decide)⟩
 refine Stps.cons (o:=_) ?_ ?_
 · intro ac yw hsz hold hB hp K hK;have e6:=hp 6 (by decide);have t14:ac.tmps[14]? = some (.agg #[.bool qb,.string qs]):=(List.cons.inj e6).1;have e8:=hp 8 (by decide);have t16:ac.tmps[16]? = some (.agg #[.bool qb',.string qs']):=(List.cons.inj e8).1;clear hold hp hsz e6 e8;go_simp
   (go_at_call 128;(with_reducible refine(M2.out _).mono ?_);rintro e wz ⟨rfl,hbz⟩)
   exact hK.out _ _ ⟨hB.go hbz,rfl,hbz.size,.inl hbz,fun h=>absurd h (by decide)⟩
 refine Stps.cons (o:=_) ?_ ?_
 · intro ac yw hsz hold hB hp K hK;have e4:=hp 4 (by decide);have t12:ac.tmps[12]? = some (.agg #[.bool u1,.string u2]):=(List.cons.inj e4).1;have e9:=hp 9 (by decide);have t17:ac.tmps[17]? = some (.agg #[.bool v1,.string v2]):=(List.cons.inj e9).1;clear hold hp hsz e4 e9;go_simp
   (go_at_call 192;(with_reducible refine(NW.out _).mono ?_);rintro e wz ⟨rfl,hbz⟩)
   exact hK.out _ _ ⟨hB.go hbz,rfl,hbz.size,.inl hbz,fun h=>absurd h (by decide)⟩
 refine Stps.cons (o:=_) ?_ ?_
 · intro ac yw hsz hold hB hp K hK;have e10:=hp 10 (by decide);have t18:ac.tmps[18]? = some (.tuple #[.agg #[.bool x1,.string x2,.string x3],.bool true]):=(List.cons.inj e10).1;clear hold hp hsz e10;go_simp;exact hK.out _ _ ⟨hB,rfl,Nat.le_refl _,.inl (Below.refl _ _),fun h=>absurd h (by decide)⟩
 refine Stps.cons (o:=_) ?_ ?_
 · intro ac yw hsz hold hB hp K hK;have e11:=hp 11 (by decide);have t7:ac.tmps[7]? = some (.tuple #[.agg #[.bool x1,.string x2,.string x3],.bool true]):=(List.cons.inj e11).1;clear hold hp hsz e11;go_simp;exact hK.out _ _ ⟨hB,rfl,Nat.le_refl _,.inl (Below.refl _ _),fun h=>absurd h (by decide)⟩
 refine Stps.cons (o:=_) ?_ ?_
 · intro ac yw hsz hold hB hp K hK;have e11:=hp 11 (by decide);have t7:ac.tmps[7]? = some (.tuple #[.agg #[.bool x1,.string x2,.string x3],.bool true]):=(List.cons.inj e11).1;clear hold hp hsz e11;go_simp;exact hK.out _ _ ⟨hB,rfl,Nat.le_refl _,.inl (Below.refl _ _),fun h=>absurd h (by decide)⟩
 refine Stps.cons (o:=_) ?_ ?_
 · intro ac yw hsz hold hB hp K hK;clear hold hp hsz;have hk0:=hB.now.1.lt;have hsl:=Slot3.new yw (.bool false) (.string ⟨#[]⟩) (.string ⟨#[]⟩) 46;have hbz:Below yw.heap.size yw (yw.alloc (.cells #[.bool false,.string ⟨#[]⟩,.string ⟨#[]⟩] 46))/\yw.heap.size<(yw.alloc (.cells #[.bool false,.string ⟨#[]⟩,.string ⟨#[]⟩] 46)).heap.size:=⟨(Below.refl _ _).alloc (Nat.le_refl _) _,by simp⟩
   go_simp;exact hK.out _ _ ⟨hB.alloc _,Exists.intro yw.heap.size (Exists.intro false (Exists.intro ⟨#[]⟩ (Exists.intro ⟨#[]⟩ (And.intro rfl (And.intro hsl hk0))))),Nat.le_of_lt hbz.2,.inl hbz.1,fun _=>⟨_,rfl,Nat.le_refl _,hbz.2⟩⟩
 refine Stps.cons (o:=_) ?_ ?_
 · intro ac yw hsz hold hB hp K hK;obtain⟨k14_14,b0_14,s0_14,t0_14,e14,g14_0,g14_1⟩:=hp 14 (by decide);have t5:ac.tmps[5]? = some (.pointer (some ⟨k14_14,0,none⟩)):=(List.cons.inj e14).1;have e12:=hp 12 (by decide);have t19:ac.tmps[19]? = some (.agg #[.bool x1,.string x2,.string x3]):=(List.cons.inj e12).1;clear hold hp hsz e14 e12;have hs:=g14_0;have⟨l0,l1,l2,f0,f1,f2⟩:=hs.s6;have HB:=HP.out _ _ hs g14_1 hB x1 x2 x3;go_simp;refine hK.out undef _ ⟨HB,Exists.intro k14_14 (And.intro (congrArg (fun x => [x]) t5) (hs.set3 (.bool x1) (.string x2) (.string x3))),by simp,.inr ?_,fun h=>absurd h (by decide)⟩;intro jj hj hap h
   match jj,h with
   | 0,h=>exact h
   | 1,h=>exact h
   | 2,h=>exact h
   | 3,h=>exact h
   | 4,h=>exact h
   | 5,h=>exact h
   | 6,h=>exact h
   | 7,h=>exact h
   | 8,h=>exact h
   | 9,h=>exact h
   | 10,h=>exact h
   | 11,h=>exact h
   | 12,h=>exact h
   | 13,h=>exact h
   | 14,⟨k14,b0,s0,t0,e14,g14_0,g14_1⟩ =>
    have e9:k14=k14_14:=by have:=(List.cons.inj e14).1.symm.trans t5;cases this;rfl
    subst e9;exact Exists.intro _ (Exists.intro _ (Exists.intro _ (Exists.intro _ (And.intro e14 (And.intro (g14_0.set3 _ _ _) g14_1)))))
   | 15,_=>exact absurd rfl hj
   | 16,h=>exact h
   | _+17,h=>exact h
 refine Stps.cons (o:=_) ?_ ?_
 · intro ac yw hsz hold hB hp K hK;have e13:=hp 13 (by decide);have t20:ac.tmps[20]? = some (.bool true):=(List.cons.inj e13).1;clear hold hp hsz e13;go_simp;exact hK.out _ _ ⟨hB,rfl,Nat.le_refl _,.inl (Below.refl _ _),fun h=>absurd h (by decide)⟩
 exact Stps.nil _
theorem r3Add_any (P : Int) (Q : Nat) (P' : Int) (Q' : Nat) (w : World) (hQ : 0 < Q) (hQ' : 0 < Q') (h1 : dl P.natAbs <= 400) (h2 : dl Q <= 400) (h3 : dl P'.natAbs <= 400) (h4 : dl Q' <= 400) :
    Calls Tryz.prog 132 #[.agg #[.bool (rB P),.string (rS P),.string (str (dec Q))],.agg #[.bool (rB P'),.string (rS P'),.string (str (dec Q'))]] w fun e w'=>NumTold w w' e (plP P Q P' Q') (plQ P Q P' Q'):=by
 have BB:=Lib.hid (((Bag.start w).box3 (.bool (rB P)) (.string (rS P)) (.string (str (dec Q))) 46).box3 (.bool (rB P')) (.string (rS P')) (.string (str (dec Q'))) 46 |>.box3 (.bool false) (.string ⟨#[]⟩) (.string ⟨#[]⟩) 46 |>.drew);simp only[World.size_alloc]at BB;have TA:Hid (∀wz,Calls Tryz.prog 129 #[.agg #[.bool (rB P),.string (rS P),.string (str (dec Q))]] wz fun e w'=>RTold wz w' e P):=fun wz=>r3Top_any P _ wz (by omega)
 have TB:Hid (∀wz,Calls Tryz.prog 129 #[.agg #[.bool (rB P'),.string (rS P'),.string (str (dec Q'))]] wz fun e w'=>RTold wz w' e P'):=fun wz=>r3Top_any P' _ wz (by omega)
 have BA:Hid (∀wz,Calls Tryz.prog 130 #[.agg #[.bool (rB P),.string (rS P),.string (str (dec Q))]] wz fun e w'=>RTold wz w' e (Q:Int)):=fun wz=>r3Bot_any _ _ Q wz (by omega)
 have BB2:Hid (∀wz,Calls Tryz.prog 130 #[.agg #[.bool (rB P'),.string (rS P'),.string (str (dec Q'))]] wz fun e w'=>RTold wz w' e (Q':Int)):=fun wz=>r3Bot_any _ _ Q' wz (by omega)
 have M1:=Lib.hid (fun wz=>rMul_any P (Q':Int) wz (by omega) (by rw[Int.natAbs_natCast];omega));have M2:=Lib.hid (fun wz=>rMul_any P' (Q:Int) wz (by omega) (by rw[Int.natAbs_natCast];omega));have M3:=Lib.hid (fun wz=>rMul_any (Q:Int) (Q':Int) wz (by rw[Int.natAbs_natCast];omega) (by rw[Int.natAbs_natCast];omega));have AD:=Lib.hid (fun wz=>rAdd_any (P*Q') (P'*Q) wz (Nat.le_trans (dl_mulZ h1 h4) (by omega)) (Nat.le_trans (dl_mulZ h3 h2) (by omega)));rw[← Int.natCast_mul]at M3
 have hsum:dl (P*Q'+P'*Q).natAbs<=900:=by
  refine Nat.le_trans (dl_mono (Int.natAbs_add_le _ _)) (Nat.le_trans (dl_add_le (k:=800) (dl_mulZ h1 h4) (dl_mulZ h3 h2)) (by omega))
 have NW:=Lib.hid (fun wz=>r3New_some (P*Q'+P'*Q) ((Q*Q':Nat):Int) wz (by have:=Nat.mul_pos hQ hQ';omega) hsum (by rw[Int.natAbs_natCast];exact Nat.le_trans (dl_mul4 h2 h4) (by omega)));rw[(nw_nat (P*Q'+P'*Q) (Q:=Q*Q')).1,(nw_nat (P*Q'+P'*Q) (Q:=Q*Q')).2,show loP (P*Q'+P'*Q) (Q*Q')=plP P Q P' Q' from rfl,show loQ (P*Q'+P'*Q) (Q*Q')=plQ P Q P' Q' from rfl]at NW;generalize plP P Q P' Q'=X1 at *;generalize plQ P Q P' Q'=X2 at *;have HF:=Lib.hid (fun w2 b x y (hb:Below w.heap.size w w2) (h1:rB X1=b) (h2:rS X1=x) (h3:str (dec X2)=y)=>NumTold.done (k:=w.heap.size+1+1) X1 X2 hb (by omega) h1 h2 h3);unfold RTold at TA TB BA BB2 M1 M2 M3 AD;unfold NumTold3 at NW;obtain⟨x1,hx1⟩:∃x,rB X1=x:=⟨_,rfl⟩
 obtain⟨x2,hx2⟩:∃x,rS X1=x:=⟨_,rfl⟩
 obtain⟨x3,hx3⟩:∃x,str (dec X2)=x:=⟨_,rfl⟩
 rw[hx1,hx2,hx3]at NW;have HX:=Lib.hid (And.intro hx1 (And.intro hx2 hx3));generalize rB (P*(Q':Int)+P'*(Q:Int))=y1 at *;generalize rS (P*(Q':Int)+P'*(Q:Int))=y2 at *;generalize rB (P*(Q':Int))=u1 at *;generalize rS (P*(Q':Int))=u2 at *;generalize rB (P'*(Q:Int))=u3 at *;generalize rS (P'*(Q:Int))=u4 at *;generalize rB ((Q*Q':Nat):Int)=v1 at *;generalize rS ((Q*Q':Nat):Int)=v2 at *;generalize rB (Q:Int)=qb at *;generalize rS (Q:Int)=qs at *;generalize rB (Q':Int)=qb' at *;generalize rS (Q':Int)=qs' at *;generalize rB P=pb at *;generalize rS P=ps at *;generalize rB P'=pb' at *;generalize rS P'=ps' at *;generalize str (dec Q)=q at *;generalize str (dec Q')=q' at *;clear hsum h1 h2 h3 h4 hx1 hx2 hx3 hQ hQ'
 have HP:Hid (∀(y:World) (k:Nat) {b0:Bool} {s0 t0:ByteArray},Slot3 y k (.bool b0) (.string s0) (.string t0)->w.heap.size+1+1<k->Bag w (fun y=>Slot3 y (w.heap.size+1+1) (.bool false) (.string ⟨#[]⟩) (.string ⟨#[]⟩)/\Slot3 y (w.heap.size+1) (.bool pb') (.string ps') (.string q')/\Slot3 y w.heap.size (.bool pb) (.string ps) (.string q)/\True) y->∀(z1:Bool) (z2 z3:ByteArray),Bag w (fun y=>Slot3 y (w.heap.size+1+1) (.bool false) (.string ⟨#[]⟩) (.string ⟨#[]⟩)/\Slot3 y (w.heap.size+1) (.bool pb') (.string ps') (.string q')/\Slot3 y w.heap.size (.bool pb) (.string ps) (.string q)/\True) (((y.setCell ⟨k,0,none⟩ (.bool z1)).setCell ⟨k,1,none⟩ (.string z2)).setCell ⟨k,2,none⟩ (.string z3))):=by
  intro y k b0 s0 t0 s hk B z1 z2 z3;have q:=B.now;exact⟨((B.below.setCell (p:=⟨k,0,none⟩) (show w.heap.size<=k by omega) _).setCell (p:=⟨k,1,none⟩) (show w.heap.size<=k by omega) _).setCell (p:=⟨k,2,none⟩) (show w.heap.size<=k by omega) _,B.stay,q.1.set3o (by omega) _ _ _,q.2.1.set3o (by omega) _ _ _,q.2.2.1.set3o (by omega) _ _ _,trivial⟩
 go_enter Tryz.func132,Tryz.ntmps132;go_wp2_with fail
 refine wp_region_inv ⟨(fun j=>([[8], [9], [10], [11], [12], [13], [14], [15], [16], [17], [18], [19], [20], [21], [22], [23], [24], [7], [25], [26], [5], [5], [6]]:List (List Nat)).getD j []),(fun j=>([[], [0], [], [0,1,2], [0,1,2,3], [], [0,1,2,3,4,5], [], [0,1,2,3,4,5,6,7], [0,1,2,3,4,5,6,7,8], [0,1,2,3,4,5,6,7,8,9], [], [0,1,2,3,4,5,6,7,8,9,10,11], [], [0,1,2,3,4,5,6,7,8,9,10,11,12,13], [0,1,2,3,4,5,6,7,8,9,10,11,12,13,14], [0,1,2,3,4,5,6,7,8,9,10,11,12,13,14,15], [0,1,2,3,4,5,6,7,8,9,10,11,12,13,14,15,16], [0,1,2,3,4,5,6,7,8,9,10,11,12,13,14,15,16,17], [0,1,2,3,4,5,6,7,8,9,10,11,12,13,14,15,16,17], [], [0,1,2,3,4,5,6,7,8,9,10,11,12,13,14,15,16,17,18,20], [0,1,2,3,4,5,6,7,8,9,10,11,12,13,14,15,16,17,18,19,20,21]]:List (List Nat)).getD j []), [20]⟩ (fun jj vv yy=>match jj with|0=>vv = [some (.agg #[.bool pb,.string ps,.string q])]|1=>vv = [some (.agg #[.bool pb,.string ps])]|2=>vv = [some (.agg #[.bool pb',.string ps',.string q'])]|3=>vv = [some (.agg #[.bool qb',.string qs'])]|4=>vv = [some (.agg #[.bool u1,.string u2])]|5=>vv = [some (.agg #[.bool pb',.string ps',.string q'])]|6=>vv = [some (.agg #[.bool pb',.string ps'])]|7=>vv = [some (.agg #[.bool pb,.string ps,.string q])]|8=>vv = [some (.agg #[.bool qb,.string qs])]|9=>vv = [some (.agg #[.bool u3,.string u4])]|10=>vv = [some (.agg #[.bool y1,.string y2])]|11=>vv = [some (.agg #[.bool pb,.string ps,.string q])]|12=>vv = [some (.agg #[.bool qb,.string qs])]|13=>vv = [some (.agg #[.bool pb',.string ps',.string q'])]|14=>vv = [some (.agg #[.bool qb',.string qs'])]|15=>vv = [some (.agg #[.bool v1,.string v2])]|16=>vv = [some (.tuple #[.agg #[.bool x1,.string x2,.string x3],.bool true])]|17=>vv = [some (.tuple #[.agg #[.bool x1,.string x2,.string x3],.bool true])]|18=>vv = [some (.agg #[.bool x1,.string x2,.string x3])]|19=>vv = [some (.bool true)]|20=>∃(k20:Nat),∃(b0:Bool),∃(s0:ByteArray),∃(t0:ByteArray),vv = [some (.pointer (some ⟨k20,0,none⟩))]/\Slot3 yy k20 (.bool b0) (.string s0) (.string t0)/\w.heap.size+1+1<k20|21=>∃(k20:Nat),vv = [some (.pointer (some ⟨k20,0,none⟩))]/\Slot3 yy k20 (.bool x1) (.string x2) (.string x3)|22=>vv = [some (.bool true)]|_=>True) (Bag w (fun y=>Slot3 y (w.heap.size+1+1) (.bool false) (.string ⟨#[]⟩) (.string ⟨#[]⟩)/\Slot3 y (w.heap.size+1) (.bool pb') (.string ps') (.string q')/\Slot3 y w.heap.size (.bool pb) (.string ps) (.string q)/\True)) (by kernel_rfl) (by kernel_rfl) (by kernel_rfl) BB.out ?_ ?_ ?_
 · intro jj vv yw yw2 hb h
   match jj,h with
   | 0,h=>exact h
   | 1,h=>exact h
   | 2,h=>exact h
   | 3,h=>exact h
   | 4,h=>exact h
   | 5,h=>exact h
   | 6,h=>exact h
   | 7,h=>exact h
   | 8,h=>exact h
   | 9,h=>exact h
   | 10,h=>exact h
   | 11,h=>exact h
   | 12,h=>exact h
   | 13,h=>exact h
   | 14,h=>exact h
   | 15,h=>exact h
   | 16,h=>exact h
   | 17,h=>exact h
   | 18,h=>exact h
   | 19,h=>exact h
   | 20,⟨k20,b0,s0,t0,e20,g20_0,g20_1⟩=>exact Exists.intro k20 (Exists.intro b0 (Exists.intro s0 (Exists.intro t0 (And.intro e20 (And.intro (g20_0.below hb) g20_1)))))
   | 21,⟨k20,e21,g21_0⟩=>exact Exists.intro k20 (And.intro e21 (g21_0.below hb))
   | 22,h=>exact h
   | _+23,h=>exact h
 · intro ac yw hsz hdf hold hB hp;obtain⟨k14,e15,hs⟩:=hp 21 (by decide);have t5:ac.tmps[5]? = some (.pointer (some ⟨k14,0,none⟩)):=(List.cons.inj e15).1;have t4:ac.tmps[4]? = some (.pointer (some ⟨w.heap.size+1+1,0,none⟩)):=hold 4 (by kernel_rfl);have e6:=hp 22 (by decide);have t6:ac.tmps[6]? = some (.bool true):=(List.cons.inj e6).1;clear hold hp e15 e6;obtain⟨⟨l⟩,df⟩:=ac
   match l,hsz with
   | [u0,u1,u2,u3,u4,u5,u6,u7,u8,u9,u10,u11,u12,u13,u14,u15,u16,u17,u18,u19,u20,u21,u22,u23,u24,u25,u26,u27],_ =>
   obtain rfl:=Option.some.inj (show some u4=_ from t4);obtain rfl:=Option.some.inj (show some u5=_ from t5);obtain rfl:=Option.some.inj (show some u6=_ from t6);have⟨q0,q1,q2⟩:=hs.c3;have hr:=hB.now.1;have⟨r0,r1,r2,g0,g1,g2⟩:=hr.s6;have HS:=hr.set (.bool x1) (.string x2) (.string x3);have HE:=Lib.hid (HF.out _ x1 x2 x3 hB.below HX.out.1 HX.out.2.1 HX.out.2.2);clear hr hs hB;go_wp2;exact bodyPost_ret (by simp[results,Tryz.results132,go_sem,HS]) rfl HE.out
 refine Stps.cons (o:=_) ?_ ?_
 · intro ac yw hsz hold hB hp K hK;have t2:ac.tmps[2]? = some (.pointer (some ⟨w.heap.size,0,none⟩)):=hold 2 (by kernel_rfl);clear hold hp hsz;have⟨q1,q2,q3⟩:=hB.now.2.1.c3;have⟨r1,r2,r3⟩:=hB.now.2.2.1.c3;go_simp;exact hK.out _ _ ⟨hB,rfl,Nat.le_refl _,.inl (Below.refl _ _),fun h=>absurd h (by decide)⟩
 refine Stps.cons (o:=_) ?_ ?_
 · intro ac yw hsz hold hB hp K hK;have e0:=hp 0 (by decide);have t8:ac.tmps[8]? = some (.agg #[.bool pb,.string ps,.string q]):=(List.cons.inj e0).1;clear hold hp hsz e0;go_simp
   (go_at_call 129;(with_reducible refine(TA.out _).mono ?_);rintro e wz ⟨rfl,hbz⟩)
   exact hK.out _ _ ⟨hB.go hbz,rfl,hbz.size,.inl hbz,fun h=>absurd h (by decide)⟩
 refine Stps.cons (o:=_) ?_ ?_
 · intro ac yw hsz hold hB hp K hK;have t3:ac.tmps[3]? = some (.pointer (some ⟨w.heap.size+1,0,none⟩)):=hold 3 (by kernel_rfl);clear hold hp hsz;have⟨q1,q2,q3⟩:=hB.now.2.1.c3;have⟨r1,r2,r3⟩:=hB.now.2.2.1.c3;go_simp;exact hK.out _ _ ⟨hB,rfl,Nat.le_refl _,.inl (Below.refl _ _),fun h=>absurd h (by decide)⟩
 refine Stps.cons (o:=_) ?_ ?_
 · intro ac yw hsz hold hB hp K hK;have e2:=hp 2 (by decide);have t10:ac.tmps[10]? = some (.agg #[.bool pb',.string ps',.string q']):=(List.cons.inj e2).1;clear hold hp hsz e2;go_simp
   (go_at_call 130;(with_reducible refine(BB2.out _).mono ?_);rintro e wz ⟨rfl,hbz⟩)
   exact hK.out _ _ ⟨hB.go hbz,rfl,hbz.size,.inl hbz,fun h=>absurd h (by decide)⟩
 refine Stps.cons (o:=_) ?_ ?_
 · intro ac yw hsz hold hB hp K hK;have e1:=hp 1 (by decide);have t9:ac.tmps[9]? = some (.agg #[.bool pb,.string ps]):=(List.cons.inj e1).1;have e3:=hp 3 (by decide);have t11:ac.tmps[11]? = some (.agg #[.bool qb',.string qs']):=(List.cons.inj e3).1;clear hold hp hsz e1 e3;go_simp
   (go_at_call 128;(with_reducible refine(M1.out _).mono ?_);rintro e wz ⟨rfl,hbz⟩)
   exact hK.out _ _ ⟨hB.go hbz,rfl,hbz.size,.inl hbz,fun h=>absurd h (by decide)⟩
 refine Stps.cons (o:=_) ?_ ?_
 · intro ac yw hsz hold hB hp K hK;have t3:ac.tmps[3]? = some (.pointer (some ⟨w.heap.size+1,0,none⟩)):=hold 3 (by kernel_rfl);clear hold hp hsz;have⟨q1,q2,q3⟩:=hB.now.2.1.c3;have⟨r1,r2,r3⟩:=hB.now.2.2.1.c3;go_simp;exact hK.out _ _ ⟨hB,rfl,Nat.le_refl _,.inl (Below.refl _ _),fun h=>absurd h (by decide)⟩
 refine Stps.cons (o:=_) ?_ ?_
 · intro ac yw hsz hold hB hp K hK;have e5:=hp 5 (by decide);have t13:ac.tmps[13]? = some (.agg #[.bool pb',.string ps',.string q']):=(List.cons.inj e5).1;clear hold hp hsz e5;go_simp
   (go_at_call 129;(with_reducible refine(TB.out _).mono ?_);rintro e wz ⟨rfl,hbz⟩)
   exact hK.out _ _ ⟨hB.go hbz,rfl,hbz.size,.inl hbz,fun h=>absurd h (by decide)⟩
 refine Stps.cons (o:=_) ?_ ?_
 · intro ac yw hsz hold hB hp K hK;have t2:ac.tmps[2]? = some (.pointer (some ⟨w.heap.size,0,none⟩)):=hold 2 (by kernel_rfl);clear hold hp hsz;have⟨q1,q2,q3⟩:=hB.now.2.1.c3;have⟨r1,r2,r3⟩:=hB.now.2.2.1.c3;go_simp;exact hK.out _ _ ⟨hB,rfl,Nat.le_refl _,.inl (Below.refl _ _),fun h=>absurd h (by decide)⟩
 refine Stps.cons (o:=_) ?_ ?_
 · intro ac yw hsz hold hB hp K hK;have e7:=hp 7 (by decide);have t15:ac.tmps[15]? = some (.agg #[.bool pb,.string ps,.string q]):=(List.cons.inj e7).1;clear hold hp hsz e7;go_simp
   (go_at_call 130;(with_reducible refine(BA.out _).mono ?_);rintro e wz ⟨rfl,hbz⟩)
   exact hK.out _ _ ⟨hB.go hbz,rfl,hbz.size,.inl hbz,fun h=>absurd h (by decide)⟩
 refine Stps.cons (o:=_) ?_ ?_
 · intro ac yw hsz hold hB hp K hK;have e6:=hp 6 (by decide);have t14:ac.tmps[14]? = some (.agg #[.bool pb',.string ps']):=(List.cons.inj e6).1;have e8:=hp 8 (by decide);have t16:ac.tmps[16]? = some (.agg #[.bool qb,.string qs]):=(List.cons.inj e8).1;clear hold hp hsz e6 e8;go_simp
   (go_at_call 128;(with_reducible refine(M2.out _).mono ?_);rintro e wz ⟨rfl,hbz⟩)
   exact hK.out _ _ ⟨hB.go hbz,rfl,hbz.size,.inl hbz,fun h=>absurd h (by decide)⟩
 refine Stps.cons (o:=_) ?_ ?_
 · intro ac yw hsz hold hB hp K hK;have e4:=hp 4 (by decide);have t12:ac.tmps[12]? = some (.agg #[.bool u1,.string u2]):=(List.cons.inj e4).1;have e9:=hp 9 (by decide);have t17:ac.tmps[17]? = some (.agg #[.bool u3,.string u4]):=(List.cons.inj e9).1;clear hold hp hsz e4 e9;go_simp
   (go_at_call 193;(with_reducible refine(AD.out _).mono ?_);rintro e wz ⟨rfl,hbz⟩)
   exact hK.out _ _ ⟨hB.go hbz,rfl,hbz.size,.inl hbz,fun h=>absurd h (by decide)⟩
 refine Stps.cons (o:=_) ?_ ?_
 · intro ac yw hsz hold hB hp K hK;have t2:ac.tmps[2]? = some (.pointer (some ⟨w.heap.size,0,none⟩)):=hold 2 (by kernel_rfl);clear hold hp hsz;have⟨q1,q2,q3⟩:=hB.now.2.1.c3;have⟨r1,r2,r3⟩:=hB.now.2.2.1.c3;go_simp;exact hK.out _ _ ⟨hB,rfl,Nat.le_refl _,.inl (Below.refl _ _),fun h=>absurd h (by decide)⟩
 refine Stps.cons (o:=_) ?_ ?_
 · intro ac yw hsz hold hB hp K hK;have e11:=hp 11 (by decide);have t19:ac.tmps[19]? = some (.agg #[.bool pb,.string ps,.string q]):=(List.cons.inj e11).1;clear hold hp hsz e11;go_simp
   (go_at_call 130;(with_reducible refine(BA.out _).mono ?_);rintro e wz ⟨rfl,hbz⟩)
   exact hK.out _ _ ⟨hB.go hbz,rfl,hbz.size,.inl hbz,fun h=>absurd h (by decide)⟩
 refine Stps.cons (o:=_) ?_ ?_
 · intro ac yw hsz hold hB hp K hK;have t3:ac.tmps[3]? = some (.pointer (some ⟨w.heap.size+1,0,none⟩)):=hold 3 (by kernel_rfl);clear hold hp hsz;have⟨q1,q2,q3⟩:=hB.now.2.1.c3;have⟨r1,r2,r3⟩:=hB.now.2.2.1.c3;go_simp;exact hK.out _ _ ⟨hB,rfl,Nat.le_refl _,.inl (Below.refl _ _),fun h=>absurd h (by decide)⟩
 refine Stps.cons (o:=_) ?_ ?_
 · intro ac yw hsz hold hB hp K hK;have e13:=hp 13 (by decide);have t21:ac.tmps[21]? = some (.agg #[.bool pb',.string ps',.string q']):=(List.cons.inj e13).1;clear hold hp hsz e13;go_simp
   (go_at_call 130;(with_reducible refine(BB2.out _).mono ?_);rintro e wz ⟨rfl,hbz⟩)
   exact hK.out _ _ ⟨hB.go hbz,rfl,hbz.size,.inl hbz,fun h=>absurd h (by decide)⟩
 refine Stps.cons (o:=_) ?_ ?_
 · intro ac yw hsz hold hB hp K hK;have e12:=hp 12 (by decide);have t20:ac.tmps[20]? = some (.agg #[.bool qb,.string qs]):=(List.cons.inj e12).1;have e14:=hp 14 (by decide);have t22:ac.tmps[22]? = some (.agg #[.bool qb',.string qs']):=(List.cons.inj e14).1;clear hold hp hsz e12 e14;go_simp
   (go_at_call 128;(with_reducible refine(M3.out _).mono ?_);rintro e wz ⟨rfl,hbz⟩)
   exact hK.out _ _ ⟨hB.go hbz,rfl,hbz.size,.inl hbz,fun h=>absurd h (by decide)⟩
 refine Stps.cons (o:=_) ?_ ?_
 · intro ac yw hsz hold hB hp K hK;have e10:=hp 10 (by decide);have t18:ac.tmps[18]? = some (.agg #[.bool y1,.string y2]):=(List.cons.inj e10).1;have e15:=hp 15 (by decide);have t23:ac.tmps[23]? = some (.agg #[.bool v1,.string v2]):=(List.cons.inj e15).1;clear hold hp hsz e10 e15;go_simp
   (go_at_call 192;(with_reducible refine(NW.out _).mono ?_);rintro e wz ⟨rfl,hbz⟩)
   exact hK.out _ _ ⟨hB.go hbz,rfl,hbz.size,.inl hbz,fun h=>absurd h (by decide)⟩
 refine Stps.cons (o:=_) ?_ ?_
 · intro ac yw hsz hold hB hp K hK;have e16:=hp 16 (by decide);have t24:ac.tmps[24]? = some (.tuple #[.agg #[.bool x1,.string x2,.string x3],.bool true]):=(List.cons.inj e16).1;clear hold hp hsz e16;go_simp;exact hK.out _ _ ⟨hB,rfl,Nat.le_refl _,.inl (Below.refl _ _),fun h=>absurd h (by decide)⟩
 refine Stps.cons (o:=_) ?_ ?_
 · intro ac yw hsz hold hB hp K hK;have e17:=hp 17 (by decide);have t7:ac.tmps[7]? = some (.tuple #[.agg #[.bool x1,.string x2,.string x3],.bool true]):=(List.cons.inj e17).1;clear hold hp hsz e17;go_simp;exact hK.out _ _ ⟨hB,rfl,Nat.le_refl _,.inl (Below.refl _ _),fun h=>absurd h (by decide)⟩
 refine Stps.cons (o:=_) ?_ ?_
 · intro ac yw hsz hold hB hp K hK;have e17:=hp 17 (by decide);have t7:ac.tmps[7]? = some (.tuple #[.agg #[.bool x1,.string x2,.string x3],.bool true]):=(List.cons.inj e17).1;clear hold hp hsz e17;go_simp;exact hK.out _ _ ⟨hB,rfl,Nat.le_refl _,.inl (Below.refl _ _),fun h=>absurd h (by decide)⟩
 refine Stps.cons (o:=_) ?_ ?_
 · intro ac yw hsz hold hB hp K hK;clear hold hp hsz;have hk0:=hB.now.1.lt;have hsl:=Slot3.new yw (.bool false) (.string ⟨#[]⟩) (.string ⟨#[]⟩) 46;have hbz:Below yw.heap.size yw (yw.alloc (.cells #[.bool false,.string ⟨#[]⟩,.string ⟨#[]⟩] 46))/\yw.heap.size<(yw.alloc (.cells #[.bool false,.string ⟨#[]⟩,.string ⟨#[]⟩] 46)).heap.size:=⟨(Below.refl _ _).alloc (Nat.le_refl _) _,by simp⟩
   go_simp;exact hK.out _ _ ⟨hB.alloc _,Exists.intro yw.heap.size (Exists.intro false (Exists.intro ⟨#[]⟩ (Exists.intro ⟨#[]⟩ (And.intro rfl (And.intro hsl hk0))))),Nat.le_of_lt hbz.2,.inl hbz.1,fun _=>⟨_,rfl,Nat.le_refl _,hbz.2⟩⟩
 refine Stps.cons (o:=_) ?_ ?_
 · intro ac yw hsz hold hB hp K hK;obtain⟨k20_20,b0_20,s0_20,t0_20,e20,g20_0,g20_1⟩:=hp 20 (by decide);have t5:ac.tmps[5]? = some (.pointer (some ⟨k20_20,0,none⟩)):=(List.cons.inj e20).1;have e18:=hp 18 (by decide);have t25:ac.tmps[25]? = some (.agg #[.bool x1,.string x2,.string x3]):=(List.cons.inj e18).1;clear hold hp hsz e20 e18;have hs:=g20_0;have⟨l0,l1,l2,f0,f1,f2⟩:=hs.s6;have HB:=HP.out _ _ hs g20_1 hB x1 x2 x3;go_simp;refine hK.out undef _ ⟨HB,Exists.intro k20_20 (And.intro (congrArg (fun x => [x]) t5) (hs.set3 (.bool x1) (.string x2) (.string x3))),by simp,.inr ?_,fun h=>absurd h (by decide)⟩;intro jj hj hap h
   match jj,h with
   | 0,h=>exact h
   | 1,h=>exact h
   | 2,h=>exact h
   | 3,h=>exact h
   | 4,h=>exact h
   | 5,h=>exact h
   | 6,h=>exact h
   | 7,h=>exact h
   | 8,h=>exact h
   | 9,h=>exact h
   | 10,h=>exact h
   | 11,h=>exact h
   | 12,h=>exact h
   | 13,h=>exact h
   | 14,h=>exact h
   | 15,h=>exact h
   | 16,h=>exact h
   | 17,h=>exact h
   | 18,h=>exact h
   | 19,h=>exact h
   | 20,⟨k20,b0,s0,t0,e20,g20_0,g20_1⟩ =>
    have e9:k20=k20_20:=by have:=(List.cons.inj e20).1.symm.trans t5;cases this;rfl
    subst e9;exact Exists.intro _ (Exists.intro _ (Exists.intro _ (Exists.intro _ (And.intro e20 (And.intro (g20_0.set3 _ _ _) g20_1)))))
   | 21,_=>exact absurd rfl hj
   | 22,h=>exact h
   | _+23,h=>exact h
 refine Stps.cons (o:=_) ?_ ?_
 · intro ac yw hsz hold hB hp K hK;have e19:=hp 19 (by decide);have t26:ac.tmps[26]? = some (.bool true):=(List.cons.inj e19).1;clear hold hp hsz e19;go_simp;exact hK.out _ _ ⟨hB,rfl,Nat.le_refl _,.inl (Below.refl _ _),fun h=>absurd h (by decide)⟩
 exact Stps.nil _
theorem r3Rest_zero (Q : Nat) (P' : Int) (Q' : Nat) (w : World) (h2 : dl Q <= 60) (h3 : dl P'.natAbs <= 60) (h4 : dl Q' <= 60) :
    Calls Tryz.prog 136 #[.agg #[.bool (rB 0),.string (rS 0),.string (str (dec Q))],.agg #[.bool (rB P'),.string (rS P'),.string (str (dec Q'))]] w fun e w'=>NumTold w w' e P' Q':=by
 have BB:=Lib.hid (((Bag.start w).box3 (.bool (rB 0)) (.string (rS 0)) (.string (str (dec Q))) 46).box3 (.bool (rB P')) (.string (rS P')) (.string (str (dec Q'))) 46 |>.box3 (.bool false) (.string ⟨#[]⟩) (.string ⟨#[]⟩) 46);simp only[World.size_alloc]at BB;have DV:=Lib.hid (fun wz=>r3Div_zero P' Q' Q wz (by omega) (by omega) (by omega));unfold NumTold3 at DV;have HF:=Lib.hid (fun w2 b x y (hb:Below w.heap.size w w2) (h1:rB P'=b) (h2:rS P'=x) (h3:str (dec Q')=y)=>NumTold.done (k:=w.heap.size+1+1) P' Q' hb (by omega) h1 h2 h3);obtain⟨x1,hx1⟩:∃x,rB P'=x:=⟨_,rfl⟩
 obtain⟨x2,hx2⟩:∃x,rS P'=x:=⟨_,rfl⟩
 obtain⟨x3,hx3⟩:∃x,str (dec Q')=x:=⟨_,rfl⟩
 have HX:=Lib.hid (And.intro hx1 (And.intro hx2 hx3));rw[hx1,hx2,hx3]at DV BB;rw[hx1,hx2,hx3];generalize rB 0=z1 at *;generalize rS 0=z2 at *;generalize str (dec Q)=q at *;generalize str (dec 1)=o at *;have⟨q0,q1,q2⟩:=BB.out.now.2.1.c3;have⟨r0,r1,r2⟩:=BB.out.now.2.2.1.c3;clear hx1 hx2 hx3 h2 h3 h4;go_enter Tryz.func136,Tryz.ntmps136;go_wp2_with fail;go_at_call 135;refine(DV.out _).mono ?_;rintro e w2 ⟨rfl,hb2⟩;have BB:=Lib.hid ((BB.out.go hb2).box3 (.bool z1) (.string z2) (.string o) 46);have⟨q0,q1,q2⟩:=BB.out.now.2.2.1.c3;have hs:=BB.out.now.2.1;have⟨u0,u1,u2,g0,g1,g2⟩:=hs.s6;have HS:=hs.set (.bool x1) (.string x2) (.string x3);have HE:=Lib.hid (HF.out _ x1 x2 x3 BB.out.below HX.out.1 HX.out.2.1 HX.out.2.2);clear hb2 hs;go_wp2;exact bodyPost_ret (by simp[results,Tryz.results136,go_sem,HS]) rfl HE.out
theorem r3Rest_some (P : Int) (Q : Nat) (P' : Int) (Q' : Nat) (w : World) (hQ : 0 < Q) (hQ' : 0 < Q') (hP : P ≠ 0) (h1 : dl P.natAbs <= 60) (h2 : dl Q <= 60) (h3 : dl P'.natAbs <= 60) (h4 : dl Q' <= 60) :
    Calls Tryz.prog 136 #[.agg #[.bool (rB P),.string (rS P),.string (str (dec Q))],.agg #[.bool (rB P'),.string (rS P'),.string (str (dec Q'))]] w fun e w'=>NumTold w w' e (plP P' Q' (-(tmP P Q (reF P Q P' Q') 1)) (tmQ P Q (reF P Q P' Q') 1)) (plQ P' Q' (-(tmP P Q (reF P Q P' Q') 1)) (tmQ P Q (reF P Q P' Q') 1)):=by
 have BB:=Lib.hid (((Bag.start w).box3 (.bool (rB P)) (.string (rS P)) (.string (str (dec Q))) 46).box3 (.bool (rB P')) (.string (rS P')) (.string (str (dec Q'))) 46 |>.box3 (.bool false) (.string ⟨#[]⟩) (.string ⟨#[]⟩) 46);simp only[World.size_alloc]at BB;have DV:=Lib.hid (fun wz=>r3Div_some P' Q' P Q wz hQ' hP (by omega) (by omega) (by omega) (by omega));have e1:=dl_mulZ (Z:=P') (y:=Q) (by omega) (by omega);have e1:dl (P'*(Q:Int)).natAbs<=120:=by rw[Int.natAbs_mul,Int.natAbs_natCast];exact dl_mul_le h3 h2
 have e2:dl (P*(Q':Int)).natAbs<=120:=by rw[Int.natAbs_mul,Int.natAbs_natCast];exact dl_mul_le h1 h4
 have e3:=nw_dl (P'*(Q:Int)) (P*(Q':Int));have hVp:0<nwQ (P'*Q) (P*Q'):=nwQ_pos _ (Int.mul_ne_zero hP (by omega));have FL:=Lib.hid (fun wz=>r3Floor_any (nwP (P'*Q) (P*Q')) (nwQ (P'*Q) (P*Q')) wz hVp (by omega) (by omega));rw[show flQ (nwP (P'*Q) (P*Q')) (nwQ (P'*Q) (P*Q'))=reF P Q P' Q' from rfl]at FL
 have e4:dl (reF P Q P' Q').natAbs<=121:=by
  have:=flQ_abs (nwP (P'*Q) (P*Q')) (nwQ (P'*Q) (P*Q'));rw[show reF P Q P' Q'=flQ (nwP (P'*Q) (P*Q')) (nwQ (P'*Q) (P*Q'))from rfl];exact Nat.le_trans (dl_mono this) (dl_add_le (k:=120) (by omega) (by rw[dl_one];omega))
 have WH:=Lib.hid (fun wz=>r3Whole_any (reF P Q P' Q') wz);have ML:=Lib.hid (fun wz=>r3Mul_any P Q (reF P Q P' Q') 1 wz hQ (by omega) (by omega) (by omega) (by omega) (by rw[dl_one];omega));have e5:dl (tmP P Q (reF P Q P' Q') 1).natAbs<=181:=Nat.le_trans (lo_dl _ _).1 (by rw[Int.natAbs_mul];exact dl_mul_le h1 e4);have e6:dl (tmQ P Q (reF P Q P' Q') 1)<=60:=Nat.le_trans (lo_dl _ _).2 (by rw[Nat.mul_one];exact h2);have hTp:0<tmQ P Q (reF P Q P' Q') 1:=tmQ_pos _ _ hQ (by omega);have MN:=Lib.hid (fun wz=>r3Minus_any (tmP P Q (reF P Q P' Q') 1) (tmQ P Q (reF P Q P' Q') 1) wz);have AD:=Lib.hid (fun wz=>r3Add_any P' Q' (-(tmP P Q (reF P Q P' Q') 1)) (tmQ P Q (reF P Q P' Q') 1) wz hQ' hTp (by omega) (by omega) (by rw[Int.natAbs_neg];omega) (by omega));generalize plP P' Q' (-(tmP P Q (reF P Q P' Q') 1)) (tmQ P Q (reF P Q P' Q') 1)=X1 at *;generalize plQ P' Q' (-(tmP P Q (reF P Q P' Q') 1)) (tmQ P Q (reF P Q P' Q') 1)=X2 at *;generalize tmP P Q (reF P Q P' Q') 1=Y1 at *;generalize tmQ P Q (reF P Q P' Q') 1=Y2 at *;generalize reF P Q P' Q'=F at *;generalize nwP (P'*Q) (P*Q')=U1 at *;generalize nwQ (P'*Q) (P*Q')=U2 at *;have HF:=Lib.hid (fun w2 b x y (hb:Below w.heap.size w w2) (h1:rB X1=b) (h2:rS X1=x) (h3:str (dec X2)=y)=>NumTold.done (k:=w.heap.size+1+1) X1 X2 hb (by omega) h1 h2 h3);unfold NumTold3 at DV;unfold NumTold at WH ML MN AD;unfold RTold at FL;obtain⟨x1,hx1⟩:∃x,rB X1=x:=⟨_,rfl⟩
 obtain⟨x2,hx2⟩:∃x,rS X1=x:=⟨_,rfl⟩
 obtain⟨x3,hx3⟩:∃x,str (dec X2)=x:=⟨_,rfl⟩
 have HX:=Lib.hid (And.intro hx1 (And.intro hx2 hx3));rw[hx1,hx2,hx3]at AD;generalize rB (-Y1)=m1 at *;generalize rS (-Y1)=m2 at *;generalize rB Y1=y1 at *;generalize rS Y1=y2 at *;generalize str (dec Y2)=y3 at *;generalize rB F=f1 at *;generalize rS F=f2 at *;generalize rB U1=u1 at *;generalize rS U1=u2 at *;generalize str (dec U2)=u3 at *;generalize str (dec 1)=o at *;generalize rB P=pb at *;generalize rS P=ps at *;generalize rB P'=pb' at *;generalize rS P'=ps' at *;generalize str (dec Q)=q at *;generalize str (dec Q')=q' at *;have⟨q0,q1,q2⟩:=BB.out.now.2.1.c3;have⟨r0,r1,r2⟩:=BB.out.now.2.2.1.c3;clear hx1 hx2 hx3 h1 h2 h3 h4 hQ hQ' hP e1 e2 e3 e4 e5 e6 hTp hVp;go_enter Tryz.func136,Tryz.ntmps136;go_wp2_with fail;go_at_call 135;(with_reducible refine(DV.out _).mono ?_);rintro e w2 ⟨rfl,hb2⟩;have hk2:=(BB.out.go hb2).now.1.lt;have BB:=Lib.hid ((BB.out.go hb2).box3 (.bool u1) (.string u2) (.string u3) 46);have he:w.heap.size≠w.heap.size+1+1/\w.heap.size+1≠w.heap.size+1+1/\w2.heap.size≠w.heap.size+1+1:=by omega
 clear hb2;go_wp2_with fail;have BB:=Lib.hid BB.out.drew
 go_region_held3 (fun y => (y.cell? ⟨w.heap.size, 0, none⟩ = some (.bool pb) /\ y.cell? ⟨w.heap.size, 1, none⟩ = some (.string ps) /\ y.cell? ⟨w.heap.size, 2, none⟩ = some (.string q)) /\ (y.cell? ⟨w.heap.size + 1, 0, none⟩ = some (.bool pb') /\ y.cell? ⟨w.heap.size + 1, 1, none⟩ = some (.string ps') /\ y.cell? ⟨w.heap.size + 1, 2, none⟩ = some (.string q')) /\ y.cell? ⟨w2.heap.size, 0, none⟩ = some (.bool u1) /\ y.cell? ⟨w2.heap.size, 1, none⟩ = some (.string u2) /\ y.cell? ⟨w2.heap.size, 2, none⟩ = some (.string u3))
  (first
    | (exact⟨⟨z0.cell,z0.cell1,z0.cell2⟩,⟨z1.cell,z1.cell1,z1.cell2⟩,z2.cell,z2.cell1,z2.cell2⟩)
    | (exact⟨⟨BB.out.now.2.2.2.1.cell,BB.out.now.2.2.2.1.cell1,BB.out.now.2.2.2.1.cell2⟩,⟨BB.out.now.2.2.1.cell,BB.out.now.2.2.1.cell1,BB.out.now.2.2.1.cell2⟩,BB.out.now.1.cell,BB.out.now.1.cell1,BB.out.now.1.cell2⟩))
  (first
    | (go_at_call 153;(with_reducible refine(FL.out _).mono ?_);rintro e w5 ⟨rfl,hb5⟩;have BB:=Lib.hid (BB.out.go hb5))
    | (go_at_call 151;(with_reducible refine(WH.out _).mono ?_);rintro e w6 ⟨rfl,hb6⟩;have BB:=Lib.hid (BB.out.go hb6))
    | (go_at_call 134;(with_reducible refine(ML.out _).mono ?_);rintro e w7 ⟨rfl,hb7⟩;have BB:=Lib.hid (BB.out.go hb7))
    | (go_at_call 133;(with_reducible refine(MN.out _).mono ?_);rintro e w8 ⟨rfl,hb8⟩;have BB:=Lib.hid (BB.out.go hb8))
    | (go_at_call 132;(with_reducible refine(AD.out _).mono ?_);rintro e w9 ⟨rfl,hb9⟩;have BB:=Lib.hid (BB.out.go hb9);have hs:=BB.out.now.2.1;have v0:=hs.cell;have v1:=hs.cell1;have v2:=hs.cell2;have g0:=hs.free;have g1:=hs.free1;have g2:=hs.free2;have HS:=hs.set (.bool x1) (.string x2) (.string x3);have z0:=BB.out.now.2.2.2.1.set3o he.1 (.bool x1) (.string x2) (.string x3);have z1:=BB.out.now.2.2.1.set3o he.2.1 (.bool x1) (.string x2) (.string x3);have z2:=BB.out.now.1.set3o he.2.2 (.bool x1) (.string x2) (.string x3);have HE:=Lib.hid (HF.out _ x1 x2 x3 BB.out.below HX.out.1 HX.out.2.1 HX.out.2.2)))
 go_wp2;exact bodyPost_ret (by simp[results,Tryz.results136,go_sem,HS]) rfl HE.out
theorem r3Rest_any (P : Int) (Q : Nat) (P' : Int) (Q' : Nat) (w : World) (hQ : 0 < Q) (hQ' : 0 < Q') (h1 : dl P.natAbs <= 60) (h2 : dl Q <= 60) (h3 : dl P'.natAbs <= 60) (h4 : dl Q' <= 60) :
    Calls Tryz.prog 136 #[.agg #[.bool (rB P),.string (rS P),.string (str (dec Q))],.agg #[.bool (rB P'),.string (rS P'),.string (str (dec Q'))]] w fun e w'=>NumTold w w' e (reP P Q P' Q') (reQ P Q P' Q'):=by
 unfold reP reQ
 by_cases hP:P=0
 · rw[if_pos hP,if_pos hP];subst hP;exact r3Rest_zero Q P' Q' w h2 h3 h4
 · rw[if_neg hP,if_neg hP];exact r3Rest_some P Q P' Q' w hQ hQ' hP h1 h2 h3 h4
end Go.Proofs.YtdmmenaejkpnjaaGreatDoor
