/-
  Texts of this seat, laid together.
-/
import Derived.Deep.Strs
import Derived.ProofKit
import Derived.OpenShut
import Derived.Test.YtdmmenaejkpnjaaGreatDoorV13
set_option maxHeartbeats 12800000
set_option maxRecDepth 100000
set_option linter.unusedSimpArgs false
set_option linter.unusedVariables false
namespace Go.Proofs.YtdmmenaejkpnjaaGreatDoor
open Go.RowKit
attribute [local go_sem ↓] Go.wp_at_zero Go.wp_at_succ
set_option linter.unusedVariables false
set_option linter.unusedSimpArgs false
theorem rk_add (P : Int) (Q : Nat) (P' : Int) (Q' : Nat) (l : Int) (w : World) (hQ : 0 < Q) (hQ' : 0 < Q') (hm : 1 <= l /\ l <= 16) (d1 : dl P.natAbs <= 40) (d2 : dl Q <= 40) (d3 : dl P'.natAbs <= 40) (d4 : dl Q' <= 40) :
    Calls Tryz.prog 69 #[.int .i32 43,.agg #[.bool (rB P),.string (rS P),.string (str (dec Q))],.agg #[.bool (rB P'),.string (rS P'),.string (str (dec Q'))],.int .i64 l] w fun e w'=>NumTold4 w w' e (plP P Q P' Q') (plQ P Q P' Q') 0:=by
 have CA:=Lib.hid (fun wz=>r3Add_any P Q P' Q' wz hQ hQ' (by omega) (by omega) (by omega) (by omega));unfold NumTold at CA;have HF:=Lib.hid (fun w2 (hb:Below w.heap.size w w2)=>NumTold4.done (k:=w.heap.size+1+1) (plP P Q P' Q') (plQ P Q P' Q') 0 hb (by omega) rfl rfl rfl);generalize plP P Q P' Q'=X at *;generalize plQ P Q P' Q'=Y at *;generalize rB X=wb at *;generalize rS X=ws at *;generalize str (dec Y)=wq at *;generalize rB P=ba at *;generalize rS P=sa at *;generalize str (dec Q)=qa at *;generalize rB P'=bb at *;generalize rS P'=sb at *;generalize str (dec Q')=qb at *;clear hQ hQ' d1 d2 d3 d4 hm;have BB:=bagN w ba sa qa bb sb qb;have⟨q00,q01,q02,q10,q11,q12⟩:=bq0 BB;go_enter Tryz.func69,Tryz.ntmps69;go_wp2_with fail;go_at_call 132;refine(CA.out _).mono ?_;rintro e w1 ⟨rfl,hb1⟩;have BB:=bgo BB hb1;clear hb1;clear q00 q01 q02 q10 q11 q12;have⟨q00,q01,q02,q10,q11,q12⟩:=bq0 BB;have hs:=BB.out.now.1;have⟨u0,u1,u2,g0,g1,g2⟩:=hs.s6;have HS:=hs.set (.bool wb) (.string ws) (.string wq);have HE:=Lib.hid (HF.out _ BB.out.below);clear hs;go_wp2;exact bodyPost_ret (by simp[results,Tryz.results69,go_sem,HS]) rfl HE.out
theorem rk_mul (P : Int) (Q : Nat) (P' : Int) (Q' : Nat) (l : Int) (w : World) (hQ : 0 < Q) (hQ' : 0 < Q') (hm : 1 <= l /\ l <= 16) (d1 : dl P.natAbs <= 40) (d2 : dl Q <= 40) (d3 : dl P'.natAbs <= 40) (d4 : dl Q' <= 40) :
    Calls Tryz.prog 69 #[.int .i32 215,.agg #[.bool (rB P),.string (rS P),.string (str (dec Q))],.agg #[.bool (rB P'),.string (rS P'),.string (str (dec Q'))],.int .i64 l] w fun e w'=>NumTold4 w w' e (tmP P Q P' Q') (tmQ P Q P' Q') 0:=by
 have CA:=Lib.hid (fun wz=>r3Mul_any P Q P' Q' wz hQ hQ' (by omega) (by omega) (by omega) (by omega));unfold NumTold at CA;have HF:=Lib.hid (fun w2 (hb:Below w.heap.size w w2)=>NumTold4.done (k:=w.heap.size+1+1) (tmP P Q P' Q') (tmQ P Q P' Q') 0 hb (by omega) rfl rfl rfl);generalize tmP P Q P' Q'=X at *;generalize tmQ P Q P' Q'=Y at *;generalize rB X=wb at *;generalize rS X=ws at *;generalize str (dec Y)=wq at *;generalize rB P=ba at *;generalize rS P=sa at *;generalize str (dec Q)=qa at *;generalize rB P'=bb at *;generalize rS P'=sb at *;generalize str (dec Q')=qb at *;clear hQ hQ' d1 d2 d3 d4 hm;have BB:=bagN w ba sa qa bb sb qb;have⟨q00,q01,q02,q10,q11,q12⟩:=bq0 BB;go_enter Tryz.func69,Tryz.ntmps69;go_wp2_with fail;go_at_call 134;refine(CA.out _).mono ?_;rintro e w1 ⟨rfl,hb1⟩;have BB:=bgo BB hb1;clear hb1;clear q00 q01 q02 q10 q11 q12;have⟨q00,q01,q02,q10,q11,q12⟩:=bq0 BB;have hs:=BB.out.now.1;have⟨u0,u1,u2,g0,g1,g2⟩:=hs.s6;have HS:=hs.set (.bool wb) (.string ws) (.string wq);have HE:=Lib.hid (HF.out _ BB.out.below);clear hs;go_wp2;exact bodyPost_ret (by simp[results,Tryz.results69,go_sem,HS]) rfl HE.out
theorem rk_rest (P : Int) (Q : Nat) (P' : Int) (Q' : Nat) (l : Int) (w : World) (hQ : 0 < Q) (hQ' : 0 < Q') (hm : 1 <= l /\ l <= 16) (d1 : dl P.natAbs <= 40) (d2 : dl Q <= 40) (d3 : dl P'.natAbs <= 40) (d4 : dl Q' <= 40) :
    Calls Tryz.prog 69 #[.int .i32 124,.agg #[.bool (rB P),.string (rS P),.string (str (dec Q))],.agg #[.bool (rB P'),.string (rS P'),.string (str (dec Q'))],.int .i64 l] w fun e w'=>NumTold4 w w' e (reP P Q P' Q') (reQ P Q P' Q') 0:=by
 have CM:=Lib.hid (fun wz=>r3Cmp_any P Q P' Q' wz (by omega) (by omega) (by omega) (by omega));obtain⟨cz,hcz⟩:∃z,cmpZ (P*Q') (P'*Q)=z:=⟨_,rfl⟩
 rw[hcz]at CM;obtain⟨lt,hlt⟩:∃b,decide (cz<0)=b:=⟨_,rfl⟩
 clear hcz;have CA:=Lib.hid (fun wz=>r3Rest_any P Q P' Q' wz hQ hQ' (by omega) (by omega) (by omega) (by omega));unfold NumTold at CA;have HF:=Lib.hid (fun w2 (hb:Below w.heap.size w w2)=>NumTold4.done (k:=w.heap.size+1+1) (reP P Q P' Q') (reQ P Q P' Q') 0 hb (by omega) rfl rfl rfl);generalize reP P Q P' Q'=X at *;generalize reQ P Q P' Q'=Y at *;generalize rB X=wb at *;generalize rS X=ws at *;generalize str (dec Y)=wq at *;generalize rB P=ba at *;generalize rS P=sa at *;generalize str (dec Q)=qa at *;generalize rB P'=bb at *;generalize rS P'=sb at *;generalize str (dec Q')=qb at *;clear hQ hQ' d1 d2 d3 d4 hm;have BB:=bagN w ba sa qa bb sb qb;have⟨q00,q01,q02,q10,q11,q12⟩:=bq0 BB;go_enter Tryz.func69,Tryz.ntmps69;go_wp2_with fail;go_at_call 67;refine(CM.out _).mono ?_;rintro e w1 ⟨rfl,hb1⟩;have BB:=bgo BB hb1;clear hb1;clear q00 q01 q02 q10 q11 q12;have⟨q00,q01,q02,q10,q11,q12⟩:=bq0 BB;go_wp2_with fail;go_at_call 136;refine(CA.out _).mono ?_;rintro e w2 ⟨rfl,hb2⟩;have BB:=bgo BB hb2;clear hb2;clear q00 q01 q02 q10 q11 q12;have⟨q00,q01,q02,q10,q11,q12⟩:=bq0 BB;have hs:=BB.out.now.1;have⟨u0,u1,u2,g0,g1,g2⟩:=hs.s6;have HS:=hs.set (.bool wb) (.string ws) (.string wq);have HE:=Lib.hid (HF.out _ BB.out.below);clear hs;go_wp2;exact bodyPost_ret (by simp[results,Tryz.results69,go_sem,HS]) rfl HE.out
theorem rk_div (P : Int) (Q : Nat) (P' : Int) (Q' : Nat) (l : Int) (w : World) (hQ : 0 < Q) (hQ' : 0 < Q') (hm : 1 <= l /\ l <= 16) (d1 : dl P.natAbs <= 40) (d2 : dl Q <= 40) (d3 : dl P'.natAbs <= 40) (d4 : dl Q' <= 40) (hP : P' ≠ 0) :
    Calls Tryz.prog 69 #[.int .i32 247,.agg #[.bool (rB P),.string (rS P),.string (str (dec Q))],.agg #[.bool (rB P'),.string (rS P'),.string (str (dec Q'))],.int .i64 l] w fun e w'=>NumTold4 w w' e (nwP (P*Q') (P'*Q)) (nwQ (P*Q') (P'*Q)) 0:=by
 have CA:=Lib.hid (fun wz=>r3Div_some P Q P' Q' wz hQ hP (by omega) (by omega) (by omega) (by omega));unfold NumTold3 at CA;have HF:=Lib.hid (fun w2 (hb:Below w.heap.size w w2)=>NumTold4.done (k:=w.heap.size+1+1) (nwP (P*Q') (P'*Q)) (nwQ (P*Q') (P'*Q)) 0 hb (by omega) rfl rfl rfl);have dB:((rS P').toList == [48])=decide (P'.natAbs=0):=dec_is0' P'.natAbs;rw[decide_eq_false (by omega)]at dB;generalize nwP (P*Q') (P'*Q)=X at *;generalize nwQ (P*Q') (P'*Q)=Y at *;generalize rB X=wb at *;generalize rS X=ws at *;generalize str (dec Y)=wq at *;generalize rB P=ba at *;generalize rS P=sa at *;generalize str (dec Q)=qa at *;generalize rB P'=bb at *;generalize rS P'=sb at *;generalize str (dec Q')=qb at *;clear hQ hQ' d1 d2 d3 d4 hm hP;have BB:=bagN w ba sa qa bb sb qb;have⟨q00,q01,q02,q10,q11,q12⟩:=bq0 BB;go_enter Tryz.func69,Tryz.ntmps69;go_wp2_with fail;go_at_call 135;refine(CA.out _).mono ?_;rintro e w1 ⟨rfl,hb1⟩;have BB:=Lib.hid ((BB.out.go hb1).box3 (.bool wb) (.string ws) (.string wq) 46);clear hb1;clear q00 q01 q02 q10 q11 q12;have⟨q00,q01,q02,q10,q11,q12⟩:=bq1 BB;clear q00 q01 q02 q10 q11 q12;have⟨q00,q01,q02,q10,q11,q12⟩:=bq1 BB;have⟨q20,q21,q22⟩:=BB.out.now.1.c3;have hs:=BB.out.now.2.1;have⟨u0,u1,u2,g0,g1,g2⟩:=hs.s6;have HS:=hs.set (.bool wb) (.string ws) (.string wq);have HE:=Lib.hid (HF.out _ BB.out.below);clear hs;go_wp2;exact bodyPost_ret (by simp[results,Tryz.results69,go_sem,HS]) rfl HE.out
theorem rk_sub (P : Int) (Q : Nat) (P' : Int) (Q' : Nat) (l : Int) (w : World) (hQ : 0 < Q) (hQ' : 0 < Q') (hm : 1 <= l /\ l <= 16) (d1 : dl P.natAbs <= 40) (d2 : dl Q <= 40) (d3 : dl P'.natAbs <= 40) (d4 : dl Q' <= 40) :
    Calls Tryz.prog 69 #[.int .i32 45,.agg #[.bool (rB P),.string (rS P),.string (str (dec Q))],.agg #[.bool (rB P'),.string (rS P'),.string (str (dec Q'))],.int .i64 l] w fun e w'=>NumTold4 w w' e (plP P Q (-P') Q') (plQ P Q (-P') Q') 0:=by
 have MN:=Lib.hid (fun wz=>r3Minus_any P' Q' wz);have AD:=Lib.hid (fun wz=>r3Add_any P Q (-P') Q' wz hQ hQ' (by omega) (by omega) (by rw[Int.natAbs_neg];omega) (by omega));unfold NumTold at MN AD;have HF:=Lib.hid (fun w2 (hb:Below w.heap.size w w2)=>NumTold4.done (k:=w.heap.size+1+1) (plP P Q (-P') Q') (plQ P Q (-P') Q') 0 hb (by omega) rfl rfl rfl);generalize plP P Q (-P') Q'=X at *;generalize plQ P Q (-P') Q'=Y at *;generalize rB X=wb at *;generalize rS X=ws at *;generalize str (dec Y)=wq at *;generalize rB (-P')=m1 at *;generalize rS (-P')=m2 at *;generalize rB P=ba at *;generalize rS P=sa at *;generalize str (dec Q)=qa at *;generalize rB P'=bb at *;generalize rS P'=sb at *;generalize str (dec Q')=qb at *;clear hQ hQ' d1 d2 d3 d4 hm;have BB:=bagN w ba sa qa bb sb qb;have⟨q00,q01,q02,q10,q11,q12⟩:=bq0 BB;go_enter Tryz.func69,Tryz.ntmps69;go_wp2_with fail;have he:w.heap.size≠w.heap.size+1+1/\w.heap.size+1≠w.heap.size+1+1:=by omega
 have BB:=Lib.hid BB.out.drew
 go_region_held3 (fun y => (y.cell? ⟨w.heap.size, 0, none⟩ = some (.bool ba) /\ y.cell? ⟨w.heap.size, 1, none⟩ = some (.string sa) /\ y.cell? ⟨w.heap.size, 2, none⟩ = some (.string qa)) /\ y.cell? ⟨w.heap.size + 1, 0, none⟩ = some (.bool bb) /\ y.cell? ⟨w.heap.size + 1, 1, none⟩ = some (.string sb) /\ y.cell? ⟨w.heap.size + 1, 2, none⟩ = some (.string qb))
  (first
    | (exact⟨⟨z0.cell,z0.cell1,z0.cell2⟩,z1.cell,z1.cell1,z1.cell2⟩)
    | (exact⟨⟨BB.out.now.2.2.1.cell,BB.out.now.2.2.1.cell1,BB.out.now.2.2.1.cell2⟩,BB.out.now.2.1.cell,BB.out.now.2.1.cell1,BB.out.now.2.1.cell2⟩))
  (first
    | (go_at_call 133;(with_reducible refine(MN.out _).mono ?_);rintro e w8 ⟨rfl,hb8⟩;have BB:=Lib.hid (BB.out.go hb8))
    | (go_at_call 132;(with_reducible refine(AD.out _).mono ?_);rintro e w9 ⟨rfl,hb9⟩;have BB:=Lib.hid (BB.out.go hb9);have hs:=BB.out.now.1;have v0:=hs.cell;have v1:=hs.cell1;have v2:=hs.cell2;have g0:=hs.free;have g1:=hs.free1;have g2:=hs.free2;have HS:=hs.set (.bool wb) (.string ws) (.string wq);have z0:=BB.out.now.2.2.1.set3o he.1 (.bool wb) (.string ws) (.string wq);have z1:=BB.out.now.2.1.set3o he.2 (.bool wb) (.string ws) (.string wq);have HE:=Lib.hid (HF.out _ BB.out.below)))
 go_wp2;exact bodyPost_ret (by simp[results,Tryz.results69,go_sem,HS]) rfl HE.out
theorem rk_none (P : Int) (Q : Nat) (P' : Int) (Q' : Nat) (l : Int) (w : World) (hQ : 0 < Q) (hQ' : 0 < Q') (hm : 1 <= l /\ l <= 16) (d1 : dl P.natAbs <= 40) (d2 : dl Q <= 40) (d3 : dl P'.natAbs <= 40) (d4 : dl Q' <= 40) (h1 : P' = 0) (h2 : P = 0) :
    Calls Tryz.prog 69 #[.int .i32 247,.agg #[.bool (rB P),.string (rS P),.string (str (dec Q))],.agg #[.bool (rB P'),.string (rS P'),.string (str (dec Q'))],.int .i64 l] w fun e w'=>NumTold4 w w' e 1 1 0:=by
 have FR:=Lib.hid (fun wz=>r3From_any 1 wz (by omega));unfold NumTold at FR;have HF:=Lib.hid (fun w2 (hb:Below w.heap.size w w2)=>NumTold4.done (k:=w.heap.size+1+1) 1 1 0 hb (by omega) rfl rfl rfl);have dB:((rS P').toList == [48])=decide (P'.natAbs=0):=dec_is0' P'.natAbs;have dA:((rS P).toList == [48])=decide (P.natAbs=0):=dec_is0' P.natAbs;rw[decide_eq_true (by omega)]at dB dA;generalize rB 1=wb at *;generalize rS 1=ws at *;have dq:=dec1;rw[dq]at FR HF;clear dq;generalize rB P=ba at *;generalize rS P=sa at *;generalize str (dec Q)=qa at *;generalize rB P'=bb at *;generalize rS P'=sb at *;generalize str (dec Q')=qb at *;clear hQ hQ' d1 d2 d3 d4 hm h1 h2;have BB:=bagN w ba sa qa bb sb qb;have⟨q00,q01,q02,q10,q11,q12⟩:=bq0 BB;go_enter Tryz.func69,Tryz.ntmps69;go_wp2_with fail;go_at_call 57;refine(FR.out _).mono ?_;rintro e w1 ⟨rfl,hb1⟩;have BB:=bgo BB hb1;clear hb1;clear q00 q01 q02 q10 q11 q12;have⟨q00,q01,q02,q10,q11,q12⟩:=bq0 BB;have hs:=BB.out.now.1;have⟨u0,u1,u2,g0,g1,g2⟩:=hs.s6;have HS:=hs.set (.bool wb) (.string ws) (.string ⟨#[49]⟩);have HE:=Lib.hid (HF.out _ BB.out.below);clear hs;go_wp2;exact bodyPost_ret (by simp[results,Tryz.results69,go_sem,HS]) rfl HE.out
theorem rk_nought (P : Int) (Q : Nat) (P' : Int) (Q' : Nat) (l : Int) (w : World) (hQ : 0 < Q) (hQ' : 0 < Q') (hm : 1 <= l /\ l <= 16) (d1 : dl P.natAbs <= 40) (d2 : dl Q <= 40) (d3 : dl P'.natAbs <= 40) (d4 : dl Q' <= 40) (h1 : P' = 0) (h2 : P ≠ 0) :
    Calls Tryz.prog 69 #[.int .i32 247,.agg #[.bool (rB P),.string (rS P),.string (str (dec Q))],.agg #[.bool (rB P'),.string (rS P'),.string (str (dec Q'))],.int .i64 l] w fun e w'=>NumTold4 w w' e 0 1 22:=by
 have HF:=hfz w 22;have ZE:=zen;have dB:((rS P').toList == [48])=decide (P'.natAbs=0):=dec_is0' P'.natAbs;have dA:((rS P).toList == [48])=decide (P.natAbs=0):=dec_is0' P.natAbs;rw[decide_eq_true (by omega)]at dB;rw[decide_eq_false (by omega)]at dA;have CM:=Lib.hid (fun wz=>r3Cmp_any P Q P' Q' wz (by omega) (by omega) (by omega) (by omega));obtain⟨cz,hcz⟩:∃z,cmpZ (P*Q') (P'*Q)=z:=⟨_,rfl⟩
 rw[hcz]at CM;obtain⟨lt,hlt⟩:∃b,decide (cz<0)=b:=⟨_,rfl⟩
 clear hcz;generalize rB P=ba at *;generalize rS P=sa at *;generalize str (dec Q)=qa at *;generalize rB P'=bb at *;generalize rS P'=sb at *;generalize str (dec Q')=qb at *;clear hQ hQ' d1 d2 d3 d4 hm h1 h2;have BB:=bagN w ba sa qa bb sb qb;have⟨q00,q01,q02,q10,q11,q12⟩:=bq0 BB;go_enter Tryz.func69,Tryz.ntmps69;go_wp2_with fail;go_at_call 67;refine(CM.out _).mono ?_;rintro e w1 ⟨rfl,hb1⟩;have BB:=bgo BB hb1;clear hb1;clear q00 q01 q02 q10 q11 q12;have⟨q00,q01,q02,q10,q11,q12⟩:=bq0 BB;go_wp2_with fail;go_at_call 64;refine(ZE.out _).mono ?_;rintro e w2 ⟨rfl,hb2⟩;have BB:=bgo BB hb2;clear hb2;clear q00 q01 q02 q10 q11 q12;have⟨q00,q01,q02,q10,q11,q12⟩:=bq0 BB;have hs:=BB.out.now.1;have⟨u0,u1,u2,g0,g1,g2⟩:=hs.s6;have HS:=hs.set (.bool false) (.string ⟨#[48]⟩) (.string ⟨#[49]⟩);have HE:=Lib.hid (HF.out _ BB.out.below);clear hs;go_wp2;exact bodyPost_ret (by simp[results,Tryz.results69,go_sem,HS]) rfl HE.out
theorem rk_9055 (P : Int) (Q : Nat) (P' : Int) (Q' : Nat) (l : Int) (w : World) (hQ : 0 < Q) (hQ' : 0 < Q') (hm : 1 <= l /\ l <= 16) (d1 : dl P.natAbs <= 40) (d2 : dl Q <= 40) (d3 : dl P'.natAbs <= 40) (d4 : dl Q' <= 40) :
    Calls Tryz.prog 69 #[.int .i32 9055,.agg #[.bool (rB P),.string (rS P),.string (str (dec Q))],.agg #[.bool (rB P'),.string (rS P'),.string (str (dec Q'))],.int .i64 l] w fun e w'=>NumTold4 w w' e 0 1 22:=by
 have HF:=hfz w 22;have ZE:=zen;have CM:=Lib.hid (fun wz=>r3Cmp_any P Q P' Q' wz (by omega) (by omega) (by omega) (by omega));obtain⟨cz,hcz⟩:∃z,cmpZ (P*Q') (P'*Q)=z:=⟨_,rfl⟩
 rw[hcz]at CM;obtain⟨lt,hlt⟩:∃b,decide (cz<0)=b:=⟨_,rfl⟩
 clear hcz;generalize rB P=ba at *;generalize rS P=sa at *;generalize str (dec Q)=qa at *;generalize rB P'=bb at *;generalize rS P'=sb at *;generalize str (dec Q')=qb at *;clear hQ hQ' d1 d2 d3 d4 hm;have BB:=bagN w ba sa qa bb sb qb;have⟨q00,q01,q02,q10,q11,q12⟩:=bq0 BB;go_enter Tryz.func69,Tryz.ntmps69;go_wp2_with fail;go_at_call 67;refine(CM.out _).mono ?_;rintro e w1 ⟨rfl,hb1⟩;have BB:=bgo BB hb1;clear hb1;clear q00 q01 q02 q10 q11 q12;have⟨q00,q01,q02,q10,q11,q12⟩:=bq0 BB;go_wp2_with fail;go_at_call 64;refine(ZE.out _).mono ?_;rintro e w2 ⟨rfl,hb2⟩;have BB:=bgo BB hb2;clear hb2;clear q00 q01 q02 q10 q11 q12;have⟨q00,q01,q02,q10,q11,q12⟩:=bq0 BB;have hs:=BB.out.now.1;have⟨u0,u1,u2,g0,g1,g2⟩:=hs.s6;have HS:=hs.set (.bool false) (.string ⟨#[48]⟩) (.string ⟨#[49]⟩);have HE:=Lib.hid (HF.out _ BB.out.below);clear hs;go_wp2;exact bodyPost_ret (by simp[results,Tryz.results69,go_sem,HS]) rfl HE.out
theorem rk_9675 (P : Int) (Q : Nat) (P' : Int) (Q' : Nat) (l : Int) (w : World) (hQ : 0 < Q) (hQ' : 0 < Q') (hm : 1 <= l /\ l <= 16) (d1 : dl P.natAbs <= 40) (d2 : dl Q <= 40) (d3 : dl P'.natAbs <= 40) (d4 : dl Q' <= 40) :
    Calls Tryz.prog 69 #[.int .i32 9675,.agg #[.bool (rB P),.string (rS P),.string (str (dec Q))],.agg #[.bool (rB P'),.string (rS P'),.string (str (dec Q'))],.int .i64 l] w fun e w'=>NumTold4 w w' e 0 1 22:=by
 have HF:=hfz w 22;have ZE:=zen;have CM:=Lib.hid (fun wz=>r3Cmp_any P Q P' Q' wz (by omega) (by omega) (by omega) (by omega));obtain⟨cz,hcz⟩:∃z,cmpZ (P*Q') (P'*Q)=z:=⟨_,rfl⟩
 rw[hcz]at CM;obtain⟨lt,hlt⟩:∃b,decide (cz<0)=b:=⟨_,rfl⟩
 clear hcz;generalize rB P=ba at *;generalize rS P=sa at *;generalize str (dec Q)=qa at *;generalize rB P'=bb at *;generalize rS P'=sb at *;generalize str (dec Q')=qb at *;clear hQ hQ' d1 d2 d3 d4 hm;have BB:=bagN w ba sa qa bb sb qb;have⟨q00,q01,q02,q10,q11,q12⟩:=bq0 BB;go_enter Tryz.func69,Tryz.ntmps69;go_wp2_with fail;go_at_call 67;refine(CM.out _).mono ?_;rintro e w1 ⟨rfl,hb1⟩;have BB:=bgo BB hb1;clear hb1;clear q00 q01 q02 q10 q11 q12;have⟨q00,q01,q02,q10,q11,q12⟩:=bq0 BB;go_wp2_with fail;go_at_call 64;refine(ZE.out _).mono ?_;rintro e w2 ⟨rfl,hb2⟩;have BB:=bgo BB hb2;clear hb2;clear q00 q01 q02 q10 q11 q12;have⟨q00,q01,q02,q10,q11,q12⟩:=bq0 BB;have hs:=BB.out.now.1;have⟨u0,u1,u2,g0,g1,g2⟩:=hs.s6;have HS:=hs.set (.bool false) (.string ⟨#[48]⟩) (.string ⟨#[49]⟩);have HE:=Lib.hid (HF.out _ BB.out.below);clear hs;go_wp2;exact bodyPost_ret (by simp[results,Tryz.results69,go_sem,HS]) rfl HE.out
theorem rk_max_b (P : Int) (Q : Nat) (P' : Int) (Q' : Nat) (l : Int) (w : World) (hQ : 0 < Q) (hQ' : 0 < Q') (hm : 1 <= l /\ l <= 16) (d1 : dl P.natAbs <= 40) (d2 : dl Q <= 40) (d3 : dl P'.natAbs <= 40) (d4 : dl Q' <= 40) (hlt : decide (cmpZ (P * Q') (P' * Q) < 0) = true) :
    Calls Tryz.prog 69 #[.int .i32 8968,.agg #[.bool (rB P),.string (rS P),.string (str (dec Q))],.agg #[.bool (rB P'),.string (rS P'),.string (str (dec Q'))],.int .i64 l] w fun e w'=>NumTold4 w w' e P' Q' 0:=by
 have HF:=Lib.hid (fun w2 (hb:Below w.heap.size w w2)=>NumTold4.done (k:=w.heap.size+1+1) (P') (Q') 0 hb (by omega) rfl rfl rfl);have CM:=Lib.hid (fun wz=>r3Cmp_any P Q P' Q' wz (by omega) (by omega) (by omega) (by omega));obtain⟨cz,hcz⟩:∃z,cmpZ (P*Q') (P'*Q)=z:=⟨_,rfl⟩
 rw[hcz]at CM;have lt:decide (cz<0)=true:=by rw[← hcz];exact hlt
 clear hcz hlt;generalize rB P=ba at *;generalize rS P=sa at *;generalize str (dec Q)=qa at *;generalize rB P'=bb at *;generalize rS P'=sb at *;generalize str (dec Q')=qb at *;clear hQ hQ' d1 d2 d3 d4 hm;have BB:=bagN w ba sa qa bb sb qb;have⟨q00,q01,q02,q10,q11,q12⟩:=bq0 BB;go_enter Tryz.func69,Tryz.ntmps69;go_wp2_with fail;go_at_call 67;refine(CM.out _).mono ?_;rintro e w1 ⟨rfl,hb1⟩;have BB:=bgo BB hb1;clear hb1;clear q00 q01 q02 q10 q11 q12;have⟨q00,q01,q02,q10,q11,q12⟩:=bq0 BB;have hs:=BB.out.now.1;have⟨u0,u1,u2,g0,g1,g2⟩:=hs.s6;have HS:=hs.set (.bool bb) (.string sb) (.string qb);have HE:=Lib.hid (HF.out _ BB.out.below);clear hs;go_wp2;exact bodyPost_ret (by simp[results,Tryz.results69,go_sem,HS]) rfl HE.out
theorem rk_max_a (P : Int) (Q : Nat) (P' : Int) (Q' : Nat) (l : Int) (w : World) (hQ : 0 < Q) (hQ' : 0 < Q') (hm : 1 <= l /\ l <= 16) (d1 : dl P.natAbs <= 40) (d2 : dl Q <= 40) (d3 : dl P'.natAbs <= 40) (d4 : dl Q' <= 40) (hlt : decide (cmpZ (P * Q') (P' * Q) < 0) = false) :
    Calls Tryz.prog 69 #[.int .i32 8968,.agg #[.bool (rB P),.string (rS P),.string (str (dec Q))],.agg #[.bool (rB P'),.string (rS P'),.string (str (dec Q'))],.int .i64 l] w fun e w'=>NumTold4 w w' e P Q 0:=by
 have HF:=Lib.hid (fun w2 (hb:Below w.heap.size w w2)=>NumTold4.done (k:=w.heap.size+1+1) (P) (Q) 0 hb (by omega) rfl rfl rfl);have CM:=Lib.hid (fun wz=>r3Cmp_any P Q P' Q' wz (by omega) (by omega) (by omega) (by omega));obtain⟨cz,hcz⟩:∃z,cmpZ (P*Q') (P'*Q)=z:=⟨_,rfl⟩
 rw[hcz]at CM;have lt:decide (cz<0)=false:=by rw[← hcz];exact hlt
 clear hcz hlt;generalize rB P=ba at *;generalize rS P=sa at *;generalize str (dec Q)=qa at *;generalize rB P'=bb at *;generalize rS P'=sb at *;generalize str (dec Q')=qb at *;clear hQ hQ' d1 d2 d3 d4 hm;have BB:=bagN w ba sa qa bb sb qb;have⟨q00,q01,q02,q10,q11,q12⟩:=bq0 BB;go_enter Tryz.func69,Tryz.ntmps69;go_wp2_with fail;go_at_call 67;refine(CM.out _).mono ?_;rintro e w1 ⟨rfl,hb1⟩;have BB:=bgo BB hb1;clear hb1;clear q00 q01 q02 q10 q11 q12;have⟨q00,q01,q02,q10,q11,q12⟩:=bq0 BB;have hs:=BB.out.now.1;have⟨u0,u1,u2,g0,g1,g2⟩:=hs.s6;have HS:=hs.set (.bool ba) (.string sa) (.string qa);have HE:=Lib.hid (HF.out _ BB.out.below);clear hs;go_wp2;exact bodyPost_ret (by simp[results,Tryz.results69,go_sem,HS]) rfl HE.out
theorem rk_min_a (P : Int) (Q : Nat) (P' : Int) (Q' : Nat) (l : Int) (w : World) (hQ : 0 < Q) (hQ' : 0 < Q') (hm : 1 <= l /\ l <= 16) (d1 : dl P.natAbs <= 40) (d2 : dl Q <= 40) (d3 : dl P'.natAbs <= 40) (d4 : dl Q' <= 40) (hlt : decide (cmpZ (P * Q') (P' * Q) < 0) = true) :
    Calls Tryz.prog 69 #[.int .i32 8970,.agg #[.bool (rB P),.string (rS P),.string (str (dec Q))],.agg #[.bool (rB P'),.string (rS P'),.string (str (dec Q'))],.int .i64 l] w fun e w'=>NumTold4 w w' e P Q 0:=by
 have HF:=Lib.hid (fun w2 (hb:Below w.heap.size w w2)=>NumTold4.done (k:=w.heap.size+1+1) (P) (Q) 0 hb (by omega) rfl rfl rfl);have CM:=Lib.hid (fun wz=>r3Cmp_any P Q P' Q' wz (by omega) (by omega) (by omega) (by omega));obtain⟨cz,hcz⟩:∃z,cmpZ (P*Q') (P'*Q)=z:=⟨_,rfl⟩
 rw[hcz]at CM;have lt:decide (cz<0)=true:=by rw[← hcz];exact hlt
 clear hcz hlt;generalize rB P=ba at *;generalize rS P=sa at *;generalize str (dec Q)=qa at *;generalize rB P'=bb at *;generalize rS P'=sb at *;generalize str (dec Q')=qb at *;clear hQ hQ' d1 d2 d3 d4 hm;have BB:=bagN w ba sa qa bb sb qb;have⟨q00,q01,q02,q10,q11,q12⟩:=bq0 BB;go_enter Tryz.func69,Tryz.ntmps69;go_wp2_with fail;go_at_call 67;refine(CM.out _).mono ?_;rintro e w1 ⟨rfl,hb1⟩;have BB:=bgo BB hb1;clear hb1;clear q00 q01 q02 q10 q11 q12;have⟨q00,q01,q02,q10,q11,q12⟩:=bq0 BB;have hs:=BB.out.now.1;have⟨u0,u1,u2,g0,g1,g2⟩:=hs.s6;have HS:=hs.set (.bool ba) (.string sa) (.string qa);have HE:=Lib.hid (HF.out _ BB.out.below);clear hs;go_wp2;exact bodyPost_ret (by simp[results,Tryz.results69,go_sem,HS]) rfl HE.out
theorem rk_min_b (P : Int) (Q : Nat) (P' : Int) (Q' : Nat) (l : Int) (w : World) (hQ : 0 < Q) (hQ' : 0 < Q') (hm : 1 <= l /\ l <= 16) (d1 : dl P.natAbs <= 40) (d2 : dl Q <= 40) (d3 : dl P'.natAbs <= 40) (d4 : dl Q' <= 40) (hlt : decide (cmpZ (P * Q') (P' * Q) < 0) = false) :
    Calls Tryz.prog 69 #[.int .i32 8970,.agg #[.bool (rB P),.string (rS P),.string (str (dec Q))],.agg #[.bool (rB P'),.string (rS P'),.string (str (dec Q'))],.int .i64 l] w fun e w'=>NumTold4 w w' e P' Q' 0:=by
 have HF:=Lib.hid (fun w2 (hb:Below w.heap.size w w2)=>NumTold4.done (k:=w.heap.size+1+1) (P') (Q') 0 hb (by omega) rfl rfl rfl);have CM:=Lib.hid (fun wz=>r3Cmp_any P Q P' Q' wz (by omega) (by omega) (by omega) (by omega));obtain⟨cz,hcz⟩:∃z,cmpZ (P*Q') (P'*Q)=z:=⟨_,rfl⟩
 rw[hcz]at CM;have lt:decide (cz<0)=false:=by rw[← hcz];exact hlt
 clear hcz hlt;generalize rB P=ba at *;generalize rS P=sa at *;generalize str (dec Q)=qa at *;generalize rB P'=bb at *;generalize rS P'=sb at *;generalize str (dec Q')=qb at *;clear hQ hQ' d1 d2 d3 d4 hm;have BB:=bagN w ba sa qa bb sb qb;have⟨q00,q01,q02,q10,q11,q12⟩:=bq0 BB;go_enter Tryz.func69,Tryz.ntmps69;go_wp2_with fail;go_at_call 67;refine(CM.out _).mono ?_;rintro e w1 ⟨rfl,hb1⟩;have BB:=bgo BB hb1;clear hb1;clear q00 q01 q02 q10 q11 q12;have⟨q00,q01,q02,q10,q11,q12⟩:=bq0 BB;have hs:=BB.out.now.1;have⟨u0,u1,u2,g0,g1,g2⟩:=hs.s6;have HS:=hs.set (.bool bb) (.string sb) (.string qb);have HE:=Lib.hid (HF.out _ BB.out.below);clear hs;go_wp2;exact bodyPost_ret (by simp[results,Tryz.results69,go_sem,HS]) rfl HE.out
theorem rk_pow (P : Int) (Q : Nat) (P' : Int) (Q' : Nat) (l : Int) (w : World) (hQ : 0 < Q) (hQ' : 0 < Q') (hm : 1 <= l /\ l <= 16) (d1 : dl P.natAbs <= 40) (d2 : dl Q <= 40) (d3 : dl P'.natAbs <= 40) (d4 : dl Q' <= 40) (hg : Nat.gcd P.natAbs Q = 1) :
    Calls Tryz.prog 69 #[.int .i32 42,.agg #[.bool (rB P),.string (rS P),.string (str (dec Q))],.agg #[.bool (rB P'),.string (rS P'),.string (str (dec Q'))],.int .i64 l] w fun e w'=>NumTold4 w w' e (powT P Q P' Q' l).1 (powT P Q P' Q' l).2.1 (powT P Q P' Q' l).2.2:=by
 have PW:=Lib.hid (fun wz=>rpower_any P Q P' Q' l wz hQ hg hm.2 d1 d2 d3);obtain⟨T,hT⟩:∃z,powT P Q P' Q' l=z:=⟨_,rfl⟩
 rw[hT]at PW ⊢;clear hT;unfold NumTold4 at PW;have HF:=Lib.hid (fun w2 (hb:Below w.heap.size w w2)=>NumTold4.done (k:=w.heap.size+1+1) T.1 T.2.1 T.2.2 hb (by omega) rfl rfl rfl);generalize rB T.1=wb at *;generalize rS T.1=ws at *;generalize str (dec T.2.1)=wq at *;generalize T.2.2=we at *;have CM:=Lib.hid (fun wz=>r3Cmp_any P Q P' Q' wz (by omega) (by omega) (by omega) (by omega));obtain⟨cz,hcz⟩:∃z,cmpZ (P*Q') (P'*Q)=z:=⟨_,rfl⟩
 rw[hcz]at CM;obtain⟨lt,hlt⟩:∃b,decide (cz<0)=b:=⟨_,rfl⟩
 clear hcz;generalize rB P=ba at *;generalize rS P=sa at *;generalize str (dec Q)=qa at *;generalize rB P'=bb at *;generalize rS P'=sb at *;generalize str (dec Q')=qb at *;clear hQ hQ' d1 d2 d3 d4 hm hg;have BB:=bagN w ba sa qa bb sb qb;have⟨q00,q01,q02,q10,q11,q12⟩:=bq0 BB;go_enter Tryz.func69,Tryz.ntmps69;go_wp2_with fail;go_at_call 67;refine(CM.out _).mono ?_;rintro e w1 ⟨rfl,hb1⟩;have BB:=bgo BB hb1;clear hb1;clear q00 q01 q02 q10 q11 q12;have⟨q00,q01,q02,q10,q11,q12⟩:=bq0 BB;go_wp2_with fail;go_at_call 137;refine(PW.out _).mono ?_;rintro e w2 ⟨rfl,hb2⟩;have BB:=bgo BB hb2;clear hb2;clear q00 q01 q02 q10 q11 q12;have⟨q00,q01,q02,q10,q11,q12⟩:=bq0 BB;have hs:=BB.out.now.1;have⟨u0,u1,u2,g0,g1,g2⟩:=hs.s6;have HS:=hs.set (.bool wb) (.string ws) (.string wq);have HE:=Lib.hid (HF.out _ BB.out.below);clear hs;go_wp2;exact bodyPost_ret (by simp[results,Tryz.results69,go_sem,HS]) rfl HE.out
theorem rk_ways (P : Int) (Q : Nat) (P' : Int) (Q' : Nat) (l : Int) (w : World) (hQ : 0 < Q) (hQ' : 0 < Q') (hm : 1 <= l /\ l <= 16) (d1 : dl P.natAbs <= 40) (d2 : dl Q <= 40) (d3 : dl P'.natAbs <= 40) (d4 : dl Q' <= 40) (hg : Nat.gcd P.natAbs Q = 1) :
    Calls Tryz.prog 69 #[.int .i32 33,.agg #[.bool (rB P),.string (rS P),.string (str (dec Q))],.agg #[.bool (rB P'),.string (rS P'),.string (str (dec Q'))],.int .i64 l] w fun e w'=>NumTold4 w w' e (waysT P Q P' Q' l).1 (waysT P Q P' Q' l).2.1 (waysT P Q P' Q' l).2.2:=by
 have PW:=Lib.hid (fun wz=>rways_any P Q P' Q' l wz hm d1 d3);obtain⟨T,hT⟩:∃z,waysT P Q P' Q' l=z:=⟨_,rfl⟩
 rw[hT]at PW ⊢;clear hT;unfold NumTold4 at PW;have HF:=Lib.hid (fun w2 (hb:Below w.heap.size w w2)=>NumTold4.done (k:=w.heap.size+1+1) T.1 T.2.1 T.2.2 hb (by omega) rfl rfl rfl);generalize rB T.1=wb at *;generalize rS T.1=ws at *;generalize str (dec T.2.1)=wq at *;generalize T.2.2=we at *;have CM:=Lib.hid (fun wz=>r3Cmp_any P Q P' Q' wz (by omega) (by omega) (by omega) (by omega));obtain⟨cz,hcz⟩:∃z,cmpZ (P*Q') (P'*Q)=z:=⟨_,rfl⟩
 rw[hcz]at CM;obtain⟨lt,hlt⟩:∃b,decide (cz<0)=b:=⟨_,rfl⟩
 clear hcz;generalize rB P=ba at *;generalize rS P=sa at *;generalize str (dec Q)=qa at *;generalize rB P'=bb at *;generalize rS P'=sb at *;generalize str (dec Q')=qb at *;clear hQ hQ' d1 d2 d3 d4 hm hg;have BB:=bagN w ba sa qa bb sb qb;have⟨q00,q01,q02,q10,q11,q12⟩:=bq0 BB;go_enter Tryz.func69,Tryz.ntmps69;go_wp2_with fail;go_at_call 67;refine(CM.out _).mono ?_;rintro e w1 ⟨rfl,hb1⟩;have BB:=bgo BB hb1;clear hb1;clear q00 q01 q02 q10 q11 q12;have⟨q00,q01,q02,q10,q11,q12⟩:=bq0 BB;go_wp2_with fail;go_at_call 138;refine(PW.out _).mono ?_;rintro e w2 ⟨rfl,hb2⟩;have BB:=bgo BB hb2;clear hb2;clear q00 q01 q02 q10 q11 q12;have⟨q00,q01,q02,q10,q11,q12⟩:=bq0 BB;have hs:=BB.out.now.1;have⟨u0,u1,u2,g0,g1,g2⟩:=hs.s6;have HS:=hs.set (.bool wb) (.string ws) (.string wq);have HE:=Lib.hid (HF.out _ BB.out.below);clear hs;go_wp2;exact bodyPost_ret (by simp[results,Tryz.results69,go_sem,HS]) rfl HE.out
theorem rreckoned_any (c : Int) (P : Int) (Q : Nat) (P' : Int) (Q' : Nat) (l : Int) (w : World) (hc : numK c = true) (hQ : 0 < Q) (hQ' : 0 < Q') (hg : Nat.gcd P.natAbs Q = 1) (hg' : Nat.gcd P'.natAbs Q' = 1) (hm : 1 <= l /\ l <= 16) (d1 : dl P.natAbs <= 40) (d2 : dl Q <= 40) (d3 : dl P'.natAbs <= 40) (d4 : dl Q' <= 40) :
    Calls Tryz.prog 69 #[.int .i32 c,.agg #[.bool (rB P),.string (rS P),.string (str (dec Q))],.agg #[.bool (rB P'),.string (rS P'),.string (str (dec Q'))],.int .i64 l] w fun e w'=>NumTold4 w w' e (numT c P Q P' Q' l).1 (numT c P Q P' Q' l).2.1 (numT c P Q P' Q' l).2.2:=by
 rcases of_decide_eq_true hc with rfl|rfl|rfl|rfl|rfl|rfl|rfl|rfl|rfl|rfl|rfl
 · exact rk_add P Q P' Q' l w hQ hQ' hm d1 d2 d3 d4
 · exact rk_sub P Q P' Q' l w hQ hQ' hm d1 d2 d3 d4
 · exact rk_mul P Q P' Q' l w hQ hQ' hm d1 d2 d3 d4
 · by_cases h1:P'=0
   · by_cases h2:P=0
     · rw[show numT 247 P Q P' Q' l=(1,1,0)by unfold numT;rw[if_neg (by decide),if_neg (by decide),if_neg (by decide),if_pos rfl,if_pos h1,if_pos h2]];exact rk_none P Q P' Q' l w hQ hQ' hm d1 d2 d3 d4 h1 h2
     · rw[show numT 247 P Q P' Q' l=(0,1,22)by unfold numT;rw[if_neg (by decide),if_neg (by decide),if_neg (by decide),if_pos rfl,if_pos h1,if_neg h2]];exact rk_nought P Q P' Q' l w hQ hQ' hm d1 d2 d3 d4 h1 h2
   · rw[show numT 247 P Q P' Q' l=(nwP (P*Q') (P'*Q),nwQ (P*Q') (P'*Q),0)by unfold numT;rw[if_neg (by decide),if_neg (by decide),if_neg (by decide),if_pos rfl,if_neg h1]];exact rk_div P Q P' Q' l w hQ hQ' hm d1 d2 d3 d4 h1
 · by_cases h:cmpZ (P*Q') (P'*Q)<0
   · rw[show numT 8968 P Q P' Q' l=(P',Q',0)by unfold numT;rw[if_neg (by decide),if_neg (by decide),if_neg (by decide),if_neg (by decide),if_pos rfl,if_pos h]];exact rk_max_b P Q P' Q' l w hQ hQ' hm d1 d2 d3 d4 (decide_eq_true h)
   · rw[show numT 8968 P Q P' Q' l=(P,Q,0)by unfold numT;rw[if_neg (by decide),if_neg (by decide),if_neg (by decide),if_neg (by decide),if_pos rfl,if_neg h]];exact rk_max_a P Q P' Q' l w hQ hQ' hm d1 d2 d3 d4 (decide_eq_false h)
 · by_cases h : cmpZ (P * Q') (P' * Q) < 0
   · rw[show numT 8970 P Q P' Q' l=(P,Q,0)by unfold numT;rw[if_neg (by decide),if_neg (by decide),if_neg (by decide),if_neg (by decide),if_neg (by decide),if_pos rfl,if_neg (by omega)]];exact rk_min_a P Q P' Q' l w hQ hQ' hm d1 d2 d3 d4 (decide_eq_true h)
   · rw[show numT 8970 P Q P' Q' l=(P',Q',0)by
       unfold numT;rw[if_neg (by decide),if_neg (by decide),if_neg (by decide),if_neg (by decide),if_neg (by decide),if_pos rfl]
       by_cases h0:0<cmpZ (P*Q') (P'*Q)
       · rw[if_pos h0]
       · rw[if_neg h0];have hz:P*Q'=P'*Q:=by unfold cmpZ at h h0;split at h<;>first|omega|(split at h<;>first|assumption|(rw[if_neg (by assumption),if_neg (by assumption)]at h0;omega))
         obtain⟨rfl,rfl⟩:=lo_uniq hQ hQ' hg hg' hz
         rfl]
     exact rk_min_b P Q P' Q' l w hQ hQ' hm d1 d2 d3 d4 (decide_eq_false h)
 · exact rk_rest P Q P' Q' l w hQ hQ' hm d1 d2 d3 d4
 · exact rk_pow P Q P' Q' l w hQ hQ' hm d1 d2 d3 d4 hg
 · exact rk_ways P Q P' Q' l w hQ hQ' hm d1 d2 d3 d4 hg
 · exact rk_9055 P Q P' Q' l w hQ hQ' hm d1 d2 d3 d4
 · exact rk_9675 P Q P' Q' l w hQ hQ' hm d1 d2 d3 d4
set_option linter.unusedVariables false
set_option linter.unusedSimpArgs false
theorem powN_l16(X:Nat)(n:Int){most:Int}(hm:most<=16):(powN X n most).1<4294967296^16:=by
 obtain⟨m0,hm0⟩:∃m:Nat,m=16:=⟨_,rfl⟩
 have hb:1<4294967296^m0:=Nat.one_lt_pow (by omega) (by omega);rw[← hm0];unfold powN
 split
 · exact hb
 · split
   · exact Nat.pow_pos (by omega)
   · split
     · rename_i h1 h2 h3
       have h4:lb (X^n.toNat)<=m0:=by omega
       rw[lb_le,Nat.pow_mul]at h4;exact h4
     · exact Nat.pow_pos (by omega)
theorem ra_l16(P:Int)(Q:Nat)(n:Int){most:Int}(hm:most<=16):(raP P Q n most).natAbs<4294967296^16/\raQ P Q n most<4294967296^16:=by
 unfold raP raQ
 by_cases h:raO P Q n most=true
 · rw[if_pos h,if_pos h,sgn_abs];exact⟨powN_l16 _ _ hm,powN_l16 _ _ hm⟩
 · rw[if_neg h,if_neg h];exact⟨Nat.pow_pos (by omega),Nat.one_lt_pow (by omega) (by omega)⟩
theorem po_l16(P:Int)(Q:Nat)(N:Int){most:Int}(hm:most<=16):(poP P Q N most).natAbs<4294967296^16/\poQ P Q N most<4294967296^16:=by
 unfold poP poQ
 by_cases h0:0<=N
 · rw[if_pos h0,if_pos h0];exact ra_l16 P Q N hm
 · rw[if_neg h0,if_neg h0]
   by_cases hP:P=0
   · rw[if_pos hP,if_pos hP];exact⟨Nat.pow_pos (by omega),Nat.one_lt_pow (by omega) (by omega)⟩
   · rw[if_neg hP,if_neg hP]
     by_cases hm2:N = -9223372036854775808
     · rw[if_pos hm2,if_pos hm2];exact ra_l16 _ _ _ hm
     · rw[if_neg hm2,if_neg hm2];exact ra_l16 _ _ _ hm
theorem dl_16{N:Nat}(h:N<4294967296^16):dl N<=300:=Nat.le_trans (dl_pow (N:=N) (m:=155) (Nat.lt_of_lt_of_le h (by decide +kernel))) (by omega)
theorem dl_1:dl 1<=300:=by decide +kernel
theorem pl_dl{P P':Int}{Q Q' k:Nat}(h1:dl (P.natAbs*Q')<=k)(h2:dl (P'.natAbs*Q)<=k)(h3:dl (Q*Q')<=k):dl (plP P Q P' Q').natAbs<=k+1/\dl (plQ P Q P' Q')<=k+1:=by
 refine⟨Nat.le_trans (lo_dl _ _).1 (Nat.le_trans (dl_mono (Int.natAbs_add_le _ _)) (dl_add_le (k:=k) ?_ ?_)),Nat.le_trans (lo_dl _ _).2 (by omega)⟩
 · rw[Int.natAbs_mul,Int.natAbs_natCast];exact h1
 · rw[Int.natAbs_mul,Int.natAbs_natCast];exact h2
theorem numT_dl(c:Int){P P':Int}{Q Q':Nat}{l:Int}(hl:l<=16)(d1:dl P.natAbs<=40)(d2:dl Q<=40)(d3:dl P'.natAbs<=40)(d4:dl Q'<=40):dl (numT c P Q P' Q' l).1.natAbs<=300/\dl (numT c P Q P' Q' l).2.1<=300:=by
 have o:dl 1<=300:=dl_1;have z:dl 0<=300:=by decide +kernel
 have one:∀e:Int,dl ((0,1,e):Ans).1.natAbs<=300/\dl ((0,1,e):Ans).2.1<=300:=fun e=>⟨z,o⟩
 have m1:∀ {x y:Nat},dl x<=40->dl y<=40->dl (x*y)<=80:=fun a b=>dl_mul_le a b
 have pl:∀ {X X':Int} {Y Y':Nat},dl X.natAbs<=40->dl Y<=40->dl X'.natAbs<=40->dl Y'<=40->dl (plP X Y X' Y').natAbs<=300/\dl (plQ X Y X' Y')<=300:=fun a b c d=>by
  have:=pl_dl (m1 a d) (m1 c b) (m1 b d);exact⟨Nat.le_trans this.1 (by omega),Nat.le_trans this.2 (by omega)⟩
 have e1:dl (P*(Q':Int)).natAbs<=80:=by rw[Int.natAbs_mul,Int.natAbs_natCast];exact m1 d1 d4
 have e2:dl (P'*(Q:Int)).natAbs<=80:=by rw[Int.natAbs_mul,Int.natAbs_natCast];exact m1 d3 d2
 unfold numT
 split
 · exact pl d1 d2 d3 d4
 split
 · exact pl d1 d2 (by rw[Int.natAbs_neg];exact d3) d4
 split
 · refine⟨Nat.le_trans (lo_dl _ _).1 ?_,Nat.le_trans (lo_dl _ _).2 (Nat.le_trans (m1 d2 d4) (by omega))⟩;rw[Int.natAbs_mul];exact Nat.le_trans (m1 d1 d3) (by omega)
 split
 · split
   · split
     · exact⟨o,o⟩
     · exact one _
   · have:=nw_dl (P*(Q':Int)) (P'*(Q:Int));exact⟨by show dl (nwP _ _).natAbs<=_;omega,by show dl (nwQ _ _)<=_;omega⟩
 split
 · split
   · exact⟨by show dl P'.natAbs<=_;omega,by show dl Q'<=_;omega⟩
   · exact⟨by show dl P.natAbs<=_;omega,by show dl Q<=_;omega⟩
 split
 · split
   · exact⟨by show dl P'.natAbs<=_;omega,by show dl Q'<=_;omega⟩
   · exact⟨by show dl P.natAbs<=_;omega,by show dl Q<=_;omega⟩
 split
 · show dl (reP P Q P' Q').natAbs <= 300 /\ dl (reQ P Q P' Q') <= 300
   unfold reP reQ
   split
   · exact⟨by omega,by omega⟩
   · have e3:=nw_dl (P'*(Q:Int)) (P*(Q':Int))
     have e4:dl (reF P Q P' Q').natAbs<=81:=by
      have:=flQ_abs (nwP (P'*Q) (P*Q')) (nwQ (P'*Q) (P*Q'));rw[show reF P Q P' Q'=flQ (nwP (P'*Q) (P*Q')) (nwQ (P'*Q) (P*Q'))from rfl];exact Nat.le_trans (dl_mono this) (dl_add_le (k:=80) (by omega) (by rw[dl_one];omega))
     have e5:dl (-(tmP P Q (reF P Q P' Q') 1)).natAbs<=121:=by
      rw[Int.natAbs_neg];exact Nat.le_trans (lo_dl _ _).1 (by rw[Int.natAbs_mul];exact dl_mul_le d1 e4)
     have e6:dl (tmQ P Q (reF P Q P' Q') 1)<=40:=Nat.le_trans (lo_dl _ _).2 (by rw[Nat.mul_one];exact d2);have:=pl_dl (P:=P') (Q:=Q') (P' := -(tmP P Q (reF P Q P' Q') 1)) (Q':=tmQ P Q (reF P Q P' Q') 1) (k:=161) (Nat.le_trans (dl_mul_le d3 e6) (by omega)) (Nat.le_trans (dl_mul_le e5 d4) (by omega)) (Nat.le_trans (dl_mul_le d4 e6) (by omega));exact⟨Nat.le_trans this.1 (by omega),Nat.le_trans this.2 (by omega)⟩
 split
 · unfold powT
   split
   · exact one _
   split
   · exact⟨o,o⟩
   split
   · rename_i hb
     obtain⟨_,hp⟩:=limB_cases hb;refine⟨?_,o⟩
     show dl (if P'%2=0 then P*P else P).natAbs<=300
     rcases hp with rfl|rfl|rfl<;>(split<;>first|exact z|exact o)
   split
   · exact one _
   split
   · exact⟨dl_16 (po_l16 P Q P' hl).1,dl_16 (po_l16 P Q P' hl).2⟩
   · exact one _
 split
 · unfold waysT
   split
   · exact one _
   split
   · exact one _
   split
   · rename_i hw
     refine⟨?_,o⟩
     show dl (((wy (P'.toNat-fewK P P') (fewK P P'):Nat):Int)).natAbs<=300
     rw[Int.natAbs_natCast];have:=wyF_iff.1 hw (fewK P P') (Nat.le_refl _);exact dl_16 (lbs_le32.1 (by omega))
   · exact one _
 · exact one _
theorem limbs13 (X : Int) (Y : Nat) (wz : World) (h1 : dl X.natAbs <= 300) (h2 : dl Y <= 300) :
    Calls Tryz.prog 70 #[.agg #[.bool (rB X),.string (rS X),.string (str (dec Y))]] wz fun e w'=>e=.returned (.int .i64 (limZ X Y))/\Below wz.heap.size wz w':=by
 have hb:∀ {N:Nat},dl N<=300->N<65536^70:=fun h=>Nat.lt_of_lt_of_le (dl_lt _) (Nat.le_trans (Nat.pow_le_pow_right (by omega) h) (by decide +kernel))
 have:=r3Limbs_any (rB X) X Y 70 wz (by omega) (by omega) (by omega) (hb h1) (hb h2)
 rw[show(((max ((nbits X.natAbs+31) / 32) ((nbits Y+31) / 32):Nat)):Int)=limZ X Y by
  show(((max (lbs X.natAbs) (lbs Y):Nat)):Int)=max (lbs X.natAbs:Int) (lbs Y:Int)
  omega]at this
 exact this
theorem rtwo_none (c0 : Int) (P : Int) (Q : Nat) (P' : Int) (Q' : Nat) (l : Int) (w : World) (hc : hasD c0 = false) :
    Calls Tryz.prog 18 #[.int .i32 c0,.agg #[.bool (rB P),.string (rS P),.string (str (dec Q))],.agg #[.bool (rB P'),.string (rS P'),.string (str (dec Q'))],.int .i64 l] w fun e w'=>NumTold4 w w' e 0 1 20:=by
 have HF:=hfz w 20;have ZE:=zen;have HH:=Lib.hid (fun wz=>rhas13_any c0 wz);rw[hc]at HH;generalize rB P=ba at *;generalize rS P=sa at *;generalize str (dec Q)=qa at *;generalize rB P'=bb at *;generalize rS P'=sb at *;generalize str (dec Q')=qb at *;clear hc;have BB:=bagN w ba sa qa bb sb qb;have⟨q00,q01,q02,q10,q11,q12⟩:=bq0 BB;go_enter Tryz.func18,Tryz.ntmps18;go_wp2_with fail;go_at_call 20;refine(HH.out _).mono ?_;rintro e w1 ⟨rfl,hb1⟩;have BB:=bgo BB hb1;clear hb1;clear q00 q01 q02 q10 q11 q12;have⟨q00,q01,q02,q10,q11,q12⟩:=bq0 BB;go_wp2_with fail;go_at_call 64;refine(ZE.out _).mono ?_;rintro e w2 ⟨rfl,hb2⟩;have BB:=bgo BB hb2;clear hb2;clear q00 q01 q02 q10 q11 q12;have⟨q00,q01,q02,q10,q11,q12⟩:=bq0 BB;have hs:=BB.out.now.1;have⟨u0,u1,u2,g0,g1,g2⟩:=hs.s6;have HS:=hs.set (.bool false) (.string ⟨#[48]⟩) (.string ⟨#[49]⟩);have HE:=Lib.hid (HF.out _ BB.out.below);clear hs;go_wp2;exact bodyPost_ret (by simp[results,Tryz.results18,go_sem,HS]) rfl HE.out
theorem rtwo_cmp (c0 : Int) (P : Int) (Q : Nat) (P' : Int) (Q' : Nat) (l : Int) (w : World) (hQ : 0 < Q) (hQ' : 0 < Q') (hg : Nat.gcd P.natAbs Q = 1) (hg' : Nat.gcd P'.natAbs Q' = 1) (hm : 1 <= l /\ l <= 16) (d1 : dl P.natAbs <= 40) (d2 : dl Q <= 40) (d3 : dl P'.natAbs <= 40) (d4 : dl Q' <= 40) (hc : cmpK c0 = true) :
    Calls Tryz.prog 18 #[.int .i32 c0,.agg #[.bool (rB P),.string (rS P),.string (str (dec Q))],.agg #[.bool (rB P'),.string (rS P'),.string (str (dec Q'))],.int .i64 l] w fun e w'=>NumTold4 w w' e (b1 (cmpB c0 (cmpZ (P*Q') (P'*Q)))) 1 0:=by
 have HH:=Lib.hid (fun wz=>rhas13_any c0 wz);have hh:hasD c0=true:=by unfold hasD;rw[hc];rfl
 rw[hh]at HH;clear hh;have CM:=Lib.hid (fun wz=>r3Cmp_any P Q P' Q' wz (by omega) (by omega) (by omega) (by omega));obtain⟨cz,hcz⟩:∃z,cmpZ (P*Q') (P'*Q)=z:=⟨_,rfl⟩
 rw[hcz]at CM ⊢;clear hcz;have CP:=Lib.hid (fun wz=>rcompare13_any c0 cz wz);obtain⟨cb,hcb⟩:∃z,cmpB c0 cz=z:=⟨_,rfl⟩
 rw[hcb]at CP ⊢;clear hcb;have TR:=Lib.hid (fun wz=>rtruth13_any cb wz);unfold NumTold at TR;have HF:=Lib.hid (fun w2 (hb:Below w.heap.size w w2)=>NumTold4.done (k:=w.heap.size+1+1) (b1 cb) 1 0 hb (by omega) rfl rfl rfl);generalize rB (b1 cb)=wb at *;generalize rS (b1 cb)=ws at *;have dq:=dec1;rw[dq]at TR HF;clear dq;generalize rB P=ba at *;generalize rS P=sa at *;generalize str (dec Q)=qa at *;generalize rB P'=bb at *;generalize rS P'=sb at *;generalize str (dec Q')=qb at *;clear hQ hQ' hg hg' d1 d2 d3 d4 hm
 rcases of_decide_eq_true hc with rfl|rfl|rfl|rfl|rfl|rfl
 all_goals
  clear hc;have BB:=bagN w ba sa qa bb sb qb;have⟨q00,q01,q02,q10,q11,q12⟩:=bq0 BB;go_enter Tryz.func18,Tryz.ntmps18;go_wp2_with fail;go_at_call 20;refine(HH.out _).mono ?_;rintro e w1 ⟨rfl,hb1⟩;have BB:=bgo BB hb1;clear hb1;clear q00 q01 q02 q10 q11 q12;have⟨q00,q01,q02,q10,q11,q12⟩:=bq0 BB;go_wp2_with fail;go_at_call 67;refine(CM.out _).mono ?_;rintro e w2 ⟨rfl,hb2⟩;have BB:=bgo BB hb2;clear hb2;clear q00 q01 q02 q10 q11 q12;have⟨q00,q01,q02,q10,q11,q12⟩:=bq0 BB;go_wp2_with fail;go_at_call 66;refine(CP.out _).mono ?_;rintro e w3 ⟨rfl,hb3⟩;have BB:=bgo BB hb3;clear hb3;clear q00 q01 q02 q10 q11 q12;have⟨q00,q01,q02,q10,q11,q12⟩:=bq0 BB;go_wp2_with fail;go_at_call 65;refine(TR.out _).mono ?_;rintro e w4 ⟨rfl,hb4⟩;have BB:=bgo BB hb4;clear hb4;clear q00 q01 q02 q10 q11 q12;have⟨q00,q01,q02,q10,q11,q12⟩:=bq0 BB;have hs:=BB.out.now.1;have⟨u0,u1,u2,g0,g1,g2⟩:=hs.s6;have HS:=hs.set (.bool wb) (.string ws) (.string ⟨#[49]⟩);have HE:=Lib.hid (HF.out _ BB.out.below);clear hs;go_wp2;exact bodyPost_ret (by simp[results,Tryz.results18,go_sem,HS]) rfl HE.out
theorem rtwo_log (c0 : Int) (P : Int) (Q : Nat) (P' : Int) (Q' : Nat) (l : Int) (w : World) (hQ : 0 < Q) (hQ' : 0 < Q') (hg : Nat.gcd P.natAbs Q = 1) (hg' : Nat.gcd P'.natAbs Q' = 1) (hm : 1 <= l /\ l <= 16) (d1 : dl P.natAbs <= 40) (d2 : dl Q <= 40) (d3 : dl P'.natAbs <= 40) (d4 : dl Q' <= 40) (hc : logK c0 = true) :
    Calls Tryz.prog 18 #[.int .i32 c0,.agg #[.bool (rB P),.string (rS P),.string (str (dec Q))],.agg #[.bool (rB P'),.string (rS P'),.string (str (dec Q'))],.int .i64 l] w fun e w'=>NumTold4 w w' e (if truB P Q&&truB P' Q' then(b1 (logB c0 P P'),1,0)else(0,1,22):Ans).1 (if truB P Q&&truB P' Q' then(b1 (logB c0 P P'),1,0)else(0,1,22):Ans).2.1 (if truB P Q&&truB P' Q' then(b1 (logB c0 P P'),1,0)else(0,1,22):Ans).2.2:=by
 have HH:=Lib.hid (fun wz=>rhas13_any c0 wz);have hh:hasD c0=true:=by unfold hasD;rw[hc,Bool.true_or,Bool.or_true]
 rw[hh]at HH;clear hh;have PW:=Lib.hid (fun wz=>rjudged_any P Q P' Q' c0 wz hc (by omega) (by omega));obtain⟨T,hT⟩:∃z,(if truB P Q&&truB P' Q' then(b1 (logB c0 P P'),1,0)else(0,1,22):Ans)=z:=⟨_,rfl⟩
 rw[hT]at PW ⊢;clear hT;unfold NumTold4 at PW;have HF:=Lib.hid (fun w2 (hb:Below w.heap.size w w2)=>NumTold4.done (k:=w.heap.size+1+1) T.1 T.2.1 T.2.2 hb (by omega) rfl rfl rfl);generalize rB T.1=wb at *;generalize rS T.1=ws at *;generalize str (dec T.2.1)=wq at *;generalize T.2.2=we at *;generalize rB P=ba at *;generalize rS P=sa at *;generalize str (dec Q)=qa at *;generalize rB P'=bb at *;generalize rS P'=sb at *;generalize str (dec Q')=qb at *;clear hQ hQ' hg hg' d1 d2 d3 d4 hm
 rcases of_decide_eq_true hc with rfl|rfl|rfl|rfl
 all_goals
  clear hc;have BB:=bagN w ba sa qa bb sb qb;have⟨q00,q01,q02,q10,q11,q12⟩:=bq0 BB;go_enter Tryz.func18,Tryz.ntmps18;go_wp2_with fail;go_at_call 20;refine(HH.out _).mono ?_;rintro e w1 ⟨rfl,hb1⟩;have BB:=bgo BB hb1;clear hb1;clear q00 q01 q02 q10 q11 q12;have⟨q00,q01,q02,q10,q11,q12⟩:=bq0 BB;go_wp2_with fail;go_at_call 68;refine(PW.out _).mono ?_;rintro e w2 ⟨rfl,hb2⟩;have BB:=bgo BB hb2;clear hb2;clear q00 q01 q02 q10 q11 q12;have⟨q00,q01,q02,q10,q11,q12⟩:=bq0 BB;have hs:=BB.out.now.1;have⟨u0,u1,u2,g0,g1,g2⟩:=hs.s6;have HS:=hs.set (.bool wb) (.string ws) (.string wq);have HE:=Lib.hid (HF.out _ BB.out.below);clear hs;go_wp2;exact bodyPost_ret (by simp[results,Tryz.results18,go_sem,HS]) rfl HE.out
theorem rtwo_num_ok (c0 : Int) (P : Int) (Q : Nat) (P' : Int) (Q' : Nat) (l : Int) (w : World) (hQ : 0 < Q) (hQ' : 0 < Q') (hg : Nat.gcd P.natAbs Q = 1) (hg' : Nat.gcd P'.natAbs Q' = 1) (hm : 1 <= l /\ l <= 16) (d1 : dl P.natAbs <= 40) (d2 : dl Q <= 40) (d3 : dl P'.natAbs <= 40) (d4 : dl Q' <= 40) (hc : numK c0 = true) (hz : (numT c0 P Q P' Q' l).2.2 = 0) (hl : ¬ l < limZ (numT c0 P Q P' Q' l).1 (numT c0 P Q P' Q' l).2.1) :
    Calls Tryz.prog 18 #[.int .i32 c0,.agg #[.bool (rB P),.string (rS P),.string (str (dec Q))],.agg #[.bool (rB P'),.string (rS P'),.string (str (dec Q'))],.int .i64 l] w fun e w'=>NumTold4 w w' e (numT c0 P Q P' Q' l).1 (numT c0 P Q P' Q' l).2.1 0:=by
 have HH:=Lib.hid (fun wz=>rhas13_any c0 wz);have hh:hasD c0=true:=by unfold hasD;rw[hc,Bool.or_true,Bool.or_true]
 rw[hh]at HH;clear hh;have hn:∀x,numK x=false->(c0==x)=false:=fun x h=>beq_eq_false_iff_ne.2 (fun e=>by rw[e,h]at hc;exact absurd hc (by decide))
 have n0:=hn 60 rfl;have n1:=hn 8804 rfl;have n2:=hn 61 rfl;have n3:=hn 8805 rfl;have n4:=hn 62 rfl;have n5:=hn 8800 rfl;have n6:=hn 8743 rfl;have n7:=hn 8744 rfl;have n8:=hn 9074 rfl;have n9:=hn 9073 rfl;clear hn;have hd:=numT_dl c0 (P:=P) (P':=P') (Q:=Q) (Q':=Q') hm.2 d1 d2 d3 d4;have PW:=Lib.hid (fun wz=>rreckoned_any c0 P Q P' Q' l wz hc hQ hQ' hg hg' hm d1 d2 d3 d4);have LM:=Lib.hid (fun wz=>limbs13 (numT c0 P Q P' Q' l).1 (numT c0 P Q P' Q' l).2.1 wz hd.1 hd.2);clear hd;obtain⟨T,hT⟩:∃z,(numT c0 P Q P' Q' l)=z:=⟨_,rfl⟩
 rw[hT]at PW LM hz hl ⊢;clear hT;unfold NumTold4 at PW;have HF:=Lib.hid (fun w2 (hb:Below w.heap.size w w2)=>NumTold4.done (k:=w.heap.size+1+1) T.1 T.2.1 0 hb (by omega) rfl rfl rfl);rw[hz]at PW;obtain⟨lz,hlz⟩:∃z,limZ T.1 T.2.1=z:=⟨_,rfl⟩
 rw[hlz]at LM hl;clear hlz hz;have dl1:decide (l<lz)=false:=decide_eq_false hl;clear hl;generalize rB T.1=wb at *;generalize rS T.1=ws at *;generalize str (dec T.2.1)=wq at *;generalize rB P=ba at *;generalize rS P=sa at *;generalize str (dec Q)=qa at *;generalize rB P'=bb at *;generalize rS P'=sb at *;generalize str (dec Q')=qb at *;clear hQ hQ' hg hg' d1 d2 d3 d4 hm hc;have BB:=bagN w ba sa qa bb sb qb;have⟨q00,q01,q02,q10,q11,q12⟩:=bq0 BB;go_enter Tryz.func18,Tryz.ntmps18;go_wp2_with fail;go_at_call 20;refine(HH.out _).mono ?_;rintro e w1 ⟨rfl,hb1⟩;have BB:=bgo BB hb1;clear hb1;clear q00 q01 q02 q10 q11 q12;have⟨q00,q01,q02,q10,q11,q12⟩:=bq0 BB;go_wp2_with fail;go_at_call 69;refine(PW.out _).mono ?_;rintro e w2 ⟨rfl,hb2⟩;have BB:=Lib.hid ((BB.out.go hb2).box3 (.bool wb) (.string ws) (.string wq) 46);clear hb2;clear q00 q01 q02 q10 q11 q12;have⟨q00,q01,q02,q10,q11,q12⟩:=bq1 BB;clear q00 q01 q02 q10 q11 q12;have⟨q00,q01,q02,q10,q11,q12⟩:=bq1 BB;have⟨q20,q21,q22⟩:=BB.out.now.1.c3;go_wp2_with fail;go_at_call 70;refine(LM.out _).mono ?_;rintro e w3 ⟨rfl,hb3⟩;have BB:=bgo BB hb3;clear hb3;clear q00 q01 q02 q10 q11 q12 q20 q21 q22;have⟨q00,q01,q02,q10,q11,q12⟩:=bq1 BB;have⟨q20,q21,q22⟩:=BB.out.now.1.c3;have hs:=BB.out.now.2.1;have⟨u0,u1,u2,g0,g1,g2⟩:=hs.s6;have HS:=hs.set (.bool wb) (.string ws) (.string wq);have HE:=Lib.hid (HF.out _ BB.out.below);clear hs;go_wp2;exact bodyPost_ret (by simp[results,Tryz.results18,go_sem,HS]) rfl HE.out
theorem rtwo_num_long (c0 : Int) (P : Int) (Q : Nat) (P' : Int) (Q' : Nat) (l : Int) (w : World) (hQ : 0 < Q) (hQ' : 0 < Q') (hg : Nat.gcd P.natAbs Q = 1) (hg' : Nat.gcd P'.natAbs Q' = 1) (hm : 1 <= l /\ l <= 16) (d1 : dl P.natAbs <= 40) (d2 : dl Q <= 40) (d3 : dl P'.natAbs <= 40) (d4 : dl Q' <= 40) (hc : numK c0 = true) (hz : (numT c0 P Q P' Q' l).2.2 = 0) (hl : l < limZ (numT c0 P Q P' Q' l).1 (numT c0 P Q P' Q' l).2.1) :
    Calls Tryz.prog 18 #[.int .i32 c0,.agg #[.bool (rB P),.string (rS P),.string (str (dec Q))],.agg #[.bool (rB P'),.string (rS P'),.string (str (dec Q'))],.int .i64 l] w fun e w'=>NumTold4 w w' e 0 1 26:=by
 have HH:=Lib.hid (fun wz=>rhas13_any c0 wz);have hh:hasD c0=true:=by unfold hasD;rw[hc,Bool.or_true,Bool.or_true]
 rw[hh]at HH;clear hh;have hn:∀x,numK x=false->(c0==x)=false:=fun x h=>beq_eq_false_iff_ne.2 (fun e=>by rw[e,h]at hc;exact absurd hc (by decide))
 have n0:=hn 60 rfl;have n1:=hn 8804 rfl;have n2:=hn 61 rfl;have n3:=hn 8805 rfl;have n4:=hn 62 rfl;have n5:=hn 8800 rfl;have n6:=hn 8743 rfl;have n7:=hn 8744 rfl;have n8:=hn 9074 rfl;have n9:=hn 9073 rfl;clear hn;have hd:=numT_dl c0 (P:=P) (P':=P') (Q:=Q) (Q':=Q') hm.2 d1 d2 d3 d4;have PW:=Lib.hid (fun wz=>rreckoned_any c0 P Q P' Q' l wz hc hQ hQ' hg hg' hm d1 d2 d3 d4);have LM:=Lib.hid (fun wz=>limbs13 (numT c0 P Q P' Q' l).1 (numT c0 P Q P' Q' l).2.1 wz hd.1 hd.2);clear hd;obtain⟨T,hT⟩:∃z,(numT c0 P Q P' Q' l)=z:=⟨_,rfl⟩
 rw[hT]at PW LM hz hl;clear hT;unfold NumTold4 at PW;have HF:=hfz w 26;have ZE:=zen;rw[hz]at PW;obtain⟨lz,hlz⟩:∃z,limZ T.1 T.2.1=z:=⟨_,rfl⟩
 rw[hlz]at LM hl;clear hlz hz;have dl1:decide (l<lz)=true:=decide_eq_true hl;clear hl;generalize rB T.1=wb at *;generalize rS T.1=ws at *;generalize str (dec T.2.1)=wq at *;generalize rB P=ba at *;generalize rS P=sa at *;generalize str (dec Q)=qa at *;generalize rB P'=bb at *;generalize rS P'=sb at *;generalize str (dec Q')=qb at *;clear hQ hQ' hg hg' d1 d2 d3 d4 hm hc;have BB:=bagN w ba sa qa bb sb qb;have⟨q00,q01,q02,q10,q11,q12⟩:=bq0 BB;go_enter Tryz.func18,Tryz.ntmps18;go_wp2_with fail;go_at_call 20;refine(HH.out _).mono ?_;rintro e w1 ⟨rfl,hb1⟩;have BB:=bgo BB hb1;clear hb1;clear q00 q01 q02 q10 q11 q12;have⟨q00,q01,q02,q10,q11,q12⟩:=bq0 BB;go_wp2_with fail;go_at_call 69;refine(PW.out _).mono ?_;rintro e w2 ⟨rfl,hb2⟩;have BB:=Lib.hid ((BB.out.go hb2).box3 (.bool wb) (.string ws) (.string wq) 46);clear hb2;clear q00 q01 q02 q10 q11 q12;have⟨q00,q01,q02,q10,q11,q12⟩:=bq1 BB;clear q00 q01 q02 q10 q11 q12;have⟨q00,q01,q02,q10,q11,q12⟩:=bq1 BB;have⟨q20,q21,q22⟩:=BB.out.now.1.c3;go_wp2_with fail;go_at_call 70;refine(LM.out _).mono ?_;rintro e w3 ⟨rfl,hb3⟩;have BB:=bgo BB hb3;clear hb3;clear q00 q01 q02 q10 q11 q12 q20 q21 q22;have⟨q00,q01,q02,q10,q11,q12⟩:=bq1 BB;have⟨q20,q21,q22⟩:=BB.out.now.1.c3;go_wp2_with fail;go_at_call 64;refine(ZE.out _).mono ?_;rintro e w4 ⟨rfl,hb4⟩;have BB:=bgo BB hb4;clear hb4;clear q00 q01 q02 q10 q11 q12 q20 q21 q22;have⟨q00,q01,q02,q10,q11,q12⟩:=bq1 BB;have⟨q20,q21,q22⟩:=BB.out.now.1.c3;have hs:=BB.out.now.2.1;have⟨u0,u1,u2,g0,g1,g2⟩:=hs.s6;have HS:=hs.set (.bool false) (.string ⟨#[48]⟩) (.string ⟨#[49]⟩);have HE:=Lib.hid (HF.out _ BB.out.below);clear hs;go_wp2;exact bodyPost_ret (by simp[results,Tryz.results18,go_sem,HS]) rfl HE.out
theorem rtwo_num_bad (c0 : Int) (P : Int) (Q : Nat) (P' : Int) (Q' : Nat) (l : Int) (w : World) (hQ : 0 < Q) (hQ' : 0 < Q') (hg : Nat.gcd P.natAbs Q = 1) (hg' : Nat.gcd P'.natAbs Q' = 1) (hm : 1 <= l /\ l <= 16) (d1 : dl P.natAbs <= 40) (d2 : dl Q <= 40) (d3 : dl P'.natAbs <= 40) (d4 : dl Q' <= 40) (hc : numK c0 = true) (hz : (numT c0 P Q P' Q' l).2.2 ≠ 0) :
    Calls Tryz.prog 18 #[.int .i32 c0,.agg #[.bool (rB P),.string (rS P),.string (str (dec Q))],.agg #[.bool (rB P'),.string (rS P'),.string (str (dec Q'))],.int .i64 l] w fun e w'=>NumTold4 w w' e 0 1 (numT c0 P Q P' Q' l).2.2:=by
 have HH:=Lib.hid (fun wz=>rhas13_any c0 wz);have hh:hasD c0=true:=by unfold hasD;rw[hc,Bool.or_true,Bool.or_true]
 rw[hh]at HH;clear hh;have hn:∀x,numK x=false->(c0==x)=false:=fun x h=>beq_eq_false_iff_ne.2 (fun e=>by rw[e,h]at hc;exact absurd hc (by decide))
 have n0:=hn 60 rfl;have n1:=hn 8804 rfl;have n2:=hn 61 rfl;have n3:=hn 8805 rfl;have n4:=hn 62 rfl;have n5:=hn 8800 rfl;have n6:=hn 8743 rfl;have n7:=hn 8744 rfl;have n8:=hn 9074 rfl;have n9:=hn 9073 rfl;clear hn;have hd:=numT_dl c0 (P:=P) (P':=P') (Q:=Q) (Q':=Q') hm.2 d1 d2 d3 d4;have PW:=Lib.hid (fun wz=>rreckoned_any c0 P Q P' Q' l wz hc hQ hQ' hg hg' hm d1 d2 d3 d4);have LM:=Lib.hid (fun wz=>limbs13 (numT c0 P Q P' Q' l).1 (numT c0 P Q P' Q' l).2.1 wz hd.1 hd.2);clear hd;obtain⟨T,hT⟩:∃z,(numT c0 P Q P' Q' l)=z:=⟨_,rfl⟩
 rw[hT]at PW LM hz ⊢;clear hT;unfold NumTold4 at PW;obtain⟨we,hwe⟩:∃z,T.2.2=z:=⟨_,rfl⟩
 rw[hwe]at PW hz ⊢;clear hwe;have HF:=hfz w we;have ZE:=zen;have hz:(we==0)=false:=beq_eq_false_iff_ne.2 hz;clear LM;generalize rB T.1=wb at *;generalize rS T.1=ws at *;generalize str (dec T.2.1)=wq at *;generalize rB P=ba at *;generalize rS P=sa at *;generalize str (dec Q)=qa at *;generalize rB P'=bb at *;generalize rS P'=sb at *;generalize str (dec Q')=qb at *;clear hQ hQ' hg hg' d1 d2 d3 d4 hm hc;have BB:=bagN w ba sa qa bb sb qb;have⟨q00,q01,q02,q10,q11,q12⟩:=bq0 BB;go_enter Tryz.func18,Tryz.ntmps18;go_wp2_with fail;go_at_call 20;refine(HH.out _).mono ?_;rintro e w1 ⟨rfl,hb1⟩;have BB:=bgo BB hb1;clear hb1;clear q00 q01 q02 q10 q11 q12;have⟨q00,q01,q02,q10,q11,q12⟩:=bq0 BB;go_wp2_with fail;go_at_call 69;refine(PW.out _).mono ?_;rintro e w2 ⟨rfl,hb2⟩;have BB:=Lib.hid ((BB.out.go hb2).box3 (.bool wb) (.string ws) (.string wq) 46);clear hb2;clear q00 q01 q02 q10 q11 q12;have⟨q00,q01,q02,q10,q11,q12⟩:=bq1 BB;clear q00 q01 q02 q10 q11 q12;have⟨q00,q01,q02,q10,q11,q12⟩:=bq1 BB;have⟨q20,q21,q22⟩:=BB.out.now.1.c3;go_wp2_with fail;go_at_call 64;refine(ZE.out _).mono ?_;rintro e w3 ⟨rfl,hb3⟩;have BB:=bgo BB hb3;clear hb3;clear q00 q01 q02 q10 q11 q12 q20 q21 q22;have⟨q00,q01,q02,q10,q11,q12⟩:=bq1 BB;have⟨q20,q21,q22⟩:=BB.out.now.1.c3;have hs:=BB.out.now.2.1;have⟨u0,u1,u2,g0,g1,g2⟩:=hs.s6;have HS:=hs.set (.bool false) (.string ⟨#[48]⟩) (.string ⟨#[49]⟩);have HE:=Lib.hid (HF.out _ BB.out.below);clear hs;go_wp2;exact bodyPost_ret (by simp[results,Tryz.results18,go_sem,HS]) rfl HE.out
theorem rtwo13_any (c0 : Int) (P : Int) (Q : Nat) (P' : Int) (Q' : Nat) (l : Int) (w : World) (hQ : 0 < Q) (hQ' : 0 < Q') (hg : Nat.gcd P.natAbs Q = 1) (hg' : Nat.gcd P'.natAbs Q' = 1) (hm : 1 <= l /\ l <= 16) (d1 : dl P.natAbs <= 40) (d2 : dl Q <= 40) (d3 : dl P'.natAbs <= 40) (d4 : dl Q' <= 40) :
    Calls Tryz.prog 18 #[.int .i32 c0,.agg #[.bool (rB P),.string (rS P),.string (str (dec Q))],.agg #[.bool (rB P'),.string (rS P'),.string (str (dec Q'))],.int .i64 l] w fun e w'=>NumTold4 w w' e (twoT c0 P Q P' Q' l).1 (twoT c0 P Q P' Q' l).2.1 (twoT c0 P Q P' Q' l).2.2:=by
 unfold twoT
 cases h1:cmpK c0 with
 | true=>exact rtwo_cmp c0 P Q P' Q' l w hQ hQ' hg hg' hm d1 d2 d3 d4 h1
 | false =>
  rw[if_neg (by decide)]
  cases h2:logK c0 with
  | true=>exact rtwo_log c0 P Q P' Q' l w hQ hQ' hg hg' hm d1 d2 d3 d4 h2
  | false =>
   rw[if_neg (by decide)]
   cases h3:numK c0 with
   | true =>
    rw[if_pos rfl];unfold lim3
    by_cases hz:(numT c0 P Q P' Q' l).2.2=0
    · rw[if_neg (by omega)]
      by_cases hl:l<limZ (numT c0 P Q P' Q' l).1 (numT c0 P Q P' Q' l).2.1
      · rw[if_pos hl];exact rtwo_num_long c0 P Q P' Q' l w hQ hQ' hg hg' hm d1 d2 d3 d4 h3 hz hl
      · rw[if_neg hl,hz];exact rtwo_num_ok c0 P Q P' Q' l w hQ hQ' hg hg' hm d1 d2 d3 d4 h3 hz hl
    · rw[if_pos hz];exact rtwo_num_bad c0 P Q P' Q' l w hQ hQ' hg hg' hm d1 d2 d3 d4 h3 hz
   | false =>
    rw[if_neg (by decide)];exact rtwo_none c0 P Q P' Q' l w (by unfold hasD;rw[h1,h2,h3];rfl)
end Go.Proofs.YtdmmenaejkpnjaaGreatDoor
namespace Go.Proofs.YtdmmenaejkpnjaaGreatDoor
open Go.ChangeShapes Go.WideShapes Go.ChangeAt Go.RowKit Go.WideMaps Go.WideElems Go.Deep
theorem cellsNum:Tryz.prog.cellsOf 46=3:=by kernel_rfl
theorem cellsBool:Tryz.prog.cellsOf 4=1:=by kernel_rfl
theorem cellsStr:Tryz.prog.cellsOf 9=1:=by kernel_rfl
theorem open_num {H : Type} {enc : TypeId × Value -> H} {W : World} {r : Reach} {b0 : Nat} {sp : Nat -> Bool} {v0 : Value} {d0 : DataW H} {p0 : List MemPlace}
    (hv:Value.okWide Tryz.prog W r b0 46 v0) (h0:DataW.Trod enc Tryz.prog W 0 sp true 46 v0 d0 p0) :
    ∃(b:Bool) (s t:ByteArray),v0=.agg #[.bool b,.string s,.string t]/\d0=.agg [.lit (.bool b),.lit (.string s.data.toList),.lit (.string t.data.toList)]/\p0 = []/\s.size<=maxLen/\t.size<=maxLen:=by
 obtain⟨cs,rfl,hsz⟩:=okWide_struct Tryz.underlying46 hv;rw[cellsNum]at hsz;obtain⟨l⟩:=cs
 match l,hsz with
 | [c0,c1,c2],_ =>
 obtain⟨fuel,hf⟩:=h0;obtain⟨y0,y1,y2,m,hx,_,hy0,hy1,hy2⟩:=trod_struct3 Tryz.underlying46 hf;obtain⟨b,e0,rfl⟩:=DataW.trod_bool Tryz.underlying4 hy0;obtain⟨s,e1,rfl,hs⟩:=DataW.trod_string Tryz.underlying9 hy1;obtain⟨t,e2,rfl,ht⟩:=DataW.trod_string Tryz.underlying9 hy2
 simp[Value.cells,cellsBool]at e0
 simp[Value.cells,cellsStr]at e1 e2
 subst e0 e1 e2;simp only[Prod.mk.injEq]at hx;obtain⟨rfl,rfl⟩:=hx;exact⟨b,s,t,rfl,rfl,rfl,hs,ht⟩
theorem shut_num {H : Type} {enc : TypeId × Value -> H} {W : World} {sp : Nat -> Bool} {b : Bool} {s t : ByteArray} (hs : s.size <= maxLen) (ht : t.size <= maxLen) :
    DataW.Trod enc Tryz.prog W 0 sp true 46 (.agg #[.bool b,.string s,.string t]) (.agg [.lit (.bool b),.lit (.string s.data.toList),.lit (.string t.data.toList)]) [] :=
 ⟨2,by
   have f0:DataW.trod enc Tryz.prog W 0 sp true 1 4 [.bool b]=some (.lit (.bool b), []):=by simp[DataW.trod,Tryz.underlying4]
   have f1:DataW.trod enc Tryz.prog W 0 sp true 1 9 [.string s]=some (.lit (.string s.data.toList), []):=by simp[DataW.trod,Tryz.underlying9,hs]
   have f2:DataW.trod enc Tryz.prog W 0 sp true 1 9 [.string t]=some (.lit (.string t.data.toList), []):=by simp[DataW.trod,Tryz.underlying9,ht]
   have:=trod_struct3_mk (enc:=enc) (w:=W) (base:=0) (spare:=sp) (held:=true) (n:=1) (cs := [.bool b,.string s,.string t]) Tryz.underlying46 (by simp[cellsNum]) (by simpa[cellsBool]using f0) (by simpa[cellsStr]using f1) (by simpa[cellsStr]using f2)
   simpa[Value.cells]using this⟩
end Go.Proofs.YtdmmenaejkpnjaaGreatDoor
