/-
  Proved: the law DyadTwos of package typeballlaw13 returns true for every rune, every two numbers and every int, under the row's own conditions.
-/
import Derived.Test.YtdmmenaejkpnjaaGreatDoorV14
import Derived.Test.YtdmmenaejkpnjaaGreatDoorCards
import Derived.Test.YtdmmenaejkpnjaaGreatDoorTie
import Derived.Deep.Strs
import Derived.ProofKit
import Derived.OpenShut
import Derived.Carry
import Derived.LaidMore
import Derived.Lay
import Derived.SevenTiedAt
import Derived.Stop.Joined
import Derived.Laws.StructEq
set_option maxHeartbeats 12800000
set_option maxRecDepth 100000
set_option linter.unusedSimpArgs false
set_option linter.unusedVariables false
namespace Go.Proofs.YtdmmenaejkpnjaaGreatDoor
open Go.ChangeShapes Go.WideShapes Go.ChangeAt Go.RowKit Go.WideMaps Go.WideElems
open Go.ChangeMaps (open_string shut_string)
attribute [local go_sem ↓] Go.wp_at_zero Go.wp_at_succ
set_option linter.unusedVariables false
set_option linter.unusedSimpArgs false
theorem read13_told(b:Bool)(s t:ByteArray):∃X Y,∀w,Calls Tryz.prog 15 #[.agg #[.bool b,.string s,.string t]] w fun e w'=>RatTold3 w w' e X Y (rd13 b s t):=by
 cases h:rd13 b s t with
 | true=>exact⟨_,_,fun w=>read13_yes b s t w h⟩
 | false=>exact⟨_,_,fun w=>read13_no b s t w h⟩
theorem dyadTwos_no (c0 : Int) (b : Bool) (s t : ByteArray) (b' : Bool) (s' t' : ByteArray) (l0 : Int) (w : World) (h : rd13 b s t = false ∨ rd13 b' s' t' = false ∨ l0 < 1 ∨ 16 < l0) :
    Calls Tryz.prog 4 #[.int .i32 c0,.agg #[.bool b,.string s,.string t],.agg #[.bool b',.string s',.string t'],.int .i64 l0] w fun e w'=>e=.returned (.bool true)/\Below w.heap.size w w':=by
 obtain⟨X1,Y1,R1⟩:=read13_told b s t;obtain⟨X2,Y2,R2⟩:=read13_told b' s' t';generalize rd13 b s t=k1 at *;generalize rd13 b' s' t'=k2 at *;have R1:=Lib.hid R1;have R2:=Lib.hid R2;unfold RatTold3 at R1 R2;obtain⟨g1,l1⟩:∃g,decide (l0<1)=g:=⟨_,rfl⟩
 obtain⟨g2,l2⟩:∃g,decide (16<l0)=g:=⟨_,rfl⟩
 have h:k1=false∨k2=false∨g1=true∨g2=true:=by
  rcases h with h|h|h|h
  · exact .inl h
  · exact .inr (.inl h)
  · exact .inr (.inr (.inl (by rw[← l1];exact decide_eq_true h)))
  · exact .inr (.inr (.inr (by rw[← l2];exact decide_eq_true h)))
 rcases h with rfl|rfl|rfl|rfl
 · have BB:=Lib.hid (((Bag.start w).box3 (.bool b) (.string s) (.string t) 46).box3 (.bool b') (.string s') (.string t') 46);simp only[World.size_alloc]at BB;have AW:=Lib.hid (fun wz=>awake13_any wz);have⟨q00,q01,q02⟩:=BB.out.now.2.1.c3;have⟨q10,q11,q12⟩:=BB.out.now.1.c3;go_enter Tryz.func4,Tryz.ntmps4;go_wp2_with fail;go_at_call 15;refine(R1.out _).mono ?_;rintro e w1 ⟨x1,xn1,xc1,xm1,y1,yn1,yc1,rfl,hr1,hb1⟩;have BB:=Lib.hid (((BB.out.go hb1).rat hr1).box3 (.slice x1 xn1 xc1) (.bool xm1) (.slice y1 yn1 yc1) 53);clear hb1;clear hr1;clear q00 q01 q02 q10 q11 q12;have⟨q00,q01,q02,q10,q11,q12⟩:=bq1 BB;go_wp2_with fail;go_at_call 15;refine(R2.out _).mono ?_;rintro e w2 ⟨x2,xn2,xc2,xm2,y2,yn2,yc2,rfl,hr2,hb2⟩;have BB:=Lib.hid (((BB.out.go hb2).rat hr2).box3 (.slice x2 xn2 xc2) (.bool xm2) (.slice y2 yn2 yc2) 53);clear hb2;clear hr2;clear q00 q01 q02 q10 q11 q12;go_wp2_with fail;go_at_call 16;refine(AW.out _).mono ?_;rintro e w3 ⟨rfl,hb3⟩;have BB:=bgo BB hb3;clear hb3;go_wp2;go_ret;exact⟨rfl,BB.out.below⟩
 · cases k1<;>(
     have BB:=Lib.hid (((Bag.start w).box3 (.bool b) (.string s) (.string t) 46).box3 (.bool b') (.string s') (.string t') 46);simp only[World.size_alloc]at BB;have AW:=Lib.hid (fun wz=>awake13_any wz);have⟨q00,q01,q02⟩:=BB.out.now.2.1.c3;have⟨q10,q11,q12⟩:=BB.out.now.1.c3;go_enter Tryz.func4,Tryz.ntmps4;go_wp2_with fail;go_at_call 15;refine(R1.out _).mono ?_;rintro e w1 ⟨x1,xn1,xc1,xm1,y1,yn1,yc1,rfl,hr1,hb1⟩;have BB:=Lib.hid (((BB.out.go hb1).rat hr1).box3 (.slice x1 xn1 xc1) (.bool xm1) (.slice y1 yn1 yc1) 53);clear hb1;clear hr1;clear q00 q01 q02 q10 q11 q12;have⟨q00,q01,q02,q10,q11,q12⟩:=bq1 BB;go_wp2_with fail;go_at_call 15;refine(R2.out _).mono ?_;rintro e w2 ⟨x2,xn2,xc2,xm2,y2,yn2,yc2,rfl,hr2,hb2⟩;have BB:=Lib.hid (((BB.out.go hb2).rat hr2).box3 (.slice x2 xn2 xc2) (.bool xm2) (.slice y2 yn2 yc2) 53);clear hb2;clear hr2;clear q00 q01 q02 q10 q11 q12;go_wp2_with fail;go_at_call 16;refine(AW.out _).mono ?_;rintro e w3 ⟨rfl,hb3⟩;have BB:=bgo BB hb3;clear hb3;go_wp2;go_ret
     exact⟨rfl,BB.out.below⟩)
 · cases k1<;>cases k2<;>(
     have BB:=Lib.hid (((Bag.start w).box3 (.bool b) (.string s) (.string t) 46).box3 (.bool b') (.string s') (.string t') 46);simp only[World.size_alloc]at BB;have AW:=Lib.hid (fun wz=>awake13_any wz);have⟨q00,q01,q02⟩:=BB.out.now.2.1.c3;have⟨q10,q11,q12⟩:=BB.out.now.1.c3;go_enter Tryz.func4,Tryz.ntmps4;go_wp2_with fail;go_at_call 15;refine(R1.out _).mono ?_;rintro e w1 ⟨x1,xn1,xc1,xm1,y1,yn1,yc1,rfl,hr1,hb1⟩;have BB:=Lib.hid (((BB.out.go hb1).rat hr1).box3 (.slice x1 xn1 xc1) (.bool xm1) (.slice y1 yn1 yc1) 53);clear hb1;clear hr1;clear q00 q01 q02 q10 q11 q12;have⟨q00,q01,q02,q10,q11,q12⟩:=bq1 BB;go_wp2_with fail;go_at_call 15;refine(R2.out _).mono ?_;rintro e w2 ⟨x2,xn2,xc2,xm2,y2,yn2,yc2,rfl,hr2,hb2⟩;have BB:=Lib.hid (((BB.out.go hb2).rat hr2).box3 (.slice x2 xn2 xc2) (.bool xm2) (.slice y2 yn2 yc2) 53);clear hb2;clear hr2;clear q00 q01 q02 q10 q11 q12;go_wp2_with fail;go_at_call 16;refine(AW.out _).mono ?_;rintro e w3 ⟨rfl,hb3⟩;have BB:=bgo BB hb3;clear hb3;go_wp2;go_ret
     exact⟨rfl,BB.out.below⟩)
 · cases k1<;>cases k2<;>cases g1<;>(
     have BB:=Lib.hid (((Bag.start w).box3 (.bool b) (.string s) (.string t) 46).box3 (.bool b') (.string s') (.string t') 46);simp only[World.size_alloc]at BB;have AW:=Lib.hid (fun wz=>awake13_any wz);have⟨q00,q01,q02⟩:=BB.out.now.2.1.c3;have⟨q10,q11,q12⟩:=BB.out.now.1.c3;go_enter Tryz.func4,Tryz.ntmps4;go_wp2_with fail;go_at_call 15;refine(R1.out _).mono ?_;rintro e w1 ⟨x1,xn1,xc1,xm1,y1,yn1,yc1,rfl,hr1,hb1⟩;have BB:=Lib.hid (((BB.out.go hb1).rat hr1).box3 (.slice x1 xn1 xc1) (.bool xm1) (.slice y1 yn1 yc1) 53);clear hb1;clear hr1;clear q00 q01 q02 q10 q11 q12;have⟨q00,q01,q02,q10,q11,q12⟩:=bq1 BB;go_wp2_with fail;go_at_call 15;refine(R2.out _).mono ?_;rintro e w2 ⟨x2,xn2,xc2,xm2,y2,yn2,yc2,rfl,hr2,hb2⟩;have BB:=Lib.hid (((BB.out.go hb2).rat hr2).box3 (.slice x2 xn2 xc2) (.bool xm2) (.slice y2 yn2 yc2) 53);clear hb2;clear hr2;clear q00 q01 q02 q10 q11 q12;go_wp2_with fail;go_at_call 16;refine(AW.out _).mono ?_;rintro e w3 ⟨rfl,hb3⟩;have BB:=bgo BB hb3;clear hb3;go_wp2;go_ret
     exact⟨rfl,BB.out.below⟩)
theorem dyadTwos_yes (c0 : Int) (b : Bool) (s t : ByteArray) (b' : Bool) (s' t' : ByteArray) (l0 : Int) (w : World) (h : rd13 b s t = true) (h' : rd13 b' s' t' = true) (hl : 1 <= l0 /\ l0 <= 16) :
    Calls Tryz.prog 4 #[.int .i32 c0,.agg #[.bool b,.string s,.string t],.agg #[.bool b',.string s',.string t'],.int .i64 l0] w fun e w'=>e=.returned (.bool true)/\Below w.heap.size w w':=by
 obtain⟨h1,h2,h3,hQ,hg,d1,d2,g1,g2⟩:=rd13_spec h;obtain⟨h1',h2',h3',hQ',hg',d1',d2',g1',g2'⟩:=rd13_spec h';have R1:=Lib.hid (fun wz=>read13_yes b s t wz h);have R2:=Lib.hid (fun wz=>read13_yes b' s' t' wz h');unfold RatTold3 at R1 R2;generalize ofP b s t=P at *;generalize ofQ b s t=Q at *;generalize ofP b' s' t'=P' at *;generalize ofQ b' s' t'=Q' at *;have NT:=twoT_bd c0 (P:=P) (P':=P') hQ hQ' (show l0<=64 by omega);have TW:=Lib.hid (fun a n c m a2 n2 c2 b k l v b2 k2 l2 wz h g=>dtwo_any c0 a n c m a2 n2 c2 P Q b k l v b2 k2 l2 P' Q' l0 wz h g hQ hQ' 7 (by omega) g1 g2 g1' g2' (by omega) (fun _=>⟨by omega,by omega⟩));have RT:=Lib.hid (fun wz=>rtwo13_any c0 P Q P' Q' l0 wz hQ hQ' hg hg' hl d1 d2 d1' d2');rw[h1,h2,h3,h1',h2',h3']at RT;have NM:=Lib.hid (fun a n c m a2 n2 c2 wz q=>num_any a n c m a2 n2 c2 (twoT c0 P Q P' Q' l0).1 (twoT c0 P Q P' Q' l0).2.1 wz q NT.1 64 (by omega) NT.2.1 NT.2.2);obtain⟨T,hT⟩:∃z,twoT c0 P Q P' Q' l0=z:=⟨_,rfl⟩
 rw[hT]at TW RT NM;unfold RatTold4 at TW;unfold NumTold4 at RT;unfold NumTold at NM;generalize rB T.1=wb at *;generalize rS T.1=ws at *;generalize str (dec T.2.1)=wq at *;generalize T.1=T1 at *;generalize T.2.1=T2 at *;generalize T.2.2=we at *;have H1:=Lib.hid (fun wz=>dhas_any c0 wz);have H2:=Lib.hid (fun wz=>rhas13_any c0 wz);generalize hasD c0=hb0 at *;have l1:decide (l0<1)=false:=decide_eq_false (by omega);have l2:decide (16<l0)=false:=decide_eq_false (by omega);clear hT NT h h' h1 h2 h3 hQ hg d1 d2 g1 g2 h1' h2' h3' hQ' hg' d1' d2' g1' g2' hl;have BB:=Lib.hid (((Bag.start w).box3 (.bool b) (.string s) (.string t) 46).box3 (.bool b') (.string s') (.string t') 46);simp only[World.size_alloc]at BB;have AW:=Lib.hid (fun wz=>awake13_any wz);have⟨q00,q01,q02⟩:=BB.out.now.2.1.c3;have⟨q10,q11,q12⟩:=BB.out.now.1.c3;go_enter Tryz.func4,Tryz.ntmps4;go_wp2_with fail;go_at_call 15;(with_reducible refine(R1.out _).mono ?_);rintro e w1 ⟨x1,xn1,xc1,xm1,y1,yn1,yc1,rfl,hr1,hb1⟩;have BB:=Lib.hid (((BB.out.go hb1).rat hr1).box3 (.slice x1 xn1 xc1) (.bool xm1) (.slice y1 yn1 yc1) 53);clear hb1;clear hr1;clear q00 q01 q02 q10 q11 q12;have⟨q00,q01,q02,q10,q11,q12⟩:=bq1 BB;go_wp2_with fail;go_at_call 15;(with_reducible refine(R2.out _).mono ?_);rintro e w2 ⟨x2,xn2,xc2,xm2,y2,yn2,yc2,rfl,hr2,hb2⟩;have BB:=Lib.hid (((BB.out.go hb2).rat hr2).box3 (.slice x2 xn2 xc2) (.bool xm2) (.slice y2 yn2 yc2) 53);clear hb2;clear hr2;clear q00 q01 q02 q10 q11 q12;have⟨q00,q01,q02⟩:=BB.out.now.2.2.1.c3;have⟨q10,q11,q12⟩:=BB.out.now.1.c3;go_wp2_with fail;go_at_call 17;(with_reducible refine(TW.out _ _ _ _ _ _ _ _ _ _ _ _ _ _ _ BB.out.now.2.2.2.1 BB.out.now.2.1).mono ?_);rintro e w3 ⟨x3,xn3,xc3,xm3,y3,yn3,yc3,rfl,hr3,hb3⟩;have BB:=Lib.hid (((BB.out.go hb3).rat hr3).box3 (.slice x3 xn3 xc3) (.bool xm3) (.slice y3 yn3 yc3) 53);clear hb3;clear hr3;clear q00 q01 q02 q10 q11 q12;have⟨q00,q01,q02⟩:=BB.out.now.2.2.2.2.2.2.2.1.c3;have⟨q10,q11,q12⟩:=BB.out.now.2.2.2.2.2.2.1.c3;go_wp2_with fail;go_at_call 18;(with_reducible refine(RT.out _).mono ?_);rintro e w4 ⟨rfl,hb4⟩;have BB:=Lib.hid ((BB.out.go hb4).box3 (.bool wb) (.string ws) (.string wq) 46);clear hb4;clear q00 q01 q02 q10 q11 q12;go_wp2_with fail;have BB:=Lib.hid BB.out.drew
 go_region_held3 (fun y => (y.cell? ⟨w3.heap.size, 0, none⟩ = some (.slice x3 xn3 xc3) /\ y.cell? ⟨w3.heap.size, 1, none⟩ = some (.bool xm3) /\ y.cell? ⟨w3.heap.size, 2, none⟩ = some (.slice y3 yn3 yc3)) /\ y.cell? ⟨w4.heap.size, 0, none⟩ = some (.bool wb) /\ y.cell? ⟨w4.heap.size, 1, none⟩ = some (.string ws) /\ y.cell? ⟨w4.heap.size, 2, none⟩ = some (.string wq))
  (exact⟨⟨BB.out.now.2.1.cell,BB.out.now.2.1.cell1,BB.out.now.2.1.cell2⟩,BB.out.now.1.cell,BB.out.now.1.cell1,BB.out.now.1.cell2⟩)
  (first
    | (go_at_call 19;(with_reducible refine(H1.out _).mono ?_);rintro e w5 ⟨rfl,hb5⟩;have BB:=Lib.hid (BB.out.go hb5))
    | (go_at_call 20;(with_reducible refine(H2.out _).mono ?_);rintro e w6 ⟨rfl,hb6⟩;have BB:=Lib.hid (BB.out.go hb6))
    | (go_at_call 21;(with_reducible refine(NM.out _ _ _ _ _ _ _ _ BB.out.now.2.2.1).mono ?_);rintro e w7 ⟨rfl,hb7⟩;have BB:=Lib.hid (BB.out.go hb7))
    | (go_at_call 16;(with_reducible refine(AW.out _).mono ?_);rintro e w8 ⟨rfl,hb8⟩;have BB:=Lib.hid (BB.out.go hb8)))
 go_wp2;go_ret;exact⟨rfl,BB.out.below⟩
theorem dyadTwos_walk (c0 : Int) (b : Bool) (s t : ByteArray) (b' : Bool) (s' t' : ByteArray) (l0 : Int) (w : World) (_ : s.size <= maxLen) (_ : t.size <= maxLen) (_ : s'.size <= maxLen) (_ : t'.size <= maxLen) (_ : -9223372036854775808 <= l0 /\ l0 <= 9223372036854775807) :
    Calls Tryz.prog 4 #[.int .i32 c0,.agg #[.bool b,.string s,.string t],.agg #[.bool b',.string s',.string t'],.int .i64 l0] w fun e w'=>e=.returned (.bool true)/\Below w.heap.size w w':=by
 by_cases hl:1<=l0/\l0<=16
 · cases h:rd13 b s t with
   | false=>exact dyadTwos_no c0 b s t b' s' t' l0 w (.inl h)
   | true =>
    cases h':rd13 b' s' t' with
    | false=>exact dyadTwos_no c0 b s t b' s' t' l0 w (.inr (.inl h'))
    | true=>exact dyadTwos_yes c0 b s t b' s' t' l0 w h h' hl
 · exact dyadTwos_no c0 b s t b' s' t' l0 w (.inr (.inr (by omega)))
theorem own:ownKnob Tryz.prog.godebug=none:=by kernel_rfl
theorem dyadTwos_lifted (os : Os) (started : os.Started) (H : Type) (enc : TypeId × Value -> H) :
    ReturnsInHanded {} Tryz.checked os 4 .any (fun w args=>(Rows.dyadTwosSpec.pre enc Tryz.prog Tryz.f4 [] false w args/\laidMetH Tryz.prog Rows.dyadTwosRow.laid w)/\sizedMet enc Tryz.prog Tryz.f4 (OpenSpec.ofChange Rows.dyadTwosSpec) false w args)
     (Rows.dyadTwosSpec.post enc Tryz.prog Tryz.f4 false true false false):=by
 refine returnsInHanded_of_change_and (C := Tryz.checked) (X := fun w _ => laidMetH Tryz.prog Rows.dyadTwosRow.laid w) (fun _ _ _ hh h => h.of_heap hh) own started (by kernel_rfl) Tryz.func4
  (ChangeSpec.witness_shaped (enc:=enc) (C:=Tryz.checked) (os:=os) (X:=fun w _=>laidMetH Tryz.prog Rows.dyadTwosRow.laid w) false (World.laidAll Tryz.prog os Rows.dyadTwosRow.laid) #[.int .i32 0,.agg #[.bool false,.string ⟨#[]⟩,.string ⟨#[]⟩],.agg #[.bool false,.string ⟨#[]⟩,.string ⟨#[]⟩],.int .i64 0] 8 (World.laidAll_os _ _ _)
    (World.shaped_of_ZipB (by kernel_rfl) (by kernel_rfl)) (by kernel_rfl) (by kernel_rfl) (by kernel_rfl)
    (by rw[MakeChecks.laidMetH_plain _ _ _ (by kernel_rfl)];exact laidMet_laidAll _ (by kernel_rfl) (by kernel_rfl))) ?_
 intro W base args ds gs before hval0 hW _ _ _ _;have hval:∀(j:Nat) t v,Tryz.f4.params[j]? = some t->args[j]? = some v->Value.okWide Tryz.prog W .any base t v:=hval0;have hW':=hW;obtain⟨p,q,hA0,hV,rfl,_,_⟩:=hW;have hA:DataW.TrodAll enc Tryz.prog W 0 (fun _=>true) true Tryz.f4.params.toList args.toList ds p:=hA0;rw[Tryz.params4]at hA hval;obtain⟨v0,v1,v2,v3,d0,d1,d2,d3,p0,p1,p2,p3,rfl,rfl,rfl,h0,h1,h2,h3⟩:=trodAll_four hA;obtain⟨rfl,rfl⟩:=trodVars_none hV;obtain⟨x0,rfl,rfl,rfl,w0⟩:=open_int Tryz.underlying21 (hval 0 21 v0 rfl rfl) h0;obtain⟨x1,y1,z1,rfl,rfl,rfl,b1,c1⟩:=open_num (hval 1 46 v1 rfl rfl) h1;obtain⟨x2,y2,z2,rfl,rfl,rfl,b2,c2⟩:=open_num (hval 2 46 v2 rfl rfl) h2;obtain⟨x3,rfl,rfl,rfl,w3⟩:=open_int Tryz.underlying3 (hval 3 3 v3 rfl rfl) h3;have b3 : -9223372036854775808<=x3/\x3<=9223372036854775807:=by simpa[Lit.wf,IntKind.min,IntKind.max,IntKind.signed,IntKind.bits]using w3
 simp only[List.append_nil]at hW';refine(dyadTwos_walk x0 x1 y1 z1 x2 y2 z2 x3 W b1 c1 b2 c2 b3).mono fun e W' ⟨he,hb⟩ => ?_
 subst he;exact⟨_,rfl,_,_,_, [], [], [],hW',trodAll_mk1 (shut_bool Tryz.underlying4 _),trodAll_mk4 (shut_int Tryz.underlying21 w0) (shut_num b1 c1) (shut_num b2 c2) (shut_int Tryz.underlying3 w3),rfl,hb.frame _,fun h=>by cases h⟩
theorem dyadTwos_row:Rows.DyadTwosSaid :=
 OpenClaim.holds_of_wide 4 Tryz.f4 rfl rfl rfl rfl rfl rfl rfl ⟨rfl,rfl,rfl,rfl,rfl⟩ rfl rfl rfl rfl rfl (by kernel_rfl) Tryz.func4 (by kernel_rfl)
  (of_decide_eq_true (by kernel_rfl)) (by unfold Func.isWrapper;first|(rw[if_pos (by decide +kernel)];kernel_rfl)|(rw[if_neg (by decide +kernel)];exact⟨rfl,rfl⟩))
  (fun os started H enc _=>dyadTwos_lifted os started H enc)
theorem dyadTwos_holds:Rows.DyadTwosCardSaid :=
 Claim7.holds_tied_plain_at .later [] [.data, .pinned] true Rows.dyadTwosCard.stood.harness Rows.dyadTwosCard.stood.looks dyadTwos_row (fun _ h => by cases h) (by kernel_rfl) (fun _ h => by cases h) dyadTwos_row_tie rfl ⟨rfl, rfl⟩ (by kernel_rfl) rfl
  (fun f fn hf hfn=>by
    obtain rfl : f = 4 := Option.some.inj ((show Tryz.prog.funcNamed "typeball/typeballlaw13.DyadTwos" = some 4 by kernel_rfl).symm.trans hf) |>.symm
    obtain rfl:fn=Tryz.f4:=(Option.some.inj (Tryz.func4.symm.trans hfn)).symm
    exact⟨by kernel_rfl,fun j t ht=>by
     rw[Tryz.params4]at ht;have hm:t ∈ [21,46,3]:=by simpa using Array.mem_of_getElem? ht
     have hall:([21,46,3].all fun u => !Tryz.prog.wantsStandIn u)=true:=by kernel_rfl
     exact(show Tryz.prog.wantsStandIn t=false by simpa using List.all_eq_true.1 hall t hm)⟩)
  (by kernel_rfl)
#print axioms dyadTwos_holds
end Go.Proofs.YtdmmenaejkpnjaaGreatDoor
