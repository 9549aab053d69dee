/-
  Proved: the law PervadeOnes of package typeballlaw14 returns true for every sign, every plain array and every number of limbs, under the row's own conditions.
-/
import Derived.Test.YtdmmenaejkpnjaaGreatDoorO6
import Derived.SizedLaws
import Derived.Test.YtdmmenaejkpnjaaGreatDoorCards
import Derived.Test.YtdmmenaejkpnjaaGreatDoorTie
import Derived.LaidMore
import Derived.Lay
import Derived.SevenTiedAt
import Derived.Stop.Joined
set_option maxHeartbeats 12800000
set_option maxRecDepth 100000
set_option linter.unusedSimpArgs false
set_option linter.unusedVariables false
namespace Go.Proofs.YtdmmenaejkpnjaaGreatDoor
open Go.ChangeShapes Go.WideShapes Go.ChangeAt Go.RowKit Go.WideMaps Go.WideElems
attribute [local go_sem ↓] Go.wp_at_zero Go.wp_at_succ
theorem pervadeOnes_walk (c0 : Int) (cs : Array Value) (S : Nat -> Int) (r : Nat) (ch : Bool) (g : Nat -> Int) (tn : Nat) (fB : Nat -> Bool) (fS fT : Nat -> ByteArray) (nn : Nat) (X : Nat)
    (w:World) (h:PlnAt w cs S r ch g tn fB fS fT nn) (hS:In64 S r) (hz:∀j,j<nn->(fS j).size<=maxLen/\(fT j).size<=maxLen) (hX:(X:Int)<=255) :
    Calls Tryz.prog 5 #[.int .i32 c0,.agg cs,.int .u8 (X:Nat)] w fun e w'=>e=.returned (.bool true)/\Below w.heap.size w w':=by
 have HP:=Lib.hid h;obtain⟨sa,sc,ta,tc,na,nc,rfl,_⟩:=h;have LP:=Lib.hid (fun wz h=>lightPG_any (plC sa r sc ch ta tn tc na nn nc) S r ch g tn fB fS fT nn wz h hS hz);have AW:=Lib.hid (fun wz=>awake14_any wz)
 obtain⟨n0,hn0,hn1⟩:∃n:Nat,(X:Int).tmod 16=(n:Int)/\n<=15:=by
  refine⟨((X:Int).tmod 16).toNat,?_,?_⟩<;>rw[Int.tmod_eq_emod_of_nonneg (by omega)]<;>omega
 have HXY:=Lib.hid (show(X:Int).tmod 16=(n0:Int)/\wrap64 (n0:Int)=(n0:Int)/\wrap64 (1+(n0:Int))=1+(n0:Int)from⟨hn0,IntWalk.wrap64_in _ (by omega),IntWalk.wrap64_in _ (by omega)⟩);have BB:=Lib.hid ((Bag.start w).newRow (plC sa r sc ch ta tn tc na nn nc) 26);have HR:=Lib.hid BB.out.now.1;clear hS hz hn0;unfold plC;go_enter Tryz.func5,Tryz.ntmps5
 go_wp2_with (refine ldPG (by rfl) 4 rfl w.heap.size (plC sa r sc ch ta tn tc na nn nc) (by rfl) HR.out rfl ?_)
 go_at_call 22
 (with_reducible refine(LP.out _ ?_).mono ?_)
 · exact HP.out.below BB.out.below
 rintro e w2 ⟨b0,rfl,hb0,hb2⟩;have BB:=bgo BB hb2;clear hb2 LP HR
 cases b0 with
 | false =>
  clear hb0;go_wp2_with fail;go_at_call 23;(with_reducible refine(AW.out _).mono ?_);rintro e w9 ⟨rfl,hb9⟩;have HE:=Lib.hid (BB.out.go hb9).below;clear hb9;go_wp2;go_ret;exact⟨rfl,HE.out⟩
 | true =>
  obtain⟨L,rfl,rfl,hG⟩:=hb0 rfl;clear hb0
  have OF:=Lib.hid (fun wz h=>(of8_any (plC sa r sc ch ta (tnO ch L) tc na (nnO ch L) nc) S r ch L g fB fS fT wz h hG).mono (fun _ _ z=>(show ∃x,_=Ending.returned (.agg x)/\Arr _ x S r ch L g (cP ch (gP fB fS fT)) (cQ ch (gQ fB fS fT))/\_ from by
   obtain⟨x,e,q,b⟩:=z
   exact⟨x,e,q.asC,b⟩)))
  obtain⟨l,hl⟩:∃z:Int,1+(n0:Int)=z:=⟨_,rfl⟩
  have hl16:l<=64:=by omega
  have hG8:=hG.rank;have hGL:=hG.le;have ON:=Lib.hid (fun x wz q=>(pone_any c0 l x S r ch L g (fun _=>0) (cP ch (gP fB fS fT)) (cQ ch (gQ fB fS fT)) wz q (fun _=>hG.few) hl16 hG8 hG.sh hG.in64 hG.cnt).mono (fun _ _ z=>z.res));have RO:=Lib.hid (fun wz q=>(rpone_any c0 l (plC sa r sc ch ta (tnO ch L) tc na (nnO ch L) nc) S r ch L g (fun _=>0) fB fS fT (cP ch (gP fB fS fT)) (cQ ch (gQ fB fS fT)) wz q hG.numC hl16 (by omega)).mono (fun _ _ z=>z.res));have SM:SmallP false L (fun k=>oP c0 (cP ch (gP fB fS fT) k) (cQ ch (gQ fB fS fT) k) l) (fun k=>oQ c0 (cP ch (gP fB fS fT) k) (cQ ch (gQ fB fS fT) k) l):=fun _ j hj=>moneP_bd (hG.few j hj).1 (hG.dlC j hj).1 (hG.dlC j hj).2 hl16
  have SO:=Lib.hid (fun x p wz q z=>showsP_any x p (onE c0 ch L (cP ch (gP fB fS fT)) (cQ ch (gQ fB fS fT)) l) S r false L (fun _=>0) _ _ _ _ _ wz q z (fun _=>⟨hG8,by omega⟩) ⟨SM,fun _ _=>⟨rfl,rfl,rfl⟩⟩);obtain⟨EE,hEE⟩:∃z,onE c0 ch L (cP ch (gP fB fS fT)) (cQ ch (gQ fB fS fT)) l=z:=⟨_,rfl⟩
  rw[hEE]at ON RO SO;obtain⟨fP,hfP⟩:∃f,cP ch (gP fB fS fT)=f:=⟨_,rfl⟩
  obtain⟨fQ,hfQ⟩:∃f,cQ ch (gQ fB fS fT)=f:=⟨_,rfl⟩
  rw[hfP,hfQ]at ON RO SO OF;obtain⟨uP,huP⟩:∃f,(fun k=>oP c0 (fP k) (fQ k) l)=f:=⟨_,rfl⟩
  obtain⟨uQ,huQ⟩:∃f,(fun k=>oQ c0 (fP k) (fQ k) l)=f:=⟨_,rfl⟩
  obtain⟨gB,hgB⟩:∃f,(fun k=>rB (oP c0 (fP k) (fQ k) l))=f:=⟨_,rfl⟩
  obtain⟨gS,hgS⟩:∃f,(fun k=>rS (oP c0 (fP k) (fQ k) l))=f:=⟨_,rfl⟩
  obtain⟨gT,hgT⟩:∃f,(fun k=>str (dec (oQ c0 (fP k) (fQ k) l)))=f:=⟨_,rfl⟩
  rw[huP,huQ]at ON SO;rw[hgB,hgS,hgT]at RO SO;have HL:=Lib.hid hl;obtain⟨hx0,hx1,hx3⟩:=HXY.out;have hx2:=hx3.trans hl;clear hx3;clear HXY SM hl hl16 hG8 hGL hG hEE hfP hfQ huP huQ hgB hgS hgT hn1 hX;have HR:=Lib.hid BB.out.now.1
  go_wp2_with ((with_reducible refine at_op 22 ?_);refine ld_pln rfl (.tmp 4) rfl w.heap.size rfl HR.out ?_)
  go_at_call 12
  (refine(OF.out _ (HP.out.below BB.out.below)).mono ?_)
  rintro e w3 ⟨x3,rfl,h3,hb3⟩;have BB:=bgo BB hb3;have H3:=Lib.hid h3;clear h3 hb3 HR OF;go_wp2_with fail;go_at_call 24
  (refine(ON.out _ _ H3.out).mono ?_)
  rintro e w4 ⟨x4,rfl,h4,hb4⟩;have BB:=bgo BB hb4;have HM:=Lib.hid h4;have HIA:=Lib.hid h4.1;have HR:=Lib.hid BB.out.now.1;clear h4 hb4 ON H3
  go_wp2_with (first
   | ((with_reducible refine at_st (.tmp 8) (.tmp 26) ?_);refine st_arrQ rfl (.tmp 8) (.tmp 26) rfl rfl x4 rfl HIA.out rfl ?_;intro Y hY hbY;have HY:=Lib.hid hY;have BB:=Lib.hid (BB.out.go hbY);have HM:=Lib.hid (HM.out.below hbY);have HR:=Lib.hid (HR.out.below hbY);clear hY hbY)
   | ((with_reducible refine at_op 30 ?_);refine ld_pln rfl (.tmp 4) rfl w.heap.size rfl HR.out ?_))
  go_at_call 25
  (refine(RO.out _ (HP.out.below BB.out.below)).mono ?_)
  rintro e w5 ⟨p5,rfl,h5,hb5⟩;have BB:=bgo BB hb5;have HM:=Lib.hid (HM.out.below hb5);have HY:=Lib.hid (HY.out.below hb5);have HX:=Lib.hid h5;have HIP:=Lib.hid h5.1;clear h5 hb5 HR RO HP
  go_wp2_with (first
   | ((with_reducible refine at_st (.tmp 10) (.tmp 33) ?_);refine st_plnQ rfl (.tmp 10) (.tmp 33) rfl rfl p5 rfl HIP.out rfl ?_;intro Y2 hY hbY;have HZ:=Lib.hid hY;have BB:=Lib.hid (BB.out.go hbY);have HM:=Lib.hid (HM.out.below hbY);have HX:=Lib.hid (HX.out.below hbY);have HY:=Lib.hid (HY.out.below hbY);clear hY hbY)
   | ((with_reducible refine at_op 35 ?_);refine ld8G (by rfl) 8 rfl w4.heap.size x4 (by rfl) HY.out HIA.out.size ?_)
   | ((with_reducible refine at_op 37 ?_);refine ldPG (by rfl) 10 rfl w5.heap.size p5 (by rfl) HZ.out HIP.out.size ?_))
  go_at_call 26
  (refine(SO.out _ _ _ HM.out HX.out).mono ?_)
  rintro e w8 ⟨rfl,hb8⟩;have BB:=bgo BB hb8;clear hb8 HM HX HY HZ SO;go_wp2_with fail;go_at_call 23;(with_reducible refine(AW.out _).mono ?_);rintro e w9 ⟨rfl,hb9⟩;have HE:=Lib.hid (BB.out.go hb9).below;clear hb9;go_wp2;go_ret;exact⟨rfl,HE.out⟩
theorem own:ownKnob Tryz.prog.godebug=none:=by kernel_rfl
theorem laidOut:laidOutB Tryz.prog=true:=by kernel_rfl
theorem pervadeOnes_lifted (os : Os) (started : os.Started) (H : Type) (enc : TypeId × Value -> H) :
    ReturnsInHanded {} Tryz.checked os 5 .any (fun w args=>(Rows.pervadeOnesSpec.pre enc Tryz.prog Tryz.f5 [] false w args/\laidMetH Tryz.prog Rows.pervadeOnesRow.laid w)/\sizedMet enc Tryz.prog Tryz.f5 (OpenSpec.ofChange Rows.pervadeOnesSpec) false w args)
     (Rows.pervadeOnesSpec.post enc Tryz.prog Tryz.f5 false true false false):=by
 refine returnsInHanded_of_change_and (C := Tryz.checked) (X := fun w _ => laidMetH Tryz.prog Rows.pervadeOnesRow.laid w) (fun _ _ _ hh h => h.of_heap hh) own started (by kernel_rfl) Tryz.func5
  (ChangeSpec.witness_shaped (enc:=enc) (C:=Tryz.checked) (os:=os) (X:=fun w _=>laidMetH Tryz.prog Rows.pervadeOnesRow.laid w) false (World.laidAll Tryz.prog os Rows.pervadeOnesRow.laid) #[.int .i32 0,.agg #[.slice none 0 0,.bool false,.slice none 0 0,.slice none 0 0],.int .u8 0] 8 (World.laidAll_os _ _ _)
    (World.shaped_of_ZipB (by kernel_rfl) (by kernel_rfl)) (by kernel_rfl) (by kernel_rfl) (by kernel_rfl)
    (by rw[MakeChecks.laidMetH_plain _ _ _ (by kernel_rfl)];exact laidMet_laidAll _ (by kernel_rfl) (by kernel_rfl))) ?_
 intro W base args ds gs before hval0 hW _ _ _ _;have hval:∀(j:Nat) t v,Tryz.f5.params[j]? = some t->args[j]? = some v->Value.okWide Tryz.prog W .any base t v:=hval0;have hW':=hW;obtain⟨p,q,hA0,hV,rfl,_,_⟩:=hW;have hA:DataW.TrodAll enc Tryz.prog W 0 (fun _=>true) true Tryz.f5.params.toList args.toList ds p:=hA0;rw[Tryz.params5]at hA hval;obtain⟨v0,v1,v2,d0,d1,d2,p0,p1,p2,rfl,rfl,rfl,h0,h1,h2⟩:=trodAll_three hA;obtain⟨rfl,rfl⟩:=trodVars_none hV;obtain⟨x0,rfl,rfl,rfl,w0⟩:=open_int Tryz.underlying21 (hval 0 21 v0 rfl rfl) h0;obtain⟨cs1,S1,q1,ch1,g1,tn1,fB1,fS1,fT1,nn1,rfl,k1,w1,z1⟩:=open_pln (hval 1 26 v1 rfl rfl) h1;obtain⟨x2,rfl,rfl,rfl,w2⟩:=open_int Tryz.underlying5 (hval 2 5 v2 rfl rfl) h2;have b2:0<=x2/\x2<=255:=by simpa[Lit.wf,IntKind.min,IntKind.max,IntKind.signed,IntKind.bits]using w2
 obtain⟨x2,rfl⟩:∃X:Nat,x2=X:=⟨x2.toNat,by omega⟩
 have hlt:∀y ∈ []++(p1++([])),y.block<W.heap.size:=fun y hy=>by simpa using hW'.lt y (by simpa using hy)
 simp only[List.append_nil]at hW';refine(pervadeOnes_walk x0 cs1 S1 q1 ch1 g1 tn1 fB1 fS1 fT1 nn1 x2 W k1 w1 z1 (by omega)).mono fun e W' ⟨he,hb⟩ => ?_
 subst he;exact⟨_,rfl,_,_,_, [],_, [],hW',trodAll_mk1 (shut_bool Tryz.underlying4 _),trodAll_mk3 (shut_int Tryz.underlying21 w0) (Below.trod laidOut (by kernel_rfl) (of_decide_eq_true (by kernel_rfl)) h1 hb (fun y hy=>hlt y (by simp[hy]))) (shut_int Tryz.underlying5 w2),rfl,hb.frame _,fun h=>by cases h⟩
theorem pervadeOnes_row:Rows.PervadeOnesSaid :=
 OpenClaim.holds_of_wide 5 Tryz.f5 rfl rfl rfl rfl rfl rfl rfl ⟨rfl,rfl,rfl,rfl,rfl⟩ rfl rfl rfl rfl rfl (by kernel_rfl) Tryz.func5 (by kernel_rfl)
  (of_decide_eq_true (by kernel_rfl)) (by unfold Func.isWrapper;first|(rw[if_pos (by decide +kernel)];kernel_rfl)|(rw[if_neg (by decide +kernel)];exact⟨rfl,rfl⟩))
  (fun os started H enc _=>pervadeOnes_lifted os started H enc)
theorem pervadeOnes_holds:Rows.PervadeOnesCardSaid :=
 Claim7.holds_tied_plain_at .later [] [.data, .pinned] true Rows.pervadeOnesCard.stood.harness Rows.pervadeOnesCard.stood.looks pervadeOnes_row (fun _ h => by cases h) (by kernel_rfl) (fun _ h => by cases h) pervadeOnes_row_tie rfl ⟨rfl, rfl⟩ (by kernel_rfl) rfl
  (fun f fn hf hfn=>by
    obtain rfl : f = 5 := Option.some.inj ((show Tryz.prog.funcNamed "typeball/typeballlaw14.PervadeOnes" = some 5 by kernel_rfl).symm.trans hf) |>.symm
    obtain rfl:fn=Tryz.f5:=(Option.some.inj (Tryz.func5.symm.trans hfn)).symm
    exact⟨by kernel_rfl,fun j t ht=>by
     rw[Tryz.params5]at ht;have hm:t ∈ [21,26,5]:=by simpa using Array.mem_of_getElem? ht
     have hall:([21,26,5].all fun u => !Tryz.prog.wantsStandIn u)=true:=by kernel_rfl
     exact(show Tryz.prog.wantsStandIn t=false by simpa using List.all_eq_true.1 hall t hm)⟩)
  (by kernel_rfl)
#print axioms pervadeOnes_holds
end Go.Proofs.YtdmmenaejkpnjaaGreatDoor
