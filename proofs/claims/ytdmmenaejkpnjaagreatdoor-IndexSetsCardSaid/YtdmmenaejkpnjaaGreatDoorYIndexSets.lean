/-
  Proved: the law IndexSets of package typeballlaw11 returns true for every two plain arrays and every row of what stands for axes, under the row's own conditions.
-/
import Derived.Test.YtdmmenaejkpnjaaGreatDoorY1
import Derived.SizedLaws
import Derived.Test.YtdmmenaejkpnjaaGreatDoorCards
import Derived.Test.YtdmmenaejkpnjaaGreatDoorTie
import Derived.LaidMore
import Derived.Lay
import Derived.SevenTiedAt
import Derived.Stop.Joined
set_option maxHeartbeats 12800000
set_option maxRecDepth 100000
set_option linter.unusedSimpArgs false
set_option linter.unusedVariables false
namespace Go.Proofs.YtdmmenaejkpnjaaGreatDoor
open Go.ChangeShapes Go.WideShapes Go.ChangeAt Go.RowKit Go.WideMaps Go.WideElems
attribute [local go_sem ↓] Go.wp_at_zero Go.wp_at_succ
theorem indexSets_walk (cs0 : Array Value) (S0 : Nat -> Int) (r0 : Nat) (ch0 : Bool) (g0 : Nat -> Int) (tn0 : Nat) (fB0 : Nat -> Bool) (fS0 fT0 : Nat -> ByteArray) (nn0 : Nat) (cs : Array Value) (S : Nat -> Int) (r : Nat) (ch : Bool) (g : Nat -> Int) (tn : Nat) (fB : Nat -> Bool) (fS fT : Nat -> ByteArray) (nn : Nat) (al : Option Addr) (nl cl : Nat) (E0 : Nat -> Sr)
    (w:World) (h0:PlnAt w cs0 S0 r0 ch0 g0 tn0 fB0 fS0 fT0 nn0) (hS0:In64 S0 r0) (hz0:∀j,j<nn0->(fS0 j).size<=maxLen/\(fT0 j).size<=maxLen) (h:PlnAt w cs S r ch g tn fB fS fT nn) (hS:In64 S r) (hz:∀j,j<nn->(fS j).size<=maxLen/\(fT j).size<=maxLen) (hl:DRow w al nl cl E0) (hbd:∀j,j<nl->(E0 j).bd) :
    Calls Tryz.prog 3 #[.agg cs0,.agg cs,.slice al nl cl] w fun e w'=>e=.returned (.bool true)/\Below w.heap.size w w':=by
 have HP0:=Lib.hid h0;have HP:=Lib.hid h;have HD:=Lib.hid hl;have hll:=hl.len;obtain⟨sb,scb,tb,tcb,nb,ncb,rfl,_⟩:=h0;obtain⟨sa,sc,ta,tc,na,nc,rfl,_⟩:=h;have SB:=Lib.hid (fun wz q=>subs_any al nl cl E0 wz q hbd);have LP0:=Lib.hid (fun wz h=>(light_any 200 (plC sb r0 scb ch0 tb tn0 tcb nb nn0 ncb) S0 r0 ch0 g0 tn0 fB0 fS0 fT0 nn0 wz h hS0 hz0).mono (fun _ _ q=>of_light11 q));have LP:=Lib.hid (fun wz h=>(light_any 200 (plC sa r sc ch ta tn tc na nn nc) S r ch g tn fB fS fT nn wz h hS hz).mono (fun _ _ q=>of_light11 q));have AW:=Lib.hid (fun wz=>awake11_any wz);have BB:=Lib.hid (((Bag.start w).newRow (plC sb r0 scb ch0 tb tn0 tcb nb nn0 ncb) 26).newRow (plC sa r sc ch ta tn tc na nn nc) 26);simp only[World.size_alloc]at BB;clear hS0 hz0 hS hz hl hbd;unfold plC;go_enter Tryz.func3,Tryz.ntmps3;go_wp2_with fail;go_at_call 8
 (refine(SB.out _ (HD.out.below BB.out.below)).mono ?_)
 rintro e w1 ⟨ok,ax,mx,cx,rfl,hok,hb1⟩;have BB:=bgo BB hb1;clear hb1 SB
 cases ok with
 | false =>
  clear hok LP0 LP HP0 HP HD;go_wp2_with fail;go_at_call 10;(with_reducible refine(AW.out _).mono ?_);rintro e w9 ⟨rfl,hb9⟩;have HE:=Lib.hid (BB.out.go hb9).below;clear hb9;go_wp2;go_ret;exact⟨rfl,HE.out⟩
 | true =>
 obtain⟨rfl,hsr,hn20,hgd⟩:=hok rfl;have HSR:=Lib.hid hsr;have HGD:=Lib.hid hgd;have HR:=Lib.hid BB.out.now.2.1;clear hok hsr hgd
 go_wp2_with (refine ldPG (by rfl) 3 rfl w.heap.size (plC sb r0 scb ch0 tb tn0 tcb nb nn0 ncb) (by rfl) HR.out rfl ?_)
 go_at_call 9
 (with_reducible refine(LP0.out _ ?_).mono ?_)
 · exact HP0.out.below BB.out.below
 rintro e w2 ⟨b0,rfl,hb0,hb2⟩;have BB:=bgo BB hb2;have HSR:=Lib.hid (HSR.out.below hb2);clear hb2 LP0
 cases b0 with
 | false =>
  clear hb0 HR HP0 HP LP HSR HGD HD;go_wp2_with fail;go_at_call 10;(with_reducible refine(AW.out _).mono ?_);rintro e w9 ⟨rfl,hb9⟩;have HE:=Lib.hid (BB.out.go hb9).below;clear hb9;go_wp2;go_ret;exact⟨rfl,HE.out⟩
 | true =>
 obtain⟨L0,rfl,rfl,hG0⟩:=hb0 rfl;clear hb0;have HR:=Lib.hid BB.out.now.1
 go_wp2_with (refine ldPG (by rfl) 4 rfl (w.heap.size+1) (plC sa r sc ch ta tn tc na nn nc) (by rfl) HR.out rfl ?_)
 go_at_call 9
 (with_reducible refine(LP.out _ ?_).mono ?_)
 · exact HP.out.below BB.out.below
 rintro e w3 ⟨b,rfl,hb,hb3⟩;have BB:=bgo BB hb3;have HSR:=Lib.hid (HSR.out.below hb3);clear hb3 LP
 cases b with
 | false =>
  clear hb HR hG0 HP0 HP HSR HGD HD;go_wp2_with fail;go_at_call 10;(with_reducible refine(AW.out _).mono ?_);rintro e w9 ⟨rfl,hb9⟩;have HE:=Lib.hid (BB.out.go hb9).below;clear hb9;go_wp2;go_ret;exact⟨rfl,HE.out⟩
 | true =>
 obtain⟨L,rfl,rfl,hG⟩:=hb rfl;clear hb HR;have hGL:=hG.le;have hGL0:=hG0.le;have h8:=hG.rank;have h80:=hG0.rank;have OF0:=Lib.hid (fun wz h=>of8_any (plC sb r0 scb ch0 tb (tnO ch0 L0) tcb nb (nnO ch0 L0) ncb) S0 r0 ch0 L0 g0 fB0 fS0 fT0 wz h hG0);have OF:=Lib.hid (fun wz h=>of8_any (plC sa r sc ch ta (tnO ch L) tc na (nnO ch L) nc) S r ch L g fB fS fT wz h hG);obtain⟨D,hD⟩:∃D:Nat->Sb,(fun j=>(E0 j).sb)=D:=⟨_,rfl⟩
 rw[hD]at HSR;have hok:∀j,j<mx->(D j).ok:=fun j hj=>by rw[← hD];exact Sr.okS (HGD.out j hj)
 obtain⟨P,Q,B,U,V,hPQ,HEL⟩:=set_els (o:=1) (m:=mx) (D:=D) hG0 hG hok (pkG S0 (lnF (ixN S0 D)) r0 (ixF 1 D));have HSM:(seE (ixE 1 S0 r0 D mx) (fiE r S (ixR D r0) (ixT S0 D r0)) (itm (lnF (ixN S0 D)) r0).toNat ch0 ch)=0->(r0<=8/\L0<=1000000):=fun _=>⟨h80,by omega⟩
 have TK0:=fun x0 x sa c wz q0 q q2=>iset_any x0 S0 r0 ch0 L0 g0 (gP fB0 fS0 fT0) (gQ fB0 fS0 fT0) x S r ch L g (gP fB fS fT) (gQ fB fS fT) 1 sa mx c D wz q0 q hG0.sh hG0.cnt hG.sh hG.cnt q2 hok (by omega) (by omega)
 have PT0:=fun wz q0 q q2=>rset11_any (plC sb r0 scb ch0 tb (tnO ch0 L0) tcb nb (nnO ch0 L0) ncb) S0 r0 ch0 L0 g0 fB0 fS0 fT0 (plC sa r sc ch ta (tnO ch L) tc na (nnO ch L) nc) S r ch L g fB fS fT 1 al mx cl E0 D wz q0 q hG0.sh q2 HGD.out hD hok (by omega) hn20 hG0.cnt hG.cnt (by omega)
 obtain⟨E,hE⟩:∃f:Int,(seE (ixE 1 S0 r0 D mx) (fiE r S (ixR D r0) (ixT S0 D r0)) (itm (lnF (ixN S0 D)) r0).toNat ch0 ch)=f:=⟨_,rfl⟩
 obtain⟨G,hG'⟩:∃f:Nat->Int,(puF (pkG S0 (lnF (ixN S0 D)) r0 (ixF 1 D)) (fun j=>g (j%L)) (itm (lnF (ixN S0 D)) r0).toNat g0)=f:=⟨_,rfl⟩
 rw[hE]at hPQ HSM
 have TK:Hid (∀x0 x sa c wz,Arr wz x0 S0 r0 ch0 L0 g0 (gP fB0 fS0 fT0) (gQ fB0 fS0 fT0)->Arr wz x S r ch L g (gP fB fS fT) (gQ fB fS fT)->SRow wz sa mx c D->Calls Tryz.prog 11 #[.agg x0,.agg x,.int .i64 1,.slice sa mx c] wz fun e w'=>∃y,e=.returned (.tuple #[.agg y,.int .i64 E])/\MoR w' y E S0 r0 ch0 L0 G P Q/\Below wz.heap.size wz w'):=Lib.hid (fun x0 x sa c wz q0 q q2=>by
  refine(TK0 x0 x sa c wz q0 q q2).mono (fun _ _ hq => ?_);rw[hE,hG']at hq;obtain⟨y,e1,e2,e3⟩:=hq.res
  exact⟨y,e1,e2.as (fun e=>(hPQ e).1),e3⟩)
 have PT:Hid (∀wz,Pln wz (plC sb r0 scb ch0 tb (tnO ch0 L0) tcb nb (nnO ch0 L0) ncb) S0 r0 ch0 L0 g0 fB0 fS0 fT0->Pln wz (plC sa r sc ch ta (tnO ch L) tc na (nnO ch L) nc) S r ch L g fB fS fT->DRow wz al mx cl E0->Calls Tryz.prog 13 #[.agg (plC sb r0 scb ch0 tb (tnO ch0 L0) tcb nb (nnO ch0 L0) ncb),.agg (plC sa r sc ch ta (tnO ch L) tc na (nnO ch L) nc),.int .i64 1,.slice al mx cl] wz fun e w'=>∃y,e=.returned (.tuple #[.agg y,.int .i64 E])/\PoR w' y E S0 r0 ch0 L0 G B U V/\Below wz.heap.size wz w'):=Lib.hid (fun wz q0 q q2=>by
  refine(PT0 wz q0 q q2).mono (fun _ _ hq => ?_);rw[hE,hG']at hq;obtain⟨y,e1,e2,e3⟩:=hq.res
  exact⟨y,e1,e2.as (fun e=>(hPQ e).2),e3⟩)
 have SO:Hid (∀x p wz,MoR wz x E S0 r0 ch0 L0 G P Q->PoR wz p E S0 r0 ch0 L0 G B U V->Calls Tryz.prog 14 #[.agg x,.int .i64 E,.agg p,.int .i64 E] wz fun e w'=>e=.returned (.bool true)/\Below wz.heap.size wz w'):=Lib.hid (fun x p wz q z=>showsI_any x p E S0 r0 ch0 L0 G P Q B U V wz q z HSM HEL);obtain⟨mP,hmP⟩:∃f,(gP fB0 fS0 fT0)=f:=⟨_,rfl⟩
 obtain⟨mQ,hmQ⟩:∃f,(gQ fB0 fS0 fT0)=f:=⟨_,rfl⟩
 obtain⟨nP,hnP⟩:∃f,(gP fB fS fT)=f:=⟨_,rfl⟩
 obtain⟨nQ,hnQ⟩:∃f,(gQ fB fS fT)=f:=⟨_,rfl⟩
 rw[hmP,hmQ]at OF0 TK;rw[hnP,hnQ]at OF TK;clear hmP hmQ hnP hnQ hE hG' hG hG0 hGL hGL0 h8 h80 HSM HEL TK0 PT0 hPQ hok hD HGD;have RWP:Hid (∀yz,Below w3.heap.size w3 yz->Row yz (w.heap.size+1) 26 (plC sa r sc ch ta (tnO ch L) tc na (nnO ch L) nc)):=Lib.hid (fun yz hb=>Row.below BB.out.now.1 hb);have RWB:Hid (∀yz,Below w3.heap.size w3 yz->Row yz (w.heap.size) 26 (plC sb r0 scb ch0 tb (tnO ch0 L0) tcb nb (nnO ch0 L0) ncb)):=Lib.hid (fun yz hb=>Row.below BB.out.now.2.1 hb);have BB:=Lib.hid (Bag.fresh BB.out.below);go_wp2_with fail
 refine wp_region_inv2 ⟨(fun j=>([[32], [33], [34], [35], [36], [37], [31], [38], [39], [9], [9], [10]]:List (List Nat)).getD j []),(fun j=>([[], [0], [], [0,1,2], [], [0,1,2,3,4], [0,1,2,3,4,5], [0,1,2,3,4,5,6], [0,1,2,3,4,5,6], [], [0,1,2,3,4,5,6,7,9], [0,1,2,3,4,5,6,7,8,9,10]]:List (List Nat)).getD j []), [9]⟩ (fun jj vv yy=>match jj with|0=>vv = [some (.agg (plC sb r0 scb ch0 tb (tnO ch0 L0) tcb nb (nnO ch0 L0) ncb))]|1=>∃(x1:Array Value),vv = [some (.agg x1)]/\Arr yy x1 S0 r0 ch0 L0 g0 mP mQ|2=>vv = [some (.agg (plC sa r sc ch ta (tnO ch L) tc na (nnO ch L) nc))]|3=>∃(x3:Array Value),vv = [some (.agg x3)]/\Arr yy x3 S r ch L g nP nQ|4=>vv = [some (.slice ax mx cx)]|5=>∃(x5:Array Value),vv = [some (.tuple #[.agg x5,.int .i64 E])]/\MoR yy x5 E S0 r0 ch0 L0 G P Q/\IsA x5|6=>∃(x5:Array Value),vv = [some (.tuple #[.agg x5,.int .i64 E])]/\MoR yy x5 E S0 r0 ch0 L0 G P Q/\IsA x5|7=>∃(x5:Array Value),vv = [some (.agg x5)]/\MoR yy x5 E S0 r0 ch0 L0 G P Q/\IsA x5|8=>vv = [some (.int .i64 E)]|9=>∃(k9:Nat),∃(z9:Array Value),vv = [some (.pointer (some ⟨k9,0,none⟩))]/\Row yy k9 36 z9/\IsA z9/\w3.heap.size<=k9|10=>∃(k9:Nat),∃(x5:Array Value),vv = [some (.pointer (some ⟨k9,0,none⟩))]/\Row yy k9 36 x5/\MoR yy x5 E S0 r0 ch0 L0 G P Q/\IsA x5|11=>vv = [some (.int .i64 E)]|_=>True) (Bag w3 (fun _=>True)) (by kernel_rfl) (by kernel_rfl) (by kernel_rfl) (Bag.start w3).drew ?_ ?_ ?_
 · intro jj vv yw yw2 hb h
   match jj,h with
   | 0,h=>exact h
   | 1,⟨x1,e1,g1_0⟩=>exact Exists.intro x1 (And.intro e1 (g1_0.below hb))
   | 2,h=>exact h
   | 3,⟨x3,e3,g3_0⟩=>exact Exists.intro x3 (And.intro e3 (g3_0.below hb))
   | 4,h=>exact h
   | 5,⟨x5,e5,g5_0,g5_1⟩=>exact Exists.intro x5 (And.intro e5 (And.intro (g5_0.below hb) g5_1))
   | 6,⟨x5,e6,g6_0,g6_1⟩=>exact Exists.intro x5 (And.intro e6 (And.intro (g6_0.below hb) g6_1))
   | 7,⟨x5,e7,g7_0,g7_1⟩=>exact Exists.intro x5 (And.intro e7 (And.intro (g7_0.below hb) g7_1))
   | 8,h=>exact h
   | 9,⟨k9,z9,e9,g9_0,g9_1,g9_2⟩=>exact Exists.intro k9 (Exists.intro z9 (And.intro e9 (And.intro (g9_0.below hb) (And.intro g9_1 g9_2))))
   | 10,⟨k9,x5,e10,g10_0,g10_1,g10_2⟩=>exact Exists.intro k9 (Exists.intro x5 (And.intro e10 (And.intro (g10_0.below hb) (And.intro (g10_1.below hb) g10_2))))
   | 11,h=>exact h
   | _+12,h=>exact h
 · intro ac yw hsz hdf hold hB hp;obtain⟨ka,xa,es,rs,ms,zs⟩:=hp 10 (by decide);have t9:ac.tmps[9]? = some (.pointer (some ⟨ka,0,none⟩)):=(List.cons.inj es).1;have t10:ac.tmps[10]? = some (.int .i64 E):=(List.cons.inj (hp 11 (by decide))).1;have t2:ac.tmps[2]? = some (.slice al mx cl):=hold 2 (by kernel_rfl);have t3:ac.tmps[3]? = some (.pointer (some ⟨w.heap.size,0,none⟩)):=hold 3 (by kernel_rfl);have t4:ac.tmps[4]? = some (.pointer (some ⟨w.heap.size+1,0,none⟩)):=hold 4 (by kernel_rfl);have HRB:=Lib.hid (RWB.out _ hB.below);have HRP:=Lib.hid (RWP.out _ hB.below);have BB:=Lib.hid (BB.out.go hB.below);have HM:=Lib.hid ms;have SZ:=Lib.hid zs;have HR:=Lib.hid rs;clear hold hp es rs ms zs hB RWB RWP HSR;obtain⟨TV,hTV⟩:∃TV:Nat->Value,∀i,(ac.tmps[i]?).getD undef=TV i:=⟨_,fun _=>rfl⟩
   have f2:=(hTV 2).symm.trans (congrArg (fun x=>Option.getD x undef) t2);have f3:=(hTV 3).symm.trans (congrArg (fun x=>Option.getD x undef) t3);have f4:=(hTV 4).symm.trans (congrArg (fun x=>Option.getD x undef) t4);have f9:=(hTV 9).symm.trans (congrArg (fun x=>Option.getD x undef) t9);have f10:=(hTV 10).symm.trans (congrArg (fun x=>Option.getD x undef) t10);have hac:=act_eq (n:=55) hsz TV hTV;rw[show((List.range 55).map TV).toArray=#[TV 0,TV 1,TV 2,TV 3,TV 4,TV 5,TV 6,TV 7,TV 8,TV 9,TV 10,TV 11,TV 12,TV 13,TV 14,TV 15,TV 16,TV 17,TV 18,TV 19,TV 20,TV 21,TV 22,TV 23,TV 24,TV 25,TV 26,TV 27,TV 28,TV 29,TV 30,TV 31,TV 32,TV 33,TV 34,TV 35,TV 36,TV 37,TV 38,TV 39,TV 40,TV 41,TV 42,TV 43,TV 44,TV 45,TV 46,TV 47,TV 48,TV 49,TV 50,TV 51,TV 52,TV 53,TV 54]from rfl,f2,f3,f4,f9,f10,hdf]at hac;simp only[Option.getD_some]at hac;subst hac;clear hTV f2 f3 f4 f9 f10;clear hsz hdf t2 t3 t4 t9 t10
   go_wp2_with (first
    | (refine ld_pln rfl (.tmp 3) rfl (w.heap.size) rfl HRB.out ?_)
    | (refine ld_pln rfl (.tmp 4) rfl (w.heap.size+1) rfl HRP.out ?_))
   go_at_call 13
   (refine(PT.out _ (HP0.out.below BB.out.below) (HP.out.below BB.out.below) (HD.out.below BB.out.below)).mono ?_)
   rintro e w8 ⟨p8,rfl,h8,hb8⟩;obtain⟨qa,qn,qc,qh,qt,qtn,qtc,qr,qrn,qrc,hpq⟩:=h8.1;subst hpq;have hZ:Below w8.heap.size w8 ((w8.alloc (.cells plZer 26)).setRow w8.heap.size (plC qa qn qc qh qt qtn qtc qr qrn qrc)):=below_put ((Below.refl _ w8).alloc (Nat.le_refl _) (.cells plZer 26)) (Nat.le_refl _) (plC qa qn qc qh qt qtn qtc qr qrn qrc);have HZ:Hid (Row (w8.alloc (.cells plZer 26)) w8.heap.size 26 plZer):=Lib.hid (Row.new w8 _ plZer);have HRX:=Lib.hid (HZ.out.put (plC qa qn qc qh qt qtn qtc qr qrn qrc));have HX:=Lib.hid (h8.below hZ);have HM:=Lib.hid ((HM.out.below hb8).below hZ);have HR:=Lib.hid ((HR.out.below hb8).below hZ);have BB:=Lib.hid ((BB.out.go hb8).go hZ);clear h8 hb8 hZ HRB HRP
   go_wp2_with (first
    | (refine st_pln rfl (.tmp 11) (.tmp 45) rfl w8.heap.size rfl _ _ _ _ _ _ _ _ _ _ rfl HZ.out rfl ?_)
    | (refine ld8G (by rfl) 9 rfl ka xa (by rfl) HR.out SZ.out.size ?_)
    | (refine ldPG (by rfl) 11 rfl w8.heap.size (plC qa qn qc qh qt qtn qtc qr qrn qrc) (by rfl) HRX.out rfl ?_))
   go_at_call 14
   (refine(SO.out _ _ _ HM.out HX.out).mono ?_)
   rintro e w11 ⟨rfl,hb11⟩;have BB:=bgo BB hb11;clear hb11;go_wp2_with fail;go_at_call 10;(with_reducible refine(AW.out _).mono ?_);rintro e w9 ⟨rfl,hb9⟩;have HE:=Lib.hid (BB.out.go hb9).below;clear hb9;go_wp2;go_ret;exact⟨rfl,HE.out⟩
 refine Stps2.cons (o:=_) ?_ ?_
 · intro ac yw hsz hold hB hp K hK;have t3:ac.tmps[3]? = some (.pointer (some ⟨w.heap.size,0,none⟩)):=hold 3 (by kernel_rfl);clear hold hp hsz;rw[if_pos (by rfl)];refine ldP 3 rfl (w.heap.size) ((plC sb r0 scb ch0 tb (tnO ch0 L0) tcb nb (nnO ch0 L0) ncb)) t3 (RWB.out _ hB.below) (rfl) ?_;exact hK.out _ _ ⟨hB,rfl,Nat.le_refl _,.inl (Below.refl _ _),fun h=>absurd h (by decide)⟩
 refine Stps2.cons (o:=_) ?_ ?_
 · intro ac yw hsz hold hB hp K hK;have e0:=hp 0 (by decide);have t32:ac.tmps[32]? = some (.agg (plC sb r0 scb ch0 tb (tnO ch0 L0) tcb nb (nnO ch0 L0) ncb)):=(List.cons.inj e0).1;clear hold hp hsz e0;go_simp
   (go_at_call 12;(refine(OF0.out _ (HP0.out.below (BB.out.go hB.below).below)).mono ?_);rintro e wz ⟨x1,rfl,h1_0,hbz⟩)
   exact hK.out _ _ ⟨hB.go hbz,Exists.intro x1 (And.intro rfl h1_0),hbz.size,.inl hbz,fun h=>absurd h (by decide)⟩
 refine Stps2.cons (o:=_) ?_ ?_
 · intro ac yw hsz hold hB hp K hK;have t4:ac.tmps[4]? = some (.pointer (some ⟨w.heap.size+1,0,none⟩)):=hold 4 (by kernel_rfl);clear hold hp hsz;rw[if_pos (by rfl)];refine ldP 4 rfl (w.heap.size+1) ((plC sa r sc ch ta (tnO ch L) tc na (nnO ch L) nc)) t4 (RWP.out _ hB.below) (rfl) ?_;exact hK.out _ _ ⟨hB,rfl,Nat.le_refl _,.inl (Below.refl _ _),fun h=>absurd h (by decide)⟩
 refine Stps2.cons (o:=_) ?_ ?_
 · intro ac yw hsz hold hB hp K hK;have e2:=hp 2 (by decide);have t34:ac.tmps[34]? = some (.agg (plC sa r sc ch ta (tnO ch L) tc na (nnO ch L) nc)):=(List.cons.inj e2).1;clear hold hp hsz e2;go_simp
   (go_at_call 12;(refine(OF.out _ (HP.out.below (BB.out.go hB.below).below)).mono ?_);rintro e wz ⟨x3,rfl,h3_0,hbz⟩)
   exact hK.out _ _ ⟨hB.go hbz,Exists.intro x3 (And.intro rfl h3_0),hbz.size,.inl hbz,fun h=>absurd h (by decide)⟩
 refine Stps2.cons (o:=_) ?_ ?_
 · intro ac yw hsz hold hB hp K hK;have t7:ac.tmps[7]? = some (.slice ax mx cx):=hold 7 (by kernel_rfl);clear hold hp hsz;go_simp;exact hK.out _ _ ⟨hB,rfl,Nat.le_refl _,.inl (Below.refl _ _),fun h=>absurd h (by decide)⟩
 refine Stps2.cons (o:=_) ?_ ?_
 · intro ac yw hsz hold hB hp K hK;obtain⟨x1_1,e1,g1_0⟩:=hp 1 (by decide);have t33:ac.tmps[33]? = some (.agg x1_1):=(List.cons.inj e1).1;obtain⟨x3_3,e3,g3_0⟩:=hp 3 (by decide);have t35:ac.tmps[35]? = some (.agg x3_3):=(List.cons.inj e3).1;have e4:=hp 4 (by decide);have t36:ac.tmps[36]? = some (.slice ax mx cx):=(List.cons.inj e4).1;clear hold hp hsz e1 e3 e4;go_simp
   (go_at_call 11;(refine(TK.out _ _ _ _ _ g1_0 g3_0 (HSR.out.below hB.below)).mono ?_);rintro e wz ⟨x5,rfl,h5_0,hbz⟩)
   exact hK.out _ _ ⟨hB.go hbz,Exists.intro x5 (And.intro rfl (And.intro h5_0 h5_0.1)),hbz.size,.inl hbz,fun h=>absurd h (by decide)⟩
 refine Stps2.cons (o:=_) ?_ ?_
 · intro ac yw hsz hold hB hp K hK;obtain⟨x5_5,e5,g5_0,g5_1⟩:=hp 5 (by decide);have t37:ac.tmps[37]? = some (.tuple #[.agg x5_5,.int .i64 E]):=(List.cons.inj e5).1;clear hold hp hsz e5;go_simp;exact hK.out _ _ ⟨hB,Exists.intro x5_5 (And.intro rfl (And.intro g5_0 g5_1)),Nat.le_refl _,.inl (Below.refl _ _),fun h=>absurd h (by decide)⟩
 refine Stps2.cons (o:=_) ?_ ?_
 · intro ac yw hsz hold hB hp K hK;obtain⟨x5_6,e6,g6_0,g6_1⟩:=hp 6 (by decide);have t31:ac.tmps[31]? = some (.tuple #[.agg x5_6,.int .i64 E]):=(List.cons.inj e6).1;clear hold hp hsz e6;go_simp;exact hK.out _ _ ⟨hB,Exists.intro x5_6 (And.intro rfl (And.intro g6_0 g6_1)),Nat.le_refl _,.inl (Below.refl _ _),fun h=>absurd h (by decide)⟩
 refine Stps2.cons (o:=_) ?_ ?_
 · intro ac yw hsz hold hB hp K hK;obtain⟨x5_6,e6,g6_0,g6_1⟩:=hp 6 (by decide);have t31:ac.tmps[31]? = some (.tuple #[.agg x5_6,.int .i64 E]):=(List.cons.inj e6).1;clear hold hp hsz e6;go_simp;exact hK.out _ _ ⟨hB,rfl,Nat.le_refl _,.inl (Below.refl _ _),fun h=>absurd h (by decide)⟩
 refine Stps2.cons (o:=_) ?_ ?_
 · intro ac yw hsz hold hB hp K hK;clear hold hp hsz;have hbz:Below yw.heap.size yw (yw.alloc (.cells zerC 36))/\yw.heap.size<(yw.alloc (.cells zerC 36)).heap.size:=⟨(Below.refl _ _).alloc (Nat.le_refl _) _,by rw[World.size_alloc];omega⟩
   go_simp;exact hK.out _ _ ⟨hB.alloc _,Exists.intro yw.heap.size (Exists.intro zerC (And.intro rfl (And.intro ((Row.new yw _ zerC)) (And.intro IsA.zer hB.below.size)))),Nat.le_of_lt hbz.2,.inl hbz.1,fun _=>⟨_,rfl,Nat.le_refl _,hbz.2⟩⟩
 refine Stps2.cons (o:=_) ?_ ?_
 · intro ac yw hsz hold hB hp K hK;obtain⟨k9_9,z9_9,e9,g9_0,g9_1,g9_2⟩:=hp 9 (by decide);have t9:ac.tmps[9]? = some (.pointer (some ⟨k9_9,0,none⟩)):=(List.cons.inj e9).1;obtain⟨x5_7,e7,g7_0,g7_1⟩:=hp 7 (by decide);have t38:ac.tmps[38]? = some (.agg x5_7):=(List.cons.inj e7).1;clear hold hp hsz e9 e7;rw[if_pos (by rfl)];have HB:Bag _ (fun _=>True) (yw.setRow k9_9 x5_7):=⟨below_put hB.below g9_2 _,fun _ _ _ _=>trivial,trivial⟩
   refine st8 9 38 rfl k9_9 x5_7 t9 t38 _ z9_9 g9_0 g9_1 g7_1 ?_;refine hK.out undef _ ⟨HB,Exists.intro k9_9 (Exists.intro x5_7 (And.intro (congrArg (fun x => [x]) t9) (And.intro (g9_0.put _) (And.intro (g7_0.store g9_0 g9_1 _) g7_1)))),by simp[World.setRow],.inr ?_,fun h=>absurd h (by decide)⟩;intro jj hj hap h
   match jj,h with
   | 0,h=>exact h
   | 1,⟨x1,e1,g1_0⟩ =>
    exact Exists.intro x1 (And.intro e1 (g1_0.store g9_0 g9_1 _))
   | 2,h=>exact h
   | 3,⟨x3,e3,g3_0⟩ =>
    exact Exists.intro x3 (And.intro e3 (g3_0.store g9_0 g9_1 _))
   | 4,h=>exact h
   | 5,⟨x5,e5,g5_0,g5_1⟩ =>
    exact Exists.intro x5 (And.intro e5 (And.intro (g5_0.store g9_0 g9_1 _) g5_1))
   | 6,⟨x5,e6,g6_0,g6_1⟩ =>
    exact Exists.intro x5 (And.intro e6 (And.intro (g6_0.store g9_0 g9_1 _) g6_1))
   | 7,⟨x5,e7,g7_0,g7_1⟩ =>
    exact Exists.intro x5 (And.intro e7 (And.intro (g7_0.store g9_0 g9_1 _) g7_1))
   | 8,h=>exact h
   | 9,⟨k9,z9,e9,g9_0,g9_1,g9_2⟩ =>
    have e9:k9=k9_9:=by have:=(List.cons.inj e9).1.symm.trans t9;cases this;rfl
    subst e9;exact Exists.intro _ (Exists.intro _ (And.intro e9 (And.intro (g9_0.put _) (And.intro g7_1 g9_2))))
   | 10,_=>exact absurd rfl hj
   | 11,h=>exact h
   | _+12,h=>exact h
 refine Stps2.cons (o:=_) ?_ ?_
 · intro ac yw hsz hold hB hp K hK;have e8:=hp 8 (by decide);have t39:ac.tmps[39]? = some (.int .i64 E):=(List.cons.inj e8).1;clear hold hp hsz e8;go_simp;exact hK.out _ _ ⟨hB,rfl,Nat.le_refl _,.inl (Below.refl _ _),fun h=>absurd h (by decide)⟩
 exact Stps2.nil _
theorem own:ownKnob Tryz.prog.godebug=none:=by kernel_rfl
theorem laidOut:laidOutB Tryz.prog=true:=by kernel_rfl
theorem indexSets_lifted (os : Os) (started : os.Started) (H : Type) (enc : TypeId × Value -> H) :
    ReturnsInHanded {} Tryz.checked os 3 .any (fun w args=>(Rows.indexSetsSpec.pre enc Tryz.prog Tryz.f3 [] false w args/\laidMetH Tryz.prog Rows.indexSetsRow.laid w)/\sizedMet enc Tryz.prog Tryz.f3 (OpenSpec.ofChange Rows.indexSetsSpec) false w args)
     (Rows.indexSetsSpec.post enc Tryz.prog Tryz.f3 false true false false):=by
 refine returnsInHanded_of_change_and (C := Tryz.checked) (X := fun w _ => laidMetH Tryz.prog Rows.indexSetsRow.laid w) (fun _ _ _ hh h => h.of_heap hh) own started (by kernel_rfl) Tryz.func3
  (ChangeSpec.witness_shaped (enc:=enc) (C:=Tryz.checked) (os:=os) (X:=fun w _=>laidMetH Tryz.prog Rows.indexSetsRow.laid w) false (World.laidAll Tryz.prog os Rows.indexSetsRow.laid) #[.agg #[.slice none 0 0,.bool false,.slice none 0 0,.slice none 0 0],.agg #[.slice none 0 0,.bool false,.slice none 0 0,.slice none 0 0],.slice none 0 0] 8 (World.laidAll_os _ _ _)
    (World.shaped_of_ZipB (by kernel_rfl) (by kernel_rfl)) (by kernel_rfl) (by kernel_rfl) (by kernel_rfl)
    (by rw[MakeChecks.laidMetH_plain _ _ _ (by kernel_rfl)];exact laidMet_laidAll _ (by kernel_rfl) (by kernel_rfl))) ?_
 intro W base args ds gs before hval0 hW _ _ _ _;have hval:∀(j:Nat) t v,Tryz.f3.params[j]? = some t->args[j]? = some v->Value.okWide Tryz.prog W .any base t v:=hval0;have hW':=hW;obtain⟨p,q,hA0,hV,rfl,_,_⟩:=hW;have hA:DataW.TrodAll enc Tryz.prog W 0 (fun _=>true) true Tryz.f3.params.toList args.toList ds p:=hA0;rw[Tryz.params3]at hA hval;obtain⟨v0,v1,v2,d0,d1,d2,p0,p1,p2,rfl,rfl,rfl,h0,h1,h2⟩:=trodAll_three hA;obtain⟨rfl,rfl⟩:=trodVars_none hV;obtain⟨cs0,S0,q0,ch0,g0,tn0,fB0,fS0,fT0,nn0,rfl,k0,w0,z0⟩:=open_pln (hval 0 26 v0 rfl rfl) h0;obtain⟨cs1,S1,q1,ch1,g1,tn1,fB1,fS1,fT1,nn1,rfl,k1,w1,z1⟩:=open_pln (hval 1 26 v1 rfl rfl) h1;obtain⟨a2,n2,c2,E2,rfl,k2,w2⟩:=open_drow (hval 2 27 v2 rfl rfl) h2;have hlt:∀y ∈ p0++(p1++(p2)),y.block<W.heap.size:=fun y hy=>by simpa using hW'.lt y (by simpa using hy)
 simp only[List.append_nil]at hW';refine(indexSets_walk cs0 S0 q0 ch0 g0 tn0 fB0 fS0 fT0 nn0 cs1 S1 q1 ch1 g1 tn1 fB1 fS1 fT1 nn1 a2 n2 c2 E2 W k0 w0 z0 k1 w1 z1 k2 w2).mono fun e W' ⟨he,hb⟩ => ?_
 subst he;exact⟨_,rfl,_,_,_, [],_, [],hW',trodAll_mk1 (shut_bool Tryz.underlying4 _),trodAll_mk3 (Below.trod laidOut (by kernel_rfl) (of_decide_eq_true (by kernel_rfl)) h0 hb (fun y hy=>hlt y (by simp[hy]))) (Below.trod laidOut (by kernel_rfl) (of_decide_eq_true (by kernel_rfl)) h1 hb (fun y hy=>hlt y (by simp[hy]))) (Below.trod laidOut (by kernel_rfl) (of_decide_eq_true (by kernel_rfl)) h2 hb (fun y hy=>hlt y (by simp[hy]))),rfl,hb.frame _,fun h=>by cases h⟩
theorem indexSets_row:Rows.IndexSetsSaid :=
 OpenClaim.holds_of_wide 3 Tryz.f3 rfl rfl rfl rfl rfl rfl rfl ⟨rfl,rfl,rfl,rfl,rfl⟩ rfl rfl rfl rfl rfl (by kernel_rfl) Tryz.func3 (by kernel_rfl)
  (of_decide_eq_true (by kernel_rfl)) (by unfold Func.isWrapper;first|(rw[if_pos (by decide +kernel)];kernel_rfl)|(rw[if_neg (by decide +kernel)];exact⟨rfl,rfl⟩))
  (fun os started H enc _=>indexSets_lifted os started H enc)
theorem indexSets_holds:Rows.IndexSetsCardSaid :=
 Claim7.holds_tied_plain_at .later [] [.data, .pinned] true Rows.indexSetsCard.stood.harness Rows.indexSetsCard.stood.looks indexSets_row (fun _ h => by cases h) (by kernel_rfl) (fun _ h => by cases h) indexSets_row_tie rfl ⟨rfl, rfl⟩ (by kernel_rfl) rfl
  (fun f fn hf hfn=>by
    obtain rfl : f = 3 := Option.some.inj ((show Tryz.prog.funcNamed "typeball/typeballlaw11.IndexSets" = some 3 by kernel_rfl).symm.trans hf) |>.symm
    obtain rfl:fn=Tryz.f3:=(Option.some.inj (Tryz.func3.symm.trans hfn)).symm
    exact⟨by kernel_rfl,fun j t ht=>by
     rw[Tryz.params3]at ht;have hm:t ∈ [26,27]:=by simpa using Array.mem_of_getElem? ht
     have hall:([26,27].all fun u => !Tryz.prog.wantsStandIn u)=true:=by kernel_rfl
     exact(show Tryz.prog.wantsStandIn t=false by simpa using List.all_eq_true.1 hall t hm)⟩)
  (by kernel_rfl)
#print axioms indexSets_holds
end Go.Proofs.YtdmmenaejkpnjaaGreatDoor
