/-
  Texts of this seat, laid together.
-/
import Derived.ProofKit
import Derived.Carry
import Derived.Deep.Strs
import Derived.OpenShut
import Derived.Deep.Slices
import Derived.Lib.SmallJoins
import Derived.Shelf.Abstract
import Derived.StillTailTactics
import Derived.Lib.AppendZeros
import Derived.Laws.EntriesVeiled
import Derived.Laws.OwnMore
import Derived.Deep.RegionHeld3
import Derived.Deep.QuietTactic
import Derived.BigQuiet
import Derived.Test.YtdmmenaejkpnjaaGreatDoorI10
set_option maxHeartbeats 12800000
set_option maxRecDepth 100000
set_option linter.unusedSimpArgs false
set_option linter.unusedVariables false
namespace Go.Proofs.YtdmmenaejkpnjaaGreatDoor
open Go.RowKit
attribute [local go_sem ↓] Go.wp_at_zero Go.wp_at_succ
set_option linter.unusedVariables false
set_option linter.unusedSimpArgs false
theorem ZTo.far{w w':World}{b k n:Nat}{f:Nat->Int}(h:ZTo w b n f)(hf:Far k w w')(hne:b≠k):ZTo w' b n f:=by
 have hb:=hf.block b hne h.1;exact⟨Nat.lt_of_lt_of_le h.1 hf.size,fun o=>(World.frozen?_of_block (a:=⟨b,o,none⟩) hb).trans (h.2.1 o),fun j hj=>(World.cell?_of_block (a:=⟨b,j,none⟩) hb).trans (h.2.2 j hj)⟩
theorem QTo.far{w w':World}{b k n:Nat}{fB:Nat->Bool}{fS fT:Nat->ByteArray}(h:QTo w b n fB fS fT)(hf:Far k w w')(hne:b≠k):QTo w' b n fB fS fT:=by
 have hb:=hf.block b hne h.1;exact⟨Nat.lt_of_lt_of_le h.1 hf.size,fun o=>(World.frozen?_of_block (a:=⟨b,o,none⟩) hb).trans (h.2.1 o),fun j hj=>⟨(World.cell?_of_block (a:=⟨b,_,none⟩) hb).trans (h.2.2 j hj).1,(World.cell?_of_block (a:=⟨b,_,none⟩) hb).trans (h.2.2 j hj).2.1,(World.cell?_of_block (a:=⟨b,_,none⟩) hb).trans (h.2.2 j hj).2.2⟩⟩
theorem KRow.old{w0 w w':World}{ki:IntKind}{a:Option Addr}{n c b:Nat}{f:Nat->Int}(h:KRow w0 ki a n c f)(hb:w0.heap.size<=b)(hw:Below w0.heap.size w0 w)(hf:Far b w w'):KRow w' ki a n c f:=by
 refine(h.below hw).away ?_ hf
 rcases h.2.2 with h0|⟨x,off,rfl,hl,_⟩
 · exact .inl h0
 · exact .inr (fun y hy=>by cases hy;show x≠b;omega)
theorem QRow.old{w0 w w':World}{a:Option Addr}{n c b:Nat}{fB:Nat->Bool}{fS fT:Nat->ByteArray}(h:QRow w0 a n c fB fS fT)(hb:w0.heap.size<=b)(hw:Below w0.heap.size w0 w)(hf:Far b w w'):QRow w' a n c fB fS fT:=by
 refine(h.below hw).away ?_ hf
 rcases h.2.2 with h0|⟨x,off,rfl,hl,_⟩
 · exact .inl h0
 · exact .inr (fun y hy=>by cases hy;show x≠b;omega)
theorem hn3C{w Y0 wr:World}{b p n:Nat}{v:Value}{f:Nat->Int}(h1:∀v,Far b Y0 (wr.setCell ⟨b,p,none⟩ v))(h2:∀v,Below w.heap.size w (wr.setCell ⟨b,p,none⟩ v))(h:ZTo (wr.setCell ⟨b,p,none⟩ v) b n f):Hid (Far b Y0 (wr.setCell ⟨b,p,none⟩ v)/\Below w.heap.size w (wr.setCell ⟨b,p,none⟩ v)/\ZTo (wr.setCell ⟨b,p,none⟩ v) b n f):=Lib.hid ⟨h1 v,h2 v,h⟩
theorem hn3Q{w Y0 wr:World}{b p n:Nat}{x y z:Value}{fB:Nat->Bool}{fS fT:Nat->ByteArray}(h1:∀x y z,Far b Y0 (((wr.setCell ⟨b,p*3,none⟩ x).setCell ⟨b,p*3+1,none⟩ y).setCell ⟨b,p*3+2,none⟩ z))(h2:∀x y z,Below w.heap.size w (((wr.setCell ⟨b,p*3,none⟩ x).setCell ⟨b,p*3+1,none⟩ y).setCell ⟨b,p*3+2,none⟩ z))(h:QTo (((wr.setCell ⟨b,p*3,none⟩ x).setCell ⟨b,p*3+1,none⟩ y).setCell ⟨b,p*3+2,none⟩ z) b n fB fS fT):Hid (Far b Y0 (((wr.setCell ⟨b,p*3,none⟩ x).setCell ⟨b,p*3+1,none⟩ y).setCell ⟨b,p*3+2,none⟩ z)/\Below w.heap.size w (((wr.setCell ⟨b,p*3,none⟩ x).setCell ⟨b,p*3+1,none⟩ y).setCell ⟨b,p*3+2,none⟩ z)/\QTo (((wr.setCell ⟨b,p*3,none⟩ x).setCell ⟨b,p*3+1,none⟩ y).setCell ⟨b,p*3+2,none⟩ z) b n fB fS fT):=Lib.hid ⟨h1 x y z,h2 x y z,h⟩
theorem puF_put{α:Type}{G:Nat->Int}{V f:Nat->α}{k p:Nat}(hp:G k=(p:Int)):(fun q=>if q=p then V k else puF G V k f q)=puF G V (k+1) f:=by
 funext q
 show _=if (q:Int)=G k then V k else puF G V k f q
 rw[hp]
 by_cases e:q=p
 · rw[if_pos e,if_pos (by omega)]
 · rw[if_neg e,if_neg (by omega)]
theorem rset11_yes (p : Array Value) (S : Nat -> Int) (r : Nat) (ch : Bool) (L : Nat) (g : Nat -> Int) (fB : Nat -> Bool) (fS fT : Nat -> ByteArray) (p2 : Array Value) (S2 : Nat -> Int) (r2 : Nat) (L2 : Nat) (g2 : Nat -> Int) (fB2 : Nat -> Bool) (fS2 fT2 : Nat -> ByteArray) (o : Int) (al : Option Addr) (m cl : Nat) (E : Nat -> Sr) (D : Nat -> Sb) (w : World) (h : Pln w p S r ch L g fB fS fT) (h2 : Pln w p2 S2 r2 ch L2 g2 fB2 fS2 fT2) (hsh : shB S r = true) (hd : DRow w al m cl E) (hg : ∀ j, j < m -> (E j).good) (hD : (fun j => (E j).sb) = D) (hok : ∀ j, j < m -> (D j).ok) (ho : 0 <= o /\ o <= 1) (hm : m <= 20)
    (hE:ixE o S r D m=0) (hF:fiE r2 S2 (ixR D r) (ixT S D r)=0) (hM0:0<(itm (lnF (ixN S D)) r).toNat) (hL:itm S r=(L:Nat)) (hL2:itm S2 r2=(L2:Nat)) (hl4:L<=4096) :
    Calls Tryz.prog 13 #[.agg p,.agg p2,.int .i64 o,.slice al m cl] w fun e w'=>PoTold 0 S r ch L (puF (pkG S (lnF (ixN S D)) r (ixF o D)) (fun j=>g2 (j%L2)) (itm (lnF (ixN S D)) r).toNat g) (puF (pkG S (lnF (ixN S D)) r (ixF o D)) (fun j=>fB2 (j%L2)) (itm (lnF (ixN S D)) r).toNat fB) (puF (pkG S (lnF (ixN S D)) r (ixF o D)) (fun j=>fS2 (j%L2)) (itm (lnF (ixN S D)) r).toNat fS) (puF (pkG S (lnF (ixN S D)) r (ixF o D)) (fun j=>fT2 (j%L2)) (itm (lnF (ixN S D)) r).toNat fT) w w' e:=by
 obtain⟨sa,sc,ta,tc,na,nc,rfl,hk,ht,hn⟩:=h;obtain⟨sa2,sc2,ta2,tc2,na2,nc2,rfl,hk2,ht2,hn2⟩:=h2;have hl:=hk.len;have hl2:=hk2.len;have AX:=Lib.hid (fun a1 c1 wz q q2=>raxes_any a1 r c1 S o al m cl E wz q q2 hg (sh_small hsh) ho hm);rw[hD]at AX;have HD:=Lib.hid hd;have HK:=Lib.hid hk;have HK2:=Lib.hid hk2;have HT9:=Lib.hid ht;have HN9:=Lib.hid hn;have HT2:=Lib.hid ht2;have HN2:=Lib.hid hn2;have BB:=Lib.hid ((((Bag.start w).newRow (plC sa r sc ch ta (tnO ch L) tc na (nnO ch L) nc) 26).newRow (plC sa2 r2 sc2 ch ta2 (tnO ch L2) tc2 na2 (nnO ch L2) nc2) 26).newRow plZer 26);simp only[World.size_alloc]at BB;have x0:(((w.alloc (.cells (plC sa r sc ch ta (tnO ch L) tc na (nnO ch L) nc) 26)).alloc (.cells (plC sa2 r2 sc2 ch ta2 (tnO ch L2) tc2 na2 (nnO ch L2) nc2) 26)).alloc (.cells plZer 26)).cell? ⟨w.heap.size,0,none⟩=some (.slice sa r sc):=BB.out.now.2.2.1.cell 0;unfold plC plZer at x0;unfold plC;unfold AxsTold at AX
 have AX:Hid (∀a1 c1 wz,KRow wz .i64 a1 r c1 S->DRow wz al m cl E->Calls Tryz.prog 49 #[.slice a1 r c1,.int .i64 o,.slice al m cl] wz fun e w'=>∃a c la lc A C,e=.returned (.tuple #[.slice a (ixR D r) c,.slice la r lc,.int .i64 0])/\KRow w' .i64 a (ixR D r) c (ixT S D r)/\LRow w' la r lc A (ixN S D) C (fun j q=>ixF o D j q+o)/\Below wz.heap.size wz w'):=Lib.hid (fun a1 c1 wz q q2=>(AX.out a1 c1 wz q q2).mono (fun e w' q=>by
  obtain⟨a,c,la,lc,A,C,e1,e2,e3⟩:=q.2.1 hE
  exact⟨a,c,la,lc,A,C,e1,e2,e3,q.2.2⟩))
 have PLS:=Lib.hid (fun a c aL cL A C wz q q2=>rplaces_ok (o:=o) hsh hok hE a c aL cL A C wz q q2);have SM:=Lib.hid (fun a1 c1 a3 n3 c3 wz q q2=>r6Same_any a1 r2 c1 S2 a3 n3 c3 (ixT S D r) wz q q2);obtain⟨hpos,hMT,hM4⟩:=ix_pos hsh hL hok hE;have HKI:=Lib.hid (fun k (hk:k<(itm (lnF (ixN S D)) r).toNat)=>fi_at hF hL2 hMT hk);have hLL:=fi_lt hF hL2 hMT hM0;have HPOS:=Lib.hid hpos;have hr8:=(sh_ax hsh).1;clear hE hsh hg hD hok hk hd ht hn hk2 ht2 hn2 hMT hpos hL hL2;obtain⟨R,hR⟩:∃z,ixR D r=z:=⟨_,rfl⟩
 obtain⟨T,hT⟩:∃z,ixT S D r=z:=⟨_,rfl⟩
 obtain⟨M,hM9⟩:∃z,(itm (lnF (ixN S D)) r).toNat=z:=⟨_,rfl⟩
 obtain⟨GX,hGX⟩:∃z,(pkG S (lnF (ixN S D)) r (ixF o D))=z:=⟨_,rfl⟩
 rw[hR,hT]at AX hF;rw[hT]at SM;rw[hM9,hGX]at PLS HPOS;rw[hM9]at hM4 hM0 HKI;rw[hM9,hGX];clear hR hT hM9 hGX;unfold SameTold at SM;have HFF:=Lib.hid hF;have HM0:=Lib.hid hM0;clear hF;go_enter Tryz.func13,Tryz.ntmps13;go_wp2_with fail;go_at_call 49
 (refine(AX.out _ _ _ (HK.out.below BB.out.below) (HD.out.below BB.out.below)).mono ?_)
 rintro e w2 ⟨ya,yc,la,lc,A9,C9,rfl,hT,hLL9,hb2⟩;clear x0;have hT8:=hT.len;have BB:=bgo BB hb2;have HT:=Lib.hid hT;have HLL:=Lib.hid hLL9;clear hT hLL9 hb2 AX HD;have x0:w2.cell? ⟨w.heap.size,0,none⟩=some (.slice sa r sc):=BB.out.now.2.2.1.cell 0;have x1:w2.cell? ⟨w.heap.size,1,none⟩=some (.bool ch):=BB.out.now.2.2.1.cell 1;have y0:w2.cell? ⟨w.heap.size+1,0,none⟩=some (.slice sa2 r2 sc2):=BB.out.now.2.1.cell 0;have y1:w2.cell? ⟨w.heap.size+1,1,none⟩=some (.bool ch):=BB.out.now.2.1.cell 1
 by_cases h0:r2=0
 case pos =>
  have HKJ:Hid (∀k,k<M->k%L2=0):=Lib.hid (fun k hk=>by rw[HKI.out k hk,if_pos h0]);clear HKI;have HKI:=HKJ;clear HKJ;subst h0;clear SM HT HFF;clear x0 x1 y0 y1;have x0:w2.cell? ⟨w.heap.size,0,none⟩=some (.slice sa r sc):=BB.out.now.2.2.1.cell 0;have x1:w2.cell? ⟨w.heap.size,1,none⟩=some (.bool ch):=BB.out.now.2.2.1.cell 1;have y0:w2.cell? ⟨w.heap.size+1,0,none⟩=some (.slice sa2 0 sc2):=BB.out.now.2.1.cell 0;have y1:w2.cell? ⟨w.heap.size+1,1,none⟩=some (.bool ch):=BB.out.now.2.1.cell 1;go_wp2_with fail;go_at_call 50
  (refine(PLS.out _ _ _ _ _ _ _ (HK.out.below BB.out.below) HLL.out).mono ?_)
  rintro e w4 ⟨pa,pc,rfl,hG,hb4⟩;have BB:=bgo BB hb4;have hG8:=hG.len;have dm:((M:Int)==0)=false:=beq_eq_false_iff_ne.2 (by omega);have HG:=Lib.hid hG;clear hb4 hG HLL PLS x0 x1 y0 y1;have x0:w4.cell? ⟨w.heap.size,0,none⟩=some (.slice sa r sc):=BB.out.now.2.2.1.cell 0;have x1:w4.cell? ⟨w.heap.size,1,none⟩=some (.bool ch):=BB.out.now.2.2.1.cell 1;have y0:w4.cell? ⟨w.heap.size+1,0,none⟩=some (.slice sa2 0 sc2):=BB.out.now.2.1.cell 0;have y1:w4.cell? ⟨w.heap.size+1,1,none⟩=some (.bool ch):=BB.out.now.2.1.cell 1;go_wp2_with fail;have hbw:=BB.out.below;have BZ:=Lib.hid ((((Bag.start w4).row BB.out.now.2.2.1).row BB.out.now.2.1).row BB.out.now.1);have KP:=Lib.hid (HK.out.below hbw);have TP:=Lib.hid (HT9.out.below hbw);have NP:=Lib.hid (HN9.out.below hbw);have TV2:=Lib.hid (HT2.out.below hbw);have NV2:=Lib.hid (HN2.out.below hbw);have HBW:=Lib.hid hbw;have hs2:w.heap.size+1+1<w4.heap.size:=BB.out.now.1.lt;have ht9:tnO ch L<=L:=(nnO_le ch L).2;have hn9:nnO ch L<=L:=(nnO_le ch L).1;have APC:=Lib.hid (fun yw k (hb:Below w4.heap.size w4 yw)=>app_newC yw w4.heap.size k (TP.out.below hb) (by omega) hb.size);have APQ:=Lib.hid (fun yw k (hb:Below w4.heap.size w4 yw)=>app_newQ yw w4.heap.size k (NP.out.below hb) (by omega) hb.size);clear hbw BB HK HK2 HT9 HN9 HT2 HN2
  cases ch with
  | false =>
   simp only[show tnO false L=0 from rfl,show nnO false L=L from rfl,show tnO false L2=0 from rfl,show nnO false L2=L2 from rfl]at *
   refine wp_region_inv3 ⟨(fun j=>([[70], [71], [72], [73], [74], [75], [76], [77], [78], [79], [80], [81], [82], [14], []]:List (List Nat)).getD j []),(fun j=>([[], [0], [], [2], [], [], [5], [4,5,6], [], [], [9], [4,5,6,7,8,9,10], [0,1,2,3,4,5,6,7,8,9,10,11], [], [0,1,2,3,4,5,6,7,8,9,10,11,12,13]]:List (List Nat)).getD j []), [4,8,13]⟩ 14 (fun jj vv yy=>match jj with|0=>vv = [some (.pointer (some ⟨w.heap.size,0,none⟩))]|1=>vv = [some (.slice sa r sc)]|2=>vv = [some (.pointer (some ⟨w.heap.size,1,none⟩))]|3=>vv = [some (.bool false)]|4=>∃(k4:Nat),vv = [some (.slice (some ⟨k4,0,none⟩) 0 0)]|5=>vv = [some (.pointer (some ⟨w.heap.size,2,none⟩))]|6=>vv = [some (.slice ta 0 tc)]|7=>∃(a7:Option Addr),∃(c7:Nat),vv = [some (.slice a7 0 c7)]/\FrC yy w4.heap.size a7 0 c7 g|8=>∃(k8:Nat),vv = [some (.slice (some ⟨k8,0,none⟩) 0 0)]|9=>vv = [some (.pointer (some ⟨w.heap.size,3,none⟩))]|10=>vv = [some (.slice na L nc)]|11=>∃(a11:Option Addr),∃(c11:Nat),vv = [some (.slice a11 L c11)]/\FrQ yy w4.heap.size a11 L c11 fB fS fT|12=>∃(a7:Option Addr),∃(c7:Nat),∃(a11:Option Addr),∃(c11:Nat),vv = [some (.agg #[.slice sa r sc,.bool false,.slice a7 0 c7,.slice a11 L c11])]/\FrC yy w4.heap.size a7 0 c7 g/\FrQ yy w4.heap.size a11 L c11 fB fS fT|13=>∃(k13:Nat),vv = [some (.pointer (some ⟨k13,0,none⟩))]/\Row yy k13 26 #[.slice none 0 0,.bool false,.slice none 0 0,.slice none 0 0]/\w4.heap.size<=k13|_=>True) (Bag w4 (fun y=>Row y (w.heap.size+1+1) 26 plZer/\Row y (w.heap.size+1) 26 (plC sa2 0 sc2 false ta2 0 tc2 na2 L2 nc2)/\Row y w.heap.size 26 (plC sa r sc false ta 0 tc na L nc)/\True)) (by kernel_rfl) (by kernel_rfl) (by kernel_rfl) (by kernel_rfl) BZ.out.drew ?_ ?_ ?_
   · intro jj vv yw yw2 hb h
     match jj,h with
     | 0,h=>exact h
     | 1,h=>exact h
     | 2,h=>exact h
     | 3,h=>exact h
     | 4,h=>exact h
     | 5,h=>exact h
     | 6,h=>exact h
     | 7,⟨a7,c7,e7,g7_0⟩=>exact Exists.intro a7 (Exists.intro c7 (And.intro e7 (g7_0.below hb)))
     | 8,h=>exact h
     | 9,h=>exact h
     | 10,h=>exact h
     | 11,⟨a11,c11,e11,g11_0⟩=>exact Exists.intro a11 (Exists.intro c11 (And.intro e11 (g11_0.below hb)))
     | 12,⟨a7,c7,a11,c11,e12,g12_0,g12_1⟩=>exact Exists.intro a7 (Exists.intro c7 (Exists.intro a11 (Exists.intro c11 (And.intro e12 (And.intro (g12_0.below hb) (g12_1.below hb))))))
     | 13,⟨k13,e13,g13_0,g13_1⟩=>exact Exists.intro k13 (And.intro e13 (And.intro (g13_0.below hb) g13_1))
     | _+14,h=>exact h
   · intro ac yw hsz hdf hold hB hp; obtain ⟨P, e13, hp0, hP⟩ := hp 13 (by decide); obtain ⟨a7, c7, a11, c11, e12, fr7, fr11⟩ := hp 12 (by decide); have t14 : ac.tmps[14]? = some (.pointer (some ⟨P, 0, none⟩)) := (List.cons.inj e13).1; have t82 : ac.tmps[82]? = some (.agg #[.slice sa r sc, .bool false, .slice a7 0 c7, .slice a11 L c11]) := (List.cons.inj e12).1; have t4 : ac.tmps[4]? = some (.pointer (some ⟨w.heap.size, 0, none⟩)) := hold 4 (by kernel_rfl); have t5 : ac.tmps[5]? = some (.pointer (some ⟨w.heap.size + 1, 0, none⟩)) := hold 5 (by kernel_rfl); have t8 : ac.tmps[8]? = some (.pointer (some ⟨w.heap.size + 1 + 1, 0, none⟩)) := hold 8 (by kernel_rfl); have t13 : ac.tmps[13]? = some (.slice pa M pc) := hold 13 (by kernel_rfl); clear hold hp e12 e13; obtain ⟨TV, hTV⟩ : ∃ TV : Nat -> Value, ∀ i, (ac.tmps[i]?).getD undef = TV i := ⟨_, fun _ => rfl⟩
     have f4:=(hTV 4).symm.trans (congrArg (fun x=>Option.getD x undef) t4);have f5:=(hTV 5).symm.trans (congrArg (fun x=>Option.getD x undef) t5);have f8:=(hTV 8).symm.trans (congrArg (fun x=>Option.getD x undef) t8);have f13:=(hTV 13).symm.trans (congrArg (fun x=>Option.getD x undef) t13);have f14:=(hTV 14).symm.trans (congrArg (fun x=>Option.getD x undef) t14);have f82:=(hTV 82).symm.trans (congrArg (fun x=>Option.getD x undef) t82);have hac:=act_eq (n:=121) hsz TV hTV;rw[show((List.range 121).map TV).toArray=#[TV 0,TV 1,TV 2,TV 3,TV 4,TV 5,TV 6,TV 7,TV 8,TV 9,TV 10,TV 11,TV 12,TV 13,TV 14,TV 15,TV 16,TV 17,TV 18,TV 19,TV 20,TV 21,TV 22,TV 23,TV 24,TV 25,TV 26,TV 27,TV 28,TV 29,TV 30,TV 31,TV 32,TV 33,TV 34,TV 35,TV 36,TV 37,TV 38,TV 39,TV 40,TV 41,TV 42,TV 43,TV 44,TV 45,TV 46,TV 47,TV 48,TV 49,TV 50,TV 51,TV 52,TV 53,TV 54,TV 55,TV 56,TV 57,TV 58,TV 59,TV 60,TV 61,TV 62,TV 63,TV 64,TV 65,TV 66,TV 67,TV 68,TV 69,TV 70,TV 71,TV 72,TV 73,TV 74,TV 75,TV 76,TV 77,TV 78,TV 79,TV 80,TV 81,TV 82,TV 83,TV 84,TV 85,TV 86,TV 87,TV 88,TV 89,TV 90,TV 91,TV 92,TV 93,TV 94,TV 95,TV 96,TV 97,TV 98,TV 99,TV 100,TV 101,TV 102,TV 103,TV 104,TV 105,TV 106,TV 107,TV 108,TV 109,TV 110,TV 111,TV 112,TV 113,TV 114,TV 115,TV 116,TV 117,TV 118,TV 119,TV 120]from rfl,f4,f5,f8,f13,f14,f82,hdf]at hac;simp only[Option.getD_some]at hac;subst hac;clear hTV f4 f5 f8 f13 f14 f82
     have hL0:0<L:=by
      have:=HPOS.out 0 HM0.out
      omega
     obtain⟨b,rfl,hbB,ZA⟩:=fr11.2.2 hL0;have HCA:=Lib.hid (And.intro fr11.1 fr11.2.1);have HEM:=Lib.hid fr7.2.1
     have hbP:b≠P:=fun e=>by
      have h9:=(ZA.2.2 0 hL0).1;rw[e]at h9;rw[hp0.cell 0]at h9
      cases h9
     have HF4:=far_put4 yw P (.slice sa r sc) (.bool false) (.slice a7 0 c7) (.slice (some ⟨b,0,none⟩) L c11)
     have HY:Hid (Below w4.heap.size w4 (put4 yw P (.slice sa r sc) (.bool false) (.slice a7 0 c7) (.slice (some ⟨b,0,none⟩) L c11))/\Row (put4 yw P (.slice sa r sc) (.bool false) (.slice a7 0 c7) (.slice (some ⟨b,0,none⟩) L c11)) P 26 (plC sa r sc false a7 0 c7 (some ⟨b,0,none⟩) L c11)/\Row (put4 yw P (.slice sa r sc) (.bool false) (.slice a7 0 c7) (.slice (some ⟨b,0,none⟩) L c11)) (w.heap.size+1+1) 26 plZer/\Row (put4 yw P (.slice sa r sc) (.bool false) (.slice a7 0 c7) (.slice (some ⟨b,0,none⟩) L c11)) (w.heap.size+1) 26 (plC sa2 0 sc2 false ta2 0 tc2 na2 L2 nc2)/\Row (put4 yw P (.slice sa r sc) (.bool false) (.slice a7 0 c7) (.slice (some ⟨b,0,none⟩) L c11)) w.heap.size 26 (plC sa r sc false ta 0 tc na L nc)/\QTo (put4 yw P (.slice sa r sc) (.bool false) (.slice a7 0 c7) (.slice (some ⟨b,0,none⟩) L c11)) b L fB fS fT) :=
      Lib.hid ⟨below_put4 hB.below hP _ _ _ _,row_put4 hp0 _ _ _ _,(HF4.block _ (by omega) hB.now.1.lt).trans hB.now.1,(HF4.block _ (by omega) hB.now.2.1.lt).trans hB.now.2.1,(HF4.block _ (by omega) hB.now.2.2.1.lt).trans hB.now.2.2.1,ZA.far HF4 hbP⟩
     unfold put4 at HY;have q0:yw.cell? ⟨P,0,none⟩=some (.slice none 0 0):=hp0.cell 0;have q1:yw.cell? ⟨P,1,none⟩=some (.bool false):=hp0.cell 1;have q2:yw.cell? ⟨P,2,none⟩=some (.slice none 0 0):=hp0.cell 2;have q3:yw.cell? ⟨P,3,none⟩=some (.slice none 0 0):=hp0.cell 3;have f0:=hp0.free 0;have f1:=hp0.free 1;have f2:=hp0.free 2;have f3:=hp0.free 3;have HPP:=Lib.hid (And.intro hP hs2);clear HF4 hp0 hB fr7 fr11 ZA t4 t5 t8 t13 t14 t82 hsz APC APQ BZ hP TP NP;refine TailWp.step rfl ?_;intro K hK;go_simp;refine hK.out _ _ ?_;refine TailWp.end rfl ?_;generalize (((yw.setCell ⟨P,0,none⟩ (.slice sa r sc)).setCell ⟨P,1,none⟩ (.bool false)).setCell ⟨P,2,none⟩ (.slice a7 0 c7)).setCell ⟨P,3,none⟩ (.slice (some ⟨b,0,none⟩) L c11)=Y0 at *;clear q0 q1 q2 q3 f0 f1 f2 f3;go_wp2_with fail
     go_loopw [15] (fun i wr=>∃k:Nat,k<=M/\i=.int .i64 k/\Hid (Far b Y0 wr/\Below w.heap.size w wr/\QTo wr b L (puF GX (fun j=>fB2 (j%L2)) k fB) (puF GX (fun j=>fS2 (j%L2)) k fS) (puF GX (fun j=>fT2 (j%L2)) k fT))) (fun i _=>M-(intOf i).toNat)
     case atStart=>exact⟨0,by omega,rfl,Far.refl _ _,HBW.out.trans (HY.out.1.mono HBW.out.size),HY.out.2.2.2.2.2⟩
     case round =>
      obtain⟨k,hk,rfl,hrel⟩:=hrel;obtain⟨hfar,hbl,hz⟩:=hrel.out;obtain⟨hbY,hr14,hr8,hrV,hrP,_⟩:=HY.out;obtain⟨hP,hs9⟩:=HPP.out;have r14:Row wr P 26 (plC sa r sc false a7 0 c7 (some ⟨b,0,none⟩) L c11):=(hfar.block _ (fun e=>hbP e.symm) hr14.lt).trans hr14;have rV:Row wr (w.heap.size+1) 26 (plC sa2 0 sc2 false ta2 0 tc2 na2 L2 nc2):=(hfar.block _ (by omega) hrV.lt).trans hrV;have rP:Row wr w.heap.size 26 (plC sa r sc false ta 0 tc na L nc):=(hfar.block _ (by omega) hrP.lt).trans hrP
      by_cases hlt:k<M
      · have KG:=HG.out.old hbB hbY hfar;obtain⟨bg,og,rfl,_,cg⟩:=KG.get hlt;obtain⟨gx0,gx1⟩:=HPOS.out k hlt;obtain⟨p,hp⟩:∃p:Nat,GX k=(p:Int):=⟨(GX k).toNat,by omega⟩
        have hpL:p<L:=by omega
        rw[hp]at cg;have hq:k%L2<L2:=Nat.mod_lt _ hLL;have T2:=NV2.out.old hbB hbY hfar;obtain⟨b2,o2,rfl,_,c2,c3,c4⟩:=T2.get hq;have BD:Below wr.heap.size wr wr.drew:=(Below.refl _ wr).drew;have HN:=QTo.put (hz.below BD) hpL (fB2 (k%L2)) (fS2 (k%L2)) (fT2 (k%L2));rw[puF_put (V:=fun j=>fB2 (j%L2)) hp,puF_put (V:=fun j=>fS2 (j%L2)) hp,puF_put (V:=fun j=>fT2 (j%L2)) hp]at HN;rw[HKI.out k hlt]at HN;have dj:True/\((k:Int)<(L2:Int)∨True):=⟨trivial,.inr trivial⟩
        have HNN:=hn3Q (w:=w) (Y0:=Y0) (fun _ _ _=>(hfar.trans (Far.of_below BD)).trans (((Far.setCell _ _ _ _).trans (Far.setCell _ _ _ _)).trans (Far.setCell _ _ _ _))) (fun _ _ _=>(((hbl.trans (BD.mono hbl.size)).setCell (p:=⟨b,p*3,none⟩) (show w.heap.size<=b by omega) _).setCell (p:=⟨b,p*3+1,none⟩) (show w.heap.size<=b by omega) _).setCell (p:=⟨b,p*3+2,none⟩) (show w.heap.size<=b by omega) _) HN;have p2:wr.drew.cell? ⟨P,3,none⟩=some (.slice (some ⟨b,0,none⟩) L c11):=r14.cell 3;have v0:wr.drew.cell? ⟨w.heap.size+1,0,none⟩=some (.slice sa2 0 sc2):=rV.cell 0;have v2:wr.drew.cell? ⟨w.heap.size+1,3,none⟩=some (.slice (some ⟨b2,o2,none⟩) L2 nc2):=rV.cell 3;have p1:wr.drew.cell? ⟨w.heap.size,1,none⟩=some (.bool false):=rP.cell 1;have u0:wr.cell? ⟨w.heap.size+1,0,none⟩=some (.slice sa2 0 sc2):=rV.cell 0;have u1:wr.cell? ⟨w.heap.size,1,none⟩=some (.bool false):=rP.cell 1;have dk0:(0:Int)<=k:=by omega
        have dk1:(k:Int)<M:=by omega
        have dp0:(0:Int)<=(p:Int):=by omega
        have dp1:(p:Int)<(L:Int):=by omega
        have dj0:(0:Int)<(L2:Int):=by omega
        try (have dj1:(k:Int)<(L2:Int):=by(have h9:=HKI.out k hlt;have:=Nat.mod_lt k hLL;omega))
        obtain⟨z1,z2,z3⟩:=hz.2.2 p hpL;have z1:wr.drew.cell? ⟨b,p*3,none⟩=some (.bool _):=z1;have z2:wr.drew.cell? ⟨b,p*3+1,none⟩=some (.string _):=z2;have z3:wr.drew.cell? ⟨b,p*3+2,none⟩=some (.string _):=z3;have fb1:wr.drew.frozen? ⟨b,p*3,none⟩=false:=hz.2.1 _;have fb2:wr.drew.frozen? ⟨b,p*3+1,none⟩=false:=hz.2.1 _;have fb3:wr.drew.frozen? ⟨b,p*3+2,none⟩=false:=hz.2.1 _;have c2:wr.drew.cell? ⟨b2,o2+k%L2*3,none⟩=some (.bool (fB2 (k%L2))):=c2;have c3:wr.drew.cell? ⟨b2,o2+k%L2*3+1,none⟩=some (.string (fS2 (k%L2))):=c3;have c4:wr.drew.cell? ⟨b2,o2+k%L2*3+2,none⟩=some (.string (fT2 (k%L2))):=c4;have cg:wr.drew.cell? ⟨bg,og+k,none⟩=some (.int .i64 (p:Int)):=cg;rw[HKI.out k hlt]at c2 c3 c4
        try rw[Nat.zero_mul,Nat.add_zero]at c2 c3 c4
        clear KG T2 BD HN hfar hbl hz hbY hr14 hr8 hrV hrP r14 rV rP gx0 gx1 hp hpL hq hrel hP hs9 dj;go_wp2_with fail
        go_still_tail 12,(by kernel_rfl)
        change wpList _ _ _ _ _ wr.drew
        clear u0 u1;generalize wr.drew=Y2 at *;go_wp2
        go_roundw
        case rel=>exact⟨k+1,by omega,by go_num,HNN.out⟩
        case measure=>simp[intOf];omega
      · obtain rfl:k=M:=by omega
        have r8:Row wr (w.heap.size+1+1) 26 plZer:=(hfar.block _ (by omega) hr8.lt).trans hr8;have hks:=KP.out.old hbB hbY hfar;have hp9:Pln wr (plC sa r sc false a7 0 c7 (some ⟨b,0,none⟩) L c11) S r false L (puF GX (fun j=>g2 (j%L2)) k g) (puF GX (fun j=>fB2 (j%L2)) k fB) (puF GX (fun j=>fS2 (j%L2)) k fS) (puF GX (fun j=>fT2 (j%L2)) k fT):=⟨sa,sc,a7,c7,some ⟨b,0,none⟩,c11,rfl,hks,KRow.nought _ _ _ _ HEM.out _,hz.qrow HCA.out.1 HCA.out.2⟩
        have HE:=Lib.hid (PoTold.yes (hp9.put r8 _) (below_put hbl (show w.heap.size<=w.heap.size+1+1 by omega) (plC sa r sc false a7 0 c7 (some ⟨b,0,none⟩) L c11)));have HR0:=Lib.hid r8;have HRP:=Lib.hid r14;clear hfar hbl hz hbY hr14 hr8 hrV hrP r14 rV rP hks hp9 r8 hrel hP hs9
        go_wp2_with (first
         | (refine ld_pln rfl (.tmp 14) rfl P rfl HRP.out ?_)
         | (refine st_pln rfl (.tmp 8) (.tmp 120) rfl (w.heap.size+1+1) rfl _ _ _ _ _ _ _ _ _ _ rfl HR0.out rfl ?_))
        exact bodyPost_ret (res_pln2 Tryz.results13 rfl rfl (HR0.out.put _) rfl) rfl HE.out
   refine Stps2.cons (o:=_) ?_ ?_
   · intro ac yw hsz hold hB hp K hK;have t4:ac.tmps[4]? = some (.pointer (some ⟨w.heap.size,0,none⟩)):=hold 4 (by kernel_rfl);clear hold hp hsz;go_simp;exact hK.out _ _ ⟨hB,rfl,Nat.le_refl _,.inl (Below.refl _ _),fun h=>absurd h (by decide)⟩
   refine Stps2.cons (o:=_) ?_ ?_
   · intro ac yw hsz hold hB hp K hK;have e0:=hp 0 (by decide);have t70:ac.tmps[70]? = some (.pointer (some ⟨w.heap.size,0,none⟩)):=(List.cons.inj e0).1;clear hold hp hsz e0;have v0:yw.cell? ⟨w.heap.size,0,none⟩=some (.slice sa r sc):=hB.now.2.2.1.cell 0;have v1:yw.cell? ⟨w.heap.size,1,none⟩=some (.bool false):=hB.now.2.2.1.cell 1;have v2:yw.cell? ⟨w.heap.size,2,none⟩=some (.slice ta 0 tc):=hB.now.2.2.1.cell 2;have v3:yw.cell? ⟨w.heap.size,3,none⟩=some (.slice na L nc):=hB.now.2.2.1.cell 3;go_simp;exact hK.out _ _ ⟨hB,rfl,Nat.le_refl _,.inl (Below.refl _ _),fun h=>absurd h (by decide)⟩
   refine Stps2.cons (o:=_) ?_ ?_
   · intro ac yw hsz hold hB hp K hK;have t4:ac.tmps[4]? = some (.pointer (some ⟨w.heap.size,0,none⟩)):=hold 4 (by kernel_rfl);clear hold hp hsz;go_simp;exact hK.out _ _ ⟨hB,rfl,Nat.le_refl _,.inl (Below.refl _ _),fun h=>absurd h (by decide)⟩
   refine Stps2.cons (o:=_) ?_ ?_
   · intro ac yw hsz hold hB hp K hK;have e2:=hp 2 (by decide);have t72:ac.tmps[72]? = some (.pointer (some ⟨w.heap.size,1,none⟩)):=(List.cons.inj e2).1;clear hold hp hsz e2;have v0:yw.cell? ⟨w.heap.size,0,none⟩=some (.slice sa r sc):=hB.now.2.2.1.cell 0;have v1:yw.cell? ⟨w.heap.size,1,none⟩=some (.bool false):=hB.now.2.2.1.cell 1;have v2:yw.cell? ⟨w.heap.size,2,none⟩=some (.slice ta 0 tc):=hB.now.2.2.1.cell 2;have v3:yw.cell? ⟨w.heap.size,3,none⟩=some (.slice na L nc):=hB.now.2.2.1.cell 3;go_simp;exact hK.out _ _ ⟨hB,rfl,Nat.le_refl _,.inl (Below.refl _ _),fun h=>absurd h (by decide)⟩
   refine Stps2.cons (o:=_) ?_ ?_
   · intro ac yw hsz hold hB hp K hK;clear hold hp hsz;have hbz:Below yw.heap.size yw (yw.alloc (.cells #[] 21))/\yw.heap.size<(yw.alloc (.cells #[] 21)).heap.size:=⟨(Below.refl _ _).alloc (Nat.le_refl _) _,by rw[World.size_alloc];omega⟩
     go_simp;exact hK.out _ _ ⟨hB.alloc _,Exists.intro yw.heap.size (rfl),Nat.le_of_lt hbz.2,.inl hbz.1,fun _=>⟨_,rfl,Nat.le_refl _,hbz.2⟩⟩
   refine Stps2.cons (o:=_) ?_ ?_
   · intro ac yw hsz hold hB hp K hK;have t4:ac.tmps[4]? = some (.pointer (some ⟨w.heap.size,0,none⟩)):=hold 4 (by kernel_rfl);clear hold hp hsz;go_simp;exact hK.out _ _ ⟨hB,rfl,Nat.le_refl _,.inl (Below.refl _ _),fun h=>absurd h (by decide)⟩
   refine Stps2.cons (o:=_) ?_ ?_
   · intro ac yw hsz hold hB hp K hK;have e5:=hp 5 (by decide);have t75:ac.tmps[75]? = some (.pointer (some ⟨w.heap.size,2,none⟩)):=(List.cons.inj e5).1;clear hold hp hsz e5;have v0:yw.cell? ⟨w.heap.size,0,none⟩=some (.slice sa r sc):=hB.now.2.2.1.cell 0;have v1:yw.cell? ⟨w.heap.size,1,none⟩=some (.bool false):=hB.now.2.2.1.cell 1;have v2:yw.cell? ⟨w.heap.size,2,none⟩=some (.slice ta 0 tc):=hB.now.2.2.1.cell 2;have v3:yw.cell? ⟨w.heap.size,3,none⟩=some (.slice na L nc):=hB.now.2.2.1.cell 3;go_simp;exact hK.out _ _ ⟨hB,rfl,Nat.le_refl _,.inl (Below.refl _ _),fun h=>absurd h (by decide)⟩
   refine Stps2.cons (o:=_) ?_ ?_
   · intro ac yw hsz hold hB hp K hK;obtain⟨k4_4,e4⟩:=hp 4 (by decide);have t74:ac.tmps[74]? = some (.slice (some ⟨k4_4,0,none⟩) 0 0):=(List.cons.inj e4).1;have e6:=hp 6 (by decide);have t76:ac.tmps[76]? = some (.slice ta 0 tc):=(List.cons.inj e6).1;clear hold hp hsz;rw[if_pos (by rfl)];obtain⟨a9,c9,y9,r9,b9,h9⟩:=APC.out yw k4_4 hB.below;refine Go.Lib.wp_append_run yw (.tmp 74) (.tmp 76) _ _ rfl _ _ (ev_tmp t74) (ev_tmp t76) _ _ r9 ?_;exact hK.out _ _ ⟨hB.go b9,Exists.intro a9 (Exists.intro c9 (And.intro rfl h9)),b9.size,.inl b9,fun h=>absurd h (by decide)⟩
   refine Stps2.cons (o:=_) ?_ ?_
   · intro ac yw hsz hold hB hp K hK;clear hold hp hsz;have hbz:Below yw.heap.size yw (yw.alloc (.cells #[] 46))/\yw.heap.size<(yw.alloc (.cells #[] 46)).heap.size:=⟨(Below.refl _ _).alloc (Nat.le_refl _) _,by rw[World.size_alloc];omega⟩
     go_simp;exact hK.out _ _ ⟨hB.alloc _,Exists.intro yw.heap.size (rfl),Nat.le_of_lt hbz.2,.inl hbz.1,fun _=>⟨_,rfl,Nat.le_refl _,hbz.2⟩⟩
   refine Stps2.cons (o:=_) ?_ ?_
   · intro ac yw hsz hold hB hp K hK;have t4:ac.tmps[4]? = some (.pointer (some ⟨w.heap.size,0,none⟩)):=hold 4 (by kernel_rfl);clear hold hp hsz;go_simp;exact hK.out _ _ ⟨hB,rfl,Nat.le_refl _,.inl (Below.refl _ _),fun h=>absurd h (by decide)⟩
   refine Stps2.cons (o:=_) ?_ ?_
   · intro ac yw hsz hold hB hp K hK;have e9:=hp 9 (by decide);have t79:ac.tmps[79]? = some (.pointer (some ⟨w.heap.size,3,none⟩)):=(List.cons.inj e9).1;clear hold hp hsz e9;have v0:yw.cell? ⟨w.heap.size,0,none⟩=some (.slice sa r sc):=hB.now.2.2.1.cell 0;have v1:yw.cell? ⟨w.heap.size,1,none⟩=some (.bool false):=hB.now.2.2.1.cell 1;have v2:yw.cell? ⟨w.heap.size,2,none⟩=some (.slice ta 0 tc):=hB.now.2.2.1.cell 2;have v3:yw.cell? ⟨w.heap.size,3,none⟩=some (.slice na L nc):=hB.now.2.2.1.cell 3;go_simp;exact hK.out _ _ ⟨hB,rfl,Nat.le_refl _,.inl (Below.refl _ _),fun h=>absurd h (by decide)⟩
   refine Stps2.cons (o:=_) ?_ ?_
   · intro ac yw hsz hold hB hp K hK;obtain⟨k8_8,e8⟩:=hp 8 (by decide);have t78:ac.tmps[78]? = some (.slice (some ⟨k8_8,0,none⟩) 0 0):=(List.cons.inj e8).1;have e10:=hp 10 (by decide);have t80:ac.tmps[80]? = some (.slice na L nc):=(List.cons.inj e10).1;clear hold hp hsz;rw[if_pos (by rfl)];obtain⟨a9,c9,y9,r9,b9,h9⟩:=APQ.out yw k8_8 hB.below;refine Go.Lib.wp_append_run yw (.tmp 78) (.tmp 80) _ _ rfl _ _ (ev_tmp t78) (ev_tmp t80) _ _ r9 ?_;exact hK.out _ _ ⟨hB.go b9,Exists.intro a9 (Exists.intro c9 (And.intro rfl h9)),b9.size,.inl b9,fun h=>absurd h (by decide)⟩
   refine Stps2.cons (o:=_) ?_ ?_
   · intro ac yw hsz hold hB hp K hK;have e1:=hp 1 (by decide);have t71:ac.tmps[71]? = some (.slice sa r sc):=(List.cons.inj e1).1;have e3:=hp 3 (by decide);have t73:ac.tmps[73]? = some (.bool false):=(List.cons.inj e3).1;obtain⟨a7_7,c7_7,e7,g7_0⟩:=hp 7 (by decide);have t77:ac.tmps[77]? = some (.slice a7_7 0 c7_7):=(List.cons.inj e7).1;obtain⟨a11_11,c11_11,e11,g11_0⟩:=hp 11 (by decide);have t81:ac.tmps[81]? = some (.slice a11_11 L c11_11):=(List.cons.inj e11).1;clear hold hp hsz e1 e3 e7 e11;go_simp;exact hK.out _ _ ⟨hB,Exists.intro a7_7 (Exists.intro c7_7 (Exists.intro a11_11 (Exists.intro c11_11 (And.intro rfl (And.intro g7_0 g11_0))))),Nat.le_refl _,.inl (Below.refl _ _),fun h=>absurd h (by decide)⟩
   refine Stps2.cons (o:=_) ?_ ?_
   · intro ac yw hsz hold hB hp K hK;clear hold hp hsz;have hk0:=hB.now.1.lt;have hsl:=Row.new yw 26 #[.slice none 0 0,.bool false,.slice none 0 0,.slice none 0 0];have hbz:Below yw.heap.size yw (yw.alloc (.cells #[.slice none 0 0,.bool false,.slice none 0 0,.slice none 0 0] 26))/\yw.heap.size<(yw.alloc (.cells #[.slice none 0 0,.bool false,.slice none 0 0,.slice none 0 0] 26)).heap.size:=⟨(Below.refl _ _).alloc (Nat.le_refl _) _,by rw[World.size_alloc];omega⟩
     go_simp;exact hK.out _ _ ⟨hB.alloc _,Exists.intro yw.heap.size (And.intro rfl (And.intro hsl hB.below.size)),Nat.le_of_lt hbz.2,.inl hbz.1,fun _=>⟨_,rfl,Nat.le_refl _,hbz.2⟩⟩
   exact Stps2.nil _
  | true =>
   simp only[show tnO true L=L from rfl,show nnO true L=0 from rfl,show tnO true L2=L2 from rfl,show nnO true L2=0 from rfl]at *
   refine wp_region_inv3 ⟨(fun j=>([[70], [71], [72], [73], [74], [75], [76], [77], [78], [79], [80], [81], [82], [14], []]:List (List Nat)).getD j []),(fun j=>([[], [0], [], [2], [], [], [5], [4,5,6], [], [], [9], [4,5,6,7,8,9,10], [0,1,2,3,4,5,6,7,8,9,10,11], [], [0,1,2,3,4,5,6,7,8,9,10,11,12,13]]:List (List Nat)).getD j []), [4,8,13]⟩ 14 (fun jj vv yy=>match jj with|0=>vv = [some (.pointer (some ⟨w.heap.size,0,none⟩))]|1=>vv = [some (.slice sa r sc)]|2=>vv = [some (.pointer (some ⟨w.heap.size,1,none⟩))]|3=>vv = [some (.bool true)]|4=>∃(k4:Nat),vv = [some (.slice (some ⟨k4,0,none⟩) 0 0)]|5=>vv = [some (.pointer (some ⟨w.heap.size,2,none⟩))]|6=>vv = [some (.slice ta L tc)]|7=>∃(a7:Option Addr),∃(c7:Nat),vv = [some (.slice a7 L c7)]/\FrC yy w4.heap.size a7 L c7 g|8=>∃(k8:Nat),vv = [some (.slice (some ⟨k8,0,none⟩) 0 0)]|9=>vv = [some (.pointer (some ⟨w.heap.size,3,none⟩))]|10=>vv = [some (.slice na 0 nc)]|11=>∃(a11:Option Addr),∃(c11:Nat),vv = [some (.slice a11 0 c11)]/\FrQ yy w4.heap.size a11 0 c11 fB fS fT|12=>∃(a7:Option Addr),∃(c7:Nat),∃(a11:Option Addr),∃(c11:Nat),vv = [some (.agg #[.slice sa r sc,.bool true,.slice a7 L c7,.slice a11 0 c11])]/\FrC yy w4.heap.size a7 L c7 g/\FrQ yy w4.heap.size a11 0 c11 fB fS fT|13=>∃(k13:Nat),vv = [some (.pointer (some ⟨k13,0,none⟩))]/\Row yy k13 26 #[.slice none 0 0,.bool false,.slice none 0 0,.slice none 0 0]/\w4.heap.size<=k13|_=>True) (Bag w4 (fun y=>Row y (w.heap.size+1+1) 26 plZer/\Row y (w.heap.size+1) 26 (plC sa2 0 sc2 true ta2 L2 tc2 na2 0 nc2)/\Row y w.heap.size 26 (plC sa r sc true ta L tc na 0 nc)/\True)) (by kernel_rfl) (by kernel_rfl) (by kernel_rfl) (by kernel_rfl) BZ.out.drew ?_ ?_ ?_
   · intro jj vv yw yw2 hb h
     match jj,h with
     | 0,h=>exact h
     | 1,h=>exact h
     | 2,h=>exact h
     | 3,h=>exact h
     | 4,h=>exact h
     | 5,h=>exact h
     | 6,h=>exact h
     | 7,⟨a7,c7,e7,g7_0⟩=>exact Exists.intro a7 (Exists.intro c7 (And.intro e7 (g7_0.below hb)))
     | 8,h=>exact h
     | 9,h=>exact h
     | 10,h=>exact h
     | 11,⟨a11,c11,e11,g11_0⟩=>exact Exists.intro a11 (Exists.intro c11 (And.intro e11 (g11_0.below hb)))
     | 12,⟨a7,c7,a11,c11,e12,g12_0,g12_1⟩=>exact Exists.intro a7 (Exists.intro c7 (Exists.intro a11 (Exists.intro c11 (And.intro e12 (And.intro (g12_0.below hb) (g12_1.below hb))))))
     | 13,⟨k13,e13,g13_0,g13_1⟩=>exact Exists.intro k13 (And.intro e13 (And.intro (g13_0.below hb) g13_1))
     | _+14,h=>exact h
   · intro ac yw hsz hdf hold hB hp; obtain ⟨P, e13, hp0, hP⟩ := hp 13 (by decide); obtain ⟨a7, c7, a11, c11, e12, fr7, fr11⟩ := hp 12 (by decide); have t14 : ac.tmps[14]? = some (.pointer (some ⟨P, 0, none⟩)) := (List.cons.inj e13).1; have t82 : ac.tmps[82]? = some (.agg #[.slice sa r sc, .bool true, .slice a7 L c7, .slice a11 0 c11]) := (List.cons.inj e12).1; have t4 : ac.tmps[4]? = some (.pointer (some ⟨w.heap.size, 0, none⟩)) := hold 4 (by kernel_rfl); have t5 : ac.tmps[5]? = some (.pointer (some ⟨w.heap.size + 1, 0, none⟩)) := hold 5 (by kernel_rfl); have t8 : ac.tmps[8]? = some (.pointer (some ⟨w.heap.size + 1 + 1, 0, none⟩)) := hold 8 (by kernel_rfl); have t13 : ac.tmps[13]? = some (.slice pa M pc) := hold 13 (by kernel_rfl); clear hold hp e12 e13; obtain ⟨TV, hTV⟩ : ∃ TV : Nat -> Value, ∀ i, (ac.tmps[i]?).getD undef = TV i := ⟨_, fun _ => rfl⟩
     have f4:=(hTV 4).symm.trans (congrArg (fun x=>Option.getD x undef) t4);have f5:=(hTV 5).symm.trans (congrArg (fun x=>Option.getD x undef) t5);have f8:=(hTV 8).symm.trans (congrArg (fun x=>Option.getD x undef) t8);have f13:=(hTV 13).symm.trans (congrArg (fun x=>Option.getD x undef) t13);have f14:=(hTV 14).symm.trans (congrArg (fun x=>Option.getD x undef) t14);have f82:=(hTV 82).symm.trans (congrArg (fun x=>Option.getD x undef) t82);have hac:=act_eq (n:=121) hsz TV hTV;rw[show((List.range 121).map TV).toArray=#[TV 0,TV 1,TV 2,TV 3,TV 4,TV 5,TV 6,TV 7,TV 8,TV 9,TV 10,TV 11,TV 12,TV 13,TV 14,TV 15,TV 16,TV 17,TV 18,TV 19,TV 20,TV 21,TV 22,TV 23,TV 24,TV 25,TV 26,TV 27,TV 28,TV 29,TV 30,TV 31,TV 32,TV 33,TV 34,TV 35,TV 36,TV 37,TV 38,TV 39,TV 40,TV 41,TV 42,TV 43,TV 44,TV 45,TV 46,TV 47,TV 48,TV 49,TV 50,TV 51,TV 52,TV 53,TV 54,TV 55,TV 56,TV 57,TV 58,TV 59,TV 60,TV 61,TV 62,TV 63,TV 64,TV 65,TV 66,TV 67,TV 68,TV 69,TV 70,TV 71,TV 72,TV 73,TV 74,TV 75,TV 76,TV 77,TV 78,TV 79,TV 80,TV 81,TV 82,TV 83,TV 84,TV 85,TV 86,TV 87,TV 88,TV 89,TV 90,TV 91,TV 92,TV 93,TV 94,TV 95,TV 96,TV 97,TV 98,TV 99,TV 100,TV 101,TV 102,TV 103,TV 104,TV 105,TV 106,TV 107,TV 108,TV 109,TV 110,TV 111,TV 112,TV 113,TV 114,TV 115,TV 116,TV 117,TV 118,TV 119,TV 120]from rfl,f4,f5,f8,f13,f14,f82,hdf]at hac;simp only[Option.getD_some]at hac;subst hac;clear hTV f4 f5 f8 f13 f14 f82
     have hL0:0<L:=by
      have:=HPOS.out 0 HM0.out
      omega
     obtain⟨b,rfl,hbB,ZA⟩:=fr7.2.2 hL0;have HCA:=Lib.hid (And.intro fr7.1 fr7.2.1);have HEM:=Lib.hid fr11.2.1
     have hbP:b≠P:=fun e=>by
      have h9:=ZA.2.2 0 hL0;rw[e]at h9;rw[hp0.cell 0]at h9
      cases h9
     have HF4:=far_put4 yw P (.slice sa r sc) (.bool true) (.slice (some ⟨b,0,none⟩) L c7) (.slice a11 0 c11)
     have HY:Hid (Below w4.heap.size w4 (put4 yw P (.slice sa r sc) (.bool true) (.slice (some ⟨b,0,none⟩) L c7) (.slice a11 0 c11))/\Row (put4 yw P (.slice sa r sc) (.bool true) (.slice (some ⟨b,0,none⟩) L c7) (.slice a11 0 c11)) P 26 (plC sa r sc true (some ⟨b,0,none⟩) L c7 a11 0 c11)/\Row (put4 yw P (.slice sa r sc) (.bool true) (.slice (some ⟨b,0,none⟩) L c7) (.slice a11 0 c11)) (w.heap.size+1+1) 26 plZer/\Row (put4 yw P (.slice sa r sc) (.bool true) (.slice (some ⟨b,0,none⟩) L c7) (.slice a11 0 c11)) (w.heap.size+1) 26 (plC sa2 0 sc2 true ta2 L2 tc2 na2 0 nc2)/\Row (put4 yw P (.slice sa r sc) (.bool true) (.slice (some ⟨b,0,none⟩) L c7) (.slice a11 0 c11)) w.heap.size 26 (plC sa r sc true ta L tc na 0 nc)/\ZTo (put4 yw P (.slice sa r sc) (.bool true) (.slice (some ⟨b,0,none⟩) L c7) (.slice a11 0 c11)) b L g) :=
      Lib.hid ⟨below_put4 hB.below hP _ _ _ _,row_put4 hp0 _ _ _ _,(HF4.block _ (by omega) hB.now.1.lt).trans hB.now.1,(HF4.block _ (by omega) hB.now.2.1.lt).trans hB.now.2.1,(HF4.block _ (by omega) hB.now.2.2.1.lt).trans hB.now.2.2.1,ZA.far HF4 hbP⟩
     unfold put4 at HY;have q0:yw.cell? ⟨P,0,none⟩=some (.slice none 0 0):=hp0.cell 0;have q1:yw.cell? ⟨P,1,none⟩=some (.bool false):=hp0.cell 1;have q2:yw.cell? ⟨P,2,none⟩=some (.slice none 0 0):=hp0.cell 2;have q3:yw.cell? ⟨P,3,none⟩=some (.slice none 0 0):=hp0.cell 3;have f0:=hp0.free 0;have f1:=hp0.free 1;have f2:=hp0.free 2;have f3:=hp0.free 3;have HPP:=Lib.hid (And.intro hP hs2);clear HF4 hp0 hB fr7 fr11 ZA t4 t5 t8 t13 t14 t82 hsz APC APQ BZ hP TP NP;refine TailWp.step rfl ?_;intro K hK;go_simp;refine hK.out _ _ ?_;refine TailWp.end rfl ?_;generalize (((yw.setCell ⟨P,0,none⟩ (.slice sa r sc)).setCell ⟨P,1,none⟩ (.bool true)).setCell ⟨P,2,none⟩ (.slice (some ⟨b,0,none⟩) L c7)).setCell ⟨P,3,none⟩ (.slice a11 0 c11)=Y0 at *;clear q0 q1 q2 q3 f0 f1 f2 f3;go_wp2_with fail
     go_loopw [15] (fun i wr=>∃k:Nat,k<=M/\i=.int .i64 k/\Hid (Far b Y0 wr/\Below w.heap.size w wr/\ZTo wr b L (puF GX (fun j=>g2 (j%L2)) k g))) (fun i _=>M-(intOf i).toNat)
     case atStart=>exact⟨0,by omega,rfl,Far.refl _ _,HBW.out.trans (HY.out.1.mono HBW.out.size),HY.out.2.2.2.2.2⟩
     case round =>
      obtain⟨k,hk,rfl,hrel⟩:=hrel;obtain⟨hfar,hbl,hz⟩:=hrel.out;obtain⟨hbY,hr14,hr8,hrV,hrP,_⟩:=HY.out;obtain⟨hP,hs9⟩:=HPP.out;have r14:Row wr P 26 (plC sa r sc true (some ⟨b,0,none⟩) L c7 a11 0 c11):=(hfar.block _ (fun e=>hbP e.symm) hr14.lt).trans hr14;have rV:Row wr (w.heap.size+1) 26 (plC sa2 0 sc2 true ta2 L2 tc2 na2 0 nc2):=(hfar.block _ (by omega) hrV.lt).trans hrV;have rP:Row wr w.heap.size 26 (plC sa r sc true ta L tc na 0 nc):=(hfar.block _ (by omega) hrP.lt).trans hrP
      by_cases hlt:k<M
      · have KG:=HG.out.old hbB hbY hfar;obtain⟨bg,og,rfl,_,cg⟩:=KG.get hlt;obtain⟨gx0,gx1⟩:=HPOS.out k hlt;obtain⟨p,hp⟩:∃p:Nat,GX k=(p:Int):=⟨(GX k).toNat,by omega⟩
        have hpL:p<L:=by omega
        rw[hp]at cg;have hq:k%L2<L2:=Nat.mod_lt _ hLL;have T2:=TV2.out.old hbB hbY hfar;obtain⟨b2,o2,rfl,_,c2⟩:=T2.get hq;have BD:Below wr.heap.size wr wr.drew:=(Below.refl _ wr).drew;have HN:=ZTo.put (hz.below BD) hpL (g2 (k%L2));rw[puF_put (V:=fun j=>g2 (j%L2)) hp]at HN;rw[HKI.out k hlt]at HN;have dj:True/\((k:Int)<(L2:Int)∨True):=⟨trivial,.inr trivial⟩
        have HNN:=hn3C (w:=w) (Y0:=Y0) (fun _=>(hfar.trans (Far.of_below BD)).trans (Far.setCell _ _ _ _)) (fun _=>(hbl.trans (BD.mono hbl.size)).setCell (p:=⟨b,p,none⟩) (show w.heap.size<=b by omega) _) HN;have p2:wr.drew.cell? ⟨P,2,none⟩=some (.slice (some ⟨b,0,none⟩) L c7):=r14.cell 2;have v0:wr.drew.cell? ⟨w.heap.size+1,0,none⟩=some (.slice sa2 0 sc2):=rV.cell 0;have v2:wr.drew.cell? ⟨w.heap.size+1,2,none⟩=some (.slice (some ⟨b2,o2,none⟩) L2 tc2):=rV.cell 2;have p1:wr.drew.cell? ⟨w.heap.size,1,none⟩=some (.bool true):=rP.cell 1;have u0:wr.cell? ⟨w.heap.size+1,0,none⟩=some (.slice sa2 0 sc2):=rV.cell 0;have u1:wr.cell? ⟨w.heap.size,1,none⟩=some (.bool true):=rP.cell 1;have dk0:(0:Int)<=k:=by omega
        have dk1:(k:Int)<M:=by omega
        have dp0:(0:Int)<=(p:Int):=by omega
        have dp1:(p:Int)<(L:Int):=by omega
        have dj0:(0:Int)<(L2:Int):=by omega
        try (have dj1:(k:Int)<(L2:Int):=by(have h9:=HKI.out k hlt;have:=Nat.mod_lt k hLL;omega))
        have zb:wr.drew.cell? ⟨b,p,none⟩=some (.int .i32 _):=hz.2.2 p hpL;have fb:wr.drew.frozen? ⟨b,p,none⟩=false:=hz.2.1 p;have c2:wr.drew.cell? ⟨b2,o2+k%L2,none⟩=some (.int .i32 (g2 (k%L2))):=c2;have cg:wr.drew.cell? ⟨bg,og+k,none⟩=some (.int .i64 (p:Int)):=cg;rw[HKI.out k hlt]at c2
        try rw[Nat.add_zero]at c2
        clear KG T2 BD HN hfar hbl hz hbY hr14 hr8 hrV hrP r14 rV rP gx0 gx1 hp hpL hq hrel hP hs9 dj;go_wp2_with fail
        go_still_tail 12,(by kernel_rfl)
        change wpList _ _ _ _ _ wr.drew
        clear u0 u1;generalize wr.drew=Y2 at *;go_wp2
        go_roundw
        case rel=>exact⟨k+1,by omega,by go_num,HNN.out⟩
        case measure=>simp[intOf];omega
      · obtain rfl:k=M:=by omega
        have r8:Row wr (w.heap.size+1+1) 26 plZer:=(hfar.block _ (by omega) hr8.lt).trans hr8;have hks:=KP.out.old hbB hbY hfar;have hp9:Pln wr (plC sa r sc true (some ⟨b,0,none⟩) L c7 a11 0 c11) S r true L (puF GX (fun j=>g2 (j%L2)) k g) (puF GX (fun j=>fB2 (j%L2)) k fB) (puF GX (fun j=>fS2 (j%L2)) k fS) (puF GX (fun j=>fT2 (j%L2)) k fT):=⟨sa,sc,some ⟨b,0,none⟩,c7,a11,c11,rfl,hks,hz.krow HCA.out.1 HCA.out.2,QRow.nought _ _ _ HEM.out _ _ _⟩
        have HE:=Lib.hid (PoTold.yes (hp9.put r8 _) (below_put hbl (show w.heap.size<=w.heap.size+1+1 by omega) (plC sa r sc true (some ⟨b,0,none⟩) L c7 a11 0 c11)));have HR0:=Lib.hid r8;have HRP:=Lib.hid r14;clear hfar hbl hz hbY hr14 hr8 hrV hrP r14 rV rP hks hp9 r8 hrel hP hs9
        go_wp2_with (first
         | (refine ld_pln rfl (.tmp 14) rfl P rfl HRP.out ?_)
         | (refine st_pln rfl (.tmp 8) (.tmp 120) rfl (w.heap.size+1+1) rfl _ _ _ _ _ _ _ _ _ _ rfl HR0.out rfl ?_))
        exact bodyPost_ret (res_pln2 Tryz.results13 rfl rfl (HR0.out.put _) rfl) rfl HE.out
   refine Stps2.cons (o:=_) ?_ ?_
   · intro ac yw hsz hold hB hp K hK;have t4:ac.tmps[4]? = some (.pointer (some ⟨w.heap.size,0,none⟩)):=hold 4 (by kernel_rfl);clear hold hp hsz;go_simp;exact hK.out _ _ ⟨hB,rfl,Nat.le_refl _,.inl (Below.refl _ _),fun h=>absurd h (by decide)⟩
   refine Stps2.cons (o:=_) ?_ ?_
   · intro ac yw hsz hold hB hp K hK;have e0:=hp 0 (by decide);have t70:ac.tmps[70]? = some (.pointer (some ⟨w.heap.size,0,none⟩)):=(List.cons.inj e0).1;clear hold hp hsz e0;have v0:yw.cell? ⟨w.heap.size,0,none⟩=some (.slice sa r sc):=hB.now.2.2.1.cell 0;have v1:yw.cell? ⟨w.heap.size,1,none⟩=some (.bool true):=hB.now.2.2.1.cell 1;have v2:yw.cell? ⟨w.heap.size,2,none⟩=some (.slice ta L tc):=hB.now.2.2.1.cell 2;have v3:yw.cell? ⟨w.heap.size,3,none⟩=some (.slice na 0 nc):=hB.now.2.2.1.cell 3;go_simp;exact hK.out _ _ ⟨hB,rfl,Nat.le_refl _,.inl (Below.refl _ _),fun h=>absurd h (by decide)⟩
   refine Stps2.cons (o:=_) ?_ ?_
   · intro ac yw hsz hold hB hp K hK;have t4:ac.tmps[4]? = some (.pointer (some ⟨w.heap.size,0,none⟩)):=hold 4 (by kernel_rfl);clear hold hp hsz;go_simp;exact hK.out _ _ ⟨hB,rfl,Nat.le_refl _,.inl (Below.refl _ _),fun h=>absurd h (by decide)⟩
   refine Stps2.cons (o:=_) ?_ ?_
   · intro ac yw hsz hold hB hp K hK;have e2:=hp 2 (by decide);have t72:ac.tmps[72]? = some (.pointer (some ⟨w.heap.size,1,none⟩)):=(List.cons.inj e2).1;clear hold hp hsz e2;have v0:yw.cell? ⟨w.heap.size,0,none⟩=some (.slice sa r sc):=hB.now.2.2.1.cell 0;have v1:yw.cell? ⟨w.heap.size,1,none⟩=some (.bool true):=hB.now.2.2.1.cell 1;have v2:yw.cell? ⟨w.heap.size,2,none⟩=some (.slice ta L tc):=hB.now.2.2.1.cell 2;have v3:yw.cell? ⟨w.heap.size,3,none⟩=some (.slice na 0 nc):=hB.now.2.2.1.cell 3;go_simp;exact hK.out _ _ ⟨hB,rfl,Nat.le_refl _,.inl (Below.refl _ _),fun h=>absurd h (by decide)⟩
   refine Stps2.cons (o:=_) ?_ ?_
   · intro ac yw hsz hold hB hp K hK;clear hold hp hsz;have hbz:Below yw.heap.size yw (yw.alloc (.cells #[] 21))/\yw.heap.size<(yw.alloc (.cells #[] 21)).heap.size:=⟨(Below.refl _ _).alloc (Nat.le_refl _) _,by rw[World.size_alloc];omega⟩
     go_simp;exact hK.out _ _ ⟨hB.alloc _,Exists.intro yw.heap.size (rfl),Nat.le_of_lt hbz.2,.inl hbz.1,fun _=>⟨_,rfl,Nat.le_refl _,hbz.2⟩⟩
   refine Stps2.cons (o:=_) ?_ ?_
   · intro ac yw hsz hold hB hp K hK;have t4:ac.tmps[4]? = some (.pointer (some ⟨w.heap.size,0,none⟩)):=hold 4 (by kernel_rfl);clear hold hp hsz;go_simp;exact hK.out _ _ ⟨hB,rfl,Nat.le_refl _,.inl (Below.refl _ _),fun h=>absurd h (by decide)⟩
   refine Stps2.cons (o:=_) ?_ ?_
   · intro ac yw hsz hold hB hp K hK;have e5:=hp 5 (by decide);have t75:ac.tmps[75]? = some (.pointer (some ⟨w.heap.size,2,none⟩)):=(List.cons.inj e5).1;clear hold hp hsz e5;have v0:yw.cell? ⟨w.heap.size,0,none⟩=some (.slice sa r sc):=hB.now.2.2.1.cell 0;have v1:yw.cell? ⟨w.heap.size,1,none⟩=some (.bool true):=hB.now.2.2.1.cell 1;have v2:yw.cell? ⟨w.heap.size,2,none⟩=some (.slice ta L tc):=hB.now.2.2.1.cell 2;have v3:yw.cell? ⟨w.heap.size,3,none⟩=some (.slice na 0 nc):=hB.now.2.2.1.cell 3;go_simp;exact hK.out _ _ ⟨hB,rfl,Nat.le_refl _,.inl (Below.refl _ _),fun h=>absurd h (by decide)⟩
   refine Stps2.cons (o:=_) ?_ ?_
   · intro ac yw hsz hold hB hp K hK;obtain⟨k4_4,e4⟩:=hp 4 (by decide);have t74:ac.tmps[74]? = some (.slice (some ⟨k4_4,0,none⟩) 0 0):=(List.cons.inj e4).1;have e6:=hp 6 (by decide);have t76:ac.tmps[76]? = some (.slice ta L tc):=(List.cons.inj e6).1;clear hold hp hsz;rw[if_pos (by rfl)];obtain⟨a9,c9,y9,r9,b9,h9⟩:=APC.out yw k4_4 hB.below;refine Go.Lib.wp_append_run yw (.tmp 74) (.tmp 76) _ _ rfl _ _ (ev_tmp t74) (ev_tmp t76) _ _ r9 ?_;exact hK.out _ _ ⟨hB.go b9,Exists.intro a9 (Exists.intro c9 (And.intro rfl h9)),b9.size,.inl b9,fun h=>absurd h (by decide)⟩
   refine Stps2.cons (o:=_) ?_ ?_
   · intro ac yw hsz hold hB hp K hK;clear hold hp hsz;have hbz:Below yw.heap.size yw (yw.alloc (.cells #[] 46))/\yw.heap.size<(yw.alloc (.cells #[] 46)).heap.size:=⟨(Below.refl _ _).alloc (Nat.le_refl _) _,by rw[World.size_alloc];omega⟩
     go_simp;exact hK.out _ _ ⟨hB.alloc _,Exists.intro yw.heap.size (rfl),Nat.le_of_lt hbz.2,.inl hbz.1,fun _=>⟨_,rfl,Nat.le_refl _,hbz.2⟩⟩
   refine Stps2.cons (o:=_) ?_ ?_
   · intro ac yw hsz hold hB hp K hK;have t4:ac.tmps[4]? = some (.pointer (some ⟨w.heap.size,0,none⟩)):=hold 4 (by kernel_rfl);clear hold hp hsz;go_simp;exact hK.out _ _ ⟨hB,rfl,Nat.le_refl _,.inl (Below.refl _ _),fun h=>absurd h (by decide)⟩
   refine Stps2.cons (o:=_) ?_ ?_
   · intro ac yw hsz hold hB hp K hK;have e9:=hp 9 (by decide);have t79:ac.tmps[79]? = some (.pointer (some ⟨w.heap.size,3,none⟩)):=(List.cons.inj e9).1;clear hold hp hsz e9;have v0:yw.cell? ⟨w.heap.size,0,none⟩=some (.slice sa r sc):=hB.now.2.2.1.cell 0;have v1:yw.cell? ⟨w.heap.size,1,none⟩=some (.bool true):=hB.now.2.2.1.cell 1;have v2:yw.cell? ⟨w.heap.size,2,none⟩=some (.slice ta L tc):=hB.now.2.2.1.cell 2;have v3:yw.cell? ⟨w.heap.size,3,none⟩=some (.slice na 0 nc):=hB.now.2.2.1.cell 3;go_simp;exact hK.out _ _ ⟨hB,rfl,Nat.le_refl _,.inl (Below.refl _ _),fun h=>absurd h (by decide)⟩
   refine Stps2.cons (o:=_) ?_ ?_
   · intro ac yw hsz hold hB hp K hK;obtain⟨k8_8,e8⟩:=hp 8 (by decide);have t78:ac.tmps[78]? = some (.slice (some ⟨k8_8,0,none⟩) 0 0):=(List.cons.inj e8).1;have e10:=hp 10 (by decide);have t80:ac.tmps[80]? = some (.slice na 0 nc):=(List.cons.inj e10).1;clear hold hp hsz;rw[if_pos (by rfl)];obtain⟨a9,c9,y9,r9,b9,h9⟩:=APQ.out yw k8_8 hB.below;refine Go.Lib.wp_append_run yw (.tmp 78) (.tmp 80) _ _ rfl _ _ (ev_tmp t78) (ev_tmp t80) _ _ r9 ?_;exact hK.out _ _ ⟨hB.go b9,Exists.intro a9 (Exists.intro c9 (And.intro rfl h9)),b9.size,.inl b9,fun h=>absurd h (by decide)⟩
   refine Stps2.cons (o:=_) ?_ ?_
   · intro ac yw hsz hold hB hp K hK;have e1:=hp 1 (by decide);have t71:ac.tmps[71]? = some (.slice sa r sc):=(List.cons.inj e1).1;have e3:=hp 3 (by decide);have t73:ac.tmps[73]? = some (.bool true):=(List.cons.inj e3).1;obtain⟨a7_7,c7_7,e7,g7_0⟩:=hp 7 (by decide);have t77:ac.tmps[77]? = some (.slice a7_7 L c7_7):=(List.cons.inj e7).1;obtain⟨a11_11,c11_11,e11,g11_0⟩:=hp 11 (by decide);have t81:ac.tmps[81]? = some (.slice a11_11 0 c11_11):=(List.cons.inj e11).1;clear hold hp hsz e1 e3 e7 e11;go_simp;exact hK.out _ _ ⟨hB,Exists.intro a7_7 (Exists.intro c7_7 (Exists.intro a11_11 (Exists.intro c11_11 (And.intro rfl (And.intro g7_0 g11_0))))),Nat.le_refl _,.inl (Below.refl _ _),fun h=>absurd h (by decide)⟩
   refine Stps2.cons (o:=_) ?_ ?_
   · intro ac yw hsz hold hB hp K hK;clear hold hp hsz;have hk0:=hB.now.1.lt;have hsl:=Row.new yw 26 #[.slice none 0 0,.bool false,.slice none 0 0,.slice none 0 0];have hbz:Below yw.heap.size yw (yw.alloc (.cells #[.slice none 0 0,.bool false,.slice none 0 0,.slice none 0 0] 26))/\yw.heap.size<(yw.alloc (.cells #[.slice none 0 0,.bool false,.slice none 0 0,.slice none 0 0] 26)).heap.size:=⟨(Below.refl _ _).alloc (Nat.le_refl _) _,by rw[World.size_alloc];omega⟩
     go_simp;exact hK.out _ _ ⟨hB.alloc _,Exists.intro yw.heap.size (And.intro rfl (And.intro hsl hB.below.size)),Nat.le_of_lt hbz.2,.inl hbz.1,fun _=>⟨_,rfl,Nat.le_refl _,hbz.2⟩⟩
   exact Stps2.nil _
 case neg =>
  have HKI:Hid (∀k,k<M->k%L2=k):=Lib.hid (fun k hk=>by rw[HKI.out k hk,if_neg h0]);have dP:(0:Int)<(r2:Int):=by omega
  have dZ:((r2:Int)==0)=false:=beq_eq_false_iff_ne.2 (by omega)
  have h1:r2=R/\sameB S2 T r2=true:=by
   have hF:=HFF.out;unfold fiE at hF;rw[if_neg h0]at hF
   by_cases h1:r2=R
   · rw[if_neg (by omega)]at hF;refine⟨h1,?_⟩
     cases hs:sameB S2 T r2 with
     | true=>rfl
     | false=>rw[hs]at hF;exact absurd hF (by decide)
   · rw[if_pos h1]at hF;exact absurd hF (by decide)
  have d1:((r2:Int) != (R:Int))=false:=by rw[h1.1];exact bne_self_eq_false _
  have SM:=Lib.hid (fun a1 c1 a3 c3 wz q q2=>SM.out a1 c1 a3 R c3 wz q q2);rw[h1.2,decide_eq_true h1.1]at SM;clear h1 h0 HFF;go_wp2_with fail;go_at_call 31
  (refine(SM.out _ _ _ _ _ (HK2.out.below BB.out.below) HT.out).mono ?_)
  rintro e w3 ⟨rfl,hb3⟩;have BB:=bgo BB hb3;have HLL:=Lib.hid (HLL.out.below hb3);clear hb3 HT SM x0 x1 y0 y1;have x0:w3.cell? ⟨w.heap.size,0,none⟩=some (.slice sa r sc):=BB.out.now.2.2.1.cell 0;have x1:w3.cell? ⟨w.heap.size,1,none⟩=some (.bool ch):=BB.out.now.2.2.1.cell 1;have y0:w3.cell? ⟨w.heap.size+1,0,none⟩=some (.slice sa2 r2 sc2):=BB.out.now.2.1.cell 0;have y1:w3.cell? ⟨w.heap.size+1,1,none⟩=some (.bool ch):=BB.out.now.2.1.cell 1;go_wp2_with fail;go_at_call 50
  (refine(PLS.out _ _ _ _ _ _ _ (HK.out.below BB.out.below) HLL.out).mono ?_)
  rintro e w4 ⟨pa,pc,rfl,hG,hb4⟩;have BB:=bgo BB hb4;have hG8:=hG.len;have dm:((M:Int)==0)=false:=beq_eq_false_iff_ne.2 (by omega);have HG:=Lib.hid hG;clear hb4 hG HLL PLS x0 x1 y0 y1;have x0:w4.cell? ⟨w.heap.size,0,none⟩=some (.slice sa r sc):=BB.out.now.2.2.1.cell 0;have x1:w4.cell? ⟨w.heap.size,1,none⟩=some (.bool ch):=BB.out.now.2.2.1.cell 1;have y0:w4.cell? ⟨w.heap.size+1,0,none⟩=some (.slice sa2 r2 sc2):=BB.out.now.2.1.cell 0;have y1:w4.cell? ⟨w.heap.size+1,1,none⟩=some (.bool ch):=BB.out.now.2.1.cell 1;go_wp2_with fail;have hbw:=BB.out.below;have BZ:=Lib.hid ((((Bag.start w4).row BB.out.now.2.2.1).row BB.out.now.2.1).row BB.out.now.1);have KP:=Lib.hid (HK.out.below hbw);have TP:=Lib.hid (HT9.out.below hbw);have NP:=Lib.hid (HN9.out.below hbw);have TV2:=Lib.hid (HT2.out.below hbw);have NV2:=Lib.hid (HN2.out.below hbw);have HBW:=Lib.hid hbw;have hs2:w.heap.size+1+1<w4.heap.size:=BB.out.now.1.lt;have ht9:tnO ch L<=L:=(nnO_le ch L).2;have hn9:nnO ch L<=L:=(nnO_le ch L).1;have APC:=Lib.hid (fun yw k (hb:Below w4.heap.size w4 yw)=>app_newC yw w4.heap.size k (TP.out.below hb) (by omega) hb.size);have APQ:=Lib.hid (fun yw k (hb:Below w4.heap.size w4 yw)=>app_newQ yw w4.heap.size k (NP.out.below hb) (by omega) hb.size);clear hbw BB HK HK2 HT9 HN9 HT2 HN2
  cases ch with
  | false =>
   simp only[show tnO false L=0 from rfl,show nnO false L=L from rfl,show tnO false L2=0 from rfl,show nnO false L2=L2 from rfl]at *
   refine wp_region_inv3 ⟨(fun j=>([[70], [71], [72], [73], [74], [75], [76], [77], [78], [79], [80], [81], [82], [14], []]:List (List Nat)).getD j []),(fun j=>([[], [0], [], [2], [], [], [5], [4,5,6], [], [], [9], [4,5,6,7,8,9,10], [0,1,2,3,4,5,6,7,8,9,10,11], [], [0,1,2,3,4,5,6,7,8,9,10,11,12,13]]:List (List Nat)).getD j []), [4,8,13]⟩ 14 (fun jj vv yy=>match jj with|0=>vv = [some (.pointer (some ⟨w.heap.size,0,none⟩))]|1=>vv = [some (.slice sa r sc)]|2=>vv = [some (.pointer (some ⟨w.heap.size,1,none⟩))]|3=>vv = [some (.bool false)]|4=>∃(k4:Nat),vv = [some (.slice (some ⟨k4,0,none⟩) 0 0)]|5=>vv = [some (.pointer (some ⟨w.heap.size,2,none⟩))]|6=>vv = [some (.slice ta 0 tc)]|7=>∃(a7:Option Addr),∃(c7:Nat),vv = [some (.slice a7 0 c7)]/\FrC yy w4.heap.size a7 0 c7 g|8=>∃(k8:Nat),vv = [some (.slice (some ⟨k8,0,none⟩) 0 0)]|9=>vv = [some (.pointer (some ⟨w.heap.size,3,none⟩))]|10=>vv = [some (.slice na L nc)]|11=>∃(a11:Option Addr),∃(c11:Nat),vv = [some (.slice a11 L c11)]/\FrQ yy w4.heap.size a11 L c11 fB fS fT|12=>∃(a7:Option Addr),∃(c7:Nat),∃(a11:Option Addr),∃(c11:Nat),vv = [some (.agg #[.slice sa r sc,.bool false,.slice a7 0 c7,.slice a11 L c11])]/\FrC yy w4.heap.size a7 0 c7 g/\FrQ yy w4.heap.size a11 L c11 fB fS fT|13=>∃(k13:Nat),vv = [some (.pointer (some ⟨k13,0,none⟩))]/\Row yy k13 26 #[.slice none 0 0,.bool false,.slice none 0 0,.slice none 0 0]/\w4.heap.size<=k13|_=>True) (Bag w4 (fun y=>Row y (w.heap.size+1+1) 26 plZer/\Row y (w.heap.size+1) 26 (plC sa2 r2 sc2 false ta2 0 tc2 na2 L2 nc2)/\Row y w.heap.size 26 (plC sa r sc false ta 0 tc na L nc)/\True)) (by kernel_rfl) (by kernel_rfl) (by kernel_rfl) (by kernel_rfl) BZ.out.drew ?_ ?_ ?_
   · intro jj vv yw yw2 hb h
     match jj,h with
     | 0,h=>exact h
     | 1,h=>exact h
     | 2,h=>exact h
     | 3,h=>exact h
     | 4,h=>exact h
     | 5,h=>exact h
     | 6,h=>exact h
     | 7,⟨a7,c7,e7,g7_0⟩=>exact Exists.intro a7 (Exists.intro c7 (And.intro e7 (g7_0.below hb)))
     | 8,h=>exact h
     | 9,h=>exact h
     | 10,h=>exact h
     | 11,⟨a11,c11,e11,g11_0⟩=>exact Exists.intro a11 (Exists.intro c11 (And.intro e11 (g11_0.below hb)))
     | 12,⟨a7,c7,a11,c11,e12,g12_0,g12_1⟩=>exact Exists.intro a7 (Exists.intro c7 (Exists.intro a11 (Exists.intro c11 (And.intro e12 (And.intro (g12_0.below hb) (g12_1.below hb))))))
     | 13,⟨k13,e13,g13_0,g13_1⟩=>exact Exists.intro k13 (And.intro e13 (And.intro (g13_0.below hb) g13_1))
     | _+14,h=>exact h
   · intro ac yw hsz hdf hold hB hp; obtain ⟨P, e13, hp0, hP⟩ := hp 13 (by decide); obtain ⟨a7, c7, a11, c11, e12, fr7, fr11⟩ := hp 12 (by decide); have t14 : ac.tmps[14]? = some (.pointer (some ⟨P, 0, none⟩)) := (List.cons.inj e13).1; have t82 : ac.tmps[82]? = some (.agg #[.slice sa r sc, .bool false, .slice a7 0 c7, .slice a11 L c11]) := (List.cons.inj e12).1; have t4 : ac.tmps[4]? = some (.pointer (some ⟨w.heap.size, 0, none⟩)) := hold 4 (by kernel_rfl); have t5 : ac.tmps[5]? = some (.pointer (some ⟨w.heap.size + 1, 0, none⟩)) := hold 5 (by kernel_rfl); have t8 : ac.tmps[8]? = some (.pointer (some ⟨w.heap.size + 1 + 1, 0, none⟩)) := hold 8 (by kernel_rfl); have t13 : ac.tmps[13]? = some (.slice pa M pc) := hold 13 (by kernel_rfl); clear hold hp e12 e13; obtain ⟨TV, hTV⟩ : ∃ TV : Nat -> Value, ∀ i, (ac.tmps[i]?).getD undef = TV i := ⟨_, fun _ => rfl⟩
     have f4:=(hTV 4).symm.trans (congrArg (fun x=>Option.getD x undef) t4);have f5:=(hTV 5).symm.trans (congrArg (fun x=>Option.getD x undef) t5);have f8:=(hTV 8).symm.trans (congrArg (fun x=>Option.getD x undef) t8);have f13:=(hTV 13).symm.trans (congrArg (fun x=>Option.getD x undef) t13);have f14:=(hTV 14).symm.trans (congrArg (fun x=>Option.getD x undef) t14);have f82:=(hTV 82).symm.trans (congrArg (fun x=>Option.getD x undef) t82);have hac:=act_eq (n:=121) hsz TV hTV;rw[show((List.range 121).map TV).toArray=#[TV 0,TV 1,TV 2,TV 3,TV 4,TV 5,TV 6,TV 7,TV 8,TV 9,TV 10,TV 11,TV 12,TV 13,TV 14,TV 15,TV 16,TV 17,TV 18,TV 19,TV 20,TV 21,TV 22,TV 23,TV 24,TV 25,TV 26,TV 27,TV 28,TV 29,TV 30,TV 31,TV 32,TV 33,TV 34,TV 35,TV 36,TV 37,TV 38,TV 39,TV 40,TV 41,TV 42,TV 43,TV 44,TV 45,TV 46,TV 47,TV 48,TV 49,TV 50,TV 51,TV 52,TV 53,TV 54,TV 55,TV 56,TV 57,TV 58,TV 59,TV 60,TV 61,TV 62,TV 63,TV 64,TV 65,TV 66,TV 67,TV 68,TV 69,TV 70,TV 71,TV 72,TV 73,TV 74,TV 75,TV 76,TV 77,TV 78,TV 79,TV 80,TV 81,TV 82,TV 83,TV 84,TV 85,TV 86,TV 87,TV 88,TV 89,TV 90,TV 91,TV 92,TV 93,TV 94,TV 95,TV 96,TV 97,TV 98,TV 99,TV 100,TV 101,TV 102,TV 103,TV 104,TV 105,TV 106,TV 107,TV 108,TV 109,TV 110,TV 111,TV 112,TV 113,TV 114,TV 115,TV 116,TV 117,TV 118,TV 119,TV 120]from rfl,f4,f5,f8,f13,f14,f82,hdf]at hac;simp only[Option.getD_some]at hac;subst hac;clear hTV f4 f5 f8 f13 f14 f82
     have hL0:0<L:=by
      have:=HPOS.out 0 HM0.out
      omega
     obtain⟨b,rfl,hbB,ZA⟩:=fr11.2.2 hL0;have HCA:=Lib.hid (And.intro fr11.1 fr11.2.1);have HEM:=Lib.hid fr7.2.1
     have hbP:b≠P:=fun e=>by
      have h9:=(ZA.2.2 0 hL0).1;rw[e]at h9;rw[hp0.cell 0]at h9
      cases h9
     have HF4:=far_put4 yw P (.slice sa r sc) (.bool false) (.slice a7 0 c7) (.slice (some ⟨b,0,none⟩) L c11)
     have HY:Hid (Below w4.heap.size w4 (put4 yw P (.slice sa r sc) (.bool false) (.slice a7 0 c7) (.slice (some ⟨b,0,none⟩) L c11))/\Row (put4 yw P (.slice sa r sc) (.bool false) (.slice a7 0 c7) (.slice (some ⟨b,0,none⟩) L c11)) P 26 (plC sa r sc false a7 0 c7 (some ⟨b,0,none⟩) L c11)/\Row (put4 yw P (.slice sa r sc) (.bool false) (.slice a7 0 c7) (.slice (some ⟨b,0,none⟩) L c11)) (w.heap.size+1+1) 26 plZer/\Row (put4 yw P (.slice sa r sc) (.bool false) (.slice a7 0 c7) (.slice (some ⟨b,0,none⟩) L c11)) (w.heap.size+1) 26 (plC sa2 r2 sc2 false ta2 0 tc2 na2 L2 nc2)/\Row (put4 yw P (.slice sa r sc) (.bool false) (.slice a7 0 c7) (.slice (some ⟨b,0,none⟩) L c11)) w.heap.size 26 (plC sa r sc false ta 0 tc na L nc)/\QTo (put4 yw P (.slice sa r sc) (.bool false) (.slice a7 0 c7) (.slice (some ⟨b,0,none⟩) L c11)) b L fB fS fT) :=
      Lib.hid ⟨below_put4 hB.below hP _ _ _ _,row_put4 hp0 _ _ _ _,(HF4.block _ (by omega) hB.now.1.lt).trans hB.now.1,(HF4.block _ (by omega) hB.now.2.1.lt).trans hB.now.2.1,(HF4.block _ (by omega) hB.now.2.2.1.lt).trans hB.now.2.2.1,ZA.far HF4 hbP⟩
     unfold put4 at HY;have q0:yw.cell? ⟨P,0,none⟩=some (.slice none 0 0):=hp0.cell 0;have q1:yw.cell? ⟨P,1,none⟩=some (.bool false):=hp0.cell 1;have q2:yw.cell? ⟨P,2,none⟩=some (.slice none 0 0):=hp0.cell 2;have q3:yw.cell? ⟨P,3,none⟩=some (.slice none 0 0):=hp0.cell 3;have f0:=hp0.free 0;have f1:=hp0.free 1;have f2:=hp0.free 2;have f3:=hp0.free 3;have HPP:=Lib.hid (And.intro hP hs2);clear HF4 hp0 hB fr7 fr11 ZA t4 t5 t8 t13 t14 t82 hsz APC APQ BZ hP TP NP;refine TailWp.step rfl ?_;intro K hK;go_simp;refine hK.out _ _ ?_;refine TailWp.end rfl ?_;generalize (((yw.setCell ⟨P,0,none⟩ (.slice sa r sc)).setCell ⟨P,1,none⟩ (.bool false)).setCell ⟨P,2,none⟩ (.slice a7 0 c7)).setCell ⟨P,3,none⟩ (.slice (some ⟨b,0,none⟩) L c11)=Y0 at *;clear q0 q1 q2 q3 f0 f1 f2 f3;go_wp2_with fail
     go_loopw [15] (fun i wr=>∃k:Nat,k<=M/\i=.int .i64 k/\Hid (Far b Y0 wr/\Below w.heap.size w wr/\QTo wr b L (puF GX (fun j=>fB2 (j%L2)) k fB) (puF GX (fun j=>fS2 (j%L2)) k fS) (puF GX (fun j=>fT2 (j%L2)) k fT))) (fun i _=>M-(intOf i).toNat)
     case atStart=>exact⟨0,by omega,rfl,Far.refl _ _,HBW.out.trans (HY.out.1.mono HBW.out.size),HY.out.2.2.2.2.2⟩
     case round =>
      obtain⟨k,hk,rfl,hrel⟩:=hrel;obtain⟨hfar,hbl,hz⟩:=hrel.out;obtain⟨hbY,hr14,hr8,hrV,hrP,_⟩:=HY.out;obtain⟨hP,hs9⟩:=HPP.out;have r14:Row wr P 26 (plC sa r sc false a7 0 c7 (some ⟨b,0,none⟩) L c11):=(hfar.block _ (fun e=>hbP e.symm) hr14.lt).trans hr14;have rV:Row wr (w.heap.size+1) 26 (plC sa2 r2 sc2 false ta2 0 tc2 na2 L2 nc2):=(hfar.block _ (by omega) hrV.lt).trans hrV;have rP:Row wr w.heap.size 26 (plC sa r sc false ta 0 tc na L nc):=(hfar.block _ (by omega) hrP.lt).trans hrP
      by_cases hlt:k<M
      · have KG:=HG.out.old hbB hbY hfar;obtain⟨bg,og,rfl,_,cg⟩:=KG.get hlt;obtain⟨gx0,gx1⟩:=HPOS.out k hlt;obtain⟨p,hp⟩:∃p:Nat,GX k=(p:Int):=⟨(GX k).toNat,by omega⟩
        have hpL:p<L:=by omega
        rw[hp]at cg;have hq:k%L2<L2:=Nat.mod_lt _ hLL;have T2:=NV2.out.old hbB hbY hfar;obtain⟨b2,o2,rfl,_,c2,c3,c4⟩:=T2.get hq;have BD:Below wr.heap.size wr wr.drew:=(Below.refl _ wr).drew;have HN:=QTo.put (hz.below BD) hpL (fB2 (k%L2)) (fS2 (k%L2)) (fT2 (k%L2));rw[puF_put (V:=fun j=>fB2 (j%L2)) hp,puF_put (V:=fun j=>fS2 (j%L2)) hp,puF_put (V:=fun j=>fT2 (j%L2)) hp]at HN;rw[HKI.out k hlt]at HN;have dj:True/\((k:Int)<(L2:Int)∨True):=⟨trivial,.inr trivial⟩
        have HNN:=hn3Q (w:=w) (Y0:=Y0) (fun _ _ _=>(hfar.trans (Far.of_below BD)).trans (((Far.setCell _ _ _ _).trans (Far.setCell _ _ _ _)).trans (Far.setCell _ _ _ _))) (fun _ _ _=>(((hbl.trans (BD.mono hbl.size)).setCell (p:=⟨b,p*3,none⟩) (show w.heap.size<=b by omega) _).setCell (p:=⟨b,p*3+1,none⟩) (show w.heap.size<=b by omega) _).setCell (p:=⟨b,p*3+2,none⟩) (show w.heap.size<=b by omega) _) HN;have p2:wr.drew.cell? ⟨P,3,none⟩=some (.slice (some ⟨b,0,none⟩) L c11):=r14.cell 3;have v0:wr.drew.cell? ⟨w.heap.size+1,0,none⟩=some (.slice sa2 r2 sc2):=rV.cell 0;have v2:wr.drew.cell? ⟨w.heap.size+1,3,none⟩=some (.slice (some ⟨b2,o2,none⟩) L2 nc2):=rV.cell 3;have p1:wr.drew.cell? ⟨w.heap.size,1,none⟩=some (.bool false):=rP.cell 1;have u0:wr.cell? ⟨w.heap.size+1,0,none⟩=some (.slice sa2 r2 sc2):=rV.cell 0;have u1:wr.cell? ⟨w.heap.size,1,none⟩=some (.bool false):=rP.cell 1;have dk0:(0:Int)<=k:=by omega
        have dk1:(k:Int)<M:=by omega
        have dp0:(0:Int)<=(p:Int):=by omega
        have dp1:(p:Int)<(L:Int):=by omega
        have dj0:(0:Int)<(L2:Int):=by omega
        try (have dj1:(k:Int)<(L2:Int):=by(have h9:=HKI.out k hlt;have:=Nat.mod_lt k hLL;omega))
        obtain⟨z1,z2,z3⟩:=hz.2.2 p hpL;have z1:wr.drew.cell? ⟨b,p*3,none⟩=some (.bool _):=z1;have z2:wr.drew.cell? ⟨b,p*3+1,none⟩=some (.string _):=z2;have z3:wr.drew.cell? ⟨b,p*3+2,none⟩=some (.string _):=z3;have fb1:wr.drew.frozen? ⟨b,p*3,none⟩=false:=hz.2.1 _;have fb2:wr.drew.frozen? ⟨b,p*3+1,none⟩=false:=hz.2.1 _;have fb3:wr.drew.frozen? ⟨b,p*3+2,none⟩=false:=hz.2.1 _;have c2:wr.drew.cell? ⟨b2,o2+k%L2*3,none⟩=some (.bool (fB2 (k%L2))):=c2;have c3:wr.drew.cell? ⟨b2,o2+k%L2*3+1,none⟩=some (.string (fS2 (k%L2))):=c3;have c4:wr.drew.cell? ⟨b2,o2+k%L2*3+2,none⟩=some (.string (fT2 (k%L2))):=c4;have cg:wr.drew.cell? ⟨bg,og+k,none⟩=some (.int .i64 (p:Int)):=cg;rw[HKI.out k hlt]at c2 c3 c4
        try rw[Nat.zero_mul,Nat.add_zero]at c2 c3 c4
        clear KG T2 BD HN hfar hbl hz hbY hr14 hr8 hrV hrP r14 rV rP gx0 gx1 hp hpL hq hrel hP hs9 dj;go_wp2_with fail
        go_still_tail 12,(by kernel_rfl)
        change wpList _ _ _ _ _ wr.drew
        clear u0 u1;generalize wr.drew=Y2 at *;go_wp2
        go_roundw
        case rel=>exact⟨k+1,by omega,by go_num,HNN.out⟩
        case measure=>simp[intOf];omega
      · obtain rfl:k=M:=by omega
        have r8:Row wr (w.heap.size+1+1) 26 plZer:=(hfar.block _ (by omega) hr8.lt).trans hr8;have hks:=KP.out.old hbB hbY hfar;have hp9:Pln wr (plC sa r sc false a7 0 c7 (some ⟨b,0,none⟩) L c11) S r false L (puF GX (fun j=>g2 (j%L2)) k g) (puF GX (fun j=>fB2 (j%L2)) k fB) (puF GX (fun j=>fS2 (j%L2)) k fS) (puF GX (fun j=>fT2 (j%L2)) k fT):=⟨sa,sc,a7,c7,some ⟨b,0,none⟩,c11,rfl,hks,KRow.nought _ _ _ _ HEM.out _,hz.qrow HCA.out.1 HCA.out.2⟩
        have HE:=Lib.hid (PoTold.yes (hp9.put r8 _) (below_put hbl (show w.heap.size<=w.heap.size+1+1 by omega) (plC sa r sc false a7 0 c7 (some ⟨b,0,none⟩) L c11)));have HR0:=Lib.hid r8;have HRP:=Lib.hid r14;clear hfar hbl hz hbY hr14 hr8 hrV hrP r14 rV rP hks hp9 r8 hrel hP hs9
        go_wp2_with (first
         | (refine ld_pln rfl (.tmp 14) rfl P rfl HRP.out ?_)
         | (refine st_pln rfl (.tmp 8) (.tmp 120) rfl (w.heap.size+1+1) rfl _ _ _ _ _ _ _ _ _ _ rfl HR0.out rfl ?_))
        exact bodyPost_ret (res_pln2 Tryz.results13 rfl rfl (HR0.out.put _) rfl) rfl HE.out
   refine Stps2.cons (o:=_) ?_ ?_
   · intro ac yw hsz hold hB hp K hK;have t4:ac.tmps[4]? = some (.pointer (some ⟨w.heap.size,0,none⟩)):=hold 4 (by kernel_rfl);clear hold hp hsz;go_simp;exact hK.out _ _ ⟨hB,rfl,Nat.le_refl _,.inl (Below.refl _ _),fun h=>absurd h (by decide)⟩
   refine Stps2.cons (o:=_) ?_ ?_
   · intro ac yw hsz hold hB hp K hK;have e0:=hp 0 (by decide);have t70:ac.tmps[70]? = some (.pointer (some ⟨w.heap.size,0,none⟩)):=(List.cons.inj e0).1;clear hold hp hsz e0;have v0:yw.cell? ⟨w.heap.size,0,none⟩=some (.slice sa r sc):=hB.now.2.2.1.cell 0;have v1:yw.cell? ⟨w.heap.size,1,none⟩=some (.bool false):=hB.now.2.2.1.cell 1;have v2:yw.cell? ⟨w.heap.size,2,none⟩=some (.slice ta 0 tc):=hB.now.2.2.1.cell 2;have v3:yw.cell? ⟨w.heap.size,3,none⟩=some (.slice na L nc):=hB.now.2.2.1.cell 3;go_simp;exact hK.out _ _ ⟨hB,rfl,Nat.le_refl _,.inl (Below.refl _ _),fun h=>absurd h (by decide)⟩
   refine Stps2.cons (o:=_) ?_ ?_
   · intro ac yw hsz hold hB hp K hK;have t4:ac.tmps[4]? = some (.pointer (some ⟨w.heap.size,0,none⟩)):=hold 4 (by kernel_rfl);clear hold hp hsz;go_simp;exact hK.out _ _ ⟨hB,rfl,Nat.le_refl _,.inl (Below.refl _ _),fun h=>absurd h (by decide)⟩
   refine Stps2.cons (o:=_) ?_ ?_
   · intro ac yw hsz hold hB hp K hK;have e2:=hp 2 (by decide);have t72:ac.tmps[72]? = some (.pointer (some ⟨w.heap.size,1,none⟩)):=(List.cons.inj e2).1;clear hold hp hsz e2;have v0:yw.cell? ⟨w.heap.size,0,none⟩=some (.slice sa r sc):=hB.now.2.2.1.cell 0;have v1:yw.cell? ⟨w.heap.size,1,none⟩=some (.bool false):=hB.now.2.2.1.cell 1;have v2:yw.cell? ⟨w.heap.size,2,none⟩=some (.slice ta 0 tc):=hB.now.2.2.1.cell 2;have v3:yw.cell? ⟨w.heap.size,3,none⟩=some (.slice na L nc):=hB.now.2.2.1.cell 3;go_simp;exact hK.out _ _ ⟨hB,rfl,Nat.le_refl _,.inl (Below.refl _ _),fun h=>absurd h (by decide)⟩
   refine Stps2.cons (o:=_) ?_ ?_
   · intro ac yw hsz hold hB hp K hK;clear hold hp hsz;have hbz:Below yw.heap.size yw (yw.alloc (.cells #[] 21))/\yw.heap.size<(yw.alloc (.cells #[] 21)).heap.size:=⟨(Below.refl _ _).alloc (Nat.le_refl _) _,by rw[World.size_alloc];omega⟩
     go_simp;exact hK.out _ _ ⟨hB.alloc _,Exists.intro yw.heap.size (rfl),Nat.le_of_lt hbz.2,.inl hbz.1,fun _=>⟨_,rfl,Nat.le_refl _,hbz.2⟩⟩
   refine Stps2.cons (o:=_) ?_ ?_
   · intro ac yw hsz hold hB hp K hK;have t4:ac.tmps[4]? = some (.pointer (some ⟨w.heap.size,0,none⟩)):=hold 4 (by kernel_rfl);clear hold hp hsz;go_simp;exact hK.out _ _ ⟨hB,rfl,Nat.le_refl _,.inl (Below.refl _ _),fun h=>absurd h (by decide)⟩
   refine Stps2.cons (o:=_) ?_ ?_
   · intro ac yw hsz hold hB hp K hK;have e5:=hp 5 (by decide);have t75:ac.tmps[75]? = some (.pointer (some ⟨w.heap.size,2,none⟩)):=(List.cons.inj e5).1;clear hold hp hsz e5;have v0:yw.cell? ⟨w.heap.size,0,none⟩=some (.slice sa r sc):=hB.now.2.2.1.cell 0;have v1:yw.cell? ⟨w.heap.size,1,none⟩=some (.bool false):=hB.now.2.2.1.cell 1;have v2:yw.cell? ⟨w.heap.size,2,none⟩=some (.slice ta 0 tc):=hB.now.2.2.1.cell 2;have v3:yw.cell? ⟨w.heap.size,3,none⟩=some (.slice na L nc):=hB.now.2.2.1.cell 3;go_simp;exact hK.out _ _ ⟨hB,rfl,Nat.le_refl _,.inl (Below.refl _ _),fun h=>absurd h (by decide)⟩
   refine Stps2.cons (o:=_) ?_ ?_
   · intro ac yw hsz hold hB hp K hK;obtain⟨k4_4,e4⟩:=hp 4 (by decide);have t74:ac.tmps[74]? = some (.slice (some ⟨k4_4,0,none⟩) 0 0):=(List.cons.inj e4).1;have e6:=hp 6 (by decide);have t76:ac.tmps[76]? = some (.slice ta 0 tc):=(List.cons.inj e6).1;clear hold hp hsz;rw[if_pos (by rfl)];obtain⟨a9,c9,y9,r9,b9,h9⟩:=APC.out yw k4_4 hB.below;refine Go.Lib.wp_append_run yw (.tmp 74) (.tmp 76) _ _ rfl _ _ (ev_tmp t74) (ev_tmp t76) _ _ r9 ?_;exact hK.out _ _ ⟨hB.go b9,Exists.intro a9 (Exists.intro c9 (And.intro rfl h9)),b9.size,.inl b9,fun h=>absurd h (by decide)⟩
   refine Stps2.cons (o:=_) ?_ ?_
   · intro ac yw hsz hold hB hp K hK;clear hold hp hsz;have hbz:Below yw.heap.size yw (yw.alloc (.cells #[] 46))/\yw.heap.size<(yw.alloc (.cells #[] 46)).heap.size:=⟨(Below.refl _ _).alloc (Nat.le_refl _) _,by rw[World.size_alloc];omega⟩
     go_simp;exact hK.out _ _ ⟨hB.alloc _,Exists.intro yw.heap.size (rfl),Nat.le_of_lt hbz.2,.inl hbz.1,fun _=>⟨_,rfl,Nat.le_refl _,hbz.2⟩⟩
   refine Stps2.cons (o:=_) ?_ ?_
   · intro ac yw hsz hold hB hp K hK;have t4:ac.tmps[4]? = some (.pointer (some ⟨w.heap.size,0,none⟩)):=hold 4 (by kernel_rfl);clear hold hp hsz;go_simp;exact hK.out _ _ ⟨hB,rfl,Nat.le_refl _,.inl (Below.refl _ _),fun h=>absurd h (by decide)⟩
   refine Stps2.cons (o:=_) ?_ ?_
   · intro ac yw hsz hold hB hp K hK;have e9:=hp 9 (by decide);have t79:ac.tmps[79]? = some (.pointer (some ⟨w.heap.size,3,none⟩)):=(List.cons.inj e9).1;clear hold hp hsz e9;have v0:yw.cell? ⟨w.heap.size,0,none⟩=some (.slice sa r sc):=hB.now.2.2.1.cell 0;have v1:yw.cell? ⟨w.heap.size,1,none⟩=some (.bool false):=hB.now.2.2.1.cell 1;have v2:yw.cell? ⟨w.heap.size,2,none⟩=some (.slice ta 0 tc):=hB.now.2.2.1.cell 2;have v3:yw.cell? ⟨w.heap.size,3,none⟩=some (.slice na L nc):=hB.now.2.2.1.cell 3;go_simp;exact hK.out _ _ ⟨hB,rfl,Nat.le_refl _,.inl (Below.refl _ _),fun h=>absurd h (by decide)⟩
   refine Stps2.cons (o:=_) ?_ ?_
   · intro ac yw hsz hold hB hp K hK;obtain⟨k8_8,e8⟩:=hp 8 (by decide);have t78:ac.tmps[78]? = some (.slice (some ⟨k8_8,0,none⟩) 0 0):=(List.cons.inj e8).1;have e10:=hp 10 (by decide);have t80:ac.tmps[80]? = some (.slice na L nc):=(List.cons.inj e10).1;clear hold hp hsz;rw[if_pos (by rfl)];obtain⟨a9,c9,y9,r9,b9,h9⟩:=APQ.out yw k8_8 hB.below;refine Go.Lib.wp_append_run yw (.tmp 78) (.tmp 80) _ _ rfl _ _ (ev_tmp t78) (ev_tmp t80) _ _ r9 ?_;exact hK.out _ _ ⟨hB.go b9,Exists.intro a9 (Exists.intro c9 (And.intro rfl h9)),b9.size,.inl b9,fun h=>absurd h (by decide)⟩
   refine Stps2.cons (o:=_) ?_ ?_
   · intro ac yw hsz hold hB hp K hK;have e1:=hp 1 (by decide);have t71:ac.tmps[71]? = some (.slice sa r sc):=(List.cons.inj e1).1;have e3:=hp 3 (by decide);have t73:ac.tmps[73]? = some (.bool false):=(List.cons.inj e3).1;obtain⟨a7_7,c7_7,e7,g7_0⟩:=hp 7 (by decide);have t77:ac.tmps[77]? = some (.slice a7_7 0 c7_7):=(List.cons.inj e7).1;obtain⟨a11_11,c11_11,e11,g11_0⟩:=hp 11 (by decide);have t81:ac.tmps[81]? = some (.slice a11_11 L c11_11):=(List.cons.inj e11).1;clear hold hp hsz e1 e3 e7 e11;go_simp;exact hK.out _ _ ⟨hB,Exists.intro a7_7 (Exists.intro c7_7 (Exists.intro a11_11 (Exists.intro c11_11 (And.intro rfl (And.intro g7_0 g11_0))))),Nat.le_refl _,.inl (Below.refl _ _),fun h=>absurd h (by decide)⟩
   refine Stps2.cons (o:=_) ?_ ?_
   · intro ac yw hsz hold hB hp K hK;clear hold hp hsz;have hk0:=hB.now.1.lt;have hsl:=Row.new yw 26 #[.slice none 0 0,.bool false,.slice none 0 0,.slice none 0 0];have hbz:Below yw.heap.size yw (yw.alloc (.cells #[.slice none 0 0,.bool false,.slice none 0 0,.slice none 0 0] 26))/\yw.heap.size<(yw.alloc (.cells #[.slice none 0 0,.bool false,.slice none 0 0,.slice none 0 0] 26)).heap.size:=⟨(Below.refl _ _).alloc (Nat.le_refl _) _,by rw[World.size_alloc];omega⟩
     go_simp;exact hK.out _ _ ⟨hB.alloc _,Exists.intro yw.heap.size (And.intro rfl (And.intro hsl hB.below.size)),Nat.le_of_lt hbz.2,.inl hbz.1,fun _=>⟨_,rfl,Nat.le_refl _,hbz.2⟩⟩
   exact Stps2.nil _
  | true =>
   simp only[show tnO true L=L from rfl,show nnO true L=0 from rfl,show tnO true L2=L2 from rfl,show nnO true L2=0 from rfl]at *
   refine wp_region_inv3 ⟨(fun j=>([[70], [71], [72], [73], [74], [75], [76], [77], [78], [79], [80], [81], [82], [14], []]:List (List Nat)).getD j []),(fun j=>([[], [0], [], [2], [], [], [5], [4,5,6], [], [], [9], [4,5,6,7,8,9,10], [0,1,2,3,4,5,6,7,8,9,10,11], [], [0,1,2,3,4,5,6,7,8,9,10,11,12,13]]:List (List Nat)).getD j []), [4,8,13]⟩ 14 (fun jj vv yy=>match jj with|0=>vv = [some (.pointer (some ⟨w.heap.size,0,none⟩))]|1=>vv = [some (.slice sa r sc)]|2=>vv = [some (.pointer (some ⟨w.heap.size,1,none⟩))]|3=>vv = [some (.bool true)]|4=>∃(k4:Nat),vv = [some (.slice (some ⟨k4,0,none⟩) 0 0)]|5=>vv = [some (.pointer (some ⟨w.heap.size,2,none⟩))]|6=>vv = [some (.slice ta L tc)]|7=>∃(a7:Option Addr),∃(c7:Nat),vv = [some (.slice a7 L c7)]/\FrC yy w4.heap.size a7 L c7 g|8=>∃(k8:Nat),vv = [some (.slice (some ⟨k8,0,none⟩) 0 0)]|9=>vv = [some (.pointer (some ⟨w.heap.size,3,none⟩))]|10=>vv = [some (.slice na 0 nc)]|11=>∃(a11:Option Addr),∃(c11:Nat),vv = [some (.slice a11 0 c11)]/\FrQ yy w4.heap.size a11 0 c11 fB fS fT|12=>∃(a7:Option Addr),∃(c7:Nat),∃(a11:Option Addr),∃(c11:Nat),vv = [some (.agg #[.slice sa r sc,.bool true,.slice a7 L c7,.slice a11 0 c11])]/\FrC yy w4.heap.size a7 L c7 g/\FrQ yy w4.heap.size a11 0 c11 fB fS fT|13=>∃(k13:Nat),vv = [some (.pointer (some ⟨k13,0,none⟩))]/\Row yy k13 26 #[.slice none 0 0,.bool false,.slice none 0 0,.slice none 0 0]/\w4.heap.size<=k13|_=>True) (Bag w4 (fun y=>Row y (w.heap.size+1+1) 26 plZer/\Row y (w.heap.size+1) 26 (plC sa2 r2 sc2 true ta2 L2 tc2 na2 0 nc2)/\Row y w.heap.size 26 (plC sa r sc true ta L tc na 0 nc)/\True)) (by kernel_rfl) (by kernel_rfl) (by kernel_rfl) (by kernel_rfl) BZ.out.drew ?_ ?_ ?_
   · intro jj vv yw yw2 hb h
     match jj,h with
     | 0,h=>exact h
     | 1,h=>exact h
     | 2,h=>exact h
     | 3,h=>exact h
     | 4,h=>exact h
     | 5,h=>exact h
     | 6,h=>exact h
     | 7,⟨a7,c7,e7,g7_0⟩=>exact Exists.intro a7 (Exists.intro c7 (And.intro e7 (g7_0.below hb)))
     | 8,h=>exact h
     | 9,h=>exact h
     | 10,h=>exact h
     | 11,⟨a11,c11,e11,g11_0⟩=>exact Exists.intro a11 (Exists.intro c11 (And.intro e11 (g11_0.below hb)))
     | 12,⟨a7,c7,a11,c11,e12,g12_0,g12_1⟩=>exact Exists.intro a7 (Exists.intro c7 (Exists.intro a11 (Exists.intro c11 (And.intro e12 (And.intro (g12_0.below hb) (g12_1.below hb))))))
     | 13,⟨k13,e13,g13_0,g13_1⟩=>exact Exists.intro k13 (And.intro e13 (And.intro (g13_0.below hb) g13_1))
     | _+14,h=>exact h
   · intro ac yw hsz hdf hold hB hp; obtain ⟨P, e13, hp0, hP⟩ := hp 13 (by decide); obtain ⟨a7, c7, a11, c11, e12, fr7, fr11⟩ := hp 12 (by decide); have t14 : ac.tmps[14]? = some (.pointer (some ⟨P, 0, none⟩)) := (List.cons.inj e13).1; have t82 : ac.tmps[82]? = some (.agg #[.slice sa r sc, .bool true, .slice a7 L c7, .slice a11 0 c11]) := (List.cons.inj e12).1; have t4 : ac.tmps[4]? = some (.pointer (some ⟨w.heap.size, 0, none⟩)) := hold 4 (by kernel_rfl); have t5 : ac.tmps[5]? = some (.pointer (some ⟨w.heap.size + 1, 0, none⟩)) := hold 5 (by kernel_rfl); have t8 : ac.tmps[8]? = some (.pointer (some ⟨w.heap.size + 1 + 1, 0, none⟩)) := hold 8 (by kernel_rfl); have t13 : ac.tmps[13]? = some (.slice pa M pc) := hold 13 (by kernel_rfl); clear hold hp e12 e13; obtain ⟨TV, hTV⟩ : ∃ TV : Nat -> Value, ∀ i, (ac.tmps[i]?).getD undef = TV i := ⟨_, fun _ => rfl⟩
     have f4:=(hTV 4).symm.trans (congrArg (fun x=>Option.getD x undef) t4);have f5:=(hTV 5).symm.trans (congrArg (fun x=>Option.getD x undef) t5);have f8:=(hTV 8).symm.trans (congrArg (fun x=>Option.getD x undef) t8);have f13:=(hTV 13).symm.trans (congrArg (fun x=>Option.getD x undef) t13);have f14:=(hTV 14).symm.trans (congrArg (fun x=>Option.getD x undef) t14);have f82:=(hTV 82).symm.trans (congrArg (fun x=>Option.getD x undef) t82);have hac:=act_eq (n:=121) hsz TV hTV;rw[show((List.range 121).map TV).toArray=#[TV 0,TV 1,TV 2,TV 3,TV 4,TV 5,TV 6,TV 7,TV 8,TV 9,TV 10,TV 11,TV 12,TV 13,TV 14,TV 15,TV 16,TV 17,TV 18,TV 19,TV 20,TV 21,TV 22,TV 23,TV 24,TV 25,TV 26,TV 27,TV 28,TV 29,TV 30,TV 31,TV 32,TV 33,TV 34,TV 35,TV 36,TV 37,TV 38,TV 39,TV 40,TV 41,TV 42,TV 43,TV 44,TV 45,TV 46,TV 47,TV 48,TV 49,TV 50,TV 51,TV 52,TV 53,TV 54,TV 55,TV 56,TV 57,TV 58,TV 59,TV 60,TV 61,TV 62,TV 63,TV 64,TV 65,TV 66,TV 67,TV 68,TV 69,TV 70,TV 71,TV 72,TV 73,TV 74,TV 75,TV 76,TV 77,TV 78,TV 79,TV 80,TV 81,TV 82,TV 83,TV 84,TV 85,TV 86,TV 87,TV 88,TV 89,TV 90,TV 91,TV 92,TV 93,TV 94,TV 95,TV 96,TV 97,TV 98,TV 99,TV 100,TV 101,TV 102,TV 103,TV 104,TV 105,TV 106,TV 107,TV 108,TV 109,TV 110,TV 111,TV 112,TV 113,TV 114,TV 115,TV 116,TV 117,TV 118,TV 119,TV 120]from rfl,f4,f5,f8,f13,f14,f82,hdf]at hac;simp only[Option.getD_some]at hac;subst hac;clear hTV f4 f5 f8 f13 f14 f82
     have hL0:0<L:=by
      have:=HPOS.out 0 HM0.out
      omega
     obtain⟨b,rfl,hbB,ZA⟩:=fr7.2.2 hL0;have HCA:=Lib.hid (And.intro fr7.1 fr7.2.1);have HEM:=Lib.hid fr11.2.1
     have hbP:b≠P:=fun e=>by
      have h9:=ZA.2.2 0 hL0;rw[e]at h9;rw[hp0.cell 0]at h9
      cases h9
     have HF4:=far_put4 yw P (.slice sa r sc) (.bool true) (.slice (some ⟨b,0,none⟩) L c7) (.slice a11 0 c11)
     have HY:Hid (Below w4.heap.size w4 (put4 yw P (.slice sa r sc) (.bool true) (.slice (some ⟨b,0,none⟩) L c7) (.slice a11 0 c11))/\Row (put4 yw P (.slice sa r sc) (.bool true) (.slice (some ⟨b,0,none⟩) L c7) (.slice a11 0 c11)) P 26 (plC sa r sc true (some ⟨b,0,none⟩) L c7 a11 0 c11)/\Row (put4 yw P (.slice sa r sc) (.bool true) (.slice (some ⟨b,0,none⟩) L c7) (.slice a11 0 c11)) (w.heap.size+1+1) 26 plZer/\Row (put4 yw P (.slice sa r sc) (.bool true) (.slice (some ⟨b,0,none⟩) L c7) (.slice a11 0 c11)) (w.heap.size+1) 26 (plC sa2 r2 sc2 true ta2 L2 tc2 na2 0 nc2)/\Row (put4 yw P (.slice sa r sc) (.bool true) (.slice (some ⟨b,0,none⟩) L c7) (.slice a11 0 c11)) w.heap.size 26 (plC sa r sc true ta L tc na 0 nc)/\ZTo (put4 yw P (.slice sa r sc) (.bool true) (.slice (some ⟨b,0,none⟩) L c7) (.slice a11 0 c11)) b L g) :=
      Lib.hid ⟨below_put4 hB.below hP _ _ _ _,row_put4 hp0 _ _ _ _,(HF4.block _ (by omega) hB.now.1.lt).trans hB.now.1,(HF4.block _ (by omega) hB.now.2.1.lt).trans hB.now.2.1,(HF4.block _ (by omega) hB.now.2.2.1.lt).trans hB.now.2.2.1,ZA.far HF4 hbP⟩
     unfold put4 at HY;have q0:yw.cell? ⟨P,0,none⟩=some (.slice none 0 0):=hp0.cell 0;have q1:yw.cell? ⟨P,1,none⟩=some (.bool false):=hp0.cell 1;have q2:yw.cell? ⟨P,2,none⟩=some (.slice none 0 0):=hp0.cell 2;have q3:yw.cell? ⟨P,3,none⟩=some (.slice none 0 0):=hp0.cell 3;have f0:=hp0.free 0;have f1:=hp0.free 1;have f2:=hp0.free 2;have f3:=hp0.free 3;have HPP:=Lib.hid (And.intro hP hs2);clear HF4 hp0 hB fr7 fr11 ZA t4 t5 t8 t13 t14 t82 hsz APC APQ BZ hP TP NP;refine TailWp.step rfl ?_;intro K hK;go_simp;refine hK.out _ _ ?_;refine TailWp.end rfl ?_;generalize (((yw.setCell ⟨P,0,none⟩ (.slice sa r sc)).setCell ⟨P,1,none⟩ (.bool true)).setCell ⟨P,2,none⟩ (.slice (some ⟨b,0,none⟩) L c7)).setCell ⟨P,3,none⟩ (.slice a11 0 c11)=Y0 at *;clear q0 q1 q2 q3 f0 f1 f2 f3;go_wp2_with fail
     go_loopw [15] (fun i wr=>∃k:Nat,k<=M/\i=.int .i64 k/\Hid (Far b Y0 wr/\Below w.heap.size w wr/\ZTo wr b L (puF GX (fun j=>g2 (j%L2)) k g))) (fun i _=>M-(intOf i).toNat)
     case atStart=>exact⟨0,by omega,rfl,Far.refl _ _,HBW.out.trans (HY.out.1.mono HBW.out.size),HY.out.2.2.2.2.2⟩
     case round =>
      obtain⟨k,hk,rfl,hrel⟩:=hrel;obtain⟨hfar,hbl,hz⟩:=hrel.out;obtain⟨hbY,hr14,hr8,hrV,hrP,_⟩:=HY.out;obtain⟨hP,hs9⟩:=HPP.out;have r14:Row wr P 26 (plC sa r sc true (some ⟨b,0,none⟩) L c7 a11 0 c11):=(hfar.block _ (fun e=>hbP e.symm) hr14.lt).trans hr14;have rV:Row wr (w.heap.size+1) 26 (plC sa2 r2 sc2 true ta2 L2 tc2 na2 0 nc2):=(hfar.block _ (by omega) hrV.lt).trans hrV;have rP:Row wr w.heap.size 26 (plC sa r sc true ta L tc na 0 nc):=(hfar.block _ (by omega) hrP.lt).trans hrP
      by_cases hlt:k<M
      · have KG:=HG.out.old hbB hbY hfar;obtain⟨bg,og,rfl,_,cg⟩:=KG.get hlt;obtain⟨gx0,gx1⟩:=HPOS.out k hlt;obtain⟨p,hp⟩:∃p:Nat,GX k=(p:Int):=⟨(GX k).toNat,by omega⟩
        have hpL:p<L:=by omega
        rw[hp]at cg;have hq:k%L2<L2:=Nat.mod_lt _ hLL;have T2:=TV2.out.old hbB hbY hfar;obtain⟨b2,o2,rfl,_,c2⟩:=T2.get hq;have BD:Below wr.heap.size wr wr.drew:=(Below.refl _ wr).drew;have HN:=ZTo.put (hz.below BD) hpL (g2 (k%L2));rw[puF_put (V:=fun j=>g2 (j%L2)) hp]at HN;rw[HKI.out k hlt]at HN;have dj:True/\((k:Int)<(L2:Int)∨True):=⟨trivial,.inr trivial⟩
        have HNN:=hn3C (w:=w) (Y0:=Y0) (fun _=>(hfar.trans (Far.of_below BD)).trans (Far.setCell _ _ _ _)) (fun _=>(hbl.trans (BD.mono hbl.size)).setCell (p:=⟨b,p,none⟩) (show w.heap.size<=b by omega) _) HN;have p2:wr.drew.cell? ⟨P,2,none⟩=some (.slice (some ⟨b,0,none⟩) L c7):=r14.cell 2;have v0:wr.drew.cell? ⟨w.heap.size+1,0,none⟩=some (.slice sa2 r2 sc2):=rV.cell 0;have v2:wr.drew.cell? ⟨w.heap.size+1,2,none⟩=some (.slice (some ⟨b2,o2,none⟩) L2 tc2):=rV.cell 2;have p1:wr.drew.cell? ⟨w.heap.size,1,none⟩=some (.bool true):=rP.cell 1;have u0:wr.cell? ⟨w.heap.size+1,0,none⟩=some (.slice sa2 r2 sc2):=rV.cell 0;have u1:wr.cell? ⟨w.heap.size,1,none⟩=some (.bool true):=rP.cell 1;have dk0:(0:Int)<=k:=by omega
        have dk1:(k:Int)<M:=by omega
        have dp0:(0:Int)<=(p:Int):=by omega
        have dp1:(p:Int)<(L:Int):=by omega
        have dj0:(0:Int)<(L2:Int):=by omega
        try (have dj1:(k:Int)<(L2:Int):=by(have h9:=HKI.out k hlt;have:=Nat.mod_lt k hLL;omega))
        have zb:wr.drew.cell? ⟨b,p,none⟩=some (.int .i32 _):=hz.2.2 p hpL;have fb:wr.drew.frozen? ⟨b,p,none⟩=false:=hz.2.1 p;have c2:wr.drew.cell? ⟨b2,o2+k%L2,none⟩=some (.int .i32 (g2 (k%L2))):=c2;have cg:wr.drew.cell? ⟨bg,og+k,none⟩=some (.int .i64 (p:Int)):=cg;rw[HKI.out k hlt]at c2
        try rw[Nat.add_zero]at c2
        clear KG T2 BD HN hfar hbl hz hbY hr14 hr8 hrV hrP r14 rV rP gx0 gx1 hp hpL hq hrel hP hs9 dj;go_wp2_with fail
        go_still_tail 12,(by kernel_rfl)
        change wpList _ _ _ _ _ wr.drew
        clear u0 u1;generalize wr.drew=Y2 at *;go_wp2
        go_roundw
        case rel=>exact⟨k+1,by omega,by go_num,HNN.out⟩
        case measure=>simp[intOf];omega
      · obtain rfl:k=M:=by omega
        have r8:Row wr (w.heap.size+1+1) 26 plZer:=(hfar.block _ (by omega) hr8.lt).trans hr8;have hks:=KP.out.old hbB hbY hfar;have hp9:Pln wr (plC sa r sc true (some ⟨b,0,none⟩) L c7 a11 0 c11) S r true L (puF GX (fun j=>g2 (j%L2)) k g) (puF GX (fun j=>fB2 (j%L2)) k fB) (puF GX (fun j=>fS2 (j%L2)) k fS) (puF GX (fun j=>fT2 (j%L2)) k fT):=⟨sa,sc,some ⟨b,0,none⟩,c7,a11,c11,rfl,hks,hz.krow HCA.out.1 HCA.out.2,QRow.nought _ _ _ HEM.out _ _ _⟩
        have HE:=Lib.hid (PoTold.yes (hp9.put r8 _) (below_put hbl (show w.heap.size<=w.heap.size+1+1 by omega) (plC sa r sc true (some ⟨b,0,none⟩) L c7 a11 0 c11)));have HR0:=Lib.hid r8;have HRP:=Lib.hid r14;clear hfar hbl hz hbY hr14 hr8 hrV hrP r14 rV rP hks hp9 r8 hrel hP hs9
        go_wp2_with (first
         | (refine ld_pln rfl (.tmp 14) rfl P rfl HRP.out ?_)
         | (refine st_pln rfl (.tmp 8) (.tmp 120) rfl (w.heap.size+1+1) rfl _ _ _ _ _ _ _ _ _ _ rfl HR0.out rfl ?_))
        exact bodyPost_ret (res_pln2 Tryz.results13 rfl rfl (HR0.out.put _) rfl) rfl HE.out
   refine Stps2.cons (o:=_) ?_ ?_
   · intro ac yw hsz hold hB hp K hK;have t4:ac.tmps[4]? = some (.pointer (some ⟨w.heap.size,0,none⟩)):=hold 4 (by kernel_rfl);clear hold hp hsz;go_simp;exact hK.out _ _ ⟨hB,rfl,Nat.le_refl _,.inl (Below.refl _ _),fun h=>absurd h (by decide)⟩
   refine Stps2.cons (o:=_) ?_ ?_
   · intro ac yw hsz hold hB hp K hK;have e0:=hp 0 (by decide);have t70:ac.tmps[70]? = some (.pointer (some ⟨w.heap.size,0,none⟩)):=(List.cons.inj e0).1;clear hold hp hsz e0;have v0:yw.cell? ⟨w.heap.size,0,none⟩=some (.slice sa r sc):=hB.now.2.2.1.cell 0;have v1:yw.cell? ⟨w.heap.size,1,none⟩=some (.bool true):=hB.now.2.2.1.cell 1;have v2:yw.cell? ⟨w.heap.size,2,none⟩=some (.slice ta L tc):=hB.now.2.2.1.cell 2;have v3:yw.cell? ⟨w.heap.size,3,none⟩=some (.slice na 0 nc):=hB.now.2.2.1.cell 3;go_simp;exact hK.out _ _ ⟨hB,rfl,Nat.le_refl _,.inl (Below.refl _ _),fun h=>absurd h (by decide)⟩
   refine Stps2.cons (o:=_) ?_ ?_
   · intro ac yw hsz hold hB hp K hK;have t4:ac.tmps[4]? = some (.pointer (some ⟨w.heap.size,0,none⟩)):=hold 4 (by kernel_rfl);clear hold hp hsz;go_simp;exact hK.out _ _ ⟨hB,rfl,Nat.le_refl _,.inl (Below.refl _ _),fun h=>absurd h (by decide)⟩
   refine Stps2.cons (o:=_) ?_ ?_
   · intro ac yw hsz hold hB hp K hK;have e2:=hp 2 (by decide);have t72:ac.tmps[72]? = some (.pointer (some ⟨w.heap.size,1,none⟩)):=(List.cons.inj e2).1;clear hold hp hsz e2;have v0:yw.cell? ⟨w.heap.size,0,none⟩=some (.slice sa r sc):=hB.now.2.2.1.cell 0;have v1:yw.cell? ⟨w.heap.size,1,none⟩=some (.bool true):=hB.now.2.2.1.cell 1;have v2:yw.cell? ⟨w.heap.size,2,none⟩=some (.slice ta L tc):=hB.now.2.2.1.cell 2;have v3:yw.cell? ⟨w.heap.size,3,none⟩=some (.slice na 0 nc):=hB.now.2.2.1.cell 3;go_simp;exact hK.out _ _ ⟨hB,rfl,Nat.le_refl _,.inl (Below.refl _ _),fun h=>absurd h (by decide)⟩
   refine Stps2.cons (o:=_) ?_ ?_
   · intro ac yw hsz hold hB hp K hK;clear hold hp hsz;have hbz:Below yw.heap.size yw (yw.alloc (.cells #[] 21))/\yw.heap.size<(yw.alloc (.cells #[] 21)).heap.size:=⟨(Below.refl _ _).alloc (Nat.le_refl _) _,by rw[World.size_alloc];omega⟩
     go_simp;exact hK.out _ _ ⟨hB.alloc _,Exists.intro yw.heap.size (rfl),Nat.le_of_lt hbz.2,.inl hbz.1,fun _=>⟨_,rfl,Nat.le_refl _,hbz.2⟩⟩
   refine Stps2.cons (o:=_) ?_ ?_
   · intro ac yw hsz hold hB hp K hK;have t4:ac.tmps[4]? = some (.pointer (some ⟨w.heap.size,0,none⟩)):=hold 4 (by kernel_rfl);clear hold hp hsz;go_simp;exact hK.out _ _ ⟨hB,rfl,Nat.le_refl _,.inl (Below.refl _ _),fun h=>absurd h (by decide)⟩
   refine Stps2.cons (o:=_) ?_ ?_
   · intro ac yw hsz hold hB hp K hK;have e5:=hp 5 (by decide);have t75:ac.tmps[75]? = some (.pointer (some ⟨w.heap.size,2,none⟩)):=(List.cons.inj e5).1;clear hold hp hsz e5;have v0:yw.cell? ⟨w.heap.size,0,none⟩=some (.slice sa r sc):=hB.now.2.2.1.cell 0;have v1:yw.cell? ⟨w.heap.size,1,none⟩=some (.bool true):=hB.now.2.2.1.cell 1;have v2:yw.cell? ⟨w.heap.size,2,none⟩=some (.slice ta L tc):=hB.now.2.2.1.cell 2;have v3:yw.cell? ⟨w.heap.size,3,none⟩=some (.slice na 0 nc):=hB.now.2.2.1.cell 3;go_simp;exact hK.out _ _ ⟨hB,rfl,Nat.le_refl _,.inl (Below.refl _ _),fun h=>absurd h (by decide)⟩
   refine Stps2.cons (o:=_) ?_ ?_
   · intro ac yw hsz hold hB hp K hK;obtain⟨k4_4,e4⟩:=hp 4 (by decide);have t74:ac.tmps[74]? = some (.slice (some ⟨k4_4,0,none⟩) 0 0):=(List.cons.inj e4).1;have e6:=hp 6 (by decide);have t76:ac.tmps[76]? = some (.slice ta L tc):=(List.cons.inj e6).1;clear hold hp hsz;rw[if_pos (by rfl)];obtain⟨a9,c9,y9,r9,b9,h9⟩:=APC.out yw k4_4 hB.below;refine Go.Lib.wp_append_run yw (.tmp 74) (.tmp 76) _ _ rfl _ _ (ev_tmp t74) (ev_tmp t76) _ _ r9 ?_;exact hK.out _ _ ⟨hB.go b9,Exists.intro a9 (Exists.intro c9 (And.intro rfl h9)),b9.size,.inl b9,fun h=>absurd h (by decide)⟩
   refine Stps2.cons (o:=_) ?_ ?_
   · intro ac yw hsz hold hB hp K hK;clear hold hp hsz;have hbz:Below yw.heap.size yw (yw.alloc (.cells #[] 46))/\yw.heap.size<(yw.alloc (.cells #[] 46)).heap.size:=⟨(Below.refl _ _).alloc (Nat.le_refl _) _,by rw[World.size_alloc];omega⟩
     go_simp;exact hK.out _ _ ⟨hB.alloc _,Exists.intro yw.heap.size (rfl),Nat.le_of_lt hbz.2,.inl hbz.1,fun _=>⟨_,rfl,Nat.le_refl _,hbz.2⟩⟩
   refine Stps2.cons (o:=_) ?_ ?_
   · intro ac yw hsz hold hB hp K hK;have t4:ac.tmps[4]? = some (.pointer (some ⟨w.heap.size,0,none⟩)):=hold 4 (by kernel_rfl);clear hold hp hsz;go_simp;exact hK.out _ _ ⟨hB,rfl,Nat.le_refl _,.inl (Below.refl _ _),fun h=>absurd h (by decide)⟩
   refine Stps2.cons (o:=_) ?_ ?_
   · intro ac yw hsz hold hB hp K hK;have e9:=hp 9 (by decide);have t79:ac.tmps[79]? = some (.pointer (some ⟨w.heap.size,3,none⟩)):=(List.cons.inj e9).1;clear hold hp hsz e9;have v0:yw.cell? ⟨w.heap.size,0,none⟩=some (.slice sa r sc):=hB.now.2.2.1.cell 0;have v1:yw.cell? ⟨w.heap.size,1,none⟩=some (.bool true):=hB.now.2.2.1.cell 1;have v2:yw.cell? ⟨w.heap.size,2,none⟩=some (.slice ta L tc):=hB.now.2.2.1.cell 2;have v3:yw.cell? ⟨w.heap.size,3,none⟩=some (.slice na 0 nc):=hB.now.2.2.1.cell 3;go_simp;exact hK.out _ _ ⟨hB,rfl,Nat.le_refl _,.inl (Below.refl _ _),fun h=>absurd h (by decide)⟩
   refine Stps2.cons (o:=_) ?_ ?_
   · intro ac yw hsz hold hB hp K hK;obtain⟨k8_8,e8⟩:=hp 8 (by decide);have t78:ac.tmps[78]? = some (.slice (some ⟨k8_8,0,none⟩) 0 0):=(List.cons.inj e8).1;have e10:=hp 10 (by decide);have t80:ac.tmps[80]? = some (.slice na 0 nc):=(List.cons.inj e10).1;clear hold hp hsz;rw[if_pos (by rfl)];obtain⟨a9,c9,y9,r9,b9,h9⟩:=APQ.out yw k8_8 hB.below;refine Go.Lib.wp_append_run yw (.tmp 78) (.tmp 80) _ _ rfl _ _ (ev_tmp t78) (ev_tmp t80) _ _ r9 ?_;exact hK.out _ _ ⟨hB.go b9,Exists.intro a9 (Exists.intro c9 (And.intro rfl h9)),b9.size,.inl b9,fun h=>absurd h (by decide)⟩
   refine Stps2.cons (o:=_) ?_ ?_
   · intro ac yw hsz hold hB hp K hK;have e1:=hp 1 (by decide);have t71:ac.tmps[71]? = some (.slice sa r sc):=(List.cons.inj e1).1;have e3:=hp 3 (by decide);have t73:ac.tmps[73]? = some (.bool true):=(List.cons.inj e3).1;obtain⟨a7_7,c7_7,e7,g7_0⟩:=hp 7 (by decide);have t77:ac.tmps[77]? = some (.slice a7_7 L c7_7):=(List.cons.inj e7).1;obtain⟨a11_11,c11_11,e11,g11_0⟩:=hp 11 (by decide);have t81:ac.tmps[81]? = some (.slice a11_11 0 c11_11):=(List.cons.inj e11).1;clear hold hp hsz e1 e3 e7 e11;go_simp;exact hK.out _ _ ⟨hB,Exists.intro a7_7 (Exists.intro c7_7 (Exists.intro a11_11 (Exists.intro c11_11 (And.intro rfl (And.intro g7_0 g11_0))))),Nat.le_refl _,.inl (Below.refl _ _),fun h=>absurd h (by decide)⟩
   refine Stps2.cons (o:=_) ?_ ?_
   · intro ac yw hsz hold hB hp K hK;clear hold hp hsz;have hk0:=hB.now.1.lt;have hsl:=Row.new yw 26 #[.slice none 0 0,.bool false,.slice none 0 0,.slice none 0 0];have hbz:Below yw.heap.size yw (yw.alloc (.cells #[.slice none 0 0,.bool false,.slice none 0 0,.slice none 0 0] 26))/\yw.heap.size<(yw.alloc (.cells #[.slice none 0 0,.bool false,.slice none 0 0,.slice none 0 0] 26)).heap.size:=⟨(Below.refl _ _).alloc (Nat.le_refl _) _,by rw[World.size_alloc];omega⟩
     go_simp;exact hK.out _ _ ⟨hB.alloc _,Exists.intro yw.heap.size (And.intro rfl (And.intro hsl hB.below.size)),Nat.le_of_lt hbz.2,.inl hbz.1,fun _=>⟨_,rfl,Nat.le_refl _,hbz.2⟩⟩
   exact Stps2.nil _
end Go.Proofs.YtdmmenaejkpnjaaGreatDoor
namespace Go.Proofs.YtdmmenaejkpnjaaGreatDoor
open Go.RowKit
theorem seE_zero{E F:Int}{M:Nat}{c1 c2:Bool}(h:seE E F M c1 c2=0):E=0/\F=0/\(M≠0->c1=c2):=by
 unfold seE at h
 by_cases h1:E=0
 · rw[if_neg (by omega)]at h
   by_cases h2:F=0
   · rw[if_neg (by omega)]at h;refine⟨h1,h2,fun hM => ?_⟩;rw[if_neg hM]at h
     by_cases hc:c1=c2
     · exact hc
     · rw[if_neg hc]at h;exact absurd h (by decide)
   · rw[if_pos h2]at h;exact absurd h h2
 · rw[if_pos h1]at h;exact absurd h h1
theorem Good.els0{S:Nat->Int}{r:Nat}{ch:Bool}{L:Nat}{fB:Nat->Bool}{fS fT:Nat->ByteArray}(h:Good S r ch L fB fS fT):ElSame ch L (gP fB fS fT) (gQ fB fS fT) fB fS fT :=
 ⟨h.small,fun j hj=>⟨(h.num j hj).1.symm,(h.num j hj).2.1.symm,(h.num j hj).2.2.1.symm⟩⟩
theorem MoR.as{w:World}{x:Array Value}{E:Int}{S:Nat->Int}{r:Nat}{ch:Bool}{L:Nat}{g fP fP':Nat->Int}{fQ fQ':Nat->Nat}(h:MoR w x E S r ch L g fP fQ)(he:E=0->fP=fP'/\fQ=fQ'):MoR w x E S r ch L g fP' fQ' :=
 ⟨h.1,fun e=>by obtain⟨rfl,rfl⟩:=he e;exact h.2.1 e,h.2.2⟩
theorem PoR.as{w:World}{p:Array Value}{E:Int}{S:Nat->Int}{r:Nat}{ch:Bool}{L:Nat}{g:Nat->Int}{fB fB':Nat->Bool}{fS fT fS' fT':Nat->ByteArray}(h:PoR w p E S r ch L g fB fS fT)(he:E=0->fB=fB'/\fS=fS'/\fT=fT'):PoR w p E S r ch L g fB' fS' fT' :=
 ⟨h.1,fun e=>by obtain⟨rfl,rfl,rfl⟩:=he e;exact h.2 e⟩
theorem rset11_any (p : Array Value) (S : Nat -> Int) (r : Nat) (ch : Bool) (L : Nat) (g : Nat -> Int) (fB : Nat -> Bool) (fS fT : Nat -> ByteArray) (p2 : Array Value) (S2 : Nat -> Int) (r2 : Nat) (ch2 : Bool) (L2 : Nat) (g2 : Nat -> Int) (fB2 : Nat -> Bool) (fS2 fT2 : Nat -> ByteArray) (o : Int) (al : Option Addr) (m cl : Nat) (E : Nat -> Sr) (D : Nat -> Sb) (w : World) (h : Pln w p S r ch L g fB fS fT) (h2 : Pln w p2 S2 r2 ch2 L2 g2 fB2 fS2 fT2) (hsh : shB S r = true) (hd : DRow w al m cl E) (hg : ∀ j, j < m -> (E j).good) (hD : (fun j => (E j).sb) = D) (hok : ∀ j, j < m -> (D j).ok) (ho : 0 <= o /\ o <= 1) (hm : m <= 20)
    (hL:itm S r=(L:Nat)) (hL2:itm S2 r2=(L2:Nat)) (hl4:L<=4096) :
    Calls Tryz.prog 13 #[.agg p,.agg p2,.int .i64 o,.slice al m cl] w fun e w'=>PoTold (seE (ixE o S r D m) (fiE r2 S2 (ixR D r) (ixT S D r)) (itm (lnF (ixN S D)) r).toNat ch ch2) S r ch L (puF (pkG S (lnF (ixN S D)) r (ixF o D)) (fun j=>g2 (j%L2)) (itm (lnF (ixN S D)) r).toNat g) (puF (pkG S (lnF (ixN S D)) r (ixF o D)) (fun j=>fB2 (j%L2)) (itm (lnF (ixN S D)) r).toNat fB) (puF (pkG S (lnF (ixN S D)) r (ixF o D)) (fun j=>fS2 (j%L2)) (itm (lnF (ixN S D)) r).toNat fS) (puF (pkG S (lnF (ixN S D)) r (ixF o D)) (fun j=>fT2 (j%L2)) (itm (lnF (ixN S D)) r).toNat fT) w w' e:=by
 by_cases hn:seE (ixE o S r D m) (fiE r2 S2 (ixR D r) (ixT S D r)) (itm (lnF (ixN S D)) r).toNat ch ch2≠0∨(itm (lnF (ixN S D)) r).toNat=0
 · exact rset11_not p S r ch L g fB fS fT p2 S2 r2 ch2 L2 g2 fB2 fS2 fT2 o al m cl E D w h h2 hsh hd hg hD hok ho hm hn
 · have h0:seE (ixE o S r D m) (fiE r2 S2 (ixR D r) (ixT S D r)) (itm (lnF (ixN S D)) r).toNat ch ch2=0:=Classical.byContradiction (fun e=>hn (.inl e));have hM:(itm (lnF (ixN S D)) r).toNat≠0:=fun e=>hn (.inr e)
   obtain⟨hE,hF,hc⟩:=seE_zero h0;rw[h0];obtain rfl:=hc hM;exact rset11_yes p S r ch L g fB fS fT p2 S2 r2 L2 g2 fB2 fS2 fT2 o al m cl E D w h h2 hsh hd hg hD hok ho hm hE hF (by omega) hL hL2 hl4
theorem set_els {S : Nat -> Int} {r : Nat} {ch : Bool} {L : Nat} {fB : Nat -> Bool} {fS fT : Nat -> ByteArray} {S2 : Nat -> Int} {r2 : Nat} {ch2 : Bool} {L2 : Nat} {fB2 : Nat -> Bool} {fS2 fT2 : Nat -> ByteArray} {o : Int} {m : Nat} {D : Nat -> Sb} (h : Good S r ch L fB fS fT) (h2 : Good S2 r2 ch2 L2 fB2 fS2 fT2) (hok : ∀ j, j < m -> (D j).ok) (G : Nat -> Int) :
    ∃P Q B U V,(seE (ixE o S r D m) (fiE r2 S2 (ixR D r) (ixT S D r)) (itm (lnF (ixN S D)) r).toNat ch ch2=0 ->
     (puF G (fun j=>gP fB2 fS2 fT2 (j%L2)) (itm (lnF (ixN S D)) r).toNat (gP fB fS fT)=P/\puF G (fun j=>gQ fB2 fS2 fT2 (j%L2)) (itm (lnF (ixN S D)) r).toNat (gQ fB fS fT)=Q) /\
     (puF G (fun j=>fB2 (j%L2)) (itm (lnF (ixN S D)) r).toNat fB=B/\puF G (fun j=>fS2 (j%L2)) (itm (lnF (ixN S D)) r).toNat fS=U/\puF G (fun j=>fT2 (j%L2)) (itm (lnF (ixN S D)) r).toNat fT=V))/\ElSame ch L P Q B U V:=by
 by_cases h0:seE (ixE o S r D m) (fiE r2 S2 (ixR D r) (ixT S D r)) (itm (lnF (ixN S D)) r).toNat ch ch2=0
 · refine⟨_,_,_,_,_,fun _=>⟨⟨rfl,rfl⟩,rfl,rfl,rfl⟩,?_⟩;obtain⟨hE,hF,hc⟩:=seE_zero h0
   by_cases hM:(itm (lnF (ixN S D)) r).toNat=0
   · rw[hM];exact h.els0
   · obtain rfl:=hc hM;exact ElSame.puF h.els0 h2.els0 _ _ (fun e=>fi_lt hF h2.cnt (ix_pos h.sh h.cnt hok hE).2.1 e)
 · exact⟨gP fB fS fT,gQ fB fS fT,fB,fS,fT,fun e=>absurd e h0,h.els0⟩
end Go.Proofs.YtdmmenaejkpnjaaGreatDoor
