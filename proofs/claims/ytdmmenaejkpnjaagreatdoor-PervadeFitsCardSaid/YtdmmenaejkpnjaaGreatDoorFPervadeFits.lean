/-
  Proved: the law PervadeFits of package typeballlaw14 returns true for every two plain arrays, under the row's own conditions.
-/
import Derived.Test.YtdmmenaejkpnjaaGreatDoorF14
import Derived.SizedLaws
import Derived.Test.YtdmmenaejkpnjaaGreatDoorCards
import Derived.Test.YtdmmenaejkpnjaaGreatDoorTie
import Derived.LaidMore
import Derived.Lay
import Derived.SevenTiedAt
import Derived.Stop.Joined
set_option maxHeartbeats 12800000
set_option maxRecDepth 100000
set_option linter.unusedSimpArgs false
set_option linter.unusedVariables false
namespace Go.Proofs.YtdmmenaejkpnjaaGreatDoor
open Go.ChangeShapes Go.WideShapes Go.ChangeAt Go.RowKit Go.WideMaps Go.WideElems
attribute [local go_sem ↓] Go.wp_at_zero Go.wp_at_succ
theorem pervadeFits_walk (cs0 : Array Value) (S : Nat -> Int) (r : Nat) (ch : Bool) (g : Nat -> Int) (tn0 : Nat) (fB0 : Nat -> Bool) (fS0 fT0 : Nat -> ByteArray) (nn0 : Nat) (cs : Array Value) (T : Nat -> Int) (q : Nat) (ch2 : Bool) (g2 : Nat -> Int) (tn : Nat) (fB : Nat -> Bool) (fS fT : Nat -> ByteArray) (nn : Nat)
    (w:World) (h0:PlnAt w cs0 S r ch g tn0 fB0 fS0 fT0 nn0) (hS0:In64 S r) (hz0:∀j,j<nn0->(fS0 j).size<=maxLen/\(fT0 j).size<=maxLen) (h:PlnAt w cs T q ch2 g2 tn fB fS fT nn) (hS:In64 T q) (hz:∀j,j<nn->(fS j).size<=maxLen/\(fT j).size<=maxLen) :
    Calls Tryz.prog 7 #[.agg cs0,.agg cs] w fun e w'=>e=.returned (.bool true)/\Below w.heap.size w w':=by
 have HP0:=Lib.hid h0;have HP:=Lib.hid h;obtain⟨sb,scb,tb,tcb,nb,ncb,rfl,_⟩:=h0;obtain⟨sa,sc,ta,tc,na,nc,rfl,_⟩:=h;have LP0:=Lib.hid (fun wz h=>lightPG_any (plC sb r scb ch tb tn0 tcb nb nn0 ncb) S r ch g tn0 fB0 fS0 fT0 nn0 wz h hS0 hz0);have LP:=Lib.hid (fun wz h=>lightPG_any (plC sa q sc ch2 ta tn tc na nn nc) T q ch2 g2 tn fB fS fT nn wz h hS hz);have AW:=Lib.hid (fun wz=>awake14_any wz);have BB:=Lib.hid (((Bag.start w).newRow (plC sb r scb ch tb tn0 tcb nb nn0 ncb) 26).newRow (plC sa q sc ch2 ta tn tc na nn nc) 26);simp only[World.size_alloc]at BB;have HR:=Lib.hid BB.out.now.2.1;clear hS0 hz0 hS hz;unfold plC;go_enter Tryz.func7,Tryz.ntmps7
 go_wp2_with (refine ldPG (by rfl) 2 rfl w.heap.size (plC sb r scb ch tb tn0 tcb nb nn0 ncb) (by rfl) HR.out rfl ?_)
 go_at_call 22
 (with_reducible refine(LP0.out _ ?_).mono ?_)
 · exact HP0.out.below BB.out.below
 rintro e w2 ⟨b0,rfl,hb0,hb2⟩;have BB:=bgo BB hb2;clear hb2 LP0
 cases b0 with
 | false =>
  clear hb0 HR;go_wp2_with fail;go_at_call 23;(with_reducible refine(AW.out _).mono ?_);rintro e w9 ⟨rfl,hb9⟩;have HE:=Lib.hid (BB.out.go hb9).below;clear hb9;go_wp2;go_ret;exact⟨rfl,HE.out⟩
 | true =>
  obtain⟨L,rfl,rfl,hG0⟩:=hb0 rfl;clear hb0;have HR:=Lib.hid BB.out.now.1
  go_wp2_with (refine ldPG (by rfl) 3 rfl (w.heap.size+1) (plC sa q sc ch2 ta tn tc na nn nc) (by rfl) HR.out rfl ?_)
  go_at_call 22
  (with_reducible refine(LP.out _ ?_).mono ?_)
  · exact HP.out.below BB.out.below
  rintro e w3 ⟨b,rfl,hb,hb3⟩;have BB:=bgo BB hb3;clear hb3 LP
  cases b with
  | false =>
   clear hb HR hG0;go_wp2_with fail;go_at_call 23;(with_reducible refine(AW.out _).mono ?_);rintro e w9 ⟨rfl,hb9⟩;have HE:=Lib.hid (BB.out.go hb9).below;clear hb9;go_wp2;go_ret;exact⟨rfl,HE.out⟩
  | true =>
   obtain⟨M,rfl,rfl,hG⟩:=hb rfl;clear hb HR;have hGL:=hG.le;have hGL0:=hG0.le;have h8:=hG.rank;have h80:=hG0.rank;have OF0:=Lib.hid (fun wz h=>of8_any (plC sb r scb ch tb (tnO ch L) tcb nb (nnO ch L) ncb) S r ch L g fB0 fS0 fT0 wz h hG0);have OF:=Lib.hid (fun wz h=>of8_any (plC sa q sc ch2 ta (tnO ch2 M) tc na (nnO ch2 M) nc) T q ch2 M g2 fB fS fT wz h hG);obtain⟨mP,hmP⟩:∃f,(gP fB0 fS0 fT0)=f:=⟨_,rfl⟩
   obtain⟨mQ,hmQ⟩:∃f,(gQ fB0 fS0 fT0)=f:=⟨_,rfl⟩
   obtain⟨nP,hnP⟩:∃f,(gP fB fS fT)=f:=⟨_,rfl⟩
   obtain⟨nQ,hnQ⟩:∃f,(gQ fB fS fT)=f:=⟨_,rfl⟩
   rw[hmP,hmQ]at OF0;rw[hnP,hnQ]at OF;have FI:=Lib.hid (fun x y wz q1 q2=>fit_any x S r ch L g mP mQ y T q ch2 M g2 nP nQ wz q1 q2 h80 h8);have RF:=Lib.hid (fun wz q1 q2=>rfit_any (plC sb r scb ch tb (tnO ch L) tcb nb (nnO ch L) ncb) S r ch L g fB0 fS0 fT0 (plC sa q sc ch2 ta (tnO ch2 M) tc na (nnO ch2 M) nc) T q ch2 M g2 fB fS fT wz q1 q2 (by omega) (by omega));unfold FitTold at FI RF;obtain⟨K,hK⟩:∃n,pfK S r L T q M=n:=⟨_,rfl⟩
   rw[hK]at FI RF;have SM:=Lib.hid (fun a c a2 c2 wz (k:KRow wz .i64 a (pfN K r q) c (pfS K S T)) (k2:KRow wz .i64 a2 (pfN K r q) c2 (pfS K S T))=>r6Same_any a (pfN K r q) c (pfS K S T) a2 (pfN K r q) c2 (pfS K S T) wz k k2);rw[decide_eq_true rfl,sameB_iff.2 (fun _ _=>rfl)]at SM;unfold SameTold at SM;obtain⟨uS,huS⟩:∃f,pfS K S T=f:=⟨_,rfl⟩
   obtain⟨uN,huN⟩:∃f,pfN K r q=f:=⟨_,rfl⟩
   obtain⟨FE,hFE⟩:∃f,pfE K=f:=⟨_,rfl⟩
   obtain⟨u1,hu1⟩:∃b,decide (K=1)=b:=⟨_,rfl⟩
   obtain⟨u2,hu2⟩:∃b,decide (K=2)=b:=⟨_,rfl⟩
   rw[huS,huN,hFE,hu1,hu2]at FI RF;rw[huS,huN]at SM;clear hK huS huN hFE hu1 hu2 hmP hmQ hnP hnQ hG hG0 hGL hGL0 h8 h80;have RWP:Hid (∀yz,Below w3.heap.size w3 yz->Row yz (w.heap.size+1) 26 (plC sa q sc ch2 ta (tnO ch2 M) tc na (nnO ch2 M) nc)):=Lib.hid (fun yz hb=>Row.below BB.out.now.1 hb);have RWB:Hid (∀yz,Below w3.heap.size w3 yz->Row yz (w.heap.size) 26 (plC sb r scb ch tb (tnO ch L) tcb nb (nnO ch L) ncb)):=Lib.hid (fun yz hb=>Row.below BB.out.now.2.1 hb);have BB:=Lib.hid (Bag.fresh BB.out.below);go_wp2_with fail
   refine wp_region_inv2 ⟨(fun j=>([[23], [24], [25], [26], [27], [22], [28], [29], [30], [31], [5], [6], [7], [8]]:List (List Nat)).getD j []),(fun j=>([[], [0], [], [0,1,2], [0,1,2,3], [0,1,2,3,4], [0,1,2,3,4,5], [0,1,2,3,4,5], [0,1,2,3,4,5], [0,1,2,3,4,5], [0,1,2,3,4,5,6], [0,1,2,3,4,5,6,7,10], [0,1,2,3,4,5,6,7,8,10,11], [0,1,2,3,4,5,6,7,8,9,10,11,12]]:List (List Nat)).getD j []), []⟩ (fun jj vv yy=>match jj with|0=>vv = [some (.agg (plC sb r scb ch tb (tnO ch L) tcb nb (nnO ch L) ncb))]|1=>∃(x1:Array Value),vv = [some (.agg x1)]/\Arr yy x1 S r ch L g mP mQ|2=>vv = [some (.agg (plC sa q sc ch2 ta (tnO ch2 M) tc na (nnO ch2 M) nc))]|3=>∃(x3:Array Value),vv = [some (.agg x3)]/\Arr yy x3 T q ch2 M g2 nP nQ|4=>∃(a4:Option Addr),∃(c4:Nat),vv = [some (.tuple #[.slice a4 uN c4,.bool u1,.bool u2,.int .i64 FE])]/\KRow yy .i64 a4 uN c4 uS|5=>∃(a4:Option Addr),∃(c4:Nat),vv = [some (.tuple #[.slice a4 uN c4,.bool u1,.bool u2,.int .i64 FE])]/\KRow yy .i64 a4 uN c4 uS|6=>∃(a4:Option Addr),∃(c4:Nat),vv = [some (.slice a4 uN c4)]/\KRow yy .i64 a4 uN c4 uS|7=>vv = [some (.bool u1)]|8=>vv = [some (.bool u2)]|9=>vv = [some (.int .i64 FE)]|10=>∃(a4:Option Addr),∃(c4:Nat),vv = [some (.slice a4 uN c4)]/\KRow yy .i64 a4 uN c4 uS|11=>vv = [some (.bool u1)]|12=>vv = [some (.bool u2)]|13=>vv = [some (.int .i64 FE)]|_=>True) (Bag w3 (fun _=>True)) (by kernel_rfl) (by kernel_rfl) (by kernel_rfl) (Bag.start w3).drew ?_ ?_ ?_
   · intro jj vv yw yw2 hb h
     match jj,h with
     | 0,h=>exact h
     | 1,⟨x1,e1,g1_0⟩=>exact Exists.intro x1 (And.intro e1 (g1_0.below hb))
     | 2,h=>exact h
     | 3,⟨x3,e3,g3_0⟩=>exact Exists.intro x3 (And.intro e3 (g3_0.below hb))
     | 4,⟨a4,c4,e4,g4_0⟩=>exact Exists.intro a4 (Exists.intro c4 (And.intro e4 (g4_0.below hb)))
     | 5,⟨a4,c4,e5,g5_0⟩=>exact Exists.intro a4 (Exists.intro c4 (And.intro e5 (g5_0.below hb)))
     | 6,⟨a4,c4,e6,g6_0⟩=>exact Exists.intro a4 (Exists.intro c4 (And.intro e6 (g6_0.below hb)))
     | 7,h=>exact h
     | 8,h=>exact h
     | 9,h=>exact h
     | 10,⟨a4,c4,e10,g10_0⟩=>exact Exists.intro a4 (Exists.intro c4 (And.intro e10 (g10_0.below hb)))
     | 11,h=>exact h
     | 12,h=>exact h
     | 13,h=>exact h
     | _+14,h=>exact h
   · intro ac yw hsz hdf hold hB hp;obtain⟨a4,c4,es,ks⟩:=hp 10 (by decide);have t5:ac.tmps[5]? = some (.slice a4 uN c4):=(List.cons.inj es).1;have t6:ac.tmps[6]? = some (.bool u1):=(List.cons.inj (hp 11 (by decide))).1;have t7:ac.tmps[7]? = some (.bool u2):=(List.cons.inj (hp 12 (by decide))).1;have t8:ac.tmps[8]? = some (.int .i64 FE):=(List.cons.inj (hp 13 (by decide))).1;have t2:ac.tmps[2]? = some (.pointer (some ⟨w.heap.size,0,none⟩)):=hold 2 (by kernel_rfl);have t3:ac.tmps[3]? = some (.pointer (some ⟨w.heap.size+1,0,none⟩)):=hold 3 (by kernel_rfl);have HRB:=Lib.hid (RWB.out _ hB.below);have HRP:=Lib.hid (RWP.out _ hB.below);have BB:=Lib.hid (BB.out.go hB.below);have KS:=Lib.hid ks;have hl:=ks.len;clear hold hp es ks hB RWB RWP;obtain⟨TV,hTV⟩:∃TV:Nat->Value,∀i,(ac.tmps[i]?).getD undef=TV i:=⟨_,fun _=>rfl⟩
     have f2:=(hTV 2).symm.trans (congrArg (fun x=>Option.getD x undef) t2);have f3:=(hTV 3).symm.trans (congrArg (fun x=>Option.getD x undef) t3);have f5:=(hTV 5).symm.trans (congrArg (fun x=>Option.getD x undef) t5);have f6:=(hTV 6).symm.trans (congrArg (fun x=>Option.getD x undef) t6);have f7:=(hTV 7).symm.trans (congrArg (fun x=>Option.getD x undef) t7);have f8:=(hTV 8).symm.trans (congrArg (fun x=>Option.getD x undef) t8);have hac:=act_eq (n:=61) hsz TV hTV;rw[show((List.range 61).map TV).toArray=#[TV 0,TV 1,TV 2,TV 3,TV 4,TV 5,TV 6,TV 7,TV 8,TV 9,TV 10,TV 11,TV 12,TV 13,TV 14,TV 15,TV 16,TV 17,TV 18,TV 19,TV 20,TV 21,TV 22,TV 23,TV 24,TV 25,TV 26,TV 27,TV 28,TV 29,TV 30,TV 31,TV 32,TV 33,TV 34,TV 35,TV 36,TV 37,TV 38,TV 39,TV 40,TV 41,TV 42,TV 43,TV 44,TV 45,TV 46,TV 47,TV 48,TV 49,TV 50,TV 51,TV 52,TV 53,TV 54,TV 55,TV 56,TV 57,TV 58,TV 59,TV 60]from rfl,f2,f3,f5,f6,f7,f8,hdf]at hac;simp only[Option.getD_some]at hac;subst hac;clear hTV f2 f3 f5 f6 f7 f8
     go_wp2_with (first
      | (refine ld_pln rfl (.tmp 2) rfl (w.heap.size) rfl HRB.out ?_)
      | (refine ld_pln rfl (.tmp 3) rfl (w.heap.size+1) rfl HRP.out ?_))
     go_at_call 30
     (refine(RF.out _ (HP0.out.below BB.out.below) (HP.out.below BB.out.below)).mono ?_)
     rintro e w8 ⟨a8,c8,rfl,k8,hb8⟩;have BB:=bgo BB hb8;have KS:=Lib.hid (KS.out.below hb8);have K8:=Lib.hid k8;have hl8:=k8.len;clear hb8 k8 HRB HRP;go_wp2_with fail;go_at_call 31
     (refine(SM.out _ _ _ _ _ KS.out K8.out).mono ?_)
     rintro e w10 ⟨rfl,hb10⟩;have BB:=bgo BB hb10;clear hb10 KS K8 SM;have e1:(u1==u1)=true:=beq_self_eq_true u1;have e2:(u2==u2)=true:=beq_self_eq_true u2;have e3:(FE==FE)=true:=beq_self_eq_true FE;go_wp2_with fail;go_at_call 23;(with_reducible refine(AW.out _).mono ?_);rintro e w9 ⟨rfl,hb9⟩;have HE:=Lib.hid (BB.out.go hb9).below;clear hb9;go_wp2;go_ret;exact⟨rfl,HE.out⟩
   refine Stps2.cons (o:=_) ?_ ?_
   · intro ac yw hsz hold hB hp K hK;have t2:ac.tmps[2]? = some (.pointer (some ⟨w.heap.size,0,none⟩)):=hold 2 (by kernel_rfl);clear hold hp hsz;rw[if_pos (by rfl)];refine ldP 2 rfl (w.heap.size) ((plC sb r scb ch tb (tnO ch L) tcb nb (nnO ch L) ncb)) t2 (RWB.out _ hB.below) (rfl) ?_;exact hK.out _ _ ⟨hB,rfl,Nat.le_refl _,.inl (Below.refl _ _),fun h=>absurd h (by decide)⟩
   refine Stps2.cons (o:=_) ?_ ?_
   · intro ac yw hsz hold hB hp K hK;have e0:=hp 0 (by decide);have t23:ac.tmps[23]? = some (.agg (plC sb r scb ch tb (tnO ch L) tcb nb (nnO ch L) ncb)):=(List.cons.inj e0).1;clear hold hp hsz e0;go_simp
     (go_at_call 12;(refine(OF0.out _ (HP0.out.below (BB.out.go hB.below).below)).mono ?_);rintro e wz ⟨x1,rfl,h1_0,hbz⟩)
     exact hK.out _ _ ⟨hB.go hbz,Exists.intro x1 (And.intro rfl h1_0),hbz.size,.inl hbz,fun h=>absurd h (by decide)⟩
   refine Stps2.cons (o:=_) ?_ ?_
   · intro ac yw hsz hold hB hp K hK;have t3:ac.tmps[3]? = some (.pointer (some ⟨w.heap.size+1,0,none⟩)):=hold 3 (by kernel_rfl);clear hold hp hsz;rw[if_pos (by rfl)];refine ldP 3 rfl (w.heap.size+1) ((plC sa q sc ch2 ta (tnO ch2 M) tc na (nnO ch2 M) nc)) t3 (RWP.out _ hB.below) (rfl) ?_;exact hK.out _ _ ⟨hB,rfl,Nat.le_refl _,.inl (Below.refl _ _),fun h=>absurd h (by decide)⟩
   refine Stps2.cons (o:=_) ?_ ?_
   · intro ac yw hsz hold hB hp K hK;have e2:=hp 2 (by decide);have t25:ac.tmps[25]? = some (.agg (plC sa q sc ch2 ta (tnO ch2 M) tc na (nnO ch2 M) nc)):=(List.cons.inj e2).1;clear hold hp hsz e2;go_simp
     (go_at_call 12;(refine(OF.out _ (HP.out.below (BB.out.go hB.below).below)).mono ?_);rintro e wz ⟨x3,rfl,h3_0,hbz⟩)
     exact hK.out _ _ ⟨hB.go hbz,Exists.intro x3 (And.intro rfl h3_0),hbz.size,.inl hbz,fun h=>absurd h (by decide)⟩
   refine Stps2.cons (o:=_) ?_ ?_
   · intro ac yw hsz hold hB hp K hK;obtain⟨x1_1,e1,g1_0⟩:=hp 1 (by decide);have t24:ac.tmps[24]? = some (.agg x1_1):=(List.cons.inj e1).1;obtain⟨x3_3,e3,g3_0⟩:=hp 3 (by decide);have t26:ac.tmps[26]? = some (.agg x3_3):=(List.cons.inj e3).1;clear hold hp hsz e1 e3;go_simp
     (go_at_call 29;(refine(FI.out _ _ _ g1_0 g3_0).mono ?_);rintro e wz ⟨a4,c4,rfl,h4_0,hbz⟩)
     exact hK.out _ _ ⟨hB.go hbz,Exists.intro a4 (Exists.intro c4 (And.intro rfl h4_0)),hbz.size,.inl hbz,fun h=>absurd h (by decide)⟩
   refine Stps2.cons (o:=_) ?_ ?_
   · intro ac yw hsz hold hB hp K hK;obtain⟨a4_4,c4_4,e4,g4_0⟩:=hp 4 (by decide);have t27:ac.tmps[27]? = some (.tuple #[.slice a4_4 uN c4_4,.bool u1,.bool u2,.int .i64 FE]):=(List.cons.inj e4).1;clear hold hp hsz e4;go_simp;exact hK.out _ _ ⟨hB,Exists.intro a4_4 (Exists.intro c4_4 (And.intro rfl g4_0)),Nat.le_refl _,.inl (Below.refl _ _),fun h=>absurd h (by decide)⟩
   refine Stps2.cons (o:=_) ?_ ?_
   · intro ac yw hsz hold hB hp K hK;obtain⟨a4_5,c4_5,e5,g5_0⟩:=hp 5 (by decide);have t22:ac.tmps[22]? = some (.tuple #[.slice a4_5 uN c4_5,.bool u1,.bool u2,.int .i64 FE]):=(List.cons.inj e5).1;clear hold hp hsz e5;go_simp;exact hK.out _ _ ⟨hB,Exists.intro a4_5 (Exists.intro c4_5 (And.intro rfl g5_0)),Nat.le_refl _,.inl (Below.refl _ _),fun h=>absurd h (by decide)⟩
   refine Stps2.cons (o:=_) ?_ ?_
   · intro ac yw hsz hold hB hp K hK;obtain⟨a4_5,c4_5,e5,g5_0⟩:=hp 5 (by decide);have t22:ac.tmps[22]? = some (.tuple #[.slice a4_5 uN c4_5,.bool u1,.bool u2,.int .i64 FE]):=(List.cons.inj e5).1;clear hold hp hsz e5;go_simp;exact hK.out _ _ ⟨hB,rfl,Nat.le_refl _,.inl (Below.refl _ _),fun h=>absurd h (by decide)⟩
   refine Stps2.cons (o:=_) ?_ ?_
   · intro ac yw hsz hold hB hp K hK;obtain⟨a4_5,c4_5,e5,g5_0⟩:=hp 5 (by decide);have t22:ac.tmps[22]? = some (.tuple #[.slice a4_5 uN c4_5,.bool u1,.bool u2,.int .i64 FE]):=(List.cons.inj e5).1;clear hold hp hsz e5;go_simp;exact hK.out _ _ ⟨hB,rfl,Nat.le_refl _,.inl (Below.refl _ _),fun h=>absurd h (by decide)⟩
   refine Stps2.cons (o:=_) ?_ ?_
   · intro ac yw hsz hold hB hp K hK;obtain⟨a4_5,c4_5,e5,g5_0⟩:=hp 5 (by decide);have t22:ac.tmps[22]? = some (.tuple #[.slice a4_5 uN c4_5,.bool u1,.bool u2,.int .i64 FE]):=(List.cons.inj e5).1;clear hold hp hsz e5;go_simp;exact hK.out _ _ ⟨hB,rfl,Nat.le_refl _,.inl (Below.refl _ _),fun h=>absurd h (by decide)⟩
   refine Stps2.cons (o:=_) ?_ ?_
   · intro ac yw hsz hold hB hp K hK;obtain⟨a4_6,c4_6,e6,g6_0⟩:=hp 6 (by decide);have t28:ac.tmps[28]? = some (.slice a4_6 uN c4_6):=(List.cons.inj e6).1;clear hold hp hsz e6;go_simp;exact hK.out _ _ ⟨hB,Exists.intro a4_6 (Exists.intro c4_6 (And.intro rfl g6_0)),Nat.le_refl _,.inl (Below.refl _ _),fun h=>absurd h (by decide)⟩
   refine Stps2.cons (o:=_) ?_ ?_
   · intro ac yw hsz hold hB hp K hK;have e7:=hp 7 (by decide);have t29:ac.tmps[29]? = some (.bool u1):=(List.cons.inj e7).1;clear hold hp hsz e7;go_simp;exact hK.out _ _ ⟨hB,rfl,Nat.le_refl _,.inl (Below.refl _ _),fun h=>absurd h (by decide)⟩
   refine Stps2.cons (o:=_) ?_ ?_
   · intro ac yw hsz hold hB hp K hK;have e8:=hp 8 (by decide);have t30:ac.tmps[30]? = some (.bool u2):=(List.cons.inj e8).1;clear hold hp hsz e8;go_simp;exact hK.out _ _ ⟨hB,rfl,Nat.le_refl _,.inl (Below.refl _ _),fun h=>absurd h (by decide)⟩
   refine Stps2.cons (o:=_) ?_ ?_
   · intro ac yw hsz hold hB hp K hK;have e9:=hp 9 (by decide);have t31:ac.tmps[31]? = some (.int .i64 FE):=(List.cons.inj e9).1;clear hold hp hsz e9;go_simp;exact hK.out _ _ ⟨hB,rfl,Nat.le_refl _,.inl (Below.refl _ _),fun h=>absurd h (by decide)⟩
   exact Stps2.nil _
theorem own:ownKnob Tryz.prog.godebug=none:=by kernel_rfl
theorem laidOut:laidOutB Tryz.prog=true:=by kernel_rfl
theorem pervadeFits_lifted (os : Os) (started : os.Started) (H : Type) (enc : TypeId × Value -> H) :
    ReturnsInHanded {} Tryz.checked os 7 .any (fun w args=>(Rows.pervadeFitsSpec.pre enc Tryz.prog Tryz.f7 [] false w args/\laidMetH Tryz.prog Rows.pervadeFitsRow.laid w)/\sizedMet enc Tryz.prog Tryz.f7 (OpenSpec.ofChange Rows.pervadeFitsSpec) false w args)
     (Rows.pervadeFitsSpec.post enc Tryz.prog Tryz.f7 false true false false):=by
 refine returnsInHanded_of_change_and (C := Tryz.checked) (X := fun w _ => laidMetH Tryz.prog Rows.pervadeFitsRow.laid w) (fun _ _ _ hh h => h.of_heap hh) own started (by kernel_rfl) Tryz.func7
  (ChangeSpec.witness_shaped (enc:=enc) (C:=Tryz.checked) (os:=os) (X:=fun w _=>laidMetH Tryz.prog Rows.pervadeFitsRow.laid w) false (World.laidAll Tryz.prog os Rows.pervadeFitsRow.laid) #[.agg #[.slice none 0 0,.bool false,.slice none 0 0,.slice none 0 0],.agg #[.slice none 0 0,.bool false,.slice none 0 0,.slice none 0 0]] 8 (World.laidAll_os _ _ _)
    (World.shaped_of_ZipB (by kernel_rfl) (by kernel_rfl)) (by kernel_rfl) (by kernel_rfl) (by kernel_rfl)
    (by rw[MakeChecks.laidMetH_plain _ _ _ (by kernel_rfl)];exact laidMet_laidAll _ (by kernel_rfl) (by kernel_rfl))) ?_
 intro W base args ds gs before hval0 hW _ _ _ _;have hval:∀(j:Nat) t v,Tryz.f7.params[j]? = some t->args[j]? = some v->Value.okWide Tryz.prog W .any base t v:=hval0;have hW':=hW;obtain⟨p,q,hA0,hV,rfl,_,_⟩:=hW;have hA:DataW.TrodAll enc Tryz.prog W 0 (fun _=>true) true Tryz.f7.params.toList args.toList ds p:=hA0;rw[Tryz.params7]at hA hval;obtain⟨v0,v1,d0,d1,p0,p1,rfl,rfl,rfl,h0,h1⟩:=trodAll_two hA;obtain⟨rfl,rfl⟩:=trodVars_none hV;obtain⟨cs0,S0,q0,ch0,g0,tn0,fB0,fS0,fT0,nn0,rfl,k0,w0,z0⟩:=open_pln (hval 0 26 v0 rfl rfl) h0;obtain⟨cs1,S1,q1,ch1,g1,tn1,fB1,fS1,fT1,nn1,rfl,k1,w1,z1⟩:=open_pln (hval 1 26 v1 rfl rfl) h1;have hlt:∀y ∈ p0++(p1),y.block<W.heap.size:=fun y hy=>by simpa using hW'.lt y (by simpa using hy)
 simp only[List.append_nil]at hW';refine(pervadeFits_walk cs0 S0 q0 ch0 g0 tn0 fB0 fS0 fT0 nn0 cs1 S1 q1 ch1 g1 tn1 fB1 fS1 fT1 nn1 W k0 w0 z0 k1 w1 z1).mono fun e W' ⟨he,hb⟩ => ?_
 subst he;exact⟨_,rfl,_,_,_, [],_, [],hW',trodAll_mk1 (shut_bool Tryz.underlying4 _),trodAll_mk2 (Below.trod laidOut (by kernel_rfl) (of_decide_eq_true (by kernel_rfl)) h0 hb (fun y hy=>hlt y (by simp[hy]))) (Below.trod laidOut (by kernel_rfl) (of_decide_eq_true (by kernel_rfl)) h1 hb (fun y hy=>hlt y (by simp[hy]))),rfl,hb.frame _,fun h=>by cases h⟩
theorem pervadeFits_row:Rows.PervadeFitsSaid :=
 OpenClaim.holds_of_wide 7 Tryz.f7 rfl rfl rfl rfl rfl rfl rfl ⟨rfl,rfl,rfl,rfl,rfl⟩ rfl rfl rfl rfl rfl (by kernel_rfl) Tryz.func7 (by kernel_rfl)
  (of_decide_eq_true (by kernel_rfl)) (by unfold Func.isWrapper;first|(rw[if_pos (by decide +kernel)];kernel_rfl)|(rw[if_neg (by decide +kernel)];exact⟨rfl,rfl⟩))
  (fun os started H enc _=>pervadeFits_lifted os started H enc)
theorem pervadeFits_holds:Rows.PervadeFitsCardSaid :=
 Claim7.holds_tied_plain_at .later [] [.data, .pinned] true Rows.pervadeFitsCard.stood.harness Rows.pervadeFitsCard.stood.looks pervadeFits_row (fun _ h => by cases h) (by kernel_rfl) (fun _ h => by cases h) pervadeFits_row_tie rfl ⟨rfl, rfl⟩ (by kernel_rfl) rfl
  (fun f fn hf hfn=>by
    obtain rfl : f = 7 := Option.some.inj ((show Tryz.prog.funcNamed "typeball/typeballlaw14.PervadeFits" = some 7 by kernel_rfl).symm.trans hf) |>.symm
    obtain rfl:fn=Tryz.f7:=(Option.some.inj (Tryz.func7.symm.trans hfn)).symm
    exact⟨by kernel_rfl,fun j t ht=>by
     rw[Tryz.params7]at ht;have hm:t ∈ [26]:=by simpa using Array.mem_of_getElem? ht
     have hall:([26].all fun u => !Tryz.prog.wantsStandIn u)=true:=by kernel_rfl
     exact(show Tryz.prog.wantsStandIn t=false by simpa using List.all_eq_true.1 hall t hm)⟩)
  (by kernel_rfl)
#print axioms pervadeFits_holds
end Go.Proofs.YtdmmenaejkpnjaaGreatDoor
