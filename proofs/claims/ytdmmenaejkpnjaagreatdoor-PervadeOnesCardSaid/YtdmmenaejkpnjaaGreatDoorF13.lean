/-
  Texts of this seat, laid together.
-/
import Derived.Laws.OwnMore
import Derived.Deep.RegionHeld3
import Derived.Test.YtdmmenaejkpnjaaGreatDoorF12
set_option maxHeartbeats 12800000
set_option maxRecDepth 100000
set_option linter.unusedSimpArgs false
set_option linter.unusedVariables false
namespace Go.Proofs.YtdmmenaejkpnjaaGreatDoor
open Go.RowKit
attribute [local go_sem ↓] Go.wp_at_zero Go.wp_at_succ
theorem position_any(i:Nat)(one:Bool)(w:World):Calls Tryz.prog 87 #[.int .i64 (i:Nat),.bool one] w fun e w'=>e=.returned (.int .i64 ((if one then 0 else i:Nat):Int))/\w=w':=by
 cases one with
 | true =>
  go_enter Tryz.func87,Tryz.ntmps87;go_wp2;go_ret;exact⟨rfl,rfl⟩
 | false =>
  go_enter Tryz.func87,Tryz.ntmps87;go_wp2;go_ret;exact⟨rfl,rfl⟩
def cpT(c0:Int)(same:Bool):Ans:=if c0≠61/\c0≠8800 then(0,1,22)else if same=decide (c0=61)then(1,1,0)else(0,1,0)
theorem compared_no (c0 : Int) (cs : Array Value) (S : Nat -> Int) (r : Nat) (ch : Bool) (L : Nat) (g fP : Nat -> Int) (fQ : Nat -> Nat) (cs2 : Array Value) (T : Nat -> Int) (q : Nat) (ch2 : Bool) (M : Nat) (g2 fP2 : Nat -> Int) (fQ2 : Nat -> Nat) (i j : Nat) (w : World) (h : Arr w cs S r ch L g fP fQ) (h2 : Arr w cs2 T q ch2 M g2 fP2 fQ2) (h61 : c0 ≠ 61) (h88 : c0 ≠ 8800) :
    Calls Tryz.prog 156 #[.int .i32 c0,.agg cs,.agg cs2,.int .i64 (i:Nat),.int .i64 (j:Nat)] w fun e w'=>RatTold4 w w' e 0 1 22:=by
 obtain⟨na,nn,nc,ta,tn,tc,hcs,_⟩:=h.form;subst hcs;obtain⟨na2,nn2,nc2,ta2,tn2,tc2,hcs2,_⟩:=h2.form;subst hcs2;have d61:(c0 != 61)=true:=bne_iff_ne.2 h61;have d88:(c0 != 8800)=true:=bne_iff_ne.2 h88;have BB:=Lib.hid ((((Bag.start w).newRow (arrC ch ((r:Int)-1) (dm S r) na nn nc ta tn tc) 36).newRow (arrC ch2 ((q:Int)-1) (dm T q) na2 nn2 nc2 ta2 tn2 tc2) 36).box3 (.slice none 0 0) (.bool false) (.slice none 0 0) 53);simp only[World.size_alloc]at BB;have hs:=BB.out.now.1;have⟨u0,u1,u2,f0,f1,f2⟩:=hs.s6;have HE:Hid (RatTold4 w _ (.returned (.tuple #[.agg #[.slice none 0 0,.bool false,.slice none 0 0],.int .i64 22])) 0 1 22):=Lib.hid ⟨none,0,0,false,none,0,0,rfl,RatAt.zero _,BB.out.below⟩;clear hs h h2 h61 h88 BB;unfold arrC at u0 u1 u2 f0 f1 f2 HE;unfold arrC;go_enter Tryz.func156,Tryz.ntmps156;go_wp2;exact bodyPost_ret (v:=.tuple #[.agg #[.slice none 0 0,.bool false,.slice none 0 0],.int .i64 22]) (by simp[results,Tryz.results156,go_sem,u0,u1,u2]) rfl HE.out
theorem compared_yes (c0 : Int) (cs : Array Value) (S : Nat -> Int) (r : Nat) (ch : Bool) (L : Nat) (g fP : Nat -> Int) (fQ : Nat -> Nat) (cs2 : Array Value) (T : Nat -> Int) (q : Nat) (ch2 : Bool) (M : Nat) (g2 fP2 : Nat -> Int) (fQ2 : Nat -> Nat) (i j : Nat) (hi : i < L) (hj : j < M) (w : World) (h : Arr w cs S r ch L g fP fQ) (h2 : Arr w cs2 T q ch2 M g2 fP2 fQ2)
    (z:Bool) (d61:(c0 != 61) = !z) (d88:z=false->(c0 != 8800)=false) (e61:(c0==61)=z) (o:Int) (ho:o=if ((ch&&(ch2&&decide (g i=g2 j)))==z)=true then 1 else 0) :
    Calls Tryz.prog 156 #[.int .i32 c0,.agg cs,.agg cs2,.int .i64 (i:Nat),.int .i64 (j:Nat)] w fun e w'=>RatTold4 w w' e o 1 0:=by
 have H0:=Lib.hid h;have H1:=Lib.hid h2;obtain⟨na,nn,nc,ta,tn,tc,hcs,_⟩:=h.form;subst hcs;obtain⟨na2,nn2,nc2,ta2,tn2,tc2,hcs2,_⟩:=h2.form;subst hcs2;have FR:=Lib.hid (fun(Z:Int) (hZ:0<=Z/\Z<=1) wz=>ratFrom_any Z wz (by omega));unfold RatTold at FR;have IC0:=Lib.hid (fun wz=>isChar_any ch ((r:Int)-1) (dm S r) na nn nc ta tn tc wz);have IC1:=Lib.hid (fun wz=>isChar_any ch2 ((q:Int)-1) (dm T q) na2 nn2 nc2 ta2 tn2 tc2 wz);have RU0:=Lib.hid (fun(e:ch=true)=>(show ∀wz,Arr wz (arrC ch ((r:Int)-1) (dm S r) na nn nc ta tn tc) S r ch L g fP fQ->Calls Tryz.prog 211 #[.agg (arrC ch ((r:Int)-1) (dm S r) na nn nc ta tn tc),.int .i64 (i:Nat)] wz fun e w'=>e=.returned (.int .i32 (g i))/\Below wz.heap.size wz w' from by subst e;exact fun wz q=>rune8_any q hi));have RU1:=Lib.hid (fun(e:ch2=true)=>(show ∀wz,Arr wz (arrC ch2 ((q:Int)-1) (dm T q) na2 nn2 nc2 ta2 tn2 tc2) T q ch2 M g2 fP2 fQ2->Calls Tryz.prog 211 #[.agg (arrC ch2 ((q:Int)-1) (dm T q) na2 nn2 nc2 ta2 tn2 tc2),.int .i64 (j:Nat)] wz fun e w'=>e=.returned (.int .i32 (g2 j))/\Below wz.heap.size wz w' from by subst e;exact fun wz q=>rune8_any q hj));have HO:=Lib.hid ho;have BB:=Lib.hid ((((Bag.start w).newRow (arrC ch ((r:Int)-1) (dm S r) na nn nc ta tn tc) 36).newRow (arrC ch2 ((q:Int)-1) (dm T q) na2 nn2 nc2 ta2 tn2 tc2) 36).box3 (.slice none 0 0) (.bool false) (.slice none 0 0) 53);simp only[World.size_alloc]at BB;have eg:(g i==g2 j)=decide (g i=g2 j):=by by_cases e:g i=g2 j<;>simp[e]
 clear h h2 ho hi hj;obtain⟨b,hb⟩:∃b,decide (g i=g2 j)=b:=⟨_,rfl⟩
 rw[hb]at HO eg;clear hb;generalize g i=x at *;generalize g2 j=y at *
 cases ch with
 | false =>
  cases z
  case' true=>have d61:(c0 != 61)=false:=d61
  case' false=>have d61:(c0 != 61)=true:=d61
  case' false=>have d88:(c0 != 8800)=false:=d88 rfl
  all_goals (
   unfold arrC;go_enter Tryz.func156,Tryz.ntmps156;go_wp2_with fail;have hWW:=BB.out.below;unfold arrC at hWW;unfold arrC at BB;generalize hW:(((w.alloc (.cells _ 36)).alloc (.cells _ 36)).alloc (.cells _ 53))=W3 at *;clear hW hWW;have RW0:Hid (∀yz,Below W3.heap.size W3 yz->Row yz (w.heap.size) 36 (arrC false ((r:Int)-1) (dm S r) na nn nc ta tn tc)):=Lib.hid (fun yz hb=>Row.below BB.out.now.2.2.1 hb);have RW1:Hid (∀yz,Below W3.heap.size W3 yz->Row yz (w.heap.size+1) 36 (arrC ch2 ((q:Int)-1) (dm T q) na2 nn2 nc2 ta2 tn2 tc2)):=Lib.hid (fun yz hb=>Row.below BB.out.now.2.1 hb)
   refine wp_region_inv2 ⟨(fun j=>([[20], [21], [22], [], [], [25], [26], [], [], [], [], [], [], [], [34], [12]]:List (List Nat)).getD j []),(fun j=>([[], [0], [0,1], [0,1,2], [0,1,2,3], [0,1,2,3,4], [0,1,2,3,4,5], [0,1,2,3,4,5,6], [0,1,2,3,4,5,6], [0,1,2,3,4,5,6,7,8], [0,1,2,3,4,5,6], [0,1,2,3,4,5,6], [0,1,2,3,4,5,6,7,8,9,10,11], [0,1,2,3,4,5,6,7,8,9,10,11,12], [0,1,2,3,4,5,6,7,8,9,10,11,12,13], [0,1,2,3,4,5,6,7,8,9,10,11,12,13,14]]:List (List Nat)).getD j []), []⟩ (fun jj vv yy=>match jj with|0=>vv = [some (.agg (arrC false ((r:Int)-1) (dm S r) na nn nc ta tn tc))]|1=>vv = [some (.bool false)]|2=>vv = [some (.bool false)]|3=>True|4=>True|5=>vv = [some (.bool false)]|6=>vv = [some (.bool false)]|7=>True|8=>True|9=>True|10=>True|11=>True|12=>True|13=>True|14=>vv = [some (.bool false)]|15=>vv = [some (.bool false)]|_=>True) (Bag W3 (fun _=>True)) (by kernel_rfl) (by kernel_rfl) (by kernel_rfl) (Bag.start W3).drew ?_ ?_ ?_
   · intro jj vv yw yw2 hb h
     match jj,h with
     | 0,h=>exact h
     | 1,h=>exact h
     | 2,h=>exact h
     | 3,h=>exact h
     | 4,h=>exact h
     | 5,h=>exact h
     | 6,h=>exact h
     | 7,h=>exact h
     | 8,h=>exact h
     | 9,h=>exact h
     | 10,h=>exact h
     | 11,h=>exact h
     | 12,h=>exact h
     | 13,h=>exact h
     | 14,h=>exact h
     | 15,h=>exact h
     | _+16,h=>exact h
   · intro ac yw hsz hdf hold hB hp;have t12:ac.tmps[12]? = some (.bool false):=(List.cons.inj (hp 15 (by decide))).1;have t0:ac.tmps[0]? = some (.int .i32 c0):=hold 0 (by kernel_rfl);have t10:ac.tmps[10]? = some (.pointer (some ⟨w.heap.size+1+1,0,none⟩)):=hold 10 (by kernel_rfl);have BB:=Lib.hid (BB.out.go hB.below);clear hold hp hB RW0 RW1 IC0 IC1 RU0 RU1 H0 H1;obtain⟨TV,hTV⟩:∃TV:Nat->Value,∀i,(ac.tmps[i]?).getD undef=TV i:=⟨_,fun _=>rfl⟩
     have f0:=(hTV 0).symm.trans (congrArg (fun x=>Option.getD x undef) t0);have f10:=(hTV 10).symm.trans (congrArg (fun x=>Option.getD x undef) t10);have f12:=(hTV 12).symm.trans (congrArg (fun x=>Option.getD x undef) t12);have hac:=act_eq (n:=41) hsz TV hTV;rw[show((List.range 41).map TV).toArray=#[TV 0,TV 1,TV 2,TV 3,TV 4,TV 5,TV 6,TV 7,TV 8,TV 9,TV 10,TV 11,TV 12,TV 13,TV 14,TV 15,TV 16,TV 17,TV 18,TV 19,TV 20,TV 21,TV 22,TV 23,TV 24,TV 25,TV 26,TV 27,TV 28,TV 29,TV 30,TV 31,TV 32,TV 33,TV 34,TV 35,TV 36,TV 37,TV 38,TV 39,TV 40]from rfl,f0,f10,f12,hdf]at hac;simp only[Option.getD_some]at hac;subst hac;clear hTV f0 f10 f12;have hs:=BB.out.now.1;have⟨u0,u1,u2,f0,f1,f2⟩:=hs.s6;clear hs;go_wp2_with fail;go_at_call 56
     (refine(FR.out _ (by decide) _).mono ?_)
     rintro e w5 ⟨a5,n5,c5,m5,b5,k5,l5,rfl,hr5,hb5⟩;have BB:=bgo BB hb5;clear u0 u1 u2 f0 f1 f2 hb5;have hs:=BB.out.now.1;have⟨u0,u1,u2,f0,f1,f2⟩:=hs.s6;have HS:=hs.set (.slice a5 n5 c5) (.bool m5) (.slice b5 k5 l5);have HE:=Lib.hid (RatTold4.done 0 BB.out.below (show w.heap.size<=w.heap.size+1+1 by omega) hs hr5);clear hs hr5;go_wp2;exact bodyPost_ret (v:=.tuple #[.agg #[.slice a5 n5 c5,.bool m5,.slice b5 k5 l5],.int .i64 0]) (by simp[results,Tryz.results156,go_sem,HS]) rfl (by rw[HO.out];exact HE.out)
   refine Stps2.cons (o:=_) ?_ ?_
   · intro ac yw hsz hold hB hp K hK;have t6:ac.tmps[6]? = some (.pointer (some ⟨w.heap.size,0,none⟩)):=hold 6 (by kernel_rfl);clear hold hp hsz;rw[if_pos (by rfl)];refine ld8 6 rfl (w.heap.size) ((arrC false ((r:Int)-1) (dm S r) na nn nc ta tn tc)) t6 (RW0.out _ hB.below) (rfl) ?_;exact hK.out _ _ ⟨hB,rfl,Nat.le_refl _,.inl (Below.refl _ _),fun h=>absurd h (by decide)⟩
   refine Stps2.cons (o:=_) ?_ ?_
   · intro ac yw hsz hold hB hp K hK;have e0:=hp 0 (by decide);have t20:ac.tmps[20]? = some (.agg (arrC false ((r:Int)-1) (dm S r) na nn nc ta tn tc)):=(List.cons.inj e0).1;clear hold hp hsz e0;go_simp
     (go_at_call 41;(refine(IC0.out _).mono ?_);rintro e wz ⟨rfl,hbz⟩)
     exact hK.out _ _ ⟨hB.go hbz,rfl,hbz.size,.inl hbz,fun h=>absurd h (by decide)⟩
   refine Stps2.cons (o:=_) ?_ ?_
   · intro ac yw hsz hold hB hp K hK;have e1:=hp 1 (by decide);have t21:ac.tmps[21]? = some (.bool false):=(List.cons.inj e1).1;clear hold hp hsz e1;go_simp;exact hK.out _ _ ⟨hB,rfl,Nat.le_refl _,.inl (Below.refl _ _),fun h=>absurd h (by decide)⟩
   refine Stps2.cons (o:=_) ?_ ?_
   · intro ac yw hsz hold hB hp K hK;have t22:ac.tmps[22]? = some (.bool false):=(List.cons.inj (hp 2 (by decide))).1;rw[if_neg (by rw[wanted_neg rfl rfl t22 (fun e=>by cases e)];decide)];exact hK.out _ _ ⟨hB,trivial,Nat.le_refl _,.inl (Below.refl _ _),fun h=>absurd h (by decide)⟩
   refine Stps2.cons (o:=_) ?_ ?_
   · intro ac yw hsz hold hB hp K hK;have t22:ac.tmps[22]? = some (.bool false):=(List.cons.inj (hp 2 (by decide))).1;rw[if_neg (by rw[wanted_neg rfl rfl t22 (fun e=>by cases e)];decide)];exact hK.out _ _ ⟨hB,trivial,Nat.le_refl _,.inl (Below.refl _ _),fun h=>absurd h (by decide)⟩
   refine Stps2.cons (o:=_) ?_ ?_
   · intro ac yw hsz hold hB hp K hK;have e2:=hp 2 (by decide);have t22:ac.tmps[22]? = some (.bool false):=(List.cons.inj e2).1;clear hold hp hsz e2;go_simp;exact hK.out _ _ ⟨hB,rfl,Nat.le_refl _,.inl (Below.refl _ _),fun h=>absurd h (by decide)⟩
   refine Stps2.cons (o:=_) ?_ ?_
   · intro ac yw hsz hold hB hp K hK;have e5:=hp 5 (by decide);have t25:ac.tmps[25]? = some (.bool false):=(List.cons.inj e5).1;clear hold hp hsz e5;go_simp;exact hK.out _ _ ⟨hB,rfl,Nat.le_refl _,.inl (Below.refl _ _),fun h=>absurd h (by decide)⟩
   refine Stps2.cons (o:=_) ?_ ?_
   · intro ac yw hsz hold hB hp K hK;have t26:ac.tmps[26]? = some (.bool false):=(List.cons.inj (hp 6 (by decide))).1;rw[if_neg (by rw[wanted_neg rfl rfl t26 (fun e=>by cases e)];decide)];exact hK.out _ _ ⟨hB,trivial,Nat.le_refl _,.inl (Below.refl _ _),fun h=>absurd h (by decide)⟩
   refine Stps2.cons (o:=_) ?_ ?_
   · intro ac yw hsz hold hB hp K hK;have t26:ac.tmps[26]? = some (.bool false):=(List.cons.inj (hp 6 (by decide))).1;rw[if_neg (by rw[wanted_neg rfl rfl t26 (fun e=>by cases e)];decide)];exact hK.out _ _ ⟨hB,trivial,Nat.le_refl _,.inl (Below.refl _ _),fun h=>absurd h (by decide)⟩
   refine Stps2.cons (o:=_) ?_ ?_
   · intro ac yw hsz hold hB hp K hK;have t26:ac.tmps[26]? = some (.bool false):=(List.cons.inj (hp 6 (by decide))).1;rw[if_neg (by rw[wanted_neg rfl rfl t26 (fun e=>by cases e)];decide)];exact hK.out _ _ ⟨hB,trivial,Nat.le_refl _,.inl (Below.refl _ _),fun h=>absurd h (by decide)⟩
   refine Stps2.cons (o:=_) ?_ ?_
   · intro ac yw hsz hold hB hp K hK;have t26:ac.tmps[26]? = some (.bool false):=(List.cons.inj (hp 6 (by decide))).1;rw[if_neg (by rw[wanted_neg rfl rfl t26 (fun e=>by cases e)];decide)];exact hK.out _ _ ⟨hB,trivial,Nat.le_refl _,.inl (Below.refl _ _),fun h=>absurd h (by decide)⟩
   refine Stps2.cons (o:=_) ?_ ?_
   · intro ac yw hsz hold hB hp K hK;have t26:ac.tmps[26]? = some (.bool false):=(List.cons.inj (hp 6 (by decide))).1;rw[if_neg (by rw[wanted_neg rfl rfl t26 (fun e=>by cases e)];decide)];exact hK.out _ _ ⟨hB,trivial,Nat.le_refl _,.inl (Below.refl _ _),fun h=>absurd h (by decide)⟩
   refine Stps2.cons (o:=_) ?_ ?_
   · intro ac yw hsz hold hB hp K hK;have t26:ac.tmps[26]? = some (.bool false):=(List.cons.inj (hp 6 (by decide))).1;rw[if_neg (by rw[wanted_neg rfl rfl t26 (fun e=>by cases e)];decide)];exact hK.out _ _ ⟨hB,trivial,Nat.le_refl _,.inl (Below.refl _ _),fun h=>absurd h (by decide)⟩
   refine Stps2.cons (o:=_) ?_ ?_
   · intro ac yw hsz hold hB hp K hK;have t26:ac.tmps[26]? = some (.bool false):=(List.cons.inj (hp 6 (by decide))).1;rw[if_neg (by rw[wanted_neg rfl rfl t26 (fun e=>by cases e)];decide)];exact hK.out _ _ ⟨hB,trivial,Nat.le_refl _,.inl (Below.refl _ _),fun h=>absurd h (by decide)⟩
   refine Stps2.cons (o:=_) ?_ ?_
   · intro ac yw hsz hold hB hp K hK;have e6:=hp 6 (by decide);have t26:ac.tmps[26]? = some (.bool false):=(List.cons.inj e6).1;clear hold hp hsz e6;go_simp;exact hK.out _ _ ⟨hB,rfl,Nat.le_refl _,.inl (Below.refl _ _),fun h=>absurd h (by decide)⟩
   refine Stps2.cons (o:=_) ?_ ?_
   · intro ac yw hsz hold hB hp K hK;have e14:=hp 14 (by decide);have t34:ac.tmps[34]? = some (.bool false):=(List.cons.inj e14).1;clear hold hp hsz e14;go_simp;exact hK.out _ _ ⟨hB,rfl,Nat.le_refl _,.inl (Below.refl _ _),fun h=>absurd h (by decide)⟩
   exact Stps2.nil _)
 | true =>
  cases ch2 with
  | false =>
   cases z
   case' true=>have d61:(c0 != 61)=false:=d61
   case' false=>have d61:(c0 != 61)=true:=d61
   case' false=>have d88:(c0 != 8800)=false:=d88 rfl
   all_goals (
    unfold arrC;go_enter Tryz.func156,Tryz.ntmps156;go_wp2_with fail;have hWW:=BB.out.below;unfold arrC at hWW;unfold arrC at BB;generalize hW:(((w.alloc (.cells _ 36)).alloc (.cells _ 36)).alloc (.cells _ 53))=W3 at *;clear hW hWW;have RW0:Hid (∀yz,Below W3.heap.size W3 yz->Row yz (w.heap.size) 36 (arrC true ((r:Int)-1) (dm S r) na nn nc ta tn tc)):=Lib.hid (fun yz hb=>Row.below BB.out.now.2.2.1 hb);have RW1:Hid (∀yz,Below W3.heap.size W3 yz->Row yz (w.heap.size+1) 36 (arrC false ((q:Int)-1) (dm T q) na2 nn2 nc2 ta2 tn2 tc2)):=Lib.hid (fun yz hb=>Row.below BB.out.now.2.1 hb)
    refine wp_region_inv2 ⟨(fun j=>([[20], [21], [22], [23], [24], [25], [26], [], [], [], [], [], [], [], [34], [12]]:List (List Nat)).getD j []),(fun j=>([[], [0], [0,1], [0,1,2], [0,1,2,3], [0,1,2,3,4], [0,1,2,3,4,5], [0,1,2,3,4,5,6], [0,1,2,3,4,5,6], [0,1,2,3,4,5,6,7,8], [0,1,2,3,4,5,6], [0,1,2,3,4,5,6], [0,1,2,3,4,5,6,7,8,9,10,11], [0,1,2,3,4,5,6,7,8,9,10,11,12], [0,1,2,3,4,5,6,7,8,9,10,11,12,13], [0,1,2,3,4,5,6,7,8,9,10,11,12,13,14]]:List (List Nat)).getD j []), []⟩ (fun jj vv yy=>match jj with|0=>vv = [some (.agg (arrC true ((r:Int)-1) (dm S r) na nn nc ta tn tc))]|1=>vv = [some (.bool true)]|2=>vv = [some (.bool true)]|3=>vv = [some (.agg (arrC false ((q:Int)-1) (dm T q) na2 nn2 nc2 ta2 tn2 tc2))]|4=>vv = [some (.bool false)]|5=>vv = [some (.bool false)]|6=>vv = [some (.bool false)]|7=>True|8=>True|9=>True|10=>True|11=>True|12=>True|13=>True|14=>vv = [some (.bool false)]|15=>vv = [some (.bool false)]|_=>True) (Bag W3 (fun _=>True)) (by kernel_rfl) (by kernel_rfl) (by kernel_rfl) (Bag.start W3).drew ?_ ?_ ?_
    · intro jj vv yw yw2 hb h
      match jj,h with
      | 0,h=>exact h
      | 1,h=>exact h
      | 2,h=>exact h
      | 3,h=>exact h
      | 4,h=>exact h
      | 5,h=>exact h
      | 6,h=>exact h
      | 7,h=>exact h
      | 8,h=>exact h
      | 9,h=>exact h
      | 10,h=>exact h
      | 11,h=>exact h
      | 12,h=>exact h
      | 13,h=>exact h
      | 14,h=>exact h
      | 15,h=>exact h
      | _+16,h=>exact h
    · intro ac yw hsz hdf hold hB hp;have t12:ac.tmps[12]? = some (.bool false):=(List.cons.inj (hp 15 (by decide))).1;have t0:ac.tmps[0]? = some (.int .i32 c0):=hold 0 (by kernel_rfl);have t10:ac.tmps[10]? = some (.pointer (some ⟨w.heap.size+1+1,0,none⟩)):=hold 10 (by kernel_rfl);have BB:=Lib.hid (BB.out.go hB.below);clear hold hp hB RW0 RW1 IC0 IC1 RU0 RU1 H0 H1;obtain⟨TV,hTV⟩:∃TV:Nat->Value,∀i,(ac.tmps[i]?).getD undef=TV i:=⟨_,fun _=>rfl⟩
      have f0:=(hTV 0).symm.trans (congrArg (fun x=>Option.getD x undef) t0);have f10:=(hTV 10).symm.trans (congrArg (fun x=>Option.getD x undef) t10);have f12:=(hTV 12).symm.trans (congrArg (fun x=>Option.getD x undef) t12);have hac:=act_eq (n:=41) hsz TV hTV;rw[show((List.range 41).map TV).toArray=#[TV 0,TV 1,TV 2,TV 3,TV 4,TV 5,TV 6,TV 7,TV 8,TV 9,TV 10,TV 11,TV 12,TV 13,TV 14,TV 15,TV 16,TV 17,TV 18,TV 19,TV 20,TV 21,TV 22,TV 23,TV 24,TV 25,TV 26,TV 27,TV 28,TV 29,TV 30,TV 31,TV 32,TV 33,TV 34,TV 35,TV 36,TV 37,TV 38,TV 39,TV 40]from rfl,f0,f10,f12,hdf]at hac;simp only[Option.getD_some]at hac;subst hac;clear hTV f0 f10 f12;have hs:=BB.out.now.1;have⟨u0,u1,u2,f0,f1,f2⟩:=hs.s6;clear hs;go_wp2_with fail;go_at_call 56
      (refine(FR.out _ (by decide) _).mono ?_)
      rintro e w5 ⟨a5,n5,c5,m5,b5,k5,l5,rfl,hr5,hb5⟩;have BB:=bgo BB hb5;clear u0 u1 u2 f0 f1 f2 hb5;have hs:=BB.out.now.1;have⟨u0,u1,u2,f0,f1,f2⟩:=hs.s6;have HS:=hs.set (.slice a5 n5 c5) (.bool m5) (.slice b5 k5 l5);have HE:=Lib.hid (RatTold4.done 0 BB.out.below (show w.heap.size<=w.heap.size+1+1 by omega) hs hr5);clear hs hr5;go_wp2;exact bodyPost_ret (v:=.tuple #[.agg #[.slice a5 n5 c5,.bool m5,.slice b5 k5 l5],.int .i64 0]) (by simp[results,Tryz.results156,go_sem,HS]) rfl (by rw[HO.out];exact HE.out)
    refine Stps2.cons (o:=_) ?_ ?_
    · intro ac yw hsz hold hB hp K hK;have t6:ac.tmps[6]? = some (.pointer (some ⟨w.heap.size,0,none⟩)):=hold 6 (by kernel_rfl);clear hold hp hsz;rw[if_pos (by rfl)];refine ld8 6 rfl (w.heap.size) ((arrC true ((r:Int)-1) (dm S r) na nn nc ta tn tc)) t6 (RW0.out _ hB.below) (rfl) ?_;exact hK.out _ _ ⟨hB,rfl,Nat.le_refl _,.inl (Below.refl _ _),fun h=>absurd h (by decide)⟩
    refine Stps2.cons (o:=_) ?_ ?_
    · intro ac yw hsz hold hB hp K hK;have e0:=hp 0 (by decide);have t20:ac.tmps[20]? = some (.agg (arrC true ((r:Int)-1) (dm S r) na nn nc ta tn tc)):=(List.cons.inj e0).1;clear hold hp hsz e0;go_simp
      (go_at_call 41;(refine(IC0.out _).mono ?_);rintro e wz ⟨rfl,hbz⟩)
      exact hK.out _ _ ⟨hB.go hbz,rfl,hbz.size,.inl hbz,fun h=>absurd h (by decide)⟩
    refine Stps2.cons (o:=_) ?_ ?_
    · intro ac yw hsz hold hB hp K hK;have e1:=hp 1 (by decide);have t21:ac.tmps[21]? = some (.bool true):=(List.cons.inj e1).1;clear hold hp hsz e1;go_simp;exact hK.out _ _ ⟨hB,rfl,Nat.le_refl _,.inl (Below.refl _ _),fun h=>absurd h (by decide)⟩
    refine Stps2.cons (o:=_) ?_ ?_
    · intro ac yw hsz hold hB hp K hK;have t22:ac.tmps[22]? = some (.bool true):=(List.cons.inj (hp 2 (by decide))).1;rw[if_pos (wanted_pos rfl rfl t22)];have t7:ac.tmps[7]? = some (.pointer (some ⟨w.heap.size+1,0,none⟩)):=hold 7 (by kernel_rfl);clear hold hp hsz;refine ld8 7 rfl (w.heap.size+1) ((arrC false ((q:Int)-1) (dm T q) na2 nn2 nc2 ta2 tn2 tc2)) t7 (RW1.out _ hB.below) (rfl) ?_;exact hK.out _ _ ⟨hB,rfl,Nat.le_refl _,.inl (Below.refl _ _),fun h=>absurd h (by decide)⟩
    refine Stps2.cons (o:=_) ?_ ?_
    · intro ac yw hsz hold hB hp K hK;have t22:ac.tmps[22]? = some (.bool true):=(List.cons.inj (hp 2 (by decide))).1;rw[if_pos (wanted_pos rfl rfl t22)];have e3:=hp 3 (by decide);have t23:ac.tmps[23]? = some (.agg (arrC false ((q:Int)-1) (dm T q) na2 nn2 nc2 ta2 tn2 tc2)):=(List.cons.inj e3).1;clear hold hp hsz e3;go_simp
      (go_at_call 41;(refine(IC1.out _).mono ?_);rintro e wz ⟨rfl,hbz⟩)
      exact hK.out _ _ ⟨hB.go hbz,rfl,hbz.size,.inl hbz,fun h=>absurd h (by decide)⟩
    refine Stps2.cons (o:=_) ?_ ?_
    · intro ac yw hsz hold hB hp K hK;have e2:=hp 2 (by decide);have t22:ac.tmps[22]? = some (.bool true):=(List.cons.inj e2).1;have e4:=hp 4 (by decide);have t24:ac.tmps[24]? = some (.bool false):=(List.cons.inj e4).1;clear hold hp hsz e2 e4;go_simp;exact hK.out _ _ ⟨hB,rfl,Nat.le_refl _,.inl (Below.refl _ _),fun h=>absurd h (by decide)⟩
    refine Stps2.cons (o:=_) ?_ ?_
    · intro ac yw hsz hold hB hp K hK;have e5:=hp 5 (by decide);have t25:ac.tmps[25]? = some (.bool false):=(List.cons.inj e5).1;clear hold hp hsz e5;go_simp;exact hK.out _ _ ⟨hB,rfl,Nat.le_refl _,.inl (Below.refl _ _),fun h=>absurd h (by decide)⟩
    refine Stps2.cons (o:=_) ?_ ?_
    · intro ac yw hsz hold hB hp K hK;have t26:ac.tmps[26]? = some (.bool false):=(List.cons.inj (hp 6 (by decide))).1;rw[if_neg (by rw[wanted_neg rfl rfl t26 (fun e=>by cases e)];decide)];exact hK.out _ _ ⟨hB,trivial,Nat.le_refl _,.inl (Below.refl _ _),fun h=>absurd h (by decide)⟩
    refine Stps2.cons (o:=_) ?_ ?_
    · intro ac yw hsz hold hB hp K hK;have t26:ac.tmps[26]? = some (.bool false):=(List.cons.inj (hp 6 (by decide))).1;rw[if_neg (by rw[wanted_neg rfl rfl t26 (fun e=>by cases e)];decide)];exact hK.out _ _ ⟨hB,trivial,Nat.le_refl _,.inl (Below.refl _ _),fun h=>absurd h (by decide)⟩
    refine Stps2.cons (o:=_) ?_ ?_
    · intro ac yw hsz hold hB hp K hK;have t26:ac.tmps[26]? = some (.bool false):=(List.cons.inj (hp 6 (by decide))).1;rw[if_neg (by rw[wanted_neg rfl rfl t26 (fun e=>by cases e)];decide)];exact hK.out _ _ ⟨hB,trivial,Nat.le_refl _,.inl (Below.refl _ _),fun h=>absurd h (by decide)⟩
    refine Stps2.cons (o:=_) ?_ ?_
    · intro ac yw hsz hold hB hp K hK;have t26:ac.tmps[26]? = some (.bool false):=(List.cons.inj (hp 6 (by decide))).1;rw[if_neg (by rw[wanted_neg rfl rfl t26 (fun e=>by cases e)];decide)];exact hK.out _ _ ⟨hB,trivial,Nat.le_refl _,.inl (Below.refl _ _),fun h=>absurd h (by decide)⟩
    refine Stps2.cons (o:=_) ?_ ?_
    · intro ac yw hsz hold hB hp K hK;have t26:ac.tmps[26]? = some (.bool false):=(List.cons.inj (hp 6 (by decide))).1;rw[if_neg (by rw[wanted_neg rfl rfl t26 (fun e=>by cases e)];decide)];exact hK.out _ _ ⟨hB,trivial,Nat.le_refl _,.inl (Below.refl _ _),fun h=>absurd h (by decide)⟩
    refine Stps2.cons (o:=_) ?_ ?_
    · intro ac yw hsz hold hB hp K hK;have t26:ac.tmps[26]? = some (.bool false):=(List.cons.inj (hp 6 (by decide))).1;rw[if_neg (by rw[wanted_neg rfl rfl t26 (fun e=>by cases e)];decide)];exact hK.out _ _ ⟨hB,trivial,Nat.le_refl _,.inl (Below.refl _ _),fun h=>absurd h (by decide)⟩
    refine Stps2.cons (o:=_) ?_ ?_
    · intro ac yw hsz hold hB hp K hK;have t26:ac.tmps[26]? = some (.bool false):=(List.cons.inj (hp 6 (by decide))).1;rw[if_neg (by rw[wanted_neg rfl rfl t26 (fun e=>by cases e)];decide)];exact hK.out _ _ ⟨hB,trivial,Nat.le_refl _,.inl (Below.refl _ _),fun h=>absurd h (by decide)⟩
    refine Stps2.cons (o:=_) ?_ ?_
    · intro ac yw hsz hold hB hp K hK;have e6:=hp 6 (by decide);have t26:ac.tmps[26]? = some (.bool false):=(List.cons.inj e6).1;clear hold hp hsz e6;go_simp;exact hK.out _ _ ⟨hB,rfl,Nat.le_refl _,.inl (Below.refl _ _),fun h=>absurd h (by decide)⟩
    refine Stps2.cons (o:=_) ?_ ?_
    · intro ac yw hsz hold hB hp K hK;have e14:=hp 14 (by decide);have t34:ac.tmps[34]? = some (.bool false):=(List.cons.inj e14).1;clear hold hp hsz e14;go_simp;exact hK.out _ _ ⟨hB,rfl,Nat.le_refl _,.inl (Below.refl _ _),fun h=>absurd h (by decide)⟩
    exact Stps2.nil _)
  | true =>
   cases z
   case' true=>have d61:(c0 != 61)=false:=d61
   case' false=>have d61:(c0 != 61)=true:=d61
   case' false=>have d88:(c0 != 8800)=false:=d88 rfl
   all_goals (
    unfold arrC;go_enter Tryz.func156,Tryz.ntmps156;go_wp2_with fail;have hWW:=BB.out.below;unfold arrC at hWW;unfold arrC at BB;generalize hW:(((w.alloc (.cells _ 36)).alloc (.cells _ 36)).alloc (.cells _ 53))=W3 at *;clear hW hWW;have RW0:Hid (∀yz,Below W3.heap.size W3 yz->Row yz (w.heap.size) 36 (arrC true ((r:Int)-1) (dm S r) na nn nc ta tn tc)):=Lib.hid (fun yz hb=>Row.below BB.out.now.2.2.1 hb);have RW1:Hid (∀yz,Below W3.heap.size W3 yz->Row yz (w.heap.size+1) 36 (arrC true ((q:Int)-1) (dm T q) na2 nn2 nc2 ta2 tn2 tc2)):=Lib.hid (fun yz hb=>Row.below BB.out.now.2.1 hb)
    refine wp_region_inv2 ⟨(fun j=>([[20], [21], [22], [23], [24], [25], [26], [27], [28], [29], [30], [31], [32], [33], [34], [12]]:List (List Nat)).getD j []),(fun j=>([[], [0], [0,1], [0,1,2], [0,1,2,3], [0,1,2,3,4], [0,1,2,3,4,5], [0,1,2,3,4,5,6], [0,1,2,3,4,5,6], [0,1,2,3,4,5,6,7,8], [0,1,2,3,4,5,6], [0,1,2,3,4,5,6], [0,1,2,3,4,5,6,7,8,9,10,11], [0,1,2,3,4,5,6,7,8,9,10,11,12], [0,1,2,3,4,5,6,7,8,9,10,11,12,13], [0,1,2,3,4,5,6,7,8,9,10,11,12,13,14]]:List (List Nat)).getD j []), []⟩ (fun jj vv yy=>match jj with|0=>vv = [some (.agg (arrC true ((r:Int)-1) (dm S r) na nn nc ta tn tc))]|1=>vv = [some (.bool true)]|2=>vv = [some (.bool true)]|3=>vv = [some (.agg (arrC true ((q:Int)-1) (dm T q) na2 nn2 nc2 ta2 tn2 tc2))]|4=>vv = [some (.bool true)]|5=>vv = [some (.bool true)]|6=>vv = [some (.bool true)]|7=>vv = [some (.agg (arrC true ((r:Int)-1) (dm S r) na nn nc ta tn tc))]|8=>vv = [some (.int .i64 i)]|9=>vv = [some (.int .i32 x)]|10=>vv = [some (.agg (arrC true ((q:Int)-1) (dm T q) na2 nn2 nc2 ta2 tn2 tc2))]|11=>vv = [some (.int .i64 j)]|12=>vv = [some (.int .i32 y)]|13=>vv = [some (.bool b)]|14=>vv = [some (.bool b)]|15=>vv = [some (.bool b)]|_=>True) (Bag W3 (fun _=>True)) (by kernel_rfl) (by kernel_rfl) (by kernel_rfl) (Bag.start W3).drew ?_ ?_ ?_
    · intro jj vv yw yw2 hb h
      match jj,h with
      | 0,h=>exact h
      | 1,h=>exact h
      | 2,h=>exact h
      | 3,h=>exact h
      | 4,h=>exact h
      | 5,h=>exact h
      | 6,h=>exact h
      | 7,h=>exact h
      | 8,h=>exact h
      | 9,h=>exact h
      | 10,h=>exact h
      | 11,h=>exact h
      | 12,h=>exact h
      | 13,h=>exact h
      | 14,h=>exact h
      | 15,h=>exact h
      | _+16,h=>exact h
    · intro ac yw hsz hdf hold hB hp;have t12:ac.tmps[12]? = some (.bool b):=(List.cons.inj (hp 15 (by decide))).1;have t0:ac.tmps[0]? = some (.int .i32 c0):=hold 0 (by kernel_rfl);have t10:ac.tmps[10]? = some (.pointer (some ⟨w.heap.size+1+1,0,none⟩)):=hold 10 (by kernel_rfl);have BB:=Lib.hid (BB.out.go hB.below);clear hold hp hB RW0 RW1 IC0 IC1 RU0 RU1 H0 H1;obtain⟨TV,hTV⟩:∃TV:Nat->Value,∀i,(ac.tmps[i]?).getD undef=TV i:=⟨_,fun _=>rfl⟩
      have f0:=(hTV 0).symm.trans (congrArg (fun x=>Option.getD x undef) t0);have f10:=(hTV 10).symm.trans (congrArg (fun x=>Option.getD x undef) t10);have f12:=(hTV 12).symm.trans (congrArg (fun x=>Option.getD x undef) t12);have hac:=act_eq (n:=41) hsz TV hTV;rw[show((List.range 41).map TV).toArray=#[TV 0,TV 1,TV 2,TV 3,TV 4,TV 5,TV 6,TV 7,TV 8,TV 9,TV 10,TV 11,TV 12,TV 13,TV 14,TV 15,TV 16,TV 17,TV 18,TV 19,TV 20,TV 21,TV 22,TV 23,TV 24,TV 25,TV 26,TV 27,TV 28,TV 29,TV 30,TV 31,TV 32,TV 33,TV 34,TV 35,TV 36,TV 37,TV 38,TV 39,TV 40]from rfl,f0,f10,f12,hdf]at hac;simp only[Option.getD_some]at hac;subst hac;clear hTV f0 f10 f12;clear eg
      cases b
      all_goals (
       have hs:=BB.out.now.1;have⟨u0,u1,u2,f0,f1,f2⟩:=hs.s6;clear hs;go_wp2_with fail;go_at_call 56
       (refine(FR.out _ (by decide) _).mono ?_)
       rintro e w5 ⟨a5,n5,c5,m5,b5,k5,l5,rfl,hr5,hb5⟩;have BB:=bgo BB hb5;clear u0 u1 u2 f0 f1 f2 hb5;have hs:=BB.out.now.1;have⟨u0,u1,u2,f0,f1,f2⟩:=hs.s6;have HS:=hs.set (.slice a5 n5 c5) (.bool m5) (.slice b5 k5 l5);have HE:=Lib.hid (RatTold4.done 0 BB.out.below (show w.heap.size<=w.heap.size+1+1 by omega) hs hr5);clear hs hr5;go_wp2
       exact bodyPost_ret (v:=.tuple #[.agg #[.slice a5 n5 c5,.bool m5,.slice b5 k5 l5],.int .i64 0]) (by simp[results,Tryz.results156,go_sem,HS]) rfl (by rw[HO.out];exact HE.out))
    refine Stps2.cons (o:=_) ?_ ?_
    · intro ac yw hsz hold hB hp K hK;have t6:ac.tmps[6]? = some (.pointer (some ⟨w.heap.size,0,none⟩)):=hold 6 (by kernel_rfl);clear hold hp hsz;rw[if_pos (by rfl)];refine ld8 6 rfl (w.heap.size) ((arrC true ((r:Int)-1) (dm S r) na nn nc ta tn tc)) t6 (RW0.out _ hB.below) (rfl) ?_;exact hK.out _ _ ⟨hB,rfl,Nat.le_refl _,.inl (Below.refl _ _),fun h=>absurd h (by decide)⟩
    refine Stps2.cons (o:=_) ?_ ?_
    · intro ac yw hsz hold hB hp K hK;have e0:=hp 0 (by decide);have t20:ac.tmps[20]? = some (.agg (arrC true ((r:Int)-1) (dm S r) na nn nc ta tn tc)):=(List.cons.inj e0).1;clear hold hp hsz e0;go_simp
      (go_at_call 41;(refine(IC0.out _).mono ?_);rintro e wz ⟨rfl,hbz⟩)
      exact hK.out _ _ ⟨hB.go hbz,rfl,hbz.size,.inl hbz,fun h=>absurd h (by decide)⟩
    refine Stps2.cons (o:=_) ?_ ?_
    · intro ac yw hsz hold hB hp K hK;have e1:=hp 1 (by decide);have t21:ac.tmps[21]? = some (.bool true):=(List.cons.inj e1).1;clear hold hp hsz e1;go_simp;exact hK.out _ _ ⟨hB,rfl,Nat.le_refl _,.inl (Below.refl _ _),fun h=>absurd h (by decide)⟩
    refine Stps2.cons (o:=_) ?_ ?_
    · intro ac yw hsz hold hB hp K hK;have t22:ac.tmps[22]? = some (.bool true):=(List.cons.inj (hp 2 (by decide))).1;rw[if_pos (wanted_pos rfl rfl t22)];have t7:ac.tmps[7]? = some (.pointer (some ⟨w.heap.size+1,0,none⟩)):=hold 7 (by kernel_rfl);clear hold hp hsz;refine ld8 7 rfl (w.heap.size+1) ((arrC true ((q:Int)-1) (dm T q) na2 nn2 nc2 ta2 tn2 tc2)) t7 (RW1.out _ hB.below) (rfl) ?_;exact hK.out _ _ ⟨hB,rfl,Nat.le_refl _,.inl (Below.refl _ _),fun h=>absurd h (by decide)⟩
    refine Stps2.cons (o:=_) ?_ ?_
    · intro ac yw hsz hold hB hp K hK;have t22:ac.tmps[22]? = some (.bool true):=(List.cons.inj (hp 2 (by decide))).1;rw[if_pos (wanted_pos rfl rfl t22)];have e3:=hp 3 (by decide);have t23:ac.tmps[23]? = some (.agg (arrC true ((q:Int)-1) (dm T q) na2 nn2 nc2 ta2 tn2 tc2)):=(List.cons.inj e3).1;clear hold hp hsz e3;go_simp
      (go_at_call 41;(refine(IC1.out _).mono ?_);rintro e wz ⟨rfl,hbz⟩)
      exact hK.out _ _ ⟨hB.go hbz,rfl,hbz.size,.inl hbz,fun h=>absurd h (by decide)⟩
    refine Stps2.cons (o:=_) ?_ ?_
    · intro ac yw hsz hold hB hp K hK;have e2:=hp 2 (by decide);have t22:ac.tmps[22]? = some (.bool true):=(List.cons.inj e2).1;have e4:=hp 4 (by decide);have t24:ac.tmps[24]? = some (.bool true):=(List.cons.inj e4).1;clear hold hp hsz e2 e4;go_simp;exact hK.out _ _ ⟨hB,rfl,Nat.le_refl _,.inl (Below.refl _ _),fun h=>absurd h (by decide)⟩
    refine Stps2.cons (o:=_) ?_ ?_
    · intro ac yw hsz hold hB hp K hK;have e5:=hp 5 (by decide);have t25:ac.tmps[25]? = some (.bool true):=(List.cons.inj e5).1;clear hold hp hsz e5;go_simp;exact hK.out _ _ ⟨hB,rfl,Nat.le_refl _,.inl (Below.refl _ _),fun h=>absurd h (by decide)⟩
    refine Stps2.cons (o:=_) ?_ ?_
    · intro ac yw hsz hold hB hp K hK;have t26:ac.tmps[26]? = some (.bool true):=(List.cons.inj (hp 6 (by decide))).1;rw[if_pos (wanted_pos rfl rfl t26)];have t6:ac.tmps[6]? = some (.pointer (some ⟨w.heap.size,0,none⟩)):=hold 6 (by kernel_rfl);clear hold hp hsz;refine ld8 6 rfl (w.heap.size) ((arrC true ((r:Int)-1) (dm S r) na nn nc ta tn tc)) t6 (RW0.out _ hB.below) (rfl) ?_;exact hK.out _ _ ⟨hB,rfl,Nat.le_refl _,.inl (Below.refl _ _),fun h=>absurd h (by decide)⟩
    refine Stps2.cons (o:=_) ?_ ?_
    · intro ac yw hsz hold hB hp K hK;have t26:ac.tmps[26]? = some (.bool true):=(List.cons.inj (hp 6 (by decide))).1;rw[if_pos (wanted_pos rfl rfl t26)];have t3:ac.tmps[3]? = some (.int .i64 i):=hold 3 (by kernel_rfl);clear hold hp hsz;go_simp;exact hK.out _ _ ⟨hB,rfl,Nat.le_refl _,.inl (Below.refl _ _),fun h=>absurd h (by decide)⟩
    refine Stps2.cons (o:=_) ?_ ?_
    · intro ac yw hsz hold hB hp K hK;have t26:ac.tmps[26]? = some (.bool true):=(List.cons.inj (hp 6 (by decide))).1;rw[if_pos (wanted_pos rfl rfl t26)];have e7:=hp 7 (by decide);have t27:ac.tmps[27]? = some (.agg (arrC true ((r:Int)-1) (dm S r) na nn nc ta tn tc)):=(List.cons.inj e7).1;have e8:=hp 8 (by decide);have t28:ac.tmps[28]? = some (.int .i64 i):=(List.cons.inj e8).1;clear hold hp hsz e7 e8;go_simp
      (go_at_call 211;(refine(RU0.out trivial _ (H0.out.below (BB.out.go hB.below).below)).mono ?_);rintro e wz ⟨rfl,hbz⟩)
      exact hK.out _ _ ⟨hB.go hbz,rfl,hbz.size,.inl hbz,fun h=>absurd h (by decide)⟩
    refine Stps2.cons (o:=_) ?_ ?_
    · intro ac yw hsz hold hB hp K hK;have t26:ac.tmps[26]? = some (.bool true):=(List.cons.inj (hp 6 (by decide))).1;rw[if_pos (wanted_pos rfl rfl t26)];have t7:ac.tmps[7]? = some (.pointer (some ⟨w.heap.size+1,0,none⟩)):=hold 7 (by kernel_rfl);clear hold hp hsz;refine ld8 7 rfl (w.heap.size+1) ((arrC true ((q:Int)-1) (dm T q) na2 nn2 nc2 ta2 tn2 tc2)) t7 (RW1.out _ hB.below) (rfl) ?_;exact hK.out _ _ ⟨hB,rfl,Nat.le_refl _,.inl (Below.refl _ _),fun h=>absurd h (by decide)⟩
    refine Stps2.cons (o:=_) ?_ ?_
    · intro ac yw hsz hold hB hp K hK;have t26:ac.tmps[26]? = some (.bool true):=(List.cons.inj (hp 6 (by decide))).1;rw[if_pos (wanted_pos rfl rfl t26)];have t4:ac.tmps[4]? = some (.int .i64 j):=hold 4 (by kernel_rfl);clear hold hp hsz;go_simp;exact hK.out _ _ ⟨hB,rfl,Nat.le_refl _,.inl (Below.refl _ _),fun h=>absurd h (by decide)⟩
    refine Stps2.cons (o:=_) ?_ ?_
    · intro ac yw hsz hold hB hp K hK;have t26:ac.tmps[26]? = some (.bool true):=(List.cons.inj (hp 6 (by decide))).1;rw[if_pos (wanted_pos rfl rfl t26)];have e10:=hp 10 (by decide);have t30:ac.tmps[30]? = some (.agg (arrC true ((q:Int)-1) (dm T q) na2 nn2 nc2 ta2 tn2 tc2)):=(List.cons.inj e10).1;have e11:=hp 11 (by decide);have t31:ac.tmps[31]? = some (.int .i64 j):=(List.cons.inj e11).1;clear hold hp hsz e10 e11;go_simp
      (go_at_call 211;(refine(RU1.out trivial _ (H1.out.below (BB.out.go hB.below).below)).mono ?_);rintro e wz ⟨rfl,hbz⟩)
      exact hK.out _ _ ⟨hB.go hbz,rfl,hbz.size,.inl hbz,fun h=>absurd h (by decide)⟩
    refine Stps2.cons (o:=_) ?_ ?_
    · intro ac yw hsz hold hB hp K hK;have t26:ac.tmps[26]? = some (.bool true):=(List.cons.inj (hp 6 (by decide))).1;rw[if_pos (wanted_pos rfl rfl t26)];have e9:=hp 9 (by decide);have t29:ac.tmps[29]? = some (.int .i32 x):=(List.cons.inj e9).1;have e12:=hp 12 (by decide);have t32:ac.tmps[32]? = some (.int .i32 y):=(List.cons.inj e12).1;clear hold hp hsz e9 e12;go_simp;exact hK.out _ _ ⟨hB,rfl,Nat.le_refl _,.inl (Below.refl _ _),fun h=>absurd h (by decide)⟩
    refine Stps2.cons (o:=_) ?_ ?_
    · intro ac yw hsz hold hB hp K hK;have e6:=hp 6 (by decide);have t26:ac.tmps[26]? = some (.bool true):=(List.cons.inj e6).1;have e13:=hp 13 (by decide);have t33:ac.tmps[33]? = some (.bool b):=(List.cons.inj e13).1;clear hold hp hsz e6 e13;go_simp;exact hK.out _ _ ⟨hB,rfl,Nat.le_refl _,.inl (Below.refl _ _),fun h=>absurd h (by decide)⟩
    refine Stps2.cons (o:=_) ?_ ?_
    · intro ac yw hsz hold hB hp K hK;have e14:=hp 14 (by decide);have t34:ac.tmps[34]? = some (.bool b):=(List.cons.inj e14).1;clear hold hp hsz e14;go_simp;exact hK.out _ _ ⟨hB,rfl,Nat.le_refl _,.inl (Below.refl _ _),fun h=>absurd h (by decide)⟩
    exact Stps2.nil _)
theorem compared_any (c0 : Int) (cs : Array Value) (S : Nat -> Int) (r : Nat) (ch : Bool) (L : Nat) (g fP : Nat -> Int) (fQ : Nat -> Nat) (cs2 : Array Value) (T : Nat -> Int) (q : Nat) (ch2 : Bool) (M : Nat) (g2 fP2 : Nat -> Int) (fQ2 : Nat -> Nat) (i j : Nat) (hi : i < L) (hj : j < M) (w : World) (h : Arr w cs S r ch L g fP fQ) (h2 : Arr w cs2 T q ch2 M g2 fP2 fQ2) :
    Calls Tryz.prog 156 #[.int .i32 c0,.agg cs,.agg cs2,.int .i64 (i:Nat),.int .i64 (j:Nat)] w fun e w'=>RatTold4 w w' e (cpT c0 (ch&&(ch2&&decide (g i=g2 j)))).1 (cpT c0 (ch&&(ch2&&decide (g i=g2 j)))).2.1 (cpT c0 (ch&&(ch2&&decide (g i=g2 j)))).2.2:=by
 obtain⟨s,hs⟩:∃s,(ch&&(ch2&&decide (g i=g2 j)))=s:=⟨_,rfl⟩
 rw[hs]
 by_cases h0:c0≠61/\c0≠8800
 · rw[show cpT c0 s=(0,1,22)from if_pos h0];exact compared_no c0 cs S r ch L g fP fQ cs2 T q ch2 M g2 fP2 fQ2 i j w h h2 h0.1 h0.2
 · have e1:cpT c0 s=if s=decide (c0=61)then(1,1,0)else(0,1,0):=if_neg h0
   have key:=fun z o d1 d2 d3 (ho:o=if (s==z)=true then 1 else 0)=>compared_yes c0 cs S r ch L g fP fQ cs2 T q ch2 M g2 fP2 fQ2 i j hi hj w h h2 z d1 d2 d3 o (by rw[hs];exact ho)
   have h61:decide (c0=61)=false->c0=8800:=fun e=>by
    have:=of_decide_eq_false e
    omega
   have e2:(c0==61)=decide (c0=61):=by by_cases e:c0=61<;>simp[e]
   have k:=key (decide (c0=61)) _ (by rw[← e2];rfl) (fun e=>by rw[h61 e];rfl) e2 rfl;rw[e1]
   by_cases e:s=decide (c0=61)
   · rw[if_pos e];rw[if_pos (beq_iff_eq.2 e)]at k;exact k
   · rw[if_neg e];rw[if_neg (fun h=>e (beq_iff_eq.1 h))]at k;exact k
def GGives(fv:FuncId)(cap:Array Value)(D:Nat->Nat->Ans)(L M:Nat)(w:World):Prop :=
 ∀wz,Below w.heap.size w wz->∀i j:Nat,i<L->j<M->Calls Tryz.prog fv (#[.int .i64 (i:Nat),.int .i64 (j:Nat)]++cap) wz fun e w'=>RatTold4 wz w' e (D i j).1 (D i j).2.1 (D i j).2.2
theorem GGives.below{fv:FuncId}{cap:Array Value}{D:Nat->Nat->Ans}{L M:Nat}{w w':World}(h:GGives fv cap D L M w)(hb:Below w.heap.size w w'):GGives fv cap D L M w':=fun wz hz=>h wz (hb.trans (hz.mono hb.size))
def TwosTo(c0:Int)(lm:Int)(D:Nat->Nat->Ans)(L M:Nat)(fP:Nat->Int)(fQ:Nat->Nat)(fP2:Nat->Int)(fQ2:Nat->Nat):Prop :=
 ∀i j,i<L->j<M->∀(a:Option Addr) (n c:Nat) (m:Bool) (a2:Option Addr) (n2 c2:Nat) (b:Option Addr) (k l:Nat) (v:Bool) (b2:Option Addr) (k2 l2:Nat) (wz:World),RatAt wz a n c m a2 n2 c2 (fP i) (fQ i)->RatAt wz b k l v b2 k2 l2 (fP2 j) (fQ2 j) ->
  Calls Tryz.prog 17 #[.int .i32 c0,.agg #[.slice a n c,.bool m,.slice a2 n2 c2],.agg #[.slice b k l,.bool v,.slice b2 k2 l2],.int .i64 lm] wz fun e w'=>RatTold4 wz w' e (D i j).1 (D i j).2.1 (D i j).2.2
def elT(c0:Int)(ch ch2:Bool)(g g2:Nat->Int)(D:Nat->Nat->Ans)(i j:Nat):Ans:=if (ch||ch2)=true then cpT c0 (ch&&(ch2&&decide (g i=g2 j)))else D i j
theorem ent_onel1:Enters Tryz.prog 155:=enters_of Tryz.func155 (by kernel_rfl) rfl
theorem ent_onel2:Enters Tryz.prog 157:=enters_of Tryz.func157 (by kernel_rfl) rfl
theorem onel1_any (c0 : Int) (gc ga gb : Nat) (cs : Array Value) (S : Nat -> Int) (r : Nat) (ch : Bool) (L : Nat) (g fP : Nat -> Int) (fQ : Nat -> Nat) (cs2 : Array Value) (T : Nat -> Int) (q : Nat) (ch2 : Bool) (M : Nat) (g2 fP2 : Nat -> Int) (fQ2 : Nat -> Nat) (w : World) (h : Arr w cs S r ch L g fP fQ) (h2 : Arr w cs2 T q ch2 M g2 fP2 fQ2)
    (hc:w.cell? ⟨gc,0,none⟩=some (.int .i32 c0)) (hc1:gc<w.heap.size) (ha:Row w ga 36 cs) (hb:Row w gb 36 cs2) :
    GGives 155 #[.pointer (some ⟨gc,0,none⟩),.pointer (some ⟨ga,0,none⟩),.pointer (some ⟨gb,0,none⟩)] (fun i j=>cpT c0 (ch&&(ch2&&decide (g i=g2 j)))) L M w:=by
 intro wz hz i j hi hj
 show Calls Tryz.prog 155 #[.int .i64 (i:Nat),.int .i64 (j:Nat),.pointer (some ⟨gc,0,none⟩),.pointer (some ⟨ga,0,none⟩),.pointer (some ⟨gb,0,none⟩)] wz _
 obtain⟨na,nn,nc,ta,tn,tc,hcs,_⟩:=h.form;subst hcs;obtain⟨na2,nn2,nc2,ta2,tn2,tc2,hcs2,_⟩:=h2.form;subst hcs2;have CP:=Lib.hid (fun wy q1 q2=>compared_any c0 (arrC ch ((r:Int)-1) (dm S r) na nn nc ta tn tc) S r ch L g fP fQ (arrC ch2 ((q:Int)-1) (dm T q) na2 nn2 nc2 ta2 tn2 tc2) T q ch2 M g2 fP2 fQ2 i j hi hj wy q1 q2);unfold RatTold4 at CP;have hz1:=(Below.refl wz.heap.size wz).alloc (Nat.le_refl _) (.cells #[.slice none 0 0,.bool false,.slice none 0 0] 53);have hz2:=hz.trans (hz1.mono hz.size);have H0:=Lib.hid (h.below hz2);have H1:=Lib.hid (h2.below hz2);have x1:=(hz2.cell (p:=⟨gc,0,none⟩) hc1).trans hc;have HR0:=Lib.hid (ha.below hz2);have HR1:=Lib.hid (hb.below hz2);have BB:=Lib.hid ((Bag.start wz).box3 (.slice none 0 0) (.bool false) (.slice none 0 0) 53)
 show Calls _ _ _ _ (fun e w'=>RatTold4 wz w' e (cpT c0 (ch&&(ch2&&decide (g i=g2 j)))).1 (cpT c0 (ch&&(ch2&&decide (g i=g2 j)))).2.1 (cpT c0 (ch&&(ch2&&decide (g i=g2 j)))).2.2)
 obtain⟨TT,hTT⟩:∃z,cpT c0 (ch&&(ch2&&decide (g i=g2 j)))=z:=⟨_,rfl⟩
 rw[hTT]at CP ⊢;obtain⟨Z1,Z2,Z3⟩:=TT
 show Calls _ _ _ _ (fun e w'=>RatTold4 wz w' e Z1 Z2 Z3)
 clear hc hc1 ha hb h h2 hz hz1 hz2 hTT;go_enter Tryz.func155,Tryz.ntmps155
 go_wp2_with (first
  | (with_reducible refine at_op 10 ?_;refine ld_arr rfl (.tmp 3) rfl ga rfl HR0.out ?_)
  | (with_reducible refine at_op 11 ?_;refine ld_arr rfl (.tmp 4) rfl gb rfl HR1.out ?_))
 go_at_call 156
 (refine(CP.out _ H0.out H1.out).mono ?_)
 rintro e w2 ⟨a5,n5,c5,m5,b5,k5,l5,rfl,hr5,hb5⟩;have BB:=bgo BB hb5;clear hb5 x1;have hs:=BB.out.now.1;have⟨u0,u1,u2,f0,f1,f2⟩:=hs.s6;have HS:=hs.set (.slice a5 n5 c5) (.bool m5) (.slice b5 k5 l5);have HE:=Lib.hid (RatTold4.done Z3 BB.out.below (Nat.le_refl _) hs hr5);clear hs hr5;go_wp2;exact bodyPost_ret (by simp[results,Tryz.results155,go_sem,HS]) rfl HE.out
theorem onel2_any (c0 lm : Int) (D : Nat -> Nat -> Ans) (gc ga gb gl : Nat) (cs : Array Value) (S : Nat -> Int) (r : Nat) (L : Nat) (g fP : Nat -> Int) (fQ : Nat -> Nat) (cs2 : Array Value) (T : Nat -> Int) (q : Nat) (M : Nat) (g2 fP2 : Nat -> Int) (fQ2 : Nat -> Nat) (w : World) (h : Arr w cs S r false L g fP fQ) (h2 : Arr w cs2 T q false M g2 fP2 fQ2) (hD : TwosTo c0 lm D L M fP fQ fP2 fQ2)
    (hc:w.cell? ⟨gc,0,none⟩=some (.int .i32 c0)) (hc1:gc<w.heap.size) (ha:Row w ga 36 cs) (hb:Row w gb 36 cs2) (hL:w.cell? ⟨gl,0,none⟩=some (.int .i64 lm)) (hl1:gl<w.heap.size) :
    GGives 157 #[.pointer (some ⟨gc,0,none⟩),.pointer (some ⟨ga,0,none⟩),.pointer (some ⟨gb,0,none⟩),.pointer (some ⟨gl,0,none⟩)] D L M w:=by
 intro wz hz i j hi hj
 show Calls Tryz.prog 157 #[.int .i64 (i:Nat),.int .i64 (j:Nat),.pointer (some ⟨gc,0,none⟩),.pointer (some ⟨ga,0,none⟩),.pointer (some ⟨gb,0,none⟩),.pointer (some ⟨gl,0,none⟩)] wz _
 have hA:=h.below hz;have hB:=h2.below hz;have SZ:=Lib.hid (And.intro h.size h2.size);have RA:=Lib.hid (fun wy (hb:Below wz.heap.size wz wy)=>rat8_any (hA.below hb) hi);have RB:=Lib.hid (fun wy (hb:Below wz.heap.size wz wy)=>rat8_any (hB.below hb) hj);unfold RatTold at RA RB;have ON:=Lib.hid (hD i j hi hj);unfold RatTold4 at ON;have x1:=(hz.cell (p:=⟨gc,0,none⟩) hc1).trans hc;have x2:=ha.below hz;have x3:=(hz.cell (p:=⟨gl,0,none⟩) hl1).trans hL;have x4:=hb.below hz;have HX:=Lib.hid (fun wy (hb:Below wz.heap.size wz wy)=>(show wy.cell? ⟨gc,0,none⟩=some (.int .i32 c0)/\Row wy ga 36 cs/\wy.cell? ⟨gl,0,none⟩=some (.int .i64 lm)/\Row wy gb 36 cs2 from⟨(hb.cell (p:=⟨gc,0,none⟩) (Nat.lt_of_lt_of_le hc1 hz.size)).trans x1,x2.below hb,(hb.cell (p:=⟨gl,0,none⟩) (Nat.lt_of_lt_of_le hl1 hz.size)).trans x3,x4.below hb⟩));have BB:=Lib.hid ((Bag.start wz).box3 (.slice none 0 0) (.bool false) (.slice none 0 0) 53);obtain⟨TT,hTT⟩:∃z,D i j=z:=⟨_,rfl⟩
 rw[hTT]at ON ⊢;obtain⟨oo,uu,ee⟩:=TT
 show Calls _ _ _ _ (fun e w'=>RatTold4 wz w' e oo uu ee)
 clear h h2 hD hc hc1 ha hb hL hl1 hA hB hz x1 x2 x3 x4 hTT;generalize fP i=P at *;generalize fQ i=Q at *;generalize fP2 j=P2 at *;generalize fQ2 j=Q2 at *;go_enter Tryz.func157,Tryz.ntmps157;go_wp2_with fail;generalize hW:(wz.alloc (.cells _ 53))=YY at *;clear hW
 refine wp_region_inv3 ⟨(fun j=>([[10], [11], [12], [13], [14], [15], [16], [17], [18], [19], [20], [], []]:List (List Nat)).getD j []),(fun j=>([[], [], [], [1,2], [], [], [1,2,3,4,5], [], [0,1,2,3,4,5,6,7], [0,1,2,3,4,5,6,7,8], [0,1,2,3,4,5,6,7,8], [0,1,2,3,4,5,6,7,8,9,10], [0,1,2,3,4,5,6,7,8,9,10,11]]:List (List Nat)).getD j []), []⟩ 11 (fun jj vv yy=>match jj with|0=>vv = [some (.int .i32 c0)]|1=>vv = [some (.agg cs)]|2=>vv = [some (.int .i64 i)]|3=>∃(a3:Option Addr),∃(n3:Nat),∃(c3:Nat),∃(m3:Bool),∃(b3:Option Addr),∃(k3:Nat),∃(l3:Nat),vv = [some (.agg #[.slice a3 n3 c3,.bool m3,.slice b3 k3 l3])]/\RatAt yy a3 n3 c3 m3 b3 k3 l3 P Q|4=>vv = [some (.agg cs2)]|5=>vv = [some (.int .i64 j)]|6=>∃(a6:Option Addr),∃(n6:Nat),∃(c6:Nat),∃(m6:Bool),∃(b6:Option Addr),∃(k6:Nat),∃(l6:Nat),vv = [some (.agg #[.slice a6 n6 c6,.bool m6,.slice b6 k6 l6])]/\RatAt yy a6 n6 c6 m6 b6 k6 l6 P2 Q2|7=>vv = [some (.int .i64 lm)]|8=>∃(a8:Option Addr),∃(n8:Nat),∃(c8:Nat),∃(m8:Bool),∃(b8:Option Addr),∃(k8:Nat),∃(l8:Nat),vv = [some (.tuple #[.agg #[.slice a8 n8 c8,.bool m8,.slice b8 k8 l8],.int .i64 ee])]/\RatAt yy a8 n8 c8 m8 b8 k8 l8 oo uu|9=>∃(a8:Option Addr),∃(n8:Nat),∃(c8:Nat),∃(m8:Bool),∃(b8:Option Addr),∃(k8:Nat),∃(l8:Nat),vv = [some (.agg #[.slice a8 n8 c8,.bool m8,.slice b8 k8 l8])]/\RatAt yy a8 n8 c8 m8 b8 k8 l8 oo uu|10=>vv = [some (.int .i64 ee)]|_=>True) (Bag YY (fun _=>True)) (by kernel_rfl) (by kernel_rfl) (by kernel_rfl) (by kernel_rfl) (Bag.start YY).drew ?_ ?_ ?_
 · intro jj vv yw yw2 hb h
   match jj,h with
   | 0,h=>exact h
   | 1,h=>exact h
   | 2,h=>exact h
   | 3,⟨a3,n3,c3,m3,b3,k3,l3,e3,g3_0⟩=>exact Exists.intro a3 (Exists.intro n3 (Exists.intro c3 (Exists.intro m3 (Exists.intro b3 (Exists.intro k3 (Exists.intro l3 (And.intro e3 (g3_0.below hb))))))))
   | 4,h=>exact h
   | 5,h=>exact h
   | 6,⟨a6,n6,c6,m6,b6,k6,l6,e6,g6_0⟩=>exact Exists.intro a6 (Exists.intro n6 (Exists.intro c6 (Exists.intro m6 (Exists.intro b6 (Exists.intro k6 (Exists.intro l6 (And.intro e6 (g6_0.below hb))))))))
   | 7,h=>exact h
   | 8,⟨a8,n8,c8,m8,b8,k8,l8,e8,g8_0⟩=>exact Exists.intro a8 (Exists.intro n8 (Exists.intro c8 (Exists.intro m8 (Exists.intro b8 (Exists.intro k8 (Exists.intro l8 (And.intro e8 (g8_0.below hb))))))))
   | 9,⟨a8,n8,c8,m8,b8,k8,l8,e9,g9_0⟩=>exact Exists.intro a8 (Exists.intro n8 (Exists.intro c8 (Exists.intro m8 (Exists.intro b8 (Exists.intro k8 (Exists.intro l8 (And.intro e9 (g9_0.below hb))))))))
   | 10,h=>exact h
   | _+11,h=>exact h
 · intro ac yw hsz hdf hold hB hp;obtain⟨a8,n8,c8,m8,b8,k8,l8,e9,g9⟩:=hp 9 (by decide);have t19:ac.tmps[19]? = some (.agg #[.slice a8 n8 c8,.bool m8,.slice b8 k8 l8]):=(List.cons.inj e9).1;have t20:ac.tmps[20]? = some (.int .i64 ee):=(List.cons.inj (hp 10 (by decide))).1;have t8:ac.tmps[8]? = some (.pointer (some ⟨wz.heap.size,0,none⟩)):=hold 8 (by kernel_rfl);have BC:=Lib.hid (BB.out.go hB.below);have hs:=BC.out.now.1;have⟨u0,u1,u2,f0,f1,f2⟩:=hs.s6;have HS:=hs.set (.slice a8 n8 c8) (.bool m8) (.slice b8 k8 l8);have HE:=Lib.hid (RatTold4.done ee BC.out.below (Nat.le_refl _) hs g9);clear hold hp e9 g9 hs hB;obtain⟨TV,hTV⟩:∃TV:Nat->Value,∀i,(ac.tmps[i]?).getD undef=TV i:=⟨_,fun _=>rfl⟩
   have f8:=(hTV 8).symm.trans (congrArg (fun x=>Option.getD x undef) t8);have f19:=(hTV 19).symm.trans (congrArg (fun x=>Option.getD x undef) t19);have f20:=(hTV 20).symm.trans (congrArg (fun x=>Option.getD x undef) t20);have hac:=act_eq (n:=21) hsz TV hTV;rw[show((List.range 21).map TV).toArray=#[TV 0,TV 1,TV 2,TV 3,TV 4,TV 5,TV 6,TV 7,TV 8,TV 9,TV 10,TV 11,TV 12,TV 13,TV 14,TV 15,TV 16,TV 17,TV 18,TV 19,TV 20]from rfl,f8,f19,f20,hdf]at hac;simp only[Option.getD_some]at hac;subst hac;clear hTV f8 f19 f20;refine TailWp.step rfl ?_;intro K hK;go_simp;refine hK.out _ _ ?_;refine TailWp.step rfl ?_;intro K hK;go_simp;refine hK.out _ _ ?_;refine TailWp.end rfl ?_;go_wp2;exact bodyPost_ret (by simp[results,Tryz.results157,go_sem,HS]) rfl HE.out
 refine Stps2.cons (o:=_) ?_ ?_
 · intro ac yw hsz hold hB hp K hK;have t2:ac.tmps[2]? = some (.pointer (some ⟨gc,0,none⟩)):=hold 2 (by kernel_rfl);clear hold hp hsz;have v0:=(HX.out _ (BB.out.go hB.below).below).1;have v2:=(HX.out _ (BB.out.go hB.below).below).2.2.1;go_simp;exact hK.out _ _ ⟨hB,rfl,Nat.le_refl _,.inl (Below.refl _ _),fun h=>absurd h (by decide)⟩
 refine Stps2.cons (o:=_) ?_ ?_
 · intro ac yw hsz hold hB hp K hK;have t3:ac.tmps[3]? = some (.pointer (some ⟨ga,0,none⟩)):=hold 3 (by kernel_rfl);clear hold hp hsz;rw[if_pos (by rfl)];refine ld8 3 rfl (ga) (cs) t3 ((HX.out _ (BB.out.go hB.below).below).2.1) (SZ.out.1) ?_;exact hK.out _ _ ⟨hB,rfl,Nat.le_refl _,.inl (Below.refl _ _),fun h=>absurd h (by decide)⟩
 refine Stps2.cons (o:=_) ?_ ?_
 · intro ac yw hsz hold hB hp K hK;have t0:ac.tmps[0]? = some (.int .i64 i):=hold 0 (by kernel_rfl);clear hold hp hsz;go_simp;exact hK.out _ _ ⟨hB,rfl,Nat.le_refl _,.inl (Below.refl _ _),fun h=>absurd h (by decide)⟩
 refine Stps2.cons (o:=_) ?_ ?_
 · intro ac yw hsz hold hB hp K hK;have e1:=hp 1 (by decide);have t11:ac.tmps[11]? = some (.agg cs):=(List.cons.inj e1).1;have e2:=hp 2 (by decide);have t12:ac.tmps[12]? = some (.int .i64 i):=(List.cons.inj e2).1;clear hold hp hsz e1 e2;go_simp
   (go_at_call 82;(refine(RA.out _ (BB.out.go hB.below).below).mono ?_);rintro e wz ⟨a3,n3,c3,m3,b3,k3,l3,rfl,h3_0,hbz⟩)
   exact hK.out _ _ ⟨hB.go hbz,Exists.intro a3 (Exists.intro n3 (Exists.intro c3 (Exists.intro m3 (Exists.intro b3 (Exists.intro k3 (Exists.intro l3 (And.intro rfl h3_0))))))),hbz.size,.inl hbz,fun h=>absurd h (by decide)⟩
 refine Stps2.cons (o:=_) ?_ ?_
 · intro ac yw hsz hold hB hp K hK;have t4:ac.tmps[4]? = some (.pointer (some ⟨gb,0,none⟩)):=hold 4 (by kernel_rfl);clear hold hp hsz;rw[if_pos (by rfl)];refine ld8 4 rfl (gb) (cs2) t4 ((HX.out _ (BB.out.go hB.below).below).2.2.2) (SZ.out.2) ?_;exact hK.out _ _ ⟨hB,rfl,Nat.le_refl _,.inl (Below.refl _ _),fun h=>absurd h (by decide)⟩
 refine Stps2.cons (o:=_) ?_ ?_
 · intro ac yw hsz hold hB hp K hK;have t1:ac.tmps[1]? = some (.int .i64 j):=hold 1 (by kernel_rfl);clear hold hp hsz;go_simp;exact hK.out _ _ ⟨hB,rfl,Nat.le_refl _,.inl (Below.refl _ _),fun h=>absurd h (by decide)⟩
 refine Stps2.cons (o:=_) ?_ ?_
 · intro ac yw hsz hold hB hp K hK;have e4:=hp 4 (by decide);have t14:ac.tmps[14]? = some (.agg cs2):=(List.cons.inj e4).1;have e5:=hp 5 (by decide);have t15:ac.tmps[15]? = some (.int .i64 j):=(List.cons.inj e5).1;clear hold hp hsz e4 e5;go_simp
   (go_at_call 82;(refine(RB.out _ (BB.out.go hB.below).below).mono ?_);rintro e wz ⟨a6,n6,c6,m6,b6,k6,l6,rfl,h6_0,hbz⟩)
   exact hK.out _ _ ⟨hB.go hbz,Exists.intro a6 (Exists.intro n6 (Exists.intro c6 (Exists.intro m6 (Exists.intro b6 (Exists.intro k6 (Exists.intro l6 (And.intro rfl h6_0))))))),hbz.size,.inl hbz,fun h=>absurd h (by decide)⟩
 refine Stps2.cons (o:=_) ?_ ?_
 · intro ac yw hsz hold hB hp K hK;have t5:ac.tmps[5]? = some (.pointer (some ⟨gl,0,none⟩)):=hold 5 (by kernel_rfl);clear hold hp hsz;have v0:=(HX.out _ (BB.out.go hB.below).below).1;have v2:=(HX.out _ (BB.out.go hB.below).below).2.2.1;go_simp;exact hK.out _ _ ⟨hB,rfl,Nat.le_refl _,.inl (Below.refl _ _),fun h=>absurd h (by decide)⟩
 refine Stps2.cons (o:=_) ?_ ?_
 · intro ac yw hsz hold hB hp K hK;have e0:=hp 0 (by decide);have t10:ac.tmps[10]? = some (.int .i32 c0):=(List.cons.inj e0).1;obtain⟨a3_3,n3_3,c3_3,m3_3,b3_3,k3_3,l3_3,e3,g3_0⟩:=hp 3 (by decide);have t13:ac.tmps[13]? = some (.agg #[.slice a3_3 n3_3 c3_3,.bool m3_3,.slice b3_3 k3_3 l3_3]):=(List.cons.inj e3).1;obtain⟨a6_6,n6_6,c6_6,m6_6,b6_6,k6_6,l6_6,e6,g6_0⟩:=hp 6 (by decide);have t16:ac.tmps[16]? = some (.agg #[.slice a6_6 n6_6 c6_6,.bool m6_6,.slice b6_6 k6_6 l6_6]):=(List.cons.inj e6).1;have e7:=hp 7 (by decide);have t17:ac.tmps[17]? = some (.int .i64 lm):=(List.cons.inj e7).1;clear hold hp hsz e0 e3 e6 e7;go_simp
   (go_at_call 17;(refine(ON.out _ _ _ _ _ _ _ _ _ _ _ _ _ _ _ g3_0 g6_0).mono ?_);rintro e wz ⟨a8,n8,c8,m8,b8,k8,l8,rfl,h8_0,hbz⟩)
   exact hK.out _ _ ⟨hB.go hbz,Exists.intro a8 (Exists.intro n8 (Exists.intro c8 (Exists.intro m8 (Exists.intro b8 (Exists.intro k8 (Exists.intro l8 (And.intro rfl h8_0))))))),hbz.size,.inl hbz,fun h=>absurd h (by decide)⟩
 refine Stps2.cons (o:=_) ?_ ?_
 · intro ac yw hsz hold hB hp K hK;obtain⟨a8_8,n8_8,c8_8,m8_8,b8_8,k8_8,l8_8,e8,g8_0⟩:=hp 8 (by decide);have t18:ac.tmps[18]? = some (.tuple #[.agg #[.slice a8_8 n8_8 c8_8,.bool m8_8,.slice b8_8 k8_8 l8_8],.int .i64 ee]):=(List.cons.inj e8).1;clear hold hp hsz e8;go_simp;exact hK.out _ _ ⟨hB,Exists.intro a8_8 (Exists.intro n8_8 (Exists.intro c8_8 (Exists.intro m8_8 (Exists.intro b8_8 (Exists.intro k8_8 (Exists.intro l8_8 (And.intro rfl g8_0))))))),Nat.le_refl _,.inl (Below.refl _ _),fun h=>absurd h (by decide)⟩
 refine Stps2.cons (o:=_) ?_ ?_
 · intro ac yw hsz hold hB hp K hK;obtain⟨a8_8,n8_8,c8_8,m8_8,b8_8,k8_8,l8_8,e8,g8_0⟩:=hp 8 (by decide);have t18:ac.tmps[18]? = some (.tuple #[.agg #[.slice a8_8 n8_8 c8_8,.bool m8_8,.slice b8_8 k8_8 l8_8],.int .i64 ee]):=(List.cons.inj e8).1;clear hold hp hsz e8;go_simp;exact hK.out _ _ ⟨hB,rfl,Nat.le_refl _,.inl (Below.refl _ _),fun h=>absurd h (by decide)⟩
 exact Stps2.nil _
def GTold(D:Nat->Nat->Ans)(L M:Nat)(w w':World)(e:Ending):Prop:=(∃fv cap,e=.returned (.func (.func fv) #[] cap)/\Enters Tryz.prog fv/\GGives fv cap D L M w')/\Below w.heap.size w w'
theorem onElements_any (c0 lm : Int) (D : Nat -> Nat -> Ans) (cs : Array Value) (S : Nat -> Int) (r : Nat) (ch : Bool) (L : Nat) (g fP : Nat -> Int) (fQ : Nat -> Nat) (cs2 : Array Value) (T : Nat -> Int) (q : Nat) (ch2 : Bool) (M : Nat) (g2 fP2 : Nat -> Int) (fQ2 : Nat -> Nat) (w : World) (h : Arr w cs S r ch L g fP fQ) (h2 : Arr w cs2 T q ch2 M g2 fP2 fQ2) (hD : ch = false -> ch2 = false -> TwosTo c0 lm D L M fP fQ fP2 fQ2) :
    Calls Tryz.prog 85 #[.int .i32 c0,.agg cs,.agg cs2,.int .i64 lm] w fun e w'=>GTold (elT c0 ch ch2 g g2 D) L M w w' e:=by
 have H0:=Lib.hid h;have H1:=Lib.hid h2;obtain⟨na,nn,nc,ta,tn,tc,hcs,_⟩:=h.form;subst hcs;obtain⟨na2,nn2,nc2,ta2,tn2,tc2,hcs2,_⟩:=h2.form;subst hcs2;have IC0:=Lib.hid (fun wz=>isChar_any ch ((r:Int)-1) (dm S r) na nn nc ta tn tc wz);have IC1:=Lib.hid (fun wz=>isChar_any ch2 ((q:Int)-1) (dm T q) na2 nn2 nc2 ta2 tn2 tc2 wz);have BB:=Lib.hid (((((Bag.start w).box (.int .i32 c0) 21).newRow (arrC ch ((r:Int)-1) (dm S r) na nn nc ta tn tc) 36).newRow (arrC ch2 ((q:Int)-1) (dm T q) na2 nn2 nc2 ta2 tn2 tc2) 36).box (.int .i64 lm) 3);simp only[World.size_alloc]at BB;have EN:=Lib.hid (And.intro ent_onel1 ent_onel2)
 have G1:Hid ((ch||ch2)=true->∀wz,Bag w (fun y=>Slot y (w.heap.size+1+1+1) (.int .i64 lm)/\Row y (w.heap.size+1+1) 36 (arrC ch2 ((q:Int)-1) (dm T q) na2 nn2 nc2 ta2 tn2 tc2)/\Row y (w.heap.size+1) 36 (arrC ch ((r:Int)-1) (dm S r) na nn nc ta tn tc)/\Slot y w.heap.size (.int .i32 c0)/\True) wz->GGives 155 #[.pointer (some ⟨w.heap.size,0,none⟩),.pointer (some ⟨w.heap.size+1,0,none⟩),.pointer (some ⟨w.heap.size+1+1,0,none⟩)] (elT c0 ch ch2 g g2 D) L M wz):=Lib.hid (fun e wz b=>by
  have:=onel1_any c0 w.heap.size (w.heap.size+1) (w.heap.size+1+1) (arrC ch ((r:Int)-1) (dm S r) na nn nc ta tn tc) S r ch L g fP fQ (arrC ch2 ((q:Int)-1) (dm T q) na2 nn2 nc2 ta2 tn2 tc2) T q ch2 M g2 fP2 fQ2 wz (H0.out.below b.below) (H1.out.below b.below) b.now.2.2.2.1.cell b.now.2.2.2.1.lt b.now.2.2.1 b.now.2.1;have ee:elT c0 ch ch2 g g2 D=fun i j=>cpT c0 (ch&&(ch2&&decide (g i=g2 j))):=by funext i j;unfold elT;rw[if_pos e]
  rw[ee]
  exact this)
 have G2:Hid ((ch||ch2)=false->∀wz,Bag w (fun y=>Slot y (w.heap.size+1+1+1) (.int .i64 lm)/\Row y (w.heap.size+1+1) 36 (arrC ch2 ((q:Int)-1) (dm T q) na2 nn2 nc2 ta2 tn2 tc2)/\Row y (w.heap.size+1) 36 (arrC ch ((r:Int)-1) (dm S r) na nn nc ta tn tc)/\Slot y w.heap.size (.int .i32 c0)/\True) wz->GGives 157 #[.pointer (some ⟨w.heap.size,0,none⟩),.pointer (some ⟨w.heap.size+1,0,none⟩),.pointer (some ⟨w.heap.size+1+1,0,none⟩),.pointer (some ⟨w.heap.size+1+1+1,0,none⟩)] (elT c0 ch ch2 g g2 D) L M wz):=Lib.hid (fun e wz b=>by
  have ee:elT c0 ch ch2 g g2 D=D:=by funext i j;unfold elT;rw[if_neg (by rw[e];decide)]
  rw[ee]
  cases ch with
  | true=>cases e
  | false =>
   cases ch2 with
   | true=>cases e
   | false=>exact onel2_any c0 lm D w.heap.size (w.heap.size+1) (w.heap.size+1+1) (w.heap.size+1+1+1) _ S r L g fP fQ _ T q M g2 fP2 fQ2 wz (H0.out.below b.below) (H1.out.below b.below) (hD rfl rfl) b.now.2.2.2.1.cell b.now.2.2.2.1.lt b.now.2.2.1 b.now.2.1 b.now.1.cell b.now.1.lt)
 clear h h2 hD;have HR0:=Lib.hid BB.out.now.2.2.1;obtain⟨DD,hDD⟩:∃z,elT c0 ch ch2 g g2 D=z:=⟨_,rfl⟩
 rw[hDD]at G1 G2 ⊢;clear hDD;unfold arrC;go_enter Tryz.func85,Tryz.ntmps85
 go_wp2_with (with_reducible refine at_op 9 ?_;refine ld_arr rfl (.tmp 5) rfl (w.heap.size+1) rfl HR0.out ?_)
 go_at_call 41
 (refine(IC0.out _).mono ?_)
 rintro e w2 ⟨rfl,hb2⟩;have BB:=bgo BB hb2;clear hb2 HR0
 cases ch with
 | true =>
  have HG:=Lib.hid (G1.out rfl _ BB.out);have HB:=Lib.hid BB.out.below;go_wp2;go_ret;exact⟨⟨_,_,rfl,EN.out.1,HG.out⟩,HB.out⟩
 | false =>
  have HR1:=Lib.hid BB.out.now.2.1
  go_wp2_with (refine ld8G (by rfl) 6 rfl (w.heap.size+1+1) (arrC ch2 ((q:Int)-1) (dm T q) na2 nn2 nc2 ta2 tn2 tc2) (by rfl) HR1.out rfl ?_)
  go_at_call 41
  (refine(IC1.out _).mono ?_)
  rintro e w3 ⟨rfl,hb3⟩;have BB:=bgo BB hb3;clear hb3 HR1;have HB:=Lib.hid BB.out.below
  cases ch2 with
  | true =>
   have HG:=Lib.hid (G1.out rfl _ BB.out);go_wp2;go_ret;exact⟨⟨_,_,rfl,EN.out.1,HG.out⟩,HB.out⟩
  | false =>
   have HG:=Lib.hid (G2.out rfl _ BB.out);go_wp2;go_ret;exact⟨⟨_,_,rfl,EN.out.2,HG.out⟩,HB.out⟩
theorem FitTold.ok0{k:Nat}(hk:k=0){S:Nat->Int}{r:Nat}{T:Nat->Int}{q:Nat}{w w':World}{a:Option Addr}{c:Nat}(K:KRow w' .i64 a r c S)(hb:Below w.heap.size w w'):FitTold k S r T q w w' (.returned (.tuple #[.slice a r c,.bool false,.bool false,.int .i64 0])):=by subst hk;exact⟨a,c,rfl,K,hb⟩
theorem FitTold.ok1{k:Nat}(hk:k=1){S:Nat->Int}{r:Nat}{T:Nat->Int}{q:Nat}{w w':World}{a:Option Addr}{c:Nat}(K:KRow w' .i64 a q c T)(hb:Below w.heap.size w w'):FitTold k S r T q w w' (.returned (.tuple #[.slice a q c,.bool true,.bool false,.int .i64 0])):=by subst hk;exact⟨a,c,rfl,K,hb⟩
theorem FitTold.ok2{k:Nat}(hk:k=2){S:Nat->Int}{r:Nat}{T:Nat->Int}{q:Nat}{w w':World}{a:Option Addr}{c:Nat}(K:KRow w' .i64 a r c S)(hb:Below w.heap.size w w'):FitTold k S r T q w w' (.returned (.tuple #[.slice a r c,.bool false,.bool true,.int .i64 0])):=by subst hk;exact⟨a,c,rfl,K,hb⟩
theorem fit_any (cs : Array Value) (S : Nat -> Int) (r : Nat) (ch : Bool) (L : Nat) (g fP : Nat -> Int) (fQ : Nat -> Nat) (cs2 : Array Value) (T : Nat -> Int) (q : Nat) (ch2 : Bool) (M : Nat) (g2 fP2 : Nat -> Int) (fQ2 : Nat -> Nat) (w : World) (h : Arr w cs S r ch L g fP fQ) (h2 : Arr w cs2 T q ch2 M g2 fP2 fQ2) (hr : r <= 8) (hq : q <= 8) :
    Calls Tryz.prog 29 #[.agg cs,.agg cs2] w fun e w'=>FitTold (pfK S r L T q M) S r T q w w' e:=by
 obtain⟨na,nn,nc,ta,tn,tc,hcs,_⟩:=h.form;subst hcs;obtain⟨na2,nn2,nc2,ta2,tn2,tc2,hcs2,_⟩:=h2.form;subst hcs2;have H0:=Lib.hid h;have H1:=Lib.hid h2;have SH0:=Lib.hid (fun wz h=>shape8_any (arrC ch ((r:Int)-1) (dm S r) na nn nc ta tn tc) S r ch L g fP fQ wz h hr);have SH1:=Lib.hid (fun wz h=>shape8_any (arrC ch2 ((q:Int)-1) (dm T q) na2 nn2 nc2 ta2 tn2 tc2) T q ch2 M g2 fP2 fQ2 wz h hq);have LN0:=Lib.hid (fun wz h=>len8_any (arrC ch ((r:Int)-1) (dm S r) na nn nc ta tn tc) S r ch L g fP fQ wz h);have LN1:=Lib.hid (fun wz h=>len8_any (arrC ch2 ((q:Int)-1) (dm T q) na2 nn2 nc2 ta2 tn2 tc2) T q ch2 M g2 fP2 fQ2 wz h);have SM:=Lib.hid (fun a c a2 c2 wz (k:KRow wz .i64 a r c S) (k2:KRow wz .i64 a2 q c2 T)=>same_any a r c S a2 q c2 T wz k k2);unfold SameTold at SM;obtain⟨K,hK⟩:∃n,pfK S r L T q M=n:=⟨_,rfl⟩
 rw[hK];unfold pfK at hK;have HKK:=Lib.hid hK;clear hK;have BB:=Lib.hid (((Bag.start w).newRow (arrC ch ((r:Int)-1) (dm S r) na nn nc ta tn tc) 36).newRow (arrC ch2 ((q:Int)-1) (dm T q) na2 nn2 nc2 ta2 tn2 tc2) 36);simp only[World.size_alloc]at BB;clear h h2;unfold arrC;go_enter Tryz.func29,Tryz.ntmps29;go_wp2_with fail;have hWW:=BB.out.below;unfold arrC at hWW;unfold arrC at BB;generalize hW:((w.alloc (.cells _ 36)).alloc (.cells _ 36))=W3 at *;clear hW hWW;have RW0:Hid (∀yz,Below W3.heap.size W3 yz->Row yz (w.heap.size) 36 (arrC ch ((r:Int)-1) (dm S r) na nn nc ta tn tc)):=Lib.hid (fun yz hb=>Row.below BB.out.now.2.1 hb);have RW1:Hid (∀yz,Below W3.heap.size W3 yz->Row yz (w.heap.size+1) 36 (arrC ch2 ((q:Int)-1) (dm T q) na2 nn2 nc2 ta2 tn2 tc2)):=Lib.hid (fun yz hb=>Row.below BB.out.now.1 hb)
 refine wp_region_inv2 ⟨(fun j=>([[10], [11], [12], [13], [8], [9]]:List (List Nat)).getD j []),(fun j=>([[], [0], [], [0,1,2], [0,1,2,3], [0,1,2,3,4]]:List (List Nat)).getD j []), []⟩ (fun jj vv yy=>match jj with|0=>vv = [some (.agg (arrC ch ((r:Int)-1) (dm S r) na nn nc ta tn tc))]|1=>∃(a1:Option Addr),∃(c1:Nat),vv = [some (.slice a1 r c1)]/\KRow yy .i64 a1 r c1 S|2=>vv = [some (.agg (arrC ch2 ((q:Int)-1) (dm T q) na2 nn2 nc2 ta2 tn2 tc2))]|3=>∃(a3:Option Addr),∃(c3:Nat),vv = [some (.slice a3 q c3)]/\KRow yy .i64 a3 q c3 T|4=>∃(a1:Option Addr),∃(c1:Nat),vv = [some (.slice a1 r c1)]/\KRow yy .i64 a1 r c1 S|5=>∃(a3:Option Addr),∃(c3:Nat),vv = [some (.slice a3 q c3)]/\KRow yy .i64 a3 q c3 T|_=>True) (Bag W3 (fun _=>True)) (by kernel_rfl) (by kernel_rfl) (by kernel_rfl) (Bag.start W3).drew ?_ ?_ ?_
 · intro jj vv yw yw2 hb h
   match jj,h with
   | 0,h=>exact h
   | 1,⟨a1,c1,e1,g1_0⟩=>exact Exists.intro a1 (Exists.intro c1 (And.intro e1 (g1_0.below hb)))
   | 2,h=>exact h
   | 3,⟨a3,c3,e3,g3_0⟩=>exact Exists.intro a3 (Exists.intro c3 (And.intro e3 (g3_0.below hb)))
   | 4,⟨a1,c1,e4,g4_0⟩=>exact Exists.intro a1 (Exists.intro c1 (And.intro e4 (g4_0.below hb)))
   | 5,⟨a3,c3,e5,g5_0⟩=>exact Exists.intro a3 (Exists.intro c3 (And.intro e5 (g5_0.below hb)))
   | _+6,h=>exact h
 · intro ac yw hsz hdf hold hB hp; obtain ⟨s1, c1, e1, k1⟩ := hp 4 (by decide); obtain ⟨s2, c2, e2, k2⟩ := hp 5 (by decide); have t8 : ac.tmps[8]? = some (.slice s1 r c1) := (List.cons.inj e1).1; have t9 : ac.tmps[9]? = some (.slice s2 q c2) := (List.cons.inj e2).1; have t2 : ac.tmps[2]? = some (.pointer (some ⟨w.heap.size, 0, none⟩)) := hold 2 (by kernel_rfl); have t3 : ac.tmps[3]? = some (.pointer (some ⟨w.heap.size + 1, 0, none⟩)) := hold 3 (by kernel_rfl); have K1 := Lib.hid k1; have K2 := Lib.hid k2; have BY := Lib.hid hB.below; have BB := Lib.hid (BB.out.go hB.below); clear hold hp e1 e2 k1 k2 hB; obtain ⟨TV, hTV⟩ : ∃ TV : Nat -> Value, ∀ i, (ac.tmps[i]?).getD undef = TV i := ⟨_, fun _ => rfl⟩
   have f2:=(hTV 2).symm.trans (congrArg (fun x=>Option.getD x undef) t2);have f3:=(hTV 3).symm.trans (congrArg (fun x=>Option.getD x undef) t3);have f8:=(hTV 8).symm.trans (congrArg (fun x=>Option.getD x undef) t8);have f9:=(hTV 9).symm.trans (congrArg (fun x=>Option.getD x undef) t9);have hac:=act_eq (n:=47) hsz TV hTV;rw[show((List.range 47).map TV).toArray=#[TV 0,TV 1,TV 2,TV 3,TV 4,TV 5,TV 6,TV 7,TV 8,TV 9,TV 10,TV 11,TV 12,TV 13,TV 14,TV 15,TV 16,TV 17,TV 18,TV 19,TV 20,TV 21,TV 22,TV 23,TV 24,TV 25,TV 26,TV 27,TV 28,TV 29,TV 30,TV 31,TV 32,TV 33,TV 34,TV 35,TV 36,TV 37,TV 38,TV 39,TV 40,TV 41,TV 42,TV 43,TV 44,TV 45,TV 46]from rfl,f2,f3,f8,f9,hdf]at hac;simp only[Option.getD_some]at hac;subst hac;clear hTV f2 f3 f8 f9;go_wp2_with fail;go_at_call 91
   (refine(SM.out _ _ _ _ _ K1.out K2.out).mono ?_)
   rintro e w4 ⟨rfl,hb4⟩;have BB:=bgo BB hb4;have BY:=Lib.hid (BY.out.trans (hb4.mono BY.out.size));have K1:=Lib.hid (K1.out.below hb4);have K2:=Lib.hid (K2.out.below hb4);clear hb4 SM;have hl1:=K1.out.len;have hl2:=K2.out.len;have hK:=HKK.out;clear HKK
   cases hb:(decide (r=q)&&sameB S T r)with
   | true =>
    have HK:Hid (K=0):=Lib.hid (by rw[← hK,if_pos hb]);clear hK hb;have HE:=Lib.hid (FitTold.ok0 (T:=T) (q:=q) HK.out K1.out BB.out.below);go_wp2;exact bodyPost_ret (v:=.tuple #[.slice s1 r c1,.bool false,.bool false,.int .i64 0]) (by simp[results,Tryz.results29,go_sem]) rfl HE.out
   | false =>
    by_cases hL:L=1
    · have dL : ((L : Int) == 1) = true := beq_iff_eq.2 (by omega)
      by_cases hM:M=1
      · have dM : ((M : Int) != 1) = false := by rw [hM]; rfl
        have dN:((M:Int)==1)=true:=beq_iff_eq.2 (by omega)
        by_cases hrq:r<q
        · have d3:(r:Int)<(q:Int):=by omega
          have HK:Hid (K=1):=Lib.hid (by rw[← hK,if_neg (by rw[hb];decide),if_pos (by omega)]);clear hK hb;clear hL hM hrq
          go_wp2_with (first
           | (refine ld8G (by rfl) 2 rfl (w.heap.size) (arrC ch ((r:Int)-1) (dm S r) na nn nc ta tn tc) (by rfl) (RW0.out _ BY.out) rfl ?_)
           | (refine ld8G (by rfl) 3 rfl (w.heap.size+1) (arrC ch2 ((q:Int)-1) (dm T q) na2 nn2 nc2 ta2 tn2 tc2) (by rfl) (RW1.out _ BY.out) rfl ?_))
          go_at_call 51
          (refine(LN0.out _ (H0.out.below BB.out.below)).mono ?_)
          rintro e w5 ⟨rfl,hb⟩;have BB:=bgo BB hb;have BY:=Lib.hid (BY.out.trans (hb.mono BY.out.size));have K1:=Lib.hid (K1.out.below hb);have K2:=Lib.hid (K2.out.below hb);clear hb
          go_wp2_with (first
           | (refine ld8G (by rfl) 2 rfl (w.heap.size) (arrC ch ((r:Int)-1) (dm S r) na nn nc ta tn tc) (by rfl) (RW0.out _ BY.out) rfl ?_)
           | (refine ld8G (by rfl) 3 rfl (w.heap.size+1) (arrC ch2 ((q:Int)-1) (dm T q) na2 nn2 nc2 ta2 tn2 tc2) (by rfl) (RW1.out _ BY.out) rfl ?_))
          go_at_call 51
          (refine(LN1.out _ (H1.out.below BB.out.below)).mono ?_)
          rintro e w6 ⟨rfl,hb⟩;have BB:=bgo BB hb;have BY:=Lib.hid (BY.out.trans (hb.mono BY.out.size));have K1:=Lib.hid (K1.out.below hb);have K2:=Lib.hid (K2.out.below hb);clear hb;have HE:=Lib.hid (FitTold.ok1 (S:=S) (r:=r) HK.out K2.out BB.out.below);go_wp2;exact bodyPost_ret (v:=.tuple #[.slice s2 q c2,.bool true,.bool false,.int .i64 0]) (by simp[results,Tryz.results29,go_sem]) rfl HE.out
        · have d3:¬(r:Int)<(q:Int):=by omega
          have HK:Hid (K=2):=Lib.hid (by rw[← hK,if_neg (by rw[hb];decide),if_neg (by omega),if_pos (by omega)]);clear hK hb;clear hL hM hrq
          go_wp2_with (first
           | (refine ld8G (by rfl) 2 rfl (w.heap.size) (arrC ch ((r:Int)-1) (dm S r) na nn nc ta tn tc) (by rfl) (RW0.out _ BY.out) rfl ?_)
           | (refine ld8G (by rfl) 3 rfl (w.heap.size+1) (arrC ch2 ((q:Int)-1) (dm T q) na2 nn2 nc2 ta2 tn2 tc2) (by rfl) (RW1.out _ BY.out) rfl ?_))
          go_at_call 51
          (refine(LN0.out _ (H0.out.below BB.out.below)).mono ?_)
          rintro e w5 ⟨rfl,hb⟩;have BB:=bgo BB hb;have BY:=Lib.hid (BY.out.trans (hb.mono BY.out.size));have K1:=Lib.hid (K1.out.below hb);have K2:=Lib.hid (K2.out.below hb);clear hb
          go_wp2_with (first
           | (refine ld8G (by rfl) 2 rfl (w.heap.size) (arrC ch ((r:Int)-1) (dm S r) na nn nc ta tn tc) (by rfl) (RW0.out _ BY.out) rfl ?_)
           | (refine ld8G (by rfl) 3 rfl (w.heap.size+1) (arrC ch2 ((q:Int)-1) (dm T q) na2 nn2 nc2 ta2 tn2 tc2) (by rfl) (RW1.out _ BY.out) rfl ?_))
          go_at_call 51
          (refine(LN1.out _ (H1.out.below BB.out.below)).mono ?_)
          rintro e w6 ⟨rfl,hb⟩;have BB:=bgo BB hb;have BY:=Lib.hid (BY.out.trans (hb.mono BY.out.size));have K1:=Lib.hid (K1.out.below hb);have K2:=Lib.hid (K2.out.below hb);clear hb
          go_wp2_with (first
           | (refine ld8G (by rfl) 2 rfl (w.heap.size) (arrC ch ((r:Int)-1) (dm S r) na nn nc ta tn tc) (by rfl) (RW0.out _ BY.out) rfl ?_)
           | (refine ld8G (by rfl) 3 rfl (w.heap.size+1) (arrC ch2 ((q:Int)-1) (dm T q) na2 nn2 nc2 ta2 tn2 tc2) (by rfl) (RW1.out _ BY.out) rfl ?_))
          go_at_call 51
          (refine(LN1.out _ (H1.out.below BB.out.below)).mono ?_)
          rintro e w7 ⟨rfl,hb⟩;have BB:=bgo BB hb;have BY:=Lib.hid (BY.out.trans (hb.mono BY.out.size));have K1:=Lib.hid (K1.out.below hb);have K2:=Lib.hid (K2.out.below hb);clear hb;have HE:=Lib.hid (FitTold.ok2 (T:=T) (q:=q) HK.out K1.out BB.out.below);go_wp2;exact bodyPost_ret (v:=.tuple #[.slice s1 r c1,.bool false,.bool true,.int .i64 0]) (by simp[results,Tryz.results29,go_sem]) rfl HE.out
      · have dM:((M:Int) != 1)=true:=bne_iff_ne.2 (by omega);have HK:Hid (K=1):=Lib.hid (by rw[← hK,if_neg (by rw[hb];decide),if_pos (by omega)]);clear hK hb;clear hL hM
        go_wp2_with (first
         | (refine ld8G (by rfl) 2 rfl (w.heap.size) (arrC ch ((r:Int)-1) (dm S r) na nn nc ta tn tc) (by rfl) (RW0.out _ BY.out) rfl ?_)
         | (refine ld8G (by rfl) 3 rfl (w.heap.size+1) (arrC ch2 ((q:Int)-1) (dm T q) na2 nn2 nc2 ta2 tn2 tc2) (by rfl) (RW1.out _ BY.out) rfl ?_))
        go_at_call 51
        (refine(LN0.out _ (H0.out.below BB.out.below)).mono ?_)
        rintro e w5 ⟨rfl,hb⟩;have BB:=bgo BB hb;have BY:=Lib.hid (BY.out.trans (hb.mono BY.out.size));have K1:=Lib.hid (K1.out.below hb);have K2:=Lib.hid (K2.out.below hb);clear hb
        go_wp2_with (first
         | (refine ld8G (by rfl) 2 rfl (w.heap.size) (arrC ch ((r:Int)-1) (dm S r) na nn nc ta tn tc) (by rfl) (RW0.out _ BY.out) rfl ?_)
         | (refine ld8G (by rfl) 3 rfl (w.heap.size+1) (arrC ch2 ((q:Int)-1) (dm T q) na2 nn2 nc2 ta2 tn2 tc2) (by rfl) (RW1.out _ BY.out) rfl ?_))
        go_at_call 51
        (refine(LN1.out _ (H1.out.below BB.out.below)).mono ?_)
        rintro e w6 ⟨rfl,hb⟩;have BB:=bgo BB hb;have BY:=Lib.hid (BY.out.trans (hb.mono BY.out.size));have K1:=Lib.hid (K1.out.below hb);have K2:=Lib.hid (K2.out.below hb);clear hb;have HE:=Lib.hid (FitTold.ok1 (S:=S) (r:=r) HK.out K2.out BB.out.below);go_wp2;exact bodyPost_ret (v:=.tuple #[.slice s2 q c2,.bool true,.bool false,.int .i64 0]) (by simp[results,Tryz.results29,go_sem]) rfl HE.out
    · have dL : ((L : Int) == 1) = false := beq_eq_false_iff_ne.2 (by omega)
      by_cases hM:M=1
      · have dN:((M:Int)==1)=true:=beq_iff_eq.2 (by omega);have HK:Hid (K=2):=Lib.hid (by rw[← hK,if_neg (by rw[hb];decide),if_neg (by omega),if_pos (by omega)]);clear hK hb;clear hL hM
        go_wp2_with (first
         | (with_reducible refine at_op 20 ?_;refine ld_arr rfl (.tmp 2) rfl (w.heap.size) rfl (RW0.out _ BY.out) ?_)
         | (with_reducible refine at_op 37 ?_;refine ld_arr rfl (.tmp 3) rfl (w.heap.size+1) rfl (RW1.out _ BY.out) ?_))
        go_at_call 51
        (refine(LN0.out _ (H0.out.below BB.out.below)).mono ?_)
        rintro e w5 ⟨rfl,hb⟩;have BB:=bgo BB hb;have BY:=Lib.hid (BY.out.trans (hb.mono BY.out.size));have K1:=Lib.hid (K1.out.below hb);have K2:=Lib.hid (K2.out.below hb);clear hb
        go_wp2_with (first
         | (with_reducible refine at_op 20 ?_;refine ld_arr rfl (.tmp 2) rfl (w.heap.size) rfl (RW0.out _ BY.out) ?_)
         | (with_reducible refine at_op 37 ?_;refine ld_arr rfl (.tmp 3) rfl (w.heap.size+1) rfl (RW1.out _ BY.out) ?_))
        go_at_call 51
        (refine(LN1.out _ (H1.out.below BB.out.below)).mono ?_)
        rintro e w6 ⟨rfl,hb⟩;have BB:=bgo BB hb;have BY:=Lib.hid (BY.out.trans (hb.mono BY.out.size));have K1:=Lib.hid (K1.out.below hb);have K2:=Lib.hid (K2.out.below hb);clear hb;have HE:=Lib.hid (FitTold.ok2 (T:=T) (q:=q) HK.out K1.out BB.out.below);go_wp2;exact bodyPost_ret (v:=.tuple #[.slice s1 r c1,.bool false,.bool true,.int .i64 0]) (by simp[results,Tryz.results29,go_sem]) rfl HE.out
      · have dN : ((M : Int) == 1) = false := beq_eq_false_iff_ne.2 (by omega)
        by_cases hrq:r=q
        · have d3:((r:Int) != (q:Int))=false:=by rw[hrq];exact bne_self_eq_false _
          have HK:Hid (K=4):=Lib.hid (by rw[← hK,if_neg (by rw[hb];decide),if_neg (by omega),if_neg (by omega),if_neg (by omega)]);clear hK hb;clear hL hM hrq
          go_wp2_with (first
           | (with_reducible refine at_op 20 ?_;refine ld_arr rfl (.tmp 2) rfl (w.heap.size) rfl (RW0.out _ BY.out) ?_)
           | (with_reducible refine at_op 37 ?_;refine ld_arr rfl (.tmp 3) rfl (w.heap.size+1) rfl (RW1.out _ BY.out) ?_))
          go_at_call 51
          (refine(LN0.out _ (H0.out.below BB.out.below)).mono ?_)
          rintro e w5 ⟨rfl,hb⟩;have BB:=bgo BB hb;have BY:=Lib.hid (BY.out.trans (hb.mono BY.out.size));have K1:=Lib.hid (K1.out.below hb);have K2:=Lib.hid (K2.out.below hb);clear hb
          go_wp2_with (first
           | (with_reducible refine at_op 20 ?_;refine ld_arr rfl (.tmp 2) rfl (w.heap.size) rfl (RW0.out _ BY.out) ?_)
           | (with_reducible refine at_op 37 ?_;refine ld_arr rfl (.tmp 3) rfl (w.heap.size+1) rfl (RW1.out _ BY.out) ?_))
          go_at_call 51
          (refine(LN1.out _ (H1.out.below BB.out.below)).mono ?_)
          rintro e w6 ⟨rfl,hb⟩;have BB:=bgo BB hb;have BY:=Lib.hid (BY.out.trans (hb.mono BY.out.size));have K1:=Lib.hid (K1.out.below hb);have K2:=Lib.hid (K2.out.below hb);clear hb;have HE:=Lib.hid (FitTold.nul (k:=K) (by rw[HK.out];decide) S r T q BB.out.below (E:=24) (by rw[HK.out];rfl));go_wp2;exact bodyPost_ret (v:=.tuple #[.slice none 0 0,.bool false,.bool false,.int .i64 24]) (by simp[results,Tryz.results29,go_sem]) rfl HE.out
        · have d3:((r:Int) != (q:Int))=true:=bne_iff_ne.2 (by omega);have HK:Hid (K=3):=Lib.hid (by rw[← hK,if_neg (by rw[hb];decide),if_neg (by omega),if_neg (by omega),if_pos (by omega)]);clear hK hb;clear hL hM hrq
          go_wp2_with (first
           | (with_reducible refine at_op 20 ?_;refine ld_arr rfl (.tmp 2) rfl (w.heap.size) rfl (RW0.out _ BY.out) ?_)
           | (with_reducible refine at_op 37 ?_;refine ld_arr rfl (.tmp 3) rfl (w.heap.size+1) rfl (RW1.out _ BY.out) ?_))
          go_at_call 51
          (refine(LN0.out _ (H0.out.below BB.out.below)).mono ?_)
          rintro e w5 ⟨rfl,hb⟩;have BB:=bgo BB hb;have BY:=Lib.hid (BY.out.trans (hb.mono BY.out.size));have K1:=Lib.hid (K1.out.below hb);have K2:=Lib.hid (K2.out.below hb);clear hb
          go_wp2_with (first
           | (with_reducible refine at_op 20 ?_;refine ld_arr rfl (.tmp 2) rfl (w.heap.size) rfl (RW0.out _ BY.out) ?_)
           | (with_reducible refine at_op 37 ?_;refine ld_arr rfl (.tmp 3) rfl (w.heap.size+1) rfl (RW1.out _ BY.out) ?_))
          go_at_call 51
          (refine(LN1.out _ (H1.out.below BB.out.below)).mono ?_)
          rintro e w6 ⟨rfl,hb⟩;have BB:=bgo BB hb;have BY:=Lib.hid (BY.out.trans (hb.mono BY.out.size));have K1:=Lib.hid (K1.out.below hb);have K2:=Lib.hid (K2.out.below hb);clear hb;have HE:=Lib.hid (FitTold.nul (k:=K) (by rw[HK.out];decide) S r T q BB.out.below (E:=23) (by rw[HK.out];rfl));go_wp2;exact bodyPost_ret (v:=.tuple #[.slice none 0 0,.bool false,.bool false,.int .i64 23]) (by simp[results,Tryz.results29,go_sem]) rfl HE.out
 refine Stps2.cons (o:=_) ?_ ?_
 · intro ac yw hsz hold hB hp K hK;have t2:ac.tmps[2]? = some (.pointer (some ⟨w.heap.size,0,none⟩)):=hold 2 (by kernel_rfl);clear hold hp hsz;rw[if_pos (by rfl)];refine ld8 2 rfl (w.heap.size) ((arrC ch ((r:Int)-1) (dm S r) na nn nc ta tn tc)) t2 (RW0.out _ hB.below) (rfl) ?_;exact hK.out _ _ ⟨hB,rfl,Nat.le_refl _,.inl (Below.refl _ _),fun h=>absurd h (by decide)⟩
 refine Stps2.cons (o:=_) ?_ ?_
 · intro ac yw hsz hold hB hp K hK;have e0:=hp 0 (by decide);have t10:ac.tmps[10]? = some (.agg (arrC ch ((r:Int)-1) (dm S r) na nn nc ta tn tc)):=(List.cons.inj e0).1;clear hold hp hsz e0;go_simp
   (go_at_call 39;(refine(SH0.out _ (H0.out.below (BB.out.go hB.below).below)).mono ?_);rintro e wz ⟨a1,c1,rfl,h1_0,hbz⟩)
   exact hK.out _ _ ⟨hB.go hbz,Exists.intro a1 (Exists.intro c1 (And.intro rfl h1_0)),hbz.size,.inl hbz,fun h=>absurd h (by decide)⟩
 refine Stps2.cons (o:=_) ?_ ?_
 · intro ac yw hsz hold hB hp K hK;have t3:ac.tmps[3]? = some (.pointer (some ⟨w.heap.size+1,0,none⟩)):=hold 3 (by kernel_rfl);clear hold hp hsz;rw[if_pos (by rfl)];refine ld8 3 rfl (w.heap.size+1) ((arrC ch2 ((q:Int)-1) (dm T q) na2 nn2 nc2 ta2 tn2 tc2)) t3 (RW1.out _ hB.below) (rfl) ?_;exact hK.out _ _ ⟨hB,rfl,Nat.le_refl _,.inl (Below.refl _ _),fun h=>absurd h (by decide)⟩
 refine Stps2.cons (o:=_) ?_ ?_
 · intro ac yw hsz hold hB hp K hK;have e2:=hp 2 (by decide);have t12:ac.tmps[12]? = some (.agg (arrC ch2 ((q:Int)-1) (dm T q) na2 nn2 nc2 ta2 tn2 tc2)):=(List.cons.inj e2).1;clear hold hp hsz e2;go_simp
   (go_at_call 39;(refine(SH1.out _ (H1.out.below (BB.out.go hB.below).below)).mono ?_);rintro e wz ⟨a3,c3,rfl,h3_0,hbz⟩)
   exact hK.out _ _ ⟨hB.go hbz,Exists.intro a3 (Exists.intro c3 (And.intro rfl h3_0)),hbz.size,.inl hbz,fun h=>absurd h (by decide)⟩
 refine Stps2.cons (o:=_) ?_ ?_
 · intro ac yw hsz hold hB hp K hK;obtain⟨a1_1,c1_1,e1,g1_0⟩:=hp 1 (by decide);have t11:ac.tmps[11]? = some (.slice a1_1 r c1_1):=(List.cons.inj e1).1;clear hold hp hsz e1;go_simp;exact hK.out _ _ ⟨hB,Exists.intro a1_1 (Exists.intro c1_1 (And.intro rfl g1_0)),Nat.le_refl _,.inl (Below.refl _ _),fun h=>absurd h (by decide)⟩
 refine Stps2.cons (o:=_) ?_ ?_
 · intro ac yw hsz hold hB hp K hK;obtain⟨a3_3,c3_3,e3,g3_0⟩:=hp 3 (by decide);have t13:ac.tmps[13]? = some (.slice a3_3 q c3_3):=(List.cons.inj e3).1;clear hold hp hsz e3;go_simp;exact hK.out _ _ ⟨hB,Exists.intro a3_3 (Exists.intro c3_3 (And.intro rfl g3_0)),Nat.le_refl _,.inl (Below.refl _ _),fun h=>absurd h (by decide)⟩
 exact Stps2.nil _
set_option linter.unusedVariables false
set_option linter.unusedSimpArgs false
theorem dkind_any (c : Int) (w : World)  :
    Calls Tryz.prog 58 #[.int .i32 c] w fun e w'=>e=.returned (.int .i64 (kindZ c))/\Below w.heap.size w w':=by
 have HE:=Lib.hid (Below.refl w.heap.size w)
 by_cases h:c=60∨c=8804∨c=61∨c=8805∨c=62∨c=8800∨c=8743∨c=8744∨c=9074∨c=9073∨c=43∨c=45∨c=215∨c=247∨c=8968∨c=8970∨c=124∨c=42∨c=33∨c=9055∨c=9675
 · rcases h with rfl|rfl|rfl|rfl|rfl|rfl|rfl|rfl|rfl|rfl|rfl|rfl|rfl|rfl|rfl|rfl|rfl|rfl|rfl|rfl|rfl
   all_goals
    go_enter Tryz.func58,Tryz.ntmps58;go_wp2;go_ret;exact⟨rfl,HE.out⟩
 · have e:kindZ c=0:=by
     unfold kindZ cmpK logK numK;rw[decide_eq_false (by omega),decide_eq_false (by omega),decide_eq_false (by omega)]
     rfl
   rw[e]
   have hh:(c==60)=false/\(c==8804)=false/\(c==61)=false/\(c==8805)=false/\(c==62)=false/\(c==8800)=false/\(c==8743)=false/\(c==8744)=false/\(c==9074)=false/\(c==9073)=false/\(c==43)=false/\(c==45)=false/\(c==215)=false/\(c==247)=false/\(c==8968)=false/\(c==8970)=false/\(c==124)=false/\(c==42)=false/\(c==33)=false/\(c==9055)=false/\(c==9675)=false:=by
    refine⟨?_,?_,?_,?_,?_,?_,?_,?_,?_,?_,?_,?_,?_,?_,?_,?_,?_,?_,?_,?_,?_⟩<;>(rw[beq_eq_false_iff_ne];omega)
   obtain⟨h60,h8804,h61,h8805,h62,h8800,h8743,h8744,h9074,h9073,h43,h45,h215,h247,h8968,h8970,h124,h42,h33,h9055,h9675⟩:=hh;clear h e;go_enter Tryz.func58,Tryz.ntmps58;go_wp2;go_ret;exact⟨rfl,HE.out⟩
theorem dhas_any (c : Int) (w : World)  :
    Calls Tryz.prog 19 #[.int .i32 c] w fun e w'=>e=.returned (.bool (hasD c))/\Below w.heap.size w w':=by
 have KI:=Lib.hid (fun wz=>dkind_any c wz);rw[← hasD_kind];generalize kindZ c=kz at *;have BB:=Lib.hid (Bag.start w);go_enter Tryz.func19,Tryz.ntmps19;go_wp2_with fail;go_at_call 58;refine(KI.out _).mono ?_;rintro e w2 ⟨rfl,hb2⟩;have BB:=bgo BB hb2;clear hb2;go_wp2;go_ret;exact⟨rfl,BB.out.below⟩
end Go.Proofs.YtdmmenaejkpnjaaGreatDoor
