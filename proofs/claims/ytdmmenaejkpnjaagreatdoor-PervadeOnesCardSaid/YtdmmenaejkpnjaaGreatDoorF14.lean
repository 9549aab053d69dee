/-
  Texts of this seat, laid together.
-/
import Derived.Laws.OwnMore
import Derived.Deep.RegionHeld3
import Derived.Lib.AppendZeros
import Derived.Deep.QuietTactic
import Derived.BigQuiet
import Derived.ProofKit
import Derived.Carry
import Derived.Deep.Strs
import Derived.OpenShut
import Derived.Deep.Slices
import Derived.Lib.SmallJoins
import Derived.Test.YtdmmenaejkpnjaaGreatDoorF13
set_option maxHeartbeats 12800000
set_option maxRecDepth 100000
set_option linter.unusedSimpArgs false
set_option linter.unusedVariables false
namespace Go.Proofs.YtdmmenaejkpnjaaGreatDoor
open Go.RowKit
attribute [local go_sem ↓] Go.wp_at_zero Go.wp_at_succ
theorem ent_ptwo1:Enters Tryz.prog 86:=enters_of Tryz.func86 (by kernel_rfl) rfl
def ppI(one:Bool)(k:Nat):Nat:=if one then 0 else k
def pfM(k L M:Nat):Nat:=if k=1 then M else L
theorem pf_bd{S T:Nat->Int}{r q L M K:Nat}(hL:itm S r=(L:Nat))(hM:itm T q=(M:Nat))(hK:pfK S r L T q M=K)(h3:K<3):∀k,k<pfM K L M->ppI (decide (K=1)) k<L/\ppI (decide (K=2)) k<M:=by
 intro k hk;unfold pfM at hk;unfold ppI;unfold pfK at hK
 by_cases h0:(decide (r=q)&&sameB S T r)=true
 · rw[if_pos h0]at hK;subst hK;rw[Bool.and_eq_true,decide_eq_true_eq]at h0;obtain⟨rfl,hs⟩:=h0;have:=itm_congr (sameB_iff.1 hs);have e:L=M:=by omega
   simp at hk ⊢
   omega
 · rw [if_neg h0] at hK
   by_cases h1:L=1/\(M≠1∨r<q)
   · rw[if_pos h1]at hK;subst hK
     simp at hk ⊢
     omega
   · rw[if_neg h1]at hK
     by_cases h2:M=1
     · rw[if_pos h2]at hK;subst hK
       simp at hk ⊢
       omega
     · rw[if_neg h2]at hK
       split at hK<;>omega
theorem pf_shape{S T:Nat->Int}{r q L M K:Nat}(hS:shB S r=true)(hT:shB T q=true)(h64:In64 S r)(h64':In64 T q)(hL:itm S r=(L:Nat))(hM:itm T q=(M:Nat))(h3:K<3):shB (pfS K S T) (pfN K r q)=true/\In64 (pfS K S T) (pfN K r q)/\itm (pfS K S T) (pfN K r q)=(pfM K L M:Nat):=by
 unfold pfS pfN pfM
 by_cases h1:K=1
 · rw[if_pos h1,if_pos h1,if_pos h1];exact⟨hT,h64',hM⟩
 · rw[if_neg h1,if_neg h1,if_neg h1,if_pos h3];exact⟨hS,h64,hL⟩
theorem ptwo1_any (fv : FuncId) (cap : Array Value) (he : Enters Tryz.prog fv) (D : Nat -> Nat -> Ans) (L M N : Nat) (u v : Bool) (gf g1 g2 : Nat) (w : World) (hf : w.cell? ⟨gf, 0, none⟩ = some (.func (.func fv) #[] cap)) (hf1 : gf < w.heap.size) (h1 : w.cell? ⟨g1, 0, none⟩ = some (.bool u)) (h11 : g1 < w.heap.size) (h2 : w.cell? ⟨g2, 0, none⟩ = some (.bool v)) (h21 : g2 < w.heap.size)
    (hb:∀k,k<N->ppI u k<L/\ppI v k<M) (CL:GGives fv cap D L M w) :
    FGives 86 #[.pointer (some ⟨gf,0,none⟩),.pointer (some ⟨g1,0,none⟩),.pointer (some ⟨g2,0,none⟩)] (fun k=>(D (ppI u k) (ppI v k)).1) (fun k=>(D (ppI u k) (ppI v k)).2.1) (fun k=>(D (ppI u k) (ppI v k)).2.2) N w:=by
 intro wz hz k hlt
 show Calls Tryz.prog 86 #[.int .i64 (k:Nat),.pointer (some ⟨gf,0,none⟩),.pointer (some ⟨g1,0,none⟩),.pointer (some ⟨g2,0,none⟩)] wz _
 have he':=he;unfold Enters at he';obtain⟨b1,b2⟩:=hb k hlt;have PU:=Lib.hid (fun wy=>position_any k u wy);have PV:=Lib.hid (fun wy=>position_any k v wy);have CF:=Lib.hid (fun wy (hb:Below wz.heap.size wz wy)=>CL wy (hz.trans (hb.mono hz.size)) (ppI u k) (ppI v k) b1 b2);unfold ppI at CF;unfold RatTold4 at CF;have x1:=(hz.cell (p:=⟨gf,0,none⟩) hf1).trans hf;have x2:=(hz.cell (p:=⟨g1,0,none⟩) h11).trans h1;have x3:=(hz.cell (p:=⟨g2,0,none⟩) h21).trans h2;have HX:=Lib.hid (fun wy (hb:Below wz.heap.size wz wy)=>(show wy.cell? ⟨gf,0,none⟩=some (.func (.func fv) #[] cap)/\wy.cell? ⟨g1,0,none⟩=some (.bool u)/\wy.cell? ⟨g2,0,none⟩=some (.bool v)from⟨(hb.cell (p:=⟨gf,0,none⟩) (Nat.lt_of_lt_of_le hf1 hz.size)).trans x1,(hb.cell (p:=⟨g1,0,none⟩) (Nat.lt_of_lt_of_le h11 hz.size)).trans x2,(hb.cell (p:=⟨g2,0,none⟩) (Nat.lt_of_lt_of_le h21 hz.size)).trans x3⟩));have BB:=Lib.hid ((Bag.start wz).box3 (.slice none 0 0) (.bool false) (.slice none 0 0) 53);unfold ppI;obtain⟨iu,hiu⟩:∃z,(if u=true then 0 else k)=z:=⟨_,rfl⟩
 obtain⟨iv,hiv⟩:∃z,(if v=true then 0 else k)=z:=⟨_,rfl⟩
 rw[hiu]at PU CF;rw[hiv]at PV CF;simp only[hiu,hiv];obtain⟨TT,hTT⟩:∃z,D iu iv=z:=⟨_,rfl⟩
 rw[hTT]at CF ⊢;obtain⟨oo,uu,ee⟩:=TT
 show Calls _ _ _ _ (fun e w'=>RatTold4 wz w' e oo uu ee)
 clear hf hf1 h1 h11 h2 h21 hb CL hz x1 x2 x3 b1 b2 hiu hiv hTT he;go_enter Tryz.func86,Tryz.ntmps86;go_wp2_with fail;generalize hW:(wz.alloc (.cells _ 53))=YY at *;clear hW
 refine wp_region_inv3 ⟨(fun j=>([[7], [8], [9], [10], [11], [12], [13], [14], [15], [16], [], []]:List (List Nat)).getD j []),(fun j=>([[], [], [], [1,2], [], [], [1,2,3,4,5], [0,1,2,3,4,5,6], [0,1,2,3,4,5,6,7], [0,1,2,3,4,5,6,7], [0,1,2,3,4,5,6,7,8,9], [0,1,2,3,4,5,6,7,8,9,10]]:List (List Nat)).getD j []), []⟩ 10 (fun jj vv yy=>match jj with|0=>vv = [some (.func (.func fv) #[] cap)]|1=>vv = [some (.int .i64 k)]|2=>vv = [some (.bool u)]|3=>vv = [some (.int .i64 iu)]|4=>vv = [some (.int .i64 k)]|5=>vv = [some (.bool v)]|6=>vv = [some (.int .i64 iv)]|7=>∃(a7:Option Addr),∃(n7:Nat),∃(c7:Nat),∃(m7:Bool),∃(b7:Option Addr),∃(k7:Nat),∃(l7:Nat),vv = [some (.tuple #[.agg #[.slice a7 n7 c7,.bool m7,.slice b7 k7 l7],.int .i64 ee])]/\RatAt yy a7 n7 c7 m7 b7 k7 l7 oo uu|8=>∃(a7:Option Addr),∃(n7:Nat),∃(c7:Nat),∃(m7:Bool),∃(b7:Option Addr),∃(k7:Nat),∃(l7:Nat),vv = [some (.agg #[.slice a7 n7 c7,.bool m7,.slice b7 k7 l7])]/\RatAt yy a7 n7 c7 m7 b7 k7 l7 oo uu|9=>vv = [some (.int .i64 ee)]|_=>True) (Bag YY (fun _=>True)) (by kernel_rfl) (by kernel_rfl) (by kernel_rfl) (by kernel_rfl) (Bag.start YY).drew ?_ ?_ ?_
 · intro jj vv yw yw2 hb h
   match jj,h with
   | 0,h=>exact h
   | 1,h=>exact h
   | 2,h=>exact h
   | 3,h=>exact h
   | 4,h=>exact h
   | 5,h=>exact h
   | 6,h=>exact h
   | 7,⟨a7,n7,c7,m7,b7,k7,l7,e7,g7_0⟩=>exact Exists.intro a7 (Exists.intro n7 (Exists.intro c7 (Exists.intro m7 (Exists.intro b7 (Exists.intro k7 (Exists.intro l7 (And.intro e7 (g7_0.below hb))))))))
   | 8,⟨a7,n7,c7,m7,b7,k7,l7,e8,g8_0⟩=>exact Exists.intro a7 (Exists.intro n7 (Exists.intro c7 (Exists.intro m7 (Exists.intro b7 (Exists.intro k7 (Exists.intro l7 (And.intro e8 (g8_0.below hb))))))))
   | 9,h=>exact h
   | _+10,h=>exact h
 · intro ac yw hsz hdf hold hB hp;obtain⟨a7,n7,c7,m7,b7,k7,l7,e8,g8⟩:=hp 8 (by decide);have t15:ac.tmps[15]? = some (.agg #[.slice a7 n7 c7,.bool m7,.slice b7 k7 l7]):=(List.cons.inj e8).1;have t16:ac.tmps[16]? = some (.int .i64 ee):=(List.cons.inj (hp 9 (by decide))).1;have t5:ac.tmps[5]? = some (.pointer (some ⟨wz.heap.size,0,none⟩)):=hold 5 (by kernel_rfl);have BC:=Lib.hid (BB.out.go hB.below);have hs:=BC.out.now.1;have⟨u0,u1,u2,f0,f1,f2⟩:=hs.s6;have HS:=hs.set (.slice a7 n7 c7) (.bool m7) (.slice b7 k7 l7);have HE:=Lib.hid (RatTold4.done ee BC.out.below (Nat.le_refl _) hs g8);clear hold hp e8 g8 hs hB;obtain⟨TV,hTV⟩:∃TV:Nat->Value,∀i,(ac.tmps[i]?).getD undef=TV i:=⟨_,fun _=>rfl⟩
   have f5:=(hTV 5).symm.trans (congrArg (fun x=>Option.getD x undef) t5);have f15:=(hTV 15).symm.trans (congrArg (fun x=>Option.getD x undef) t15);have f16:=(hTV 16).symm.trans (congrArg (fun x=>Option.getD x undef) t16);have hac:=act_eq (n:=17) hsz TV hTV;rw[show((List.range 17).map TV).toArray=#[TV 0,TV 1,TV 2,TV 3,TV 4,TV 5,TV 6,TV 7,TV 8,TV 9,TV 10,TV 11,TV 12,TV 13,TV 14,TV 15,TV 16]from rfl,f5,f15,f16,hdf]at hac;simp only[Option.getD_some]at hac;subst hac;clear hTV f5 f15 f16;refine TailWp.step rfl ?_;intro K hK;go_simp;refine hK.out _ _ ?_;refine TailWp.step rfl ?_;intro K hK;go_simp;refine hK.out _ _ ?_;refine TailWp.end rfl ?_;go_wp2;exact bodyPost_ret (by simp[results,Tryz.results86,go_sem,HS]) rfl HE.out
 refine Stps2.cons (o:=_) ?_ ?_
 · intro ac yw hsz hold hB hp K hK;have t1:ac.tmps[1]? = some (.pointer (some ⟨gf,0,none⟩)):=hold 1 (by kernel_rfl);clear hold hp hsz;have v0:=(HX.out _ (BB.out.go hB.below).below).1;have v1:=(HX.out _ (BB.out.go hB.below).below).2.1;have v2:=(HX.out _ (BB.out.go hB.below).below).2.2;go_simp;exact hK.out _ _ ⟨hB,rfl,Nat.le_refl _,.inl (Below.refl _ _),fun h=>absurd h (by decide)⟩
 refine Stps2.cons (o:=_) ?_ ?_
 · intro ac yw hsz hold hB hp K hK;have t0:ac.tmps[0]? = some (.int .i64 k):=hold 0 (by kernel_rfl);clear hold hp hsz;go_simp;exact hK.out _ _ ⟨hB,rfl,Nat.le_refl _,.inl (Below.refl _ _),fun h=>absurd h (by decide)⟩
 refine Stps2.cons (o:=_) ?_ ?_
 · intro ac yw hsz hold hB hp K hK;have t2:ac.tmps[2]? = some (.pointer (some ⟨g1,0,none⟩)):=hold 2 (by kernel_rfl);clear hold hp hsz;have v0:=(HX.out _ (BB.out.go hB.below).below).1;have v1:=(HX.out _ (BB.out.go hB.below).below).2.1;have v2:=(HX.out _ (BB.out.go hB.below).below).2.2;go_simp;exact hK.out _ _ ⟨hB,rfl,Nat.le_refl _,.inl (Below.refl _ _),fun h=>absurd h (by decide)⟩
 refine Stps2.cons (o:=_) ?_ ?_
 · intro ac yw hsz hold hB hp K hK;have e1:=hp 1 (by decide);have t8:ac.tmps[8]? = some (.int .i64 k):=(List.cons.inj e1).1;have e2:=hp 2 (by decide);have t9:ac.tmps[9]? = some (.bool u):=(List.cons.inj e2).1;clear hold hp hsz e1 e2;go_simp
   (go_at_call 87;(with_reducible refine(PU.out _).mono ?_);rintro e wz ⟨rfl,rfl⟩;have hbz:=Below.refl yw.heap.size yw)
   exact hK.out _ _ ⟨hB.go hbz,rfl,hbz.size,.inl hbz,fun h=>absurd h (by decide)⟩
 refine Stps2.cons (o:=_) ?_ ?_
 · intro ac yw hsz hold hB hp K hK;have t0:ac.tmps[0]? = some (.int .i64 k):=hold 0 (by kernel_rfl);clear hold hp hsz;go_simp;exact hK.out _ _ ⟨hB,rfl,Nat.le_refl _,.inl (Below.refl _ _),fun h=>absurd h (by decide)⟩
 refine Stps2.cons (o:=_) ?_ ?_
 · intro ac yw hsz hold hB hp K hK;have t3:ac.tmps[3]? = some (.pointer (some ⟨g2,0,none⟩)):=hold 3 (by kernel_rfl);clear hold hp hsz;have v0:=(HX.out _ (BB.out.go hB.below).below).1;have v1:=(HX.out _ (BB.out.go hB.below).below).2.1;have v2:=(HX.out _ (BB.out.go hB.below).below).2.2;go_simp;exact hK.out _ _ ⟨hB,rfl,Nat.le_refl _,.inl (Below.refl _ _),fun h=>absurd h (by decide)⟩
 refine Stps2.cons (o:=_) ?_ ?_
 · intro ac yw hsz hold hB hp K hK;have e4:=hp 4 (by decide);have t11:ac.tmps[11]? = some (.int .i64 k):=(List.cons.inj e4).1;have e5:=hp 5 (by decide);have t12:ac.tmps[12]? = some (.bool v):=(List.cons.inj e5).1;clear hold hp hsz e4 e5;go_simp
   (go_at_call 87;(with_reducible refine(PV.out _).mono ?_);rintro e wz ⟨rfl,rfl⟩;have hbz:=Below.refl yw.heap.size yw)
   exact hK.out _ _ ⟨hB.go hbz,rfl,hbz.size,.inl hbz,fun h=>absurd h (by decide)⟩
 refine Stps2.cons (o:=_) ?_ ?_
 · intro ac yw hsz hold hB hp K hK;have e0:=hp 0 (by decide);have t7:ac.tmps[7]? = some (.func (.func fv) #[] cap):=(List.cons.inj e0).1;have e3:=hp 3 (by decide);have t10:ac.tmps[10]? = some (.int .i64 iu):=(List.cons.inj e3).1;have e6:=hp 6 (by decide);have t13:ac.tmps[13]? = some (.int .i64 iv):=(List.cons.inj e6).1;clear hold hp hsz e0 e3 e6;go_simp
   (go_at_fn fv;(refine(CF.out _ (BB.out.go hB.below).below).mono ?_);rintro e wz ⟨a7,n7,c7,m7,b7,k7,l7,rfl,h7_0,hbz⟩)
   exact hK.out _ _ ⟨hB.go hbz,Exists.intro a7 (Exists.intro n7 (Exists.intro c7 (Exists.intro m7 (Exists.intro b7 (Exists.intro k7 (Exists.intro l7 (And.intro rfl h7_0))))))),hbz.size,.inl hbz,fun h=>absurd h (by decide)⟩
 refine Stps2.cons (o:=_) ?_ ?_
 · intro ac yw hsz hold hB hp K hK;obtain⟨a7_7,n7_7,c7_7,m7_7,b7_7,k7_7,l7_7,e7,g7_0⟩:=hp 7 (by decide);have t14:ac.tmps[14]? = some (.tuple #[.agg #[.slice a7_7 n7_7 c7_7,.bool m7_7,.slice b7_7 k7_7 l7_7],.int .i64 ee]):=(List.cons.inj e7).1;clear hold hp hsz e7;go_simp;exact hK.out _ _ ⟨hB,Exists.intro a7_7 (Exists.intro n7_7 (Exists.intro c7_7 (Exists.intro m7_7 (Exists.intro b7_7 (Exists.intro k7_7 (Exists.intro l7_7 (And.intro rfl g7_0))))))),Nat.le_refl _,.inl (Below.refl _ _),fun h=>absurd h (by decide)⟩
 refine Stps2.cons (o:=_) ?_ ?_
 · intro ac yw hsz hold hB hp K hK;obtain⟨a7_7,n7_7,c7_7,m7_7,b7_7,k7_7,l7_7,e7,g7_0⟩:=hp 7 (by decide);have t14:ac.tmps[14]? = some (.tuple #[.agg #[.slice a7_7 n7_7 c7_7,.bool m7_7,.slice b7_7 k7_7 l7_7],.int .i64 ee]):=(List.cons.inj e7).1;clear hold hp hsz e7;go_simp;exact hK.out _ _ ⟨hB,rfl,Nat.le_refl _,.inl (Below.refl _ _),fun h=>absurd h (by decide)⟩
 exact Stps2.nil _
def ptE(c0:Int)(K N:Nat)(D:Nat->Nat->Ans):Int:=if hasD c0=false then 20 else if pfE K≠0 then pfE K else feE (fun k=>(D (ppI (decide (K=1)) k) (ppI (decide (K=2)) k)).2.2) N
theorem at_st(x y:Operand){P:Program}{ops:Array Oper}{Q:Exit->Act->World->Prop}{t2 t:TypeId}{p:String}{af:Array Edge}{g:Option (Nat × Bool)}{rest:List Oper}{a:Act}{w:World}(h:wpList P ops Q (⟨none,.store t2 x y,t,p,af,g⟩::rest) a w):wpList P ops Q (⟨none,.store t2 x y,t,p,af,g⟩::rest) a w:=h
theorem ptwo_any (c0 lm : Int) (D : Nat -> Nat -> Ans) (cs : Array Value) (S : Nat -> Int) (r : Nat) (ch : Bool) (L : Nat) (g fP : Nat -> Int) (fQ : Nat -> Nat) (cs2 : Array Value) (T : Nat -> Int) (q : Nat) (ch2 : Bool) (M : Nat) (g2 fP2 : Nat -> Int) (fQ2 : Nat -> Nat) (g' : Nat -> Int) (w : World) (h : Arr w cs S r ch L g fP fQ) (h2 : Arr w cs2 T q ch2 M g2 fP2 fQ2) (hD : ch = false -> ch2 = false -> TwosTo c0 lm D L M fP fQ fP2 fQ2) (hr : r <= 8) (hq : q <= 8) (hS : shB S r = true) (hT : shB T q = true) (h64 : In64 S r) (h64' : In64 T q) (hL : itm S r = (L : Nat)) (hM : itm T q = (M : Nat)) (K : Nat) (hK : pfK S r L T q M = K) :
    Calls Tryz.prog 27 #[.int .i32 c0,.agg cs,.agg cs2,.int .i64 lm] w fun e w'=>MoTold (ptE c0 K (pfM K L M) (elT c0 ch ch2 g g2 D)) (pfS K S T) (pfN K r q) false (pfM K L M) g' (fun k=>(elT c0 ch ch2 g g2 D (ppI (decide (K=1)) k) (ppI (decide (K=2)) k)).1) (fun k=>(elT c0 ch ch2 g g2 D (ppI (decide (K=1)) k) (ppI (decide (K=2)) k)).2.1) w w' e:=by
 have H0:=Lib.hid h;have H1:=Lib.hid h2;obtain⟨na,nn,nc,ta,tn,tc,hcs,_⟩:=h.form;subst hcs;obtain⟨na2,nn2,nc2,ta2,tn2,tc2,hcs2,_⟩:=h2.form;subst hcs2;have HA:=Lib.hid (fun wz=>dhas_any c0 wz);have FI:=Lib.hid (fun wz q1 q2=>fit_any (arrC ch ((r:Int)-1) (dm S r) na nn nc ta tn tc) S r ch L g fP fQ (arrC ch2 ((q:Int)-1) (dm T q) na2 nn2 nc2 ta2 tn2 tc2) T q ch2 M g2 fP2 fQ2 wz q1 q2 hr hq);rw[hK]at FI;have OE:=Lib.hid (fun wz q1 q2=>onElements_any c0 lm D (arrC ch ((r:Int)-1) (dm S r) na nn nc ta tn tc) S r ch L g fP fQ (arrC ch2 ((q:Int)-1) (dm T q) na2 nn2 nc2 ta2 tn2 tc2) T q ch2 M g2 fP2 fQ2 wz q1 q2 hD);obtain⟨DD,hDD⟩:∃z,elT c0 ch ch2 g g2 D=z:=⟨_,rfl⟩
 rw[hDD]at OE ⊢;obtain⟨uP,hP⟩:∃f,(fun k=>(DD (ppI (decide (K=1)) k) (ppI (decide (K=2)) k)).1)=f:=⟨_,rfl⟩
 obtain⟨uQ,hQ⟩:∃f,(fun k=>(DD (ppI (decide (K=1)) k) (ppI (decide (K=2)) k)).2.1)=f:=⟨_,rfl⟩
 obtain⟨uE,hEE⟩:∃f,(fun k=>(DD (ppI (decide (K=1)) k) (ppI (decide (K=2)) k)).2.2)=f:=⟨_,rfl⟩
 have hON:ptE c0 K (pfM K L M) DD=if hasD c0=false then 20 else if pfE K≠0 then pfE K else feE uE (pfM K L M):=by rw[← hEE];rfl
 rw[hP,hQ,hON]
 have h3:pfE K=0->K<3:=fun e=>by
  unfold pfE at e
  by_cases h:K<3
  · exact h
  · rw[if_neg h]at e
    split at e<;>omega
 have GV:=Lib.hid (fun fv cap gf g1 g3 wz (h0:pfE K=0) (he:Enters Tryz.prog fv) (hf:wz.cell? ⟨gf,0,none⟩=some (.func (.func fv) #[] cap)) (hf1:gf<wz.heap.size) (k1:wz.cell? ⟨g1,0,none⟩=some (.bool (decide (K=1)))) (k11:g1<wz.heap.size) (k2:wz.cell? ⟨g3,0,none⟩=some (.bool (decide (K=2)))) (k21:g3<wz.heap.size) (CL:GGives fv cap DD L M wz) =>
  (show FGives 86 #[.pointer (some ⟨gf,0,none⟩),.pointer (some ⟨g1,0,none⟩),.pointer (some ⟨g3,0,none⟩)] uP uQ uE (pfM K L M) wz by
    subst hP hQ hEE
    exact ptwo1_any fv cap he DD L M (pfM K L M) _ _ gf g1 g3 wz hf hf1 k1 k11 k2 k21 (pf_bd hL hM hK (h3 h0)) CL))
 have FL:=Lib.hid (fun sa sc gf g1 g3 wz (h0:pfE K=0) (k:KRow wz .i64 sa (pfN K r q) sc (pfS K S T)) (z:FGives 86 #[.pointer (some ⟨gf,0,none⟩),.pointer (some ⟨g1,0,none⟩),.pointer (some ⟨g3,0,none⟩)] uP uQ uE (pfM K L M) wz)=>(filled_any _ _ ent_ptwo1 sa (pfN K r q) sc (pfS K S T) (pfM K L M) uP uQ uE g' wz k (pf_shape hS hT h64 h64' hL hM (h3 h0)).2.1 (pf_shape hS hT h64 h64' hL hM (h3 h0)).1 (pf_shape hS hT h64 h64' hL hM (h3 h0)).2.2 z).mono (fun _ _ y=>y.res));unfold FitTold at FI;unfold GTold at OE;obtain⟨EX,hEX⟩:∃z,(if hasD c0=false then(20:Int)else if pfE K≠0 then pfE K else feE uE (pfM K L M))=z:=⟨_,rfl⟩
 rw[hEX];have HXX:=Lib.hid hEX;have BB:=Lib.hid ((((Bag.start w).newRow (arrC ch ((r:Int)-1) (dm S r) na nn nc ta tn tc) 36).newRow (arrC ch2 ((q:Int)-1) (dm T q) na2 nn2 nc2 ta2 tn2 tc2) 36).newRow zerC 36);simp only[World.size_alloc]at BB;clear h h2 hD hr hq hS hT h64 h64' hL hM hK hDD hP hQ hEE hON h3 hEX;generalize pfS K S T=uS at *;generalize pfN K r q=uN at *;generalize pfM K L M=uM at *;generalize pfE K=FE at *;obtain⟨u1,hu1⟩:∃b,decide (K=1)=b:=⟨_,rfl⟩
 obtain⟨u2,hu2⟩:∃b,decide (K=2)=b:=⟨_,rfl⟩
 rw[hu1,hu2]at FI GV;clear hu1 hu2;unfold arrC;go_enter Tryz.func27,Tryz.ntmps27;go_wp2_with fail;go_at_call 19
 (refine(HA.out _).mono ?_)
 rintro e w2 ⟨rfl,hb2⟩;have BB:=bgo BB hb2;clear hb2 HA
 cases hb:hasD c0 with
 | false =>
  have HEX:Hid (EX=20):=Lib.hid (by rw[← HXX.out,hb];rfl);have HNE:Hid ((20:Int)≠0):=Lib.hid (by decide);clear hb;have HR:=Lib.hid BB.out.now.1;have HE:=Lib.hid (MoTold.of HEX.out (MoTold.no (E:=20) (S:=uS) (r:=uN) (ch:=false) (L:=uM) (g:=g') (fP:=uP) (fQ:=uQ) HNE.out (below_put BB.out.below (show w.heap.size<=w.heap.size+1+1 by omega) zerC)));clear HXX
  go_wp2_with (with_reducible refine at_st (.tmp 8) (.tmp 18) ?_;refine st_arr rfl (.tmp 8) (.tmp 18) rfl (w.heap.size+1+1) rfl false 0 (fun _=>0) none 0 0 none 0 0 rfl HR.out rfl ?_)
  exact bodyPost_ret (res_arr2 Tryz.results27 rfl rfl (HR.out.put _) rfl) rfl HE.out
 | true =>
  have HR0:=Lib.hid BB.out.now.2.2.1;have HR1:=Lib.hid BB.out.now.2.1
  go_wp2_with (first
   | (with_reducible refine at_op 20 ?_;refine ld_arr rfl (.tmp 5) rfl w.heap.size rfl HR0.out ?_)
   | (with_reducible refine at_op 21 ?_;refine ld_arr rfl (.tmp 6) rfl (w.heap.size+1) rfl HR1.out ?_))
  go_at_call 29
  (refine(FI.out _ (H0.out.below BB.out.below) (H1.out.below BB.out.below)).mono ?_)
  rintro e w3 ⟨sa,sc,rfl,hk3,hb3⟩;have BB:=bgo BB hb3;have HK:=Lib.hid hk3;have hl3:=hk3.len;clear hb3 hk3 HR0 HR1 FI
  by_cases h0:FE=0
  · have dE:(FE != 0)=false:=by rw[h0];rfl
    have HEX:Hid (EX=feE uE uM):=Lib.hid (by rw[← HXX.out,hb,h0];rfl);have H0E:=Lib.hid h0;clear hb h0 HXX;have BC:=Lib.hid ((BB.out.box (.bool u1) 4).box (.bool u2) 4);simp only[World.size_alloc]at BC;have HR0:=Lib.hid BC.out.now.2.2.2.2.1;have HR1:=Lib.hid BC.out.now.2.2.2.1
    go_wp2_with (first
     | (with_reducible refine at_op 32 ?_;refine ld_arr rfl (.tmp 5) rfl w.heap.size rfl HR0.out ?_)
     | (with_reducible refine at_op 33 ?_;refine ld_arr rfl (.tmp 6) rfl (w.heap.size+1) rfl HR1.out ?_))
    go_at_call 85
    (refine(OE.out _ (H0.out.below BC.out.below) (H1.out.below BC.out.below)).mono ?_)
    rintro e w4 ⟨⟨fv,cap,rfl,hen,hgg⟩,hb4⟩;have BD:=Lib.hid ((BC.out.go hb4).box (.func (.func fv) #[] cap) 124);have HK:=Lib.hid (((HK.out.below ((Below.refl _ _).alloc (Nat.le_refl _) (.cells #[.bool u1] 4))).below ((Below.refl _ _).alloc (Nat.le_refl _) (.cells #[.bool u2] 4))).below hb4);have HK:=Lib.hid (HK.out.below ((Below.refl _ _).alloc (Nat.le_refl _) (.cells #[.func (.func fv) #[] cap] 124)));have HG:=Lib.hid (GV.out fv cap w4.heap.size w3.heap.size (w3.heap.size+1) _ H0E.out hen BD.out.now.1.cell BD.out.now.1.lt BD.out.now.2.2.1.cell BD.out.now.2.2.1.lt BD.out.now.2.1.cell BD.out.now.2.1.lt (hgg.below ((Below.refl _ _).alloc (Nat.le_refl _) _)));clear hb4 hen hgg HR0 HR1 OE GV BC;go_wp2_with fail;go_at_call 79
    (refine(FL.out _ _ _ _ _ _ H0E.out HK.out HG.out).mono ?_)
    rintro e w5 ⟨x,rfl,hx,hb5⟩;have BB:=Lib.hid (BD.out.go hb5);have HR:=Lib.hid BB.out.now.2.2.2.1;have HX:=Lib.hid hx;generalize feE uE uM=EE at *;clear hb5 hx HG FL HK BD
    go_wp2_with (refine stA rfl (.tmp 8) (.tmp 39) rfl (w.heap.size+1+1) rfl x rfl HX.out.1 HR.out IsA.zer ?_)
    have HE:=Lib.hid (MoTold.of HEX.out ((HX.out.store HR.out IsA.zer x).told (below_put BB.out.below (show w.heap.size<=w.heap.size+1+1 by omega) x)));exact bodyPost_ret (res_arr2 Tryz.results27 rfl rfl (HR.out.put _) HX.out.1.size) rfl HE.out
  · have dE:(FE != 0)=true:=bne_iff_ne.2 h0;have HEX:Hid (EX=FE):=Lib.hid (by rw[← HXX.out,hb];exact(if_neg (by decide)).trans (if_pos h0));have HNE:Hid (FE≠0):=Lib.hid h0;clear hb h0;have BB:=Lib.hid ((BB.out.box (.bool u1) 4).box (.bool u2) 4);have BB:=Lib.hid (show Bag w (fun y=>Row y (w.heap.size+1+1) 36 zerC/\True) _ from⟨BB.out.below,fun a b hb q=>⟨q.1.below hb,trivial⟩,BB.out.now.2.2.1,trivial⟩);have HR:=Lib.hid BB.out.now.1;have HE:=Lib.hid (MoTold.of HEX.out (MoTold.no (E:=FE) (S:=uS) (r:=uN) (ch:=false) (L:=uM) (g:=g') (fP:=uP) (fQ:=uQ) HNE.out (below_put BB.out.below (show w.heap.size<=w.heap.size+1+1 by omega) zerC)));clear HXX
    go_wp2_with (with_reducible refine at_st (.tmp 8) (.tmp 29) ?_;refine st_arr rfl (.tmp 8) (.tmp 29) rfl (w.heap.size+1+1) rfl false 0 (fun _=>0) none 0 0 none 0 0 rfl HR.out rfl ?_)
    exact bodyPost_ret (res_arr2 Tryz.results27 rfl rfl (HR.out.put _) rfl) rfl HE.out
set_option linter.unusedVariables false
set_option linter.unusedSimpArgs false
theorem IntsAt.set2o {w : World} {k b : Nat} {a0 : Option Addr} {n0 c0 : Nat} {m0 : Bool} {n c : Nat} {f : Nat -> Int} (h : IntsAt w (some ⟨b, 0, none⟩) n c f) (e : b ≠ k)
    (hs:Slot2 w k (.slice a0 n0 c0) (.bool m0)) (u v:Value):IntsAt ((w.setCell ⟨k,0,none⟩ u).setCell ⟨k,1,none⟩ v) (some ⟨b,0,none⟩) n c f:=by
 obtain⟨h0,h1,h2⟩:=h;refine⟨h0,h1,?_⟩
 rcases h2 with h2|⟨b',off,he,hl,hc⟩
 · exact .inl h2
 · cases he
   refine .inr ⟨b,0,rfl,by simpa using hl,fun j hj => ?_⟩;obtain⟨a',n',c',m',e1,e2,hr⟩:=hc j hj;have hn:∀o o':Nat,(⟨k,o,none⟩:Addr)≠⟨b,o',none⟩:=fun o o' h=>e (by cases h;rfl)
   refine⟨a',n',c',m',?_,?_,hr.set2b hs _ _⟩ <;>
    (rw[World.cell?_setCell_other _ _ _ _ (hn _ _),World.cell?_setCell_other _ _ _ _ (hn _ _)];assumption)
theorem RatAt.set2{w:World}{k:Nat}{a0:Option Addr}{n0 c0:Nat}{m0:Bool}{a:Option Addr}{n c:Nat}{m:Bool}{a2:Option Addr}{n2 c2:Nat}{P:Int}{Q:Nat}(q:RatAt w a n c m a2 n2 c2 P Q)(h:Slot2 w k (.slice a0 n0 c0) (.bool m0))(u v:Value):RatAt ((w.setCell ⟨k,0,none⟩ u).setCell ⟨k,1,none⟩ v) a n c m a2 n2 c2 P Q :=
 ⟨q.1.set2b h u v,q.2.set2b h (fun _ _ h=>by cases h) (fun _ _ h=>by cases h) u v⟩
abbrev WYP(W8 W9 W12 W14:Nat)(ea:Option Addr)(en ec:Nat)(em:Bool)(rr:Int)(wa:Option Addr)(wn wc:Nat)(wm:Bool)(V:Int)(ca:Option Addr)(cn cc:Nat)(cm:Bool)(I:Int)(f:Nat->Bool)(y:World):Prop :=
 (f 13=false->Slot2 y W12 (.slice wa wn wc) (.bool wm))/\(∃x0 y0 z0 b0,Slot2 y W12 (.slice x0 y0 z0) (.bool b0))/\Slot2 y W14 (.slice ca cn cc) (.bool cm)/\IntAt y ca cn cc cm I/\IntAt y wa wn wc wm V/\IntAt y ea en ec em rr/\Slot2 y W9 (.slice ea en ec) (.bool em)/\Slot3 y W8 (.slice none 0 0) (.bool false) (.slice none 0 0)
theorem WYP.below{W8 W9 W12 W14:Nat}{ea:Option Addr}{en ec:Nat}{em:Bool}{rr:Int}{wa:Option Addr}{wn wc:Nat}{wm:Bool}{V:Int}{ca:Option Addr}{cn cc:Nat}{cm:Bool}{I:Int}{f:Nat->Bool}(y y':World)(hb:Below y.heap.size y y')(h:WYP W8 W9 W12 W14 ea en ec em rr wa wn wc wm V ca cn cc cm I f y):WYP W8 W9 W12 W14 ea en ec em rr wa wn wc wm V ca cn cc cm I f y':=by
 obtain⟨h1,⟨x0,y0,z0,b0,h2⟩,h3,h4,h5,h6,h7,h8⟩:=h;exact⟨fun e=>(h1 e).below hb,⟨x0,y0,z0,b0,h2.below hb⟩,h3.below hb,h4.below hb,h5.below hb,h6.below hb,h7.below hb,h8.below hb⟩
theorem WYP.put {w : World} {W8 W9 W12 W14 : Nat} {ea : Option Addr} {en ec : Nat} {em : Bool} {rr : Int} {wa : Option Addr} {wn wc : Nat} {wm : Bool} {V : Int} {ca : Option Addr} {cn cc : Nat} {cm : Bool} {I : Int} {f : Nat -> Bool} {y : World} (h : Bag w (WYP W8 W9 W12 W14 ea en ec em rr wa wn wc wm V ca cn cc cm I f) y)
    {x0:Option Addr} {y0 z0:Nat} {b0:Bool} (s:Slot2 y W12 (.slice x0 y0 z0) (.bool b0)) (hw:w.heap.size<=W12) (h8:W8≠W12) (h9:W9≠W12) (h14:W14≠W12) (a n c m):Bag w (WYP W8 W9 W12 W14 ea en ec em rr wa wn wc wm V ca cn cc cm I (upd f 13)) ((y.setCell ⟨W12,0,none⟩ (.slice a n c)).setCell ⟨W12,1,none⟩ (.bool m)):=by
 obtain⟨h1,_,h3,h4,h5,h6,h7,h10⟩:=h.now
 exact⟨(h.below.setCell (p:=⟨W12,0,none⟩) hw _).setCell (p:=⟨W12,1,none⟩) hw _,fun _ _ hb q=>WYP.below _ _ hb q,
  fun e=>by simp[upd]at e,⟨a,n,c,m,s.set2 _ _⟩,h3.set2o h14 _ _,h4.set2b s _ _,h5.set2b s _ _,h6.set2b s _ _,h7.set2o h9 _ _,h10.set2o h8 _ _⟩
set_option linter.unusedVariables false
set_option linter.unusedSimpArgs false
theorem dcomp_plus (a : Option Addr) (n c : Nat) (m : Bool) (a2 : Option Addr) (n2 c2 : Nat) (P : Int) (Q : Nat) (b : Option Addr) (k l : Nat) (v : Bool) (b2 : Option Addr) (k2 l2 : Nat) (P' : Int) (Q' : Nat) (lm : Int) (w : World) (h : RatAt w a n c m a2 n2 c2 P Q) (g : RatAt w b k l v b2 k2 l2 P' Q') (hQ : 0 < Q) (hQ' : 0 < Q') (K : Nat) (hK : K <= 20000) (h1 : P.natAbs < 4294967296 ^ K) (h2 : Q < 4294967296 ^ K) (h3 : P'.natAbs < 4294967296 ^ K) (h4 : Q' < 4294967296 ^ K) :
    Calls Tryz.prog 125 #[.int .i32 43,.agg #[.slice a n c,.bool m,.slice a2 n2 c2],.agg #[.slice b k l,.bool v,.slice b2 k2 l2],.int .i64 lm] w fun e w'=>RatTold4 w w' e (plP P Q P' Q') (plQ P Q P' Q') 0:=by
 have PL:=Lib.hid (fun sa wz (h:RatAt wz a n c m a2 n2 c2 P Q) (g:RatsAt wz sa 1 1 (fun _=>P') (fun _=>Q'))=>ratPlus1_any a n c m a2 n2 c2 P Q sa P' Q' wz h g hQ hQ' K (by omega) h1 h2 h3 h4);generalize (plP P Q P' Q')=Z1 at *;generalize (plQ P Q P' Q')=Z2 at *;clear hQ hQ' hK h1 h2 h3 h4;have BB:=bagR h g;have⟨q00,q01,q02,q10,q11,q12⟩:=bq0 BB;go_enter Tryz.func125,Tryz.ntmps125;go_wp2_with fail;go_at_call 178
 refine(PL.out _ _ ?_ ?_).mono ?_
 · exact(BB.out.alloc _).now.2.2.2.2.1
 · exact RatsAt.old1 (Below.refl _ _) (by simp) (BB.out.alloc _).now.2.2.2.1
 rintro e w1 ⟨x1,xn1,xc1,xm1,y1,yn1,yc1,rfl,hr1,hb1⟩;have BB:=Lib.hid ((BB.out.alloc _).go hb1);clear hb1;clear q00 q01 q02 q10 q11 q12;have⟨q00,q01,q02,q10,q11,q12⟩:=bq0 BB;have hs:=BB.out.now.1;have⟨u0,u1,u2,g0,g1,g2⟩:=hs.s6;have HS:=hs.set (.slice x1 xn1 xc1) (.bool xm1) (.slice y1 yn1 yc1);have HE:=Lib.hid (RatTold4.done 0 BB.out.below (by omega) hs hr1);clear hs;go_wp2;exact bodyPost_ret (by simp[results,Tryz.results125,go_sem,HS]) rfl HE.out
theorem numT_43(P:Int)(Q:Nat)(P':Int)(Q':Nat)(l:Int):numT 43 P Q P' Q' l=(plP P Q P' Q',plQ P Q P' Q',0):=by unfold numT;simp
theorem dlimited_plus (a : Option Addr) (n c : Nat) (m : Bool) (a2 : Option Addr) (n2 c2 : Nat) (P : Int) (Q : Nat) (b : Option Addr) (k l : Nat) (v : Bool) (b2 : Option Addr) (k2 l2 : Nat) (P' : Int) (Q' : Nat) (lm : Int) (w : World) (h : RatAt w a n c m a2 n2 c2 P Q) (g : RatAt w b k l v b2 k2 l2 P' Q') (hQ : 0 < Q) (hQ' : 0 < Q') (K : Nat) (hK : K <= 20000) (h1 : P.natAbs < 4294967296 ^ K) (h2 : Q < 4294967296 ^ K) (h3 : P'.natAbs < 4294967296 ^ K) (h4 : Q' < 4294967296 ^ K) (hm : 1 <= lm /\ lm <= 64) :
    Calls Tryz.prog 63 #[.int .i32 43,.agg #[.slice a n c,.bool m,.slice a2 n2 c2],.agg #[.slice b k l,.bool v,.slice b2 k2 l2],.int .i64 lm] w fun e w'=>RatTold4 w w' e (lim3 lm (numT 43 P Q P' Q' lm)).1 (lim3 lm (numT 43 P Q P' Q' lm)).2.1 (lim3 lm (numT 43 P Q P' Q' lm)).2.2:=by
 have CN:=Lib.hid (fun wz (h:RatAt wz a n c m a2 n2 c2 P Q) (g:RatAt wz b k l v b2 k2 l2 P' Q')=>(show Calls Tryz.prog 125 #[.int .i32 43,.agg #[.slice a n c,.bool m,.slice a2 n2 c2],.agg #[.slice b k l,.bool v,.slice b2 k2 l2],.int .i64 lm] wz fun e w'=>∃t:Ans,RatTold4 wz w' e t.1 t.2.1 t.2.2/\Good3 lm t (numT 43 P Q P' Q' lm)from
  (dcomp_plus a n c m a2 n2 c2 P Q b k l v b2 k2 l2 P' Q' lm wz h g hQ hQ' K (by omega) h1 h2 h3 h4).mono (fun _ _ q=>⟨(plP P Q P' Q',plQ P Q P' Q',0),q,plQ_pos P P' hQ hQ',by rw[numT_43]⟩)))
 unfold Good3 RatTold4 at CN;obtain⟨NT,hNT⟩:∃z,(lim3 lm (numT 43 P Q P' Q' lm))=z:=⟨_,rfl⟩
 rw[hNT]at CN ⊢;have hmin:min lm 64=lm:=by omega
 clear hQ hQ' hK h1 h2 h3 h4 hm hNT;have BB:=bagR h g;have⟨q00,q01,q02,q10,q11,q12⟩:=bq0 BB;go_enter Tryz.func63,Tryz.ntmps63;go_wp2_with fail;go_at_call 125;refine(CN.out _ BB.out.now.2.2.2.2.1 BB.out.now.2.2.2.1).mono ?_;rintro e w1 ⟨⟨Z1,Z2,Z3⟩,⟨x1,xn1,xc1,xm1,y1,yn1,yc1,rfl,hr1,hb1⟩,hq,he⟩;have BB:=Lib.hid (((BB.out.go hb1).rat hr1).box3 (.slice x1 xn1 xc1) (.bool xm1) (.slice y1 yn1 yc1) 53);clear hb1;clear hr1;clear q00 q01 q02 q10 q11 q12;have⟨q00,q01,q02⟩:=BB.out.now.2.2.2.2.1.c3;have⟨q10,q11,q12⟩:=BB.out.now.2.2.2.1.c3;have⟨q20,q21,q22⟩:=BB.out.now.1.c3
 by_cases h0:Z3≠0
 · have e0:=lim3_no (l:=lm) (p:=Z1) (q:=Z2) h0;have dE:(Z3 != 0)=true:=bne_iff_ne.2 h0;rw[e0]at he;subst he;clear e0 h0 hq;have hs:=BB.out.now.2.2.1;have⟨u0,u1,u2,g0,g1,g2⟩:=hs.s6;have HS:=hs.set (.slice none 0 0) (.bool false) (.slice none 0 0);have HE:=Lib.hid (RatTold4.done Z3 BB.out.below (by omega) hs (RatAt.zero _));clear hs;go_wp2;exact bodyPost_ret (by simp[results,Tryz.results63,go_sem,HS]) rfl HE.out
 · have h0:Z3=0:=by omega
   subst h0;rw[lim3_yes]at he;have LM:=Lib.hid (fun wz h=>ratLimbs_any x1 xn1 xc1 xm1 y1 yn1 yc1 Z1 Z2 wz h hq);have LM:Hid (∀wz,RatAt wz x1 xn1 xc1 xm1 y1 yn1 yc1 Z1 Z2->Calls Tryz.prog 126 #[.agg #[.slice x1 xn1 xc1,.bool xm1,.slice y1 yn1 yc1]] wz fun e w'=>e=.returned (.int .i64 (limZ Z1 Z2))/\Below wz.heap.size wz w'):=LM;obtain⟨LZ,hLZ⟩:∃z,limZ Z1 Z2=z:=⟨_,rfl⟩
   rw[hLZ]at LM he;clear hLZ hq
   by_cases hl:lm<LZ
   · rw[if_pos hl]at he;subst he;have dL:decide (lm<LZ)=true:=decide_eq_true hl;clear hl;go_wp2_with fail;go_at_call 126;refine(LM.out _ BB.out.now.2.1).mono ?_;rintro e w2 ⟨rfl,hb2⟩;have BB:=bgo BB hb2;clear hb2;clear q00 q01 q02 q10 q11 q12 q20 q21 q22;have⟨q00,q01,q02⟩:=BB.out.now.2.2.2.2.1.c3;have⟨q10,q11,q12⟩:=BB.out.now.2.2.2.1.c3;have⟨q20,q21,q22⟩:=BB.out.now.1.c3;have hs:=BB.out.now.2.2.1;have⟨u0,u1,u2,g0,g1,g2⟩:=hs.s6;have HS:=hs.set (.slice none 0 0) (.bool false) (.slice none 0 0);have HE:=Lib.hid (RatTold4.done 26 BB.out.below (by omega) hs (RatAt.zero _));clear hs;go_wp2;exact bodyPost_ret (by simp[results,Tryz.results63,go_sem,HS]) rfl HE.out
   · rw[if_neg hl]at he;subst he;have dL:decide (lm<LZ)=false:=decide_eq_false hl;clear hl;go_wp2_with fail;go_at_call 126;refine(LM.out _ BB.out.now.2.1).mono ?_;rintro e w2 ⟨rfl,hb2⟩;have BB:=bgo BB hb2;clear hb2;clear q00 q01 q02 q10 q11 q12 q20 q21 q22;have⟨q00,q01,q02⟩:=BB.out.now.2.2.2.2.1.c3;have⟨q10,q11,q12⟩:=BB.out.now.2.2.2.1.c3;have⟨q20,q21,q22⟩:=BB.out.now.1.c3;have hs:=BB.out.now.2.2.1;have⟨u0,u1,u2,g0,g1,g2⟩:=hs.s6;have HS:=hs.set (.slice x1 xn1 xc1) (.bool xm1) (.slice y1 yn1 yc1);have HE:=Lib.hid (RatTold4.done 0 BB.out.below (by omega) hs BB.out.now.2.1);clear hs;go_wp2;exact bodyPost_ret (by simp[results,Tryz.results63,go_sem,HS]) rfl HE.out
theorem dtwo_plus (a : Option Addr) (n c : Nat) (m : Bool) (a2 : Option Addr) (n2 c2 : Nat) (P : Int) (Q : Nat) (b : Option Addr) (k l : Nat) (v : Bool) (b2 : Option Addr) (k2 l2 : Nat) (P' : Int) (Q' : Nat) (lm : Int) (w : World) (h : RatAt w a n c m a2 n2 c2 P Q) (g : RatAt w b k l v b2 k2 l2 P' Q') (hQ : 0 < Q) (hQ' : 0 < Q') (K : Nat) (hK : K <= 20000) (h1 : P.natAbs < 4294967296 ^ K) (h2 : Q < 4294967296 ^ K) (h3 : P'.natAbs < 4294967296 ^ K) (h4 : Q' < 4294967296 ^ K) (hm : 1 <= lm /\ lm <= 64) :
    Calls Tryz.prog 17 #[.int .i32 43,.agg #[.slice a n c,.bool m,.slice a2 n2 c2],.agg #[.slice b k l,.bool v,.slice b2 k2 l2],.int .i64 lm] w fun e w'=>RatTold4 w w' e (twoT 43 P Q P' Q' lm).1 (twoT 43 P Q P' Q' lm).2.1 (twoT 43 P Q P' Q' lm).2.2:=by
 have KI:=Lib.hid (fun wz=>dkind_any 43 wz);have ek:kindZ 43=3:=rfl;have et:(twoT 43 P Q P' Q' lm)=(lim3 lm (numT 43 P Q P' Q' lm)):=rfl;rw[ek]at KI;have JN:=Lib.hid (fun wz h g=>dlimited_plus a n c m a2 n2 c2 P Q b k l v b2 k2 l2 P' Q' lm wz h g hQ hQ' K (by omega) h1 h2 h3 h4 hm);rw[← et]at JN;obtain⟨TT,hTT⟩:∃z,(twoT 43 P Q P' Q' lm)=z:=⟨_,rfl⟩
 rw[hTT]at JN ⊢;unfold RatTold4 at JN;obtain⟨Z1,Z2,Z3⟩:=TT;clear hQ hQ' hK h1 h2 h3 h4 hm ek et hTT
 show Calls _ _ _ _ (fun e w'=>RatTold4 w w' e Z1 Z2 Z3)
 have BB:=bagR h g;have⟨q00,q01,q02,q10,q11,q12⟩:=bq0 BB;go_enter Tryz.func17,Tryz.ntmps17;go_wp2_with fail;go_at_call 58;refine(KI.out _).mono ?_;rintro e w1 ⟨rfl,hb1⟩;have BB:=bgo BB hb1;clear hb1;clear q00 q01 q02 q10 q11 q12;have⟨q00,q01,q02,q10,q11,q12⟩:=bq0 BB;go_wp2_with fail;go_at_call 63;refine(JN.out _ BB.out.now.2.2.2.2.1 BB.out.now.2.2.2.1).mono ?_;rintro e w2 ⟨x2,xn2,xc2,xm2,y2,yn2,yc2,rfl,hr2,hb2⟩;have BB:=bgo BB hb2;clear hb2;clear q00 q01 q02 q10 q11 q12;have⟨q00,q01,q02,q10,q11,q12⟩:=bq0 BB;have hs:=BB.out.now.1;have⟨u0,u1,u2,g0,g1,g2⟩:=hs.s6;have HS:=hs.set (.slice x2 xn2 xc2) (.bool xm2) (.slice y2 yn2 yc2);have HE:=Lib.hid (RatTold4.done Z3 BB.out.below (by omega) hs hr2);clear hs;go_wp2;exact bodyPost_ret (by simp[results,Tryz.results17,go_sem,HS]) rfl HE.out
def SmallP(ch:Bool)(L:Nat)(fP:Nat->Int)(fQ:Nat->Nat):Prop:=ch=false->CmpOk 64 fP fQ L
theorem Small.toP{ch:Bool}{L:Nat}{fP:Nat->Int}{fQ:Nat->Nat}(h:Small ch L fP fQ):SmallP ch L fP fQ:=fun e j hj =>
 ⟨(h e j hj).1,Nat.lt_of_lt_of_le (h e j hj).2.1 (Nat.pow_le_pow_right (by omega) (by omega)),Nat.lt_of_lt_of_le (h e j hj).2.2 (Nat.pow_le_pow_right (by omega) (by omega))⟩
theorem plainP_any (cs : Array Value) (S : Nat -> Int) (r : Nat) (ch : Bool) (L : Nat) (g fP : Nat -> Int) (fQ : Nat -> Nat) (w : World) (hr : r <= 8) (h : Arr w cs S r ch L g fP fQ) (hn : L <= 1000000) (hs : SmallP ch L fP fQ) :
    Calls Tryz.prog 53 #[.agg cs] w fun e w'=>∃cs',e=.returned (.agg cs')/\Pln w' cs' S r ch L g (fun j=>rB (fP j)) (fun j=>rS (fP j)) (fun j=>str (dec (fQ j)))/\Below w.heap.size w w':=by
 cases ch with
 | true =>
  refine(plainC_any cs S r L g w hr (h.1 rfl) hn).mono ?_;rintro e w' ⟨cs',he,⟨sa,sc,ta,tc,na,nc,e1,k1,k2,k3⟩,hb⟩;exact⟨cs',he,⟨sa,sc,ta,tc,na,nc,e1,k1,k2,k3.zero _ _ _⟩,hb⟩
 | false =>
  have hc:=hs rfl;refine(plainN_any cs S r L fP fQ w hr (h.2 rfl) hn (fun j hj=>(hc j hj).1) 64 (by omega) (fun j hj=>(hc j hj).2.1) (fun j hj=>(hc j hj).2.2)).mono ?_;rintro e w' ⟨cs',he,⟨sa,sc,ta,tc,na,nc,e1,k1,k2,k3⟩,hb⟩;exact⟨cs',he,⟨sa,sc,ta,tc,na,nc,e1,k1,k2.zero _,k3⟩,hb⟩
structure ShownP(w:World)(cs pcs:Array Value):Prop where
 ex:∃S r ch L g fP fQ S' g' fB fS fT,Arr w cs S r ch L g fP fQ/\Pln w pcs S' r ch L g' fB fS fT/\r<=8/\L<=1000000/\SmallP ch L fP fQ/\(∀j,j<r->S j=S' j)/\(∀j,j<tnO ch L->g j=g' j)/\∀j,j<nnO ch L->rB (fP j)=fB j/\rS (fP j)=fS j/\str (dec (fQ j))=fT j
theorem Shown.toP{w:World}{cs pcs:Array Value}(h:Shown w cs pcs):ShownP w cs pcs:=by
 obtain⟨S,r,ch,L,g,fP,fQ,S',g',fB,fS,fT,h1,h2,h3,h4,h5,h6⟩:=h.ex;exact⟨S,r,ch,L,g,fP,fQ,S',g',fB,fS,fT,h1,h2,h3,h4,h5.toP,h6⟩
theorem lightP_any (cs : Array Value) (S : Nat -> Int) (r : Nat) (ch : Bool) (g : Nat -> Int) (tn : Nat) (fB : Nat -> Bool) (fS fT : Nat -> ByteArray) (nn : Nat) (w : World) (h : PlnAt w cs S r ch g tn fB fS fT nn) (hS : In64 S r) (hz : ∀ j, j < nn -> (fS j).size <= maxLen /\ (fT j).size <= maxLen) :
    Calls Tryz.prog 22 #[.agg cs] w fun e w'=>LightTold 150 S r ch tn fB fS fT nn w w' e:=by
 have HP:=Lib.hid h;obtain⟨sa,sc,ta,tc,na,nc,rfl,_⟩:=h;have LP:=Lib.hid (fun wz h=>light_any 150 (plC sa r sc ch ta tn tc na nn nc) S r ch g tn fB fS fT nn wz h hS hz);unfold LightTold at LP;have BB:=Lib.hid ((Bag.start w).newRow (plC sa r sc ch ta tn tc na nn nc) 26);have HR:=Lib.hid BB.out.now.1;clear hS hz;unfold plC;go_enter Tryz.func22,Tryz.ntmps22
 go_wp2_with (refine ld_pln rfl (.tmp 1) rfl w.heap.size rfl HR.out ?_)
 go_at_call 9
 refine(LP.out _ ?_).mono ?_
 · exact HP.out.below BB.out.below
 rintro e w2 ⟨b,rfl,hb,hb2⟩;have HE:=Lib.hid (BB.out.go hb2).below;have HB:=Lib.hid hb;clear hb hb2;go_wp2;go_ret;exact⟨b,rfl,HB.out,HE.out⟩
theorem showsOkP_any (cs pcs : Array Value) (w : World) (h : ShownP w cs pcs) :
    Calls Tryz.prog 26 #[.agg cs,.int .i64 0,.agg pcs,.int .i64 0] w fun e w'=>e=.returned (.bool true)/\Below w.heap.size w w':=by
 obtain⟨S,r,ch,L,g,fP,fQ,S',g',fB,fS,fT,h1,h2,hr,hL,hs,e1,e2,e3⟩:=h.ex;have HP:=Lib.hid h2;obtain⟨na,nn,nc,ta,tn,tc,hcs,_⟩:=h1.form;subst hcs;obtain⟨sa,sc,xa,xc,ya,yc,rfl,_⟩:=h2;have H:=Lib.hid h1;have PL:=Lib.hid (fun wz h=>plainP_any (arrC ch ((r:Int)-1) (dm S r) na nn nc ta tn tc) S r ch L g fP fQ wz hr h hL hs);have SM:=Lib.hid (fun cs1 wz (q:Pln wz cs1 S r ch L g (fun j=>rB (fP j)) (fun j=>rS (fP j)) (fun j=>str (dec (fQ j)))) (z:Pln wz (plC sa r sc ch xa (tnO ch L) xc ya (nnO ch L) yc) S' r ch L g' fB fS fT)=>pl_same (plB_of2 e1 e2 e3) q z);have BB:=Lib.hid (((Bag.start w).newRow (arrC ch ((r:Int)-1) (dm S r) na nn nc ta tn tc) 36).newRow (plC sa r sc ch xa (tnO ch L) xc ya (nnO ch L) yc) 26);simp only[World.size_alloc]at BB;clear h h1 hr hL hs e1 e2 e3;unfold arrC plC;go_enter Tryz.func26,Tryz.ntmps26;go_wp2_with fail;have hWW:=BB.out.below;unfold arrC plC at hWW;unfold plC at BB;unfold arrC at BB;generalize hW:((w.alloc (.cells _ 36)).alloc (.cells _ 26))=WW at *;clear hW hWW
 refine wp_region_inv2 ⟨(fun j=>([[17], [18], [19], [20], [8]]:List (List Nat)).getD j []),(fun j=>([[], [0], [], [0,1,2], [0,1,2,3]]:List (List Nat)).getD j []), []⟩ (fun jj vv yy=>match jj with|0=>vv = [some (.agg (arrC ch ((r:Int)-1) (dm S r) na nn nc ta tn tc))]|1=>∃(x1:Array Value),vv = [some (.agg x1)]/\Pln yy x1 S r ch L g (fun j=>rB (fP j)) (fun j=>rS (fP j)) (fun j=>str (dec (fQ j)))|2=>vv = [some (.agg (plC sa r sc ch xa (tnO ch L) xc ya (nnO ch L) yc))]|3=>vv = [some (.bool true)]|4=>vv = [some (.bool true)]|_=>True) (Bag WW (fun _=>True)) (by kernel_rfl) (by kernel_rfl) (by kernel_rfl) (Bag.start WW).drew ?_ ?_ ?_
 · intro jj vv yw yw2 hb h
   match jj,h with
   | 0,h=>exact h
   | 1,⟨x1,e1,g1_0⟩=>exact Exists.intro x1 (And.intro e1 (g1_0.below hb))
   | 2,h=>exact h
   | 3,h=>exact h
   | 4,h=>exact h
   | _+5,h=>exact h
 · intro ac yw hsz hdf hold hB hp;have t8:ac.tmps[8]? = some (.bool true):=(List.cons.inj (hp 4 (by decide))).1;have HE:=Lib.hid (BB.out.go hB.below).below;clear hold hp;obtain⟨TW,hTW⟩:∃TW:Nat->Value,∀i,(ac.tmps[i]?).getD undef=TW i:=⟨_,fun _=>rfl⟩
   have f8:=(hTW 8).symm.trans (congrArg (fun x=>Option.getD x undef) t8);have hac:=act_eq (n:=21) hsz TW hTW;rw[show((List.range 21).map TW).toArray=#[TW 0,TW 1,TW 2,TW 3,TW 4,TW 5,TW 6,TW 7,TW 8,TW 9,TW 10,TW 11,TW 12,TW 13,TW 14,TW 15,TW 16,TW 17,TW 18,TW 19,TW 20]from rfl,f8,hdf]at hac;simp only[Option.getD_some]at hac;subst hac;clear hTW f8;go_wp2;go_ret;exact⟨rfl,HE.out⟩
 refine Stps2.cons (o:=_) ?_ ?_
 · intro ac yw hsz hold hB hp K hK;have t4:ac.tmps[4]? = some (.pointer (some ⟨w.heap.size,0,none⟩)):=hold 4 (by kernel_rfl);clear hold hp hsz;rw[if_pos (by rfl)];refine ld8 4 rfl (w.heap.size) ((arrC ch ((r:Int)-1) (dm S r) na nn nc ta tn tc)) t4 ((BB.out.go hB.below).now.2.1) (rfl) ?_;exact hK.out _ _ ⟨hB,rfl,Nat.le_refl _,.inl (Below.refl _ _),fun h=>absurd h (by decide)⟩
 refine Stps2.cons (o:=_) ?_ ?_
 · intro ac yw hsz hold hB hp K hK;have e0:=hp 0 (by decide);have t17:ac.tmps[17]? = some (.agg (arrC ch ((r:Int)-1) (dm S r) na nn nc ta tn tc)):=(List.cons.inj e0).1;clear hold hp hsz e0;go_simp
   (go_at_call 53;(with_reducible refine(PL.out _ (H.out.below (BB.out.go hB.below).below)).mono ?_);rintro e wz ⟨x1,rfl,h1_0,hbz⟩)
   exact hK.out _ _ ⟨hB.go hbz,Exists.intro x1 (And.intro rfl h1_0),hbz.size,.inl hbz,fun h=>absurd h (by decide)⟩
 refine Stps2.cons (o:=_) ?_ ?_
 · intro ac yw hsz hold hB hp K hK;have t6:ac.tmps[6]? = some (.pointer (some ⟨w.heap.size+1,0,none⟩)):=hold 6 (by kernel_rfl);clear hold hp hsz;rw[if_pos (by rfl)];refine ldP 6 rfl (w.heap.size+1) ((plC sa r sc ch xa (tnO ch L) xc ya (nnO ch L) yc)) t6 ((BB.out.go hB.below).now.1) (rfl) ?_;exact hK.out _ _ ⟨hB,rfl,Nat.le_refl _,.inl (Below.refl _ _),fun h=>absurd h (by decide)⟩
 refine Stps2.cons (o:=_) ?_ ?_
 · intro ac yw hsz hold hB hp K hK;obtain⟨x1_1,e1,g1_0⟩:=hp 1 (by decide);have t18:ac.tmps[18]? = some (.agg x1_1):=(List.cons.inj e1).1;have e2:=hp 2 (by decide);have t19:ac.tmps[19]? = some (.agg (plC sa r sc ch xa (tnO ch L) xc ya (nnO ch L) yc)):=(List.cons.inj e2).1;clear hold hp hsz e1 e2;go_simp
   (go_at_call 52;(with_reducible refine(SM.out _ _ g1_0 (HP.out.below (BB.out.go hB.below).below)).mono ?_);rintro e wz ⟨rfl,hbz⟩)
   exact hK.out _ _ ⟨hB.go hbz,rfl,hbz.size,.inl hbz,fun h=>absurd h (by decide)⟩
 refine Stps2.cons (o:=_) ?_ ?_
 · intro ac yw hsz hold hB hp K hK;have e3:=hp 3 (by decide);have t20:ac.tmps[20]? = some (.bool true):=(List.cons.inj e3).1;clear hold hp hsz e3;go_simp;exact hK.out _ _ ⟨hB,rfl,Nat.le_refl _,.inl (Below.refl _ _),fun h=>absurd h (by decide)⟩
 exact Stps2.nil _
theorem lightPG_any (cs : Array Value) (S : Nat -> Int) (r : Nat) (ch : Bool) (g : Nat -> Int) (tn : Nat) (fB : Nat -> Bool) (fS fT : Nat -> ByteArray) (nn : Nat) (w : World) (h : PlnAt w cs S r ch g tn fB fS fT nn) (hS : In64 S r) (hz : ∀ j, j < nn -> (fS j).size <= maxLen /\ (fT j).size <= maxLen) :
    Calls Tryz.prog 22 #[.agg cs] w fun e w'=>∃b,e=.returned (.bool b)/\(b=true->∃L,tn=tnO ch L/\nn=nnO ch L/\Good S r ch L fB fS fT)/\Below w.heap.size w w' :=
 (lightP_any cs S r ch g tn fB fS fT nn w h hS hz).mono fun _ _ ⟨b,he,hb,hw⟩=>⟨b,he,fun e=>good_of (by obtain⟨q1,q2,q3,q4,q5⟩:=hb e;exact⟨by omega,by omega,q3,q4,q5⟩),hw⟩
theorem pintsP {wz : World} {a : Option Addr} {c n : Nat} {l : List Int} (h : KRow wz .i64 a n c (lt l)) (h64 : l.all (fun x => decide (-9223372036854775808 <= x /\ x <= 9223372036854775807)) = true) (hn : n <= 1000000) :
    Calls Tryz.prog 37 #[.slice a n c] wz fun e w'=>∃p,e=.returned (.agg p)/\PlJ w' p l n/\Below wz.heap.size wz w' :=
 (r6Ints_any a n c (lt l) wz h (lt64 h64 n) hn).mono (by
   intro e w' hq;obtain⟨p,he,_,hb⟩:=hq (fun _=>0);refine⟨p,he,fun T => ?_,hb⟩;obtain⟨p2,he2,h2,_⟩:=hq T;rw[he]at he2
   injection he2 with he2
   injection he2 with he2
   rw[he2]
   exact h2)
theorem KRow.lits32(w:World)(l:List Int)(t:TypeId)(h:l.length<=1000){cs:Array Value}(hc:cs=(l.map (Value.int .i32)).toArray):KRow (w.alloc (.cells cs t)) .i32 (some ⟨w.heap.size,0,none⟩) l.length l.length (lt l):=by
 subst hc;refine⟨Nat.le_refl _,by unfold maxLen;omega,.inr ⟨_,0,rfl,by simp,fun j hj => ?_⟩⟩;have:=(Row.new w t (l.map (Value.int .i32)).toArray).cell (0+j);rw[this,Nat.zero_add]
 simp[lt,hj]
theorem in64P{x:Int}(h : -9223372036854775808<=x/\x<=9223372036854775807)(n:Nat):In64 (fun _=>x) n:=fun _ _=>h
def pwD(i _j:Nat):Ans:=twoT 43 (lt [1,2] i) 1 10 1 4
def pw1(k:Nat):Ans:=elT 43 false false (fun _=>0) (fun _=>0) pwD (ppI (decide ((2:Nat)=1)) k) (ppI (decide ((2:Nat)=2)) k)
def pw1P:Nat->Int:=fun k=>(pw1 k).1
def pw1Q:Nat->Nat:=fun k=>(pw1 k).2.1
def pw2(k:Nat):Ans:=elT 61 true true (lt [97,98]) (fun _=>98) pwD (ppI (decide ((2:Nat)=1)) k) (ppI (decide ((2:Nat)=2)) k)
def pw2P:Nat->Int:=fun k=>(pw2 k).1
def pw2Q:Nat->Nat:=fun k=>(pw2 k).2.1
theorem pwD_to:TwosTo 43 4 pwD 2 1 (lt [1,2]) (fun _=>1) (fun _=>10) (fun _=>1):=by
 intro i j hi hj a n c m a2 n2 c2 b k l v b2 k2 l2 wz h g
 have hb:(lt [1,2] i).natAbs<4294967296^1:=by
  have:i=0∨i=1:=by omega
  rcases this with rfl|rfl<;>decide
 exact dtwo_plus a n c m a2 n2 c2 _ 1 b k l v b2 k2 l2 10 1 4 wz h g (by decide) (by decide) 1 (by decide) hb (by decide) (by decide) (by decide) (by decide)
theorem awake14_any(w:World):Calls Tryz.prog 23 #[] w fun e w'=>e=.returned (.bool true)/\Below w.heap.size w w':=by
 have INl:Hid (∀a c wz,KRow wz .i64 a 2 c (lt [1,2])->Calls Tryz.prog 34 #[.slice a 2 c] wz fun e w'=>∃x,e=.returned (.agg x)/\Arr w' x (fun _=>((2:Nat):Int)) 1 false 2 (fun _=>0) (lt [1,2]) (fun _=>1)/\Below wz.heap.size wz w'):=Lib.hid (fun a c wz h=>(ints8_any a 2 c (lt [1,2]) wz h (lt64 (by decide) 2) (by omega)).mono (by
  rintro e w' ⟨x,he,h,hb⟩
  exact⟨x,he,h _,hb⟩))
 have INt:Hid (∀wz,Calls Tryz.prog 36 #[.int .i64 10] wz fun e w'=>∃x,e=.returned (.agg x)/\Arr w' x (fun _=>0) 0 false 1 (fun _=>0) (fun _=>10) (fun _=>1)/\Below wz.heap.size wz w'):=Lib.hid (fun wz=>(int8_any 10 wz (by omega)).mono (by
  rintro e w' ⟨x,he,h,hb⟩
  exact⟨x,he,h _,hb⟩))
 have TXt:Hid (∀a c wz,KRow wz .i32 a 2 c (lt [97,98])->Calls Tryz.prog 75 #[.slice a 2 c] wz fun e w'=>∃x,e=.returned (.agg x)/\Arr w' x (fun _=>((2:Nat):Int)) 1 true 2 (lt [97,98]) (fun _=>0) (fun _=>1)/\Below wz.heap.size wz w'):=Lib.hid (fun a c wz h=>(arrText_any a 2 c (lt [97,98]) wz h (by omega)).mono (by
  rintro e w' ⟨x,he,h,hb⟩
  exact⟨x,he,⟨fun _=>h,fun e=>by cases e⟩,hb⟩))
 have CHr:Hid (∀wz,Calls Tryz.prog 76 #[.int .i32 98] wz fun e w'=>∃x,e=.returned (.agg x)/\Arr w' x (fun _=>0) 0 true 1 (fun _=>98) (fun _=>0) (fun _=>1)/\Below wz.heap.size wz w'):=Lib.hid (fun wz=>(arrChar_any 98 wz).mono (by
  rintro e w' ⟨x,he,h,hb⟩
  exact⟨x,he,⟨fun _=>h,fun e=>by cases e⟩,hb⟩))
 have TW1:Hid (∀x y wz,Arr wz x (fun _=>((2:Nat):Int)) 1 false 2 (fun _=>0) (lt [1,2]) (fun _=>1)->Arr wz y (fun _=>0) 0 false 1 (fun _=>0) (fun _=>10) (fun _=>1)->Calls Tryz.prog 27 #[.int .i32 43,.agg x,.agg y,.int .i64 4] wz fun e w'=>∃z,e=.returned (.tuple #[.agg z,.int .i64 0])/\Arr w' z (fun _=>((2:Nat):Int)) 1 false 2 (fun _=>0) pw1P pw1Q/\Below wz.heap.size wz w'):=Lib.hid (fun x y wz h h2 =>
  (ptwo_any 43 4 pwD x (fun _=>((2:Nat):Int)) 1 false 2 (fun _=>0) (lt [1,2]) (fun _=>1) y (fun _=>0) 0 false 1 (fun _=>0) (fun _=>10) (fun _=>1) (fun _=>0) wz h h2 (fun _ _=>pwD_to) (by omega) (by omega) (by decide) (by decide) (in64P (by decide) _) (fun _ h=>absurd h (Nat.not_lt_zero _)) rfl rfl 2 (by decide)).mono (fun _ _ q=>q.ok (by decide +kernel)))
 have TW2:Hid (∀x y wz,Arr wz x (fun _=>((2:Nat):Int)) 1 true 2 (lt [97,98]) (fun _=>0) (fun _=>1)->Arr wz y (fun _=>0) 0 true 1 (fun _=>98) (fun _=>0) (fun _=>1)->Calls Tryz.prog 27 #[.int .i32 61,.agg x,.agg y,.int .i64 4] wz fun e w'=>∃z,e=.returned (.tuple #[.agg z,.int .i64 0])/\Arr w' z (fun _=>((2:Nat):Int)) 1 false 2 (fun _=>0) pw2P pw2Q/\Below wz.heap.size wz w'):=Lib.hid (fun x y wz h h2 =>
  (ptwo_any 61 4 pwD x (fun _=>((2:Nat):Int)) 1 true 2 (lt [97,98]) (fun _=>0) (fun _=>1) y (fun _=>0) 0 true 1 (fun _=>98) (fun _=>0) (fun _=>1) (fun _=>0) wz h h2 (fun e=>by cases e) (by omega) (by omega) (by decide) (by decide) (in64P (by decide) _) (fun _ h=>absurd h (Nat.not_lt_zero _)) rfl rfl 2 (by decide)).mono (fun _ _ q=>q.ok (by decide +kernel)))
 have RIa:Hid (∀a c wz,KRow wz .i64 a 2 c (lt [11,12])->Calls Tryz.prog 37 #[.slice a 2 c] wz fun e w'=>∃p,e=.returned (.agg p)/\PlJ w' p [11,12] 2/\Below wz.heap.size wz w'):=Lib.hid (fun a c wz h=>pintsP h (by decide) (by omega));have RIb:Hid (∀a c wz,KRow wz .i64 a 2 c (lt [0,1])->Calls Tryz.prog 37 #[.slice a 2 c] wz fun e w'=>∃p,e=.returned (.agg p)/\PlJ w' p [0,1] 2/\Below wz.heap.size wz w'):=Lib.hid (fun a c wz h=>pintsP h (by decide) (by omega));have SHa:Hid (∀wz x p,Arr wz x (fun _=>((2:Nat):Int)) 1 false 2 (fun _=>0) pw1P pw1Q->PlJ wz p [11,12] 2->ShownP wz x p):=Lib.hid (fun wz x p h hp=>(shownJ h hp (by omega) (by decide) (less2 (by decide +kernel) (by decide +kernel))).toP);have SHb:Hid (∀wz x p,Arr wz x (fun _=>((2:Nat):Int)) 1 false 2 (fun _=>0) pw2P pw2Q->PlJ wz p [0,1] 2->ShownP wz x p):=Lib.hid (fun wz x p h hp=>(shownJ h hp (by omega) (by decide) (less2 (by decide +kernel) (by decide +kernel))).toP);have SO:=Lib.hid (fun cs p wz h=>showsOkP_any cs p wz h);have KL:=Lib.hid (KRow.lits w [1,2] 3 (by decide) rfl);have HB0:=Lib.hid ((Below.refl w.heap.size w).alloc (Nat.le_refl _) (.cells #[.int .i64 1,.int .i64 2] 3));go_enter Tryz.func23,Tryz.ntmps23;go_wp2_with fail;go_at_call 34
 (refine(INl.out _ _ _ KL.out).mono ?_)
 rintro e w1 ⟨x1,rfl,h1,hb1⟩;have BB:=Lib.hid ((Bag.fresh (HB0.out.trans (hb1.mono HB0.out.size))).arr h1);clear h1 hb1 KL HB0;go_wp2_with fail;go_at_call 36
 (refine(INt.out _).mono ?_)
 rintro e w2 ⟨x2,rfl,h2,hb2⟩;have BB:=Lib.hid ((BB.out.go hb2).arr h2);clear h2 hb2;go_wp2_with fail;go_at_call 27
 (refine(TW1.out _ _ _ BB.out.now.2.1 BB.out.now.1).mono ?_)
 rintro e w3 ⟨x3,rfl,h3,hb3⟩;have BB:=Lib.hid (Bag.fresh (BB.out.go hb3).below);have HA:=Lib.hid h3;have HIA:=Lib.hid h3.isA;clear h3 hb3 INl INt TW1
 go_wp2_with (refine st_arrQ rfl (.tmp 1) (.tmp 10) rfl rfl x3 rfl HIA.out rfl ?_;intro Y hY hbY;have HY:=Lib.hid hY;have BB:=Lib.hid (BB.out.go hbY);have HA:=Lib.hid (HA.out.below hbY);have KL:=Lib.hid (KRow.lits32 Y [97,98] 21 (by decide) rfl);have HB0:=Lib.hid ((Below.refl Y.heap.size Y).alloc (Nat.le_refl _) (.cells #[.int .i32 97,.int .i32 98] 21));clear hY hbY)
 go_at_call 75
 (refine(TXt.out _ _ _ KL.out).mono ?_)
 rintro e w4 ⟨x4,rfl,h4,hb4⟩;have BB:=Lib.hid ((((BB.out.row HY.out).arr HA.out).go (HB0.out.trans (hb4.mono HB0.out.size))).arr h4);clear h4 hb4 KL HB0 HY HA;go_wp2_with fail;go_at_call 76
 (refine(CHr.out _).mono ?_)
 rintro e w5 ⟨x5,rfl,h5,hb5⟩;have BB:=Lib.hid ((BB.out.go hb5).arr h5);clear h5 hb5;go_wp2_with fail;go_at_call 27
 (refine(TW2.out _ _ _ BB.out.now.2.1 BB.out.now.1).mono ?_)
 rintro e w6 ⟨x6,rfl,h6,hb6⟩;have BB:=bgo BB hb6;have HA6:=Lib.hid h6;have HI6:=Lib.hid h6.isA;clear h6 hb6 TXt CHr TW2
 go_wp2_with (refine st_arrQ rfl (.tmp 3) (.tmp 17) rfl rfl x6 rfl HI6.out rfl ?_;intro Y6 hY hbY;have HY:=Lib.hid hY;have BB:=Lib.hid (BB.out.go hbY);have HA6:=Lib.hid (HA6.out.below hbY);clear hY hbY)
 have RWa:=Lib.hid (fun yz (hb:Below Y6.heap.size Y6 yz)=>Row.below BB.out.now.2.2.2.1 hb);have RWb:=Lib.hid (fun yz (hb:Below Y6.heap.size Y6 yz)=>Row.below HY.out hb);have Aa:=Lib.hid (fun yz (hb:Below Y6.heap.size Y6 yz)=>Arr.below BB.out.now.2.2.1 hb);have Ab:=Lib.hid (fun yz (hb:Below Y6.heap.size Y6 yz)=>Arr.below HA6.out hb);have BB:=Lib.hid (Bag.fresh BB.out.below)
 refine wp_region_inv2 ⟨(fun j=>([[19], [20], [21], [22], [23], [24], [25], [26], [27], [28], [29], [30], [0]]:List (List Nat)).getD j []),(fun j=>([[], [], [], [2], [0,1,2,3], [0,1,2,3,4], [0,1,2,3,4,5], [0,1,2,3,4,5], [0,1,2,3,4,5], [0,1,2,3,4,5,8], [0,1,2,3,4,5,6,7,8,9], [0,1,2,3,4,5,6,7,8,9,10], [0,1,2,3,4,5,6,7,8,9,10,11]]:List (List Nat)).getD j []), [2,8]⟩ (fun jj vv yy=>match jj with|0=>vv = [some (.agg x3)]|1=>vv = [some (.int .i64 0)]|2=>∃(k2:Nat),vv = [some (.slice (some ⟨k2,0,none⟩) 2 2)]/\KRow yy .i64 (some ⟨k2,0,none⟩) 2 2 (lt [11,12])|3=>∃(x3:Array Value),vv = [some (.agg x3)]/\PlJ yy x3 [11,12] 2|4=>vv = [some (.bool true)]|5=>vv = [some (.bool true)]|6=>vv = [some (.agg x6)]|7=>vv = [some (.int .i64 0)]|8=>∃(k8:Nat),vv = [some (.slice (some ⟨k8,0,none⟩) 2 2)]/\KRow yy .i64 (some ⟨k8,0,none⟩) 2 2 (lt [0,1])|9=>∃(x9:Array Value),vv = [some (.agg x9)]/\PlJ yy x9 [0,1] 2|10=>vv = [some (.bool true)]|11=>vv = [some (.bool true)]|12=>vv = [some (.bool true)]|_=>True) (Bag Y6 (fun _=>True)) (by kernel_rfl) (by kernel_rfl) (by kernel_rfl) (Bag.start Y6).drew ?_ ?_ ?_
 · intro jj vv yw yw2 hb h
   match jj,h with
   | 0,h=>exact h
   | 1,h=>exact h
   | 2,⟨k2,e2,g2_0⟩=>exact Exists.intro k2 (And.intro e2 (g2_0.below hb))
   | 3,⟨x3,e3,g3_0⟩=>exact Exists.intro x3 (And.intro e3 (g3_0.below hb))
   | 4,h=>exact h
   | 5,h=>exact h
   | 6,h=>exact h
   | 7,h=>exact h
   | 8,⟨k8,e8,g8_0⟩=>exact Exists.intro k8 (And.intro e8 (g8_0.below hb))
   | 9,⟨x9,e9,g9_0⟩=>exact Exists.intro x9 (And.intro e9 (g9_0.below hb))
   | 10,h=>exact h
   | 11,h=>exact h
   | 12,h=>exact h
   | _+13,h=>exact h
 · intro ac yw hsz hdf hold hB hp;have t0:ac.tmps[0]? = some (.bool true):=(List.cons.inj (hp 12 (by decide))).1;have HE:=Lib.hid (BB.out.go hB.below).below;clear hold hp;obtain⟨TV,hTV⟩:∃TV:Nat->Value,∀i,(ac.tmps[i]?).getD undef=TV i:=⟨_,fun _=>rfl⟩
   have f0:=(hTV 0).symm.trans (congrArg (fun x=>Option.getD x undef) t0);have hac:=act_eq (n:=31) hsz TV hTV;rw[show((List.range 31).map TV).toArray=#[TV 0,TV 1,TV 2,TV 3,TV 4,TV 5,TV 6,TV 7,TV 8,TV 9,TV 10,TV 11,TV 12,TV 13,TV 14,TV 15,TV 16,TV 17,TV 18,TV 19,TV 20,TV 21,TV 22,TV 23,TV 24,TV 25,TV 26,TV 27,TV 28,TV 29,TV 30]from rfl,f0,hdf]at hac;simp only[Option.getD_some]at hac;subst hac;clear hTV f0;go_wp2;go_ret;exact⟨rfl,HE.out⟩
 refine Stps2.cons (o:=_) ?_ ?_
 · intro ac yw hsz hold hB hp K hK;have t1:ac.tmps[1]? = some (.pointer (some ⟨w3.heap.size,0,none⟩)):=hold 1 (by kernel_rfl);clear hold hp hsz;rw[if_pos (by rfl)];refine ld8 1 rfl (w3.heap.size) (x3) t1 (RWa.out _ hB.below) (HIA.out.size) ?_;exact hK.out _ _ ⟨hB,rfl,Nat.le_refl _,.inl (Below.refl _ _),fun h=>absurd h (by decide)⟩
 refine Stps2.cons (o:=_) ?_ ?_
 · intro ac yw hsz hold hB hp K hK;have t2:ac.tmps[2]? = some (.int .i64 0):=hold 2 (by kernel_rfl);clear hold hp hsz;go_simp;exact hK.out _ _ ⟨hB,rfl,Nat.le_refl _,.inl (Below.refl _ _),fun h=>absurd h (by decide)⟩
 refine Stps2.cons (o:=_) ?_ ?_
 · intro ac yw hsz hold hB hp K hK;clear hold hp hsz;have hbz:Below yw.heap.size yw (yw.alloc (.cells #[.int .i64 11,.int .i64 12] 3))/\yw.heap.size<(yw.alloc (.cells #[.int .i64 11,.int .i64 12] 3)).heap.size:=⟨(Below.refl _ _).alloc (Nat.le_refl _) _,by rw[World.size_alloc];omega⟩
   have kz:KRow (yw.alloc (.cells #[.int .i64 11,.int .i64 12] 3)) .i64 (some ⟨yw.heap.size,0,none⟩) 2 2 (lt [11,12]):=KRow.lits yw [11,12] 3 (by decide) rfl;go_simp;exact hK.out _ _ ⟨hB.alloc _,Exists.intro yw.heap.size (And.intro rfl kz),Nat.le_of_lt hbz.2,.inl hbz.1,fun _=>⟨_,rfl,Nat.le_refl _,hbz.2⟩⟩
 refine Stps2.cons (o:=_) ?_ ?_
 · intro ac yw hsz hold hB hp K hK;obtain⟨k2_2,e2,g2_0⟩:=hp 2 (by decide);have t21:ac.tmps[21]? = some (.slice (some ⟨k2_2,0,none⟩) 2 2):=(List.cons.inj e2).1;clear hold hp hsz e2;go_simp
   (go_at_call 37;(refine(RIa.out _ _ _ g2_0).mono ?_);rintro e wz ⟨x3,rfl,h3_0,hbz⟩)
   exact hK.out _ _ ⟨hB.go hbz,Exists.intro x3 (And.intro rfl h3_0),hbz.size,.inl hbz,fun h=>absurd h (by decide)⟩
 refine Stps2.cons (o:=_) ?_ ?_
 · intro ac yw hsz hold hB hp K hK;have e0:=hp 0 (by decide);have t19:ac.tmps[19]? = some (.agg x3):=(List.cons.inj e0).1;have e1:=hp 1 (by decide);have t20:ac.tmps[20]? = some (.int .i64 0):=(List.cons.inj e1).1;obtain⟨x3_3,e3,g3_0⟩:=hp 3 (by decide);have t22:ac.tmps[22]? = some (.agg x3_3):=(List.cons.inj e3).1;clear hold hp hsz e0 e1 e3;go_simp
   (go_at_call 26;(refine(SO.out _ _ _ (SHa.out _ _ _ (Aa.out _ hB.below) g3_0)).mono ?_);rintro e wz ⟨rfl,hbz⟩)
   exact hK.out _ _ ⟨hB.go hbz,rfl,hbz.size,.inl hbz,fun h=>absurd h (by decide)⟩
 refine Stps2.cons (o:=_) ?_ ?_
 · intro ac yw hsz hold hB hp K hK;have e4:=hp 4 (by decide);have t23:ac.tmps[23]? = some (.bool true):=(List.cons.inj e4).1;clear hold hp hsz e4;go_simp;exact hK.out _ _ ⟨hB,rfl,Nat.le_refl _,.inl (Below.refl _ _),fun h=>absurd h (by decide)⟩
 refine Stps2.cons (o:=_) ?_ ?_
 · intro ac yw hsz hold hB hp K hK;have t24:ac.tmps[24]? = some (.bool true):=(List.cons.inj (hp 5 (by decide))).1;rw[if_pos (wanted_pos rfl rfl t24)];have t3:ac.tmps[3]? = some (.pointer (some ⟨w6.heap.size,0,none⟩)):=hold 3 (by kernel_rfl);clear hold hp hsz;refine ld8 3 rfl (w6.heap.size) (x6) t3 (RWb.out _ hB.below) (HI6.out.size) ?_;exact hK.out _ _ ⟨hB,rfl,Nat.le_refl _,.inl (Below.refl _ _),fun h=>absurd h (by decide)⟩
 refine Stps2.cons (o:=_) ?_ ?_
 · intro ac yw hsz hold hB hp K hK;have t24:ac.tmps[24]? = some (.bool true):=(List.cons.inj (hp 5 (by decide))).1;rw[if_pos (wanted_pos rfl rfl t24)];have t4:ac.tmps[4]? = some (.int .i64 0):=hold 4 (by kernel_rfl);clear hold hp hsz;go_simp;exact hK.out _ _ ⟨hB,rfl,Nat.le_refl _,.inl (Below.refl _ _),fun h=>absurd h (by decide)⟩
 refine Stps2.cons (o:=_) ?_ ?_
 · intro ac yw hsz hold hB hp K hK;have t24:ac.tmps[24]? = some (.bool true):=(List.cons.inj (hp 5 (by decide))).1;rw[if_pos (wanted_pos rfl rfl t24)];clear hold hp hsz;have hbz:Below yw.heap.size yw (yw.alloc (.cells #[.int .i64 0,.int .i64 1] 3))/\yw.heap.size<(yw.alloc (.cells #[.int .i64 0,.int .i64 1] 3)).heap.size:=⟨(Below.refl _ _).alloc (Nat.le_refl _) _,by rw[World.size_alloc];omega⟩
   have kz:KRow (yw.alloc (.cells #[.int .i64 0,.int .i64 1] 3)) .i64 (some ⟨yw.heap.size,0,none⟩) 2 2 (lt [0,1]):=KRow.lits yw [0,1] 3 (by decide) rfl;go_simp;exact hK.out _ _ ⟨hB.alloc _,Exists.intro yw.heap.size (And.intro rfl kz),Nat.le_of_lt hbz.2,.inl hbz.1,fun _=>⟨_,rfl,Nat.le_refl _,hbz.2⟩⟩
 refine Stps2.cons (o:=_) ?_ ?_
 · intro ac yw hsz hold hB hp K hK;have t24:ac.tmps[24]? = some (.bool true):=(List.cons.inj (hp 5 (by decide))).1;rw[if_pos (wanted_pos rfl rfl t24)];obtain⟨k8_8,e8,g8_0⟩:=hp 8 (by decide);have t27:ac.tmps[27]? = some (.slice (some ⟨k8_8,0,none⟩) 2 2):=(List.cons.inj e8).1;clear hold hp hsz e8;go_simp
   (go_at_call 37;(refine(RIb.out _ _ _ g8_0).mono ?_);rintro e wz ⟨x9,rfl,h9_0,hbz⟩)
   exact hK.out _ _ ⟨hB.go hbz,Exists.intro x9 (And.intro rfl h9_0),hbz.size,.inl hbz,fun h=>absurd h (by decide)⟩
 refine Stps2.cons (o:=_) ?_ ?_
 · intro ac yw hsz hold hB hp K hK;have t24:ac.tmps[24]? = some (.bool true):=(List.cons.inj (hp 5 (by decide))).1;rw[if_pos (wanted_pos rfl rfl t24)];have e6:=hp 6 (by decide);have t25:ac.tmps[25]? = some (.agg x6):=(List.cons.inj e6).1;have e7:=hp 7 (by decide);have t26:ac.tmps[26]? = some (.int .i64 0):=(List.cons.inj e7).1;obtain⟨x9_9,e9,g9_0⟩:=hp 9 (by decide);have t28:ac.tmps[28]? = some (.agg x9_9):=(List.cons.inj e9).1;clear hold hp hsz e6 e7 e9;go_simp
   (go_at_call 26;(refine(SO.out _ _ _ (SHb.out _ _ _ (Ab.out _ hB.below) g9_0)).mono ?_);rintro e wz ⟨rfl,hbz⟩)
   exact hK.out _ _ ⟨hB.go hbz,rfl,hbz.size,.inl hbz,fun h=>absurd h (by decide)⟩
 refine Stps2.cons (o:=_) ?_ ?_
 · intro ac yw hsz hold hB hp K hK;have e5:=hp 5 (by decide);have t24:ac.tmps[24]? = some (.bool true):=(List.cons.inj e5).1;have e10:=hp 10 (by decide);have t29:ac.tmps[29]? = some (.bool true):=(List.cons.inj e10).1;clear hold hp hsz e5 e10;go_simp;exact hK.out _ _ ⟨hB,rfl,Nat.le_refl _,.inl (Below.refl _ _),fun h=>absurd h (by decide)⟩
 refine Stps2.cons (o:=_) ?_ ?_
 · intro ac yw hsz hold hB hp K hK;have e11:=hp 11 (by decide);have t30:ac.tmps[30]? = some (.bool true):=(List.cons.inj e11).1;clear hold hp hsz e11;go_simp;exact hK.out _ _ ⟨hB,rfl,Nat.le_refl _,.inl (Below.refl _ _),fun h=>absurd h (by decide)⟩
 exact Stps2.nil _
end Go.Proofs.YtdmmenaejkpnjaaGreatDoor
namespace Go.Proofs.YtdmmenaejkpnjaaGreatDoor
open Go.RowKit
theorem tn_nn(ch:Bool)(L:Nat):tnO ch L+nnO ch L=L:=by unfold tnO nnO;cases ch<;>simp
theorem Pln.len {cs : Array Value} {S : Nat -> Int} {r : Nat} {ch : Bool} {L : Nat} {g : Nat -> Int} {fB : Nat -> Bool} {fS fT : Nat -> ByteArray} (wz : World) (h : Pln wz cs S r ch L g fB fS fT) (hL : L <= 1000000) :
    Calls Tryz.prog 32 #[.agg cs] wz fun e w'=>e=.returned (.int .i64 (L:Nat))/\Below wz.heap.size wz w':=by
 have:=r6Len_any cs S r ch g (tnO ch L) fB fS fT (nnO ch L) wz h (by have:=nnO_le ch L;omega) (by have:=nnO_le ch L;omega);rw[tn_nn]at this;exact this
end Go.Proofs.YtdmmenaejkpnjaaGreatDoor
namespace Go.Proofs.YtdmmenaejkpnjaaGreatDoor
open Go.RowKit
attribute [local go_sem ↓] Go.wp_at_zero Go.wp_at_succ
theorem rfit_any (cs : Array Value) (S : Nat -> Int) (r : Nat) (ch : Bool) (L : Nat) (g : Nat -> Int) (fB : Nat -> Bool) (fS fT : Nat -> ByteArray) (cs2 : Array Value) (T : Nat -> Int) (q : Nat) (ch2 : Bool) (M : Nat) (g2 : Nat -> Int) (fB2 : Nat -> Bool) (fS2 fT2 : Nat -> ByteArray) (w : World) (h : Pln w cs S r ch L g fB fS fT) (h2 : Pln w cs2 T q ch2 M g2 fB2 fS2 fT2) (hL : L <= 400000) (hM : M <= 400000) :
    Calls Tryz.prog 30 #[.agg cs,.agg cs2] w fun e w'=>FitTold (pfK S r L T q M) S r T q w w' e:=by
 have H0:=Lib.hid h;have H1:=Lib.hid h2;obtain⟨sa,sc,ta,tc,na,nc,rfl,hk⟩:=h.form;obtain⟨sa2,sc2,ta2,tc2,na2,nc2,rfl,hk2⟩:=h2.form;have hl1:=hk.len;have hl2:=hk2.len;have LN0:=Lib.hid (fun wz h=>Pln.len (cs:=(plC sa r sc ch ta (tnO ch L) tc na (nnO ch L) nc)) wz (S:=S) (r:=r) (ch:=ch) (L:=L) (g:=g) (fB:=fB) (fS:=fS) (fT:=fT) h (by omega));have LN1:=Lib.hid (fun wz h=>Pln.len (cs:=(plC sa2 q sc2 ch2 ta2 (tnO ch2 M) tc2 na2 (nnO ch2 M) nc2)) wz (S:=T) (r:=q) (ch:=ch2) (L:=M) (g:=g2) (fB:=fB2) (fS:=fS2) (fT:=fT2) h (by omega));have SM:=Lib.hid (fun a c a2 c2 wz (k:KRow wz .i64 a r c S) (k2:KRow wz .i64 a2 q c2 T)=>r6Same_any a r c S a2 q c2 T wz k k2);unfold SameTold at SM;have K1:=Lib.hid hk;have K2:=Lib.hid hk2;obtain⟨K,hK⟩:∃n,pfK S r L T q M=n:=⟨_,rfl⟩
 rw[hK];unfold pfK at hK;have HKK:=Lib.hid hK;clear hK;have BB:=Lib.hid (((Bag.start w).newRow (plC sa r sc ch ta (tnO ch L) tc na (nnO ch L) nc) 26).newRow (plC sa2 q sc2 ch2 ta2 (tnO ch2 M) tc2 na2 (nnO ch2 M) nc2) 26);simp only[World.size_alloc]at BB;have x0:=BB.out.now.2.1.cell 0;have y0:=BB.out.now.1.cell 0;unfold plC at x0 y0;unfold plC at BB;have K1:=Lib.hid (K1.out.below BB.out.below);have K2:=Lib.hid (K2.out.below BB.out.below);clear h h2 hk hk2 hL hM;unfold plC;go_enter Tryz.func30,Tryz.ntmps30;go_wp2_with fail;go_at_call 31
 (refine(SM.out _ _ _ _ _ K1.out K2.out).mono ?_)
 rintro e w4 ⟨rfl,hb4⟩;have BB:=bgo BB hb4;have K1:=Lib.hid (K1.out.below hb4);have K2:=Lib.hid (K2.out.below hb4);clear hb4 SM x0 y0;have x0:w4.cell? ⟨w.heap.size,0,none⟩=some (.slice sa r sc):=BB.out.now.2.1.cell 0;have y0:w4.cell? ⟨w.heap.size+1,0,none⟩=some (.slice sa2 q sc2):=BB.out.now.1.cell 0
 cases hb:(decide (r=q)&&sameB S T r)with
 | true =>
  have hK:=HKK.out;clear HKK;have HK:Hid (K=0):=Lib.hid (by rw[← hK,if_pos hb]);clear hK hb;have HE:=Lib.hid (FitTold.ok0 (T:=T) (q:=q) HK.out K1.out BB.out.below);go_wp2;exact bodyPost_ret (v:=.tuple #[.slice sa r sc,.bool false,.bool false,.int .i64 0]) (by simp[results,Tryz.results30,go_sem]) rfl HE.out
 | false =>
  have HB:=Lib.hid hb;clear hb;go_wp2_with fail;clear x0 y0;have RW0:Hid (∀yz,Below w4.heap.size w4 yz->Row yz (w.heap.size) 26 (plC sa r sc ch ta (tnO ch L) tc na (nnO ch L) nc)):=Lib.hid (fun yz hb=>Row.below BB.out.now.2.1 hb);have RW1:Hid (∀yz,Below w4.heap.size w4 yz->Row yz (w.heap.size+1) 26 (plC sa2 q sc2 ch2 ta2 (tnO ch2 M) tc2 na2 (nnO ch2 M) nc2)):=Lib.hid (fun yz hb=>Row.below BB.out.now.1 hb)
  refine wp_region_inv2 ⟨(fun j=>([[17], [18], [19], [20], [8], [9]]:List (List Nat)).getD j []),(fun j=>([[], [0], [], [0,1,2], [0,1,2,3], [0,1,2,3,4]]:List (List Nat)).getD j []), []⟩ (fun jj vv yy=>match jj with|0=>vv = [some (.agg (plC sa r sc ch ta (tnO ch L) tc na (nnO ch L) nc))]|1=>vv = [some (.int .i64 L)]|2=>vv = [some (.agg (plC sa2 q sc2 ch2 ta2 (tnO ch2 M) tc2 na2 (nnO ch2 M) nc2))]|3=>vv = [some (.int .i64 M)]|4=>vv = [some (.int .i64 L)]|5=>vv = [some (.int .i64 M)]|_=>True) (Bag w4 (fun _=>True)) (by kernel_rfl) (by kernel_rfl) (by kernel_rfl) (Bag.start w4).drew ?_ ?_ ?_
  · intro jj vv yw yw2 hb h
    match jj,h with
    | 0,h=>exact h
    | 1,h=>exact h
    | 2,h=>exact h
    | 3,h=>exact h
    | 4,h=>exact h
    | 5,h=>exact h
    | _+6,h=>exact h
  · intro ac yw hsz hdf hold hB hp; have t8 : ac.tmps[8]? = some (.int .i64 L) := (List.cons.inj (hp 4 (by decide))).1; have t9 : ac.tmps[9]? = some (.int .i64 M) := (List.cons.inj (hp 5 (by decide))).1; have t2 : ac.tmps[2]? = some (.pointer (some ⟨w.heap.size, 0, none⟩)) := hold 2 (by kernel_rfl); have t3 : ac.tmps[3]? = some (.pointer (some ⟨w.heap.size + 1, 0, none⟩)) := hold 3 (by kernel_rfl); have BB := Lib.hid (BB.out.go hB.below); have K1 := Lib.hid (K1.out.below hB.below); have K2 := Lib.hid (K2.out.below hB.below); clear hold hp hB RW0 RW1; obtain ⟨TV, hTV⟩ : ∃ TV : Nat -> Value, ∀ i, (ac.tmps[i]?).getD undef = TV i := ⟨_, fun _ => rfl⟩
    have f2:=(hTV 2).symm.trans (congrArg (fun x=>Option.getD x undef) t2);have f3:=(hTV 3).symm.trans (congrArg (fun x=>Option.getD x undef) t3);have f8:=(hTV 8).symm.trans (congrArg (fun x=>Option.getD x undef) t8);have f9:=(hTV 9).symm.trans (congrArg (fun x=>Option.getD x undef) t9);have hac:=act_eq (n:=53) hsz TV hTV;rw[show((List.range 53).map TV).toArray=#[TV 0,TV 1,TV 2,TV 3,TV 4,TV 5,TV 6,TV 7,TV 8,TV 9,TV 10,TV 11,TV 12,TV 13,TV 14,TV 15,TV 16,TV 17,TV 18,TV 19,TV 20,TV 21,TV 22,TV 23,TV 24,TV 25,TV 26,TV 27,TV 28,TV 29,TV 30,TV 31,TV 32,TV 33,TV 34,TV 35,TV 36,TV 37,TV 38,TV 39,TV 40,TV 41,TV 42,TV 43,TV 44,TV 45,TV 46,TV 47,TV 48,TV 49,TV 50,TV 51,TV 52]from rfl,f2,f3,f8,f9,hdf]at hac;simp only[Option.getD_some]at hac;subst hac;clear hTV f2 f3 f8 f9;have x0:yw.cell? ⟨w.heap.size,0,none⟩=some (.slice sa r sc):=BB.out.now.2.1.cell 0;have y0:yw.cell? ⟨w.heap.size+1,0,none⟩=some (.slice sa2 q sc2):=BB.out.now.1.cell 0;have hK:=HKK.out;have hb:=HB.out;clear HKK HB
    by_cases hL:L=1
    · have dL : ((L : Int) == 1) = true := beq_iff_eq.2 (by omega)
      by_cases hM:M=1
      · have dM:((M:Int) != 1)=false:=by rw[hM];rfl
        have dN:((M:Int)==1)=true:=beq_iff_eq.2 (by omega)
        by_cases hrq:r<q
        · have d3:(r:Int)<(q:Int):=by omega
          have HK:Hid (K=1):=Lib.hid (by rw[← hK,if_neg (by rw[hb];decide),if_pos (by omega)]);clear hK hb;clear hL hM hrq;have HE:=Lib.hid (FitTold.ok1 (S:=S) (r:=r) HK.out K2.out BB.out.below);go_wp2;exact bodyPost_ret (v:=.tuple #[.slice sa2 q sc2,.bool true,.bool false,.int .i64 0]) (by simp[results,Tryz.results30,go_sem]) rfl HE.out
        · have d3:¬(r:Int)<(q:Int):=by omega
          have HK:Hid (K=2):=Lib.hid (by rw[← hK,if_neg (by rw[hb];decide),if_neg (by omega),if_pos (by omega)]);clear hK hb;clear hL hM hrq;have HE:=Lib.hid (FitTold.ok2 (T:=T) (q:=q) HK.out K1.out BB.out.below);go_wp2;exact bodyPost_ret (v:=.tuple #[.slice sa r sc,.bool false,.bool true,.int .i64 0]) (by simp[results,Tryz.results30,go_sem]) rfl HE.out
      · have dM:((M:Int) != 1)=true:=bne_iff_ne.2 (by omega);have HK:Hid (K=1):=Lib.hid (by rw[← hK,if_neg (by rw[hb];decide),if_pos (by omega)]);clear hK hb;clear hL hM;have HE:=Lib.hid (FitTold.ok1 (S:=S) (r:=r) HK.out K2.out BB.out.below);go_wp2;exact bodyPost_ret (v:=.tuple #[.slice sa2 q sc2,.bool true,.bool false,.int .i64 0]) (by simp[results,Tryz.results30,go_sem]) rfl HE.out
    · have dL : ((L : Int) == 1) = false := beq_eq_false_iff_ne.2 (by omega)
      by_cases hM:M=1
      · have dM:((M:Int) != 1)=false:=by rw[hM];rfl
        have dN:((M:Int)==1)=true:=beq_iff_eq.2 (by omega);have HK:Hid (K=2):=Lib.hid (by rw[← hK,if_neg (by rw[hb];decide),if_neg (by omega),if_pos (by omega)]);clear hK hb;clear hL hM;have HE:=Lib.hid (FitTold.ok2 (T:=T) (q:=q) HK.out K1.out BB.out.below);go_wp2;exact bodyPost_ret (v:=.tuple #[.slice sa r sc,.bool false,.bool true,.int .i64 0]) (by simp[results,Tryz.results30,go_sem]) rfl HE.out
      · have dM:((M:Int) != 1)=true:=bne_iff_ne.2 (by omega);have dN:((M:Int)==1)=false:=beq_eq_false_iff_ne.2 (by omega)
        by_cases hrq:r=q
        · have d3:((r:Int) != (q:Int))=false:=by rw[hrq];exact bne_self_eq_false _
          have HK:Hid (K=4):=Lib.hid (by rw[← hK,if_neg (by rw[hb];decide),if_neg (by omega),if_neg (by omega),if_neg (by omega)]);clear hK hb;clear hL hM hrq;have HE:=Lib.hid (FitTold.nul (k:=K) (by rw[HK.out];decide) S r T q BB.out.below (E:=24) (by rw[HK.out];rfl));go_wp2;exact bodyPost_ret (v:=.tuple #[.slice none 0 0,.bool false,.bool false,.int .i64 24]) (by simp[results,Tryz.results30,go_sem]) rfl HE.out
        · have d3:((r:Int) != (q:Int))=true:=bne_iff_ne.2 (by omega);have HK:Hid (K=3):=Lib.hid (by rw[← hK,if_neg (by rw[hb];decide),if_neg (by omega),if_neg (by omega),if_pos (by omega)]);clear hK hb;clear hL hM hrq;have HE:=Lib.hid (FitTold.nul (k:=K) (by rw[HK.out];decide) S r T q BB.out.below (E:=23) (by rw[HK.out];rfl));go_wp2;exact bodyPost_ret (v:=.tuple #[.slice none 0 0,.bool false,.bool false,.int .i64 23]) (by simp[results,Tryz.results30,go_sem]) rfl HE.out
  refine Stps2.cons (o:=_) ?_ ?_
  · intro ac yw hsz hold hB hp K hK;have t2:ac.tmps[2]? = some (.pointer (some ⟨w.heap.size,0,none⟩)):=hold 2 (by kernel_rfl);clear hold hp hsz;rw[if_pos (by rfl)];refine ldP 2 rfl (w.heap.size) ((plC sa r sc ch ta (tnO ch L) tc na (nnO ch L) nc)) t2 (RW0.out _ hB.below) (rfl) ?_;exact hK.out _ _ ⟨hB,rfl,Nat.le_refl _,.inl (Below.refl _ _),fun h=>absurd h (by decide)⟩
  refine Stps2.cons (o:=_) ?_ ?_
  · intro ac yw hsz hold hB hp K hK;have e0:=hp 0 (by decide);have t17:ac.tmps[17]? = some (.agg (plC sa r sc ch ta (tnO ch L) tc na (nnO ch L) nc)):=(List.cons.inj e0).1;clear hold hp hsz e0;go_simp
    (go_at_call 32;(refine(LN0.out _ (H0.out.below (BB.out.go hB.below).below)).mono ?_);rintro e wz ⟨rfl,hbz⟩)
    exact hK.out _ _ ⟨hB.go hbz,rfl,hbz.size,.inl hbz,fun h=>absurd h (by decide)⟩
  refine Stps2.cons (o:=_) ?_ ?_
  · intro ac yw hsz hold hB hp K hK;have t3:ac.tmps[3]? = some (.pointer (some ⟨w.heap.size+1,0,none⟩)):=hold 3 (by kernel_rfl);clear hold hp hsz;rw[if_pos (by rfl)];refine ldP 3 rfl (w.heap.size+1) ((plC sa2 q sc2 ch2 ta2 (tnO ch2 M) tc2 na2 (nnO ch2 M) nc2)) t3 (RW1.out _ hB.below) (rfl) ?_;exact hK.out _ _ ⟨hB,rfl,Nat.le_refl _,.inl (Below.refl _ _),fun h=>absurd h (by decide)⟩
  refine Stps2.cons (o:=_) ?_ ?_
  · intro ac yw hsz hold hB hp K hK;have e2:=hp 2 (by decide);have t19:ac.tmps[19]? = some (.agg (plC sa2 q sc2 ch2 ta2 (tnO ch2 M) tc2 na2 (nnO ch2 M) nc2)):=(List.cons.inj e2).1;clear hold hp hsz e2;go_simp
    (go_at_call 32;(refine(LN1.out _ (H1.out.below (BB.out.go hB.below).below)).mono ?_);rintro e wz ⟨rfl,hbz⟩)
    exact hK.out _ _ ⟨hB.go hbz,rfl,hbz.size,.inl hbz,fun h=>absurd h (by decide)⟩
  refine Stps2.cons (o:=_) ?_ ?_
  · intro ac yw hsz hold hB hp K hK;have e1:=hp 1 (by decide);have t18:ac.tmps[18]? = some (.int .i64 L):=(List.cons.inj e1).1;clear hold hp hsz e1;go_simp;exact hK.out _ _ ⟨hB,rfl,Nat.le_refl _,.inl (Below.refl _ _),fun h=>absurd h (by decide)⟩
  refine Stps2.cons (o:=_) ?_ ?_
  · intro ac yw hsz hold hB hp K hK;have e3:=hp 3 (by decide);have t20:ac.tmps[20]? = some (.int .i64 M):=(List.cons.inj e3).1;clear hold hp hsz e3;go_simp;exact hK.out _ _ ⟨hB,rfl,Nat.le_refl _,.inl (Below.refl _ _),fun h=>absurd h (by decide)⟩
  exact Stps2.nil _
end Go.Proofs.YtdmmenaejkpnjaaGreatDoor
namespace Go.Proofs.YtdmmenaejkpnjaaGreatDoor
open Go.ChangeShapes Go.WideShapes Go.ChangeAt Go.RowKit
theorem in64_of{f:Nat->Int}{n:Nat}(h:∀j,j<n->(Lit.int .i64 (f j)).wf=true):In64 f n:=fun j hj=>by
 simpa[Lit.wf,IntKind.min,IntKind.max,IntKind.signed,IntKind.bits]using h j hj
section
variable {H:Type} {enc:TypeId × Value->H} {P:Program} {w:World} {base:Nat} {spare:Nat->Bool} {held:Bool}
end
end Go.Proofs.YtdmmenaejkpnjaaGreatDoor
namespace Go.Proofs.YtdmmenaejkpnjaaGreatDoor
open Go.ChangeShapes Go.WideShapes Go.ChangeAt Go.RowKit Go.WideMaps Go.WideElems Go.Deep
theorem cellsNum:Tryz.prog.cellsOf 46=3:=by kernel_rfl
theorem cellsBool:Tryz.prog.cellsOf 4=1:=by kernel_rfl
theorem cellsStr:Tryz.prog.cellsOf 9=1:=by kernel_rfl
end Go.Proofs.YtdmmenaejkpnjaaGreatDoor
namespace Go.Proofs.YtdmmenaejkpnjaaGreatDoor
open Go.ChangeShapes Go.WideShapes Go.ChangeAt Go.RowKit Go.WideMaps Go.WideElems Go.Deep Go.Joins
theorem krow_cells {H : Type} {enc : TypeId × Value -> H} {P : Program} {w : World} {base : Nat} {t e : TypeId} {ki : IntKind} {cs : List Value} {fuel : Nat} {x : DataW H × List MemPlace} (ht : P.underlying t = some (.slice e)) (he : P.underlying e = some (.int ki)) (hc : P.cellsOf e = 1)
    (h:DataW.trod enc P w base (fun _=>true) true fuel t cs=some x) :
    ∃a n c f,cs = [.slice a n c]/\KRow w ki a n c f/\∀j,j<n->(Lit.int ki (f j)).wf=true:=by
 rcases open_ints ht he hc h with ⟨hcs,_⟩|⟨a,len,cap,zs,hcs,_,hl,hmx,hz,_,hcell,hwz⟩
 · exact⟨none,0,0,fun _=>0,hcs,⟨Nat.le_refl _,Nat.zero_le _,.inl rfl⟩,fun j hj=>absurd hj (Nat.not_lt_zero _)⟩
 · simp only [if_true] at hz
   refine⟨some a,len,cap,fun j=>zs.getD j 0,hcs,⟨hl,hmx,?_⟩,fun j hj => ?_⟩
   · rcases Nat.eq_zero_or_pos len with h0|h0
     · exact .inl h0
     · obtain⟨b,off,spot⟩:=a;have hspot:spot=none:=by simpa[Addr.add]using World.cell?_spot (hcell 0 (by omega))
       subst hspot;have h1:∀j,j<zs.length->w.cell? ⟨b,off+j,none⟩=some (.int ki (zs.getD j 0)):=fun j hj=>by rw[← add_plain];exact hcell j hj
       exact .inr ⟨b,off,rfl,World.block_lt_of_cell? w _ (h1 0 (by omega)),fun j hj=>h1 j (by omega)⟩
   · refine hwz _ ?_;have:zs.getD j 0=zs[j]'(by omega):=by simp[List.getD,show j<zs.length by omega]
     show zs.getD j 0 ∈ zs
     rw[this];exact List.getElem_mem _
theorem qrow_cells {H : Type} {enc : TypeId × Value -> H} {w : World} {base : Nat} {cs : List Value} {fuel : Nat} {x : DataW H × List MemPlace}
    (h:DataW.trod enc Tryz.prog w base (fun _=>true) true fuel 24 cs=some x) :
    ∃a n c fB fS fT,cs = [.slice a n c]/\QRow w a n c fB fS fT/\∀j,j<n->(fS j).size<=maxLen/\(fT j).size<=maxLen:=by
 rcases open_slice Tryz.underlying24 h with ⟨hcs,_⟩|⟨a,len,cap,m,n,D,Pl,hcs,hb,hl,hm,hmm,rfl,hx⟩
 · exact⟨none,0,0,fun _=>false,fun _=>⟨#[]⟩,fun _=>⟨#[]⟩,hcs,QRow.nought _ _ _ (Nat.zero_le _) _ _ _,fun j hj=>absurd hj (Nat.not_lt_zero _)⟩
 · simp only[if_true]at hmm;subst hmm;obtain⟨b,off,spot⟩:=a
   rcases Nat.eq_zero_or_pos len with h0|h0
   · subst h0;exact⟨_,0,_,fun _=>false,fun _=>⟨#[]⟩,fun _=>⟨#[]⟩,hcs,QRow.nought _ _ _ hm _ _ _,fun j hj=>absurd hj (Nat.not_lt_zero _)⟩
   have each:∀i,i<m->∃q:Bool × ByteArray × ByteArray,w.cell? ((⟨b,off,spot⟩:Addr).add (i*3))=some (.bool q.1)/\w.cell? ((⟨b,off,spot⟩:Addr).add (i*3+1))=some (.string q.2.1)/\w.cell? ((⟨b,off,spot⟩:Addr).add (i*3+2))=some (.string q.2.2)/\q.2.1.size<=maxLen/\q.2.2.size<=maxLen:=by
    intro i hi;obtain⟨cs',h1,h2⟩:=hx i hi;rw[cellsNum]at h1;obtain⟨_,hlen,hcell⟩:=World.cells?_some h1;obtain⟨y0,y1,y2,k,hxx,_,hy0,hy1,hy2⟩:=trod_struct3 Tryz.underlying46 h2
    match cs',hlen with
    | [c0,c1,c2],_ =>
     obtain⟨u,e0,rfl⟩:=DataW.trod_bool Tryz.underlying4 hy0;obtain⟨s,e1,rfl,hs⟩:=DataW.trod_string Tryz.underlying9 hy1;obtain⟨t,e2,rfl,ht⟩:=DataW.trod_string Tryz.underlying9 hy2
     simp[cellsBool]at e0
     simp[cellsStr]at e1 e2
     subst e0 e1 e2;have g0:=hcell 0 (by omega);have g1:=hcell 1 (by omega);have g2:=hcell 2 (by omega);rw[add_add]at g0 g1 g2;exact⟨(u,s,t),by simpa using g0,by simpa using g1,by simpa using g2,hs,ht⟩
   obtain⟨q,hq⟩:=choose_lt each;have hspot:spot=none:=by simpa[Addr.add]using World.cell?_spot (hq 0 (by omega)).1
   subst hspot
   refine⟨_,_,_,fun j=>(q j).1,fun j=>(q j).2.1,fun j=>(q j).2.2,hcs,⟨hl,hm,.inr ⟨b,off,rfl,?_,fun j hj => ?_⟩⟩,fun j hj=>⟨(hq j (by omega)).2.2.2.1,(hq j (by omega)).2.2.2.2⟩⟩
   · exact World.block_lt_of_cell? w ⟨b,off+0*3,none⟩ (by rw[← add_plain];exact(hq 0 (by omega)).1)
   · have:=hq j (by omega);simp only[add_plain]at this;exact⟨this.1,this.2.1,this.2.2.1⟩
theorem cellsPln:Tryz.prog.cellsOf 26=4:=by kernel_rfl
theorem cellsSlI:Tryz.prog.cellsOf 22=1:=by kernel_rfl
theorem cellsSlR:Tryz.prog.cellsOf 23=1:=by kernel_rfl
theorem cellsSlN:Tryz.prog.cellsOf 24=1:=by kernel_rfl
theorem cellsI:Tryz.prog.cellsOf 3=1:=by kernel_rfl
theorem cellsC:Tryz.prog.cellsOf 21=1:=by kernel_rfl
theorem open_pln {H : Type} {enc : TypeId × Value -> H} {W : World} {r : Reach} {b0 : Nat} {v0 : Value} {d0 : DataW H} {p0 : List MemPlace}
    (hv:Value.okWide Tryz.prog W r b0 26 v0) (h0:DataW.Trod enc Tryz.prog W 0 (fun _=>true) true 26 v0 d0 p0) :
    ∃cs S q ch g tn fB fS fT nn,v0=.agg cs/\PlnAt W cs S q ch g tn fB fS fT nn/\In64 S q/\∀j,j<nn->(fS j).size<=maxLen/\(fT j).size<=maxLen:=by
 obtain⟨cs,rfl,hsz⟩:=okWide_struct Tryz.underlying26 hv;rw[cellsPln]at hsz;obtain⟨l⟩:=cs
 match l,hsz with
 | [c0,c1,c2,c3],_ =>
 obtain⟨fuel,hf⟩:=h0;obtain⟨y0,y1,y2,y3,m,hx,_,hy0,hy1,hy2,hy3⟩:=trod_struct4 Tryz.underlying26 hf;obtain⟨sa,r,sc,S,e0,k0,w0⟩:=krow_cells (ki:=.i64) Tryz.underlying22 Tryz.underlying3 cellsI hy0;obtain⟨ch,e1,rfl⟩:=DataW.trod_bool Tryz.underlying4 hy1;obtain⟨ta,tn,tc,g,e2,k2,w2⟩:=krow_cells (ki:=.i32) Tryz.underlying23 Tryz.underlying21 cellsC hy2;obtain⟨na,nn,nc,fB,fS,fT,e3,k3,w3⟩:=qrow_cells hy3
 simp[Value.cells,cellsSlI]at e0
 simp[Value.cells,cellsBool]at e1
 simp[Value.cells,cellsSlR]at e2
 simp[Value.cells,cellsSlN]at e3
 subst e0 e1 e2 e3;exact⟨_,S,r,ch,g,tn,fB,fS,fT,nn,rfl,⟨sa,sc,ta,tc,na,nc,rfl,k0,k2,k3⟩,in64_of w0,w3⟩
end Go.Proofs.YtdmmenaejkpnjaaGreatDoor
