/-
  Texts of this seat, laid together.
-/
import Derived.Shelf.Abstract
import Derived.Lib.AppendZeros
import Derived.Laws.AppendOwnNone
import Derived.Laws.EntriesVeiled
import Derived.Test.YtdmmenaejkpnjaaGreatDoorF10
set_option maxHeartbeats 12800000
set_option maxRecDepth 100000
set_option linter.unusedSimpArgs false
set_option linter.unusedVariables false
namespace Go.Proofs.YtdmmenaejkpnjaaGreatDoor
open Go.RowKit
attribute [local go_sem ↓] Go.wp_at_zero Go.wp_at_succ
theorem ofO_all(b:Bool)(s t:ByteArray):ofO b s t=(okB s.data.toList&&(okB t.data.toList&&(decide (str (dec (numOf s.data.toList))=s)&&(decide (str (dec (numOf t.data.toList))=t)&&(!decide (numOf t.data.toList=0)&&(decide (Nat.gcd (numOf s.data.toList) (numOf t.data.toList)=1) && !(b&&decide (numOf s.data.toList=0)))))))):=by
 unfold ofO ofK ofP ofQ
 by_cases h0:numOf t.data.toList=0
 · rw[decide_eq_true h0];simp
 · rw[of_right b s t (by omega),decide_eq_false h0]
   cases okB s.data.toList<;>cases okB t.data.toList<;>simp
theorem str_beq(s t:ByteArray):(s.toList==t.toList)=decide (s=t):=by
 rw[Bool.eq_iff_iff,beq_iff_eq,decide_eq_true_eq]
 constructor
 · intro h;rw[ByteArray.toList_eq,ByteArray.toList_eq]at h;exact ByteArray.ext (Array.toList_inj.1 h)
 · intro h;rw[h]
theorem r3Right_any (b : Bool) (s t : ByteArray) (w : World) (hs : s.size <= 60) (ht : t.size <= 60) :
    Calls Tryz.prog 54 #[.agg #[.bool b,.string s,.string t]] w fun e w'=>e=.returned (.bool (ofO b s t))/\Below w.heap.size w w':=by
 rw[ofO_all];have BB:=Lib.hid ((Bag.start w).box3 (.bool b) (.string s) (.string t) 46);have R1:=Lib.hid (fun wz=>right_any s wz (by unfold maxLen;omega));have R2:=Lib.hid (fun wz=>right_any t wz (by unfold maxLen;omega))
 have TR:∀(u:ByteArray) (hu:u.size<=60) (h:okB u.data.toList=true) wz,Calls Tryz.prog 111 #[.string u] wz fun e w'=>e=.returned (.string (str (dec (numOf u.data.toList))))/\wz=w':=by
  intro u hu h wz;obtain⟨g1,g2,g3⟩:=okB_digs h;have hl:u.data.toList.length=u.size:=rfl;have:=trim_any (numOf u.data.toList) u.data.toList.length wz g1 (numOf_lt _ g3) (by omega);rw[sdig_numOf _ g3]at this;exact this
 have T1:=Lib.hid (fun wz h=>TR s hs h wz);have T2:=Lib.hid (fun wz h=>TR t ht h wz)
 have hl1:dl (numOf s.data.toList)<=900∨okB s.data.toList=false:=by
  cases h:okB s.data.toList with
  | false=>exact .inr rfl
  | true =>
   obtain⟨g1,g2,g3⟩:=okB_digs h;exact .inl (Nat.le_trans (dl_le _ _ g1 (numOf_lt _ g3)) (by have:s.data.toList.length=s.size:=rfl;omega))
 obtain⟨E,hE⟩:∃E,E=1000:=⟨_,rfl⟩
 have hl2:(dl (numOf t.data.toList)<=900/\numOf t.data.toList<2^E)∨okB t.data.toList=false:=by
  cases h:okB t.data.toList with
  | false=>exact .inr rfl
  | true =>
   obtain⟨g1,g2,g3⟩:=okB_digs h;have hl:t.data.toList.length=t.size:=rfl;refine .inl ⟨Nat.le_trans (dl_le _ _ g1 (numOf_lt _ g3)) (by omega),Nat.lt_of_lt_of_le (numOf_lt _ g3) (Nat.le_trans (Nat.pow_le_pow_right (by omega) (show t.data.toList.length<=60 by omega)) ?_)⟩;exact Nat.le_trans (Nat.pow_le_pow_left (show 10<=2^4 by decide) 60) (by rw[← Nat.pow_mul];exact Nat.pow_le_pow_right (by omega) (by omega))
 generalize hN:numOf s.data.toList=N at *;generalize hM:numOf t.data.toList=M at *
 have GC:∀wz,okB s.data.toList=true->okB t.data.toList=true->str (dec N)=s->str (dec M)=t->Calls Tryz.prog 112 #[.string s,.string t] wz fun e w'=>e=.returned (.string (str (dec (Nat.gcd N M))))/\Below wz.heap.size wz w':=by
  intro wz h1 h2 h3 h4;have:=rgcd_any N M wz (by rcases hl1 with h|h;exact h;rw[h1]at h;cases h) (by rcases hl2 with h|h;exact h.1;rw[h2]at h;cases h) E (by omega) (by rcases hl2 with h|h;exact h.2;rw[h2]at h;cases h);rw[h3,h4]at this;exact this
 have hz1:decide (M=0)=((str (dec M)).toList == [48]):=(dec_isnt0 M).symm;have hz0:decide (N=0)=((str (dec N)).toList == [48]):=(dec_isnt0 N).symm;have hg1:decide (Nat.gcd N M=1)=((str (dec (Nat.gcd N M))).toList == [49]):=(dec_is1 _).symm;generalize okB s.data.toList=r1 at *;generalize okB t.data.toList=r2 at *;have d1:=str_beq (str (dec N)) s;have d2:=str_beq (str (dec M)) t;rw[← d1,← d2,hz1,hz0,hg1];have GC:=Lib.hid GC;generalize str (dec (Nat.gcd N M))=gg at *;generalize str (dec N)=s1 at *;generalize str (dec M)=t1 at *;have D1:Hid ((s1.toList==s.toList)=true->s1=s):=fun h=>of_decide_eq_true (d1.symm.trans h)
 have D2:Hid ((t1.toList==t.toList)=true->t1=t):=fun h=>of_decide_eq_true (d2.symm.trans h)
 clear TR hl1 hl2 hN hM hs ht hz1 hz0 hg1 d1 d2;obtain⟨e1,he1⟩:∃e,(s1.toList==s.toList)=e:=⟨_,rfl⟩
 obtain⟨e2,he2⟩:∃e,(t1.toList==t.toList)=e:=⟨_,rfl⟩
 obtain⟨z,hz⟩:∃e,(t.toList == [48])=e:=⟨_,rfl⟩
 obtain⟨x13,h13⟩:∃x,x=(!r1 || !r2):=⟨_,rfl⟩
 obtain⟨x21,h21⟩:∃x,x=(x13 || !e1):=⟨_,rfl⟩
 obtain⟨x29,h29⟩:∃x,x=(x21 || !e2):=⟨_,rfl⟩
 obtain⟨x33,h33⟩:∃x,x=(x29||z):=⟨_,rfl⟩
 have OR:∀x y z:Bool,z=(x||y)->((x=true->z=true)/\(x=false->z=y)):=by intro x y z h;subst h;cases x<;>simp
 have P1:Hid ((!r1)=true->x13=true):=(OR _ _ _ h13).1;have Q1:Hid ((!r1)=false->x13 = !r2):=(OR _ _ _ h13).2;have P2:Hid (x13=true->x21=true):=(OR _ _ _ h21).1;have Q2:Hid (x13=false->x21 = !e1):=(OR _ _ _ h21).2;have P3:Hid (x21=true->x29=true):=(OR _ _ _ h29).1;have Q3:Hid (x21=false->x29 = !e2):=(OR _ _ _ h29).2;have P4:Hid (x29=true->x33=true):=(OR _ _ _ h33).1;have Q4:Hid (x29=false->x33=z):=(OR _ _ _ h33).2;have N1:Hid (x13=false->r1=true):=by intro h;rw[h]at h13;cases r1;cases h13;rfl
 have N2:Hid (x21=false->r2=true):=by intro h;rw[h]at h21;cases hx:x13;rw[hx]at h13;cases r2;cases r1<;>cases h13;rfl;rw[hx]at h21;cases h21
 have LAST0:(x33=true->∀G,(r1&&(r2&&(e1&&(e2&&(!(t1.toList == [48])&&G)))))=false)/\(x33=false->r1=true/\r2=true/\e1=true/\e2=true/\z=false):=by
  rw[h33,h29,h21,h13]
  refine⟨fun h G => ?_,fun h => ?_⟩
  · cases hh:e2 with
    | false=>simp
    | true =>
     have h4:=D2.out (he2.trans hh);rw[h4,hz];rw[hh]at h
     cases r1<;>cases r2<;>cases e1<;>cases z<;>first|rfl|cases h
  · cases r1<;>cases r2<;>cases e1<;>cases e2<;>cases z<;>first|exact⟨rfl,rfl,rfl,rfl,rfl⟩|cases h
 have LAST:=Lib.hid LAST0;rw[he1,he2];clear LAST0 hE OR h13 h21 h29 h33;go_enter Tryz.func54,Tryz.ntmps54;go_wp2_with fail
 refine wp_region_inv ⟨(fun j=>([[3], [4], [5], [6], [7], [8], [9], [10], [11], [12], [13], [14], [15], [16], [17], [18], [19], [20], [21], [22], [23], [24], [25], [26], [27], [28], [29], [30], [31], [32], [33]]:List (List Nat)).getD j []),(fun j=>([[], [0], [0,1], [0,1,2], [0,1,2,3], [0,1,2,3,4], [0,1,2,3,4,5], [0,1,2,3,4,5,6], [0,1,2,3,4,5,6,7], [0,1,2,3,4,5,6,7,8], [0,1,2,3,4,5,6,7,8,9], [0,1,2,3,4,5,6,7,8,9,10], [0,1,2,3,4,5,6,7,8,9,10,11], [0,1,2,3,4,5,6,7,8,9,10,11,12], [0,1,2,3,4,5,6,7,8,9,10], [0,1,2,3,4,5,6,7,8,9,10,14], [0,1,2,3,4,5,6,7,8,9,10,11,12,13,14,15], [0,1,2,3,4,5,6,7,8,9,10,11,12,13,14,15,16], [0,1,2,3,4,5,6,7,8,9,10,11,12,13,14,15,16,17], [0,1,2,3,4,5,6,7,8,9,10,11,12,13,14,15,16,17,18], [0,1,2,3,4,5,6,7,8,9,10,11,12,13,14,15,16,17,18,19], [0,1,2,3,4,5,6,7,8,9,10,11,12,13,14,15,16,17,18,19,20], [0,1,2,3,4,5,6,7,8,9,10,11,12,13,14,15,16,17,18], [0,1,2,3,4,5,6,7,8,9,10,11,12,13,14,15,16,17,18,22], [0,1,2,3,4,5,6,7,8,9,10,11,12,13,14,15,16,17,18,19,20,21,22,23], [0,1,2,3,4,5,6,7,8,9,10,11,12,13,14,15,16,17,18,19,20,21,22,23,24], [0,1,2,3,4,5,6,7,8,9,10,11,12,13,14,15,16,17,18,19,20,21,22,23,24,25], [0,1,2,3,4,5,6,7,8,9,10,11,12,13,14,15,16,17,18,19,20,21,22,23,24,25,26], [0,1,2,3,4,5,6,7,8,9,10,11,12,13,14,15,16,17,18,19,20,21,22,23,24,25,26,27], [0,1,2,3,4,5,6,7,8,9,10,11,12,13,14,15,16,17,18,19,20,21,22,23,24,25,26,27,28], [0,1,2,3,4,5,6,7,8,9,10,11,12,13,14,15,16,17,18,19,20,21,22,23,24,25,26,27,28,29]]:List (List Nat)).getD j []), []⟩ (fun jj vv yy=>match jj with|0=>vv = [some (.pointer (some ⟨w.heap.size,1,none⟩))]|1=>vv = [some (.string s)]|2=>vv = [some (.bool r1)]|3=>vv = [some (.bool (!r1))]|4=>vv = [some (.bool (!r1))]|5=>((!r1)=false)->(vv = [some (.pointer (some ⟨w.heap.size,2,none⟩))])|6=>((!r1)=false)->(vv = [some (.string t)])|7=>((!r1)=false)->(vv = [some (.bool r2)])|8=>((!r1)=false)->(vv = [some (.bool (!r2))])|9=>vv = [some (.bool x13)]|10=>vv = [some (.bool x13)]|11=>(x13=false)->(vv = [some (.pointer (some ⟨w.heap.size,1,none⟩))])|12=>(x13=false)->(vv = [some (.string s)])|13=>(x13=false)->(vv = [some (.string s1)])|14=>(x13=false)->(vv = [some (.pointer (some ⟨w.heap.size,1,none⟩))])|15=>(x13=false)->(vv = [some (.string s)])|16=>(x13=false)->(vv = [some (.bool (!e1))])|17=>vv = [some (.bool x21)]|18=>vv = [some (.bool x21)]|19=>(x21=false)->(vv = [some (.pointer (some ⟨w.heap.size,2,none⟩))])|20=>(x21=false)->(vv = [some (.string t)])|21=>(x21=false)->(vv = [some (.string t1)])|22=>(x21=false)->(vv = [some (.pointer (some ⟨w.heap.size,2,none⟩))])|23=>(x21=false)->(vv = [some (.string t)])|24=>(x21=false)->(vv = [some (.bool (!e2))])|25=>vv = [some (.bool x29)]|26=>vv = [some (.bool x29)]|27=>(x29=false)->(vv = [some (.pointer (some ⟨w.heap.size,2,none⟩))])|28=>(x29=false)->(vv = [some (.string t)])|29=>(x29=false)->(vv = [some (.bool z)])|30=>vv = [some (.bool x33)]|_=>True) (Bag w (fun y=>Slot3 y w.heap.size (.bool b) (.string s) (.string t)/\True)) (by kernel_rfl) (by kernel_rfl) (by kernel_rfl) BB.out.drew ?_ ?_ ?_
 · intro jj vv yw yw2 hb h
   match jj,h with
   | 0,h=>exact h
   | 1,h=>exact h
   | 2,h=>exact h
   | 3,h=>exact h
   | 4,h=>exact h
   | 5,h=>exact h
   | 6,h=>exact h
   | 7,h=>exact h
   | 8,h=>exact h
   | 9,h=>exact h
   | 10,h=>exact h
   | 11,h=>exact h
   | 12,h=>exact h
   | 13,h=>exact h
   | 14,h=>exact h
   | 15,h=>exact h
   | 16,h=>exact h
   | 17,h=>exact h
   | 18,h=>exact h
   | 19,h=>exact h
   | 20,h=>exact h
   | 21,h=>exact h
   | 22,h=>exact h
   | 23,h=>exact h
   | 24,h=>exact h
   | 25,h=>exact h
   | 26,h=>exact h
   | 27,h=>exact h
   | 28,h=>exact h
   | 29,h=>exact h
   | 30,h=>exact h
   | _+31,h=>exact h
 · intro ac yw hsz hdf hold hB hp;have t33:ac.tmps[33]? = some (.bool x33):=(List.cons.inj (hp 30 (by decide))).1;have t1':ac.tmps[1]? = some (.pointer (some ⟨w.heap.size,0,none⟩)):=hold 1 (by kernel_rfl);clear hold hp;have⟨q0,q1,q2⟩:=hB.now.1.c3;obtain⟨F,hF⟩:∃F:Nat->Value,∀i,(ac.tmps[i]?).getD undef=F i:=⟨_,fun _=>rfl⟩
   have f33:=(hF 33).symm.trans (congrArg (fun x=>Option.getD x undef) t33);have f1:=(hF 1).symm.trans (congrArg (fun x=>Option.getD x undef) t1');have hac:=act_eq (n:=50) hsz F hF;rw[show((List.range 50).map F).toArray=#[F 0,F 1,F 2,F 3,F 4,F 5,F 6,F 7,F 8,F 9,F 10,F 11,F 12,F 13,F 14,F 15,F 16,F 17,F 18,F 19,F 20,F 21,F 22,F 23,F 24,F 25,F 26,F 27,F 28,F 29,F 30,F 31,F 32,F 33,F 34,F 35,F 36,F 37,F 38,F 39,F 40,F 41,F 42,F 43,F 44,F 45,F 46,F 47,F 48,F 49]from rfl,f33,f1,hdf]at hac;simp only[Option.getD_some]at hac;subst hac;clear hF f33 f1;obtain⟨L1,L2⟩:=LAST.out;have BB:=Lib.hid hB;clear LAST P1 Q1 P2 Q2 P3 Q3 P4 Q4 N1 N2 R1 R2 T1 T2 hB
   cases x33 with
   | true =>
    have L3:=Lib.hid (L1 rfl);clear L1 L2 GC he1 he2 hz D1 D2;go_wp2;go_ret;exact⟨congrArg (fun b=>Ending.returned (.bool b)) (L3.out _).symm,BB.out.below⟩
   | false =>
    obtain⟨rfl,rfl,rfl,rfl,rfl⟩:=L2 rfl;obtain rfl:=D1.out he1;obtain rfl:=D2.out he2;have GC2:=Lib.hid (fun wz=>GC.out wz rfl rfl rfl rfl);clear GC;obtain⟨g,hg⟩:∃g,(gg.toList == [49])=g:=⟨_,rfl⟩
    obtain⟨z0,hz0⟩:∃g,(s1.toList == [48])=g:=⟨_,rfl⟩
    have HZ:=Lib.hid (And.intro hz (And.intro hg hz0));clear L1 L2 he1 he2 D1 D2
    cases g<;>cases b<;>cases z0
    all_goals
     go_wp2_with fail;go_at_call 112;(with_reducible refine(GC2.out _).mono ?_);rintro e w2 ⟨rfl,hb2⟩;have BB:=bgo BB hb2;have⟨q0,q1,q2⟩:=BB.out.now.1.c3;go_wp2;go_ret;exact⟨congrArg (fun b=>Ending.returned (.bool b)) (by rw[HZ.out.1,HZ.out.2.1,HZ.out.2.2];rfl),BB.out.below⟩
 refine Stps.cons (o:=_) ?_ ?_
 · intro ac yw hsz hold hB hp K hK;have t1:ac.tmps[1]? = some (.pointer (some ⟨w.heap.size,0,none⟩)):=hold 1 (by kernel_rfl);clear hold hp hsz;go_simp;exact hK.out _ _ ⟨hB,rfl,Nat.le_refl _,.inl (Below.refl _ _),fun h=>absurd h (by decide)⟩
 refine Stps.cons (o:=_) ?_ ?_
 · intro ac yw hsz hold hB hp K hK;have e0:=hp 0 (by decide);have t3:ac.tmps[3]? = some (.pointer (some ⟨w.heap.size,1,none⟩)):=(List.cons.inj e0).1;clear hold hp hsz e0;have⟨q0,q1,q2⟩:=hB.now.1.c3;go_simp;exact hK.out _ _ ⟨hB,rfl,Nat.le_refl _,.inl (Below.refl _ _),fun h=>absurd h (by decide)⟩
 refine Stps.cons (o:=_) ?_ ?_
 · intro ac yw hsz hold hB hp K hK;have e1:=hp 1 (by decide);have t4:ac.tmps[4]? = some (.string s):=(List.cons.inj e1).1;clear hold hp hsz e1;go_simp
   (go_at_call 110;(with_reducible refine(R1.out _).mono ?_);rintro e wz ⟨rfl,rfl⟩;have hbz:=Below.refl yw.heap.size yw)
   exact hK.out _ _ ⟨hB.go hbz,rfl,hbz.size,.inl hbz,fun h=>absurd h (by decide)⟩
 refine Stps.cons (o:=_) ?_ ?_
 · intro ac yw hsz hold hB hp K hK;have e2:=hp 2 (by decide);have t5:ac.tmps[5]? = some (.bool r1):=(List.cons.inj e2).1;clear hold hp hsz e2;go_simp;exact hK.out _ _ ⟨hB,rfl,Nat.le_refl _,.inl (Below.refl _ _),fun h=>absurd h (by decide)⟩
 refine Stps.cons (o:=_) ?_ ?_
 · intro ac yw hsz hold hB hp K hK;have e3:=hp 3 (by decide);have t6:ac.tmps[6]? = some (.bool (!r1)):=(List.cons.inj e3).1;clear hold hp hsz e3;go_simp;exact hK.out _ _ ⟨hB,rfl,Nat.le_refl _,.inl (Below.refl _ _),fun h=>absurd h (by decide)⟩
 refine Stps.cons (o:=_) ?_ ?_
 · intro ac yw hsz hold hB hp K hK;have t7:ac.tmps[7]? = some (.bool (!r1)):=(List.cons.inj (hp 4 (by decide))).1
   by_cases hc:((!r1))=false
   · rw[hc]at t7;rw[if_pos (wanted_pos rfl rfl t7)];have t1:ac.tmps[1]? = some (.pointer (some ⟨w.heap.size,0,none⟩)):=hold 1 (by kernel_rfl);clear hold hp hsz;go_simp;exact hK.out _ _ ⟨hB,fun _=>rfl,Nat.le_refl _,.inl (Below.refl _ _),fun h=>absurd h (by decide)⟩
   · rw[if_neg (by rw[wanted_neg rfl rfl t7 (fun e=>hc (by injection e))];decide)];exact hK.out _ _ ⟨hB,fun h=>absurd h hc,Nat.le_refl _,.inl (Below.refl _ _),fun h=>absurd h (by decide)⟩
 refine Stps.cons (o:=_) ?_ ?_
 · intro ac yw hsz hold hB hp K hK;have t7:ac.tmps[7]? = some (.bool (!r1)):=(List.cons.inj (hp 4 (by decide))).1
   by_cases hc:((!r1))=false
   · rw[hc]at t7;rw[if_pos (wanted_pos rfl rfl t7)];have e5:=hp 5 (by decide) hc;have t8:ac.tmps[8]? = some (.pointer (some ⟨w.heap.size,2,none⟩)):=(List.cons.inj e5).1;clear hold hp hsz e5;have⟨q0,q1,q2⟩:=hB.now.1.c3;go_simp;exact hK.out _ _ ⟨hB,fun _=>rfl,Nat.le_refl _,.inl (Below.refl _ _),fun h=>absurd h (by decide)⟩
   · rw[if_neg (by rw[wanted_neg rfl rfl t7 (fun e=>hc (by injection e))];decide)];exact hK.out _ _ ⟨hB,fun h=>absurd h hc,Nat.le_refl _,.inl (Below.refl _ _),fun h=>absurd h (by decide)⟩
 refine Stps.cons (o:=_) ?_ ?_
 · intro ac yw hsz hold hB hp K hK;have t7:ac.tmps[7]? = some (.bool (!r1)):=(List.cons.inj (hp 4 (by decide))).1
   by_cases hc:((!r1))=false
   · rw[hc]at t7;rw[if_pos (wanted_pos rfl rfl t7)];have e6:=hp 6 (by decide) hc;have t9:ac.tmps[9]? = some (.string t):=(List.cons.inj e6).1;clear hold hp hsz e6;go_simp
     (go_at_call 110;(with_reducible refine(R2.out _).mono ?_);rintro e wz ⟨rfl,rfl⟩;have hbz:=Below.refl yw.heap.size yw)
     exact hK.out _ _ ⟨hB.go hbz,fun _=>rfl,hbz.size,.inl hbz,fun h=>absurd h (by decide)⟩
   · rw[if_neg (by rw[wanted_neg rfl rfl t7 (fun e=>hc (by injection e))];decide)];exact hK.out _ _ ⟨hB,fun h=>absurd h hc,Nat.le_refl _,.inl (Below.refl _ _),fun h=>absurd h (by decide)⟩
 refine Stps.cons (o:=_) ?_ ?_
 · intro ac yw hsz hold hB hp K hK;have t7:ac.tmps[7]? = some (.bool (!r1)):=(List.cons.inj (hp 4 (by decide))).1
   by_cases hc:((!r1))=false
   · rw[hc]at t7;rw[if_pos (wanted_pos rfl rfl t7)];have e7:=hp 7 (by decide) hc;have t10:ac.tmps[10]? = some (.bool r2):=(List.cons.inj e7).1;clear hold hp hsz e7;go_simp;exact hK.out _ _ ⟨hB,fun _=>rfl,Nat.le_refl _,.inl (Below.refl _ _),fun h=>absurd h (by decide)⟩
   · rw[if_neg (by rw[wanted_neg rfl rfl t7 (fun e=>hc (by injection e))];decide)];exact hK.out _ _ ⟨hB,fun h=>absurd h hc,Nat.le_refl _,.inl (Below.refl _ _),fun h=>absurd h (by decide)⟩
 refine Stps.cons (o:=_) ?_ ?_
 · intro ac yw hsz hold hB hp K hK;have t7:ac.tmps[7]? = some (.bool (!r1)):=(List.cons.inj (hp 4 (by decide))).1
   by_cases hc:((!r1))=true
   · rw[hc]at t7;clear hold hp hsz;go_simp;exact hK.out _ _ ⟨hB,congrArg (fun b => [some (Value.bool b)]) (P1.out hc).symm,Nat.le_refl _,.inl (Below.refl _ _),fun h=>absurd h (by decide)⟩
   · have hc:((!r1))=false:=by simpa using hc
     rw[hc]at t7;have t11:ac.tmps[11]? = some (.bool (!r2)):=(List.cons.inj (hp 8 (by decide) hc)).1;clear hold hp hsz;go_simp;exact hK.out _ _ ⟨hB,congrArg (fun b => [some (Value.bool b)]) (Q1.out hc).symm,Nat.le_refl _,.inl (Below.refl _ _),fun h=>absurd h (by decide)⟩
 refine Stps.cons (o:=_) ?_ ?_
 · intro ac yw hsz hold hB hp K hK;have e9:=hp 9 (by decide);have t12:ac.tmps[12]? = some (.bool x13):=(List.cons.inj e9).1;clear hold hp hsz e9;go_simp;exact hK.out _ _ ⟨hB,rfl,Nat.le_refl _,.inl (Below.refl _ _),fun h=>absurd h (by decide)⟩
 refine Stps.cons (o:=_) ?_ ?_
 · intro ac yw hsz hold hB hp K hK;have t13:ac.tmps[13]? = some (.bool x13):=(List.cons.inj (hp 10 (by decide))).1
   by_cases hc:(x13)=false
   · rw[hc]at t13;rw[if_pos (wanted_pos rfl rfl t13)];have t1:ac.tmps[1]? = some (.pointer (some ⟨w.heap.size,0,none⟩)):=hold 1 (by kernel_rfl);clear hold hp hsz;go_simp;exact hK.out _ _ ⟨hB,fun _=>rfl,Nat.le_refl _,.inl (Below.refl _ _),fun h=>absurd h (by decide)⟩
   · rw[if_neg (by rw[wanted_neg rfl rfl t13 (fun e=>hc (by injection e))];decide)];exact hK.out _ _ ⟨hB,fun h=>absurd h hc,Nat.le_refl _,.inl (Below.refl _ _),fun h=>absurd h (by decide)⟩
 refine Stps.cons (o:=_) ?_ ?_
 · intro ac yw hsz hold hB hp K hK;have t13:ac.tmps[13]? = some (.bool x13):=(List.cons.inj (hp 10 (by decide))).1
   by_cases hc:(x13)=false
   · rw[hc]at t13;rw[if_pos (wanted_pos rfl rfl t13)];have e11:=hp 11 (by decide) hc;have t14:ac.tmps[14]? = some (.pointer (some ⟨w.heap.size,1,none⟩)):=(List.cons.inj e11).1;clear hold hp hsz e11;have⟨q0,q1,q2⟩:=hB.now.1.c3;go_simp;exact hK.out _ _ ⟨hB,fun _=>rfl,Nat.le_refl _,.inl (Below.refl _ _),fun h=>absurd h (by decide)⟩
   · rw[if_neg (by rw[wanted_neg rfl rfl t13 (fun e=>hc (by injection e))];decide)];exact hK.out _ _ ⟨hB,fun h=>absurd h hc,Nat.le_refl _,.inl (Below.refl _ _),fun h=>absurd h (by decide)⟩
 refine Stps.cons (o:=_) ?_ ?_
 · intro ac yw hsz hold hB hp K hK;have t13:ac.tmps[13]? = some (.bool x13):=(List.cons.inj (hp 10 (by decide))).1
   by_cases hc:(x13)=false
   · rw[hc]at t13;rw[if_pos (wanted_pos rfl rfl t13)];have e12:=hp 12 (by decide) hc;have t15:ac.tmps[15]? = some (.string s):=(List.cons.inj e12).1;clear hold hp hsz e12;go_simp
     (go_at_call 111;(with_reducible refine(T1.out _ (N1.out hc)).mono ?_);rintro e wz ⟨rfl,rfl⟩;have hbz:=Below.refl yw.heap.size yw)
     exact hK.out _ _ ⟨hB.go hbz,fun _=>rfl,hbz.size,.inl hbz,fun h=>absurd h (by decide)⟩
   · rw[if_neg (by rw[wanted_neg rfl rfl t13 (fun e=>hc (by injection e))];decide)];exact hK.out _ _ ⟨hB,fun h=>absurd h hc,Nat.le_refl _,.inl (Below.refl _ _),fun h=>absurd h (by decide)⟩
 refine Stps.cons (o:=_) ?_ ?_
 · intro ac yw hsz hold hB hp K hK;have t13:ac.tmps[13]? = some (.bool x13):=(List.cons.inj (hp 10 (by decide))).1
   by_cases hc:(x13)=false
   · rw[hc]at t13;rw[if_pos (wanted_pos rfl rfl t13)];have t1:ac.tmps[1]? = some (.pointer (some ⟨w.heap.size,0,none⟩)):=hold 1 (by kernel_rfl);clear hold hp hsz;go_simp;exact hK.out _ _ ⟨hB,fun _=>rfl,Nat.le_refl _,.inl (Below.refl _ _),fun h=>absurd h (by decide)⟩
   · rw[if_neg (by rw[wanted_neg rfl rfl t13 (fun e=>hc (by injection e))];decide)];exact hK.out _ _ ⟨hB,fun h=>absurd h hc,Nat.le_refl _,.inl (Below.refl _ _),fun h=>absurd h (by decide)⟩
 refine Stps.cons (o:=_) ?_ ?_
 · intro ac yw hsz hold hB hp K hK;have t13:ac.tmps[13]? = some (.bool x13):=(List.cons.inj (hp 10 (by decide))).1
   by_cases hc:(x13)=false
   · rw[hc]at t13;rw[if_pos (wanted_pos rfl rfl t13)];have e14:=hp 14 (by decide) hc;have t17:ac.tmps[17]? = some (.pointer (some ⟨w.heap.size,1,none⟩)):=(List.cons.inj e14).1;clear hold hp hsz e14;have⟨q0,q1,q2⟩:=hB.now.1.c3;go_simp;exact hK.out _ _ ⟨hB,fun _=>rfl,Nat.le_refl _,.inl (Below.refl _ _),fun h=>absurd h (by decide)⟩
   · rw[if_neg (by rw[wanted_neg rfl rfl t13 (fun e=>hc (by injection e))];decide)];exact hK.out _ _ ⟨hB,fun h=>absurd h hc,Nat.le_refl _,.inl (Below.refl _ _),fun h=>absurd h (by decide)⟩
 refine Stps.cons (o:=_) ?_ ?_
 · intro ac yw hsz hold hB hp K hK;have t13:ac.tmps[13]? = some (.bool x13):=(List.cons.inj (hp 10 (by decide))).1
   by_cases hc:(x13)=false
   · rw[hc]at t13;rw[if_pos (wanted_pos rfl rfl t13)];have e13:=hp 13 (by decide) hc;have t16:ac.tmps[16]? = some (.string s1):=(List.cons.inj e13).1;have e15:=hp 15 (by decide) hc;have t18:ac.tmps[18]? = some (.string s):=(List.cons.inj e15).1;clear hold hp hsz e13 e15;go_simp;exact hK.out _ _ ⟨hB,fun _=>rfl,Nat.le_refl _,.inl (Below.refl _ _),fun h=>absurd h (by decide)⟩
   · rw[if_neg (by rw[wanted_neg rfl rfl t13 (fun e=>hc (by injection e))];decide)];exact hK.out _ _ ⟨hB,fun h=>absurd h hc,Nat.le_refl _,.inl (Below.refl _ _),fun h=>absurd h (by decide)⟩
 refine Stps.cons (o:=_) ?_ ?_
 · intro ac yw hsz hold hB hp K hK;have t13:ac.tmps[13]? = some (.bool x13):=(List.cons.inj (hp 10 (by decide))).1
   by_cases hc:(x13)=true
   · rw[hc]at t13;clear hold hp hsz;go_simp;exact hK.out _ _ ⟨hB,congrArg (fun b => [some (Value.bool b)]) (P2.out hc).symm,Nat.le_refl _,.inl (Below.refl _ _),fun h=>absurd h (by decide)⟩
   · have hc:(x13)=false:=by simpa using hc
     rw[hc]at t13;have t19:ac.tmps[19]? = some (.bool (!e1)):=(List.cons.inj (hp 16 (by decide) hc)).1;clear hold hp hsz;go_simp;exact hK.out _ _ ⟨hB,congrArg (fun b => [some (Value.bool b)]) (Q2.out hc).symm,Nat.le_refl _,.inl (Below.refl _ _),fun h=>absurd h (by decide)⟩
 refine Stps.cons (o:=_) ?_ ?_
 · intro ac yw hsz hold hB hp K hK;have e17:=hp 17 (by decide);have t20:ac.tmps[20]? = some (.bool x21):=(List.cons.inj e17).1;clear hold hp hsz e17;go_simp;exact hK.out _ _ ⟨hB,rfl,Nat.le_refl _,.inl (Below.refl _ _),fun h=>absurd h (by decide)⟩
 refine Stps.cons (o:=_) ?_ ?_
 · intro ac yw hsz hold hB hp K hK;have t21:ac.tmps[21]? = some (.bool x21):=(List.cons.inj (hp 18 (by decide))).1
   by_cases hc:(x21)=false
   · rw[hc]at t21;rw[if_pos (wanted_pos rfl rfl t21)];have t1:ac.tmps[1]? = some (.pointer (some ⟨w.heap.size,0,none⟩)):=hold 1 (by kernel_rfl);clear hold hp hsz;go_simp;exact hK.out _ _ ⟨hB,fun _=>rfl,Nat.le_refl _,.inl (Below.refl _ _),fun h=>absurd h (by decide)⟩
   · rw[if_neg (by rw[wanted_neg rfl rfl t21 (fun e=>hc (by injection e))];decide)];exact hK.out _ _ ⟨hB,fun h=>absurd h hc,Nat.le_refl _,.inl (Below.refl _ _),fun h=>absurd h (by decide)⟩
 refine Stps.cons (o:=_) ?_ ?_
 · intro ac yw hsz hold hB hp K hK;have t21:ac.tmps[21]? = some (.bool x21):=(List.cons.inj (hp 18 (by decide))).1
   by_cases hc:(x21)=false
   · rw[hc]at t21;rw[if_pos (wanted_pos rfl rfl t21)];have e19:=hp 19 (by decide) hc;have t22:ac.tmps[22]? = some (.pointer (some ⟨w.heap.size,2,none⟩)):=(List.cons.inj e19).1;clear hold hp hsz e19;have⟨q0,q1,q2⟩:=hB.now.1.c3;go_simp;exact hK.out _ _ ⟨hB,fun _=>rfl,Nat.le_refl _,.inl (Below.refl _ _),fun h=>absurd h (by decide)⟩
   · rw[if_neg (by rw[wanted_neg rfl rfl t21 (fun e=>hc (by injection e))];decide)];exact hK.out _ _ ⟨hB,fun h=>absurd h hc,Nat.le_refl _,.inl (Below.refl _ _),fun h=>absurd h (by decide)⟩
 refine Stps.cons (o:=_) ?_ ?_
 · intro ac yw hsz hold hB hp K hK;have t21:ac.tmps[21]? = some (.bool x21):=(List.cons.inj (hp 18 (by decide))).1
   by_cases hc:(x21)=false
   · rw[hc]at t21;rw[if_pos (wanted_pos rfl rfl t21)];have e20:=hp 20 (by decide) hc;have t23:ac.tmps[23]? = some (.string t):=(List.cons.inj e20).1;clear hold hp hsz e20;go_simp
     (go_at_call 111;(with_reducible refine(T2.out _ (N2.out hc)).mono ?_);rintro e wz ⟨rfl,rfl⟩;have hbz:=Below.refl yw.heap.size yw)
     exact hK.out _ _ ⟨hB.go hbz,fun _=>rfl,hbz.size,.inl hbz,fun h=>absurd h (by decide)⟩
   · rw[if_neg (by rw[wanted_neg rfl rfl t21 (fun e=>hc (by injection e))];decide)];exact hK.out _ _ ⟨hB,fun h=>absurd h hc,Nat.le_refl _,.inl (Below.refl _ _),fun h=>absurd h (by decide)⟩
 refine Stps.cons (o:=_) ?_ ?_
 · intro ac yw hsz hold hB hp K hK;have t21:ac.tmps[21]? = some (.bool x21):=(List.cons.inj (hp 18 (by decide))).1
   by_cases hc:(x21)=false
   · rw[hc]at t21;rw[if_pos (wanted_pos rfl rfl t21)];have t1:ac.tmps[1]? = some (.pointer (some ⟨w.heap.size,0,none⟩)):=hold 1 (by kernel_rfl);clear hold hp hsz;go_simp;exact hK.out _ _ ⟨hB,fun _=>rfl,Nat.le_refl _,.inl (Below.refl _ _),fun h=>absurd h (by decide)⟩
   · rw[if_neg (by rw[wanted_neg rfl rfl t21 (fun e=>hc (by injection e))];decide)];exact hK.out _ _ ⟨hB,fun h=>absurd h hc,Nat.le_refl _,.inl (Below.refl _ _),fun h=>absurd h (by decide)⟩
 refine Stps.cons (o:=_) ?_ ?_
 · intro ac yw hsz hold hB hp K hK;have t21:ac.tmps[21]? = some (.bool x21):=(List.cons.inj (hp 18 (by decide))).1
   by_cases hc:(x21)=false
   · rw[hc]at t21;rw[if_pos (wanted_pos rfl rfl t21)];have e22:=hp 22 (by decide) hc;have t25:ac.tmps[25]? = some (.pointer (some ⟨w.heap.size,2,none⟩)):=(List.cons.inj e22).1;clear hold hp hsz e22;have⟨q0,q1,q2⟩:=hB.now.1.c3;go_simp;exact hK.out _ _ ⟨hB,fun _=>rfl,Nat.le_refl _,.inl (Below.refl _ _),fun h=>absurd h (by decide)⟩
   · rw[if_neg (by rw[wanted_neg rfl rfl t21 (fun e=>hc (by injection e))];decide)];exact hK.out _ _ ⟨hB,fun h=>absurd h hc,Nat.le_refl _,.inl (Below.refl _ _),fun h=>absurd h (by decide)⟩
 refine Stps.cons (o:=_) ?_ ?_
 · intro ac yw hsz hold hB hp K hK;have t21:ac.tmps[21]? = some (.bool x21):=(List.cons.inj (hp 18 (by decide))).1
   by_cases hc:(x21)=false
   · rw[hc]at t21;rw[if_pos (wanted_pos rfl rfl t21)];have e21:=hp 21 (by decide) hc;have t24:ac.tmps[24]? = some (.string t1):=(List.cons.inj e21).1;have e23:=hp 23 (by decide) hc;have t26:ac.tmps[26]? = some (.string t):=(List.cons.inj e23).1;clear hold hp hsz e21 e23;go_simp;exact hK.out _ _ ⟨hB,fun _=>rfl,Nat.le_refl _,.inl (Below.refl _ _),fun h=>absurd h (by decide)⟩
   · rw[if_neg (by rw[wanted_neg rfl rfl t21 (fun e=>hc (by injection e))];decide)];exact hK.out _ _ ⟨hB,fun h=>absurd h hc,Nat.le_refl _,.inl (Below.refl _ _),fun h=>absurd h (by decide)⟩
 refine Stps.cons (o:=_) ?_ ?_
 · intro ac yw hsz hold hB hp K hK;have t21:ac.tmps[21]? = some (.bool x21):=(List.cons.inj (hp 18 (by decide))).1
   by_cases hc:(x21)=true
   · rw[hc]at t21;clear hold hp hsz;go_simp;exact hK.out _ _ ⟨hB,congrArg (fun b => [some (Value.bool b)]) (P3.out hc).symm,Nat.le_refl _,.inl (Below.refl _ _),fun h=>absurd h (by decide)⟩
   · have hc:(x21)=false:=by simpa using hc
     rw[hc]at t21;have t27:ac.tmps[27]? = some (.bool (!e2)):=(List.cons.inj (hp 24 (by decide) hc)).1;clear hold hp hsz;go_simp;exact hK.out _ _ ⟨hB,congrArg (fun b => [some (Value.bool b)]) (Q3.out hc).symm,Nat.le_refl _,.inl (Below.refl _ _),fun h=>absurd h (by decide)⟩
 refine Stps.cons (o:=_) ?_ ?_
 · intro ac yw hsz hold hB hp K hK;have e25:=hp 25 (by decide);have t28:ac.tmps[28]? = some (.bool x29):=(List.cons.inj e25).1;clear hold hp hsz e25;go_simp;exact hK.out _ _ ⟨hB,rfl,Nat.le_refl _,.inl (Below.refl _ _),fun h=>absurd h (by decide)⟩
 refine Stps.cons (o:=_) ?_ ?_
 · intro ac yw hsz hold hB hp K hK;have t29:ac.tmps[29]? = some (.bool x29):=(List.cons.inj (hp 26 (by decide))).1
   by_cases hc:(x29)=false
   · rw[hc]at t29;rw[if_pos (wanted_pos rfl rfl t29)];have t1:ac.tmps[1]? = some (.pointer (some ⟨w.heap.size,0,none⟩)):=hold 1 (by kernel_rfl);clear hold hp hsz;go_simp;exact hK.out _ _ ⟨hB,fun _=>rfl,Nat.le_refl _,.inl (Below.refl _ _),fun h=>absurd h (by decide)⟩
   · rw[if_neg (by rw[wanted_neg rfl rfl t29 (fun e=>hc (by injection e))];decide)];exact hK.out _ _ ⟨hB,fun h=>absurd h hc,Nat.le_refl _,.inl (Below.refl _ _),fun h=>absurd h (by decide)⟩
 refine Stps.cons (o:=_) ?_ ?_
 · intro ac yw hsz hold hB hp K hK;have t29:ac.tmps[29]? = some (.bool x29):=(List.cons.inj (hp 26 (by decide))).1
   by_cases hc:(x29)=false
   · rw[hc]at t29;rw[if_pos (wanted_pos rfl rfl t29)];have e27:=hp 27 (by decide) hc;have t30:ac.tmps[30]? = some (.pointer (some ⟨w.heap.size,2,none⟩)):=(List.cons.inj e27).1;clear hold hp hsz e27;have⟨q0,q1,q2⟩:=hB.now.1.c3;go_simp;exact hK.out _ _ ⟨hB,fun _=>rfl,Nat.le_refl _,.inl (Below.refl _ _),fun h=>absurd h (by decide)⟩
   · rw[if_neg (by rw[wanted_neg rfl rfl t29 (fun e=>hc (by injection e))];decide)];exact hK.out _ _ ⟨hB,fun h=>absurd h hc,Nat.le_refl _,.inl (Below.refl _ _),fun h=>absurd h (by decide)⟩
 refine Stps.cons (o:=_) ?_ ?_
 · intro ac yw hsz hold hB hp K hK;have t29:ac.tmps[29]? = some (.bool x29):=(List.cons.inj (hp 26 (by decide))).1
   by_cases hc:(x29)=false
   · rw[hc]at t29;rw[if_pos (wanted_pos rfl rfl t29)];have e28:=hp 28 (by decide) hc;have t31:ac.tmps[31]? = some (.string t):=(List.cons.inj e28).1;clear hold hp hsz e28;go_simp;exact hK.out _ _ ⟨hB,fun _=>rfl,Nat.le_refl _,.inl (Below.refl _ _),fun h=>absurd h (by decide)⟩
   · rw[if_neg (by rw[wanted_neg rfl rfl t29 (fun e=>hc (by injection e))];decide)];exact hK.out _ _ ⟨hB,fun h=>absurd h hc,Nat.le_refl _,.inl (Below.refl _ _),fun h=>absurd h (by decide)⟩
 refine Stps.cons (o:=_) ?_ ?_
 · intro ac yw hsz hold hB hp K hK;have t29:ac.tmps[29]? = some (.bool x29):=(List.cons.inj (hp 26 (by decide))).1
   by_cases hc:(x29)=true
   · rw[hc]at t29;clear hold hp hsz;go_simp;exact hK.out _ _ ⟨hB,congrArg (fun b => [some (Value.bool b)]) (P4.out hc).symm,Nat.le_refl _,.inl (Below.refl _ _),fun h=>absurd h (by decide)⟩
   · have hc:(x29)=false:=by simpa using hc
     rw[hc]at t29;have t32:ac.tmps[32]? = some (.bool z):=(List.cons.inj (hp 29 (by decide) hc)).1;clear hold hp hsz;go_simp;exact hK.out _ _ ⟨hB,congrArg (fun b => [some (Value.bool b)]) (Q4.out hc).symm,Nat.le_refl _,.inl (Below.refl _ _),fun h=>absurd h (by decide)⟩
 exact Stps.nil _
end Go.Proofs.YtdmmenaejkpnjaaGreatDoor
namespace Go.Proofs.YtdmmenaejkpnjaaGreatDoor
open Go.RowKit
theorem r6Right_any (cs : Array Value) (S : Nat -> Int) (r : Nat) (ch : Bool) (g : Nat -> Int) (tn : Nat) (fB : Nat -> Bool) (fS fT : Nat -> ByteArray) (nn : Nat) (w : World) (h : PlnAt w cs S r ch g tn fB fS fT nn) (hS : In64 S r) (hs : Short fS fT nn) :
    Calls Tryz.prog 33 #[.agg cs] w fun e w'=>SameTold (ofB S r ch tn fB fS fT nn) w w' e:=by
 obtain⟨sa,sc,ta,tc,na,nc,rfl,h1,h2,h3⟩:=h;have hl1:=h1.len;have hl2:=h2.len;have hl3:=h3.len;have BB:=Lib.hid (((((Bag.start w).krow h1).krow h2).qrow h3).newRow (plC sa r sc ch ta tn tc na nn nc) 26);have RC:=Lib.hid (fun wz p=>r6Count_any sa r sc S wz p hS);unfold CntTold cntI at RC;have RT:=Lib.hid (fun j (hj:j<nn) wz=>r3Right_any (fB j) (fS j) (fT j) wz (hs j hj).1 (hs j hj).2);unfold plC at BB;unfold plC;have H0:=Lib.hid BB.out.below;clear h1 h2 h3 hs hS
 cases hsh:shB S r with
 | false =>
  have ho:ofB S r ch tn fB fS fT nn=false:=by unfold ofB;rw[hsh];cases ch<;>simp
  rw[ho];rw[hsh,if_neg (by decide)]at RC;clear ho hsh;go_enter Tryz.func33,Tryz.ntmps33;go_wp2_with fail;go_at_call 88;refine(RC.out _ BB.out.now.2.2.2.1).mono ?_;rintro e w2 ⟨rfl,rfl⟩;go_wp2;go_ret;exact⟨rfl,H0.out⟩
 | true =>
  have hob:ofB S r ch tn fB fS fT nn=if ch then decide (nn=0)&&decide (itm S r=tn)else decide (tn=0)&&(okN fB fS fT nn&&decide (itm S r=nn)):=by unfold ofB;rw[hsh,Bool.true_and,Bool.true_and]
  rw[hob];rw[hsh,if_pos rfl]at RC;generalize itm S r=K0 at *;clear hob hsh
  cases ch with
  | true =>
   rw[if_pos rfl]
   by_cases hk:K0=(tn:Int)
   · subst hk; have e1 : ((tn : Int) != tn) = false := bne_self_eq_false _
     by_cases h0:nn=0
     · have e2 : ((nn : Int) != 0) = false := by rw [h0]; rfl
       have HT:Hid (okN fB fS fT nn=(decide (nn=0)&&decide ((tn:Int)=tn))):=by show _=_;rw[h0,decide_eq_true rfl,decide_eq_true rfl];rfl
       have HN:=Lib.hid h0;clear h0;generalize (decide (nn=0)&&decide ((tn:Int)=tn))=ans at *;go_enter Tryz.func33,Tryz.ntmps33;go_wp2_with fail;go_at_call 88;refine(RC.out _ BB.out.now.2.2.2.1).mono ?_;rintro e w2 ⟨rfl,hw2⟩;have BB:=Lib.hid (hw2▸BB.out);have HBW:Hid (Below w.heap.size w w2):=Lib.hid BB.out.below;clear hw2;obtain⟨x0,x1,x2,x3⟩:=pl_cells BB.out.now.1;go_wp2_with fail
       go_loopw [5] (fun i wr=>∃k:Nat,k<=nn/\i=.int .i64 k/\Hid (Below w2.heap.size w2 wr/\okN fB fS fT k=true)) (fun i _=>nn-(intOf i).toNat)
       case atStart=>exact⟨0,by omega,rfl,Below.refl _ _,rfl⟩
       case round =>
        obtain⟨k,hk,rfl,hrel⟩:=hrel;obtain⟨hbl,hok⟩:=hrel.out;have B4:=Lib.hid (BB.out.go hbl);clear x0 x1 x2 x3;obtain⟨x0,x1,x2,x3⟩:=pl_cells B4.out.now.1
        by_cases hlt:k<nn
        · obtain⟨b,off,rfl,hb,c1,c2,c3⟩:=B4.out.now.2.1.get hlt;have RK:=Lib.hid (RT.out k hlt);have HBL:=Lib.hid hbl
          cases ho:ofO (fB k) (fS k) (fT k)with
          | false =>
           have hno:okN fB fS fT nn=false:=by
            cases hx:okN fB fS fT nn with
            | false=>rfl
            | true=>rw[okN_iff.1 hx k hlt]at ho;cases ho
           have HNO:Hid (ans=false):=Lib.hid (HT.out.symm.trans hno);rw[ho]at RK;clear hbl hok hno ho;generalize fB k=u1 at *;generalize fS k=u2 at *;generalize fT k=u3 at *;go_wp2_with fail;go_at_call 54;refine(RK.out _).mono ?_;rintro e w4 ⟨rfl,hb4⟩;have HE:Hid (SameTold ans w w4 (.returned (.bool false))):=Lib.hid ⟨by rw[HNO.out],(B4.out.go hb4).below⟩;clear hb4;go_wp2;go_ret;exact HE.out
          | true =>
           have HO2:Hid (okN fB fS fT (k+1)=true):=by show(okN fB fS fT k&&_)=true;rw[hok,ho];rfl
           rw[ho]at RK;clear hbl hok ho;generalize fB k=u1 at *;generalize fS k=u2 at *;generalize fT k=u3 at *;go_wp2_with fail;go_at_call 54;refine(RK.out _).mono ?_;rintro e w4 ⟨rfl,hb4⟩;have HN2:Hid (Below w2.heap.size w2 w4/\okN fB fS fT (k+1)=true):=Lib.hid ⟨HBL.out.trans (hb4.mono HBL.out.size),HO2.out⟩;clear hb4;go_wp2
           go_roundw
           case rel=>exact⟨k+1,by omega,by go_num,HN2.out⟩
           case measure=>simp[intOf];omega
        · obtain rfl:k=nn:=by omega
          have HE:Hid (SameTold ans w wr (.returned (.bool true))):=Lib.hid ⟨by rw[← HT.out,hok],B4.out.below⟩;clear hbl hok;go_wp2;go_ret;exact HE.out
     · have e2:((nn:Int) != 0)=true:=bne_iff_ne.2 (by omega);rw[decide_eq_false h0,Bool.false_and];clear h0;go_enter Tryz.func33,Tryz.ntmps33;go_wp2_with fail;go_at_call 88;refine(RC.out _ BB.out.now.2.2.2.1).mono ?_;rintro e w2 ⟨rfl,rfl⟩;go_wp2;go_ret;exact⟨rfl,H0.out⟩
   · have e1:((tn:Int) != K0)=true:=bne_iff_ne.2 (fun e=>hk e.symm);rw[decide_eq_false hk,Bool.and_false];clear hk;go_enter Tryz.func33,Tryz.ntmps33;go_wp2_with fail;go_at_call 88;refine(RC.out _ BB.out.now.2.2.2.1).mono ?_;rintro e w2 ⟨rfl,rfl⟩;go_wp2;go_ret;exact⟨rfl,H0.out⟩
  | false =>
   rw[if_neg (by decide)]
   by_cases hk:K0=(nn:Int)
   · subst hk; have e1 : ((nn : Int) != nn) = false := bne_self_eq_false _
     by_cases h0:tn=0
     · have e2 : ((tn : Int) != 0) = false := by rw [h0]; rfl
       have HT:Hid (okN fB fS fT nn=(decide (tn=0)&&(okN fB fS fT nn&&decide ((nn:Int)=nn)))):=by show _=_;rw[decide_eq_true h0,decide_eq_true rfl,Bool.true_and,Bool.and_true]
       have HN:=Lib.hid h0;clear h0;generalize (decide (tn=0)&&(okN fB fS fT nn&&decide ((nn:Int)=nn)))=ans at *;go_enter Tryz.func33,Tryz.ntmps33;go_wp2_with fail;go_at_call 88;refine(RC.out _ BB.out.now.2.2.2.1).mono ?_;rintro e w2 ⟨rfl,hw2⟩;have BB:=Lib.hid (hw2▸BB.out);have HBW:Hid (Below w.heap.size w w2):=Lib.hid BB.out.below;clear hw2;obtain⟨x0,x1,x2,x3⟩:=pl_cells BB.out.now.1;go_wp2_with fail
       go_loopw [5] (fun i wr=>∃k:Nat,k<=nn/\i=.int .i64 k/\Hid (Below w2.heap.size w2 wr/\okN fB fS fT k=true)) (fun i _=>nn-(intOf i).toNat)
       case atStart=>exact⟨0,by omega,rfl,Below.refl _ _,rfl⟩
       case round =>
        obtain⟨k,hk,rfl,hrel⟩:=hrel;obtain⟨hbl,hok⟩:=hrel.out;have B4:=Lib.hid (BB.out.go hbl);clear x0 x1 x2 x3;obtain⟨x0,x1,x2,x3⟩:=pl_cells B4.out.now.1
        by_cases hlt:k<nn
        · obtain⟨b,off,rfl,hb,c1,c2,c3⟩:=B4.out.now.2.1.get hlt;have RK:=Lib.hid (RT.out k hlt);have HBL:=Lib.hid hbl
          cases ho:ofO (fB k) (fS k) (fT k)with
          | false =>
           have hno:okN fB fS fT nn=false:=by
            cases hx:okN fB fS fT nn with
            | false=>rfl
            | true=>rw[okN_iff.1 hx k hlt]at ho;cases ho
           have HNO:Hid (ans=false):=Lib.hid (HT.out.symm.trans hno);rw[ho]at RK;clear hbl hok hno ho;generalize fB k=u1 at *;generalize fS k=u2 at *;generalize fT k=u3 at *;go_wp2_with fail;go_at_call 54;refine(RK.out _).mono ?_;rintro e w4 ⟨rfl,hb4⟩;have HE:Hid (SameTold ans w w4 (.returned (.bool false))):=Lib.hid ⟨by rw[HNO.out],(B4.out.go hb4).below⟩;clear hb4;go_wp2;go_ret;exact HE.out
          | true =>
           have HO2:Hid (okN fB fS fT (k+1)=true):=by show(okN fB fS fT k&&_)=true;rw[hok,ho];rfl
           rw[ho]at RK;clear hbl hok ho;generalize fB k=u1 at *;generalize fS k=u2 at *;generalize fT k=u3 at *;go_wp2_with fail;go_at_call 54;refine(RK.out _).mono ?_;rintro e w4 ⟨rfl,hb4⟩;have HN2:Hid (Below w2.heap.size w2 w4/\okN fB fS fT (k+1)=true):=Lib.hid ⟨HBL.out.trans (hb4.mono HBL.out.size),HO2.out⟩;clear hb4;go_wp2
           go_roundw
           case rel=>exact⟨k+1,by omega,by go_num,HN2.out⟩
           case measure=>simp[intOf];omega
        · obtain rfl:k=nn:=by omega
          have HE:Hid (SameTold ans w wr (.returned (.bool true))):=Lib.hid ⟨by rw[← HT.out,hok],B4.out.below⟩;clear hbl hok;go_wp2;go_ret;exact HE.out
     · have e2:((tn:Int) != 0)=true:=bne_iff_ne.2 (by omega);rw[decide_eq_false h0,Bool.false_and];clear h0;go_enter Tryz.func33,Tryz.ntmps33;go_wp2_with fail;go_at_call 88;refine(RC.out _ BB.out.now.2.2.2.1).mono ?_;rintro e w2 ⟨rfl,rfl⟩;go_wp2;go_ret;exact⟨rfl,H0.out⟩
   · have e1:((nn:Int) != K0)=true:=bne_iff_ne.2 (fun e=>hk e.symm);rw[decide_eq_false hk,Bool.and_false,Bool.and_false];clear hk;go_enter Tryz.func33,Tryz.ntmps33;go_wp2_with fail;go_at_call 88;refine(RC.out _ BB.out.now.2.2.2.1).mono ?_;rintro e w2 ⟨rfl,rfl⟩;go_wp2;go_ret;exact⟨rfl,H0.out⟩
def LightTold(m:Int)(S:Nat->Int)(r:Nat)(ch:Bool)(tn:Nat)(fB:Nat->Bool)(fS fT:Nat->ByteArray)(nn:Nat)(w w':World)(e:Ending):Prop :=
 ∃b,e=.returned (.bool b)/\(b=true->(tn:Int)<=m/\(nn:Int)<=m/\r<=8/\Short fS fT nn/\ofB S r ch tn fB fS fT nn=true)/\Below w.heap.size w w'
theorem light_any (m : Int) (cs : Array Value) (S : Nat -> Int) (r : Nat) (ch : Bool) (g : Nat -> Int) (tn : Nat) (fB : Nat -> Bool) (fS fT : Nat -> ByteArray) (nn : Nat) (w : World) (h : PlnAt w cs S r ch g tn fB fS fT nn) (hS : In64 S r) (hz : ∀ j, j < nn -> (fS j).size <= maxLen /\ (fT j).size <= maxLen) :
    Calls Tryz.prog 9 #[.agg cs,.int .i64 m] w fun e w'=>LightTold m S r ch tn fB fS fT nn w w' e:=by
 have RI:=Lib.hid (fun wz cs p hs=>r6Right_any cs S r ch g tn fB fS fT nn wz p hS hs);obtain⟨sa,sc,ta,tc,na,nc,rfl,h1,h2,h3⟩:=h;have hl1:=h1.len;have hl2:=h2.len;have hl3:=h3.len;have BB:=Lib.hid (((((Bag.start w).krow h1).krow h2).qrow h3).newRow (plC sa r sc ch ta tn tc na nn nc) 26);unfold SameTold at RI;have H0:Hid (LightTold m S r ch tn fB fS fT nn w (w.alloc (.cells (plC sa r sc ch ta tn tc na nn nc) 26)) (.returned (.bool false))):=Lib.hid ⟨false,rfl,fun h=>(by cases h),BB.out.below⟩;unfold plC at BB H0;unfold plC;clear h1 h2 h3 hS
 by_cases h1:m<(tn:Int)
 · go_enter Tryz.func9,Tryz.ntmps9;go_wp2;go_ret;exact H0.out
 by_cases h2:m<(nn:Int)
 · go_enter Tryz.func9,Tryz.ntmps9;go_wp2;go_ret;exact H0.out
 by_cases h3:(8:Int)<(r:Int)
 · go_enter Tryz.func9,Tryz.ntmps9;go_wp2;go_ret;exact H0.out
 have HZ:=Lib.hid hz;have HC:Hid ((tn:Int)<=m/\(nn:Int)<=m/\r<=8):=⟨by omega,by omega,by omega⟩
 clear hz;have HB0:=Lib.hid BB.out.below;go_enter Tryz.func9,Tryz.ntmps9;go_wp2_with fail
 go_loopw [5] (fun i wr=>∃k:Nat,k<=nn/\i=.int .i64 k/\Hid (Below (w.heap.size+1) (w.alloc (.cells #[.slice sa r sc,.bool ch,.slice ta tn tc,.slice na nn nc] 26)) wr/\∀j,j<k->(fS j).size<=60/\(fT j).size<=60)) (fun i _=>nn-(intOf i).toNat)
 case atStart=>exact⟨0,by omega,rfl,by have:=Below.refl (w.alloc (.cells #[.slice sa r sc,.bool ch,.slice ta tn tc,.slice na nn nc] 26)).heap.size (w.alloc (.cells #[.slice sa r sc,.bool ch,.slice ta tn tc,.slice na nn nc] 26));simpa using this,fun j hj=>absurd hj (Nat.not_lt_zero _)⟩
 case round =>
  obtain⟨k,hk,rfl,hrel⟩:=hrel;obtain⟨hbl,hsm⟩:=hrel.out;have B4:=Lib.hid (BB.out.go (by simpa using hbl));obtain⟨x0,x1,x2,x3⟩:=pl_cells B4.out.now.1
  by_cases hlt:k<nn
  · obtain ⟨b, off, rfl, hb, c1, c2, c3⟩ := B4.out.now.2.1.get hlt; obtain ⟨z1, z2⟩ := HZ.out k hlt; have HE : Hid (LightTold m S r ch tn fB fS fT nn w wr (.returned (.bool false))) := Lib.hid ⟨false, rfl, fun h => (by cases h), B4.out.below⟩; have HBL := Lib.hid hbl; have HSM := Lib.hid hsm; clear hbl hsm; have hg1 : (fS k).size <= 9223372036854775807 := by unfold maxLen at z1; omega
    have hg2:(fT k).size<=9223372036854775807:=by unfold maxLen at z2;omega
    by_cases g1:(40:Int)<((fS k).size:Int)
    · generalize fS k=u1 at *;generalize fT k=u2 at *;go_wp2;go_ret;exact HE.out
    by_cases g2:(40:Int)<((fT k).size:Int)
    · generalize fS k=u1 at *;generalize fT k=u2 at *;go_wp2;go_ret;exact HE.out
    have HN:Hid (Below (w.heap.size+1) (w.alloc (.cells #[.slice sa r sc,.bool ch,.slice ta tn tc,.slice (some ⟨b,off,none⟩) nn nc] 26)) wr/\∀j,j<k+1->(fS j).size<=60/\(fT j).size<=60) :=
     ⟨HBL.out,fun j hj=>by
       rcases Nat.lt_or_ge j k with e|e
       · exact HSM.out j e
       · obtain rfl:j=k:=by omega
         exact⟨by omega,by omega⟩⟩
    generalize hu1:fS k=u1 at *;generalize hu2:fT k=u2 at *;clear hu1 hu2;go_wp2
    go_roundw
    case rel=>exact⟨k+1,by omega,by go_num,HN.out⟩
    case measure=>simp[intOf];omega
  · obtain rfl:k=nn:=by omega
    have HR:Hid (Row wr w.heap.size 26 (plC sa r sc ch ta tn tc na k nc)):=Lib.hid B4.out.now.1;have HP:Hid (PlnAt wr (plC sa r sc ch ta tn tc na k nc) S r ch g tn fB fS fT k):=Lib.hid ⟨sa,sc,ta,tc,na,nc,rfl,B4.out.now.2.2.2.1,B4.out.now.2.2.1,B4.out.now.2.1⟩;have RW:=Lib.hid (RI.out wr _ HP.out hsm);have HS:=Lib.hid hsm;clear hbl hsm RI
    go_wp2_with (refine ld_pln rfl (.tmp 2) rfl w.heap.size rfl HR.out ?_)
    go_at_call 33;(with_reducible refine(RW.out).mono ?_);rintro e w3 ⟨rfl,hb3⟩;have HE:Hid (LightTold m S r ch tn fB fS fT k w w3 (.returned (.bool (ofB S r ch tn fB fS fT k)))):=Lib.hid ⟨_,rfl,fun h=>⟨HC.out.1,HC.out.2.1,HC.out.2.2,HS.out,h⟩,(B4.out.go hb3).below⟩;generalize ofB S r ch tn fB fS fT k=ob at *;clear hb3;go_wp2;go_ret;exact HE.out
def LOfTold(S:Nat->Int)(r:Nat)(ch:Bool)(g:Nat->Int)(tn:Nat)(fP:Nat->Int)(fQ:Nat->Nat)(nn:Nat)(w w':World)(e:Ending):Prop :=
 ∃na nc ta tc,e=.returned (.agg (arrC ch ((r:Int)-1) (dm S r) na nn nc ta tn tc))/\RRow w' na nn nc fP fQ/\KRow w' .i32 ta tn tc g/\(ch=false->ta=none/\tc=0)/\(ch=true->na=none/\nc=0)/\Below w.heap.size w w'
theorem lof_any (cs : Array Value) (S : Nat -> Int) (r : Nat) (ch : Bool) (g : Nat -> Int) (tn : Nat) (fB : Nat -> Bool) (fS fT : Nat -> ByteArray) (nn : Nat) (w : World) (h : PlnAt w cs S r ch g tn fB fS fT nn) (hS : In64 S r) (hs : Short fS fT nn) (hn : nn <= 100000) (htn : tn <= 100000) (ho : ofB S r ch tn fB fS fT nn = true) :
    Calls Tryz.prog 12 #[.agg cs] w fun e w'=>LOfTold S r ch g tn (fun j=>ofP (fB j) (fS j) (fT j)) (fun j=>ofQ (fB j) (fS j) (fT j)) nn w w' e:=by
 have OF:=Lib.hid (fun wz cs p=>of6_any cs S r ch g tn fB fS fT nn wz p hS hs hn htn);unfold OfTold at OF;rw[ho]at OF;obtain⟨sa,sc,ta,tc,na,nc,rfl,h1,h2,h3⟩:=h;have BB:=Lib.hid (((((Bag.start w).krow h1).krow h2).qrow h3).newRow (plC sa r sc ch ta tn tc na nn nc) 26 |>.newRow zerC 36);simp only[World.size_alloc]at BB;have HP:=Lib.hid (fun wz a b c=>OF.out wz (plC sa r sc ch ta tn tc na nn nc) ⟨sa,sc,ta,tc,na,nc,rfl,a,b,c⟩);have HR:=Lib.hid BB.out.now.2.1;clear h1 h2 h3 hS hs hn htn ho OF;go_enter Tryz.func12,Tryz.ntmps12
 go_wp2_with (refine ld_pln rfl (.tmp 1) rfl w.heap.size rfl HR.out ?_)
 go_at_call 48
 (with_reducible refine(HP.out _ ?_ ?_ ?_).mono ?_)
 · exact BB.out.now.2.2.2.2.1
 · exact BB.out.now.2.2.2.1
 · exact BB.out.now.2.2.1
 rintro e w3 ⟨cs3,rfl,hcs,hb3⟩;rw[if_pos trivial]at hcs;obtain⟨na3,nc3,ta3,tc3,rfl,hr3,ht3,hf3,hg3⟩:=hcs;have B3:=((BB.out.go hb3).rrow hr3).krow ht3 |>.newRow (arrC ch ((r:Int)-1) (dm S r) na3 nn nc3 ta3 tn tc3) 36
 have HR1:=Lib.hid B3.now.1;have HZ:=Lib.hid B3.now.2.2.2.1;have hz:=B3.now.2.2.2.1;rw[zerC_eq]at hz
 have HE:Hid (LOfTold S r ch g tn (fun j=>ofP (fB j) (fS j) (fT j)) (fun j=>ofQ (fB j) (fS j) (fT j)) nn w ((w3.alloc (.cells (arrC ch ((r:Int)-1) (dm S r) na3 nn nc3 ta3 tn tc3) 36)).setRow (w.heap.size+1) (arrC ch ((r:Int)-1) (dm S r) na3 nn nc3 ta3 tn tc3)) (.returned (.agg (arrC ch ((r:Int)-1) (dm S r) na3 nn nc3 ta3 tn tc3)))) :=
  Lib.hid ⟨na3,nc3,ta3,tc3,rfl,B3.now.2.2.1.away (Row.noLimb hz) (RRow.ne B3.now.2.2.1 hz) (Far.setRow _ _ _),B3.now.2.1.away (KRow.ne B3.now.2.1 (by decide) hz) (Far.setRow _ _ _),hf3,hg3,below_put B3.below (Nat.le_succ _) _⟩
 clear hb3 B3 hr3 ht3 hz;unfold arrC;unfold arrC at HR1
 go_wp2_with (first
  | (refine ld_arr rfl (.tmp 3) rfl w3.heap.size rfl HR1.out ?_)
  | (refine st_arr rfl (.tmp 2) (.tmp 10) rfl (w.heap.size+1) rfl _ _ _ _ _ _ _ _ _ rfl HZ.out rfl ?_))
 exact bodyPost_ret (res_arr Tryz.results12 rfl (HZ.out.put _) rfl) rfl HE.out
theorem ofO_facts{b:Bool}{s t:ByteArray}(h:ofO b s t=true):rB (ofP b s t)=b/\rS (ofP b s t)=s/\str (dec (ofQ b s t))=t/\0<ofQ b s t/\Nat.gcd (ofP b s t).natAbs (ofQ b s t)=1:=by
 unfold ofO ofK at h;simp only[Bool.and_eq_true,decide_eq_true_eq,Bool.not_eq_true',decide_eq_false_iff_not]at h;obtain⟨⟨_,h0⟩,h1,h2,h3⟩:=h;exact⟨h1,h2,h3,loQ_pos _ (by omega),lo_cop _ (by omega)⟩
theorem ofB_true {S : Nat -> Int} {r : Nat} {ch : Bool} {tn : Nat} {fB : Nat -> Bool} {fS fT : Nat -> ByteArray} {nn : Nat} (h : ofB S r ch tn fB fS fT nn = true) :
    shB S r=true/\itm S r=(if ch then tn else nn:Nat)/\(ch=true->nn=0)/\(ch=false->tn=0)/\∀j,j<nn->ofO (fB j) (fS j) (fT j)=true:=by
 unfold ofB at h
 cases ch with
 | true =>
  rw[if_pos rfl]at h;simp only[Bool.and_eq_true,decide_eq_true_eq]at h;exact⟨h.2.1,h.2.2,fun _=>h.1,fun h=>(by cases h),fun j hj=>absurd hj (by omega)⟩
 | false =>
  rw[if_neg (by decide)]at h;simp only[Bool.and_eq_true,decide_eq_true_eq]at h;exact⟨h.2.2.1,h.2.2.2,fun h=>(by cases h),fun _=>h.1,okN_iff.1 h.2.1⟩
theorem dec_length(N:Nat):(dec N).length=dl N:=by unfold dec;exact sdig_length _ _
def NumOk(fB:Nat->Bool)(fS fT:Nat->ByteArray)(fP:Nat->Int)(fQ:Nat->Nat)(n:Nat):Prop :=
 ∀j,j<n->fB j=rB (fP j)/\fS j=rS (fP j)/\fT j=str (dec (fQ j))/\0<fQ j/\dl (fP j).natAbs<=60/\dl (fQ j)<=60
theorem ofO_dl{b:Bool}{s t:ByteArray}(h:ofO b s t=true)(hs:s.size<=60)(ht:t.size<=60):dl (ofP b s t).natAbs<=60/\dl (ofQ b s t)<=60:=by
 obtain⟨_,h2,h3,_,_⟩:=ofO_facts h
 constructor
 · have:=congrArg ByteArray.size h2;unfold rS at this;rw[str_size,dec_length]at this
   omega
 · have:=congrArg ByteArray.size h3;rw[str_size,dec_length]at this
   omega
theorem ofO_num{fB:Nat->Bool}{fS fT:Nat->ByteArray}{n:Nat}(h:∀j,j<n->ofO (fB j) (fS j) (fT j)=true)(hs:Short fS fT n):NumOk fB fS fT (fun j=>ofP (fB j) (fS j) (fT j)) (fun j=>ofQ (fB j) (fS j) (fT j)) n :=
 fun j hj=>⟨(ofO_facts (h j hj)).1.symm,(ofO_facts (h j hj)).2.1.symm,(ofO_facts (h j hj)).2.2.1.symm,(ofO_facts (h j hj)).2.2.2.1,ofO_dl (h j hj) (hs j hj).1 (hs j hj).2⟩
theorem r6Len_any (cs : Array Value) (S : Nat -> Int) (r : Nat) (ch : Bool) (g : Nat -> Int) (tn : Nat) (fB : Nat -> Bool) (fS fT : Nat -> ByteArray) (nn : Nat) (w : World) (h : PlnAt w cs S r ch g tn fB fS fT nn) (h1 : tn <= 1000000) (h2 : nn <= 1000000) :
    Calls Tryz.prog 32 #[.agg cs] w fun e w'=>e=.returned (.int .i64 ((tn+nn:Nat):Int))/\Below w.heap.size w w':=by
 obtain⟨sa,sc,ta,tc,na,nc,rfl,_,_,_⟩:=h;have hw:=IntWalk.i64_in ((tn:Int)+nn) (by omega);have HE:Hid ((tn:Int)+nn=((tn+nn:Nat):Int)):=by show _=_;omega
 have HB:Hid (Below w.heap.size w (w.alloc (.cells (plC sa r sc ch ta tn tc na nn nc) 26))):=(Below.refl _ _).alloc (Nat.le_refl _) _;unfold plC at HB;unfold plC;go_enter Tryz.func32,Tryz.ntmps32;go_wp2;go_ret;exact⟨ret_int HE.out,HB.out⟩
def Cell3(w:World)(b o:Nat)(x y z:Value):Prop:=b<w.heap.size/\w.cell? ⟨b,o,none⟩=some x/\w.cell? ⟨b,o+1,none⟩=some y/\w.cell? ⟨b,o+2,none⟩=some z
theorem Cell3.below{w w':World}{b o:Nat}{x y z:Value}(h:Cell3 w b o x y z)(hb:Below w.heap.size w w'):Cell3 w' b o x y z :=
 ⟨Nat.lt_of_lt_of_le h.1 hb.size,(hb.cell (p:=⟨b,_,none⟩) h.1).trans h.2.1,(hb.cell (p:=⟨b,_,none⟩) h.1).trans h.2.2.1,(hb.cell (p:=⟨b,_,none⟩) h.1).trans h.2.2.2⟩
theorem pl_same {cs cs' : Array Value} {S : Nat -> Int} {r : Nat} {ch : Bool} {g : Nat -> Int} {tn : Nat} {fB : Nat -> Bool} {fS fT : Nat -> ByteArray} {nn : Nat} {S' : Nat -> Int} {r' : Nat} {ch' : Bool} {g' : Nat -> Int} {tn' : Nat} {gB : Nat -> Bool} {gS gT : Nat -> ByteArray} {nn' : Nat} {w : World} (e : plB ch ch' r r' S S' tn tn' g g' nn nn' fB fS fT gB gS gT = true)
    (h:PlnAt w cs S r ch g tn fB fS fT nn) (h':PlnAt w cs' S' r' ch' g' tn' gB gS gT nn') :
    Calls Tryz.prog 52 #[.agg cs,.agg cs'] w fun e w'=>e=.returned (.bool true)/\Below w.heap.size w w':=by
 have:=r6PSame_any cs cs' S r ch g tn fB fS fT nn S' r' ch' g' tn' gB gS gT nn' w h h';rw[e]at this;exact this
def Arr(w:World)(cs:Array Value)(S:Nat->Int)(r:Nat)(ch:Bool)(L:Nat)(g:Nat->Int)(fP:Nat->Int)(fQ:Nat->Nat):Prop:=(ch=true->ChrArr w cs S r L g)/\(ch=false->NumArr w cs S r L fP fQ)
theorem Arr.below{w w':World}{cs:Array Value}{S:Nat->Int}{r:Nat}{ch:Bool}{L:Nat}{g fP:Nat->Int}{fQ:Nat->Nat}(h:Arr w cs S r ch L g fP fQ)(hb:Below w.heap.size w w'):Arr w' cs S r ch L g fP fQ:=⟨fun e=>(h.1 e).below hb,fun e=>(h.2 e).below hb⟩
theorem Bag.arr{w0 w:World}{B:World->Prop}{cs:Array Value}{S:Nat->Int}{r:Nat}{ch:Bool}{L:Nat}{g fP:Nat->Int}{fQ:Nat->Nat}(h:Bag w0 B w)(q:Arr w cs S r ch L g fP fQ):Bag w0 (fun y=>Arr y cs S r ch L g fP fQ/\B y) w:=h.add (fun _ _ hb q=>Arr.below q hb) q
theorem Arr.form {w : World} {cs : Array Value} {S : Nat -> Int} {r : Nat} {ch : Bool} {L : Nat} {g fP : Nat -> Int} {fQ : Nat -> Nat} (h : Arr w cs S r ch L g fP fQ) :
    ∃na nn nc ta tn tc,cs=arrC ch ((r:Int)-1) (dm S r) na nn nc ta tn tc/\(if ch then tn else nn)=L/\(if ch then nn else tn)=0:=by
 cases ch with
 | true=>obtain⟨ta,tc,e,_⟩:=h.1 rfl;exact⟨none,0,0,ta,L,tc,e,rfl,rfl⟩
 | false=>obtain⟨na,nc,e,_⟩:=h.2 rfl;exact⟨na,L,nc,none,0,0,e,rfl,rfl⟩
theorem Arr.size{w:World}{cs:Array Value}{S:Nat->Int}{r:Nat}{ch:Bool}{L:Nat}{g fP:Nat->Int}{fQ:Nat->Nat}(h:Arr w cs S r ch L g fP fQ):cs.size=12:=by
 obtain⟨_,_,_,_,_,_,rfl,_⟩:=h.form
 rfl
theorem Arr.congr{w:World}{cs:Array Value}{S:Nat->Int}{r:Nat}{ch:Bool}{L:Nat}{g g' fP fP':Nat->Int}{fQ fQ':Nat->Nat}(h:Arr w cs S r ch L g fP fQ)(e1:g=g')(e2:fP=fP')(e3:fQ=fQ'):Arr w cs S r ch L g' fP' fQ':=by
 subst e1 e2 e3;exact h
theorem shape8_any (cs : Array Value) (S : Nat -> Int) (r : Nat) (ch : Bool) (L : Nat) (g fP : Nat -> Int) (fQ : Nat -> Nat) (w : World) (h : Arr w cs S r ch L g fP fQ) (hr : r <= 8) :
    Calls Tryz.prog 39 #[.agg cs] w fun e w'=>∃a c,e=.returned (.slice a r c)/\KRow w' .i64 a r c S/\Below w.heap.size w w':=by
 obtain⟨na,nn,nc,ta,tn,tc,rfl,_⟩:=h.form;exact shape_any ch S r na nn nc ta tn tc w hr
theorem len8_any (cs : Array Value) (S : Nat -> Int) (r : Nat) (ch : Bool) (L : Nat) (g fP : Nat -> Int) (fQ : Nat -> Nat) (w : World) (h : Arr w cs S r ch L g fP fQ) :
    Calls Tryz.prog 51 #[.agg cs] w fun e w'=>e=.returned (.int .i64 L)/\Below w.heap.size w w':=by
 obtain⟨na,nn,nc,ta,tn,tc,rfl,e,_⟩:=h.form;have:=len_any ch ((r:Int)-1) (dm S r) na nn nc ta tn tc w;have e2:(if ch=true then(tn:Int)else(nn:Int))=(L:Int):=by rw[← e];split<;>rfl
 rw[e2]at this;exact this
theorem ints8_any (sa : Option Addr) (sn sc : Nat) (f : Nat -> Int) (w : World) (hs : KRow w .i64 sa sn sc f) (hg : In64 f sn) (hn : sn <= 4096) :
    Calls Tryz.prog 34 #[.slice sa sn sc] w fun e w'=>∃cs',e=.returned (.agg cs')/\(∀g,Arr w' cs' (fun _=>(sn:Int)) 1 false sn g f (fun _=>1))/\Below w.heap.size w w':=by
 refine(ints_any sa sn sc f w hs hg hn).mono ?_;rintro e w' ⟨cs',he,h2,hb⟩;exact⟨cs',he,fun g=>⟨fun e=>(by cases e),fun _=>h2⟩,hb⟩
theorem int8_any (X : Int) (w : World) (h : -9223372036854775808 <= X /\ X <= 9223372036854775807) :
    Calls Tryz.prog 36 #[.int .i64 X] w fun e w'=>∃cs',e=.returned (.agg cs')/\(∀g,Arr w' cs' (fun _=>0) 0 false 1 g (fun _=>X) (fun _=>1))/\Below w.heap.size w w':=by
 refine(arrInt_any X w h).mono ?_;rintro e w' ⟨cs',he,h2,hb⟩;exact⟨cs',he,fun g=>⟨fun e=>(by cases e),fun _=>h2⟩,hb⟩
def tnO(ch:Bool)(L:Nat):Nat:=if ch then L else 0
def nnO(ch:Bool)(L:Nat):Nat:=if ch then 0 else L
def Pln(w:World)(cs:Array Value)(S:Nat->Int)(r:Nat)(ch:Bool)(L:Nat)(g:Nat->Int)(fB:Nat->Bool)(fS fT:Nat->ByteArray):Prop:=PlnAt w cs S r ch g (tnO ch L) fB fS fT (nnO ch L)
theorem Pln.below{w w':World}{cs:Array Value}{S:Nat->Int}{r:Nat}{ch:Bool}{L:Nat}{g:Nat->Int}{fB:Nat->Bool}{fS fT:Nat->ByteArray}(h:Pln w cs S r ch L g fB fS fT)(hb:Below w.heap.size w w'):Pln w' cs S r ch L g fB fS fT:=PlnAt.below h hb
theorem QRow.zero{w:World}{sa:Option Addr}{c:Nat}{fB:Nat->Bool}{fS fT:Nat->ByteArray}(h:QRow w sa 0 c fB fS fT)(fB':Nat->Bool)(fS' fT':Nat->ByteArray):QRow w sa 0 c fB' fS' fT':=⟨h.1,h.2.1,.inl rfl⟩
theorem KRow.zero{w:World}{ki:IntKind}{sa:Option Addr}{c:Nat}{f:Nat->Int}(h:KRow w ki sa 0 c f)(f':Nat->Int):KRow w ki sa 0 c f':=⟨h.1,h.2.1,.inl rfl⟩
theorem QRow.congr{w:World}{sa:Option Addr}{n c:Nat}{fB fB':Nat->Bool}{fS fT fS' fT':Nat->ByteArray}(h:QRow w sa n c fB fS fT)(e:∀j,j<n->fB j=fB' j/\fS j=fS' j/\fT j=fT' j):QRow w sa n c fB' fS' fT':=by
 refine⟨h.1,h.2.1,h.2.2.imp id fun⟨b,off,h1,h2,h3⟩=>⟨b,off,h1,h2,fun j hj => ?_⟩⟩;obtain⟨e1,e2,e3⟩:=e j hj;rw[← e1,← e2,← e3];exact h3 j hj
def Small(ch:Bool)(L:Nat)(fP:Nat->Int)(fQ:Nat->Nat):Prop:=ch=false->CmpOk 7 fP fQ L
theorem plB_of2{ch:Bool}{r:Nat}{S S':Nat->Int}{tn:Nat}{g g':Nat->Int}{nn:Nat}{fB gB:Nat->Bool}{fS fT gS gT:Nat->ByteArray}(h1:∀j,j<r->S j=S' j)(h3:∀j,j<tn->g j=g' j)(h2:∀j,j<nn->fB j=gB j/\fS j=gS j/\fT j=gT j):plB ch ch r r S S' tn tn g g' nn nn fB fS fT gB gS gT=true:=by
 unfold plB;rw[sameB_iff.2 h1,sameB_iff.2 h3,nsB_iff.2 h2,decide_eq_true rfl,decide_eq_true rfl,decide_eq_true rfl,decide_eq_true rfl]
 rfl
def feE(f:Nat->Int):Nat->Int
 | 0=>0
 | k+1=>if feE f k=0 then f k else feE f k
theorem feE_more{f:Nat->Int}{k n:Nat}(hk:k<=n)(h:feE f k≠0):feE f n=feE f k:=by
 induction n with
 | zero => obtain rfl : k = 0 := by omega
           rfl
 | succ n ih =>
  by_cases e:k=n+1
  · rw[e]
  · have h1:=ih (by omega)
    show(if feE f n=0 then f n else feE f n)=_
    rw[if_neg (by rw[h1];exact h),h1]
theorem feE_stop{f:Nat->Int}{k n:Nat}(hk:k<n)(h0:feE f k=0)(h:f k≠0):feE f n=f k:=by
 have h1:feE f (k+1)=f k:=by
  show(if feE f k=0 then f k else feE f k)=_
  rw[if_pos h0]
 rw[feE_more (k:=k+1) (by omega) (by rw[h1];exact h),h1]
theorem feE_step{f:Nat->Int}{k:Nat}(h0:feE f k=0)(h:f k=0):feE f (k+1)=0:=by
 show(if feE f k=0 then f k else feE f k)=_
 rw[if_pos h0,h]
def pfK(S:Nat->Int)(r L:Nat)(T:Nat->Int)(q M:Nat):Nat :=
 if (decide (r=q)&&sameB S T r)=true then 0 else if L=1/\(M≠1∨r<q)then 1 else if M=1 then 2 else if r≠q then 3 else 4
def pfN(k r q:Nat):Nat:=if k=1 then q else if k<3 then r else 0
def pfS(k:Nat)(S T:Nat->Int):Nat->Int:=if k=1 then T else S
def pfE(k:Nat):Int:=if k<3 then 0 else if k=3 then 23 else 24
def FitTold(k:Nat)(S:Nat->Int)(r:Nat)(T:Nat->Int)(q:Nat)(w w':World)(e:Ending):Prop :=
 ∃a c,e=.returned (.tuple #[.slice a (pfN k r q) c,.bool (decide (k=1)),.bool (decide (k=2)),.int .i64 (pfE k)])/\KRow w' .i64 a (pfN k r q) c (pfS k S T)/\Below w.heap.size w w'
theorem FitTold.nul{k:Nat}(hk:2<k)(S:Nat->Int)(r:Nat)(T:Nat->Int)(q:Nat){w w':World}(hb:Below w.heap.size w w'){E:Int}(hE:pfE k=E):FitTold k S r T q w w' (.returned (.tuple #[.slice none 0 0,.bool false,.bool false,.int .i64 E])):=by
 subst hE;have h1:pfN k r q=0:=by unfold pfN;rw[if_neg (by omega),if_neg (by omega)]
 refine⟨none,0,?_,?_,hb⟩
 · rw[h1,decide_eq_false (show ¬k=1 by omega),decide_eq_false (show ¬k=2 by omega)]
 · rw[h1];exact KRow.nought _ _ _ _ (Nat.zero_le _) _
def limZ(P:Int)(Q:Nat):Int:=max (lbs P.natAbs:Int) (lbs Q:Int)
end Go.Proofs.YtdmmenaejkpnjaaGreatDoor
namespace Go.Proofs.YtdmmenaejkpnjaaGreatDoor
open Go.RowKit
attribute [local go_sem ↓] Go.wp_at_zero Go.wp_at_succ
set_option linter.unusedVariables false
set_option linter.unusedSimpArgs false
def RatTold4(w w':World)(e:Ending)(P:Int)(Q:Nat)(E:Int):Prop:=∃a n c m a2 n2 c2,e=.returned (.tuple #[.agg #[.slice a n c,.bool m,.slice a2 n2 c2],.int .i64 E])/\RatAt w' a n c m a2 n2 c2 P Q/\Below w.heap.size w w'
theorem RatTold4.done {w w2 : World} {k : Nat} {a0 : Option Addr} {n0 c0 : Nat} {m0 : Bool} {a1 : Option Addr} {n1 c1 : Nat} {a : Option Addr} {n c : Nat} {m : Bool} {a2 : Option Addr} {n2 c2 : Nat} {P : Int} {Q : Nat} (E : Int) (hb : Below w.heap.size w w2) (hk : w.heap.size <= k)
    (hs:Slot3 w2 k (.slice a0 n0 c0) (.bool m0) (.slice a1 n1 c1)) (h:RatAt w2 a n c m a2 n2 c2 P Q) :
    RatTold4 w (((w2.setCell ⟨k,0,none⟩ (.slice a n c)).setCell ⟨k,1,none⟩ (.bool m)).setCell ⟨k,2,none⟩ (.slice a2 n2 c2)) (.returned (.tuple #[.agg #[.slice a n c,.bool m,.slice a2 n2 c2],.int .i64 E])) P Q E :=
 ⟨a,n,c,m,a2,n2,c2,rfl,h.set3 hs _ _ _,((hb.setCell hk _).setCell hk _).setCell hk _⟩
end Go.Proofs.YtdmmenaejkpnjaaGreatDoor
namespace Go.Proofs.YtdmmenaejkpnjaaGreatDoor
open Go.RowKit
def Gives(fv:FuncId)(cap:Array Value)(G:Nat->Int)(M:Nat)(w:World):Prop :=
 ∀wz,Below w.heap.size w wz->∀k:Nat,k<M->Calls Tryz.prog fv (#[.int .i64 (k:Nat)]++cap) wz fun e w'=>e=.returned (.int .i64 (G k))/\Below wz.heap.size wz w'
theorem Gives.below{fv:FuncId}{cap:Array Value}{G:Nat->Int}{M:Nat}{w w':World}(h:Gives fv cap G M w)(hb:Below w.heap.size w w'):Gives fv cap G M w':=fun wz hz=>h wz (hb.trans (hz.mono hb.size))
def shf(f:Nat->Int)(p:Nat):Nat->Int:=fun j=>f (p+j)
theorem rm_pos(f:Nat->Int):∀k,1<=rm f k
 | 0=>by show(1:Int)<=1;omega
 | k+1=>by
  have h:=rm_pos f k;have e:1*1<=rm f k*max (f k) 1:=Int.mul_le_mul h (by omega) (by omega) (by omega)
  show 1<=rm f k*max (f k) 1
  omega
theorem ax_nn{f:Nat->Int}{n j:Nat}(h:axB f n=true)(hj:j<n):0<=f j:=by
 have h1:=ax_le (show j+1<=n by omega) h;unfold axB at h1;rw[Bool.and_eq_true,Bool.and_eq_true,decide_eq_true_eq]at h1;exact h1.2.1
theorem sh_ax{f:Nat->Int}{n:Nat}(h:shB f n=true):n<=8/\axB f n=true:=by
 unfold shB at h;rw[Bool.and_eq_true,decide_eq_true_eq]at h;exact h
theorem KRow.take{w:World}{ki:IntKind}{a:Option Addr}{n c:Nat}{f:Nat->Int}(h:KRow w ki a n c f){k:Nat}(hk:k<=n):KRow w ki a k c f:=by
 obtain⟨h1,h2,h3⟩:=h;refine⟨by omega,h2,?_⟩
 rcases h3 with h3|⟨b,off,e,hb,hc⟩
 · exact .inl (by omega)
 · exact .inr ⟨b,off,e,hb,fun j hj=>hc j (by omega)⟩
theorem KRow.from{w:World}{ki:IntKind}{b off:Nat}{n c:Nat}{f:Nat->Int}(h:KRow w ki (some ⟨b,off,none⟩) n c f){p:Nat}(hp:p<=n):KRow w ki (some ⟨b,off+p,none⟩) (n-p) (c-p) (shf f p):=by
 obtain⟨h1,h2,h3⟩:=h;refine⟨by omega,by omega,?_⟩
 rcases h3 with h3|⟨b',off',e,hb,hc⟩
 · exact .inl (by omega)
 · cases e
   exact .inr ⟨b,off+p,rfl,hb,fun j hj=>by rw[Nat.add_assoc];exact hc (p+j) (by omega)⟩
def plc(f g:Nat->Int):Nat->Int
 | 0=>0
 | k+1=>plc f g k*f k+g k
def inB(f g:Nat->Int):Nat->Bool
 | 0=>true
 | k+1=>inB f g k&&(decide (0<=g k)&&decide (g k<f k))
def shP(f:Nat->Int)(n:Nat)(g:Nat->Int)(m:Nat):Bool:=shB f n&&(decide (n=m)&&inB f g n)
def plI(f:Nat->Int)(n:Nat)(g:Nat->Int)(m:Nat):Int:=if shP f n g m then plc f g n else 0
def PlTold(f:Nat->Int)(n:Nat)(g:Nat->Int)(m:Nat)(w w':World)(e:Ending):Prop:=e=.returned (.tuple #[.int .i64 (plI f n g m),.bool (shP f n g m)])/\Below w.heap.size w w'
theorem PlTold.no{f g:Nat->Int}{n m:Nat}{w w':World}(hb:Below w.heap.size w w')(h:shP f n g m=false):PlTold f n g m w w' (.returned (.tuple #[.int .i64 0,.bool false])):=by
 refine⟨?_,hb⟩;unfold plI;rw[h]
 rfl
theorem PlTold.yes{f g:Nat->Int}{n:Nat}{w w':World}(hb:Below w.heap.size w w')(h:shB f n=true)(h2:inB f g n=true):PlTold f n g n w w' (.returned (.tuple #[.int .i64 (plc f g n),.bool true])):=by
 have:shP f n g n=true:=by unfold shP;rw[h,h2,decide_eq_true rfl];rfl
 refine⟨?_,hb⟩;unfold plI;rw[this]
 rfl
def dgs(f:Nat->Int):Nat->Int->Nat->Int
 | 0,_,_=>0
 | k+1,r,j=>if j=k then r%f k else dgs f k (r / f k) j
def IBox(w:World)(g n:Nat)(h:Nat->Int):Prop:=g<w.heap.size/\Free w g/\∀j,j<n->w.cell? ⟨g,j,none⟩=some (.int .i64 (h j))
theorem IBox.below{w w':World}{g n:Nat}{h:Nat->Int}(q:IBox w g n h)(hb:Below w.heap.size w w'):IBox w' g n h :=
 ⟨Nat.lt_of_lt_of_le q.1 hb.size,q.2.1.below hb q.1,fun j hj=>(hb.cell (p:=⟨g,j,none⟩) q.1).trans (q.2.2 j hj)⟩
theorem IBox.set{w:World}{g n k:Nat}{h:Nat->Int}(q:IBox w g n h)(hk:k<n)(x:Int):IBox (w.setCell ⟨g,k,none⟩ (.int .i64 x)) g n (fun j=>if j=k then x else h j):=by
 refine⟨by simpa using q.1,q.2.1.set _ _,fun j hj => ?_⟩
 by_cases e:j=k
 · subst e
   show _=some (Value.int .i64 (if j=j then x else h j))
   rw[if_pos rfl];exact World.cell?_setCell_same _ _ _ (q.2.2 j hj)
 · show _=some (Value.int .i64 (if j=k then x else h j))
   rw[if_neg e,World.cell?_setCell_other _ _ _ _ (fun h=>by injection h with _ h;omega)];exact q.2.2 j hj
theorem IBox.congr{w:World}{g n:Nat}{h h':Nat->Int}(q:IBox w g n h)(e:∀j,j<n->h j=h' j):IBox w g n h':=⟨q.1,q.2.1,fun j hj=>by rw[q.2.2 j hj,e j hj]⟩
theorem IBox.krow{w:World}{g n:Nat}{h:Nat->Int}(q:IBox w g n h)(hn:n<=maxLen):KRow w .i64 (some ⟨g,0,none⟩) n n h :=
 ⟨Nat.le_refl _,hn,.inr ⟨g,0,rfl,q.1,fun j hj=>by rw[Nat.zero_add];exact q.2.2 j hj⟩⟩
theorem IBox.made(w:World)(n:Nat)(t:TypeId){mc:Array Value}(hmc:mc=madeCells (Value.cells (.int .i64 0)) n):IBox (w.alloc (.cells mc t)) w.heap.size n (fun _=>0):=by
 subst hmc;have hR:=Row.new w t (madeCells (Value.cells (.int .i64 0)) n);refine⟨hR.lt,fun o=>hR.free o,fun j hj => ?_⟩;rw[hR.cell];unfold madeCells;rw[Array.getElem?_map,Array.getElem?_range,if_pos (by omega),Option.map_some]
 simp[Value.cells,Nat.mod_one]
def ixB(f:Nat->Int)(n:Nat)(i:Int):Bool:=shB f n&&(decide (0<=i)&&decide (i<itm f n))
def IxTold(f:Nat->Int)(n:Nat)(i:Int)(w w':World)(e:Ending):Prop:=∃a m c,e=.returned (.tuple #[.slice a m c,.bool (ixB f n i)])/\(if ixB f n i then m=n/\KRow w' .i64 a n c (dgs f n i)else a=none/\m=0/\c=0)/\Below w.heap.size w w'
theorem IxTold.no{f:Nat->Int}{n:Nat}{i:Int}{w w':World}(hb:Below w.heap.size w w')(h:ixB f n i=false):IxTold f n i w w' (.returned (.tuple #[.slice none 0 0,.bool false])):=by
 refine⟨none,0,0,?_,?_,hb⟩
 · rw[h]
 · rw[h,if_neg (by decide)];exact⟨rfl,rfl,rfl⟩
def LRow(w:World)(a:Option Addr)(m c:Nat)(A:Nat->Option Addr)(N C:Nat->Nat)(F:Nat->Nat->Int):Prop:=m<=c/\c<=maxLen/\(m=0∨∃b off,a=some ⟨b,off,none⟩/\b<w.heap.size /\
 ∀j,j<m->w.cell? ⟨b,off+j,none⟩=some (.slice (A j) (N j) (C j))/\KRow w .i64 (A j) (N j) (C j) (F j)/\(A j=none->C j=0))
theorem LRow.below{w w':World}{a:Option Addr}{m c:Nat}{A:Nat->Option Addr}{N C:Nat->Nat}{F:Nat->Nat->Int}(h:LRow w a m c A N C F)(hb:Below w.heap.size w w'):LRow w' a m c A N C F:=by
 obtain⟨h1,h2,h3⟩:=h;refine⟨h1,h2,h3.imp id ?_⟩;rintro⟨b,off,rfl,hl,hc⟩;exact⟨b,off,rfl,Nat.lt_of_lt_of_le hl hb.size,fun j hj=>⟨(hb.cell (p:=⟨b,off+j,none⟩) hl).trans (hc j hj).1,(hc j hj).2.1.below hb,(hc j hj).2.2⟩⟩
theorem LRow.get {w : World} {a : Option Addr} {m c : Nat} {A : Nat -> Option Addr} {N C : Nat -> Nat} {F : Nat -> Nat -> Int} (h : LRow w a m c A N C F) {j : Nat} (hj : j < m) :
    ∃b off,a=some ⟨b,off,none⟩/\b<w.heap.size/\w.cell? ⟨b,off+j,none⟩=some (.slice (A j) (N j) (C j))/\KRow w .i64 (A j) (N j) (C j) (F j)/\(A j=none->C j=0):=by
 rcases h.2.2 with h|⟨b,off,rfl,hl,hc⟩
 · omega
 · exact⟨b,off,rfl,hl,hc j hj⟩
theorem LRow.three {w : World} {g : Nat} {t : TypeId} {a1 a2 a3 : Option Addr} {n1 c1 n2 c2 n3 c3 : Nat} {f1 f2 f3 : Nat -> Int} (h : Row w g t #[.slice a1 n1 c1, .slice a2 n2 c2, .slice a3 n3 c3]) (k1 : KRow w .i64 a1 n1 c1 f1) (k2 : KRow w .i64 a2 n2 c2 f2) (k3 : KRow w .i64 a3 n3 c3 f3) (e1 : a1 = none -> c1 = 0) (e2 : a2 = none -> c2 = 0) (e3 : a3 = none -> c3 = 0) :
    LRow w (some ⟨g,0,none⟩) 3 3 (fun j=>if j=0 then a1 else if j=1 then a2 else a3) (fun j=>if j=0 then n1 else if j=1 then n2 else n3) (fun j=>if j=0 then c1 else if j=1 then c2 else c3) (fun j=>if j=0 then f1 else if j=1 then f2 else f3):=by
 refine⟨Nat.le_refl _,by unfold maxLen;omega,.inr ⟨g,0,rfl,h.lt,fun j hj => ?_⟩⟩;have:j=0∨j=1∨j=2:=by omega
 rcases this with rfl|rfl|rfl
 · exact⟨h.cell 0,k1,e1⟩
 · exact⟨h.cell 1,k2,e2⟩
 · exact⟨h.cell 2,k3,e3⟩
theorem KRow.congr{w:World}{ki:IntKind}{a:Option Addr}{n c:Nat}{f g:Nat->Int}(h:KRow w ki a n c f)(e:∀j,j<n->f j=g j):KRow w ki a n c g:=by
 refine⟨h.1,h.2.1,h.2.2.imp id ?_⟩;rintro⟨b,off,rfl,hl,hc⟩;exact⟨b,off,rfl,hl,fun j hj=>by rw[← e j hj];exact hc j hj⟩
def spB(f:Nat->Int)(n:Nat)(i:Int):Bool:=shB f n&&(decide (0<=i)&&decide (i<(n:Int)))
def SpTold(f:Nat->Int)(n:Nat)(i:Int)(w w':World)(e:Ending):Prop :=
 e=.returned (.tuple #[.int .i64 (if spB f n i then itm f i.toNat else 0),.int .i64 (if spB f n i then f i.toNat else 0),.int .i64 (if spB f n i then itm (shf f (i.toNat+1)) (n-(i.toNat+1))else 0),.bool (spB f n i)])/\Below w.heap.size w w'
theorem SpTold.no{f:Nat->Int}{n:Nat}{i:Int}{w w':World}(hb:Below w.heap.size w w')(h:spB f n i=false):SpTold f n i w w' (.returned (.tuple #[.int .i64 0,.int .i64 0,.int .i64 0,.bool false])):=by
 refine⟨?_,hb⟩;rw[h]
 rfl
theorem SpTold.yes{f:Nat->Int}{n k:Nat}{w w':World}(hb:Below w.heap.size w w')(h:shB f n=true)(hk:k<n):SpTold f n k w w' (.returned (.tuple #[.int .i64 (itm f k),.int .i64 (f k),.int .i64 (itm (shf f (k+1)) (n-(k+1))),.bool true])):=by
 refine⟨?_,hb⟩;have:spB f n k=true:=by unfold spB;rw[h,decide_eq_true (show(0:Int)<=k by omega),decide_eq_true (show(k:Int)<n by omega)];rfl
 rw[this]
 rfl
theorem equalI_any (a : Option Addr) (n c : Nat) (f : Nat -> Int) (a2 : Option Addr) (n2 c2 : Nat) (g : Nat -> Int) (w : World) (h : KRow w .i64 a n c f) (h2 : KRow w .i64 a2 n2 c2 g) :
    Calls Tryz.prog 158 #[.slice a n c,.slice a2 n2 c2] w fun e w'=>SameTold (decide (n=n2)&&sameB f g n) w w' e:=by
 have hl:=h.len;have hl2:=h2.len;have H1:=Lib.hid h;have H2:=Lib.hid h2;clear h h2
 by_cases hn:n=n2
 · subst hn; rw [decide_eq_true rfl, Bool.true_and]; have dn : ((n : Int) != n) = false := bne_self_eq_false _; go_enter Tryz.func158, Tryz.ntmps158; go_wp2
   go_loopw [13] (fun i wr=>∃k:Nat,k<=n/\i=.int .i64 k/\Hid (Below w.heap.size w wr/\sameB f g k=true)) (fun i _=>n-(intOf i).toNat)
   case atStart=>exact⟨0,by omega,rfl,Below.refl _ _,rfl⟩
   case round =>
    obtain⟨k,hk,rfl,hrel⟩:=hrel;obtain⟨hbl,hsm⟩:=hrel.out
    by_cases hlt:k<n
    · obtain ⟨b, off, rfl, hb, hc⟩ := (H1.out.below hbl).get hlt; obtain ⟨b2, off2, rfl, hb2, hc2⟩ := (H2.out.below hbl).get hlt; have HBL := Lib.hid hbl; have hk0 : (0 : Int) <= k := by omega
      have hk1:(k:Int)<n:=by omega
      have hk2:(k:Int)<=n:=by omega
      by_cases hq:f k=g k
      · have hsm2:Hid (sameB f g (k+1)=true):=by show(sameB f g k&&_)=true;rw[hsm,decide_eq_true hq];rfl
        clear hbl hsm;rw[← hq]at hc2;have hne:(f k != f k)=false:=bne_self_eq_false _;generalize f k=x at *;clear hq;go_wp2_with fail
        go_quiet (fail)
        have HBE:Hid (Below w.heap.size w (wr.drewN nq)/\sameB f g (k+1)=true):=⟨below_drewN HBL.out nq,hsm2.out⟩
        go_wp2
        go_roundw
        case rel=>exact⟨k+1,by omega,by go_num,HBE.out⟩
        case measure=>simp[intOf];omega
      · have hno:sameB f g n=false:=by
          cases hx:sameB f g n with
          | false=>rfl
          | true=>exact absurd ((sameB_iff.1 hx) k hlt) hq
        have HN:=Lib.hid hno;have hne:(f k != g k)=true:=bne_iff_ne.2 hq;clear hbl hsm hno;generalize f k=x at *;generalize g k=y at *;clear hq;go_wp2_with fail
        go_quiet (fail)
        have HBE:Hid (SameTold (sameB f g n) w (wr.drewN nq) (.returned (.bool false))):=⟨by rw[HN.out],below_drewN HBL.out nq⟩
        go_wp2;go_ret;exact HBE.out
    · obtain rfl:k=n:=by omega
      have HE:Hid (SameTold (sameB f g k) w wr (.returned (.bool true))):=⟨by rw[hsm],hbl⟩
      clear hbl hsm;go_wp2;go_ret;exact HE.out
 · rw[decide_eq_false hn,Bool.false_and];have dn:((n:Int) != n2)=true:=bne_iff_ne.2 (by omega);have HE:Hid (SameTold false w w (.returned (.bool false))):=⟨rfl,Below.refl _ _⟩
   clear hn;go_enter Tryz.func158,Tryz.ntmps158;go_wp2;go_ret;exact HE.out
theorem same_any (a : Option Addr) (n c : Nat) (f : Nat -> Int) (a2 : Option Addr) (n2 c2 : Nat) (g : Nat -> Int) (w : World) (h : KRow w .i64 a n c f) (h2 : KRow w .i64 a2 n2 c2 g) :
    Calls Tryz.prog 91 #[.slice a n c,.slice a2 n2 c2] w fun e w'=>SameTold (decide (n=n2)&&sameB f g n) w w' e:=by
 have EQ:=Lib.hid (equalI_any a n c f a2 n2 c2 g w h h2);unfold SameTold at EQ;unfold SameTold;generalize (decide (n=n2)&&sameB f g n)=x at *;clear h h2;go_enter Tryz.func91,Tryz.ntmps91;go_wp2_with fail;go_at_call 158;(with_reducible refine(EQ.out).mono ?_);rintro e w1 ⟨rfl,hb⟩;have HB:=Lib.hid hb;clear hb;go_wp2;go_ret;exact⟨rfl,HB.out⟩
theorem itm_congr{f f':Nat->Int}:∀ {n:Nat},(∀j,j<n->f j=f' j)->itm f n=itm f' n
 | 0,_=>rfl
 | n+1,h=>by
  show itm f n*f n=itm f' n*f' n
  rw[itm_congr (fun j hj=>h j (by omega)),h n (by omega)]
theorem Arr.away{w w':World}{cs:Array Value}{S:Nat->Int}{r:Nat}{ch:Bool}{L:Nat}{g fP:Nat->Int}{fQ:Nat->Nat}(h:Arr w cs S r ch L g fP fQ){k:Nat}{t:TypeId}{ch':Bool}{more:Int}{d:Nat->Int}{na:Option Addr}{nn nc:Nat}{ta:Option Addr}{tn tc:Nat}(hr:Row w k t (arrC ch' more d na nn nc ta tn tc))(hf:Far k w w'):Arr w' cs S r ch L g fP fQ:=by
 refine⟨fun e => ?_,fun e => ?_⟩
 · obtain⟨a,c,h1,h2⟩:=h.1 e;exact⟨a,c,h1,h2.away (KRow.ne h2 (by decide) hr) hf⟩
 · obtain⟨a,c,h1,h2⟩:=h.2 e;exact⟨a,c,h1,h2.away (Row.noLimb hr) (RRow.ne h2 hr) hf⟩
theorem Arr.put{w:World}{cs:Array Value}{S:Nat->Int}{r:Nat}{ch:Bool}{L:Nat}{g fP:Nat->Int}{fQ:Nat->Nat}(h:Arr w cs S r ch L g fP fQ){k:Nat}{t:TypeId}(hr:Row w k t zerC)(cs':Array Value):Arr (w.setRow k cs') cs S r ch L g fP fQ:=by
 rw[zerC_row]at hr;exact h.away hr (Far.setRow _ _ _)
def IsA(cs:Array Value):Prop:=∃ch more d na nn nc ta tn tc,cs=arrC ch more d na nn nc ta tn tc
theorem IsA.zer:IsA zerC:=⟨_,_,_,_,_,_,_,_,_,rfl⟩
theorem IsA.size{cs:Array Value}(h:IsA cs):cs.size=12:=by
 obtain⟨_,_,_,_,_,_,_,_,_,rfl⟩:=h
 rfl
theorem IsA.one{cs:Array Value}(h:IsA cs):cs.all (·.oneCell')=true:=by
 obtain⟨_,_,_,_,_,_,_,_,_,rfl⟩:=h;exact arrC_one _ _ _ _ _ _ _ _ _
theorem Arr.isA{w:World}{cs:Array Value}{S:Nat->Int}{r:Nat}{ch:Bool}{L:Nat}{g fP:Nat->Int}{fQ:Nat->Nat}(h:Arr w cs S r ch L g fP fQ):IsA cs:=by
 obtain⟨na,nn,nc,ta,tn,tc,rfl,_⟩:=h.form;exact⟨_,_,_,_,_,_,_,_,_,rfl⟩
theorem Arr.store{w:World}{cs:Array Value}{S:Nat->Int}{r:Nat}{ch:Bool}{L:Nat}{g fP:Nat->Int}{fQ:Nat->Nat}(h:Arr w cs S r ch L g fP fQ){k:Nat}{t:TypeId}{z:Array Value}(hr:Row w k t z)(hz:IsA z)(cs':Array Value):Arr (w.setRow k cs') cs S r ch L g fP fQ:=by
 obtain⟨_,_,_,_,_,_,_,_,_,rfl⟩:=hz;exact h.away hr (Far.setRow _ _ _)
theorem ev_tmp{a:Act}{d:Nat}{v:Value}(h:a.tmps[d]? = some v):a.eval (.tmp d)=v:=by
 show a.tmps.getD d undef=v
 rw[Array.getD_eq_getD_getElem?,h];rfl
theorem ld8 {o : Oper} {a : Act} {w : World} {K : Act -> World -> Prop} {Q : Exit -> Act -> World -> Prop} (d : Nat) (ho : o.op = .load 36 (.tmp d)) (g : Nat) (cs : Array Value) (hd : a.tmps[d]? = some (.pointer (some ⟨g, 0, none⟩))) (hr : Row w g 36 cs) (hs : cs.size = 12)
    (hK:K (a.put o.dst (.agg cs)) w):o.wp Tryz.prog a w K Q :=
 wp_load_row 36 (.tmp d) ho g (ev_tmp hd) 36 cs (0,0) _ hr Tryz.underlying36 rfl (by rw[arr12,hs]) hK
theorem ldP {o : Oper} {a : Act} {w : World} {K : Act -> World -> Prop} {Q : Exit -> Act -> World -> Prop} (d : Nat) (ho : o.op = .load 26 (.tmp d)) (g : Nat) (cs : Array Value) (hd : a.tmps[d]? = some (.pointer (some ⟨g, 0, none⟩))) (hr : Row w g 26 cs) (hs : cs.size = 4)
    (hK:K (a.put o.dst (.agg cs)) w):o.wp Tryz.prog a w K Q :=
 wp_load_row 26 (.tmp d) ho g (ev_tmp hd) 26 cs (0,0) _ hr Tryz.underlying26 rfl (by rw[pln4,hs]) hK
def MoTold(E:Int)(S:Nat->Int)(r:Nat)(ch:Bool)(L:Nat)(g fP:Nat->Int)(fQ:Nat->Nat)(w w':World)(e:Ending):Prop :=
 ∃cs,e=.returned (.tuple #[.agg cs,.int .i64 E])/\(E=0->Arr w' cs S r ch L g fP fQ)/\(E≠0->cs=zerC)/\Below w.heap.size w w'
theorem MoTold.no{E:Int}(hE:E≠0){S:Nat->Int}{r:Nat}{ch:Bool}{L:Nat}{g fP:Nat->Int}{fQ:Nat->Nat}{w w':World}(hb:Below w.heap.size w w'):MoTold E S r ch L g fP fQ w w' (.returned (.tuple #[.agg zerC,.int .i64 E])) :=
 ⟨zerC,rfl,fun e=>absurd e hE,fun _=>rfl,hb⟩
theorem MoTold.yes{S:Nat->Int}{r:Nat}{ch:Bool}{L:Nat}{g fP:Nat->Int}{fQ:Nat->Nat}{w w':World}{cs:Array Value}(h:Arr w' cs S r ch L g fP fQ)(hb:Below w.heap.size w w'):MoTold 0 S r ch L g fP fQ w w' (.returned (.tuple #[.agg cs,.int .i64 0])) :=
 ⟨cs,rfl,fun _=>h,fun e=>absurd rfl e,hb⟩
end Go.Proofs.YtdmmenaejkpnjaaGreatDoor
namespace Go.Proofs.YtdmmenaejkpnjaaGreatDoor
open Go.RowKit
attribute [local go_sem ↓] Go.wp_at_zero Go.wp_at_succ
structure Shown(w:World)(cs pcs:Array Value):Prop where
 ex:∃S r ch L g fP fQ S' g' fB fS fT,Arr w cs S r ch L g fP fQ/\Pln w pcs S' r ch L g' fB fS fT/\r<=8/\L<=1000000/\Small ch L fP fQ/\(∀j,j<r->S j=S' j)/\(∀j,j<tnO ch L->g j=g' j)/\∀j,j<nnO ch L->rB (fP j)=fB j/\rS (fP j)=fS j/\str (dec (fQ j))=fT j
theorem Shown.below{w w':World}{cs pcs:Array Value}(h:Shown w cs pcs)(hb:Below w.heap.size w w'):Shown w' cs pcs:=by
 obtain⟨S,r,ch,L,g,fP,fQ,S',g',fB,fS,fT,h1,h2,h3⟩:=h.ex;exact⟨S,r,ch,L,g,fP,fQ,S',g',fB,fS,fT,h1.below hb,h2.below hb,h3⟩
end Go.Proofs.YtdmmenaejkpnjaaGreatDoor
namespace Go.Proofs.YtdmmenaejkpnjaaGreatDoor
open Go.RowKit
def gP(fB:Nat->Bool)(fS fT:Nat->ByteArray):Nat->Int:=fun j=>ofP (fB j) (fS j) (fT j)
def gQ(fB:Nat->Bool)(fS fT:Nat->ByteArray):Nat->Nat:=fun j=>ofQ (fB j) (fS j) (fT j)
structure Good(S:Nat->Int)(r:Nat)(ch:Bool)(L:Nat)(fB:Nat->Bool)(fS fT:Nat->ByteArray):Prop where
 le:L<=250
 rank:r<=8
 sh:shB S r=true
 cnt:itm S r=(L:Nat)
 short:Short fS fT (nnO ch L)
 of:ofB S r ch (tnO ch L) fB fS fT (nnO ch L)=true
theorem good_of {S : Nat -> Int} {r : Nat} {ch : Bool} {tn : Nat} {fB : Nat -> Bool} {fS fT : Nat -> ByteArray} {nn : Nat} (h : (tn : Int) <= 250 /\ (nn : Int) <= 250 /\ r <= 8 /\ Short fS fT nn /\ ofB S r ch tn fB fS fT nn = true) :
    ∃L,tn=tnO ch L/\nn=nnO ch L/\Good S r ch L fB fS fT:=by
 obtain⟨h1,h2,h3,h4,h5⟩:=h;obtain⟨q1,q2,q3,q4,q5⟩:=ofB_true h5
 cases ch with
 | true =>
  obtain rfl:=q3 rfl;exact⟨tn,rfl,rfl,by omega,h3,q1,q2,h4,h5⟩
 | false =>
  obtain rfl:=q4 rfl;exact⟨nn,rfl,rfl,by omega,h3,q1,q2,h4,h5⟩
theorem Good.num{S:Nat->Int}{r:Nat}{ch:Bool}{L:Nat}{fB:Nat->Bool}{fS fT:Nat->ByteArray}(h:Good S r ch L fB fS fT):NumOk fB fS fT (gP fB fS fT) (gQ fB fS fT) (nnO ch L):=ofO_num (ofB_true h.of).2.2.2.2 h.short
theorem Good.told{S:Nat->Int}{r:Nat}{ch:Bool}{L:Nat}{fB:Nat->Bool}{fS fT:Nat->ByteArray}(h:Good S r ch L fB fS fT):∀j,j<nnO ch L->rB (gP fB fS fT j)=fB j/\rS (gP fB fS fT j)=fS j/\str (dec (gQ fB fS fT j))=fT j:=fun j hj=>by
 obtain⟨e1,e2,e3,_⟩:=h.num j hj;exact⟨e1.symm,e2.symm,e3.symm⟩
theorem Good.in64{S:Nat->Int}{r:Nat}{ch:Bool}{L:Nat}{fB:Nat->Bool}{fS fT:Nat->ByteArray}(h:Good S r ch L fB fS fT):In64 S r:=fun j hj=>by
 have h1:=ax_bd (ax_le (show j+1<=r by omega) (sh_ax h.sh).2);have h2:=rm_pos S j;have h3:1*max (S j) 1<=rm S j*max (S j) 1:=Int.mul_le_mul h2 (Int.le_refl _) (by omega) (by omega);have h4:rm S (j+1)=rm S j*max (S j) 1:=rfl;have h5:=ax_nn (sh_ax h.sh).2 hj
 omega
theorem of8_any (cs : Array Value) (S : Nat -> Int) (r : Nat) (ch : Bool) (L : Nat) (g : Nat -> Int) (fB : Nat -> Bool) (fS fT : Nat -> ByteArray) (w : World) (h : Pln w cs S r ch L g fB fS fT) (hg : Good S r ch L fB fS fT) :
    Calls Tryz.prog 12 #[.agg cs] w fun e w'=>∃a,e=.returned (.agg a)/\Arr w' a S r ch L g (gP fB fS fT) (gQ fB fS fT)/\Below w.heap.size w w':=by
 have h1:nnO ch L<=100000:=by have:=hg.le;unfold nnO;split<;>omega
 have h2:tnO ch L<=100000:=by have:=hg.le;unfold tnO;split<;>omega
 refine(lof_any cs S r ch g (tnO ch L) fB fS fT (nnO ch L) w h hg.in64 hg.short h1 h2 hg.of).mono ?_;rintro e w' ⟨na,nc,ta,tc,rfl,k1,k2,k3,k4,hb⟩
 refine⟨_,rfl,⟨fun e => ?_,fun e => ?_⟩,hb⟩
 · subst e;obtain⟨rfl,rfl⟩:=k4 rfl;exact⟨ta,tc,rfl,k2⟩
 · subst e;obtain⟨rfl,rfl⟩:=k3 rfl;exact⟨na,nc,rfl,k1⟩
def arG(L:Nat):Nat->Int:=fun j=>if L=0 then(j:Int)else((j%L:Nat):Int)
end Go.Proofs.YtdmmenaejkpnjaaGreatDoor
namespace Go.Proofs.YtdmmenaejkpnjaaGreatDoor
open Go.RowKit
attribute [local go_sem ↓] Go.wp_at_zero Go.wp_at_succ
def Gives2(fv:FuncId)(cap:Array Value)(F:Nat->Nat->Int)(R N:Nat)(w:World):Prop :=
 ∀wz,Below w.heap.size w wz->∀row i:Nat,row<R->i<N->Calls Tryz.prog fv (#[.int .i64 (row:Nat),.int .i64 (i:Nat)]++cap) wz fun e w'=>e=.returned (.int .i64 (F row i))/\Below wz.heap.size wz w'
theorem Gives2.below{fv:FuncId}{cap:Array Value}{F:Nat->Nat->Int}{R N:Nat}{w w':World}(h:Gives2 fv cap F R N w)(hb:Below w.heap.size w w'):Gives2 fv cap F R N w':=fun wz hz=>h wz (hb.trans (hz.mono hb.size))
end Go.Proofs.YtdmmenaejkpnjaaGreatDoor
namespace Go.Proofs.YtdmmenaejkpnjaaGreatDoor
open Go.RowKit
theorem RRow.congr{w:World}{sa:Option Addr}{n c:Nat}{fP fP':Nat->Int}{fQ fQ':Nat->Nat}(h:RRow w sa n c fP fQ)(e1:∀j,j<n->fP j=fP' j)(e2:∀j,j<n->fQ j=fQ' j):RRow w sa n c fP' fQ':=by
 refine⟨h.1,h.2.1,h.2.2.imp id fun⟨b,off,h1,h2,h3⟩=>⟨b,off,h1,h2,fun j hj => ?_⟩⟩;rw[← e1 j hj,← e2 j hj];exact h3 j hj
theorem Arr.on{w:World}{cs:Array Value}{S:Nat->Int}{r:Nat}{ch:Bool}{L:Nat}{g g' fP fP':Nat->Int}{fQ fQ':Nat->Nat}(h:Arr w cs S r ch L g fP fQ)(e1:∀j,j<L->g j=g' j)(e2:∀j,j<L->fP j=fP' j)(e3:∀j,j<L->fQ j=fQ' j):Arr w cs S r ch L g' fP' fQ':=by
 refine⟨fun e => ?_,fun e => ?_⟩
 · obtain⟨ta,tc,q,k⟩:=h.1 e;exact⟨ta,tc,q,k.congr e1⟩
 · obtain⟨na,nc,q,k⟩:=h.2 e;exact⟨na,nc,q,k.congr e2 e3⟩
end Go.Proofs.YtdmmenaejkpnjaaGreatDoor
namespace Go.Proofs.YtdmmenaejkpnjaaGreatDoor
open Go.RowKit
attribute [local go_sem ↓] Go.wp_at_zero Go.wp_at_succ
theorem WhTold.yes{n:Nat}{f:Nat->Int}{w w':World}{e:Ending}(h:WhTold true n f w w' e):∃a c,e=.returned (.tuple #[.slice a n c,.bool true])/\KRow w' .i64 a n c f/\Below w.heap.size w w':=by
 obtain⟨a,m,c,he,h2,hb⟩:=h;rw[if_pos rfl]at h2;obtain⟨rfl,hk⟩:=h2;exact⟨a,c,he,hk,hb⟩
theorem WhTold.no{n:Nat}{f:Nat->Int}{w w':World}{e:Ending}(h:WhTold false n f w w' e):e=.returned (.tuple #[.slice none 0 0,.bool false])/\Below w.heap.size w w':=by
 obtain⟨a,m,c,he,h2,hb⟩:=h;rw[if_neg (by decide)]at h2;obtain⟨rfl,rfl,rfl⟩:=h2;exact⟨he,hb⟩
end Go.Proofs.YtdmmenaejkpnjaaGreatDoor
namespace Go.Proofs.YtdmmenaejkpnjaaGreatDoor
open Go.RowKit
theorem IBox.wrote{w w':World}{g n k lo hi:Nat}{h:Nat->Int}(q:IBox w g n h)(hw:Wrote k lo hi w w')(hk:g≠k):IBox w' g n h :=
 ⟨Nat.lt_of_lt_of_le q.1 hw.size,q.2.1.wrote hw q.1,fun j hj=>(World.cell?_of_block (w:=w) (w':=w') (a:=⟨g,j,none⟩) (hw.block g q.1 hk)).trans (q.2.2 j hj)⟩
theorem IBox.drewN{w:World}{g n:Nat}{h:Nat->Int}(q:IBox w g n h)(m:Nat):IBox (w.drewN m) g n h:=q
theorem ld8G {ops : Array Oper} {rest : List Oper} {o : Oper} {a : Act} {w : World} {Q : Exit -> Act -> World -> Prop} (hw : Region.wanted o (yielded ops a.tmps) = true) (d : Nat) (ho : o.op = .load 36 (.tmp d)) (g : Nat) (cs : Array Value) (hx : a.eval (.tmp d) = .pointer (some ⟨g, 0, none⟩)) (hr : Row w g 36 cs) (hs : cs.size = 12)
    (h:wpList Tryz.prog ops Q rest (a.put o.dst (.agg cs)) w):wpList Tryz.prog ops Q (o::rest) a w:=by
 show if Region.wanted o (yielded ops a.tmps)=true then _ else _
 rw[if_pos hw];exact Or.inl (wp_load_row 36 (.tmp d) ho g hx 36 cs (0,0) _ hr Tryz.underlying36 rfl (by rw[arr12,hs]) h)
theorem ldPG {ops : Array Oper} {rest : List Oper} {o : Oper} {a : Act} {w : World} {Q : Exit -> Act -> World -> Prop} (hw : Region.wanted o (yielded ops a.tmps) = true) (d : Nat) (ho : o.op = .load 26 (.tmp d)) (g : Nat) (cs : Array Value) (hx : a.eval (.tmp d) = .pointer (some ⟨g, 0, none⟩)) (hr : Row w g 26 cs) (hs : cs.size = 4)
    (h:wpList Tryz.prog ops Q rest (a.put o.dst (.agg cs)) w):wpList Tryz.prog ops Q (o::rest) a w:=by
 show if Region.wanted o (yielded ops a.tmps)=true then _ else _
 rw[if_pos hw];exact Or.inl (wp_load_row 26 (.tmp d) ho g hx 26 cs (0,0) _ hr Tryz.underlying26 rfl (by rw[pln4,hs]) h)
end Go.Proofs.YtdmmenaejkpnjaaGreatDoor
