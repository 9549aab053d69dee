/-
  Texts of this seat, laid together.
-/
import Derived.Deep.QuietTactic
import Derived.BigQuiet
import Derived.IntWalk
import Derived.Test.YtdmmenaejkpnjaaGreatDoorV3
set_option maxHeartbeats 12800000
set_option maxRecDepth 100000
set_option linter.unusedSimpArgs false
set_option linter.unusedVariables false
namespace Go.Proofs.YtdmmenaejkpnjaaGreatDoor
open Go.RowKit
attribute [local go_sem ↓] Go.wp_at_zero Go.wp_at_succ
def pprod(Z:Int)(f:Nat->Int):Nat->Int
 | 0=>Z
 | k+1=>pprod Z f k*f k
theorem sgn_mul(Z Y:Int):sgn (decide (Z<0) != decide (Y<0)) (Z.natAbs*Y.natAbs)=Z*Y:=by
 by_cases hz:Z<0
 · obtain⟨x,rfl⟩:∃x:Nat,Z = -(x:Int):=⟨Z.natAbs,by omega⟩
   by_cases hy:Y<0
   · obtain⟨y,rfl⟩:∃y:Nat,Y = -(y:Int):=⟨Y.natAbs,by omega⟩
     rw[decide_eq_true hz,decide_eq_true hy]
     simp[sgn,Int.neg_mul_neg]
   · obtain⟨y,rfl⟩:∃y:Nat,Y=(y:Int):=⟨Y.natAbs,by omega⟩
     rw[decide_eq_true hz,decide_eq_false hy]
     simp[sgn,Int.neg_mul]
 · obtain⟨x,rfl⟩:∃x:Nat,Z=(x:Int):=⟨Z.natAbs,by omega⟩
   by_cases hy:Y<0
   · obtain⟨y,rfl⟩:∃y:Nat,Y = -(y:Int):=⟨Y.natAbs,by omega⟩
     rw[decide_eq_false hz,decide_eq_true hy]
     simp[sgn,Int.mul_neg]
   · obtain⟨y,rfl⟩:∃y:Nat,Y=(y:Int):=⟨Y.natAbs,by omega⟩
     rw[decide_eq_false hz,decide_eq_false hy]
     simp[sgn]
def TP(k1 k2 k7:Nat)(a:Option Addr)(n c:Nat)(m:Bool)(Z:Int)(a2:Option Addr)(n2 c2:Nat)(m2:Bool)(Y:Int)(y:World):Prop :=
 RS y k2/\RS y k1/\IntAt y a n c m Z/\IntAt y a2 n2 c2 m2 Y/\Slot2 y k7 (.slice a2 n2 c2) (.bool m2)
theorem TP.stay{k1 k2 k7:Nat}{a:Option Addr}{n c:Nat}{m:Bool}{Z:Int}{a2:Option Addr}{n2 c2:Nat}{m2:Bool}{Y:Int}:∀x y,Below x.heap.size x y->TP k1 k2 k7 a n c m Z a2 n2 c2 m2 Y x->TP k1 k2 k7 a n c m Z a2 n2 c2 m2 Y y :=
 fun _ _ hb h=>⟨h.1.below hb,h.2.1.below hb,h.2.2.1.below hb,h.2.2.2.1.below hb,h.2.2.2.2.below hb⟩
theorem TP.put{k1 k2 k7:Nat}{a:Option Addr}{n c:Nat}{m:Bool}{Z:Int}{a2:Option Addr}{n2 c2:Nat}{m2:Bool}{Y:Int}{y:World}(h:TP k1 k2 k7 a n c m Z a2 n2 c2 m2 Y y)(hk:k7≠k2)(a3:Option Addr)(n3 c3:Nat)(b:Bool):TP k1 k2 k7 a n c m Z a2 n2 c2 m2 Y (putI y k2 a3 n3 c3 b) :=
 ⟨h.1.put _ _ _ _,h.2.1.put _ _ _ _,h.2.2.1.put h.1 _ _ _ _,h.2.2.2.1.put h.1 _ _ _ _,h.2.2.2.2.put hk _ _ _ _⟩
theorem slot2_putI{w:World}{k:Nat}{x y:Value}(h:Slot2 w k x y)(a:Option Addr)(n c:Nat)(b:Bool):Slot2 (putI w k a n c b) k (.slice a n c) (.bool b) :=
 ⟨(h.set _ _).1,(h.set _ _).2,by simp[putI,h.free],by simp[putI,h.free1],by simpa[putI]using h.lt⟩
theorem times_any (a : Option Addr) (n c : Nat) (m : Bool) (Z : Int) (sa : Option Addr) (ln lc : Nat) (f : Nat -> Int) (w : World) (h : IntAt w a n c m Z) (g : IntsAt w sa ln lc f)
    (K:Nat) (hK:K<=400000) (hb:∀k,k<ln->(pprod Z f k).natAbs<4294967296^K/\(f k).natAbs<4294967296^K) :
    Calls Tryz.prog 122 #[.agg #[.slice a n c,.bool m],.slice sa ln lc] w fun e w'=>IntTold w w' e (pprod Z f ln):=by
 have B0:=(((((Bag.start w).int h).box2 (.slice a n c) (.bool m) 51).box2 (.slice none 0 0) (.bool false) 51)).box2 (.slice a n c) (.bool m) 51;simp only[World.size_alloc]at B0;have H0:Hid (PL w _ (pprod Z f 0)):=⟨B0.below,B0.now.2.1.rs,a,n,c,m,B0.now.1,B0.now.2.2.2.1⟩
 have q0:=B0.now.2.2.1.cell;have q1:=B0.now.2.2.1.cell1;have HG:=Lib.hid g;have hln:ln<=1000/\ln<=lc:=⟨g.2.1,g.1⟩
 have HB:=Lib.hid hb;clear B0 h g hb;go_enter Tryz.func122,Tryz.ntmps122;go_wp2
 go_loopw [11] (fun i wr=>∃k:Nat,k<=ln/\i=.int .i64 k/\PL w wr (pprod Z f k)) (fun i _=>ln-(intOf i).toNat)
 case atStart=>exact⟨0,by omega,rfl,H0.out⟩
 case round =>
  obtain⟨k,hk,rfl,hr⟩:=hrel
  by_cases hlt:k<ln
  · obtain ⟨hbl, hrs, a3, n3, c3, m3, hs3, hi3⟩ := hr; obtain ⟨b, off, a', n', c', m', rfl, hlb, e1, e2, hi'⟩ := (HG.out.below hbl).get hlt; have hwr : w.heap.size <= wr.heap.size := hbl.size; have hw2 : w.heap.size + 1 + 1 < wr.heap.size := hs3.lt; have hm3 := hi3.1; have hm' := hi'.1; have HBK := HB.out k hlt; obtain ⟨ZZ, hZZ⟩ : ∃ ZZ, pprod Z f k = ZZ := ⟨_, rfl⟩
    obtain⟨YY,hYY⟩:∃YY,f k=YY:=⟨_,rfl⟩
    have hnext:pprod Z f (k+1)=ZZ*YY:=by rw[pprod,hZZ,hYY]
    rw[hZZ]at hi3 HBK hm3;rw[hYY]at hi' HBK hm'
    have B1:Bag w (TP (w.heap.size+1) (w.heap.size+1+1) wr.heap.size a3 n3 c3 m3 ZZ a' n' c' m' YY) (wr.alloc (.cells #[.slice a' n' c',.bool m'] 51)):=by
     have B1:=((((Bag.start wr).int hi3).int hi').slot2 hs3).box2 (.slice a' n' c') (.bool m') 51;exact⟨hbl.trans (B1.below.mono hwr),TP.stay,B1.now.2.1.rs,hrs.below B1.below,B1.now.2.2.2.1,B1.now.2.2.1,B1.now.1⟩
    have N1:Hid (∀wz,TP (w.heap.size+1) (w.heap.size+1+1) wr.heap.size a3 n3 c3 m3 ZZ a' n' c' m' YY wz->Calls Tryz.prog 173 #[.agg #[.slice a3 n3 c3,.bool m3]] wz fun e w'=>e=.returned (.bool m3)/\Below wz.heap.size wz w'):=fun wz hz=>neg_any a3 n3 c3 m3 ZZ wz hz.2.2.1
    have N2:Hid (∀wz,TP (w.heap.size+1) (w.heap.size+1+1) wr.heap.size a3 n3 c3 m3 ZZ a' n' c' m' YY wz->Calls Tryz.prog 173 #[.agg #[.slice a' n' c',.bool m']] wz fun e w'=>e=.returned (.bool m')/\Below wz.heap.size wz w'):=fun wz hz=>neg_any a' n' c' m' YY wz hz.2.2.2.1
    have MU:Hid (∀wz,TP (w.heap.size+1) (w.heap.size+1+1) wr.heap.size a3 n3 c3 m3 ZZ a' n' c' m' YY wz->Calls Tryz.prog 176 #[.agg #[.slice a3 n3 c3],.agg #[.slice a' n' c']] wz fun e w'=>NatOf3 wz w' e (ZZ.natAbs*YY.natAbs)):=fun wz hz=>(mul_any _ _ _ _ wz hz.2.2.1.2 hz.2.2.2.1.2 K hK HBK.1 HBK.2).mono fun _ _ h=>h.three
    have OF:Hid (∀a4 n4 c4 wz,NatIs wz (.agg #[.slice a4 n4 c4]) (ZZ.natAbs*YY.natAbs)->Calls Tryz.prog 116 #[.bool (!(m3==m')),.agg #[.slice a4 n4 c4]] wz fun e w'=>IntTold wz w' e (ZZ*YY)):=by
     intro a4 n4 c4 wz hi;have:=wof_any (m3 != m') a4 n4 c4 _ wz hi;rw[hm3,hm',sgn_mul]at this;rw[hm3,hm'];exact this
    have HBL:=Lib.hid hbl;have HRS:=Lib.hid hrs;have HNX:=Lib.hid hnext;have BB:=Lib.hid B1.drew;have SS:Hid (Slot2 (wr.alloc (.cells #[.slice a' n' c',.bool m'] 51)).drew (w.heap.size+1+1) (.slice a3 n3 c3) (.bool m3)):=hs3.below (((Below.refl _ _).alloc (Nat.le_refl _) _).drew);have p2:=SS.out.cell;have p3:=SS.out.cell1;obtain⟨mm,hmm⟩:∃mm,(!(m3==m'))=mm:=⟨_,rfl⟩
    rw[hmm]at OF;clear hbl hrs hi3 hi' B1 HBK hs3 q0 q1 hZZ hYY hnext hm3 hm';go_wp2_with fail;have p0:=BB.out.now.2.2.2.2.cell;have p1:=BB.out.now.2.2.2.2.cell1
    go_region_with (first
        | (go_at_call 173;(with_reducible refine(N1.out _ BB.out.now).mono ?_);rintro e w2 ⟨rfl,hb2⟩;have BB:=Lib.hid (BB.out.go hb2);have SS:=Lib.hid (SS.out.below hb2);have p0:=BB.out.now.2.2.2.2.cell;have p1:=BB.out.now.2.2.2.2.cell1;have p2:=SS.out.cell;have p3:=SS.out.cell1;clear hb2)
        | (go_at_call 173;(with_reducible refine(N2.out _ BB.out.now).mono ?_);rintro e w2 ⟨rfl,hb2⟩;have BB:=Lib.hid (BB.out.go hb2);have SS:=Lib.hid (SS.out.below hb2);have p0:=BB.out.now.2.2.2.2.cell;have p1:=BB.out.now.2.2.2.2.cell1;have p2:=SS.out.cell;have p3:=SS.out.cell1;clear hb2)
        | (go_at_call 176;(with_reducible refine(MU.out _ BB.out.now).mono ?_);rintro e w2 ⟨a4,n4,c4,rfl,hi4,hb2⟩;have BB:=Lib.hid (BB.out.go hb2);have SS:=Lib.hid (SS.out.below hb2);have p0:=BB.out.now.2.2.2.2.cell;have p1:=BB.out.now.2.2.2.2.cell1;have p2:=SS.out.cell;have p3:=SS.out.cell1;clear hb2)
        | (go_at_call 116;(with_reducible refine(OF.out a4 n4 c4 _ hi4).mono ?_);rintro e w2 ⟨a5,n5,c5,m5,rfl,hi5,hb2⟩;have B7:=Bag.go BB.out hb2;have hs5:=SS.out.below hb2;have hc1:=hs5.cell;have hc2:=hs5.cell1;have hf1:=hs5.free;have hf2:=hs5.free1;have HN:Hid (PL w (putI w2 (w.heap.size+1+1) a5 n5 c5 m5) (pprod Z f (k+1))):=⟨(B7.below.setCell (show w.heap.size<=w.heap.size+1+1 by omega) _).setCell (show w.heap.size<=w.heap.size+1+1 by omega) _,B7.now.2.1.put _ _ _ _,a5,n5,c5,m5,slot2_putI hs5 _ _ _ _,by rw[HNX.out];exact hi5.put B7.now.1 _ _ _ _⟩;unfold putI at HN;clear B7))
    all_goals
     go_wp2
     go_roundw
     case rel=>exact⟨k+1,by omega,by go_num,HN.out⟩
     case measure=>simp[intOf];omega
  · obtain rfl:k=ln:=by omega
    obtain⟨hbl,hrs,a3,n3,c3,m3,hs3,hi3⟩:=hr;have HE:=Lib.hid (IntTold.fin hbl (by omega) hrs hi3);have HS:=hrs.cells a3 n3 c3 m3;unfold putI at HS;have p0:=hs3.cell;have p1:=hs3.cell1;obtain⟨x8,b8,hs8,_⟩:=hrs;have hc1:=hs8.cell;have hc2:=hs8.cell1;have hf1:=hs8.free;have hf2:=hs8.free1;clear hs8 hs3 hi3 hbl q0 q1;go_wp2;exact bodyPost_ret (by simp[results,Tryz.results122,go_sem,HS]) rfl HE.out
end Go.Proofs.YtdmmenaejkpnjaaGreatDoor
namespace Go.Proofs.YtdmmenaejkpnjaaGreatDoor
open Go.RowKit
theorem d10_lt(Z k:Nat):d10 Z k<10:=Nat.mod_lt _ (by omega)
theorem set_digit{Z Y p t:Nat}(ht:t<10)(h:Y+d10 Z p*10^p=Z+t*10^p):∀k,d10 Y k=if k=p then t else d10 Z k:=by
 have hp:0<10^p:=Nat.pow_pos (by omega);have e1:=Nat.div_add_mod Z (10^p);have e2:=Nat.div_add_mod (Z / 10^p) 10;have e3:Z / 10^p%10=d10 Z p:=rfl;rw[e3]at e2
 -- Z = lo + 10^p * (10 * hi + d)
 obtain⟨hi,hhi⟩:∃hi,Z / 10^p / 10=hi:=⟨_,rfl⟩
 obtain⟨lo,hlo⟩:∃lo,Z%10^p=lo:=⟨_,rfl⟩
 have hlol:lo<10^p:=by rw[← hlo];exact Nat.mod_lt _ hp
 rw[hhi]at e2;rw[hlo]at e1;have hZ:Z=lo+10^p*(10*hi+d10 Z p):=by rw[e2];omega
 have hY:Y=lo+10^p*(10*hi+t):=by
  have a1:10^p*(10*hi+d10 Z p)=10^p*(10*hi)+d10 Z p*10^p:=by rw[Nat.mul_add,Nat.mul_comm (10^p) (d10 Z p)]
  have a2:10^p*(10*hi+t)=10^p*(10*hi)+t*10^p:=by rw[Nat.mul_add,Nat.mul_comm (10^p) t]
  omega
 have gen:∀u,u<10->∀k,d10 (lo+10^p*(10*hi+u)) k=if k<p then d10 lo k else if k=p then u else hi / 10^(k-p-1)%10:=by
  intro u hu k;unfold d10
  rcases Nat.lt_trichotomy k p with h|h|h
  · rw[if_pos h];obtain⟨m,rfl⟩:∃m,p=k+(m+1):=⟨p-k-1,by omega⟩
    rw[Nat.pow_add,Nat.mul_assoc,Nat.add_mul_div_left _ _ (Nat.pow_pos (by omega)),Nat.pow_succ,Nat.mul_comm (10^m) 10,Nat.mul_assoc]
    omega
  · subst h;rw[if_neg (by omega),if_pos rfl,Nat.add_mul_div_left _ _ hp,Nat.div_eq_of_lt hlol]
    omega
  · rw[if_neg (by omega),if_neg (by omega)];obtain⟨m,rfl⟩:∃m,k=p+(m+1):=⟨k-p-1,by omega⟩
    rw[Nat.pow_add,← Nat.div_div_eq_div_mul,Nat.add_mul_div_left _ _ hp,Nat.div_eq_of_lt hlol,Nat.zero_add,Nat.pow_succ,Nat.mul_comm (10^m) 10,← Nat.div_div_eq_div_mul];rw[show(10*hi+u) / 10=hi by omega,show p+(m+1)-p-1=m by omega]
 intro k;rw[hY,gen t ht k]
 by_cases h1:k=p
 · subst h1;rw[if_neg (by omega),if_pos rfl,if_pos rfl]
 · rw[if_neg h1,if_neg h1];have:=gen (d10 Z p) (d10_lt Z p) k;rw[← hZ,if_neg h1]at this;rw[this]
theorem mod_step(y j:Nat):y%10^(j+1)=y%10^j+10^j*d10 y j:=by unfold d10;rw[Nat.pow_succ,Nat.mod_mul]
structure ArrI(w wr:World)(b L Z:Nat):Prop where
 below:Below w.heap.size w wr
 ge:w.heap.size<=b
 lt:b<wr.heap.size
 free:Free wr b
 row:Cells wr .i64 b 0 L (d10 Z)
theorem ArrI.set{w wr:World}{b L Z Y p t:Nat}(h:ArrI w wr b L Z)(hp:p<L)(ht:t<10)(he:Y+d10 Z p*10^p=Z+t*10^p)(n:Nat):ArrI w ((wr.drewN n).setCell ⟨b,p,none⟩ (.int .i64 t)) b L Y:=by
 have hs:=h.row.set (k:=p) (x:=t) hp;rw[Nat.zero_add]at hs;refine⟨(below_drewN h.below n).setCell h.ge _,h.ge,by simpa using h.lt,(h.free).set _ _,fun j hj => ?_⟩;have:=hs j hj;rw[set_digit ht he j];exact this
theorem make_ints(m:Nat)(hm:m<=10000000):∃z:List Value,(∀j,j<m->z[j]? = some (.int .i64 0)) /\
    ∀w:World,(Instr.makeSlice 22 (.int .i64 m) (.int .i64 m)).run Tryz.prog w=.ok (.slice (some ⟨w.heap.size,0,none⟩) m m) (w.alloc (.cells z.toArray 3)):=by
 obtain⟨i0,hi,hz0,hz1,hz2⟩:=info_parts infoI
 refine⟨(madeCells (Value.cells (.int .i64 0)) m).toList,fun j hj => ?_,fun w => ?_⟩
 · have h3:(madeCells (Value.cells (.int .i64 0)) m)[j]? = some (.int .i64 0):=by simp[madeCells,hj,Value.cells,Nat.mod_one]
   rw[Array.getElem?_toList];exact h3
 · have hmk:=run_make (P:=Tryz.prog) w 22 3 i0 (.int .i64 0) Tryz.underlying22 hi hz0 .i64 .i64 m m (by omega) (by omega) (by rw[hz2];omega) (by omega);simp only[Int.toNat_natCast,hz1,Nat.mul_one]at hmk;rw[Array.toArray_toList];exact hmk
def MulJ(x y i j c Z:Nat):Prop:=Z+c*10^(i+j)=x%10^i*y+d10 x i*(y%10^j)*10^i
theorem mulJ_step{x y i j c Z Y t:Nat}(h:MulJ x y i j c Z)(ht:d10 Z (i+j)+d10 x i*d10 y j+c=t)(hY:Y+d10 Z (i+j)*10^(i+j)=Z+t%10*10^(i+j)):MulJ x y i (j+1) (t / 10) Y:=by
 unfold MulJ at *;rw[mod_step,show i+(j+1)=(i+j)+1 by omega,Nat.pow_succ];have e:=Nat.div_add_mod t 10
 have a1:d10 x i*(y%10^j+10^j*d10 y j)*10^i=d10 x i*(y%10^j)*10^i+d10 x i*d10 y j*10^(i+j):=by
  rw[Nat.mul_add,Nat.add_mul,Nat.pow_add]
  congr 1
  rw[Nat.mul_comm (10^j) (d10 y j),← Nat.mul_assoc,Nat.mul_assoc,Nat.mul_comm (10^j)]
 rw[a1];generalize 10^(i+j)=P at *;generalize d10 x i*d10 y j=u at *;generalize d10 Z (i+j)=d at *;have a2:(d+u+c)*P=d*P+u*P+c*P:=by rw[Nat.add_mul,Nat.add_mul]
 have a3:t / 10*(P*10)+t%10*P=(10*(t / 10)+t%10)*P:=by rw[Nat.add_mul,Nat.mul_comm P 10,← Nat.mul_assoc,Nat.mul_comm (t / 10) 10]
 rw[e,← ht,a2]at a3;rw[ht]at a3
 omega
theorem quietL {P : Program} {f : FuncId} {args : Array Value} {w : World} {n : Nat} {v : Value}
    (h:Calls P f args (w.drewN n) fun e w'=>e=.returned v/\w.drewN n=w'):Calls P f args (w.drewN n) fun e w''=>e=.returned v/\∃m,w''=w.drewN m :=
 h.mono fun _ _ ⟨he,hm⟩=>⟨he,n,hm.symm⟩
theorem d10_le_self(Z p:Nat):d10 Z p*10^p<=Z:=by
 have h1:d10 Z p<=Z / 10^p:=Nat.mod_le _ _;exact Nat.le_trans (Nat.mul_le_mul_right _ h1) (Nat.div_mul_le_self _ _)
theorem mulJ_start{x y i Z:Nat}(h:Z=x%10^i*y):MulJ x y i 0 0 Z:=by
 unfold MulJ;simp[Nat.mod_one,h]
theorem mulJ_full{x y i j m c Z:Nat}(h:MulJ x y i j c Z)(hj:m<=j)(hy:y<10^m):Z+c*10^(i+j)=x%10^(i+1)*y:=by
 unfold MulJ at h;have hy2:y%10^j=y:=Nat.mod_eq_of_lt (Nat.lt_of_lt_of_le hy (Nat.pow_le_pow_right (by omega) hj));rw[hy2]at h;rw[h,mod_step,Nat.add_mul,Nat.mul_right_comm (d10 x i) y,Nat.mul_comm (d10 x i) (10^i)]
theorem mulJ_last{x y i m c Z:Nat}(h:MulJ x y i (m+1) c Z)(hy:y<10^m):c=0:=by
 have e:=mulJ_full h (by omega) hy;have h1:x%10^(i+1)<10^(i+1):=Nat.mod_lt _ (Nat.pow_pos (by omega));have h2:x%10^(i+1)*y<=x%10^(i+1)*10^m:=Nat.mul_le_mul_left _ (Nat.le_of_lt hy);have h3:x%10^(i+1)*10^m<10^(i+1)*10^m:=Nat.mul_lt_mul_of_pos_right h1 (Nat.pow_pos (by omega));rw[← Nat.pow_add,show i+1+m=i+(m+1)by omega]at h3
 rcases Nat.eq_zero_or_pos c with h0|h0
 · exact h0
 · have h4:1*10^(i+(m+1))<=c*10^(i+(m+1)):=Nat.mul_le_mul_right _ h0
   omega
theorem mul_small{a b:Nat}(h:a<10)(h2:b<10):a*b<=81 :=
 Nat.le_trans (Nat.mul_le_mul (Nat.le_of_lt_succ h) (Nat.le_of_lt_succ h2)) (by omega)
theorem rmul_any (x n y m : Nat) (w : World) (hx : x < 10 ^ n) (hy : y < 10 ^ m) (hn : n <= 2000) (hm : m <= 2000) :
    Calls Tryz.prog 190 #[.string (str (sdig x n)),.string (str (sdig y m))] w fun e w'=>e=.returned (.string (str (dec (x*y))))/\Below w.heap.size w w':=by
 have DX:=Lib.hid (fun i (h:i<=100000000) wz=>digit_any x n i wz hx (by omega) h);have DY:=Lib.hid (fun i (h:i<=100000000) wz=>digit_any y m i wz hy (by omega) h);have hs1:(str (sdig x n)).size=n:=by rw[str_size,sdig_length]
 have hs2:(str (sdig y m)).size=m:=by rw[str_size,sdig_length]
 generalize str (sdig x n)=s at *;generalize str (sdig y m)=t at *;subst hs1;subst hs2;obtain⟨L1,hL1⟩:∃L1,s.size+t.size=L1:=⟨_,rfl⟩
 obtain⟨L,hL⟩:∃L,L1+1=L:=⟨_,rfl⟩
 have e1:(s.size:Int)+(t.size:Int)=(L1:Int):=by omega
 have e2:(L1:Int)+1=(L:Int):=by omega
 obtain⟨z,hz,hmk⟩:=make_ints L (by omega)
 have H0:ArrI w (w.alloc (.cells z.toArray 3)) w.heap.size L 0:=by
  have hh:=heap_new w (.cells z.toArray 3);refine⟨(Below.refl _ _).alloc (Nat.le_refl _) _,Nat.le_refl _,by rw[World.size_alloc];omega,Free.of_block hh,Cells.of_block hh (fun j hj => ?_)⟩;rw[hz j hj];simp[d10]
 have HX:=Lib.hid hx;have HY:=Lib.hid hy;have HL:Hid (L=s.size+t.size+1):=by show _=_;omega
 have hLl:L<=4001:=by omega
 have HA0:=Lib.hid H0;have HZ0:Hid (0=x%10^0*y):=by show _=_;simp[Nat.mod_one]
 clear hx hy hz hL1 hL H0;go_enter Tryz.func190,Tryz.ntmps190;go_wp2
 go_loopw [6] (fun i wr=>∃(k Z:Nat),k<=s.size/\i=.int .i64 k/\Hid (Z=x%10^k*y)/\ArrI w wr w.heap.size L Z)
  (fun i _=>2001-(intOf i).toNat)
 case atStart=>exact⟨0,0,by omega,rfl,HZ0.out,HA0.out⟩
 case round =>
  obtain⟨k,Z,hk,rfl,hZ,hr⟩:=hrel
  by_cases hlt:k<s.size
  · have HJ0 : Hid (MulJ x y k 0 0 Z) := mulJ_start hZ.out; have HR := Lib.hid hr; have d0 : decide ((k : Int) < (s.size : Int)) = true := decide_eq_true (by omega); obtain ⟨dx, hdx⟩ : ∃ dx, d10 x k = dx := ⟨_, rfl⟩
    have CX:=DX.out k (by omega);rw[hdx]at CX;have hdxl:dx<10:=by rw[← hdx];exact Nat.mod_lt _ (by omega)
    have CX':=Lib.hid CX;have HDX:=Lib.hid hdx;obtain⟨wo,hwo⟩:∃wo:World,wo=wr:=⟨_,rfl⟩
    clear CX hdx hr HA0 hwo;go_wp2
    go_loopw [7,8] (fun c j wi=>∃(jj cc Y:Nat),jj<=t.size+1/\j=.int .i64 jj/\cc<=9/\c=.int .i64 cc/\Hid (MulJ x y k jj cc Y)/\ArrI w wi w.heap.size L Y)
     (fun _ j _=>2002-(intOf j).toNat)
    case atStart=>exact⟨0,0,Z,by omega,rfl,by omega,rfl,HJ0.out,HR.out⟩
    case round =>
     obtain⟨jj,cc,Y,hjj,rfl,hcc,rfl,hmj,hri⟩:=hrel
     by_cases hgo:jj<t.size∨0<cc
     · have hj1:jj<=t.size:=by
         rcases Nat.lt_or_ge t.size jj with h|h
         · obtain rfl:jj=t.size+1:=by omega
           have:=mulJ_last hmj.out HY.out
           omega
         · exact h
       obtain⟨p,hp⟩:∃p,k+jj=p:=⟨_,rfl⟩
       have hpL:p<L:=by have:=HL.out;omega
       have hcell:=hri.row p hpL;rw[Nat.zero_add]at hcell;have hfree:=hri.free p;obtain⟨d,hd⟩:∃d,d10 Y p=d:=⟨_,rfl⟩
       rw[hd]at hcell;have hdl:d<10:=by rw[← hd];exact d10_lt _ _
       obtain⟨dy,hdy⟩:∃dy,d10 y jj=dy:=⟨_,rfl⟩
       have hdyl:dy<10:=by rw[← hdy];exact d10_lt _ _
       have CY:=DY.out jj (by omega);rw[hdy]at CY;have CY':=Lib.hid CY;obtain⟨pr,hpr⟩:∃pr,dx*dy=pr:=⟨_,rfl⟩
       have hprl:pr<=81:=by rw[← hpr];exact mul_small hdxl hdyl
       obtain⟨u,hu⟩:∃u,d+pr=u:=⟨_,rfl⟩
       obtain⟨tt,htt⟩:∃tt,u+cc=tt:=⟨_,rfl⟩
       have hsum:d10 Y (k+jj)+d10 x k*d10 y jj+cc=tt:=by rw[hp,hd,HDX.out,hdy,hpr];omega
       obtain⟨r,hr1⟩:∃r,tt%10=r:=⟨_,rfl⟩
       obtain⟨q,hq1⟩:∃q,tt / 10=q:=⟨_,rfl⟩
       have hle:=d10_le_self Y p;obtain⟨Y2,hY2⟩:∃Y2,Y2+d10 Y p*10^p=Y+r*10^p:=⟨Y+r*10^p-d10 Y p*10^p,by omega⟩
       have hrl:r<10:=by omega
       have hst:=mulJ_step (Y:=Y2) hmj.out hsum (by rw[hp,hr1];exact hY2);rw[hq1]at hst;have HST:=Lib.hid hst;have HRN:Hid (∀a,ArrI w ((wr.drewN a).setCell ⟨w.heap.size,p,none⟩ (.int .i64 r)) w.heap.size L Y2):=fun a=>hri.set hpL hrl hY2 a
       have f0:(dx:Int)*(dy:Int)=(pr:Int):=by rw[← hpr,Int.natCast_mul]
       have f1:(d:Int)+(pr:Int)=(u:Int):=by omega
       have f2:(u:Int)+(cc:Int)=(tt:Int):=by omega
       have f3:(tt:Int)%10=(r:Int):=by omega
       have f4:(tt:Int) / 10=(q:Int):=by omega
       have f5:(k:Int)+(jj:Int)=(p:Int):=by omega
       have hql:q<=9:=by omega
       have g0:IntKind.i64.wrap ((k:Int)+(jj:Int))=(p:Int):=by rw[f5];exact IntWalk.i64_in _ (by omega)
       have g1:IntKind.i64.wrap ((dx:Int)*(dy:Int))=(pr:Int):=by rw[f0];exact IntWalk.i64_in _ (by omega)
       have g2:IntKind.i64.wrap ((d:Int)+(pr:Int))=(u:Int):=by rw[f1];exact IntWalk.i64_in _ (by omega)
       have g3:IntKind.i64.wrap ((u:Int)+(cc:Int))=(tt:Int):=by rw[f2];exact IntWalk.i64_in _ (by omega)
       have p0:(0:Int)<=(p:Int):=by omega
       have p1:(p:Int)<(L:Int):=by omega
       have p2:((p:Int)).toNat=p:=by omega
       have hjn:jj+1<=t.size+1:=by omega
       have HGO:=Lib.hid hgo;have QX:Hid (∀a,Calls Tryz.prog 231 #[.string s,.int .i64 k] (wr.drewN a) fun e w''=>e=.returned (.int .i64 dx)/\∃m,w''=wr.drewN m):=fun a=>quietL (CX'.out _)
       have QY:Hid (∀a,Calls Tryz.prog 231 #[.string t,.int .i64 jj] (wr.drewN a) fun e w''=>e=.returned (.int .i64 dy)/\∃m,w''=wr.drewN m):=fun a=>quietL (CY'.out _)
       clear hst hsum hmj hri hd hdy hpr hu htt hr1 hq1 hle hY2 CY hp hgo
       by_cases c1:jj<t.size
       all_goals
        first
         | have d1:decide ((jj:Int)<(t.size:Int))=true:=decide_eq_true (by omega)
         | (have d1 : decide ((jj : Int) < (t.size : Int)) = false := decide_eq_false (by omega)
            have hc0:0<cc:=by have:=HGO.out;omega
            have d2:decide ((0:Int)<(cc:Int))=true:=decide_eq_true (by omega))
        go_wp2_with fail
        go_quiet (first|(go_at_call 231;with_reducible exact QX.out _)|(go_at_call 231;with_reducible exact QY.out _))
        go_wp2
        go_roundw
        case rel=>exact⟨jj+1,q,Y2,hjn,by go_num,hql,rfl,HST.out,HRN.out _⟩
        case measure=>simp[intOf];omega
     · have hjm:t.size<=jj:=by omega
       obtain rfl:cc=0:=by omega
       have hfull:=mulJ_full hmj.out hjm HY.out;rw[Nat.zero_mul,Nat.add_zero]at hfull;have HF:=Lib.hid hfull;have HRI:=Lib.hid hri;have d1:decide ((jj:Int)<(t.size:Int))=false:=decide_eq_false (by omega);have hk2:k+1<=s.size:=by omega
       clear hfull hri hmj hgo;go_wp2
       go_roundw
       case rel=>exact⟨k+1,Y,hk2,by go_num,HF.out,HRI.out⟩
       case measure=>simp[intOf];omega
  · obtain rfl:k=s.size:=by omega
    have hxy:Z=x*y:=by rw[hZ.out,Nat.mod_eq_of_lt HX.out]
    have hlim:x*y<10^L:=by
     have h1:x*y<=x*10^t.size:=Nat.mul_le_mul_left _ (Nat.le_of_lt HY.out);have h2:x*10^t.size<10^s.size*10^t.size:=Nat.mul_lt_mul_of_pos_right HX.out (Nat.pow_pos (by omega));rw[← Nat.pow_add]at h2;have h3:10^(s.size+t.size)<=10^L:=Nat.pow_le_pow_right (by omega) (by have:=HL.out;omega)
     omega
    subst hxy;have HW:=Lib.hid (written_any (some ⟨w.heap.size,0,none⟩) L L (d10 (x*y)) (x*y) wr ⟨Nat.le_refl _,by omega,fun j _=>d10_lt _ _,.inr ⟨_,0,rfl,hr.lt,hr.row⟩⟩ (fun _ _=>rfl) hlim);have HB:=Lib.hid hr.below;have d0:decide ((s.size:Int)<(s.size:Int))=false:=decide_eq_false (by omega);clear hr hZ hlim HZ0
    go_wp2_with (go_at_call 218;refine HW.out.mono ?_;rintro e w7 ⟨rfl,hb7⟩)
    go_ret;exact⟨rfl,HB.out.trans (hb7.mono HB.out.size)⟩
theorem str_append(a b:List UInt8):str a++str b=str (a++b):=by
 refine str_of ?_
 show(str a++str b).data.toList=_
 rw[ByteArray.data_append]
 simp[str]
theorem sdig_snoc (N : Nat) : ∀ n, sdig N (n + 1) = sdig (N / 10) n ++ [dgt N 0]
 | 0=>rfl
 | n+1=>by
  rw[sdig,sdig_snoc N n,sdig]
  have e:dgt (N / 10) n=dgt N (n+1):=by
   unfold dgt;rw[Nat.div_div_eq_div_mul,Nat.pow_succ,Nat.mul_comm 10]
  rw[e];rfl
theorem extract_one{s:ByteArray}{k:Nat}(hk:k<s.size):s.extract k (k+1)=str [s[k]]:=by
 refine str_of ?_;rw[Lib.extract_data];have h:k<s.data.toList.length:=by simpa using hk
 rw[show k+1-k=1 by omega];rw[List.drop_eq_getElem_cons h]
 rfl
theorem rest_digit (R x n k : Nat) (hk : k < n) (h : k < (str (sdig x n)).size) :
    str (dec R)++(str (sdig x n)).extract k (k+1)=str (sdig (10*R+d10 x (n-1-k)) (dl R+1)):=by
 have hd:=d10_lt x (n-1-k)
 have hc:(str (sdig x n))[k]=dgt (10*R+d10 x (n-1-k)) 0:=by
  have h1:=sdig_get x n k hk
  have h3:(sdig x n)[k]? = some ((str (sdig x n))[k]):=by
   rw[List.getElem?_eq_getElem (by rw[sdig_length];omega)];rfl
  rw[h3]at h1;rw[Option.some.inj h1,← UInt8.toNat_inj,dgt_toNat,dgt_toNat]
  show 48+d10 x (n-1-k)=_
  rw[Nat.pow_zero,Nat.div_one]
  omega
 rw[extract_one h,str_append,sdig_snoc,hc];have e:(10*R+d10 x (n-1-k)) / 10=R:=by omega
 rw[e];rfl
theorem div_step (x y k n : Nat) (hy : 0 < y) (hk : k < n) (R : Nat) (hR : R = x / 10 ^ (n - k) % y) :
    (10*R+d10 x (n-1-k)) / y=d10 (x / y) (n-1-k)/\(10*R+d10 x (n-1-k))%y=x / 10^(n-(k+1))%y:=by
 obtain⟨m,hm⟩:∃m,n-1-k=m:=⟨_,rfl⟩
 have e1:n-k=m+1:=by omega
 have e2:n-(k+1)=m:=by omega
 rw[hm,e2];rw[e1]at hR;obtain⟨A,hA⟩:∃A,x / 10^m=A:=⟨_,rfl⟩
 have hA2:x / 10^(m+1)=A / 10:=by rw[Nat.pow_succ,← Nat.div_div_eq_div_mul,hA]
 have hd:d10 x m=A%10:=by unfold d10;rw[hA]
 have hq:d10 (x / y) m=A / y%10:=by
  unfold d10;rw[Nat.div_div_eq_div_mul,Nat.mul_comm,← Nat.div_div_eq_div_mul,hA]
 rw[hA2]at hR;rw[hA,hd,hq];obtain⟨B,hB⟩:∃B,A / 10=B:=⟨_,rfl⟩
 rw[hB]at hR;have hAB:A=10*B+A%10:=by omega
 have hBm:=Nat.div_add_mod B y;rw[← hR]at hBm;have hRl:R<y:=by rw[hR];exact Nat.mod_lt _ hy
 -- A = y * (10 * (B / y)) + (10 * R + A % 10)
 have hA3:A=y*(10*(B / y))+(10*R+A%10):=by
  have:y*(10*(B / y))=10*(y*(B / y)):=by rw[← Nat.mul_assoc,Nat.mul_comm y 10,Nat.mul_assoc]
  omega
 have hT:10*R+A%10<10*y:=by omega
 obtain⟨T,hTT⟩:∃T,10*R+A%10=T:=⟨_,rfl⟩
 rw[hTT]at hA3 hT ⊢;have g1:A / y=10*(B / y)+T / y:=by rw[hA3,Nat.mul_add_div hy]
 have g2:A%y=T%y:=by rw[hA3,Nat.mul_add_mod]
 have g3:T / y<10:=by rw[Nat.div_lt_iff_lt_mul hy];omega
 rw[g1,g2];generalize T / y=t at *;generalize B / y=u at *;exact⟨by omega,rfl⟩
theorem rdivMod_any (x y : Nat) (w : World) (hx : dl x <= 900) (hy : dl y <= 900) (hy0 : 0 < y) :
    Calls Tryz.prog 164 #[.string (str (dec x)),.string (str (dec y))] w fun e w'=>e=.returned (.tuple #[.string (str (dec (x / y))),.string (str (dec (x%y)))])/\Below w.heap.size w w':=by
 obtain⟨i0,hi,hz0,hz1,hz2⟩:=info_parts infoB;obtain⟨n,hn⟩:∃n,dl x=n:=⟨_,rfl⟩
 have hn0:0<n:=by rw[← hn];exact dl_pos x
 have hxn:x<10^n:=by rw[← hn];exact dl_lt x
 have ha:str (dec x)=str (sdig x n):=by unfold dec;rw[hn]
 have hsz:(str (sdig x n)).size=n:=by rw[str_size,sdig_length]
 rw[ha];have HRD:Hid (∀R k (h:k<(str (sdig x n)).size),str (dec R)++(str (sdig x n)).extract k (k+1)=str (sdig (10*R+d10 x (n-1-k)) (dl R+1))):=fun R k h=>rest_digit R x n k (by omega) h
 obtain⟨a,hae⟩:∃a,str (sdig x n)=a:=⟨_,rfl⟩
 rw[hae]at hsz HRD ⊢;have hb:∀R,dl R<=1000->∀wz,Calls Tryz.prog 188 #[.string (str (dec R)),.string (str (dec y))] wz fun e w'=>e=.returned (.int .i64 (cmpI R y))/\wz=w':=fun R hR wz=>rcmp_any R y wz (by omega) (by omega)
 have hs:∀R,y<=R->dl R<=1000->∀wz,Calls Tryz.prog 196 #[.string (str (dec R)),.string (str (dec y))] wz fun e w'=>e=.returned (.string (str (dec (R-y))))/\Below wz.heap.size wz w':=fun R hR hl wz=>rsub_any R (dl R) y (dl y) wz (dl_lt _) (dl_lt _) hl (by omega) hR
 obtain⟨b,hbe⟩:∃b,str (dec y)=b:=⟨_,rfl⟩
 rw[hbe]at hb hs ⊢;have CM:=Lib.hid hb;have SB:=Lib.hid hs;have HX:=Lib.hid hxn;have HI:=Lib.hid hi;have HY:=Lib.hid hy0;have hnl:n<=900:=by omega
 have HYL:=Lib.hid hy;obtain⟨z,hz,hmk⟩:=make_bytes a.size (by omega)
 have H0:Hid (WrI w (w.alloc (.cells z 5)) w.heap.size (x / y) n (.slice (some ⟨w.heap.size,0,none⟩) 0 a.size) 0) :=
  ⟨(Below.refl _ _).alloc (Nat.le_refl _) _,World.ownsRow_made w z a.size (Nat.le_refl _) (by unfold maxLen;omega) (by omega)⟩
 have HSZ:=Lib.hid hsz;have hal:a.size<=900:=by omega
 have HR0:Hid (0=x / 10^(n-0)%y):=by show _=_;rw[Nat.sub_zero,Nat.div_eq_of_lt hxn,Nat.zero_mod]
 have hd0:(⟨#[48]⟩:ByteArray)=str (dec 0):=by rw[dec_zero];rfl
 have HD0:=Lib.hid hd0;clear hb hs hxn hi hy0 hz hsz ha hae hbe hn hx hy hd0;go_enter Tryz.func164,Tryz.ntmps164;go_wp2
 go_loopw [6,7,8] (fun D rs i wr=>∃(k R:Nat) (V:Value) (r:ByteArray),k<=a.size/\i=.int .i64 k/\rs=.string r/\Hid (r=str (dec R))/\Hid (R=x / 10^(n-k)%y)/\V=D/\WrI w wr w.heap.size (x / y) n V k)
  (fun _ _ i _=>a.size-(intOf i).toNat)
 case atStart=>exact⟨0,0,_,_,by omega,rfl,rfl,HD0.out,HR0.out,rfl,H0.out⟩
 case round =>
  obtain⟨k,R,V,r,hk,rfl,rfl,hr,hR,rfl,hw⟩:=hrel
  by_cases hlt:k<a.size
  · have hkn : k < n := by have := HSZ.out; omega
    have hRD:=HRD.out R k hlt;rw[← hr.out]at hRD;obtain⟨T,hT⟩:∃T,10*R+d10 x (n-1-k)=T:=⟨_,rfl⟩
    obtain⟨g1,g2⟩:=div_step x y k n HY.out hkn R hR.out;rw[hT]at g1 g2 hRD;have hRl:R<y:=by rw[hR.out];exact Nat.mod_lt _ HY.out
    have hdR:dl R<=900:=by
     have h1:=HYL.out;refine Nat.le_trans (dl_le R (dl y) (dl_pos y) (Nat.lt_trans hRl (dl_lt y))) h1
    have hTl:T<10^(dl R+1):=by
     have h1:=dl_lt R;have h2:=d10_lt x (n-1-k);rw[Nat.pow_succ];omega
    have hT10:T<10*y:=by have h2:=d10_lt x (n-1-k);omega
    have hdT:dl T<=1000:=by have:=dl_le T (dl R+1) (by omega) hTl;omega
    have TR:Hid (∀wz,Calls Tryz.prog 111 #[.string (r++a.extract k (k+1))] wz fun e w'=>e=.returned (.string (str (dec T)))/\wz=w'):=by
     intro wz;rw[hRD];exact trim_any T (dl R+1) wz (by omega) hTl (by omega)
    have HT0:Hid (str (dec T)=str (dec (T-0*y))/\0*y<=T):=⟨by simp,by simp⟩
    obtain⟨t,ht⟩:∃t,str (dec T)=t:=⟨_,rfl⟩
    rw[ht]at TR HT0;have G1:=Lib.hid g1;have G2:=Lib.hid g2;have HW:=Lib.hid hw;have HDT:=Lib.hid hdT;have HT10:=Lib.hid hT10;have hrsz:r.size<=900:=by rw[hr.out,str_size];unfold dec;rw[sdig_length];exact hdR
    clear hRD g1 g2 hRl hdR hTl hT10 hdT ht hw hr hR hT
    go_wp2_with (go_at_call 111;refine(TR.out _).mono ?_;rintro e w1 ⟨rfl,rfl⟩)
    go_loopw [7,9] (fun rs c wi=>∃(cc:Nat) (r2:ByteArray),cc<=9/\c=.int .i64 cc/\rs=.string r2/\Hid (r2=str (dec (T-cc*y))/\cc*y<=T)/\WrI w wi w.heap.size (x / y) n V k)
     (fun _ c _=>10-(intOf c).toNat)
    case atStart=>exact⟨0,_,by omega,rfl,rfl,HT0.out,HW.out⟩
    case round =>
     obtain⟨cc,r2,hcc,rfl,rfl,hr2,hwi⟩:=hrel;have hdS:dl (T-cc*y)<=1000:=Nat.le_trans (dl_le _ (dl T) (dl_pos T) (Nat.lt_of_le_of_lt (Nat.sub_le _ _) (dl_lt T))) HDT.out;have CMS:=CM.out (T-cc*y) hdS;rw[← hr2.out.1]at CMS
     by_cases hge:y<=T-cc*y
     · obtain⟨q,hq⟩:=cmp_pos hge;rw[hq]at CMS;have SBS:=SB.out (T-cc*y) hge hdS;rw[← hr2.out.1]at SBS;have hmul:(cc+1)*y=cc*y+y:=by rw[Nat.add_mul,Nat.one_mul]
       have hnx:(T-cc*y-y=T-(cc+1)*y)/\(cc+1)*y<=T:=⟨by rw[hmul];omega,by rw[hmul];have:=HY.out;omega⟩
       have hc9:cc+1<=9:=by
        rcases Nat.lt_or_ge cc 9 with h|h
        · omega
        · have h1:=Nat.mul_le_mul_right y (show 10<=cc+1 by omega);rw[hmul]at h1;have:=HT10.out;omega
       have HNX:Hid (str (dec (T-cc*y-y))=str (dec (T-(cc+1)*y))/\(cc+1)*y<=T):=⟨by rw[hnx.1],hnx.2⟩
       obtain⟨t2,ht2⟩:∃t2,str (dec (T-cc*y-y))=t2:=⟨_,rfl⟩
       rw[ht2]at HNX SBS;have C1:=Lib.hid CMS;have S1:=Lib.hid SBS;have HWI:=Lib.hid hwi;have d1:decide ((cc:Int)<10)=true:=decide_eq_true (by omega);clear CMS SBS hmul hnx hge hq hdS hr2 hwi ht2;go_wp2_with fail;go_at_call 188;refine(C1.out _).mono ?_;rintro e w2 ⟨rfl,rfl⟩;go_wp2_with fail;go_at_call 196;refine(S1.out _).mono ?_;rintro e w3 ⟨rfl,hb3⟩;have HW3:Hid (WrI w w3 w.heap.size (x / y) n V k):=⟨HWI.out.below.trans (hb3.mono HWI.out.below.size),HWI.out.own.below hb3⟩
       clear hb3;go_wp2
       go_roundw
       case rel=>exact⟨cc+1,t2,hc9,by go_num,rfl,HNX.out,HW3.out⟩
       case measure=>simp[intOf];omega
     · rw[cmp_neg (show T-cc*y<y by omega)]at CMS;have C1:=Lib.hid CMS;have hy0:=HY.out
       have hqT:T / y=cc:=by
        have h1:T=cc*y+(T-cc*y):=by have:=hr2.out.2;omega
        rw[h1,Nat.add_comm,Nat.add_mul_div_right _ _ hy0,Nat.div_eq_of_lt (by omega)];omega
       have hrT:T%y=T-cc*y:=by
        have h1:T=cc*y+(T-cc*y):=by have:=hr2.out.2;omega
        have h2:(cc*y+(T-cc*y))%y=T-cc*y:=by rw[Nat.add_comm,Nat.add_mul_mod_self_right,Nat.mod_eq_of_lt (by omega)]
        rw[← h1]at h2;exact h2
       obtain⟨yy,hyy⟩:∃yy,48+cc=yy:=⟨_,rfl⟩
       have e2:(48:Int)+(cc:Int)=(yy:Int):=by omega
       have e3:(yy:Int)%256=(yy:Int):=by omega
       have HYD:Hid (yy=dg (x / y) (n-1-k)):=by show _=_;rw[dg_d10,← G1.out,hqT,hyy]
       have HRN:Hid (r2=str (dec (T-cc*y))/\T-cc*y=x / 10^(n-(k+1))%y):=⟨hr2.out.1,by rw[← hrT];exact G2.out⟩
       have HWI:=Lib.hid hwi;have hzr:w.heap.size<=wr.heap.size:=hwi.below.size;have hkn1:k+1<=a.size:=hlt;have hccl:cc<=9:=hcc;clear CMS hge hdS hr2 hwi hqT hrT hyy hy0;go_wp2_with fail;go_at_call 188;refine(C1.out _).mono ?_;rintro e w2 ⟨rfl,rfl⟩
       go_wp2_with (at_builtin;refine wpList_append_own _ rfl _ _ 175 rfl w.heap.size 5 i0 (.int .u8 0) 1 1 Tryz.underlying175 HI.out hz0 hz1 hz2 rfl (by decide) _ _ _ rfl (World.ownsRow.alloc HWI.out.own _) ⟨wr.heap.size,0,none⟩ 1 1 [.int .u8 yy] rfl rfl (cell_one_at _ _ _) (one_cell_list _ _) (by unfold maxLen;omega) (by omega) (by rw[World.size_alloc];omega) ?_;intro v' w5 hown' hgrow _)
       have hb5:Below w.heap.size w w5:=(HWI.out.below.alloc hzr _).grown hgrow (by rw[World.size_alloc];omega) (fun q hq=>(World.ownsRow.lt HWI.out.own q hq).1)
       have hown2:OwnL w5 w.heap.size 5 .u8 v' (k+1) (fun j=>dg (x / y) (n-1-j)):=by
        rw[cl_snoc,cl_congr (g:=fun j=>dg (x / y) (n-1-j)) (fun j hj=>by
         by_cases e:j=k
         · rw[if_pos e,HYD.out,e]
         · rw[if_neg e])]at hown'
        exact hown'
       have HG5:=Lib.hid (show WrI w w5 w.heap.size (x / y) n v' (k+1)from⟨hb5,hown2⟩);clear hown' hgrow hb5 hown2;go_wp2
       go_roundw
       case rel=>exact⟨k+1,T-cc*y,v',r2,hkn1,by go_num,rfl,HRN.out.1,HRN.out.2,rfl,HG5.out⟩
       case measure=>simp[intOf];omega
  · obtain rfl : k = a.size := by omega
    have hsz':=HSZ.out;have hRx:R=x%y:=by rw[hR.out,hsz',Nat.sub_self,Nat.pow_zero,Nat.div_one]
    have hdx:=Nat.div_le_self x y
    rcases hw.own.cases with ⟨hV,hk0⟩|⟨g,c2,rfl,hc2,hgb,hgl,hgc,hgf⟩
    · exfalso;omega
    · have hcv:=run_convert_bytes_arg (P:=Tryz.prog) (w:=wr) 175 5 Tryz.underlying175 Tryz.underlying5 g 0 a.size c2 ((List.range a.size).map fun j=>((dg (x / y) (n-1-j):Nat):Int)) (by simp) (fun j hj=>by rw[hgc j hj];simp[hj]) 9 Tryz.underlying9
      have hst:strOfNums ((List.range a.size).map fun j=>((dg (x / y) (n-1-j):Nat):Int))=str (sdig (x / y) n):=by
       rw[hsz'];refine str_of ?_;rw[strOfNums_data]
       apply List.ext_getElem?
       intro j
       by_cases hj:j<n
       · rw[sdig_get (x / y) n j hj,List.getElem?_map,List.getElem?_map,List.getElem?_range hj];simp only[Option.map_some];rw[Int.toNat_natCast];rfl
       · rw[List.getElem?_eq_none (by simp;omega),List.getElem?_eq_none (by rw[sdig_length];omega)]
      rw[hst]at hcv;have HT:=Lib.hid (trim_any (x / y) n wr (by omega) (Nat.lt_of_le_of_lt hdx HX.out) (by omega));have HB:=Lib.hid hw.below;have HRR:Hid (r=str (dec (x%y))):=by show _=_;rw[hr.out,hRx]
      clear hw hgc hgf hst hr hR hRx hsz';go_wp2_with fail;go_at_call 111;refine HT.out.mono ?_;rintro e w7 ⟨rfl,rfl⟩;clear hcv;go_wp2;go_ret2;exact⟨by rw[HRR.out];rfl,HB.out⟩
end Go.Proofs.YtdmmenaejkpnjaaGreatDoor
namespace Go.Proofs.YtdmmenaejkpnjaaGreatDoor
open Go.RowKit
attribute [local go_sem ↓] Go.wp_at_zero Go.wp_at_succ
def rB(Z:Int):Bool:=decide (Z<0)
def rS(Z:Int):ByteArray:=str (dec Z.natAbs)
def RTold(w w':World)(e:Ending)(Z:Int):Prop:=e=.returned (.agg #[.bool (rB Z),.string (rS Z)])/\Below w.heap.size w w'
def put2(y:World)(k:Nat)(x z:Value):World:=(y.setCell ⟨k,0,none⟩ x).setCell ⟨k,1,none⟩ z
theorem RTold.fin{w w2:World}{k:Nat}{Y:Int}{b:Bool}{t:ByteArray}(hb:Below w.heap.size w w2)(hk:w.heap.size<=k)(h1:rB Y=b)(h2:rS Y=t):RTold w (put2 w2 k (.bool b) (.string t)) (.returned (.agg #[.bool b,.string t])) Y :=
 ⟨by rw[h1,h2],(hb.setCell hk _).setCell hk _⟩
theorem dec_is0(N:Nat):((str (dec N)).toList == [48])=decide (N=0):=by
 have e:(str (dec N)).toList=dec N:=by rw[ByteArray.toList_eq];rfl
 rw[e,Bool.eq_iff_iff,beq_iff_eq,decide_eq_true_eq]
 constructor
 · intro h;have:=congrArg numOf h;unfold dec at this;rw[numOf_sdig,Nat.mod_eq_of_lt (dl_lt N)]at this
   simpa[numOf]using this
 · intro h;rw[h,dec_zero]
theorem rS_is0(Z:Int):((rS Z).toList == [48])=decide (Z=0):=by
 unfold rS;rw[dec_is0]
 by_cases h:Z=0
 · rw[decide_eq_true h,decide_eq_true (by omega)]
 · rw[decide_eq_false h,decide_eq_false (by omega)]
theorem rsgn_B(b:Bool)(N:Nat):rB (sgn b N)=(b && !decide (N=0)):=sgn_neg b N
theorem rsgn_S(b:Bool)(N:Nat):rS (sgn b N)=str (dec N):=by unfold rS;rw[sgn_abs]
theorem rOf_any (b : Bool) (N n : Nat) (w : World) (hn : 0 < n) (hN : N < 10 ^ n) (hl : n <= 10000000) :
    Calls Tryz.prog 189 #[.bool b,.string (str (sdig N n))] w fun e w'=>RTold w w' e (sgn b N):=by
 have TR:=Lib.hid (fun wz=>trim_any N n wz hn hN hl);have h0:=dec_is0 N;obtain⟨s,hs⟩:∃s,str (sdig N n)=s:=⟨_,rfl⟩
 obtain⟨t,ht⟩:∃t,str (dec N)=t:=⟨_,rfl⟩
 have hx:=rsgn_B b N;have hy:=rsgn_S b N;rw[ht]at TR h0 hy;rw[hs]at TR ⊢;obtain⟨z,hz⟩:∃z,decide (N=0)=z:=⟨_,rfl⟩
 rw[hz]at h0 hx;have HX:=Lib.hid hx;have HY:=Lib.hid hy;clear hx hy hs ht hz hN hn hl
 cases b
 · have HE:Hid (RTold w (w.alloc (.cells #[.bool false,.string t] 159)) (.returned (.agg #[.bool false,.string t])) (sgn false N)):=⟨by rw[HX.out,HY.out];rfl,(Below.refl _ _).alloc (Nat.le_refl _) _⟩
   go_enter Tryz.func189,Tryz.ntmps189
   go_wp2_with (go_at_call 111;refine(TR.out _).mono ?_;rintro e w2 ⟨rfl,rfl⟩)
   exact bodyPost_ret (v:=.agg #[.bool false,.string t]) (by simp[results,Tryz.results189,go_sem]) rfl HE.out
 · have HE:Hid (RTold w (w.alloc (.cells #[.bool (!z),.string t] 159)) (.returned (.agg #[.bool (!z),.string t])) (sgn true N)):=⟨by rw[HX.out,HY.out];rfl,(Below.refl _ _).alloc (Nat.le_refl _) _⟩
   cases z
   all_goals
    go_enter Tryz.func189,Tryz.ntmps189
    go_wp2_with (go_at_call 111;refine(TR.out _).mono ?_;rintro e w2 ⟨rfl,rfl⟩)
    exact bodyPost_ret (v:=_) (by simp[results,Tryz.results189,go_sem]) rfl HE.out
theorem rOf_dec (b : Bool) (N : Nat) (w : World) (hl : dl N <= 10000000) :
    Calls Tryz.prog 189 #[.bool b,.string (str (dec N))] w fun e w'=>RTold w w' e (sgn b N):=rOf_any b N (dl N) w (dl_pos N) (dl_lt N) hl
theorem rSign_any(Z:Int)(w:World):Calls Tryz.prog 150 #[.agg #[.bool (rB Z),.string (rS Z)]] w fun e w'=>e=.returned (.int .i64 (sgnI Z))/\Below w.heap.size w w':=by
 have B0:=Lib.hid ((Bag.start w).box2 (.bool (rB Z)) (.string (rS Z)) 159);have h0:=rS_is0 Z
 by_cases hz:Z=0
 · rw[decide_eq_true hz]at h0;have HE:Hid (sgnI Z=0):=by show _=_;unfold sgnI;rw[if_neg (by omega),if_pos hz]
   clear hz;generalize rB Z=b at *;generalize rS Z=s at *;go_enter Tryz.func150,Tryz.ntmps150;go_wp2;go_ret;exact⟨ret_int HE.out.symm,B0.out.below⟩
 · rw[decide_eq_false hz]at h0
   have HE:Hid (sgnI Z=if rB Z then -1 else 1):=by
    show _=_;unfold sgnI rB
    by_cases h2:Z<0
    · rw[if_pos h2,decide_eq_true h2];rfl
    · rw[if_neg h2,if_neg hz,decide_eq_false h2];rfl
   clear hz;generalize rB Z=b at *;generalize rS Z=s at *
   cases b
   all_goals
    go_enter Tryz.func150,Tryz.ntmps150;go_wp2;go_ret;exact⟨ret_int HE.out.symm,B0.out.below⟩
theorem rMinus_any(Z:Int)(w:World)(hl:dl Z.natAbs<=10000000):Calls Tryz.prog 209 #[.agg #[.bool (rB Z),.string (rS Z)]] w fun e w'=>RTold w w' e (-Z):=by
 have B0:=((Bag.start w).box2 (.bool (rB Z)) (.string (rS Z)) 159).box2 (.bool false) (.string ⟨#[]⟩) 159;rw[World.size_alloc]at B0
 have OF:Hid (∀wz,Calls Tryz.prog 189 #[.bool (!rB Z),.string (rS Z)] wz fun e w'=>RTold wz w' e (-Z)):=by
  intro wz;have h1:=rOf_dec (!rB Z) Z.natAbs wz hl
  have e:sgn (!rB Z) Z.natAbs = -Z:=by
   unfold rB
   by_cases h2:Z<0
   · rw[decide_eq_true h2];simp[sgn];omega
   · rw[decide_eq_false h2];simp[sgn];omega
  rw[e]at h1;exact h1
 have BB:=Lib.hid B0;generalize rB Z=b at *;generalize rS Z=s at *;generalize -Z=Y at *;clear B0 hl;go_enter Tryz.func209,Tryz.ntmps209;go_wp2_with fail;go_at_call 189;refine(OF.out _).mono ?_;rintro e w2 ⟨rfl,hb2⟩;have B2:=BB.out.go hb2;have hs2:=B2.now.1;have hc1:=hs2.cell;have hc2:=hs2.cell1;have hf1:=hs2.free;have hf2:=hs2.free1;have HS:=hs2.set (.bool (rB Y)) (.string (rS Y));have HE:=Lib.hid (RTold.fin (Y:=Y) B2.below (show w.heap.size<=w.heap.size+1 by omega) rfl rfl);unfold put2 at HE;clear hb2 B2 hs2;go_wp2;exact bodyPost_ret (by simp[results,Tryz.results209,go_sem,HS]) rfl HE.out
theorem rFrom_any (X : Int) (w : World) (h : -9223372036854775808 <= X /\ X <= 9223372036854775807) :
    Calls Tryz.prog 119 #[.int .i64 X] w fun e w'=>RTold w w' e X:=by
 have BB:=Lib.hid ((Bag.start w).box2 (.bool false) (.string ⟨#[]⟩) 159)
 by_cases h0:X<0
 · obtain⟨y,hy⟩:∃y:Nat,(y:Int) = -X:=⟨(-X).toNat,by omega⟩
   obtain⟨y1,hy1⟩:∃y1:Nat,(y1:Int) = -X-1:=⟨(-X-1).toNat,by omega⟩
   obtain⟨X1,hX1⟩:∃X1,X+1=X1:=⟨_,rfl⟩
   have e2:0-X1=(y1:Int):=by omega
   have e3:(y1:Int)+1=(y:Int):=by omega
   have d0:decide (X<0)=true:=decide_eq_true h0;have HB:Hid (rB X=true/\rS X=str (dec y)):=⟨by unfold rB;exact d0,by unfold rS;rw[show X.natAbs=y by omega]⟩
   have HO:=Lib.hid (fun wz=>rof_any y wz (by omega));obtain⟨t,ht⟩:∃t,str (dec y)=t:=⟨_,rfl⟩
   rw[ht]at HO HB;have hb1 : -9223372036854775807<=X1/\X1<=0:=by omega
   have hb3:(y1:Int)<=9223372036854775807:=by omega
   have h':=h.1;clear hy hy1 ht h;go_enter Tryz.func119,Tryz.ntmps119;go_wp2_with fail;go_at_call 174;refine(HO.out _).mono ?_;rintro e w2 ⟨rfl,hb2⟩;have B2:=BB.out.go hb2;have hs2:=B2.now.1;have hc1:=hs2.cell;have hc2:=hs2.cell1;have hf1:=hs2.free;have hf2:=hs2.free1;have HS:=hs2.set (.bool true) (.string t);have HE:=Lib.hid (RTold.fin B2.below (Nat.le_refl _) HB.out.1 HB.out.2);unfold put2 at HE;clear hb2 B2 hs2;go_wp2;exact bodyPost_ret (by simp[results,Tryz.results119,go_sem,HS]) rfl HE.out
 · obtain⟨y,rfl⟩:∃y:Nat,X=(y:Int):=⟨X.toNat,by omega⟩
   have d0:decide ((y:Int)<0)=false:=decide_eq_false h0;have HB:Hid (rB (y:Int)=false/\rS (y:Int)=str (dec y)):=⟨by unfold rB;exact d0,by unfold rS;simp⟩
   have HO:=Lib.hid (fun wz=>rof_any y wz (by omega));obtain⟨t,ht⟩:∃t,str (dec y)=t:=⟨_,rfl⟩
   rw[ht]at HO HB;have h':=h.2;clear ht h;go_enter Tryz.func119,Tryz.ntmps119;go_wp2_with fail;go_at_call 174;refine(HO.out _).mono ?_;rintro e w2 ⟨rfl,hb2⟩;have B2:=BB.out.go hb2;have hs2:=B2.now.1;have hc1:=hs2.cell;have hc2:=hs2.cell1;have hf1:=hs2.free;have hf2:=hs2.free1;have HS:=hs2.set (.bool false) (.string t);have HE:=Lib.hid (RTold.fin B2.below (Nat.le_refl _) HB.out.1 HB.out.2);unfold put2 at HE;clear hb2 B2 hs2;go_wp2;exact bodyPost_ret (by simp[results,Tryz.results119,go_sem,HS]) rfl HE.out
theorem cmpZ_sgn{Z Y:Int}(h:sgnI Z≠sgnI Y):cmpZ Z Y=if sgnI Z<sgnI Y then -1 else 1:=by
 unfold cmpZ sgnI at *
 (repeat' split at h)<;>(repeat' split)<;>omega
theorem cmpZ_abs{Z Y:Int}(h:sgnI Z=sgnI Y):cmpZ Z Y=if rB Z then cmpI Y.natAbs Z.natAbs else cmpI Z.natAbs Y.natAbs:=by
 unfold cmpZ sgnI rB cmpI at *
 by_cases h1:Z<0
 · rw[decide_eq_true h1];(repeat' split at h)<;>simp only[if_true]<;>(repeat' split)<;>omega
 · rw[decide_eq_false h1];(repeat' split at h)<;>simp only[Bool.false_eq_true,if_false]<;>(repeat' split)<;>omega
theorem rCmp_any (Z Y : Int) (w : World) (hl : dl Z.natAbs <= 100000) (hl2 : dl Y.natAbs <= 100000) :
    Calls Tryz.prog 127 #[.agg #[.bool (rB Z),.string (rS Z)],.agg #[.bool (rB Y),.string (rS Y)]] w fun e w'=>e=.returned (.int .i64 (cmpZ Z Y))/\Below w.heap.size w w':=by
 have B0:=((Bag.start w).box2 (.bool (rB Z)) (.string (rS Z)) 159).box2 (.bool (rB Y)) (.string (rS Y)) 159;rw[World.size_alloc]at B0;have S1:=Lib.hid (fun wz=>rSign_any Z wz);have S2:=Lib.hid (fun wz=>rSign_any Y wz);have C1:=Lib.hid (fun wz=>rcmp_any Z.natAbs Y.natAbs wz hl hl2);have C2:=Lib.hid (fun wz=>rcmp_any Y.natAbs Z.natAbs wz hl2 hl);have HD:=Lib.hid (@cmpZ_sgn Z Y);have HS:=Lib.hid (@cmpZ_abs Z Y);have e1:str (dec Z.natAbs)=rS Z:=rfl;have e2:str (dec Y.natAbs)=rS Y:=rfl;rw[e1,e2]at C1 C2;have BB:=Lib.hid B0;generalize rB Z=b at *;generalize rS Z=s at *;generalize rB Y=b2 at *;generalize rS Y=s2 at *;obtain⟨x,hx⟩:∃x,sgnI Z=x:=⟨_,rfl⟩
 obtain⟨y,hy⟩:∃y,sgnI Y=y:=⟨_,rfl⟩
 rw[hx]at S1 HD HS;rw[hy]at S2 HD HS;clear e1 e2 hx hy hl hl2 B0
 by_cases hxy:x=y
 · have hd : (x == y) = true := by rw [hxy]; simp
   have HE:=Lib.hid (HS.out hxy);clear hxy HD HS;go_enter Tryz.func127,Tryz.ntmps127;go_wp2_with fail
   go_region_held3 (fun z => (z.cell? ⟨w.heap.size, 0, none⟩ = some (.bool b) /\ z.cell? ⟨w.heap.size, 1, none⟩ = some (.string s) /\ z.cell? ⟨w.heap.size + 1, 0, none⟩ = some (.bool b2) /\ z.cell? ⟨w.heap.size + 1, 1, none⟩ = some (.string s2)) /\ Bag w (fun z => Slot2 z (w.heap.size + 1) (.bool b2) (.string s2) /\ Slot2 z w.heap.size (.bool b) (.string s) /\ True) z)
    (first
      | (have B9:=BB.out.drew;exact⟨⟨B9.now.2.1.cell,B9.now.2.1.cell1,B9.now.1.cell,B9.now.1.cell1⟩,B9⟩)
      | (have B9:=Bag.go (show Bag w (fun z=>Slot2 z (w.heap.size+1) (.bool b2) (.string s2)/\Slot2 z w.heap.size (.bool b) (.string s)/\True) _ from by go_split_ands;assumption) hb2;exact⟨⟨B9.now.2.1.cell,B9.now.2.1.cell1,B9.now.1.cell,B9.now.1.cell1⟩,B9⟩))
    (first
      | (go_at_call 150;(with_reducible refine(S1.out _).mono ?_);rintro e w2 ⟨rfl,hb2⟩)
      | (go_at_call 150;(with_reducible refine(S2.out _).mono ?_);rintro e w2 ⟨rfl,hb2⟩))
   have BB:=Lib.hid (show Bag w (fun z=>Slot2 z (w.heap.size+1) (.bool b2) (.string s2)/\Slot2 z w.heap.size (.bool b) (.string s)/\True) _ from by go_split_ands;assumption);have q0:=BB.out.now.2.1.cell;have q1:=BB.out.now.2.1.cell1;have q2:=BB.out.now.1.cell;have q3:=BB.out.now.1.cell1
   cases b
   · go_wp2_with (go_at_call 188;(with_reducible refine(C1.out _).mono ?_);rintro e w5 ⟨rfl,rfl⟩)
     go_ret;exact⟨ret_int HE.out.symm,BB.out.below⟩
   · go_wp2_with (go_at_call 188;(with_reducible refine(C2.out _).mono ?_);rintro e w5 ⟨rfl,rfl⟩)
     go_ret;exact⟨ret_int HE.out.symm,BB.out.below⟩
 · have hd : (x == y) = false := by rw [beq_eq_false_iff_ne]; exact hxy
   have HE:=Lib.hid (HD.out hxy);clear hxy HD HS
   by_cases hlt:x<y
   all_goals
    first
     | have d1:decide (x<y)=true:=decide_eq_true hlt
     | have d1:decide (x<y)=false:=decide_eq_false hlt
    have HF:Hid (cmpZ Z Y=if decide (x<y)then -1 else 1):=by show _=_;rw[HE.out];simp
    rw[d1]at HF;go_enter Tryz.func127,Tryz.ntmps127;go_wp2_with fail
    go_region_held3 (fun z => (z.cell? ⟨w.heap.size, 0, none⟩ = some (.bool b) /\ z.cell? ⟨w.heap.size, 1, none⟩ = some (.string s) /\ z.cell? ⟨w.heap.size + 1, 0, none⟩ = some (.bool b2) /\ z.cell? ⟨w.heap.size + 1, 1, none⟩ = some (.string s2)) /\ Bag w (fun z => Slot2 z (w.heap.size + 1) (.bool b2) (.string s2) /\ Slot2 z w.heap.size (.bool b) (.string s) /\ True) z)
     (first
       | (have B9:=BB.out.drew;exact⟨⟨B9.now.2.1.cell,B9.now.2.1.cell1,B9.now.1.cell,B9.now.1.cell1⟩,B9⟩)
       | (have B9:=Bag.go (show Bag w (fun z=>Slot2 z (w.heap.size+1) (.bool b2) (.string s2)/\Slot2 z w.heap.size (.bool b) (.string s)/\True) _ from by go_split_ands;assumption) hb2;exact⟨⟨B9.now.2.1.cell,B9.now.2.1.cell1,B9.now.1.cell,B9.now.1.cell1⟩,B9⟩))
     (first
       | (go_at_call 150;(with_reducible refine(S1.out _).mono ?_);rintro e w2 ⟨rfl,hb2⟩)
       | (go_at_call 150;(with_reducible refine(S2.out _).mono ?_);rintro e w2 ⟨rfl,hb2⟩))
    have BB:=Lib.hid (show Bag w (fun z=>Slot2 z (w.heap.size+1) (.bool b2) (.string s2)/\Slot2 z w.heap.size (.bool b) (.string s)/\True) _ from by go_split_ands;assumption);go_wp2_with fail
    go_region_held3 (fun z => (z.cell? ⟨w.heap.size, 0, none⟩ = some (.bool b) /\ z.cell? ⟨w.heap.size, 1, none⟩ = some (.string s) /\ z.cell? ⟨w.heap.size + 1, 0, none⟩ = some (.bool b2) /\ z.cell? ⟨w.heap.size + 1, 1, none⟩ = some (.string s2)) /\ Bag w (fun z => Slot2 z (w.heap.size + 1) (.bool b2) (.string s2) /\ Slot2 z w.heap.size (.bool b) (.string s) /\ True) z)
     (first
       | (have B9:=BB.out.drew;exact⟨⟨B9.now.2.1.cell,B9.now.2.1.cell1,B9.now.1.cell,B9.now.1.cell1⟩,B9⟩)
       | (have B9:=Bag.go (show Bag w (fun z=>Slot2 z (w.heap.size+1) (.bool b2) (.string s2)/\Slot2 z w.heap.size (.bool b) (.string s)/\True) _ from by go_split_ands;assumption) hb2;exact⟨⟨B9.now.2.1.cell,B9.now.2.1.cell1,B9.now.1.cell,B9.now.1.cell1⟩,B9⟩))
     (first
       | (go_at_call 150;(with_reducible refine(S1.out _).mono ?_);rintro e w2 ⟨rfl,hb2⟩)
       | (go_at_call 150;(with_reducible refine(S2.out _).mono ?_);rintro e w2 ⟨rfl,hb2⟩))
    have BB:=Lib.hid (show Bag w (fun z=>Slot2 z (w.heap.size+1) (.bool b2) (.string s2)/\Slot2 z w.heap.size (.bool b) (.string s)/\True) _ from by go_split_ands;assumption);go_wp2;go_ret;exact⟨ret_int HF.out.symm,BB.out.below⟩
def RX(y:World)(k:Nat):Prop:=∃x z,Slot2 y k x z
theorem RX.below{w w':World}{k:Nat}(h:RX w k)(hb:Below w.heap.size w w'):RX w' k:=by
 obtain⟨x,z,h1⟩:=h;exact⟨x,z,h1.below hb⟩
theorem Slot2.put2s{w:World}{k:Nat}{x z:Value}(h:Slot2 w k x z)(u v:Value):Slot2 (put2 w k u v) k u v :=
 ⟨(h.set u v).1,(h.set u v).2,by simp[put2,h.free],by simp[put2,h.free1],by simpa[put2]using h.lt⟩
theorem Slot2.put2o{w:World}{k j:Nat}{x z:Value}(h1:Slot2 w j x z)(e:j≠k)(u v:Value):Slot2 (put2 w k u v) j x z:=by
 refine⟨?_,?_,by simp[put2,h1.free],by simp[put2,h1.free1],by simpa[put2]using h1.lt⟩
 · unfold put2;rw[World.cell?_setCell_other _ _ _ _ (fun e'=>by cases e'<;>exact e rfl),World.cell?_setCell_other _ _ _ _ (fun e'=>by cases e'<;>exact e rfl)];exact h1.cell
 · unfold put2;rw[World.cell?_setCell_other _ _ _ _ (fun e'=>by cases e'<;>exact e rfl),World.cell?_setCell_other _ _ _ _ (fun e'=>by cases e'<;>exact e rfl)];exact h1.cell1
theorem RX.put2{w:World}{k j:Nat}(h:RX w j)(u v:Value):RX (put2 w k u v) j:=by
 obtain⟨x,z,h1⟩:=h
 by_cases e:j=k
 · subst e;exact⟨_,_,h1.put2s u v⟩
 · exact⟨_,_,h1.put2o e u v⟩
theorem Bag.put2{w0 w:World}{P:World->Prop}(h:Bag w0 P w){k:Nat}(hk:w0.heap.size<=k){u v:Value}(hp:P w->P (put2 w k u v)):Bag w0 P (put2 w k u v) :=
 ⟨(h.below.setCell hk _).setCell hk _,h.stay,hp h.now⟩
def BP(k:Nat)(b:Bool)(s:ByteArray)(b2:Bool)(s2:ByteArray)(y:World):Prop:=RX y (k+1+1)/\Slot2 y (k+1) (.bool b2) (.string s2)/\Slot2 y k (.bool b) (.string s)
theorem BP.stay{k:Nat}{b:Bool}{s:ByteArray}{b2:Bool}{s2:ByteArray}:∀x y,Below x.heap.size x y->BP k b s b2 s2 x->BP k b s b2 s2 y:=fun _ _ hb h=>⟨h.1.below hb,h.2.1.below hb,h.2.2.below hb⟩
theorem BP.put2{k:Nat}{b:Bool}{s:ByteArray}{b2:Bool}{s2:ByteArray}{y:World}(h:BP k b s b2 s2 y)(u v:Value):BP k b s b2 s2 (put2 y (k+1+1) u v):=⟨h.1.put2 u v,h.2.1.put2o (by omega) u v,h.2.2.put2o (by omega) u v⟩
theorem BP.start(w:World)(b:Bool)(s:ByteArray)(b2:Bool)(s2:ByteArray):Bag w (BP w.heap.size b s b2 s2) (((w.alloc (.cells #[.bool b,.string s] 159)).alloc (.cells #[.bool b2,.string s2] 159)).alloc (.cells #[.bool false,.string ⟨#[]⟩] 159)):=by
 have B0:=(((Bag.start w).box2 (.bool b) (.string s) 159).box2 (.bool b2) (.string s2) 159).box2 (.bool false) (.string ⟨#[]⟩) 159;simp only[World.size_alloc]at B0;exact⟨B0.below,BP.stay,⟨_,_,B0.now.1⟩,B0.now.2.1,B0.now.2.2.1⟩
theorem dl_add_le{x y k:Nat}(hx:dl x<=k)(hy:dl y<=k):dl (x+y)<=k+1:=by
 refine dl_le _ _ (by omega) ?_;have h1:=dl_lt x;have h2:=dl_lt y;have h3:=Nat.pow_le_pow_right (show 0<10 by omega) hx;have h4:=Nat.pow_le_pow_right (show 0<10 by omega) hy;rw[Nat.pow_succ];omega
theorem dl_mono{x y:Nat}(h:x<=y):dl x<=dl y:=dl_le _ _ (dl_pos y) (Nat.lt_of_le_of_lt h (dl_lt y))
theorem dl_mul_le{x y k m:Nat}(hx:dl x<=k)(hy:dl y<=m):dl (x*y)<=k+m:=by
 have h1:=dl_lt x;have h2:=dl_lt y;have h3:=Nat.pow_le_pow_right (show 0<10 by omega) hx;have h4:=Nat.pow_le_pow_right (show 0<10 by omega) hy;have:=dl_pos x;refine dl_le _ _ (by omega) ?_;rw[Nat.pow_add];have a1:x*y<=x*10^m:=Nat.mul_le_mul_left _ (by omega);have a2:x*10^m<10^k*10^m:=Nat.mul_lt_mul_of_pos_right (by omega) (Nat.pow_pos (by omega))
 omega
theorem rAdd_same (Z Y : Int) (w : World) (hl : dl Z.natAbs <= 1000) (hl2 : dl Y.natAbs <= 1000) (hs : rB Z = rB Y) :
    Calls Tryz.prog 193 #[.agg #[.bool (rB Z),.string (rS Z)],.agg #[.bool (rB Y),.string (rS Y)]] w fun e w'=>RTold w w' e (Z+Y):=by
 have hd:(rB Z==rB Y)=true:=by rw[hs];simp
 have hv:sgn (rB Z) (Z.natAbs+Y.natAbs)=Z+Y:=by
  unfold rB at *
  by_cases h1:Z<0
  · rw[decide_eq_true h1]at hs ⊢;have:=of_decide_eq_true hs.symm
    simp[sgn];omega
  · rw[decide_eq_false h1]at hs ⊢;have:=of_decide_eq_false hs.symm
    simp[sgn];omega
 have OF:Hid (∀wz,Calls Tryz.prog 189 #[.bool (rB Z),.string (str (dec (Z.natAbs+Y.natAbs)))] wz fun e w'=>RTold wz w' e (Z+Y)):=by
  intro wz;have h1:=rOf_dec (rB Z) (Z.natAbs+Y.natAbs) wz (by have:=dl_add_le hl hl2;omega);rw[show sgn (rB Z) (Z.natAbs+Y.natAbs)=Z+Y from hv]at h1;exact h1
 have C1:Hid (∀wz,Calls Tryz.prog 197 #[.string (rS Z),.string (rS Y)] wz fun e w'=>e=.returned (.string (str (dec (Z.natAbs+Y.natAbs))))/\Below wz.heap.size wz w'):=fun wz=>radd_any Z.natAbs (dl Z.natAbs) Y.natAbs (dl Y.natAbs) wz (dl_lt _) (dl_lt _) (by omega) (by omega)
 clear hs;obtain⟨V,hV⟩:∃V,Z+Y=V:=⟨_,rfl⟩
 rw[hV]at OF ⊢;obtain⟨t,ht⟩:∃t,str (dec (Z.natAbs+Y.natAbs))=t:=⟨_,rfl⟩
 rw[ht]at OF C1;clear hV ht hv;generalize rB Z=b at *;generalize rS Z=s at *;generalize rB Y=b2 at *;generalize rS Y=s2 at *;clear hl hl2;have BB:=Lib.hid (BP.start w b s b2 s2);have q0:=BB.out.now.2.2.cell;have q1:=BB.out.now.2.2.cell1;have q2:=BB.out.now.2.1.cell;have q3:=BB.out.now.2.1.cell1;go_enter Tryz.func193,Tryz.ntmps193;go_wp2_with fail
 go_region_held3 (fun y => (y.cell? ⟨w.heap.size, 0, none⟩ = some (.bool b) /\ y.cell? ⟨w.heap.size, 1, none⟩ = some (.string s) /\ y.cell? ⟨w.heap.size + 1, 0, none⟩ = some (.bool b2) /\ y.cell? ⟨w.heap.size + 1, 1, none⟩ = some (.string s2)) /\ Bag w (BP w.heap.size b s b2 s2) y)
  (first
    | (have B9:=BB.out.drew;exact⟨⟨B9.now.2.2.cell,B9.now.2.2.cell1,B9.now.2.1.cell,B9.now.2.1.cell1⟩,B9⟩)
    | (have B9:=Bag.go (show Bag w (BP w.heap.size b s b2 s2) _ from by go_split_ands;assumption) hb2;exact⟨⟨B9.now.2.2.cell,B9.now.2.2.cell1,B9.now.2.1.cell,B9.now.2.1.cell1⟩,B9⟩)
    | (have B9:=Bag.put2 (show Bag w (BP w.heap.size b s b2 s2) _ from by go_split_ands;assumption) (k:=w.heap.size+1+1) (u:=.bool (rB V)) (v:=.string (rS V)) (by omega) (fun h=>h.put2 _ _);exact⟨⟨B9.now.2.2.cell,B9.now.2.2.cell1,B9.now.2.1.cell,B9.now.2.1.cell1⟩,B9⟩))
  (first
    | (go_at_call 197;(with_reducible refine(C1.out _).mono ?_);rintro e w2 ⟨rfl,hb2⟩)
    | (go_at_call 189;(with_reducible refine(OF.out _).mono ?_);rintro e w2 ⟨rfl,hb2⟩;have B7:=Bag.go (show Bag w (BP w.heap.size b s b2 s2) _ from by go_split_ands;assumption) hb2;obtain⟨x8,z8,hs8⟩:=B7.now.1;have hc1:=hs8.cell;have hc2:=hs8.cell1;have hf1:=hs8.free;have hf2:=hs8.free1;have HS:=hs8.set (.bool (rB V)) (.string (rS V));have HE:=Lib.hid (RTold.fin (Y:=V) B7.below (show w.heap.size<=w.heap.size+1+1 by omega) rfl rfl);unfold put2 at HE;clear hs8 B7))
 go_wp2;exact bodyPost_ret (by simp[results,Tryz.results193,go_sem,HS]) rfl HE.out
theorem rAdd_less (Z Y : Int) (w : World) (hl : dl Z.natAbs <= 1000) (hl2 : dl Y.natAbs <= 1000) (hs : ¬ rB Z = rB Y) (hle : Y.natAbs <= Z.natAbs) :
    Calls Tryz.prog 193 #[.agg #[.bool (rB Z),.string (rS Z)],.agg #[.bool (rB Y),.string (rS Y)]] w fun e w'=>RTold w w' e (Z+Y):=by
 have hd:(rB Z==rB Y)=false:=by simpa using hs
 have hv:sgn (rB Z) (Z.natAbs-Y.natAbs)=Z+Y:=by
  unfold rB at *
  by_cases h1:Z<0
  · rw[decide_eq_true h1]at hs
    by_cases h2:Y<0
    · rw[decide_eq_true h2]at hs;exact absurd rfl hs
    · first|rw[decide_eq_true h1]|rw[decide_eq_false h2]
      simp[sgn];omega
  · rw[decide_eq_false h1]at hs
    by_cases h2:Y<0
    · first|rw[decide_eq_false h1]|rw[decide_eq_true h2]
      simp[sgn];omega
    · rw[decide_eq_false h2]at hs;exact absurd rfl hs
 have CM:Hid (∀wz,Calls Tryz.prog 188 #[.string (rS Z),.string (rS Y)] wz fun e w'=>e=.returned (.int .i64 (cmpI Z.natAbs Y.natAbs))/\wz=w'):=fun wz=>rcmp_any Z.natAbs Y.natAbs wz (by omega) (by omega)
 obtain⟨cm,hcm⟩:∃cm,cmpI Z.natAbs Y.natAbs=cm:=⟨_,rfl⟩
 rw[hcm]at CM
 have hge:0<=cm:=by
  obtain⟨k,hk⟩:=cmp_pos hle
  omega
 have d1:decide (0<=cm)=true:=decide_eq_true hge
 have OF:Hid (∀wz,Calls Tryz.prog 189 #[.bool (rB Z),.string (str (dec (Z.natAbs-Y.natAbs)))] wz fun e w'=>RTold wz w' e (Z+Y)):=by
  intro wz;have h1:=rOf_dec (rB Z) (Z.natAbs-Y.natAbs) wz (by have:=dl_mono (Nat.sub_le Z.natAbs Y.natAbs);omega);rw[show sgn (rB Z) (Z.natAbs-Y.natAbs)=Z+Y from hv]at h1;exact h1
 have C1:Hid (∀wz,Calls Tryz.prog 196 #[.string (rS Z),.string (rS Y)] wz fun e w'=>e=.returned (.string (str (dec (Z.natAbs-Y.natAbs))))/\Below wz.heap.size wz w'):=fun wz=>rsub_any Z.natAbs (dl Z.natAbs) Y.natAbs (dl Y.natAbs) wz (dl_lt _) (dl_lt _) (by omega) (by omega) hle
 clear hs hcm hle;obtain⟨V,hV⟩:∃V,Z+Y=V:=⟨_,rfl⟩
 rw[hV]at OF ⊢;obtain⟨t,ht⟩:∃t,str (dec (Z.natAbs-Y.natAbs))=t:=⟨_,rfl⟩
 rw[ht]at OF C1;clear hV ht hv;generalize rB Z=b at *;generalize rS Z=s at *;generalize rB Y=b2 at *;generalize rS Y=s2 at *;clear hl hl2;have BB:=Lib.hid (BP.start w b s b2 s2);have q0:=BB.out.now.2.2.cell;have q1:=BB.out.now.2.2.cell1;have q2:=BB.out.now.2.1.cell;have q3:=BB.out.now.2.1.cell1;go_enter Tryz.func193,Tryz.ntmps193
 go_wp2_with (go_at_call 188;(with_reducible refine(CM.out _).mono ?_);rintro e w5 ⟨rfl,rfl⟩)
 go_region_held3 (fun y => (y.cell? ⟨w.heap.size, 0, none⟩ = some (.bool b) /\ y.cell? ⟨w.heap.size, 1, none⟩ = some (.string s) /\ y.cell? ⟨w.heap.size + 1, 0, none⟩ = some (.bool b2) /\ y.cell? ⟨w.heap.size + 1, 1, none⟩ = some (.string s2)) /\ Bag w (BP w.heap.size b s b2 s2) y)
  (first
    | (have B9:=BB.out.drew;exact⟨⟨B9.now.2.2.cell,B9.now.2.2.cell1,B9.now.2.1.cell,B9.now.2.1.cell1⟩,B9⟩)
    | (have B9:=Bag.go (show Bag w (BP w.heap.size b s b2 s2) _ from by go_split_ands;assumption) hb2;exact⟨⟨B9.now.2.2.cell,B9.now.2.2.cell1,B9.now.2.1.cell,B9.now.2.1.cell1⟩,B9⟩)
    | (have B9:=Bag.put2 (show Bag w (BP w.heap.size b s b2 s2) _ from by go_split_ands;assumption) (k:=w.heap.size+1+1) (u:=.bool (rB V)) (v:=.string (rS V)) (by omega) (fun h=>h.put2 _ _);exact⟨⟨B9.now.2.2.cell,B9.now.2.2.cell1,B9.now.2.1.cell,B9.now.2.1.cell1⟩,B9⟩))
  (first
    | (go_at_call 196;(with_reducible refine(C1.out _).mono ?_);rintro e w2 ⟨rfl,hb2⟩)
    | (go_at_call 189;(with_reducible refine(OF.out _).mono ?_);rintro e w2 ⟨rfl,hb2⟩;have B7:=Bag.go (show Bag w (BP w.heap.size b s b2 s2) _ from by go_split_ands;assumption) hb2;obtain⟨x8,z8,hs8⟩:=B7.now.1;have hc1:=hs8.cell;have hc2:=hs8.cell1;have hf1:=hs8.free;have hf2:=hs8.free1;have HS:=hs8.set (.bool (rB V)) (.string (rS V));have HE:=Lib.hid (RTold.fin (Y:=V) B7.below (show w.heap.size<=w.heap.size+1+1 by omega) rfl rfl);unfold put2 at HE;clear hs8 B7))
 go_wp2;exact bodyPost_ret (by simp[results,Tryz.results193,go_sem,HS]) rfl HE.out
theorem rAdd_more (Z Y : Int) (w : World) (hl : dl Z.natAbs <= 1000) (hl2 : dl Y.natAbs <= 1000) (hs : ¬ rB Z = rB Y) (hle : Z.natAbs < Y.natAbs) :
    Calls Tryz.prog 193 #[.agg #[.bool (rB Z),.string (rS Z)],.agg #[.bool (rB Y),.string (rS Y)]] w fun e w'=>RTold w w' e (Z+Y):=by
 have hd:(rB Z==rB Y)=false:=by simpa using hs
 have hv:sgn (rB Y) (Y.natAbs-Z.natAbs)=Z+Y:=by
  unfold rB at *
  by_cases h1:Z<0
  · rw[decide_eq_true h1]at hs
    by_cases h2:Y<0
    · rw[decide_eq_true h2]at hs;exact absurd rfl hs
    · first|rw[decide_eq_true h1]|rw[decide_eq_false h2]
      simp[sgn];omega
  · rw[decide_eq_false h1]at hs
    by_cases h2:Y<0
    · first|rw[decide_eq_false h1]|rw[decide_eq_true h2]
      simp[sgn];omega
    · rw[decide_eq_false h2]at hs;exact absurd rfl hs
 have CM:Hid (∀wz,Calls Tryz.prog 188 #[.string (rS Z),.string (rS Y)] wz fun e w'=>e=.returned (.int .i64 (cmpI Z.natAbs Y.natAbs))/\wz=w'):=fun wz=>rcmp_any Z.natAbs Y.natAbs wz (by omega) (by omega)
 obtain⟨cm,hcm⟩:∃cm,cmpI Z.natAbs Y.natAbs=cm:=⟨_,rfl⟩
 rw[hcm]at CM;have hlt:cm = -1:=by rw[← hcm];exact cmp_neg hle
 subst hlt
 have OF:Hid (∀wz,Calls Tryz.prog 189 #[.bool (rB Y),.string (str (dec (Y.natAbs-Z.natAbs)))] wz fun e w'=>RTold wz w' e (Z+Y)):=by
  intro wz;have h1:=rOf_dec (rB Y) (Y.natAbs-Z.natAbs) wz (by have:=dl_mono (Nat.sub_le Y.natAbs Z.natAbs);omega);rw[show sgn (rB Y) (Y.natAbs-Z.natAbs)=Z+Y from hv]at h1;exact h1
 have C1:Hid (∀wz,Calls Tryz.prog 196 #[.string (rS Y),.string (rS Z)] wz fun e w'=>e=.returned (.string (str (dec (Y.natAbs-Z.natAbs))))/\Below wz.heap.size wz w'):=fun wz=>rsub_any Y.natAbs (dl Y.natAbs) Z.natAbs (dl Z.natAbs) wz (dl_lt _) (dl_lt _) (by omega) (by omega) (by omega)
 clear hs hcm hle;obtain⟨V,hV⟩:∃V,Z+Y=V:=⟨_,rfl⟩
 rw[hV]at OF ⊢;obtain⟨t,ht⟩:∃t,str (dec (Y.natAbs-Z.natAbs))=t:=⟨_,rfl⟩
 rw[ht]at OF C1;clear hV ht hv;generalize rB Z=b at *;generalize rS Z=s at *;generalize rB Y=b2 at *;generalize rS Y=s2 at *;clear hl hl2;have BB:=Lib.hid (BP.start w b s b2 s2);have q0:=BB.out.now.2.2.cell;have q1:=BB.out.now.2.2.cell1;have q2:=BB.out.now.2.1.cell;have q3:=BB.out.now.2.1.cell1;go_enter Tryz.func193,Tryz.ntmps193
 go_wp2_with (go_at_call 188;(with_reducible refine(CM.out _).mono ?_);rintro e w5 ⟨rfl,rfl⟩)
 go_region_held3 (fun y => (y.cell? ⟨w.heap.size, 0, none⟩ = some (.bool b) /\ y.cell? ⟨w.heap.size, 1, none⟩ = some (.string s) /\ y.cell? ⟨w.heap.size + 1, 0, none⟩ = some (.bool b2) /\ y.cell? ⟨w.heap.size + 1, 1, none⟩ = some (.string s2)) /\ Bag w (BP w.heap.size b s b2 s2) y)
  (first
    | (have B9:=BB.out.drew;exact⟨⟨B9.now.2.2.cell,B9.now.2.2.cell1,B9.now.2.1.cell,B9.now.2.1.cell1⟩,B9⟩)
    | (have B9:=Bag.go (show Bag w (BP w.heap.size b s b2 s2) _ from by go_split_ands;assumption) hb2;exact⟨⟨B9.now.2.2.cell,B9.now.2.2.cell1,B9.now.2.1.cell,B9.now.2.1.cell1⟩,B9⟩)
    | (have B9:=Bag.put2 (show Bag w (BP w.heap.size b s b2 s2) _ from by go_split_ands;assumption) (k:=w.heap.size+1+1) (u:=.bool (rB V)) (v:=.string (rS V)) (by omega) (fun h=>h.put2 _ _);exact⟨⟨B9.now.2.2.cell,B9.now.2.2.cell1,B9.now.2.1.cell,B9.now.2.1.cell1⟩,B9⟩))
  (first
    | (go_at_call 196;(with_reducible refine(C1.out _).mono ?_);rintro e w2 ⟨rfl,hb2⟩)
    | (go_at_call 189;(with_reducible refine(OF.out _).mono ?_);rintro e w2 ⟨rfl,hb2⟩;have B7:=Bag.go (show Bag w (BP w.heap.size b s b2 s2) _ from by go_split_ands;assumption) hb2;obtain⟨x8,z8,hs8⟩:=B7.now.1;have hc1:=hs8.cell;have hc2:=hs8.cell1;have hf1:=hs8.free;have hf2:=hs8.free1;have HS:=hs8.set (.bool (rB V)) (.string (rS V));have HE:=Lib.hid (RTold.fin (Y:=V) B7.below (show w.heap.size<=w.heap.size+1+1 by omega) rfl rfl);unfold put2 at HE;clear hs8 B7))
 go_wp2;exact bodyPost_ret (by simp[results,Tryz.results193,go_sem,HS]) rfl HE.out
theorem rMul_any (Z Y : Int) (w : World) (hl : dl Z.natAbs <= 1000) (hl2 : dl Y.natAbs <= 1000)  :
    Calls Tryz.prog 128 #[.agg #[.bool (rB Z),.string (rS Z)],.agg #[.bool (rB Y),.string (rS Y)]] w fun e w'=>RTold w w' e (Z*Y):=by
 have hv:sgn (rB Z != rB Y) (Z.natAbs*Y.natAbs)=Z*Y:=sgn_mul Z Y
 have OF:Hid (∀wz,Calls Tryz.prog 189 #[.bool (rB Z != rB Y),.string (str (dec (Z.natAbs*Y.natAbs)))] wz fun e w'=>RTold wz w' e (Z*Y)):=by
  intro wz;have h1:=rOf_dec (rB Z != rB Y) (Z.natAbs*Y.natAbs) wz (by have:=dl_mul_le hl hl2;omega);rw[show sgn (rB Z != rB Y) (Z.natAbs*Y.natAbs)=Z*Y from hv]at h1;exact h1
 have C1:Hid (∀wz,Calls Tryz.prog 190 #[.string (rS Z),.string (rS Y)] wz fun e w'=>e=.returned (.string (str (dec (Z.natAbs*Y.natAbs))))/\Below wz.heap.size wz w'):=fun wz=>rmul_any Z.natAbs (dl Z.natAbs) Y.natAbs (dl Y.natAbs) wz (dl_lt _) (dl_lt _) (by omega) (by omega)
 obtain⟨mm,hmm⟩:∃mm,(!(rB Z==rB Y))=mm:=⟨_,rfl⟩
 rw[show(rB Z != rB Y)=mm from hmm]at OF;obtain⟨V,hV⟩:∃V,Z*Y=V:=⟨_,rfl⟩
 rw[hV]at OF ⊢;obtain⟨t,ht⟩:∃t,str (dec (Z.natAbs*Y.natAbs))=t:=⟨_,rfl⟩
 rw[ht]at OF C1;clear hV ht hv;generalize rB Z=b at *;generalize rS Z=s at *;generalize rB Y=b2 at *;generalize rS Y=s2 at *;clear hl hl2;have BB:=Lib.hid (BP.start w b s b2 s2);have q0:=BB.out.now.2.2.cell;have q1:=BB.out.now.2.2.cell1;have q2:=BB.out.now.2.1.cell;have q3:=BB.out.now.2.1.cell1;go_enter Tryz.func128,Tryz.ntmps128;go_wp2_with fail
 go_region_held3 (fun y => (y.cell? ⟨w.heap.size, 0, none⟩ = some (.bool b) /\ y.cell? ⟨w.heap.size, 1, none⟩ = some (.string s) /\ y.cell? ⟨w.heap.size + 1, 0, none⟩ = some (.bool b2) /\ y.cell? ⟨w.heap.size + 1, 1, none⟩ = some (.string s2)) /\ Bag w (BP w.heap.size b s b2 s2) y)
  (first
    | (have B9:=BB.out.drew;exact⟨⟨B9.now.2.2.cell,B9.now.2.2.cell1,B9.now.2.1.cell,B9.now.2.1.cell1⟩,B9⟩)
    | (have B9:=Bag.go (show Bag w (BP w.heap.size b s b2 s2) _ from by go_split_ands;assumption) hb2;exact⟨⟨B9.now.2.2.cell,B9.now.2.2.cell1,B9.now.2.1.cell,B9.now.2.1.cell1⟩,B9⟩)
    | (have B9:=Bag.put2 (show Bag w (BP w.heap.size b s b2 s2) _ from by go_split_ands;assumption) (k:=w.heap.size+1+1) (u:=.bool (rB V)) (v:=.string (rS V)) (by omega) (fun h=>h.put2 _ _);exact⟨⟨B9.now.2.2.cell,B9.now.2.2.cell1,B9.now.2.1.cell,B9.now.2.1.cell1⟩,B9⟩))
  (first
    | (go_at_call 190;(with_reducible refine(C1.out _).mono ?_);rintro e w2 ⟨rfl,hb2⟩)
    | (go_at_call 189;(with_reducible refine(OF.out _).mono ?_);rintro e w2 ⟨rfl,hb2⟩;have B7:=Bag.go (show Bag w (BP w.heap.size b s b2 s2) _ from by go_split_ands;assumption) hb2;obtain⟨x8,z8,hs8⟩:=B7.now.1;have hc1:=hs8.cell;have hc2:=hs8.cell1;have hf1:=hs8.free;have hf2:=hs8.free1;have HS:=hs8.set (.bool (rB V)) (.string (rS V));have HE:=Lib.hid (RTold.fin (Y:=V) B7.below (show w.heap.size<=w.heap.size+1+1 by omega) rfl rfl);unfold put2 at HE;clear hs8 B7))
 go_wp2;exact bodyPost_ret (by simp[results,Tryz.results128,go_sem,HS]) rfl HE.out
theorem rAdd_any (Z Y : Int) (w : World) (hl : dl Z.natAbs <= 1000) (hl2 : dl Y.natAbs <= 1000) :
    Calls Tryz.prog 193 #[.agg #[.bool (rB Z),.string (rS Z)],.agg #[.bool (rB Y),.string (rS Y)]] w fun e w'=>RTold w w' e (Z+Y):=by
 by_cases hs:rB Z=rB Y
 · exact rAdd_same Z Y w hl hl2 hs
 · rcases Nat.lt_or_ge Z.natAbs Y.natAbs with h|h
   · exact rAdd_more Z Y w hl hl2 hs h
   · exact rAdd_less Z Y w hl hl2 hs h
theorem rSmall_any (Z : Int) (w : World) (hl : dl Z.natAbs <= 1000) :
    Calls Tryz.prog 191 #[.agg #[.bool (rB Z),.string (rS Z)]] w fun e w'=>e=.returned (.tuple #[.int .i64 (fitI Z),.bool (fitB Z)])/\Below w.heap.size w w':=by
 have B0:=((Bag.start w).box2 (.bool (rB Z)) (.string (rS Z)) 159)
 have q0:=B0.now.1.cell;have q1:=B0.now.1.cell1;have hu:=fun wz=>runi_any Z.natAbs wz hl
 rw[show str (dec Z.natAbs)=rS Z from rfl]at hu;have BB:=Lib.hid B0;obtain⟨N,hN⟩:∃N,Z.natAbs=N:=⟨_,rfl⟩
 rw[hN]at hu;unfold uI at hu;generalize rS Z=s at *
 by_cases hbig:N<18446744073709551616
 · rw [if_pos hbig, decide_eq_true hbig] at hu; have HU := Lib.hid hu; clear hu B0
   by_cases hz:Z<0
   · rw [show rB Z = true from decide_eq_true hz] at *; have hZN : Z = -(N : Int) := by omega
     by_cases h63:N<=9223372036854775808
     · have HE:Hid (fitI Z = -(N:Int)/\fitB Z=true):=by
         have:fitB Z=true:=decide_eq_true (by omega);exact⟨by unfold fitI;rw[this,if_pos rfl];exact hZN,this⟩
       have d2:decide ((9223372036854775808:Int)<(N:Int))=false:=decide_eq_false (by omega);obtain⟨N1,hN1⟩:∃N1,N-1=N1:=⟨_,rfl⟩
       have e1:(N:Int)-1=(N1:Int):=by omega
       have b1:(N1:Int)<=9223372036854775807:=by omega
       have b2:(1:Int)<=(N:Int):=by omega
       have e2:0-(N1:Int) = -(N1:Int):=by omega
       have e3 : -(N1:Int)-1 = -(N:Int):=by omega
       clear hz hZN hN hbig h63 hN1 hl;go_enter Tryz.func191,Tryz.ntmps191
       go_wp2_with (go_at_call 232;refine(HU.out _).mono ?_;rintro e w2 ⟨rfl,rfl⟩)
       go_ret2;exact⟨ret_ib (by rw[HE.out.1]) HE.out.2.symm,BB.out.below⟩
     · have HE:Hid (fitI Z=0/\fitB Z=false):=by
         have:fitB Z=false:=decide_eq_false (by omega);exact⟨by unfold fitI;rw[this];rfl,this⟩
       have d2:decide ((9223372036854775808:Int)<(N:Int))=true:=decide_eq_true (by omega);clear hz hZN hN hbig h63 hl;go_enter Tryz.func191,Tryz.ntmps191
       go_wp2_with (go_at_call 232;refine(HU.out _).mono ?_;rintro e w2 ⟨rfl,rfl⟩)
       go_ret2;exact⟨ret_ib HE.out.1.symm HE.out.2.symm,BB.out.below⟩
   · rw [show rB Z = false from decide_eq_false hz] at *; have hZN : Z = (N : Int) := by omega
     by_cases h63:N<=9223372036854775807
     · have HE:Hid (fitI Z=(N:Int)/\fitB Z=true):=by
         have:fitB Z=true:=decide_eq_true (by omega);exact⟨by unfold fitI;rw[this,if_pos rfl];exact hZN,this⟩
       have d1:decide ((9223372036854775807:Int)<(N:Int))=false:=decide_eq_false (by omega);have hl':(N:Int)<=9223372036854775807:=by omega
       clear hz hZN hN hbig h63 hl;go_enter Tryz.func191,Tryz.ntmps191
       go_wp2_with (go_at_call 232;refine(HU.out _).mono ?_;rintro e w2 ⟨rfl,rfl⟩)
       go_ret2;exact⟨ret_ib HE.out.1.symm HE.out.2.symm,BB.out.below⟩
     · have HE:Hid (fitI Z=0/\fitB Z=false):=by
         have:fitB Z=false:=decide_eq_false (by omega);exact⟨by unfold fitI;rw[this];rfl,this⟩
       have d1:decide ((9223372036854775807:Int)<(N:Int))=true:=decide_eq_true (by omega);clear hz hZN hN hbig h63 hl;go_enter Tryz.func191,Tryz.ntmps191
       go_wp2_with (go_at_call 232;refine(HU.out _).mono ?_;rintro e w2 ⟨rfl,rfl⟩)
       go_ret2;exact⟨ret_ib HE.out.1.symm HE.out.2.symm,BB.out.below⟩
 · rw[if_neg hbig,decide_eq_false hbig]at hu;have HU:=Lib.hid hu
   have HE:Hid (fitI Z=0/\fitB Z=false):=by
    have:fitB Z=false:=decide_eq_false (by omega);exact⟨by unfold fitI;rw[this];rfl,this⟩
   clear hu hbig hN B0 hl;generalize rB Z=b at *;go_enter Tryz.func191,Tryz.ntmps191
   go_wp2_with (go_at_call 232;refine(HU.out _).mono ?_;rintro e w2 ⟨rfl,rfl⟩)
   go_ret2;exact⟨ret_ib HE.out.1.symm HE.out.2.symm,BB.out.below⟩
theorem Slot.set1{w:World}{k:Nat}{x:Value}(h:Slot w k x)(u:Value):Slot (w.setCell ⟨k,0,none⟩ u) k u :=
 ⟨World.cell?_setCell_same _ _ _ h.cell,by simp[h.free],by simpa using h.lt⟩
theorem Slot.other{w:World}{k j:Nat}{x:Value}(h:Slot w j x)(u:Value)(hj:j≠k):Slot (w.setCell ⟨k,0,none⟩ u) j x :=
 ⟨by rw[World.cell?_setCell_other _ _ _ _ (fun e'=>by cases e'<;>exact hj rfl)];exact h.cell,by simp[h.free],by simpa using h.lt⟩
theorem Slot2.other{w:World}{k j:Nat}{x z:Value}(h:Slot2 w j x z)(u:Value)(hj:j≠k):Slot2 (w.setCell ⟨k,0,none⟩ u) j x z :=
 ⟨by rw[World.cell?_setCell_other _ _ _ _ (fun e'=>by cases e'<;>exact hj rfl)];exact h.cell,by rw[World.cell?_setCell_other _ _ _ _ (fun e'=>by cases e'<;>exact hj rfl)];exact h.cell1,by simp[h.free],by simp[h.free1],by simpa using h.lt⟩
theorem RS.other{w:World}{k j:Nat}(h:RS w j)(u:Value)(hj:j≠k):RS (w.setCell ⟨k,0,none⟩ u) j:=by
 obtain⟨x,b,h1,h2⟩:=h;exact⟨x,b,h1.other u hj,h2⟩
theorem FP.set1{k j:Nat}{a:Option Addr}{n c:Nat}{m:Bool}{Z:Int}{a2:Option Addr}{n2 c2:Nat}{m2:Bool}{Y:Int}{y:World}(h:FP k a n c m Z a2 n2 c2 m2 Y y){a3:Option Addr}{n3 c3:Nat}(hj:y.cell? ⟨j,0,none⟩=some (.slice a3 n3 c3))(hk:k+3<j)(u:Value):FP k a n c m Z a2 n2 c2 m2 Y (y.setCell ⟨j,0,none⟩ u) :=
 ⟨h.1.other u (by omega),h.2.1.other u (by omega),h.2.2.1.other u (by omega),h.2.2.2.1.other u (by omega),⟨h.2.2.2.2.1.1,h.2.2.2.2.1.2.storeAt hj (fun _ _ h=>by cases h) u⟩,⟨h.2.2.2.2.2.1,h.2.2.2.2.2.2.storeAt hj (fun _ _ h=>by cases h) u⟩⟩
theorem Bag.drewT{w0 w:World}{P:World->Prop}(h:Bag w0 P w):Bag w0 P w.drew:=h.drew
theorem floor_odd (a : Option Addr) (n c : Nat) (m : Bool) (Z : Int) (a2 : Option Addr) (n2 c2 : Nat) (m2 : Bool) (Y : Int) (w : World) (h : IntAt w a n c m Z) (g : IntAt w a2 n2 c2 m2 Y) (K : Nat) (hK : K <= 800000) (hZ : Z.natAbs < 4294967296 ^ K) (hY : Y ≠ 0)
    (hap:(m != m2)=true) (hr0:Z.natAbs%Y.natAbs≠0) :
    Calls Tryz.prog 230 #[.agg #[.slice a n c,.bool m],.agg #[.slice a2 n2 c2,.bool m2]] w fun e w'=>FloorTold w w' e (flQ Z Y) (flR Z Y):=by
 have hfu:flA Z Y=true/\flQ Z Y=sgn true (Z.natAbs / Y.natAbs+1)/\flR Z Y=sgn m2 (Y.natAbs-Z.natAbs%Y.natAbs):=by
  have e1:flA Z Y=true:=by unfold flA;rw[← h.1,← g.1];exact hap
  refine⟨e1,?_,?_⟩
  · unfold flQ flU;rw[e1];simp[hr0]
  · unfold flR flU;rw[e1,← g.1];simp[hr0]
 obtain⟨_,hfq,hfr⟩:=hfu;have BB:=Lib.hid (FP.start h g);have q0:=BB.out.now.2.2.2.1.cell;have q1:=BB.out.now.2.2.2.1.cell1;have q2:=BB.out.now.2.2.1.cell;have q3:=BB.out.now.2.2.1.cell1;have N1:Hid (∀wz,FP w.heap.size a n c m Z a2 n2 c2 m2 Y wz->Calls Tryz.prog 173 #[.agg #[.slice a n c,.bool m]] wz fun e w'=>e=.returned (.bool m)/\Below wz.heap.size wz w'):=fun wz hz=>neg_any a n c m Z wz hz.2.2.2.2.2
 have N2:Hid (∀wz,FP w.heap.size a n c m Z a2 n2 c2 m2 Y wz->Calls Tryz.prog 173 #[.agg #[.slice a2 n2 c2,.bool m2]] wz fun e w'=>e=.returned (.bool m2)/\Below wz.heap.size wz w'):=fun wz hz=>neg_any a2 n2 c2 m2 Y wz hz.2.2.2.2.1
 have DM:Hid (∀wz,FP w.heap.size a n c m Z a2 n2 c2 m2 Y wz->Calls Tryz.prog 171 #[.agg #[.slice a n c],.agg #[.slice a2 n2 c2]] wz fun e w'=>DivOf3 wz w' e (Z.natAbs / Y.natAbs) (Z.natAbs%Y.natAbs) true):=fun wz hz=>(divMod_any _ _ _ _ wz hz.2.2.2.2.2.2 hz.2.2.2.2.1.2 K (by omega) hZ).mono fun _ _ h=>by
  have:=h.three (b:=true) (by simp;omega);unfold modz at this;rw[if_neg (by omega)]at this;exact this
 have OF1:Hid (∀a3 n3 c3 wz,NatIs wz (.agg #[.slice a3 n3 c3]) (Z.natAbs / Y.natAbs+1)->Calls Tryz.prog 116 #[.bool true,.agg #[.slice a3 n3 c3]] wz fun e w'=>IntTold wz w' e (flQ Z Y)):=by
  intro a3 n3 c3 wz hi;have:=wof_any true a3 n3 c3 _ wz hi;rw[← hfq]at this;exact this
 have OF2:Hid (∀a3 n3 c3 wz,NatIs wz (.agg #[.slice a3 n3 c3]) (Y.natAbs-Z.natAbs%Y.natAbs)->Calls Tryz.prog 116 #[.bool m2,.agg #[.slice a3 n3 c3]] wz fun e w'=>IntTold wz w' e (flR Z Y)):=by
  intro a3 n3 c3 wz hi;have:=wof_any m2 a3 n3 c3 _ wz hi;rw[← hfr]at this;exact this
 obtain⟨N,hN⟩:∃N,Z.natAbs=N:=⟨_,rfl⟩
 obtain⟨M,hM⟩:∃M,Y.natAbs=M:=⟨_,rfl⟩
 have hM0:0<M:=by omega
 have hgM:=g.1;have hNK:N<4294967296^K:=by omega
 have SB:Hid (∀a3 n3 c3 wz,FP w.heap.size a n c m Z a2 n2 c2 m2 Y wz->NatIs wz (.agg #[.slice a3 n3 c3]) (N%M)->Calls Tryz.prog 251 #[.agg #[.slice a2 n2 c2],.agg #[.slice a3 n3 c3]] wz fun e w'=>SubOf3 wz w' e (M-N%M) true):=fun a3 n3 c3 wz hz hi=>(sub_any _ _ M (N%M) wz (by rw[← hM];exact hz.2.2.2.2.1.2) hi).mono fun _ _ h=>h.three (decide_eq_true (Nat.le_of_lt (Nat.mod_lt N hM0)))
 have AD:Hid (∀a3 n3 c3 a4 n4 c4 wz,NatIs wz (.agg #[.slice a3 n3 c3]) (N / M)->NatIs wz (.agg #[.slice a4 n4 c4]) 1->Calls Tryz.prog 167 #[.agg #[.slice a3 n3 c3],.agg #[.slice a4 n4 c4]] wz fun e w'=>NatOf3 wz w' e (N / M+1)):=fun a3 n3 c3 a4 n4 c4 wz hi hj=>(add_any _ _ _ _ wz hi hj (K+1) (by omega) (by
     have:=Nat.div_le_self N M;have h2:=pow_mono32 (show K<=K+1 by omega)
     omega) (by
     have:=pow_mono32 (show 1<=K+1 by omega);rw[Nat.pow_one]at this
     omega)).mono fun _ _ h=>h.three
 rw[hN,hM]at DM OF1 OF2;have hd:(m==m2)=false:=by simpa using hap
 have ZR:Hid (∀a3 n3 c3 wz,NatIs wz (.agg #[.slice a3 n3 c3]) (N%M)->Calls Tryz.prog 114 #[.agg #[.slice a3 n3 c3]] wz fun e w'=>e=.returned (.bool false)/\Below wz.heap.size wz w'):=by
  intro a3 n3 c3 wz hi;have h1:=zero_any _ _ wz hi;rw[show decide (N%M=0)=false from by rw[← hN,← hM];exact decide_eq_false hr0]at h1;exact h1
 clear hr0;clear h g hZ hY hfq hfr hap hN hM hgM hNK hM0;go_enter Tryz.func230,Tryz.ntmps230;go_wp2_with fail;go_at_call 171;(with_reducible refine(DM.out _ BB.out.now).mono ?_);rintro e w4 ⟨aq,nq,cq,ar,nr,cr,rfl,hi3,hi4,hb4⟩;have hk4:w.heap.size+1+1+1<w4.heap.size:=RS.lt (BB.out.go hb4).now.2.1;have BQ:=((((BB.out.go hb4).nat hi4).nat hi3).box (.slice aq nq cq) 49).box (.slice ar nr cr) 49;rw[World.size_alloc]at BQ;have BB:Hid (Bag w (fun y=>Slot y w4.heap.size (.slice aq nq cq)/\NatIs y (.agg #[.slice aq nq cq]) (N / M)/\Slot y (w4.heap.size+1) (.slice ar nr cr)/\NatIs y (.agg #[.slice ar nr cr]) (N%M)/\FP w.heap.size a n c m Z a2 n2 c2 m2 Y y) _):=⟨BQ.below,fun x y hb h=>⟨h.1.below hb,h.2.1.below hb,h.2.2.1.below hb,h.2.2.2.1.below hb,FP.stay x y hb h.2.2.2.2⟩,BQ.now.2.1,BQ.now.2.2.1,BQ.now.1,BQ.now.2.2.2.1,BQ.now.2.2.2.2⟩
 clear hb4 hi3 hi4 q0 q1 q2 q3 BQ;go_wp2_with fail
 go_region_held3 (fun y => (y.cell? ⟨w.heap.size, 0, none⟩ = some (.slice a n c) /\ y.cell? ⟨w.heap.size, 1, none⟩ = some (.bool m) /\ y.cell? ⟨w.heap.size + 1, 0, none⟩ = some (.slice a2 n2 c2) /\ y.cell? ⟨w.heap.size + 1, 1, none⟩ = some (.bool m2)) /\ Bag w (fun y => Slot y w4.heap.size (.slice aq nq cq) /\ NatIs y (.agg #[.slice aq nq cq]) (N / M) /\ Slot y (w4.heap.size + 1) (.slice ar nr cr) /\ NatIs y (.agg #[.slice ar nr cr]) (N % M) /\ FP w.heap.size a n c m Z a2 n2 c2 m2 Y y) y)
  (first|(have B9:=BB.out.drew;exact⟨⟨B9.now.2.2.2.2.2.2.2.1.cell,B9.now.2.2.2.2.2.2.2.1.cell1,B9.now.2.2.2.2.2.2.1.cell,B9.now.2.2.2.2.2.2.1.cell1⟩,B9⟩)|(have B9:=Bag.go (show Bag w (fun y=>Slot y w4.heap.size (.slice aq nq cq)/\NatIs y (.agg #[.slice aq nq cq]) (N / M)/\Slot y (w4.heap.size+1) (.slice ar nr cr)/\NatIs y (.agg #[.slice ar nr cr]) (N%M)/\FP w.heap.size a n c m Z a2 n2 c2 m2 Y y) _ from by go_split_ands;assumption) hb2;exact⟨⟨B9.now.2.2.2.2.2.2.2.1.cell,B9.now.2.2.2.2.2.2.2.1.cell1,B9.now.2.2.2.2.2.2.1.cell,B9.now.2.2.2.2.2.2.1.cell1⟩,B9⟩))
  (first
    | (go_at_call 173;(with_reducible refine(N1.out _ ?_).mono ?_);exact(show Bag w (fun y=>Slot y w4.heap.size (.slice aq nq cq)/\NatIs y (.agg #[.slice aq nq cq]) (N / M)/\Slot y (w4.heap.size+1) (.slice ar nr cr)/\NatIs y (.agg #[.slice ar nr cr]) (N%M)/\FP w.heap.size a n c m Z a2 n2 c2 m2 Y y) _ from by go_split_ands;assumption).now.2.2.2.2;rintro e w2 ⟨rfl,hb2⟩)
    | (go_at_call 173;(with_reducible refine(N2.out _ ?_).mono ?_);exact(show Bag w (fun y=>Slot y w4.heap.size (.slice aq nq cq)/\NatIs y (.agg #[.slice aq nq cq]) (N / M)/\Slot y (w4.heap.size+1) (.slice ar nr cr)/\NatIs y (.agg #[.slice ar nr cr]) (N%M)/\FP w.heap.size a n c m Z a2 n2 c2 m2 Y y) _ from by go_split_ands;assumption).now.2.2.2.2;rintro e w2 ⟨rfl,hb2⟩))
 have BB:=Lib.hid (show Bag w (fun y=>Slot y w4.heap.size (.slice aq nq cq)/\NatIs y (.agg #[.slice aq nq cq]) (N / M)/\Slot y (w4.heap.size+1) (.slice ar nr cr)/\NatIs y (.agg #[.slice ar nr cr]) (N%M)/\FP w.heap.size a n c m Z a2 n2 c2 m2 Y y) _ from by go_split_ands;assumption);have q5:=BB.out.now.2.2.1.cell;go_wp2_with fail;go_at_call 114;(with_reducible refine(ZR.out ar nr cr _ BB.out.now.2.2.2.1).mono ?_);rintro e w6 ⟨rfl,hb6⟩;have BB:=bgo BB hb6;clear hb6 q5;have q5:=BB.out.now.1.cell;go_wp2_with fail
 go_region_with (first
  | (go_at_call 146;refine(of_pl2 1 _ (by omega)).mono ?_;rintro e w2 ⟨a8,n8,c8,rfl,hi8,hb2⟩;have BB:=Lib.hid (Bag.go (BB.out.drewT) hb2);have q5:=BB.out.now.1.cell;clear hb2)
  | (go_at_call 167;(with_reducible refine(AD.out aq nq cq a8 n8 c8 _ BB.out.now.2.1 hi8).mono ?_);rintro e w2 ⟨a9,n9,c9,rfl,hi9,hb2⟩;have B7:=BB.out.go hb2;have hc:=B7.now.1.cell;have hf:=B7.now.1.free;have B8:Hid (Bag w (fun y=>Slot y w4.heap.size (.slice a9 n9 c9)/\NatIs y (.agg #[.slice a9 n9 c9]) (N / M+1)/\Slot y (w4.heap.size+1) (.slice ar nr cr)/\NatIs y (.agg #[.slice ar nr cr]) (N%M)/\FP w.heap.size a n c m Z a2 n2 c2 m2 Y y) (w2.setCell ⟨w4.heap.size,0,none⟩ (.slice a9 n9 c9))):=⟨B7.below.setCell (show w.heap.size<=w4.heap.size by omega) _,fun x y hb h=>⟨h.1.below hb,h.2.1.below hb,h.2.2.1.below hb,h.2.2.2.1.below hb,FP.stay x y hb h.2.2.2.2⟩,B7.now.1.set1 _,hi9.storeAt hc (fun _ _ h=>by cases h) _,B7.now.2.2.1.other _ (by omega),B7.now.2.2.2.1.storeAt hc (fun _ _ h=>by cases h) _,B7.now.2.2.2.2.set1 hc (by omega) _⟩;clear B7 hb2))
 all_goals
  have q5:=B8.out.now.2.2.1.cell;have q6:=B8.out.now.2.2.2.2.2.2.1.cell;go_wp2_with fail;go_at_call 251;(with_reducible refine(SB.out ar nr cr _ B8.out.now.2.2.2.2 B8.out.now.2.2.2.1).mono ?_);rintro e w7 ⟨a10,n10,c10,rfl,hi10,hb7⟩;have B7:=B8.out.go hb7;have hc:=B7.now.2.2.1.cell;have hf:=B7.now.2.2.1.free;have BB:Hid (Bag w (fun y=>Slot y w4.heap.size (.slice a9 n9 c9)/\NatIs y (.agg #[.slice a9 n9 c9]) (N / M+1)/\Slot y (w4.heap.size+1) (.slice a10 n10 c10)/\NatIs y (.agg #[.slice a10 n10 c10]) (M-N%M)/\FP w.heap.size a n c m Z a2 n2 c2 m2 Y y) (w7.setCell ⟨w4.heap.size+1,0,none⟩ (.slice a10 n10 c10))):=⟨B7.below.setCell (show w.heap.size<=w4.heap.size+1 by omega) _,fun x y hb h=>⟨h.1.below hb,h.2.1.below hb,h.2.2.1.below hb,h.2.2.2.1.below hb,FP.stay x y hb h.2.2.2.2⟩,B7.now.1.other _ (by omega),B7.now.2.1.storeAt hc (fun _ _ h=>by cases h) _,B7.now.2.2.1.set1 _,hi10.storeAt hc (fun _ _ h=>by cases h) _,B7.now.2.2.2.2.set1 hc (by omega) _⟩
  clear B7 hb7 hi10 q5 q6;go_wp2_with fail
  go_region_held3 (fun y => (y.cell? ⟨w4.heap.size, 0, none⟩ = some (.slice a9 n9 c9) /\ y.cell? ⟨w4.heap.size + 1, 0, none⟩ = some (.slice a10 n10 c10) /\ y.cell? ⟨w.heap.size + 1, 0, none⟩ = some (.slice a2 n2 c2) /\ y.cell? ⟨w.heap.size + 1, 1, none⟩ = some (.bool m2)) /\ Bag w (fun y => Slot y w4.heap.size (.slice a9 n9 c9) /\ NatIs y (.agg #[.slice a9 n9 c9]) (N / M + 1) /\ Slot y (w4.heap.size + 1) (.slice a10 n10 c10) /\ NatIs y (.agg #[.slice a10 n10 c10]) (M - N % M) /\ FP w.heap.size a n c m Z a2 n2 c2 m2 Y y) y)
   (first
     | (have B9:=BB.out.drew;exact⟨⟨B9.now.1.cell,B9.now.2.2.1.cell,B9.now.2.2.2.2.2.2.1.cell,B9.now.2.2.2.2.2.2.1.cell1⟩,B9⟩)
     | (have B9:=Bag.go (show Bag w (fun y=>Slot y w4.heap.size (.slice a9 n9 c9)/\NatIs y (.agg #[.slice a9 n9 c9]) (N / M+1)/\Slot y (w4.heap.size+1) (.slice a10 n10 c10)/\NatIs y (.agg #[.slice a10 n10 c10]) (M-N%M)/\FP w.heap.size a n c m Z a2 n2 c2 m2 Y y) _ from by go_split_ands;assumption) hb2;exact⟨⟨B9.now.1.cell,B9.now.2.2.1.cell,B9.now.2.2.2.2.2.2.1.cell,B9.now.2.2.2.2.2.2.1.cell1⟩,B9⟩)
     | (have B9:=Bag.put (show Bag w (fun y=>Slot y w4.heap.size (.slice a9 n9 c9)/\NatIs y (.agg #[.slice a9 n9 c9]) (N / M+1)/\Slot y (w4.heap.size+1) (.slice a10 n10 c10)/\NatIs y (.agg #[.slice a10 n10 c10]) (M-N%M)/\FP w.heap.size a n c m Z a2 n2 c2 m2 Y y) _ from by go_split_ands;assumption) (k:=w.heap.size+1+1) (a:=a5) (n:=n5) (c:=c5) (b:=m5) (by omega) (fun h=>⟨h.1.put (by omega) _ _ _ _,h.2.1.put h.2.2.2.2.1 _ _ _ _,h.2.2.1.put (by omega) _ _ _ _,h.2.2.2.1.put h.2.2.2.2.1 _ _ _ _,h.2.2.2.2.put h.2.2.2.2.1 (by omega) (by omega) _ _ _ _⟩);exact⟨⟨B9.now.1.cell,B9.now.2.2.1.cell,B9.now.2.2.2.2.2.2.1.cell,B9.now.2.2.2.2.2.2.1.cell1⟩,B9⟩)
     | (have B9:=Bag.put (show Bag w (fun y=>Slot y w4.heap.size (.slice a9 n9 c9)/\NatIs y (.agg #[.slice a9 n9 c9]) (N / M+1)/\Slot y (w4.heap.size+1) (.slice a10 n10 c10)/\NatIs y (.agg #[.slice a10 n10 c10]) (M-N%M)/\FP w.heap.size a n c m Z a2 n2 c2 m2 Y y) _ from by go_split_ands;assumption) (k:=w.heap.size+1+1+1) (a:=a6) (n:=n6) (c:=c6) (b:=m6) (by omega) (fun h=>⟨h.1.put (by omega) _ _ _ _,h.2.1.put h.2.2.2.2.2.1 _ _ _ _,h.2.2.1.put (by omega) _ _ _ _,h.2.2.2.1.put h.2.2.2.2.2.1 _ _ _ _,h.2.2.2.2.put h.2.2.2.2.2.1 (by omega) (by omega) _ _ _ _⟩);exact⟨⟨B9.now.1.cell,B9.now.2.2.1.cell,B9.now.2.2.2.2.2.2.1.cell,B9.now.2.2.2.2.2.2.1.cell1⟩,B9⟩))
   (first
     | (go_at_call 116;(with_reducible refine(OF1.out a9 n9 c9 _ ?_).mono ?_);exact(show Bag w (fun y=>Slot y w4.heap.size (.slice a9 n9 c9)/\NatIs y (.agg #[.slice a9 n9 c9]) (N / M+1)/\Slot y (w4.heap.size+1) (.slice a10 n10 c10)/\NatIs y (.agg #[.slice a10 n10 c10]) (M-N%M)/\FP w.heap.size a n c m Z a2 n2 c2 m2 Y y) _ from by go_split_ands;assumption).now.2.1;rintro e w2 ⟨a5,n5,c5,m5,rfl,hi5,hb2⟩)
     | (go_at_call 173;(with_reducible refine(N2.out _ ?_).mono ?_);exact(show Bag w (fun y=>Slot y w4.heap.size (.slice a9 n9 c9)/\NatIs y (.agg #[.slice a9 n9 c9]) (N / M+1)/\Slot y (w4.heap.size+1) (.slice a10 n10 c10)/\NatIs y (.agg #[.slice a10 n10 c10]) (M-N%M)/\FP w.heap.size a n c m Z a2 n2 c2 m2 Y y) _ from by go_split_ands;assumption).now.2.2.2.2;rintro e w2 ⟨rfl,hb2⟩;have hi5:=hi5.below hb2)
     | (go_at_call 116; (with_reducible refine (OF2.out a10 n10 c10 _ ?_).mono ?_); exact (show Bag w (fun y => Slot y w4.heap.size (.slice a9 n9 c9) /\ NatIs y (.agg #[.slice a9 n9 c9]) (N / M + 1) /\ Slot y (w4.heap.size + 1) (.slice a10 n10 c10) /\ NatIs y (.agg #[.slice a10 n10 c10]) (M - N % M) /\ FP w.heap.size a n c m Z a2 n2 c2 m2 Y y) _ from by go_split_ands; assumption).now.2.2.2.1; rintro e w2 ⟨a6, n6, c6, m6, rfl, hi6, hb2⟩; have hi5 := hi5.below hb2;
         have B7:=Bag.go (show Bag w (fun y=>Slot y w4.heap.size (.slice a9 n9 c9)/\NatIs y (.agg #[.slice a9 n9 c9]) (N / M+1)/\Slot y (w4.heap.size+1) (.slice a10 n10 c10)/\NatIs y (.agg #[.slice a10 n10 c10]) (M-N%M)/\FP w.heap.size a n c m Z a2 n2 c2 m2 Y y) _ from by go_split_ands;assumption) hb2;
         obtain⟨x8,b8,hs8,_⟩:=B7.now.2.2.2.2.1;
         obtain⟨x9,b9,hs9,_⟩:=B7.now.2.2.2.2.2.1;
         have hc1:=hs8.cell;have hc2:=hs8.cell1;have hc3:=hs9.cell;have hc4:=hs9.cell1;have hf1:=hs8.free;have hf2:=hs8.free1;have hf3:=hs9.free;have hf4:=hs9.free1;
         have HA:=Slot2.put (B7.now.2.2.2.2.1.slotted a5 n5 c5 m5) (show w.heap.size+1+1≠w.heap.size+1+1+1 by omega) a6 n6 c6 m6;
         have HB:=(B7.now.2.2.2.2.2.1.put (k:=w.heap.size+1+1) a5 n5 c5 m5).slotted a6 n6 c6 m6;
         have e1:=HA.cell;have e2:=HA.cell1;have e3:=HB.cell;have e4:=HB.cell1;
         have HE:Hid (FloorTold w (putI (putI w2 (w.heap.size+1+1) a5 n5 c5 m5) (w.heap.size+1+1+1) a6 n6 c6 m6) (.returned (.tuple #[.agg #[.slice a5 n5 c5,.bool m5],.agg #[.slice a6 n6 c6,.bool m6],.bool true])) (flQ Z Y) (flR Z Y)):=⟨a5,n5,c5,m5,a6,n6,c6,m6,rfl,(hi5.put B7.now.2.2.2.2.1 _ _ _ _).put (B7.now.2.2.2.2.2.1.put (k:=w.heap.size+1+1) a5 n5 c5 m5) _ _ _ _,(hi6.put B7.now.2.2.2.2.1 _ _ _ _).put (B7.now.2.2.2.2.2.1.put (k:=w.heap.size+1+1) a5 n5 c5 m5) _ _ _ _,(((B7.below.setCell (show w.heap.size<=w.heap.size+1+1 by omega) _).setCell (show w.heap.size<=w.heap.size+1+1 by omega) _).setCell (show w.heap.size<=w.heap.size+1+1+1 by omega) _).setCell (show w.heap.size<=w.heap.size+1+1+1 by omega) _⟩;
         unfold putI at HE e1 e2 e3 e4;clear hs8 hs9 HA HB B7))
  all_goals
   go_wp2;exact bodyPost_ret (v:=.tuple #[.agg #[.slice a5 n5 c5,.bool m5],.agg #[.slice a6 n6 c6,.bool m6],.bool true]) (by simp[results,Tryz.results230,go_sem,e1,e2,e3,e4]) rfl HE.out
end Go.Proofs.YtdmmenaejkpnjaaGreatDoor
namespace Go.Proofs.YtdmmenaejkpnjaaGreatDoor
open Go.RowKit
def readN(w:World)(k:Nat):Nat :=
 match w.cell? ⟨k,0,none⟩with
 | some (.slice (some ad) n _)=>val (fun j=>match w.cell? ⟨ad.block,ad.off+j,none⟩with
  | some (.int _ x)=>x.toNat
  | _=>0) n
 | _=>0
theorem readN_is{w:World}{k:Nat}{a:Option Addr}{n c N:Nat}(hs:Slot w k (.slice a n c))(h:NatIs w (.agg #[.slice a n c]) N):readN w k=N:=by
 obtain⟨a',n',c',f,e,⟨h1,h2,h3,h4⟩,hv,ht⟩:=h
 cases e
 unfold readN;rw[hs.cell]
 rcases h4 with ⟨rfl,hc⟩|⟨b,off,rfl,hb,hcc⟩
 · have hn:n=0:=by omega
   subst hn;simp only[];rw[← hv];rfl
 · simp only[];rw[← hv];refine val_congr n (fun j hj => ?_);rw[hcc j hj]
   simp
def GI(w wr:World)(A B:Nat):Prop:=Below w.heap.size w wr/\∃a n c a2 n2 c2,Slot wr w.heap.size (.slice a n c)/\NatIs wr (.agg #[.slice a n c]) A/\Slot wr (w.heap.size+1) (.slice a2 n2 c2)/\NatIs wr (.agg #[.slice a2 n2 c2]) B/\Slot wr (w.heap.size+1+1) (.slice none 0 0)
theorem gcd_any (a0 : Option Addr) (n0 c0 : Nat) (b0 : Option Addr) (m0 d0 : Nat) (X Y : Nat) (w : World) (h : NatIs w (.agg #[.slice a0 n0 c0]) X) (g : NatIs w (.agg #[.slice b0 m0 d0]) Y)
    (K:Nat) (hK:K<=900000) (hX:X<4294967296^K) (hY:Y<4294967296^K) :
    Calls Tryz.prog 170 #[.agg #[.slice a0 n0 c0],.agg #[.slice b0 m0 d0]] w fun e w'=>NatOf3 w w' e (Nat.gcd X Y):=by
 have B0:=((((Bag.start w).nat h).nat g).box (.slice a0 n0 c0) 49).box (.slice b0 m0 d0) 49 |>.box (.slice none 0 0) 49
 simp only[World.size_alloc]at B0;have H0:Hid (GI w _ X Y):=⟨B0.below,a0,n0,c0,b0,m0,d0,B0.now.2.2.1,B0.now.2.2.2.2.1,B0.now.2.1,B0.now.2.2.2.1,B0.now.1⟩
 have HXY:Hid (X<4294967296^K/\Y<4294967296^K):=⟨hX,hY⟩
 clear B0 h g hX hY;go_enter Tryz.func170,Tryz.ntmps170;go_wp2
 go_loopw [] (fun wr=>∃A B:Nat,GI w wr A B/\Hid (Nat.gcd A B=Nat.gcd X Y/\A<4294967296^K/\B<4294967296^K)) (fun wr=>readN wr (w.heap.size+1))
 case atStart=>exact⟨X,Y,H0.out,rfl,HXY.out.1,HXY.out.2⟩
 case round =>
  obtain⟨A,B,⟨hbl,a,n,c,a2,n2,c2,s1,i1,s2,i2,s3⟩,hh⟩:=hrel
  by_cases h0:B=0
  · have HZ:=Lib.hid (zero_any _ B wr i2);rw[decide_eq_true h0]at HZ;have hAg:A=Nat.gcd X Y:=by have:=hh.out.1;rw[h0,Nat.gcd_zero_right]at this;exact this
    subst hAg;have BB:=Lib.hid ((((((⟨hbl,fun _ _ _ _=>trivial,trivial⟩:Bag w (fun _=>True) wr).slot s3).slot s2).slot s1).nat i1));have q2:=s2.cell;clear h0 s1 s2 s3 i1 i2 hbl hh;go_wp2_with fail;go_at_call 114;(with_reducible refine HZ.out.mono ?_);rintro e w1 ⟨rfl,hb1⟩;have B1:=BB.out.go hb1;have BB:=Lib.hid B1;obtain⟨_,_,_,f,he,hs,hv,ht⟩:=B1.now.1
    cases he
    have hnl:=NatIs.len hs;have HS:=Lib.hid hs;have HV:=Lib.hid hv;clear hb1 B1 hs hv ht q2;have q1:=BB.out.now.2.1.cell;go_wp2_with fail;go_at_call 141;refine(copied_own a n c f n w1 HS.out (Nat.le_refl _) hnl).mono ?_;rintro e w2 ⟨b,rfl,ho,hb2⟩;have hbb:w.heap.size+1+1<b:=Nat.lt_of_lt_of_le BB.out.now.2.2.2.1.lt ho.ge;have BB:=bgo BB hb2;obtain⟨gg,hg,hgv⟩:=ho.slAt hnl;have HG:=Lib.hid hg;have HGV:=Lib.hid (hgv.trans HV.out);clear ho hb2 hg hgv q1;go_wp2_with fail;go_at_call 143;refine(trimmed_pl _ n n gg w2 HG.out).mono ?_;rintro e w3 ⟨a3,n3,c3,f3,rfl,hs3,hv3,ht3,hp3,hb3⟩;have B3:=BB.out.go hb3;have hc4:=B3.now.2.2.2.1.cell;have hf4:=B3.now.2.2.2.1.free;have HE:=Lib.hid (natOut_store (u:=.slice a3 n3 c3) (k:=w.heap.size+1+1) B3.below (by omega) hs3 (hv3.trans HGV.out) ht3 (by rintro x rfl;rcases hp3 with h|h<;>cases h;simp;omega)).three;clear hs3 hv3 ht3 hb3 hp3 B3;go_wp2;exact bodyPost_ret (v:=.agg #[.slice a3 n3 c3]) (by simp[results,Tryz.results170,go_sem,hc4]) rfl HE.out
  · have HZ:=Lib.hid (zero_any _ B wr i2);rw[decide_eq_false h0]at HZ
    have DM:Hid (∀wz,NatIs wz (.agg #[.slice a n c]) A->NatIs wz (.agg #[.slice a2 n2 c2]) B->Calls Tryz.prog 171 #[.agg #[.slice a n c],.agg #[.slice a2 n2 c2]] wz fun e w'=>DivOf3 wz w' e (A / B) (A%B) true):=fun wz h g=>(divMod_any _ _ _ _ wz h g K hK hh.out.2.1).mono fun _ _ h=>by
     have:=h.three (b:=true) (by simp;exact h0);unfold modz at this;rw[if_neg h0]at this;exact this
    have hlt:A%B<B:=Nat.mod_lt _ (Nat.pos_of_ne_zero h0);have HH:Hid (Nat.gcd B (A%B)=Nat.gcd X Y/\B<4294967296^K/\A%B<4294967296^K):=⟨by rw[Nat.gcd_comm B,← Nat.gcd_rec,Nat.gcd_comm];exact hh.out.1,hh.out.2.2,by have:=hh.out.2.2;omega⟩
    have HR:Hid (readN wr (w.heap.size+1)=B):=readN_is s2 i2;have HL:=Lib.hid hlt;have BB:=Lib.hid ((((((⟨hbl,fun _ _ _ _=>trivial,trivial⟩:Bag w (fun _=>True) wr).slot s3).slot s2).slot s1).nat i2).nat i1);have q2:=s2.cell;clear h0 s1 s2 s3 i1 i2 hbl hh hlt;go_wp2_with fail;go_at_call 114;(with_reducible refine HZ.out.mono ?_);rintro e w1 ⟨rfl,hb1⟩;have BB:=bgo BB hb1;clear hb1 q2;have q1:=BB.out.now.2.2.1.cell;have q2:=BB.out.now.2.2.2.1.cell;go_wp2_with fail;go_at_call 171;(with_reducible refine(DM.out _ BB.out.now.1 BB.out.now.2.1).mono ?_);rintro e w2 ⟨aq,nq,cq,ar,nr,cr,rfl,hiq,hir,hb2⟩;have hks:w.heap.size+1+1<w2.heap.size:=(BB.out.go hb2).now.2.2.2.2.1.lt;have B2:=(((BB.out.go hb2).nat hir).box (.slice aq nq cq) 49).box (.slice ar nr cr) 49;rw[World.size_alloc]at B2;clear hiq hir hb2 q1 q2;obtain⟨t6,t5,ir,ia,ib,t1,t2,t3,_⟩:=B2.now;have c1:=t1.cell;have f1:=t1.free;have c2':=t2.cell;have f2:=t2.free;have c6:=t6.cell
    have HN:Hid (GI w (((((w2.alloc (.cells #[.slice aq nq cq] 49)).alloc (.cells #[.slice ar nr cr] 49)).setCell ⟨w.heap.size,0,none⟩ (.slice a2 n2 c2)).setCell ⟨w.heap.size+1,0,none⟩ (.slice ar nr cr)).drew) B (A%B)):=by
     have u1:=t1.set1 (.slice a2 n2 c2);have u2:=t2.other (k:=w.heap.size) (.slice a2 n2 c2) (by omega);have u3:=t3.other (k:=w.heap.size) (.slice a2 n2 c2) (by omega);have jb:=ib.storeAt t1.cell (fun _ _ h=>by cases h) (.slice a2 n2 c2);have jr:=ir.storeAt t1.cell (fun _ _ h=>by cases h) (.slice a2 n2 c2);exact⟨((B2.below.setCell (Nat.le_refl _) _).setCell (show w.heap.size<=w.heap.size+1 by omega) _).drew,a2,n2,c2,ar,nr,cr,(u1.other (k:=w.heap.size+1) (.slice ar nr cr) (by omega)).below (Below.refl _ _).drew,(jb.storeAt u2.cell (fun _ _ h=>by cases h) _).below (Below.refl _ _).drew,(u2.set1 (.slice ar nr cr)).below (Below.refl _ _).drew,(jr.storeAt u2.cell (fun _ _ h=>by cases h) _).below (Below.refl _ _).drew,(u3.other (k:=w.heap.size+1) (.slice ar nr cr) (by omega)).below (Below.refl _ _).drew⟩
    have HM:Hid (readN (((((w2.alloc (.cells #[.slice aq nq cq] 49)).alloc (.cells #[.slice ar nr cr] 49)).setCell ⟨w.heap.size,0,none⟩ (.slice a2 n2 c2)).setCell ⟨w.heap.size+1,0,none⟩ (.slice ar nr cr)).drew) (w.heap.size+1)<readN wr (w.heap.size+1)):=by
     show _<_
     obtain⟨_,x1,x2,x3,y1,y2,y3,_,_,v1,v2,_⟩:=HN.out;rw[HR.out,readN_is v1 v2];exact HL.out
    clear t6 t5 ir ia ib t1 t2 t3 B2;go_wp2_with fail
    go_region
    all_goals
     go_wp2
     go_roundw
     case rel=>exact⟨B,A%B,HN.out,HH.out⟩
     case measure=>exact HM.out
end Go.Proofs.YtdmmenaejkpnjaaGreatDoor
namespace Go.Proofs.YtdmmenaejkpnjaaGreatDoor
open Go.RowKit
attribute [local go_sem ↓] Go.wp_at_zero Go.wp_at_succ
theorem floor_same (a : Option Addr) (n c : Nat) (m : Bool) (Z : Int) (a2 : Option Addr) (n2 c2 : Nat) (m2 : Bool) (Y : Int) (w : World) (h : IntAt w a n c m Z) (g : IntAt w a2 n2 c2 m2 Y) (K : Nat) (hK : K <= 800000) (hZ : Z.natAbs < 4294967296 ^ K) (hY : Y ≠ 0)
    (hap:(m != m2)=false) :
    Calls Tryz.prog 230 #[.agg #[.slice a n c,.bool m],.agg #[.slice a2 n2 c2,.bool m2]] w fun e w'=>FloorTold w w' e (flQ Z Y) (flR Z Y):=by
 have hfu:flA Z Y=false/\flQ Z Y=sgn false (Z.natAbs / Y.natAbs)/\flR Z Y=sgn m2 (Z.natAbs%Y.natAbs):=by
  have e1:flA Z Y=false:=by unfold flA;rw[← h.1,← g.1];exact hap
  refine⟨e1,?_,?_⟩
  · unfold flQ flU;rw[e1];simp 
  · unfold flR flU;rw[e1,← g.1];simp 
 obtain⟨_,hfq,hfr⟩:=hfu;have BB:=Lib.hid (FP.start h g);have q0:=BB.out.now.2.2.2.1.cell;have q1:=BB.out.now.2.2.2.1.cell1;have q2:=BB.out.now.2.2.1.cell;have q3:=BB.out.now.2.2.1.cell1;have N1:Hid (∀wz,FP w.heap.size a n c m Z a2 n2 c2 m2 Y wz->Calls Tryz.prog 173 #[.agg #[.slice a n c,.bool m]] wz fun e w'=>e=.returned (.bool m)/\Below wz.heap.size wz w'):=fun wz hz=>neg_any a n c m Z wz hz.2.2.2.2.2
 have N2:Hid (∀wz,FP w.heap.size a n c m Z a2 n2 c2 m2 Y wz->Calls Tryz.prog 173 #[.agg #[.slice a2 n2 c2,.bool m2]] wz fun e w'=>e=.returned (.bool m2)/\Below wz.heap.size wz w'):=fun wz hz=>neg_any a2 n2 c2 m2 Y wz hz.2.2.2.2.1
 have DM:Hid (∀wz,FP w.heap.size a n c m Z a2 n2 c2 m2 Y wz->Calls Tryz.prog 171 #[.agg #[.slice a n c],.agg #[.slice a2 n2 c2]] wz fun e w'=>DivOf3 wz w' e (Z.natAbs / Y.natAbs) (Z.natAbs%Y.natAbs) true):=fun wz hz=>(divMod_any _ _ _ _ wz hz.2.2.2.2.2.2 hz.2.2.2.2.1.2 K (by omega) hZ).mono fun _ _ h=>by
  have:=h.three (b:=true) (by simp;omega);unfold modz at this;rw[if_neg (by omega)]at this;exact this
 have OF1:Hid (∀a3 n3 c3 wz,NatIs wz (.agg #[.slice a3 n3 c3]) (Z.natAbs / Y.natAbs)->Calls Tryz.prog 116 #[.bool false,.agg #[.slice a3 n3 c3]] wz fun e w'=>IntTold wz w' e (flQ Z Y)):=by
  intro a3 n3 c3 wz hi;have:=wof_any false a3 n3 c3 _ wz hi;rw[← hfq]at this;exact this
 have OF2:Hid (∀a3 n3 c3 wz,NatIs wz (.agg #[.slice a3 n3 c3]) (Z.natAbs%Y.natAbs)->Calls Tryz.prog 116 #[.bool m2,.agg #[.slice a3 n3 c3]] wz fun e w'=>IntTold wz w' e (flR Z Y)):=by
  intro a3 n3 c3 wz hi;have:=wof_any m2 a3 n3 c3 _ wz hi;rw[← hfr]at this;exact this
 obtain⟨N,hN⟩:∃N,Z.natAbs=N:=⟨_,rfl⟩
 obtain⟨M,hM⟩:∃M,Y.natAbs=M:=⟨_,rfl⟩
 have hM0:0<M:=by omega
 have hgM:=g.1;have hNK:N<4294967296^K:=by omega
 have SB:Hid (∀a3 n3 c3 wz,FP w.heap.size a n c m Z a2 n2 c2 m2 Y wz->NatIs wz (.agg #[.slice a3 n3 c3]) (N%M)->Calls Tryz.prog 251 #[.agg #[.slice a2 n2 c2],.agg #[.slice a3 n3 c3]] wz fun e w'=>SubOf3 wz w' e (M-N%M) true):=fun a3 n3 c3 wz hz hi=>(sub_any _ _ M (N%M) wz (by rw[← hM];exact hz.2.2.2.2.1.2) hi).mono fun _ _ h=>h.three (decide_eq_true (Nat.le_of_lt (Nat.mod_lt N hM0)))
 have AD:Hid (∀a3 n3 c3 a4 n4 c4 wz,NatIs wz (.agg #[.slice a3 n3 c3]) (N / M)->NatIs wz (.agg #[.slice a4 n4 c4]) 1->Calls Tryz.prog 167 #[.agg #[.slice a3 n3 c3],.agg #[.slice a4 n4 c4]] wz fun e w'=>NatOf3 wz w' e (N / M+1)):=fun a3 n3 c3 a4 n4 c4 wz hi hj=>(add_any _ _ _ _ wz hi hj (K+1) (by omega) (by
     have:=Nat.div_le_self N M;have h2:=pow_mono32 (show K<=K+1 by omega)
     omega) (by
     have:=pow_mono32 (show 1<=K+1 by omega);rw[Nat.pow_one]at this
     omega)).mono fun _ _ h=>h.three
 rw[hN,hM]at DM OF1 OF2;have hd:(m==m2)=true:=by simpa using hap
 clear h g hZ hY hfq hfr hap hN hM hgM hNK hM0;go_enter Tryz.func230,Tryz.ntmps230;go_wp2_with fail;go_at_call 171;(with_reducible refine(DM.out _ BB.out.now).mono ?_);rintro e w4 ⟨aq,nq,cq,ar,nr,cr,rfl,hi3,hi4,hb4⟩;have hk4:w.heap.size+1+1+1<w4.heap.size:=RS.lt (BB.out.go hb4).now.2.1;have BQ:=((((BB.out.go hb4).nat hi4).nat hi3).box (.slice aq nq cq) 49).box (.slice ar nr cr) 49;rw[World.size_alloc]at BQ;have BB:Hid (Bag w (fun y=>Slot y w4.heap.size (.slice aq nq cq)/\NatIs y (.agg #[.slice aq nq cq]) (N / M)/\Slot y (w4.heap.size+1) (.slice ar nr cr)/\NatIs y (.agg #[.slice ar nr cr]) (N%M)/\FP w.heap.size a n c m Z a2 n2 c2 m2 Y y) _):=⟨BQ.below,fun x y hb h=>⟨h.1.below hb,h.2.1.below hb,h.2.2.1.below hb,h.2.2.2.1.below hb,FP.stay x y hb h.2.2.2.2⟩,BQ.now.2.1,BQ.now.2.2.1,BQ.now.1,BQ.now.2.2.2.1,BQ.now.2.2.2.2⟩
 clear hb4 hi3 hi4 q0 q1 q2 q3 BQ;go_wp2_with fail
 go_region_held3 (fun y => (y.cell? ⟨w.heap.size, 0, none⟩ = some (.slice a n c) /\ y.cell? ⟨w.heap.size, 1, none⟩ = some (.bool m) /\ y.cell? ⟨w.heap.size + 1, 0, none⟩ = some (.slice a2 n2 c2) /\ y.cell? ⟨w.heap.size + 1, 1, none⟩ = some (.bool m2)) /\ Bag w (fun y => Slot y w4.heap.size (.slice aq nq cq) /\ NatIs y (.agg #[.slice aq nq cq]) (N / M) /\ Slot y (w4.heap.size + 1) (.slice ar nr cr) /\ NatIs y (.agg #[.slice ar nr cr]) (N % M) /\ FP w.heap.size a n c m Z a2 n2 c2 m2 Y y) y)
  (first|(have B9:=BB.out.drew;exact⟨⟨B9.now.2.2.2.2.2.2.2.1.cell,B9.now.2.2.2.2.2.2.2.1.cell1,B9.now.2.2.2.2.2.2.1.cell,B9.now.2.2.2.2.2.2.1.cell1⟩,B9⟩)|(have B9:=Bag.go (show Bag w (fun y=>Slot y w4.heap.size (.slice aq nq cq)/\NatIs y (.agg #[.slice aq nq cq]) (N / M)/\Slot y (w4.heap.size+1) (.slice ar nr cr)/\NatIs y (.agg #[.slice ar nr cr]) (N%M)/\FP w.heap.size a n c m Z a2 n2 c2 m2 Y y) _ from by go_split_ands;assumption) hb2;exact⟨⟨B9.now.2.2.2.2.2.2.2.1.cell,B9.now.2.2.2.2.2.2.2.1.cell1,B9.now.2.2.2.2.2.2.1.cell,B9.now.2.2.2.2.2.2.1.cell1⟩,B9⟩))
  (first
    | (go_at_call 173;(with_reducible refine(N1.out _ ?_).mono ?_);exact(show Bag w (fun y=>Slot y w4.heap.size (.slice aq nq cq)/\NatIs y (.agg #[.slice aq nq cq]) (N / M)/\Slot y (w4.heap.size+1) (.slice ar nr cr)/\NatIs y (.agg #[.slice ar nr cr]) (N%M)/\FP w.heap.size a n c m Z a2 n2 c2 m2 Y y) _ from by go_split_ands;assumption).now.2.2.2.2;rintro e w2 ⟨rfl,hb2⟩)
    | (go_at_call 173;(with_reducible refine(N2.out _ ?_).mono ?_);exact(show Bag w (fun y=>Slot y w4.heap.size (.slice aq nq cq)/\NatIs y (.agg #[.slice aq nq cq]) (N / M)/\Slot y (w4.heap.size+1) (.slice ar nr cr)/\NatIs y (.agg #[.slice ar nr cr]) (N%M)/\FP w.heap.size a n c m Z a2 n2 c2 m2 Y y) _ from by go_split_ands;assumption).now.2.2.2.2;rintro e w2 ⟨rfl,hb2⟩))
 have BB:=Lib.hid (show Bag w (fun y=>Slot y w4.heap.size (.slice aq nq cq)/\NatIs y (.agg #[.slice aq nq cq]) (N / M)/\Slot y (w4.heap.size+1) (.slice ar nr cr)/\NatIs y (.agg #[.slice ar nr cr]) (N%M)/\FP w.heap.size a n c m Z a2 n2 c2 m2 Y y) _ from by go_split_ands;assumption);go_wp2_with fail
 go_region_held3 (fun y => (y.cell? ⟨w4.heap.size, 0, none⟩ = some (.slice aq nq cq) /\ y.cell? ⟨w4.heap.size + 1, 0, none⟩ = some (.slice ar nr cr) /\ y.cell? ⟨w.heap.size + 1, 0, none⟩ = some (.slice a2 n2 c2) /\ y.cell? ⟨w.heap.size + 1, 1, none⟩ = some (.bool m2)) /\ Bag w (fun y => Slot y w4.heap.size (.slice aq nq cq) /\ NatIs y (.agg #[.slice aq nq cq]) (N / M) /\ Slot y (w4.heap.size + 1) (.slice ar nr cr) /\ NatIs y (.agg #[.slice ar nr cr]) (N % M) /\ FP w.heap.size a n c m Z a2 n2 c2 m2 Y y) y)
  (first
    | (have B9:=BB.out.drew;exact⟨⟨B9.now.1.cell,B9.now.2.2.1.cell,B9.now.2.2.2.2.2.2.1.cell,B9.now.2.2.2.2.2.2.1.cell1⟩,B9⟩)
    | (have B9:=Bag.go (show Bag w (fun y=>Slot y w4.heap.size (.slice aq nq cq)/\NatIs y (.agg #[.slice aq nq cq]) (N / M)/\Slot y (w4.heap.size+1) (.slice ar nr cr)/\NatIs y (.agg #[.slice ar nr cr]) (N%M)/\FP w.heap.size a n c m Z a2 n2 c2 m2 Y y) _ from by go_split_ands;assumption) hb2;exact⟨⟨B9.now.1.cell,B9.now.2.2.1.cell,B9.now.2.2.2.2.2.2.1.cell,B9.now.2.2.2.2.2.2.1.cell1⟩,B9⟩)
    | (have B9:=Bag.put (show Bag w (fun y=>Slot y w4.heap.size (.slice aq nq cq)/\NatIs y (.agg #[.slice aq nq cq]) (N / M)/\Slot y (w4.heap.size+1) (.slice ar nr cr)/\NatIs y (.agg #[.slice ar nr cr]) (N%M)/\FP w.heap.size a n c m Z a2 n2 c2 m2 Y y) _ from by go_split_ands;assumption) (k:=w.heap.size+1+1) (a:=a5) (n:=n5) (c:=c5) (b:=m5) (by omega) (fun h=>⟨h.1.put (by omega) _ _ _ _,h.2.1.put h.2.2.2.2.1 _ _ _ _,h.2.2.1.put (by omega) _ _ _ _,h.2.2.2.1.put h.2.2.2.2.1 _ _ _ _,h.2.2.2.2.put h.2.2.2.2.1 (by omega) (by omega) _ _ _ _⟩);exact⟨⟨B9.now.1.cell,B9.now.2.2.1.cell,B9.now.2.2.2.2.2.2.1.cell,B9.now.2.2.2.2.2.2.1.cell1⟩,B9⟩)
    | (have B9:=Bag.put (show Bag w (fun y=>Slot y w4.heap.size (.slice aq nq cq)/\NatIs y (.agg #[.slice aq nq cq]) (N / M)/\Slot y (w4.heap.size+1) (.slice ar nr cr)/\NatIs y (.agg #[.slice ar nr cr]) (N%M)/\FP w.heap.size a n c m Z a2 n2 c2 m2 Y y) _ from by go_split_ands;assumption) (k:=w.heap.size+1+1+1) (a:=a6) (n:=n6) (c:=c6) (b:=m6) (by omega) (fun h=>⟨h.1.put (by omega) _ _ _ _,h.2.1.put h.2.2.2.2.2.1 _ _ _ _,h.2.2.1.put (by omega) _ _ _ _,h.2.2.2.1.put h.2.2.2.2.2.1 _ _ _ _,h.2.2.2.2.put h.2.2.2.2.2.1 (by omega) (by omega) _ _ _ _⟩);exact⟨⟨B9.now.1.cell,B9.now.2.2.1.cell,B9.now.2.2.2.2.2.2.1.cell,B9.now.2.2.2.2.2.2.1.cell1⟩,B9⟩))
  (first
    | (go_at_call 116;(with_reducible refine(OF1.out aq nq cq _ ?_).mono ?_);exact(show Bag w (fun y=>Slot y w4.heap.size (.slice aq nq cq)/\NatIs y (.agg #[.slice aq nq cq]) (N / M)/\Slot y (w4.heap.size+1) (.slice ar nr cr)/\NatIs y (.agg #[.slice ar nr cr]) (N%M)/\FP w.heap.size a n c m Z a2 n2 c2 m2 Y y) _ from by go_split_ands;assumption).now.2.1;rintro e w2 ⟨a5,n5,c5,m5,rfl,hi5,hb2⟩)
    | (go_at_call 173;(with_reducible refine(N2.out _ ?_).mono ?_);exact(show Bag w (fun y=>Slot y w4.heap.size (.slice aq nq cq)/\NatIs y (.agg #[.slice aq nq cq]) (N / M)/\Slot y (w4.heap.size+1) (.slice ar nr cr)/\NatIs y (.agg #[.slice ar nr cr]) (N%M)/\FP w.heap.size a n c m Z a2 n2 c2 m2 Y y) _ from by go_split_ands;assumption).now.2.2.2.2;rintro e w2 ⟨rfl,hb2⟩;have hi5:=hi5.below hb2)
    | (go_at_call 116; (with_reducible refine (OF2.out ar nr cr _ ?_).mono ?_); exact (show Bag w (fun y => Slot y w4.heap.size (.slice aq nq cq) /\ NatIs y (.agg #[.slice aq nq cq]) (N / M) /\ Slot y (w4.heap.size + 1) (.slice ar nr cr) /\ NatIs y (.agg #[.slice ar nr cr]) (N % M) /\ FP w.heap.size a n c m Z a2 n2 c2 m2 Y y) _ from by go_split_ands; assumption).now.2.2.2.1; rintro e w2 ⟨a6, n6, c6, m6, rfl, hi6, hb2⟩; have hi5 := hi5.below hb2;
        have B7:=Bag.go (show Bag w (fun y=>Slot y w4.heap.size (.slice aq nq cq)/\NatIs y (.agg #[.slice aq nq cq]) (N / M)/\Slot y (w4.heap.size+1) (.slice ar nr cr)/\NatIs y (.agg #[.slice ar nr cr]) (N%M)/\FP w.heap.size a n c m Z a2 n2 c2 m2 Y y) _ from by go_split_ands;assumption) hb2;
        obtain⟨x8,b8,hs8,_⟩:=B7.now.2.2.2.2.1;
        obtain⟨x9,b9,hs9,_⟩:=B7.now.2.2.2.2.2.1;
        have hc1:=hs8.cell;have hc2:=hs8.cell1;have hc3:=hs9.cell;have hc4:=hs9.cell1;have hf1:=hs8.free;have hf2:=hs8.free1;have hf3:=hs9.free;have hf4:=hs9.free1;
        have HA:=Slot2.put (B7.now.2.2.2.2.1.slotted a5 n5 c5 m5) (show w.heap.size+1+1≠w.heap.size+1+1+1 by omega) a6 n6 c6 m6;
        have HB:=(B7.now.2.2.2.2.2.1.put (k:=w.heap.size+1+1) a5 n5 c5 m5).slotted a6 n6 c6 m6;
        have e1:=HA.cell;have e2:=HA.cell1;have e3:=HB.cell;have e4:=HB.cell1;
        have HE:Hid (FloorTold w (putI (putI w2 (w.heap.size+1+1) a5 n5 c5 m5) (w.heap.size+1+1+1) a6 n6 c6 m6) (.returned (.tuple #[.agg #[.slice a5 n5 c5,.bool m5],.agg #[.slice a6 n6 c6,.bool m6],.bool true])) (flQ Z Y) (flR Z Y)):=⟨a5,n5,c5,m5,a6,n6,c6,m6,rfl,(hi5.put B7.now.2.2.2.2.1 _ _ _ _).put (B7.now.2.2.2.2.2.1.put (k:=w.heap.size+1+1) a5 n5 c5 m5) _ _ _ _,(hi6.put B7.now.2.2.2.2.1 _ _ _ _).put (B7.now.2.2.2.2.2.1.put (k:=w.heap.size+1+1) a5 n5 c5 m5) _ _ _ _,(((B7.below.setCell (show w.heap.size<=w.heap.size+1+1 by omega) _).setCell (show w.heap.size<=w.heap.size+1+1 by omega) _).setCell (show w.heap.size<=w.heap.size+1+1+1 by omega) _).setCell (show w.heap.size<=w.heap.size+1+1+1 by omega) _⟩;
        unfold putI at HE e1 e2 e3 e4;clear hs8 hs9 HA HB B7))
 all_goals
  go_wp2;exact bodyPost_ret (v:=.tuple #[.agg #[.slice a5 n5 c5,.bool m5],.agg #[.slice a6 n6 c6,.bool m6],.bool true]) (by simp[results,Tryz.results230,go_sem,e1,e2,e3,e4]) rfl HE.out
theorem floor_even (a : Option Addr) (n c : Nat) (m : Bool) (Z : Int) (a2 : Option Addr) (n2 c2 : Nat) (m2 : Bool) (Y : Int) (w : World) (h : IntAt w a n c m Z) (g : IntAt w a2 n2 c2 m2 Y) (K : Nat) (hK : K <= 800000) (hZ : Z.natAbs < 4294967296 ^ K) (hY : Y ≠ 0)
    (hap:(m != m2)=true) (hr0:Z.natAbs%Y.natAbs=0) :
    Calls Tryz.prog 230 #[.agg #[.slice a n c,.bool m],.agg #[.slice a2 n2 c2,.bool m2]] w fun e w'=>FloorTold w w' e (flQ Z Y) (flR Z Y):=by
 have hfu:flA Z Y=true/\flQ Z Y=sgn true (Z.natAbs / Y.natAbs)/\flR Z Y=sgn m2 (Z.natAbs%Y.natAbs):=by
  have e1:flA Z Y=true:=by unfold flA;rw[← h.1,← g.1];exact hap
  refine⟨e1,?_,?_⟩
  · unfold flQ flU;rw[e1];simp[hr0]
  · unfold flR flU;rw[e1,← g.1,hr0];simp
 obtain⟨_,hfq,hfr⟩:=hfu;have BB:=Lib.hid (FP.start h g);have q0:=BB.out.now.2.2.2.1.cell;have q1:=BB.out.now.2.2.2.1.cell1;have q2:=BB.out.now.2.2.1.cell;have q3:=BB.out.now.2.2.1.cell1;have N1:Hid (∀wz,FP w.heap.size a n c m Z a2 n2 c2 m2 Y wz->Calls Tryz.prog 173 #[.agg #[.slice a n c,.bool m]] wz fun e w'=>e=.returned (.bool m)/\Below wz.heap.size wz w'):=fun wz hz=>neg_any a n c m Z wz hz.2.2.2.2.2
 have N2:Hid (∀wz,FP w.heap.size a n c m Z a2 n2 c2 m2 Y wz->Calls Tryz.prog 173 #[.agg #[.slice a2 n2 c2,.bool m2]] wz fun e w'=>e=.returned (.bool m2)/\Below wz.heap.size wz w'):=fun wz hz=>neg_any a2 n2 c2 m2 Y wz hz.2.2.2.2.1
 have DM:Hid (∀wz,FP w.heap.size a n c m Z a2 n2 c2 m2 Y wz->Calls Tryz.prog 171 #[.agg #[.slice a n c],.agg #[.slice a2 n2 c2]] wz fun e w'=>DivOf3 wz w' e (Z.natAbs / Y.natAbs) (Z.natAbs%Y.natAbs) true):=fun wz hz=>(divMod_any _ _ _ _ wz hz.2.2.2.2.2.2 hz.2.2.2.2.1.2 K (by omega) hZ).mono fun _ _ h=>by
  have:=h.three (b:=true) (by simp;omega);unfold modz at this;rw[if_neg (by omega)]at this;exact this
 have OF1:Hid (∀a3 n3 c3 wz,NatIs wz (.agg #[.slice a3 n3 c3]) (Z.natAbs / Y.natAbs)->Calls Tryz.prog 116 #[.bool true,.agg #[.slice a3 n3 c3]] wz fun e w'=>IntTold wz w' e (flQ Z Y)):=by
  intro a3 n3 c3 wz hi;have:=wof_any true a3 n3 c3 _ wz hi;rw[← hfq]at this;exact this
 have OF2:Hid (∀a3 n3 c3 wz,NatIs wz (.agg #[.slice a3 n3 c3]) (Z.natAbs%Y.natAbs)->Calls Tryz.prog 116 #[.bool m2,.agg #[.slice a3 n3 c3]] wz fun e w'=>IntTold wz w' e (flR Z Y)):=by
  intro a3 n3 c3 wz hi;have:=wof_any m2 a3 n3 c3 _ wz hi;rw[← hfr]at this;exact this
 obtain⟨N,hN⟩:∃N,Z.natAbs=N:=⟨_,rfl⟩
 obtain⟨M,hM⟩:∃M,Y.natAbs=M:=⟨_,rfl⟩
 have hM0:0<M:=by omega
 have hgM:=g.1;have hNK:N<4294967296^K:=by omega
 have SB:Hid (∀a3 n3 c3 wz,FP w.heap.size a n c m Z a2 n2 c2 m2 Y wz->NatIs wz (.agg #[.slice a3 n3 c3]) (N%M)->Calls Tryz.prog 251 #[.agg #[.slice a2 n2 c2],.agg #[.slice a3 n3 c3]] wz fun e w'=>SubOf3 wz w' e (M-N%M) true):=fun a3 n3 c3 wz hz hi=>(sub_any _ _ M (N%M) wz (by rw[← hM];exact hz.2.2.2.2.1.2) hi).mono fun _ _ h=>h.three (decide_eq_true (Nat.le_of_lt (Nat.mod_lt N hM0)))
 have AD:Hid (∀a3 n3 c3 a4 n4 c4 wz,NatIs wz (.agg #[.slice a3 n3 c3]) (N / M)->NatIs wz (.agg #[.slice a4 n4 c4]) 1->Calls Tryz.prog 167 #[.agg #[.slice a3 n3 c3],.agg #[.slice a4 n4 c4]] wz fun e w'=>NatOf3 wz w' e (N / M+1)):=fun a3 n3 c3 a4 n4 c4 wz hi hj=>(add_any _ _ _ _ wz hi hj (K+1) (by omega) (by
     have:=Nat.div_le_self N M;have h2:=pow_mono32 (show K<=K+1 by omega)
     omega) (by
     have:=pow_mono32 (show 1<=K+1 by omega);rw[Nat.pow_one]at this
     omega)).mono fun _ _ h=>h.three
 rw[hN,hM]at DM OF1 OF2;have hd:(m==m2)=false:=by simpa using hap
 have ZR:Hid (∀a3 n3 c3 wz,NatIs wz (.agg #[.slice a3 n3 c3]) (N%M)->Calls Tryz.prog 114 #[.agg #[.slice a3 n3 c3]] wz fun e w'=>e=.returned (.bool true)/\Below wz.heap.size wz w'):=by
  intro a3 n3 c3 wz hi;have h1:=zero_any _ _ wz hi;rw[show decide (N%M=0)=true from by rw[← hN,← hM];exact decide_eq_true hr0]at h1;exact h1
 clear hr0;clear h g hZ hY hfq hfr hap hN hM hgM hNK hM0;go_enter Tryz.func230,Tryz.ntmps230;go_wp2_with fail;go_at_call 171;(with_reducible refine(DM.out _ BB.out.now).mono ?_);rintro e w4 ⟨aq,nq,cq,ar,nr,cr,rfl,hi3,hi4,hb4⟩;have hk4:w.heap.size+1+1+1<w4.heap.size:=RS.lt (BB.out.go hb4).now.2.1;have BQ:=((((BB.out.go hb4).nat hi4).nat hi3).box (.slice aq nq cq) 49).box (.slice ar nr cr) 49;rw[World.size_alloc]at BQ;have BB:Hid (Bag w (fun y=>Slot y w4.heap.size (.slice aq nq cq)/\NatIs y (.agg #[.slice aq nq cq]) (N / M)/\Slot y (w4.heap.size+1) (.slice ar nr cr)/\NatIs y (.agg #[.slice ar nr cr]) (N%M)/\FP w.heap.size a n c m Z a2 n2 c2 m2 Y y) _):=⟨BQ.below,fun x y hb h=>⟨h.1.below hb,h.2.1.below hb,h.2.2.1.below hb,h.2.2.2.1.below hb,FP.stay x y hb h.2.2.2.2⟩,BQ.now.2.1,BQ.now.2.2.1,BQ.now.1,BQ.now.2.2.2.1,BQ.now.2.2.2.2⟩
 clear hb4 hi3 hi4 q0 q1 q2 q3 BQ;go_wp2_with fail
 go_region_held3 (fun y => (y.cell? ⟨w.heap.size, 0, none⟩ = some (.slice a n c) /\ y.cell? ⟨w.heap.size, 1, none⟩ = some (.bool m) /\ y.cell? ⟨w.heap.size + 1, 0, none⟩ = some (.slice a2 n2 c2) /\ y.cell? ⟨w.heap.size + 1, 1, none⟩ = some (.bool m2)) /\ Bag w (fun y => Slot y w4.heap.size (.slice aq nq cq) /\ NatIs y (.agg #[.slice aq nq cq]) (N / M) /\ Slot y (w4.heap.size + 1) (.slice ar nr cr) /\ NatIs y (.agg #[.slice ar nr cr]) (N % M) /\ FP w.heap.size a n c m Z a2 n2 c2 m2 Y y) y)
  (first|(have B9:=BB.out.drew;exact⟨⟨B9.now.2.2.2.2.2.2.2.1.cell,B9.now.2.2.2.2.2.2.2.1.cell1,B9.now.2.2.2.2.2.2.1.cell,B9.now.2.2.2.2.2.2.1.cell1⟩,B9⟩)|(have B9:=Bag.go (show Bag w (fun y=>Slot y w4.heap.size (.slice aq nq cq)/\NatIs y (.agg #[.slice aq nq cq]) (N / M)/\Slot y (w4.heap.size+1) (.slice ar nr cr)/\NatIs y (.agg #[.slice ar nr cr]) (N%M)/\FP w.heap.size a n c m Z a2 n2 c2 m2 Y y) _ from by go_split_ands;assumption) hb2;exact⟨⟨B9.now.2.2.2.2.2.2.2.1.cell,B9.now.2.2.2.2.2.2.2.1.cell1,B9.now.2.2.2.2.2.2.1.cell,B9.now.2.2.2.2.2.2.1.cell1⟩,B9⟩))
  (first
    | (go_at_call 173;(with_reducible refine(N1.out _ ?_).mono ?_);exact(show Bag w (fun y=>Slot y w4.heap.size (.slice aq nq cq)/\NatIs y (.agg #[.slice aq nq cq]) (N / M)/\Slot y (w4.heap.size+1) (.slice ar nr cr)/\NatIs y (.agg #[.slice ar nr cr]) (N%M)/\FP w.heap.size a n c m Z a2 n2 c2 m2 Y y) _ from by go_split_ands;assumption).now.2.2.2.2;rintro e w2 ⟨rfl,hb2⟩)
    | (go_at_call 173;(with_reducible refine(N2.out _ ?_).mono ?_);exact(show Bag w (fun y=>Slot y w4.heap.size (.slice aq nq cq)/\NatIs y (.agg #[.slice aq nq cq]) (N / M)/\Slot y (w4.heap.size+1) (.slice ar nr cr)/\NatIs y (.agg #[.slice ar nr cr]) (N%M)/\FP w.heap.size a n c m Z a2 n2 c2 m2 Y y) _ from by go_split_ands;assumption).now.2.2.2.2;rintro e w2 ⟨rfl,hb2⟩))
 have BB:=Lib.hid (show Bag w (fun y=>Slot y w4.heap.size (.slice aq nq cq)/\NatIs y (.agg #[.slice aq nq cq]) (N / M)/\Slot y (w4.heap.size+1) (.slice ar nr cr)/\NatIs y (.agg #[.slice ar nr cr]) (N%M)/\FP w.heap.size a n c m Z a2 n2 c2 m2 Y y) _ from by go_split_ands;assumption);have q5:=BB.out.now.2.2.1.cell;go_wp2_with fail;go_at_call 114;(with_reducible refine(ZR.out ar nr cr _ BB.out.now.2.2.2.1).mono ?_);rintro e w6 ⟨rfl,hb6⟩;have BB:=bgo BB hb6;clear hb6 q5;go_wp2_with fail
 go_region_held3 (fun y => (y.cell? ⟨w4.heap.size, 0, none⟩ = some (.slice aq nq cq) /\ y.cell? ⟨w4.heap.size + 1, 0, none⟩ = some (.slice ar nr cr) /\ y.cell? ⟨w.heap.size + 1, 0, none⟩ = some (.slice a2 n2 c2) /\ y.cell? ⟨w.heap.size + 1, 1, none⟩ = some (.bool m2)) /\ Bag w (fun y => Slot y w4.heap.size (.slice aq nq cq) /\ NatIs y (.agg #[.slice aq nq cq]) (N / M) /\ Slot y (w4.heap.size + 1) (.slice ar nr cr) /\ NatIs y (.agg #[.slice ar nr cr]) (N % M) /\ FP w.heap.size a n c m Z a2 n2 c2 m2 Y y) y)
  (first
    | (have B9:=BB.out.drew;exact⟨⟨B9.now.1.cell,B9.now.2.2.1.cell,B9.now.2.2.2.2.2.2.1.cell,B9.now.2.2.2.2.2.2.1.cell1⟩,B9⟩)
    | (have B9:=Bag.go (show Bag w (fun y=>Slot y w4.heap.size (.slice aq nq cq)/\NatIs y (.agg #[.slice aq nq cq]) (N / M)/\Slot y (w4.heap.size+1) (.slice ar nr cr)/\NatIs y (.agg #[.slice ar nr cr]) (N%M)/\FP w.heap.size a n c m Z a2 n2 c2 m2 Y y) _ from by go_split_ands;assumption) hb2;exact⟨⟨B9.now.1.cell,B9.now.2.2.1.cell,B9.now.2.2.2.2.2.2.1.cell,B9.now.2.2.2.2.2.2.1.cell1⟩,B9⟩)
    | (have B9:=Bag.put (show Bag w (fun y=>Slot y w4.heap.size (.slice aq nq cq)/\NatIs y (.agg #[.slice aq nq cq]) (N / M)/\Slot y (w4.heap.size+1) (.slice ar nr cr)/\NatIs y (.agg #[.slice ar nr cr]) (N%M)/\FP w.heap.size a n c m Z a2 n2 c2 m2 Y y) _ from by go_split_ands;assumption) (k:=w.heap.size+1+1) (a:=a5) (n:=n5) (c:=c5) (b:=m5) (by omega) (fun h=>⟨h.1.put (by omega) _ _ _ _,h.2.1.put h.2.2.2.2.1 _ _ _ _,h.2.2.1.put (by omega) _ _ _ _,h.2.2.2.1.put h.2.2.2.2.1 _ _ _ _,h.2.2.2.2.put h.2.2.2.2.1 (by omega) (by omega) _ _ _ _⟩);exact⟨⟨B9.now.1.cell,B9.now.2.2.1.cell,B9.now.2.2.2.2.2.2.1.cell,B9.now.2.2.2.2.2.2.1.cell1⟩,B9⟩)
    | (have B9:=Bag.put (show Bag w (fun y=>Slot y w4.heap.size (.slice aq nq cq)/\NatIs y (.agg #[.slice aq nq cq]) (N / M)/\Slot y (w4.heap.size+1) (.slice ar nr cr)/\NatIs y (.agg #[.slice ar nr cr]) (N%M)/\FP w.heap.size a n c m Z a2 n2 c2 m2 Y y) _ from by go_split_ands;assumption) (k:=w.heap.size+1+1+1) (a:=a6) (n:=n6) (c:=c6) (b:=m6) (by omega) (fun h=>⟨h.1.put (by omega) _ _ _ _,h.2.1.put h.2.2.2.2.2.1 _ _ _ _,h.2.2.1.put (by omega) _ _ _ _,h.2.2.2.1.put h.2.2.2.2.2.1 _ _ _ _,h.2.2.2.2.put h.2.2.2.2.2.1 (by omega) (by omega) _ _ _ _⟩);exact⟨⟨B9.now.1.cell,B9.now.2.2.1.cell,B9.now.2.2.2.2.2.2.1.cell,B9.now.2.2.2.2.2.2.1.cell1⟩,B9⟩))
  (first
    | (go_at_call 116;(with_reducible refine(OF1.out aq nq cq _ ?_).mono ?_);exact(show Bag w (fun y=>Slot y w4.heap.size (.slice aq nq cq)/\NatIs y (.agg #[.slice aq nq cq]) (N / M)/\Slot y (w4.heap.size+1) (.slice ar nr cr)/\NatIs y (.agg #[.slice ar nr cr]) (N%M)/\FP w.heap.size a n c m Z a2 n2 c2 m2 Y y) _ from by go_split_ands;assumption).now.2.1;rintro e w2 ⟨a5,n5,c5,m5,rfl,hi5,hb2⟩)
    | (go_at_call 173;(with_reducible refine(N2.out _ ?_).mono ?_);exact(show Bag w (fun y=>Slot y w4.heap.size (.slice aq nq cq)/\NatIs y (.agg #[.slice aq nq cq]) (N / M)/\Slot y (w4.heap.size+1) (.slice ar nr cr)/\NatIs y (.agg #[.slice ar nr cr]) (N%M)/\FP w.heap.size a n c m Z a2 n2 c2 m2 Y y) _ from by go_split_ands;assumption).now.2.2.2.2;rintro e w2 ⟨rfl,hb2⟩;have hi5:=hi5.below hb2)
    | (go_at_call 116; (with_reducible refine (OF2.out ar nr cr _ ?_).mono ?_); exact (show Bag w (fun y => Slot y w4.heap.size (.slice aq nq cq) /\ NatIs y (.agg #[.slice aq nq cq]) (N / M) /\ Slot y (w4.heap.size + 1) (.slice ar nr cr) /\ NatIs y (.agg #[.slice ar nr cr]) (N % M) /\ FP w.heap.size a n c m Z a2 n2 c2 m2 Y y) _ from by go_split_ands; assumption).now.2.2.2.1; rintro e w2 ⟨a6, n6, c6, m6, rfl, hi6, hb2⟩; have hi5 := hi5.below hb2;
        have B7:=Bag.go (show Bag w (fun y=>Slot y w4.heap.size (.slice aq nq cq)/\NatIs y (.agg #[.slice aq nq cq]) (N / M)/\Slot y (w4.heap.size+1) (.slice ar nr cr)/\NatIs y (.agg #[.slice ar nr cr]) (N%M)/\FP w.heap.size a n c m Z a2 n2 c2 m2 Y y) _ from by go_split_ands;assumption) hb2;
        obtain⟨x8,b8,hs8,_⟩:=B7.now.2.2.2.2.1;
        obtain⟨x9,b9,hs9,_⟩:=B7.now.2.2.2.2.2.1;
        have hc1:=hs8.cell;have hc2:=hs8.cell1;have hc3:=hs9.cell;have hc4:=hs9.cell1;have hf1:=hs8.free;have hf2:=hs8.free1;have hf3:=hs9.free;have hf4:=hs9.free1;
        have HA:=Slot2.put (B7.now.2.2.2.2.1.slotted a5 n5 c5 m5) (show w.heap.size+1+1≠w.heap.size+1+1+1 by omega) a6 n6 c6 m6;
        have HB:=(B7.now.2.2.2.2.2.1.put (k:=w.heap.size+1+1) a5 n5 c5 m5).slotted a6 n6 c6 m6;
        have e1:=HA.cell;have e2:=HA.cell1;have e3:=HB.cell;have e4:=HB.cell1;
        have HE:Hid (FloorTold w (putI (putI w2 (w.heap.size+1+1) a5 n5 c5 m5) (w.heap.size+1+1+1) a6 n6 c6 m6) (.returned (.tuple #[.agg #[.slice a5 n5 c5,.bool m5],.agg #[.slice a6 n6 c6,.bool m6],.bool true])) (flQ Z Y) (flR Z Y)):=⟨a5,n5,c5,m5,a6,n6,c6,m6,rfl,(hi5.put B7.now.2.2.2.2.1 _ _ _ _).put (B7.now.2.2.2.2.2.1.put (k:=w.heap.size+1+1) a5 n5 c5 m5) _ _ _ _,(hi6.put B7.now.2.2.2.2.1 _ _ _ _).put (B7.now.2.2.2.2.2.1.put (k:=w.heap.size+1+1) a5 n5 c5 m5) _ _ _ _,(((B7.below.setCell (show w.heap.size<=w.heap.size+1+1 by omega) _).setCell (show w.heap.size<=w.heap.size+1+1 by omega) _).setCell (show w.heap.size<=w.heap.size+1+1+1 by omega) _).setCell (show w.heap.size<=w.heap.size+1+1+1 by omega) _⟩;
        unfold putI at HE e1 e2 e3 e4;clear hs8 hs9 HA HB B7))
 all_goals
  go_wp2;exact bodyPost_ret (v:=.tuple #[.agg #[.slice a5 n5 c5,.bool m5],.agg #[.slice a6 n6 c6,.bool m6],.bool true]) (by simp[results,Tryz.results230,go_sem,e1,e2,e3,e4]) rfl HE.out
theorem floor_any (a : Option Addr) (n c : Nat) (m : Bool) (Z : Int) (a2 : Option Addr) (n2 c2 : Nat) (m2 : Bool) (Y : Int) (w : World) (h : IntAt w a n c m Z) (g : IntAt w a2 n2 c2 m2 Y) (K : Nat) (hK : K <= 800000) (hZ : Z.natAbs < 4294967296 ^ K) (hY : Y ≠ 0) :
    Calls Tryz.prog 230 #[.agg #[.slice a n c,.bool m],.agg #[.slice a2 n2 c2,.bool m2]] w fun e w'=>FloorTold w w' e (flQ Z Y) (flR Z Y):=by
 cases hap:(m != m2)with
 | false=>exact floor_same a n c m Z a2 n2 c2 m2 Y w h g K hK hZ hY hap
 | true =>
  by_cases hr:Z.natAbs%Y.natAbs=0
  · exact floor_even a n c m Z a2 n2 c2 m2 Y w h g K hK hZ hY hap hr
  · exact floor_odd a n c m Z a2 n2 c2 m2 Y w h g K hK hZ hY hap hr
def RT(y:World)(k:Nat):Prop:=∃b t,Slot2 y k (.bool b) (.string t)
theorem RT.below{w w':World}{k:Nat}(h:RT w k)(hb:Below w.heap.size w w'):RT w' k:=by
 obtain⟨x,z,h1⟩:=h;exact⟨x,z,h1.below hb⟩
theorem RT.put2{w:World}{k:Nat}(h:RT w k)(b:Bool)(t:ByteArray):RT (put2 w k (.bool b) (.string t)) k:=by
 obtain⟨x,z,h1⟩:=h;exact⟨_,_,h1.put2s _ _⟩
theorem RT.putI{w:World}{k j:Nat}(h:RT w j)(e:j≠k)(a:Option Addr)(n c:Nat)(b:Bool):RT (putI w k a n c b) j:=by
 obtain⟨x,z,h1⟩:=h;exact⟨_,_,h1.put2o e _ _⟩
def LP(k0 k5 k7:Nat)(b:Bool)(d:ByteArray)(a:Option Addr)(n c N:Nat)(y:World):Prop:=RS y k0/\RT y (k0+1)/\Slot2 y k5 (.bool b) (.string d)/\Slot y k7 (.slice a n c)/\NatIs y (.agg #[.slice a n c]) N
theorem LP.stay{k0 k5 k7:Nat}{b:Bool}{d:ByteArray}{a:Option Addr}{n c N:Nat}:∀x y,Below x.heap.size x y->LP k0 k5 k7 b d a n c N x->LP k0 k5 k7 b d a n c N y :=
 fun _ _ hb h=>⟨h.1.below hb,h.2.1.below hb,h.2.2.1.below hb,h.2.2.2.1.below hb,h.2.2.2.2.below hb⟩
theorem Slot.put2o{w:World}{k j:Nat}{x:Value}(h:Slot w j x)(e:j≠k)(u v:Value):Slot (put2 w k u v) j x:=by
 refine⟨?_,by simp[put2,h.free],by simpa[put2]using h.lt⟩;unfold put2;rw[World.cell?_setCell_other _ _ _ _ (fun e'=>by cases e'<;>exact e rfl),World.cell?_setCell_other _ _ _ _ (fun e'=>by cases e'<;>exact e rfl)];exact h.cell
end Go.Proofs.YtdmmenaejkpnjaaGreatDoor
namespace Go.Proofs.YtdmmenaejkpnjaaGreatDoor
open Go.RowKit
theorem IntsAt.mk1 {w : World} {k : Nat} (hk : w.heap.size = k) {a : Option Addr} {n c : Nat} {m : Bool} {Z : Int} {t : TypeId} (h : IntAt (w.alloc (.cells #[.slice a n c, .bool m] t)) a n c m Z) :
    IntsAt (w.alloc (.cells #[.slice a n c,.bool m] t)) (some ⟨k,0,none⟩) 1 1 (fun _=>Z):=by
 subst hk;have hs:=Slot2.new w (.slice a n c) (.bool m) t;refine⟨Nat.le_refl _,by omega,.inr ⟨_,0,rfl,by rw[World.size_alloc];omega,fun j hj => ?_⟩⟩;obtain rfl:j=0:=by omega
 exact⟨a,n,c,m,hs.cell,hs.cell1,h⟩
theorem plus1_any (a : Option Addr) (n c : Nat) (m : Bool) (Z : Int) (sa : Option Addr) (Y : Int) (w : World) (h : IntAt w a n c m Z) (g : IntsAt w sa 1 1 (fun _ => Y)) (K : Nat) (hK : K <= 900000) (hZ : Z.natAbs + Y.natAbs < 4294967296 ^ K) :
    Calls Tryz.prog 228 #[.agg #[.slice a n c,.bool m],.slice sa 1 1] w fun e w'=>IntTold w w' e (Z+Y) :=
 plus_any a n c m Z sa 1 1 (fun _=>Y) w h g K hK (by simp[asum];exact hZ)
theorem times1_any (a : Option Addr) (n c : Nat) (m : Bool) (Z : Int) (sa : Option Addr) (Y : Int) (w : World) (h : IntAt w a n c m Z) (g : IntsAt w sa 1 1 (fun _ => Y)) (K : Nat) (hK : K <= 400000) (hZ : Z.natAbs < 4294967296 ^ K) (hY : Y.natAbs < 4294967296 ^ K) :
    Calls Tryz.prog 122 #[.agg #[.slice a n c,.bool m],.slice sa 1 1] w fun e w'=>IntTold w w' e (Z*Y) :=
 times_any a n c m Z sa 1 1 (fun _ => Y) w h g K hK (fun k hk => by obtain rfl : k = 0 := by omega
                                                                    exact⟨hZ,hY⟩)
theorem Below.step{w a b:World}(hb:Below a.heap.size a b)(h:Below w.heap.size w a):Below w.heap.size w b:=h.trans (hb.mono h.size)
theorem Below.more{w a:World}(h:Below w.heap.size w a)(o:Obj):Below w.heap.size w (a.alloc o):=h.alloc h.size o
theorem IntsAt.old1 {wk w : World} {k : Nat} {a : Option Addr} {n c : Nat} {m : Bool} {Z : Int} {t : TypeId} (hb : Below (wk.alloc (.cells #[.slice a n c, .bool m] t)).heap.size (wk.alloc (.cells #[.slice a n c, .bool m] t)) w)
    (hk:wk.heap.size=k) (h:IntAt w a n c m Z):IntsAt w (some ⟨k,0,none⟩) 1 1 (fun _=>Z):=by
 subst hk;have hs:=(Slot2.new wk (.slice a n c) (.bool m) t).below hb;refine⟨Nat.le_refl _,by omega,.inr ⟨_,0,rfl,hs.lt,fun j hj => ?_⟩⟩;obtain rfl:j=0:=by omega
 exact⟨a,n,c,m,hs.cell,hs.cell1,h⟩
end Go.Proofs.YtdmmenaejkpnjaaGreatDoor
