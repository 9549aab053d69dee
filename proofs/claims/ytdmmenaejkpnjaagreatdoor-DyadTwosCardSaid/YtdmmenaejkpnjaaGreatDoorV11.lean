/-
  Texts of this seat, laid together.
-/
import Derived.Laws.StructEq
import Derived.Test.YtdmmenaejkpnjaaGreatDoorV7
set_option maxHeartbeats 12800000
set_option maxRecDepth 100000
set_option linter.unusedSimpArgs false
set_option linter.unusedVariables false
namespace Go.Proofs.YtdmmenaejkpnjaaGreatDoor
open Go.RowKit
def eus(A B:Nat):Nat:=if h:B=0 then 0 else eus B (A%B)+1
termination_by B
decreasing_by exact Nat.mod_lt _ (Nat.pos_of_ne_zero h)
theorem eus_zero(A:Nat):eus A 0=0:=by unfold eus;rw[dif_pos rfl]
theorem eus_step(A:Nat){B:Nat}(h:B≠0):eus A B=eus B (A%B)+1:=by rw[eus,dif_neg h]
theorem eus_le:∀k A B,B<2^k->eus A B<=2*k+1:=by
 intro k
 induction k with
 | zero =>
  intro A B h;obtain rfl:B=0:=by simpa using h
  rw[eus_zero];omega
 | succ k ih =>
  intro A B h
  by_cases h0:B=0
  · subst h0;rw[eus_zero];omega
  · rw[eus_step A h0];have h1:=Nat.mod_lt A (Nat.pos_of_ne_zero h0);obtain⟨C,hC⟩:∃C,A%B=C:=⟨_,rfl⟩
    rw[hC]at h1 ⊢
    by_cases hc0:C=0
    · subst hc0;rw[eus_zero];omega
    · rw[eus_step B hc0];have h2:=Nat.mod_lt B (Nat.pos_of_ne_zero hc0);have h3:=Nat.div_add_mod B C;have h4:1<=B / C:=Nat.div_pos (by omega) (Nat.pos_of_ne_zero hc0);have h5:C*1<=C*(B / C):=Nat.mul_le_mul_left _ h4;have h6:B%C<2^k:=by rw[Nat.pow_succ]at h;omega
      have:=ih C (B%C) h6
      omega
theorem gcd_step(A B:Nat):Nat.gcd B (A%B)=Nat.gcd A B:=by
 rw[Nat.gcd_comm A B,Nat.gcd_rec B A,Nat.gcd_comm]
theorem dec_isnt0(N:Nat):((str (dec N)).toList == [48])=decide (N=0):=by
 have e:(str (dec N)).toList=dec N:=by rw[ByteArray.toList_eq];rfl
 rw[e,Bool.eq_iff_iff,beq_iff_eq,decide_eq_true_eq]
 constructor
 · intro h;have:=congrArg numOf h;unfold dec at this;rw[numOf_sdig,Nat.mod_eq_of_lt (dl_lt N)]at this
   simpa[numOf]using this
 · intro h;rw[h,dec_zero]
theorem dl_mod{A B:Nat}(h:0<B):dl (A%B)<=dl B:=dl_le _ _ (dl_pos B) (Nat.lt_trans (Nat.mod_lt _ h) (dl_lt B))
theorem rgcd_any (x y : Nat) (w : World) (hx : dl x <= 900) (hy : dl y <= 900) (k0 : Nat) (hk0 : k0 <= 4000) (hy2 : y < 2 ^ k0) :
    Calls Tryz.prog 112 #[.string (str (dec x)),.string (str (dec y))] w fun e w'=>e=.returned (.string (str (dec (Nat.gcd x y))))/\Below w.heap.size w w':=by
 have hst:0+eus x y<=10000:=by have:=eus_le k0 x y hy2;omega
 obtain⟨a0,ha0⟩:∃a0,str (dec x)=a0:=⟨_,rfl⟩
 obtain⟨b0,hb0⟩:∃b0,str (dec y)=b0:=⟨_,rfl⟩
 rw[ha0,hb0];have H0:Hid (a0=str (dec x)/\b0=str (dec y)/\dl x<=900/\dl y<=900/\0+eus x y<=10000):=⟨ha0.symm,hb0.symm,hx,hy,hst⟩
 clear hst ha0 hb0 hx hy hy2 hk0;go_enter Tryz.func112,Tryz.ntmps112;go_wp2
 go_loopw [0,1,5] (fun a b i wr=>∃(k A B:Nat) (s t:ByteArray),a=.string s/\b=.string t/\i=.int .i64 k/\k<=10000/\Hid (s=str (dec A)/\t=str (dec B)/\dl A<=900/\dl B<=900/\k+eus A B<=10000/\Nat.gcd A B=Nat.gcd x y)/\Below w.heap.size w wr)
  (fun _ _ i _=>20000-(intOf i).toNat)
 case atStart=>exact⟨0,x,y,_,_,rfl,rfl,rfl,by omega,⟨H0.out.1,H0.out.2.1,H0.out.2.2.1,H0.out.2.2.2.1,H0.out.2.2.2.2,rfl⟩,Below.refl _ _⟩
 case round =>
  obtain⟨k,A,B,s,t,rfl,rfl,rfl,hk,hr,hbl⟩:=hrel;have hz:=dec_isnt0 B;rw[← hr.out.2.1]at hz;have d1:decide ((k:Int)<20000)=true:=decide_eq_true (by omega)
  by_cases h0:B=0
  · rw[decide_eq_true h0]at hz
    have HE:Hid (s=str (dec (Nat.gcd x y))):=by
     show _=_
     rw[hr.out.1,← hr.out.2.2.2.2.2,h0,Nat.gcd_zero_right]
    have HBL:=Lib.hid hbl;clear hr hbl h0;go_wp2;go_ret;exact⟨ret_str HE.out,HBL.out⟩
  · rw[decide_eq_false h0]at hz;have hB0:0<B:=Nat.pos_of_ne_zero h0;have DM:=fun wz=>rdivMod_any A B wz hr.out.2.2.1 hr.out.2.2.2.1 hB0
    rw[← hr.out.1,← hr.out.2.1]at DM;obtain⟨u,hu⟩:∃u,str (dec (A / B))=u:=⟨_,rfl⟩
    obtain⟨v,hv⟩:∃v,str (dec (A%B))=v:=⟨_,rfl⟩
    rw[hu,hv]at DM;have hes:=eus_step A h0;have hkk:k+1<=10000:=by have:=hr.out.2.2.2.2.1;omega
    have HN:Hid (t=str (dec B)/\v=str (dec (A%B))/\dl B<=900/\dl (A%B)<=900/\(k+1)+eus B (A%B)<=10000/\Nat.gcd B (A%B)=Nat.gcd x y) :=
     ⟨hr.out.2.1,hv.symm,hr.out.2.2.2.1,Nat.le_trans (dl_mod hB0) hr.out.2.2.2.1,by have:=hr.out.2.2.2.2.1;omega,by rw[gcd_step];exact hr.out.2.2.2.2.2⟩
    have HD:=Lib.hid DM;have HBL:=Lib.hid hbl;clear DM hu hv hes hr hbl h0 hB0;go_wp2_with fail;go_at_call 164;refine(HD.out _).mono ?_;rintro e w2 ⟨rfl,hb2⟩;have HB2:=Lib.hid (HBL.out.trans (hb2.mono HBL.out.size));clear hb2;go_wp2
    go_roundw
    case rel=>exact⟨k+1,B,A%B,_,_,rfl,rfl,by go_num,hkk,HN.out,HB2.out⟩
    case measure=>simp[intOf];omega
end Go.Proofs.YtdmmenaejkpnjaaGreatDoor
namespace Go.Proofs.YtdmmenaejkpnjaaGreatDoor
open Go.RowKit
attribute [local go_sem ↓] Go.wp_at_zero Go.wp_at_succ
def NumTold3(w w':World)(e:Ending)(P:Int)(Q:Nat)(ok:Bool):Prop:=e=.returned (.tuple #[.agg #[.bool (rB P),.string (rS P),.string (str (dec Q))],.bool ok])/\Below w.heap.size w w'
theorem dec0:str (dec 0)=⟨#[48]⟩:=by rw[dec_small (by omega)];rfl
theorem dec1:str (dec 1)=⟨#[49]⟩:=by rw[dec_small (by omega)];rfl
theorem r3Zero_any(w:World):Calls Tryz.prog 64 #[] w fun e w'=>NumTold w w' e 0 1:=by
 have B0:=(Bag.start w).alloc (.cells #[.bool false,.string ⟨#[48]⟩,.string ⟨#[49]⟩] 46);have HE:Hid (NumTold w (w.alloc (.cells #[.bool false,.string ⟨#[48]⟩,.string ⟨#[49]⟩] 46)) (.returned (.agg #[.bool false,.string ⟨#[48]⟩,.string ⟨#[49]⟩])) 0 1):=⟨by rw[show rB 0=false from rfl,show rS 0=str (dec 0)from rfl,dec0,dec1],B0.below⟩
 go_enter Tryz.func64,Tryz.ntmps64;go_wp2;exact bodyPost_ret (v:=.agg #[.bool false,.string ⟨#[48]⟩,.string ⟨#[49]⟩]) (by simp[results,Tryz.results64,go_sem]) rfl HE.out
theorem r3Whole_any(Z:Int)(w:World):Calls Tryz.prog 151 #[.agg #[.bool (rB Z),.string (rS Z)]] w fun e w'=>NumTold w w' e Z 1:=by
 have B0:=((Bag.start w).alloc (.cells #[.bool (rB Z),.string (rS Z)] 159)).alloc (.cells #[.bool (rB Z),.string (rS Z),.string ⟨#[49]⟩] 46);have HE:Hid (NumTold w ((w.alloc (.cells #[.bool (rB Z),.string (rS Z)] 159)).alloc (.cells #[.bool (rB Z),.string (rS Z),.string ⟨#[49]⟩] 46)) (.returned (.agg #[.bool (rB Z),.string (rS Z),.string ⟨#[49]⟩])) Z 1):=⟨by rw[dec1],B0.below⟩
 generalize rB Z=b at *;generalize rS Z=s at *;clear B0;go_enter Tryz.func151,Tryz.ntmps151;go_wp2;exact bodyPost_ret (v:=.agg #[.bool b,.string s,.string ⟨#[49]⟩]) (by simp[results,Tryz.results151,go_sem]) rfl HE.out
theorem r3Top_any(P:Int)(t:ByteArray)(w:World)(hl:dl P.natAbs<=10000000):Calls Tryz.prog 129 #[.agg #[.bool (rB P),.string (rS P),.string t]] w fun e w'=>RTold w w' e P:=by
 have B0:=((Bag.start w).box3 (.bool (rB P)) (.string (rS P)) (.string t) 46).box2 (.bool false) (.string ⟨#[]⟩) 159;simp only[World.size_alloc]at B0
 have OF:Hid (∀wz,Calls Tryz.prog 189 #[.bool (rB P),.string (rS P)] wz fun e w'=>RTold wz w' e P):=by
  intro wz;have h1:=rOf_dec (rB P) P.natAbs wz hl;rw[show sgn (rB P) P.natAbs=P from sgn_self P]at h1;exact h1
 have BB:=Lib.hid B0;have HF:=Lib.hid (fun w2 b s (hb:Below w.heap.size w w2) (h1:rB P=b) (h2:rS P=s)=>RTold.fin (Y:=P) hb (show w.heap.size<=w.heap.size+1 by omega) h1 h2);obtain⟨b,hb⟩:∃b,rB P=b:=⟨_,rfl⟩
 obtain⟨s,hs⟩:∃s,rS P=s:=⟨_,rfl⟩
 have HB:=Lib.hid hb;have HS2:=Lib.hid hs;unfold RTold at OF;rw[hb,hs]at OF BB;rw[hb,hs];clear B0 hl hb hs;go_enter Tryz.func129,Tryz.ntmps129;go_wp2_with fail;go_at_call 189;refine(OF.out _).mono ?_;rintro e w2 ⟨rfl,hb2⟩;have BB:=bgo BB hb2;have hs2:=BB.out.now.1;have hc1:=hs2.cell;have hc2:=hs2.cell1;have hf1:=hs2.free;have hf2:=hs2.free1;have HS:=hs2.set (.bool b) (.string s);have HE:=Lib.hid (HF.out w2 b s BB.out.below HB.out HS2.out);unfold put2 at HE;clear hb2 hs2;go_wp2;exact bodyPost_ret (by simp[results,Tryz.results129,go_sem,HS]) rfl HE.out
theorem rB_nat(Q:Nat):rB (Q:Int)=false:=by unfold rB;exact decide_eq_false (by omega)
theorem rS_nat(Q:Nat):rS (Q:Int)=str (dec Q):=by unfold rS;rw[Int.natAbs_natCast]
theorem r3Bot_any(b:Bool)(s:ByteArray)(Q:Nat)(w:World)(hl:dl Q<=10000000):Calls Tryz.prog 130 #[.agg #[.bool b,.string s,.string (str (dec Q))]] w fun e w'=>RTold w w' e (Q:Int):=by
 have B0:=((Bag.start w).box3 (.bool b) (.string s) (.string (str (dec Q))) 46).box2 (.bool false) (.string ⟨#[]⟩) 159;simp only[World.size_alloc]at B0
 have OF:Hid (∀wz,Calls Tryz.prog 189 #[.bool false,.string (str (dec Q))] wz fun e w'=>RTold wz w' e (Q:Int)):=by
  intro wz;have h1:=rOf_dec false Q wz hl;rw[show sgn false Q=(Q:Int)from rfl]at h1;exact h1
 have BB:=Lib.hid B0;have HF:=Lib.hid (fun w2 b s (hb:Below w.heap.size w w2) (h1:rB (Q:Int)=b) (h2:rS (Q:Int)=s)=>RTold.fin (Y:=Q) hb (show w.heap.size<=w.heap.size+1 by omega) h1 h2);unfold RTold at OF;rw[rB_nat,rS_nat]at OF;rw[rB_nat,rS_nat]at HF;generalize str (dec Q)=t at *;clear B0 hl;go_enter Tryz.func130,Tryz.ntmps130;go_wp2_with fail;go_at_call 189;refine(OF.out _).mono ?_;rintro e w2 ⟨rfl,hb2⟩;have BB:=bgo BB hb2;have hs2:=BB.out.now.1;have hc1:=hs2.cell;have hc2:=hs2.cell1;have hf1:=hs2.free;have hf2:=hs2.free1;have HS:=hs2.set (.bool false) (.string t);have HE:=Lib.hid (HF.out w2 false t BB.out.below rfl rfl);unfold put2 at HE;clear hb2 hs2;go_wp2;exact bodyPost_ret (by simp[results,Tryz.results130,go_sem,HS]) rfl HE.out
theorem r3New_zero(Z:Int)(w:World):Calls Tryz.prog 192 #[.agg #[.bool (rB Z),.string (rS Z)],.agg #[.bool (rB 0),.string (rS 0)]] w fun e w'=>NumTold3 w w' e 0 1 false:=by
 have h0:=rS_is0 0;rw[decide_eq_true rfl]at h0;have ZE:=Lib.hid (fun wz=>r3Zero_any wz);have HF:Hid (rB (0:Int)=false/\rS (0:Int)=⟨#[48]⟩/\str (dec 1)=⟨#[49]⟩):=⟨rfl,dec0,dec1⟩
 unfold NumTold at ZE;rw[HF.out.1,HF.out.2.1,HF.out.2.2]at ZE;rw[HF.out.2.1]at h0;have BB:=Lib.hid (((Bag.start w).box2 (.bool (rB Z)) (.string (rS Z)) 159).box2 (.bool (rB 0)) (.string (rS 0)) 159 |>.box3 (.bool false) (.string ⟨#[]⟩) (.string ⟨#[]⟩) 46);simp only[World.size_alloc]at BB;rw[HF.out.1,HF.out.2.1]at BB ⊢;generalize rB Z=b at *;generalize rS Z=s at *;go_enter Tryz.func192,Tryz.ntmps192;go_wp2_with fail;go_at_call 64;refine(ZE.out _).mono ?_;rintro e w2 ⟨rfl,hb2⟩;have BB:=bgo BB hb2;have hs:=BB.out.now.1;have⟨u0,u1,u2,g0,g1,g2⟩:=hs.s6;have HS:=hs.set (.bool false) (.string ⟨#[48]⟩) (.string ⟨#[49]⟩)
 have HE:Hid (NumTold3 w (((w2.setCell ⟨w.heap.size+1+1,0,none⟩ (.bool false)).setCell ⟨w.heap.size+1+1,1,none⟩ (.string ⟨#[48]⟩)).setCell ⟨w.heap.size+1+1,2,none⟩ (.string ⟨#[49]⟩)) (.returned (.tuple #[.agg #[.bool false,.string ⟨#[48]⟩,.string ⟨#[49]⟩],.bool false])) 0 1 false) :=
  ⟨by rw[HF.out.1,HF.out.2.1,HF.out.2.2],((BB.out.below.setCell (p:=⟨w.heap.size+1+1,0,none⟩) (show w.heap.size<=w.heap.size+1+1 by omega) _).setCell (p:=⟨w.heap.size+1+1,1,none⟩) (show w.heap.size<=w.heap.size+1+1 by omega) _).setCell (p:=⟨w.heap.size+1+1,2,none⟩) (show w.heap.size<=w.heap.size+1+1 by omega) _⟩
 clear hs hb2;go_wp2;exact bodyPost_ret (by simp[results,Tryz.results192,go_sem,HS]) rfl HE.out
theorem nw_abs(Z Y:Int):(nwP Z Y).natAbs=Z.natAbs / Nat.gcd Z.natAbs Y.natAbs/\nwQ Z Y=Y.natAbs / Nat.gcd Z.natAbs Y.natAbs:=by
 unfold nwP nwQ loQ rg;rw[loP_abs];unfold rg;rw[upZ_abs];exact⟨rfl,rfl⟩
theorem nw_sgn(Z:Int){Y:Int}:rB (nwP Z Y)=((rB Z != rB Y) && !decide (Z=0)):=by
 unfold nwP rB;rw[loP_neg,upZ_sgn]
theorem r3New_some (Z Y : Int) (w : World) (hY : Y ≠ 0) (hl : dl Z.natAbs <= 900) (hl2 : dl Y.natAbs <= 900) :
    Calls Tryz.prog 192 #[.agg #[.bool (rB Z),.string (rS Z)],.agg #[.bool (rB Y),.string (rS Y)]] w fun e w'=>NumTold3 w w' e (nwP Z Y) (nwQ Z Y) true:=by
 have h0:=rS_is0 Y;rw[decide_eq_false hY]at h0;have hg0:0<Nat.gcd Z.natAbs Y.natAbs:=Nat.gcd_pos_of_pos_right _ (by omega);have hgl:dl (Nat.gcd Z.natAbs Y.natAbs)<=900:=Nat.le_trans (dl_mono (Nat.gcd_le_right _ (by omega))) hl2
 have GC:Hid (∀wz,Calls Tryz.prog 112 #[.string (rS Z),.string (rS Y)] wz fun e w'=>e=.returned (.string (str (dec (Nat.gcd Z.natAbs Y.natAbs))))/\Below wz.heap.size wz w'):=fun wz =>
  rgcd_any Z.natAbs Y.natAbs wz hl hl2 (4*900) (by omega) (Nat.lt_of_lt_of_le (Nat.lt_of_lt_of_le (dl_lt _) (Nat.pow_le_pow_right (by omega) hl2)) (ten_two 900))
 have D1:Hid (∀wz,Calls Tryz.prog 164 #[.string (rS Z),.string (str (dec (Nat.gcd Z.natAbs Y.natAbs)))] wz fun e w'=>e=.returned (.tuple #[.string (rS (nwP Z Y)),.string (str (dec (Z.natAbs%Nat.gcd Z.natAbs Y.natAbs)))])/\Below wz.heap.size wz w'):=fun wz=>by
  have:=rdivMod_any Z.natAbs (Nat.gcd Z.natAbs Y.natAbs) wz hl hgl hg0;rw[← (nw_abs Z Y).1]at this;exact this
 have D2:Hid (∀wz,Calls Tryz.prog 164 #[.string (rS Y),.string (str (dec (Nat.gcd Z.natAbs Y.natAbs)))] wz fun e w'=>e=.returned (.tuple #[.string (str (dec (nwQ Z Y))),.string (str (dec (Y.natAbs%Nat.gcd Z.natAbs Y.natAbs)))])/\Below wz.heap.size wz w'):=fun wz=>by
  have:=rdivMod_any Y.natAbs (Nat.gcd Z.natAbs Y.natAbs) wz hl2 hgl hg0;rw[← (nw_abs Z Y).2]at this;exact this
 have hx0:((rS (nwP Z Y)).toList == [48])=decide (Z=0):=by
  rw[rS_is0,Bool.eq_iff_iff,decide_eq_true_eq,decide_eq_true_eq];unfold nwP;rw[loP_zero];unfold upZ
  split<;>omega
 have HS0:=Lib.hid (nw_sgn Z (Y:=Y));have BB:=Lib.hid (((Bag.start w).box2 (.bool (rB Z)) (.string (rS Z)) 159).box2 (.bool (rB Y)) (.string (rS Y)) 159 |>.box3 (.bool false) (.string ⟨#[]⟩) (.string ⟨#[]⟩) 46);simp only[World.size_alloc]at BB
 have HF:=Lib.hid (fun w2 b x y (hb:Below w.heap.size w w2) (h1:rB (nwP Z Y)=b) (h2:rS (nwP Z Y)=x) (h3:str (dec (nwQ Z Y))=y)=>(show NumTold3 w (((w2.setCell ⟨w.heap.size+1+1,0,none⟩ (.bool b)).setCell ⟨w.heap.size+1+1,1,none⟩ (.string x)).setCell ⟨w.heap.size+1+1,2,none⟩ (.string y)) (.returned (.tuple #[.agg #[.bool b,.string x,.string y],.bool true])) (nwP Z Y) (nwQ Z Y) true from
  ⟨by rw[h1,h2,h3],((hb.setCell (p:=⟨w.heap.size+1+1,0,none⟩) (show w.heap.size<=w.heap.size+1+1 by omega) _).setCell (p:=⟨w.heap.size+1+1,1,none⟩) (show w.heap.size<=w.heap.size+1+1 by omega) _).setCell (p:=⟨w.heap.size+1+1,2,none⟩) (show w.heap.size<=w.heap.size+1+1 by omega) _⟩))
 obtain⟨x,hx⟩:∃x,rS (nwP Z Y)=x:=⟨_,rfl⟩
 obtain⟨y,hy⟩:∃y,str (dec (nwQ Z Y))=y:=⟨_,rfl⟩
 have HX:=Lib.hid hx;have HY:=Lib.hid hy;rw[hx]at D1 hx0;rw[hy]at D2;obtain⟨z,hz⟩:∃z,decide (Z=0)=z:=⟨_,rfl⟩
 have HS1:Hid (rB (nwP Z Y)=((rB Z != rB Y) && !z)):=by show _=_;rw[← hz];exact HS0.out
 rw[hz]at hx0;generalize rS Z=s at *;generalize rS Y=t at *;generalize str (dec (Nat.gcd Z.natAbs Y.natAbs))=g at *;generalize str (dec (Z.natAbs%Nat.gcd Z.natAbs Y.natAbs))=r1 at *;generalize str (dec (Y.natAbs%Nat.gcd Z.natAbs Y.natAbs))=r2 at *;generalize rB Z=b at *;generalize rB Y=b2 at *;clear hx hy hz hg0 hgl hl hl2 hY HS0;have q0:=BB.out.now.2.2.1.cell;have q1:=BB.out.now.2.2.1.cell1;have p0:=BB.out.now.2.1.cell;have p1:=BB.out.now.2.1.cell1
 cases b<;>cases b2<;>cases z
 all_goals
  go_enter Tryz.func192,Tryz.ntmps192
  go_wp2_with (first
   | (go_at_call 112;(with_reducible refine(GC.out _).mono ?_);rintro e w2 ⟨rfl,hb2⟩;have BB:=Lib.hid (BB.out.go hb2);clear hb2;have q0:=BB.out.now.2.2.1.cell;have q1:=BB.out.now.2.2.1.cell1;have p0:=BB.out.now.2.1.cell;have p1:=BB.out.now.2.1.cell1)
   | (go_at_call 164;(with_reducible refine(D1.out _).mono ?_);rintro e w3 ⟨rfl,hb3⟩;have BB:=Lib.hid (BB.out.go hb3);clear hb3;have q0:=BB.out.now.2.2.1.cell;have q1:=BB.out.now.2.2.1.cell1;have p0:=BB.out.now.2.1.cell;have p1:=BB.out.now.2.1.cell1)
   | (go_at_call 164;(with_reducible refine(D2.out _).mono ?_);rintro e w4 ⟨rfl,hb4⟩;have BB:=Lib.hid (BB.out.go hb4);clear hb4;have q0:=BB.out.now.2.2.1.cell;have q1:=BB.out.now.2.2.1.cell1;have p0:=BB.out.now.2.1.cell;have p1:=BB.out.now.2.1.cell1;have hs:=BB.out.now.1;have u0:=hs.cell;have u1:=hs.cell1;have u2:=hs.cell2;have g0:=hs.free;have g1:=hs.free1;have g2:=hs.free2))
  first
      | (have HS := BB.out.now.1.set (.bool false) (.string x) (.string y)
         have HE:=Lib.hid (HF.out _ false x y BB.out.below HS1.out HX.out HY.out)
         exact bodyPost_ret (v:=.tuple #[.agg #[.bool false,.string x,.string y],.bool true]) (by simp[results,Tryz.results192,go_sem,HS]) rfl HE.out)
      | (have HS := BB.out.now.1.set (.bool true) (.string x) (.string y)
         have HE:=Lib.hid (HF.out _ true x y BB.out.below HS1.out HX.out HY.out)
         exact bodyPost_ret (v:=.tuple #[.agg #[.bool true,.string x,.string y],.bool true]) (by simp[results,Tryz.results192,go_sem,HS]) rfl HE.out)
theorem dec_is1(N:Nat):((str (dec N)).toList == [49])=decide (N=1):=dec_eq_digit N 1 (by omega)
theorem dec_is0'(N:Nat):((str (dec N)).toList == [48])=decide (N=0):=dec_eq_digit N 0 (by omega)
theorem r3From_any(X:Int)(w:World)(h : -9223372036854775808<=X/\X<=9223372036854775807):Calls Tryz.prog 57 #[.int .i64 X] w fun e w'=>NumTold w w' e X 1:=by
 have FR:=Lib.hid (fun wz=>rFrom_any X wz h);unfold RTold at FR;have BB:=Lib.hid ((Bag.start w).box3 (.bool false) (.string ⟨#[]⟩) (.string ⟨#[]⟩) 46);have HF:=Lib.hid (fun w2 b x y (hb:Below w.heap.size w w2) (h1:rB X=b) (h2:rS X=x) (h3:str (dec 1)=y)=>NumTold.done (k:=w.heap.size) X 1 hb (Nat.le_refl _) h1 h2 h3);obtain⟨b,hb⟩:∃b,rB X=b:=⟨_,rfl⟩
 obtain⟨s,hs⟩:∃s,rS X=s:=⟨_,rfl⟩
 have HB:=Lib.hid hb;have HS2:=Lib.hid hs;rw[hb,hs]at FR;clear hb hs h;go_enter Tryz.func57,Tryz.ntmps57;go_wp2_with fail;go_at_call 119;refine(FR.out _).mono ?_;rintro e w2 ⟨rfl,hb2⟩;have BB:=Lib.hid ((BB.out.go hb2).box2 (.bool b) (.string s) 159);have q0:=BB.out.now.1.cell;have q1:=BB.out.now.1.cell1;have hs:=BB.out.now.2.1;have⟨u0,u1,u2,g0,g1,g2⟩:=hs.s6;have HS:=hs.set (.bool b) (.string s) (.string ⟨#[49]⟩);have HE:=Lib.hid (HF.out _ b s ⟨#[49]⟩ BB.out.below HB.out HS2.out dec1);clear hs hb2;go_wp2;exact bodyPost_ret (by simp[results,Tryz.results57,go_sem,HS]) rfl HE.out
theorem r3Limited_any(b:Bool)(P:Int)(Q:Nat)(w:World):Calls Tryz.prog 194 #[.agg #[.bool b,.string (rS P),.string (str (dec Q))]] w fun e w'=>e=.returned (.bool (decide (Q=1)&&(decide (P.natAbs=0)||decide (P.natAbs=1))))/\Below w.heap.size w w':=by
 have h1:=dec_is1 Q;have h2:=dec_is0' P.natAbs;have h3:=dec_is1 P.natAbs;have BB:=Lib.hid ((Bag.start w).box3 (.bool b) (.string (rS P)) (.string (str (dec Q))) 46);unfold rS at *;generalize str (dec P.natAbs)=s at *;generalize str (dec Q)=t at *;generalize decide (Q=1)=x at *;generalize decide (P.natAbs=0)=y at *;generalize decide (P.natAbs=1)=z at *
 cases x<;>cases y<;>cases z
 all_goals
  go_enter Tryz.func194,Tryz.ntmps194;go_wp2;go_ret;exact⟨rfl,BB.out.below⟩
theorem r3Minus_any(P:Int)(Q:Nat)(w:World):Calls Tryz.prog 133 #[.agg #[.bool (rB P),.string (rS P),.string (str (dec Q))]] w fun e w'=>NumTold w w' e (-P) Q:=by
 have h2:=rS_is0 P;have BB:=Lib.hid (((Bag.start w).box3 (.bool (rB P)) (.string (rS P)) (.string (str (dec Q))) 46).box3 (.bool false) (.string ⟨#[]⟩) (.string ⟨#[]⟩) 46);simp only[World.size_alloc]at BB
 have hn:rB (-P)=(!rB P && !decide (P=0)):=by
  unfold rB
  by_cases e1:P<0
  · rw[decide_eq_false (by omega),decide_eq_true e1];rfl
  · rw[decide_eq_false e1]
    by_cases e2:P=0
    · rw[decide_eq_false (by omega),decide_eq_true e2];rfl
    · rw[decide_eq_true (by omega),decide_eq_false e2];rfl
 have hs:rS (-P)=rS P:=by unfold rS;rw[Int.natAbs_neg]
 have HF2:=Lib.hid (fun V (hv:(!rB P && !decide (P=0))=V)=>(show NumTold w ((w.alloc (.cells #[.bool V,.string (rS P),.string (str (dec Q))] 46)).alloc (.cells #[.bool V,.string (rS P),.string (str (dec Q))] 46)) (.returned (.agg #[.bool V,.string (rS P),.string (str (dec Q))])) (-P) Q from
  ⟨by rw[hn,hs,hv],((Bag.start w).alloc _).alloc _ |>.below⟩))
 generalize rS P=s at *;generalize str (dec Q)=t at *;generalize rB P=b at *;generalize decide (P=0)=z at *;have⟨q0,q1,q2⟩:=BB.out.now.2.1.c3;clear hn hs
 cases b<;>cases z
 all_goals
  go_enter Tryz.func133,Tryz.ntmps133;go_wp2
  first
   | exact bodyPost_ret (v:=.agg #[.bool true,.string s,.string t]) (by simp[results,Tryz.results133,go_sem]) rfl (HF2.out true rfl)
   | exact bodyPost_ret (v:=.agg #[.bool false,.string s,.string t]) (by simp[results,Tryz.results133,go_sem]) rfl (HF2.out false rfl)
theorem r3Limbs_any (b : Bool) (P : Int) (Q E : Nat) (w : World) (hl : dl P.natAbs <= 1000) (hl2 : dl Q <= 1000) (hE : E <= 200) (h1 : P.natAbs < 65536 ^ E) (h2 : Q < 65536 ^ E) :
    Calls Tryz.prog 70 #[.agg #[.bool b,.string (rS P),.string (str (dec Q))]] w fun e w'=>e=.returned (.int .i64 (max ((nbits P.natAbs+31) / 32:Nat) ((nbits Q+31) / 32:Nat):Nat))/\Below w.heap.size w w':=by
 have L1:=Lib.hid (fun wz=>rlimbs_any P.natAbs E wz hl hE h1);have L2:=Lib.hid (fun wz=>rlimbs_any Q E wz hl2 hE h2);have BB:=Lib.hid ((Bag.start w).box3 (.bool b) (.string (rS P)) (.string (str (dec Q))) 46);unfold rS at *;generalize str (dec P.natAbs)=s at *;generalize str (dec Q)=t at *;generalize (nbits P.natAbs+31) / 32=x at *;generalize (nbits Q+31) / 32=y at *;have⟨q0,q1,q2⟩:=BB.out.now.1.c3;clear hl hl2 hE h1 h2
 by_cases hxy:y<x
 · have hxy2 : (y : Int) < (x : Int) := by omega
   rw[show max x y=x by omega];go_enter Tryz.func70,Tryz.ntmps70;go_wp2_with fail;have BB:=Lib.hid BB.out.drew
   go_region_held3 (fun y => y.cell? ⟨w.heap.size, 0, none⟩ = some (.bool b) /\ y.cell? ⟨w.heap.size, 1, none⟩ = some (.string s) /\ y.cell? ⟨w.heap.size, 2, none⟩ = some (.string t))
    (exact⟨BB.out.now.1.cell,BB.out.now.1.cell1,BB.out.now.1.cell2⟩)
    (first
      | (go_at_call 139;(with_reducible refine(L1.out _).mono ?_);rintro e w2 ⟨rfl,hb2⟩;have BB:=Lib.hid (BB.out.go hb2))
      | (go_at_call 139;(with_reducible refine(L2.out _).mono ?_);rintro e w3 ⟨rfl,hb3⟩;have BB:=Lib.hid (BB.out.go hb3)))
   go_wp2;go_ret;exact⟨rfl,BB.out.below⟩
 · have hxy2 : ¬ (y : Int) < (x : Int) := by omega
   rw[show max x y=y by omega];go_enter Tryz.func70,Tryz.ntmps70;go_wp2_with fail;have BB:=Lib.hid BB.out.drew
   go_region_held3 (fun y => y.cell? ⟨w.heap.size, 0, none⟩ = some (.bool b) /\ y.cell? ⟨w.heap.size, 1, none⟩ = some (.string s) /\ y.cell? ⟨w.heap.size, 2, none⟩ = some (.string t))
    (exact⟨BB.out.now.1.cell,BB.out.now.1.cell1,BB.out.now.1.cell2⟩)
    (first
      | (go_at_call 139;(with_reducible refine(L1.out _).mono ?_);rintro e w2 ⟨rfl,hb2⟩;have BB:=Lib.hid (BB.out.go hb2))
      | (go_at_call 139;(with_reducible refine(L2.out _).mono ?_);rintro e w3 ⟨rfl,hb3⟩;have BB:=Lib.hid (BB.out.go hb3)))
   go_wp2;go_ret;exact⟨rfl,BB.out.below⟩
theorem dl_mul4{x y:Nat}(h:dl x<=400)(g:dl y<=400):dl (x*y)<=800:=by
 obtain⟨K,hK⟩:∃K,K=400:=⟨_,rfl⟩
 refine Nat.le_trans (dl_le _ (K+K) (by omega) ?_) (by omega);rw[Nat.pow_add];exact Nat.mul_lt_mul'' (Nat.lt_of_lt_of_le (dl_lt x) (Nat.pow_le_pow_right (by omega) (by omega))) (Nat.lt_of_lt_of_le (dl_lt y) (Nat.pow_le_pow_right (by omega) (by omega)))
theorem dl_mulZ{Z:Int}{y:Nat}(h:dl Z.natAbs<=400)(g:dl y<=400):dl (Z*(y:Int)).natAbs<=800:=by rw[Int.natAbs_mul,Int.natAbs_natCast];exact dl_mul4 h g
theorem dl_mulY{Z:Int}{y:Nat}(h:dl Z.natAbs<=400)(g:dl y<=400):dl ((y:Int)*Z).natAbs<=800:=by rw[Int.mul_comm];exact dl_mulZ h g
theorem r3Div_walk (P : Int) (Q : Nat) (P' : Int) (Q' : Nat) (w : World) (h1 : dl P.natAbs <= 400) (h2 : dl Q <= 400) (h3 : dl P'.natAbs <= 400) (h4 : dl Q' <= 400) (X1 : Int) (X2 : Nat) (ok : Bool)
    (NW:Hid (∀wz,Calls Tryz.prog 192 #[.agg #[.bool (rB (P*Q')),.string (rS (P*Q'))],.agg #[.bool (rB ((Q:Int)*P')),.string (rS ((Q:Int)*P'))]] wz fun e w'=>NumTold3 wz w' e X1 X2 ok)) :
    Calls Tryz.prog 135 #[.agg #[.bool (rB P),.string (rS P),.string (str (dec Q))],.agg #[.bool (rB P'),.string (rS P'),.string (str (dec Q'))]] w fun e w'=>NumTold3 w w' e X1 X2 ok:=by
 have BB:=Lib.hid (((Bag.start w).box3 (.bool (rB P)) (.string (rS P)) (.string (str (dec Q))) 46).box3 (.bool (rB P')) (.string (rS P')) (.string (str (dec Q'))) 46 |>.box3 (.bool false) (.string ⟨#[]⟩) (.string ⟨#[]⟩) 46 |>.drew);simp only[World.size_alloc]at BB;have TA:Hid (∀wz,Calls Tryz.prog 129 #[.agg #[.bool (rB P),.string (rS P),.string (str (dec Q))]] wz fun e w'=>RTold wz w' e P):=fun wz=>r3Top_any P _ wz (by omega)
 have TB:Hid (∀wz,Calls Tryz.prog 129 #[.agg #[.bool (rB P'),.string (rS P'),.string (str (dec Q'))]] wz fun e w'=>RTold wz w' e P'):=fun wz=>r3Top_any P' _ wz (by omega)
 have BA:Hid (∀wz,Calls Tryz.prog 130 #[.agg #[.bool (rB P),.string (rS P),.string (str (dec Q))]] wz fun e w'=>RTold wz w' e (Q:Int)):=fun wz=>r3Bot_any _ _ Q wz (by omega)
 have BB2:Hid (∀wz,Calls Tryz.prog 130 #[.agg #[.bool (rB P'),.string (rS P'),.string (str (dec Q'))]] wz fun e w'=>RTold wz w' e (Q':Int)):=fun wz=>r3Bot_any _ _ Q' wz (by omega)
 have M1:=Lib.hid (fun wz=>rMul_any P (Q':Int) wz (by omega) (by rw[Int.natAbs_natCast];omega));have M2:=Lib.hid (fun wz=>rMul_any (Q:Int) P' wz (by rw[Int.natAbs_natCast];omega) (by omega))
 have HF:=Lib.hid (fun w2 b x y (hb:Below w.heap.size w w2) (h1:rB X1=b) (h2:rS X1=x) (h3:str (dec X2)=y)=>(show NumTold3 w (((w2.setCell ⟨w.heap.size+1+1,0,none⟩ (.bool b)).setCell ⟨w.heap.size+1+1,1,none⟩ (.string x)).setCell ⟨w.heap.size+1+1,2,none⟩ (.string y)) (.returned (.tuple #[.agg #[.bool b,.string x,.string y],.bool ok])) X1 X2 ok from
  ⟨by rw[h1,h2,h3],((hb.setCell (p:=⟨w.heap.size+1+1,0,none⟩) (show w.heap.size<=w.heap.size+1+1 by omega) _).setCell (p:=⟨w.heap.size+1+1,1,none⟩) (show w.heap.size<=w.heap.size+1+1 by omega) _).setCell (p:=⟨w.heap.size+1+1,2,none⟩) (show w.heap.size<=w.heap.size+1+1 by omega) _⟩))
 unfold RTold at TA TB BA BB2 M1 M2;unfold NumTold3 at NW;obtain⟨x1,hx1⟩:∃x,rB X1=x:=⟨_,rfl⟩
 obtain⟨x2,hx2⟩:∃x,rS X1=x:=⟨_,rfl⟩
 obtain⟨x3,hx3⟩:∃x,str (dec X2)=x:=⟨_,rfl⟩
 rw[hx1,hx2,hx3]at NW;have HX:=Lib.hid (And.intro hx1 (And.intro hx2 hx3));generalize rB (P*(Q':Int))=u1 at *;generalize rS (P*(Q':Int))=u2 at *;generalize rB ((Q:Int)*P')=v1 at *;generalize rS ((Q:Int)*P')=v2 at *;generalize rB (Q:Int)=qb at *;generalize rS (Q:Int)=qs at *;generalize rB (Q':Int)=qb' at *;generalize rS (Q':Int)=qs' at *;generalize rB P=pb at *;generalize rS P=ps at *;generalize rB P'=pb' at *;generalize rS P'=ps' at *;generalize str (dec Q)=q at *;generalize str (dec Q')=q' at *;clear h1 h2 h3 h4 hx1 hx2 hx3;have he:w.heap.size≠w.heap.size+1+1/\w.heap.size+1≠w.heap.size+1+1:=by omega
 go_enter Tryz.func135,Tryz.ntmps135;go_wp2_with fail
 go_region_held3 (fun y => (y.cell? ⟨w.heap.size, 0, none⟩ = some (.bool pb) /\ y.cell? ⟨w.heap.size, 1, none⟩ = some (.string ps) /\ y.cell? ⟨w.heap.size, 2, none⟩ = some (.string q)) /\ y.cell? ⟨w.heap.size + 1, 0, none⟩ = some (.bool pb') /\ y.cell? ⟨w.heap.size + 1, 1, none⟩ = some (.string ps') /\ y.cell? ⟨w.heap.size + 1, 2, none⟩ = some (.string q'))
  (first
    | (exact⟨⟨z0.cell,z0.cell1,z0.cell2⟩,z1.cell,z1.cell1,z1.cell2⟩)
    | (exact⟨⟨BB.out.now.2.2.1.cell,BB.out.now.2.2.1.cell1,BB.out.now.2.2.1.cell2⟩,BB.out.now.2.1.cell,BB.out.now.2.1.cell1,BB.out.now.2.1.cell2⟩))
  (first
    | (go_at_call 129;(with_reducible refine(TA.out _).mono ?_);rintro e w2 ⟨rfl,hb2⟩;have BB:=Lib.hid (BB.out.go hb2))
    | (go_at_call 129;(with_reducible refine(TB.out _).mono ?_);rintro e w2 ⟨rfl,hb2⟩;have BB:=Lib.hid (BB.out.go hb2))
    | (go_at_call 130;(with_reducible refine(BA.out _).mono ?_);rintro e w2 ⟨rfl,hb2⟩;have BB:=Lib.hid (BB.out.go hb2))
    | (go_at_call 130;(with_reducible refine(BB2.out _).mono ?_);rintro e w2 ⟨rfl,hb2⟩;have BB:=Lib.hid (BB.out.go hb2))
    | (go_at_call 128;(with_reducible refine(M1.out _).mono ?_);rintro e w2 ⟨rfl,hb2⟩;have BB:=Lib.hid (BB.out.go hb2))
    | (go_at_call 128;(with_reducible refine(M2.out _).mono ?_);rintro e w2 ⟨rfl,hb2⟩;have BB:=Lib.hid (BB.out.go hb2))
    | (go_at_call 192;(with_reducible refine(NW.out _).mono ?_);rintro e w9 ⟨rfl,hb9⟩;have BB:=Lib.hid (BB.out.go hb9);have hs:=BB.out.now.1;have r0:=hs.cell;have r1:=hs.cell1;have r2:=hs.cell2;have g0:=hs.free;have g1:=hs.free1;have g2:=hs.free2;have HS:=hs.set (.bool x1) (.string x2) (.string x3);have z0:=BB.out.now.2.2.1.set3o he.1 (.bool x1) (.string x2) (.string x3);have z1:=BB.out.now.2.1.set3o he.2 (.bool x1) (.string x2) (.string x3);have HE:=Lib.hid (HF.out _ x1 x2 x3 BB.out.below HX.out.1 HX.out.2.1 HX.out.2.2)))
 go_wp2;exact bodyPost_ret (by simp[results,Tryz.results135,go_sem,HS]) rfl HE.out
theorem r3Div_zero (P : Int) (Q Q' : Nat) (w : World) (h1 : dl P.natAbs <= 400) (h2 : dl Q <= 400) (h4 : dl Q' <= 400) :
    Calls Tryz.prog 135 #[.agg #[.bool (rB P),.string (rS P),.string (str (dec Q))],.agg #[.bool (rB 0),.string (rS 0),.string (str (dec Q'))]] w fun e w'=>NumTold3 w w' e 0 1 false :=
 r3Div_walk P Q 0 Q' w h1 h2 (Nat.le_trans (dl_le _ 1 (by omega) (by decide)) (by omega)) h4 0 1 false (Lib.hid fun wz=>by rw[Int.mul_zero];exact r3New_zero _ wz)
theorem r3Div_some (P : Int) (Q : Nat) (P' : Int) (Q' : Nat) (w : World) (hQ : 0 < Q) (hP : P' ≠ 0) (h1 : dl P.natAbs <= 400) (h2 : dl Q <= 400) (h3 : dl P'.natAbs <= 400) (h4 : dl Q' <= 400) :
    Calls Tryz.prog 135 #[.agg #[.bool (rB P),.string (rS P),.string (str (dec Q))],.agg #[.bool (rB P'),.string (rS P'),.string (str (dec Q'))]] w fun e w'=>NumTold3 w w' e (nwP (P*Q') (P'*Q)) (nwQ (P*Q') (P'*Q)) true:=by
 rw[Int.mul_comm P' (Q:Int)];exact r3Div_walk P Q P' Q' w h1 h2 h3 h4 _ _ true (Lib.hid fun wz=>r3New_some _ _ wz (Int.mul_ne_zero (by omega) hP) (Nat.le_trans (dl_mulZ h1 h4) (by omega)) (Nat.le_trans (dl_mulY h3 h2) (by omega)))
theorem r3Cmp_any (P : Int) (Q : Nat) (P' : Int) (Q' : Nat) (w : World) (h1 : dl P.natAbs <= 400) (h2 : dl Q <= 400) (h3 : dl P'.natAbs <= 400) (h4 : dl Q' <= 400) :
    Calls Tryz.prog 67 #[.agg #[.bool (rB P),.string (rS P),.string (str (dec Q))],.agg #[.bool (rB P'),.string (rS P'),.string (str (dec Q'))]] w fun e w'=>e=.returned (.int .i64 (cmpZ (P*Q') (P'*Q)))/\Below w.heap.size w w':=by
 have BB:=Lib.hid (((Bag.start w).box3 (.bool (rB P)) (.string (rS P)) (.string (str (dec Q))) 46).box3 (.bool (rB P')) (.string (rS P')) (.string (str (dec Q'))) 46 |>.drew);simp only[World.size_alloc]at BB;have TA:Hid (∀wz,Calls Tryz.prog 129 #[.agg #[.bool (rB P),.string (rS P),.string (str (dec Q))]] wz fun e w'=>RTold wz w' e P):=fun wz=>r3Top_any P _ wz (by omega)
 have TB:Hid (∀wz,Calls Tryz.prog 129 #[.agg #[.bool (rB P'),.string (rS P'),.string (str (dec Q'))]] wz fun e w'=>RTold wz w' e P'):=fun wz=>r3Top_any P' _ wz (by omega)
 have BA:Hid (∀wz,Calls Tryz.prog 130 #[.agg #[.bool (rB P),.string (rS P),.string (str (dec Q))]] wz fun e w'=>RTold wz w' e (Q:Int)):=fun wz=>r3Bot_any _ _ Q wz (by omega)
 have BB2:Hid (∀wz,Calls Tryz.prog 130 #[.agg #[.bool (rB P'),.string (rS P'),.string (str (dec Q'))]] wz fun e w'=>RTold wz w' e (Q':Int)):=fun wz=>r3Bot_any _ _ Q' wz (by omega)
 have M1:=Lib.hid (fun wz=>rMul_any P (Q':Int) wz (by omega) (by rw[Int.natAbs_natCast];omega));have M2:=Lib.hid (fun wz=>rMul_any P' (Q:Int) wz (by omega) (by rw[Int.natAbs_natCast];omega));have CM:=Lib.hid (fun wz=>rCmp_any (P*Q') (P'*Q) wz (Nat.le_trans (dl_mulZ h1 h4) (by omega)) (Nat.le_trans (dl_mulZ h3 h2) (by omega)));unfold RTold at TA TB BA BB2 M1 M2;generalize rB (P*(Q':Int))=u1 at *;generalize rS (P*(Q':Int))=u2 at *;generalize rB (P'*(Q:Int))=v1 at *;generalize rS (P'*(Q:Int))=v2 at *;generalize rB (Q:Int)=qb at *;generalize rS (Q:Int)=qs at *;generalize rB (Q':Int)=qb' at *;generalize rS (Q':Int)=qs' at *;generalize rB P=pb at *;generalize rS P=ps at *;generalize rB P'=pb' at *;generalize rS P'=ps' at *;generalize str (dec Q)=q at *;generalize str (dec Q')=q' at *;generalize cmpZ (P*(Q':Int)) (P'*(Q:Int))=cc at *;clear h1 h2 h3 h4;go_enter Tryz.func67,Tryz.ntmps67;go_wp2_with fail
 go_region_held3 (fun y => (y.cell? ⟨w.heap.size, 0, none⟩ = some (.bool pb) /\ y.cell? ⟨w.heap.size, 1, none⟩ = some (.string ps) /\ y.cell? ⟨w.heap.size, 2, none⟩ = some (.string q)) /\ y.cell? ⟨w.heap.size + 1, 0, none⟩ = some (.bool pb') /\ y.cell? ⟨w.heap.size + 1, 1, none⟩ = some (.string ps') /\ y.cell? ⟨w.heap.size + 1, 2, none⟩ = some (.string q'))
  (exact⟨⟨BB.out.now.2.1.cell,BB.out.now.2.1.cell1,BB.out.now.2.1.cell2⟩,BB.out.now.1.cell,BB.out.now.1.cell1,BB.out.now.1.cell2⟩)
  (first
    | (go_at_call 129;(with_reducible refine(TA.out _).mono ?_);rintro e w2 ⟨rfl,hb2⟩;have BB:=Lib.hid (BB.out.go hb2))
    | (go_at_call 129;(with_reducible refine(TB.out _).mono ?_);rintro e w2 ⟨rfl,hb2⟩;have BB:=Lib.hid (BB.out.go hb2))
    | (go_at_call 130;(with_reducible refine(BA.out _).mono ?_);rintro e w2 ⟨rfl,hb2⟩;have BB:=Lib.hid (BB.out.go hb2))
    | (go_at_call 130;(with_reducible refine(BB2.out _).mono ?_);rintro e w2 ⟨rfl,hb2⟩;have BB:=Lib.hid (BB.out.go hb2))
    | (go_at_call 128;(with_reducible refine(M1.out _).mono ?_);rintro e w2 ⟨rfl,hb2⟩;have BB:=Lib.hid (BB.out.go hb2))
    | (go_at_call 128;(with_reducible refine(M2.out _).mono ?_);rintro e w2 ⟨rfl,hb2⟩;have BB:=Lib.hid (BB.out.go hb2))
    | (go_at_call 127;(with_reducible refine(CM.out _).mono ?_);rintro e w2 ⟨rfl,hb2⟩;have BB:=Lib.hid (BB.out.go hb2)))
 go_wp2;go_ret;exact⟨rfl,BB.out.below⟩
def ofK(s t:ByteArray):Bool:=okB s.data.toList&&okB t.data.toList && !decide (numOf t.data.toList=0)
def ofP(b:Bool)(s t:ByteArray):Int:=loP (sgn b (numOf s.data.toList)) (numOf t.data.toList)
def ofQ(b:Bool)(s t:ByteArray):Nat:=loQ (sgn b (numOf s.data.toList)) (numOf t.data.toList)
theorem of_some (b : Bool) (s t : ByteArray) (w : World) (hs : s.size <= 60) (ht : t.size <= 60) (hk : ofK s t = true) (x : Bool) (hx : x = decide (rB (ofP b s t) = b /\ rS (ofP b s t) = s /\ str (dec (ofQ b s t)) = t)) :
    Calls Tryz.prog 55 #[.agg #[.bool b,.string s,.string t]] w fun e w'=>RatTold3 w w' e (if x then ofP b s t else 0) (if x then ofQ b s t else 1) x:=by
 have B0:=(Bag.start w).box3 (.bool b) (.string s) (.string t) 46 |>.box3 (.slice none 0 0) (.bool false) (.slice none 0 0) 53
 simp only[World.size_alloc]at B0;unfold ofK at hk;rw[Bool.and_eq_true,Bool.and_eq_true]at hk;obtain⟨⟨hk1,hk2⟩,hk3⟩:=hk
 have hM:0<numOf t.data.toList:=by
  rw[Bool.not_eq_true',decide_eq_false_iff_not]at hk3;omega
 have RS1:=Lib.hid (fun wz=>ratRead_yes s wz (by omega) hk1);have RS2:=Lib.hid (fun wz=>ratRead_yes t wz (by omega) hk2);unfold SubOf3 at RS1 RS2
 have hsz:∀u:ByteArray,u.size<=60->okB u.data.toList=true->numOf u.data.toList<10^60:=fun u hu hok=>by
  obtain⟨g1,g2,g3⟩:=okB_digs hok;have h2:u.data.toList.length=u.size:=rfl;exact Nat.lt_of_lt_of_le (numOf_lt _ g3) (Nat.pow_le_pow_right (by omega) (by omega))
 have hN1:=hsz s hs hk1;have hM1:=hsz t ht hk2;have h10:(10:Nat)^60<4294967296^7:=by decide
 have ZE:=Lib.hid (fun a n c wz (h:NatIs wz (.agg #[.slice a n c]) (numOf t.data.toList))=>zero_any _ _ wz h);rw[decide_eq_false (show ¬numOf t.data.toList=0 by omega)]at ZE;have OF:=Lib.hid (fun a n c wz (h:NatIs wz (.agg #[.slice a n c]) (numOf s.data.toList))=>wof_any b a n c _ wz h);have LW:=Lib.hid (fun a n c m a2 n2 c2 wz (h:IntAt wz a n c m (sgn b (numOf s.data.toList))) (g:NatIs wz (.agg #[.slice a2 n2 c2]) (numOf t.data.toList))=>lowest_any a n c m _ a2 n2 c2 _ wz h g hM 7 (by omega) (by rw[sgn_abs];omega) (by omega));rw[show loP (sgn b (numOf s.data.toList)) (numOf t.data.toList)=ofP b s t from rfl,show loQ (sgn b (numOf s.data.toList)) (numOf t.data.toList)=ofQ b s t from rfl]at LW;have hQ0:0<ofQ b s t:=loQ_pos _ hM;have hP7:(ofP b s t).natAbs<4294967296^7:=Nat.lt_of_le_of_lt (loP_absle _ _) (by rw[sgn_abs];omega);have hQ7:ofQ b s t<4294967296^7:=Nat.lt_of_le_of_lt (loQ_le _ _) (by omega);have NM:=Lib.hid (fun a n c m a2 n2 c2 wz hz=>num_any a n c m a2 n2 c2 (ofP b s t) (ofQ b s t) wz hz hQ0 7 (by omega) hP7 hQ7);unfold NumTold at NM;generalize ofP b s t=P at *;generalize ofQ b s t=Q at *;obtain⟨pb,hpb⟩:∃pb,rB P=pb:=⟨_,rfl⟩
 obtain⟨ps,hps⟩:∃ps,rS P=ps:=⟨_,rfl⟩
 obtain⟨pt,hpt⟩:∃pt,str (dec Q)=pt:=⟨_,rfl⟩
 rw[hpb,hps,hpt]at NM hx;obtain⟨v1,hv1⟩:∃v,(pb==b)=v:=⟨_,rfl⟩
 obtain⟨v2,hv2⟩:∃v,(ps.toList==s.toList)=v:=⟨_,rfl⟩
 obtain⟨v3,hv3⟩:∃v,(pt.toList==t.toList)=v:=⟨_,rfl⟩
 have hbl:∀u v:ByteArray,u.toList=v.toList↔u=v:=fun u v=>⟨fun h=>by rw[ByteArray.toList_eq,ByteArray.toList_eq]at h;exact ByteArray.ext (Array.toList_inj.1 h),fun h=>by rw[h]⟩
 have hx2:x=(v1&&(v2&&v3)):=by
  rw[hx,Bool.eq_iff_iff,decide_eq_true_eq,Bool.and_eq_true,Bool.and_eq_true,← hv1,← hv2,← hv3,beq_iff_eq,beq_iff_eq,beq_iff_eq,hbl,hbl]
 subst hx2;clear hx hpb hps hpt hbl;have BB:=Lib.hid B0;have⟨q0,q1,q2⟩:=B0.now.2.1.c3;clear B0 hs ht hk1 hk2 hk3 hM hsz hN1 hM1 h10 hQ0 hP7 hQ7;go_enter Tryz.func55,Tryz.ntmps55
 go_wp2_with (first
  | (go_at_call 113;(with_reducible refine(RS1.out _).mono ?_);rintro e w2 ⟨a3,n3,c3,rfl,hn3,hb2⟩;have hk2:=(BB.out.go hb2).now.1.lt;have BB:=Lib.hid (((BB.out.go hb2).nat hn3).box (.slice a3 n3 c3) 49);clear hb2 hn3;have q0:=BB.out.now.2.2.2.1.cell;have q1:=BB.out.now.2.2.2.1.cell1;have q2:=BB.out.now.2.2.2.1.cell2)
  | (go_at_call 113;(with_reducible refine(RS2.out _).mono ?_);rintro e w3 ⟨a4,n4,c4,rfl,hn4,hb3⟩;have hk3:=(BB.out.go hb3).now.1.lt;have BB:=Lib.hid (((BB.out.go hb3).nat hn4).box (.slice a4 n4 c4) 49);clear hb3 hn4;have q3:=BB.out.now.1.cell)
  | (go_at_call 114;(with_reducible refine(ZE.out _ _ _ _ BB.out.now.2.1).mono ?_);rintro e w4 ⟨rfl,hb4⟩;have BB:=Lib.hid (BB.out.go hb4);clear hb4;have q0:=BB.out.now.2.2.2.2.2.1.cell;have q1:=BB.out.now.2.2.2.2.2.1.cell1;have q2:=BB.out.now.2.2.2.2.2.1.cell2;have q3:=BB.out.now.1.cell;have q4:=BB.out.now.2.2.1.cell))
 have HP:Hid (∀(y:World) (k:Nat),Slot3 y k (.slice none 0 0) (.bool false) (.slice none 0 0)->w3.heap.size<k->Bag w (fun y=>Slot y w3.heap.size (.slice a4 n4 c4)/\NatIs y (.agg #[.slice a4 n4 c4]) (numOf t.data.toList)/\Slot y w2.heap.size (.slice a3 n3 c3)/\NatIs y (.agg #[.slice a3 n3 c3]) (numOf s.data.toList)/\Slot3 y (w.heap.size+1) (.slice none 0 0) (.bool false) (.slice none 0 0)/\Slot3 y w.heap.size (.bool b) (.string s) (.string t)/\True) y->∀(a9:Option Addr) (n9 c9:Nat) (m9:Bool) (a10:Option Addr) (n10 c10:Nat),Bag w (fun y=>Slot y w3.heap.size (.slice a4 n4 c4)/\NatIs y (.agg #[.slice a4 n4 c4]) (numOf t.data.toList)/\Slot y w2.heap.size (.slice a3 n3 c3)/\NatIs y (.agg #[.slice a3 n3 c3]) (numOf s.data.toList)/\Slot3 y (w.heap.size+1) (.slice none 0 0) (.bool false) (.slice none 0 0)/\Slot3 y w.heap.size (.bool b) (.string s) (.string t)/\True) (((y.setCell ⟨k,0,none⟩ (.slice a9 n9 c9)).setCell ⟨k,1,none⟩ (.bool m9)).setCell ⟨k,2,none⟩ (.slice a10 n10 c10))):=by
  intro y k s hk B a9 n9 c9 m9 a10 n10 c10;have hx:∀(x:Option Addr) (y z:Nat) (ki:IntKind) (i:Int),(Value.slice x y z) ≠ .int ki i:=fun _ _ _ _ _ h=>by cases h
  have hb:∀(x:Bool) (ki:IntKind) (i:Int),(Value.bool x) ≠ .int ki i:=fun _ _ _ h=>by cases h
  have q:=B.now;exact⟨((B.below.setCell (p:=⟨k,0,none⟩) (show w.heap.size<=k by omega) _).setCell (p:=⟨k,1,none⟩) (show w.heap.size<=k by omega) _).setCell (p:=⟨k,2,none⟩) (show w.heap.size<=k by omega) _,B.stay,q.1.set3o (by omega) _ _ _,q.2.1.set3 s (hx _ _ _) (hb _) (hx _ _ _) _ _ _,q.2.2.1.set3o (by omega) _ _ _,q.2.2.2.1.set3 s (hx _ _ _) (hb _) (hx _ _ _) _ _ _,q.2.2.2.2.1.set3o (by omega) _ _ _,q.2.2.2.2.2.1.set3o (by omega) _ _ _,trivial⟩
 have HC:Hid (∀y,(fun y=>Slot y w3.heap.size (.slice a4 n4 c4)/\NatIs y (.agg #[.slice a4 n4 c4]) (numOf t.data.toList)/\Slot y w2.heap.size (.slice a3 n3 c3)/\NatIs y (.agg #[.slice a3 n3 c3]) (numOf s.data.toList)/\Slot3 y (w.heap.size+1) (.slice none 0 0) (.bool false) (.slice none 0 0)/\Slot3 y w.heap.size (.bool b) (.string s) (.string t)/\True) y->((y.cell? ⟨w.heap.size,0,none⟩=some (.bool b)/\y.cell? ⟨w.heap.size,1,none⟩=some (.string s)/\y.cell? ⟨w.heap.size,2,none⟩=some (.string t))/\y.cell? ⟨w2.heap.size,0,none⟩=some (.slice a3 n3 c3)/\y.cell? ⟨w3.heap.size,0,none⟩=some (.slice a4 n4 c4))):=fun y h=>⟨⟨h.2.2.2.2.2.1.cell,h.2.2.2.2.2.1.cell1,h.2.2.2.2.2.1.cell2⟩,h.2.2.1.cell,h.1.cell⟩
 refine wp_capture (fun R hR => ?_)
 have TL:∀(k8:Nat) (a5:Option Addr) (n5 c5:Nat) (m5:Bool) (a6:Option Addr) (n6 c6:Nat) (m6:Bool) (a7:Option Addr) (n7 c7:Nat) (wy:World),Bag w (fun y=>Slot y w3.heap.size (.slice a4 n4 c4)/\NatIs y (.agg #[.slice a4 n4 c4]) (numOf t.data.toList)/\Slot y w2.heap.size (.slice a3 n3 c3)/\NatIs y (.agg #[.slice a3 n3 c3]) (numOf s.data.toList)/\Slot3 y (w.heap.size+1) (.slice none 0 0) (.bool false) (.slice none 0 0)/\Slot3 y w.heap.size (.bool b) (.string s) (.string t)/\True) wy->Slot3 wy k8 (.slice a6 n6 c6) (.bool m6) (.slice a7 n7 c7)->RatAt wy a6 n6 c6 m6 a7 n7 c7 P Q->R .normal { tmps:=#[Value.agg #[Value.bool b,Value.string s,Value.string t],Value.pointer (some { block:=w.heap.size,off:=0 }),Value.pointer (some { block:=w.heap.size+1,off:=0 }),Value.bool false,Value.pointer (some { block:=w2.heap.size,off:=0 }),Value.bool true,Value.pointer (some { block:=w3.heap.size,off:=0 }),Value.bool true,Value.pointer (some { block:=k8,off:=0 }),Value.tuple #[Value.agg #[Value.slice a3 n3 c3],Value.bool true],Value.pointer (some { block:=w.heap.size,off:=1 }),Value.string s,Value.tuple #[Value.agg #[Value.slice a3 n3 c3],Value.bool true],Value.agg #[Value.slice a3 n3 c3],Value.bool true,Value.tuple #[Value.agg #[Value.slice a4 n4 c4],Value.bool true],Value.pointer (some { block:=w.heap.size,off:=2 }),Value.string t,Value.tuple #[Value.agg #[Value.slice a4 n4 c4],Value.bool true],Value.agg #[Value.slice a4 n4 c4],Value.bool true,Value.bool true,Value.bool false,Value.bool false,Value.bool true,Value.bool false,Value.bool false,Value.bool false,Value.agg #[Value.slice a4 n4 c4],Value.bool false,Value.bool false,undef,Value.pointer (some { block:=w.heap.size,off:=0 }),Value.bool b,Value.agg #[Value.slice a3 n3 c3],Value.agg #[Value.slice a5 n5 c5,Value.bool m5],Value.agg #[Value.slice a4 n4 c4],Value.agg #[Value.slice a6 n6 c6,Value.bool m6,Value.slice a7 n7 c7],undef,undef,undef,undef,undef,undef],defers := [] } wy:=by
  intro k8 a5 n5 c5 m5 a6 n6 c6 m6 a7 n7 c7 wy B1 sA hr5;rw[hR];have BB:=Lib.hid ((B1.slot3 sA).rat hr5);have⟨q0,q1,q2⟩:=BB.out.now.2.1.c3;clear B1 sA hr5;have BB:=Lib.hid BB.out.drew
  cases v1<;>cases v2<;>cases v3
  all_goals
   go_wp2_with fail
   go_region_held3 (fun y => (y.cell? ⟨k8, 0, none⟩ = some (.slice a6 n6 c6) /\ y.cell? ⟨k8, 1, none⟩ = some (.bool m6) /\ y.cell? ⟨k8, 2, none⟩ = some (.slice a7 n7 c7)) /\ y.cell? ⟨w.heap.size, 0, none⟩ = some (.bool b) /\ y.cell? ⟨w.heap.size, 1, none⟩ = some (.string s) /\ y.cell? ⟨w.heap.size, 2, none⟩ = some (.string t))
    (exact⟨⟨BB.out.now.2.1.cell,BB.out.now.2.1.cell1,BB.out.now.2.1.cell2⟩,BB.out.now.2.2.2.2.2.2.2.1.cell,BB.out.now.2.2.2.2.2.2.2.1.cell1,BB.out.now.2.2.2.2.2.2.2.1.cell2⟩)
    (first
      | (go_at_call 21;(with_reducible refine(NM.out _ _ _ _ _ _ _ _ BB.out.now.1).mono ?_);rintro e w9 ⟨rfl,hb9⟩;have BB:=Lib.hid (BB.out.go hb9)))
  all_goals
   have⟨q0,q1,q2⟩:=BB.out.now.2.1.c3;have hs9:=BB.out.now.2.2.2.2.2.2.1;have⟨u0,u1,u2,g0,g1,g2⟩:=hs9.s6
   first
    | (have HS := hs9.set (.slice a6 n6 c6) (.bool m6) (.slice a7 n7 c7)
       have HE:=Lib.hid (RatTold3.done true BB.out.below (show w.heap.size<=w.heap.size+1 by omega) hs9 BB.out.now.1);go_wp2
       exact bodyPost_ret (v:=.tuple #[.agg #[.slice a6 n6 c6,.bool m6,.slice a7 n7 c7],.bool true]) (by simp[results,Tryz.results55,go_sem,HS]) rfl HE.out)
    | (have HS := hs9.set (.slice none 0 0) (.bool false) (.slice none 0 0)
       have HE:=Lib.hid (RatTold3.done false BB.out.below (show w.heap.size<=w.heap.size+1 by omega) hs9 (RatAt.zero _));go_wp2
       exact bodyPost_ret (v:=.tuple #[.agg #[.slice none 0 0,.bool false,.slice none 0 0],.bool false]) (by simp[results,Tryz.results55,go_sem,HS]) rfl HE.out)
 refine wp_region_noPanic ?_
 refine wp_region_held_drew (S:=(fun y=>((y.cell? ⟨w.heap.size,0,none⟩=some (.bool b)/\y.cell? ⟨w.heap.size,1,none⟩=some (.string s)/\y.cell? ⟨w.heap.size,2,none⟩=some (.string t))/\y.cell? ⟨w2.heap.size,0,none⟩=some (.slice a3 n3 c3)/\y.cell? ⟨w3.heap.size,0,none⟩=some (.slice a4 n4 c4))/\Bag w (fun y=>Slot y w3.heap.size (.slice a4 n4 c4)/\NatIs y (.agg #[.slice a4 n4 c4]) (numOf t.data.toList)/\Slot y w2.heap.size (.slice a3 n3 c3)/\NatIs y (.agg #[.slice a3 n3 c3]) (numOf s.data.toList)/\Slot3 y (w.heap.size+1) (.slice none 0 0) (.bool false) (.slice none 0 0)/\Slot3 y w.heap.size (.bool b) (.string s) (.string t)/\True) y)) (by kernel_rfl) ?_ (fun _ => ?_)
 · exact(have B9:=BB.out.drew;⟨HC.out _ B9.now,B9⟩)
 have hH:((w4.drew.cell? ⟨w.heap.size,0,none⟩=some (.bool b)/\w4.drew.cell? ⟨w.heap.size,1,none⟩=some (.string s)/\w4.drew.cell? ⟨w.heap.size,2,none⟩=some (.string t))/\w4.drew.cell? ⟨w2.heap.size,0,none⟩=some (.slice a3 n3 c3)/\w4.drew.cell? ⟨w3.heap.size,0,none⟩=some (.slice a4 n4 c4))/\Bag w (fun y=>Slot y w3.heap.size (.slice a4 n4 c4)/\NatIs y (.agg #[.slice a4 n4 c4]) (numOf t.data.toList)/\Slot y w2.heap.size (.slice a3 n3 c3)/\NatIs y (.agg #[.slice a3 n3 c3]) (numOf s.data.toList)/\Slot3 y (w.heap.size+1) (.slice none 0 0) (.bool false) (.slice none 0 0)/\Slot3 y w.heap.size (.bool b) (.string s) (.string t)/\True) w4.drew:=(have B9:=BB.out.drew;⟨HC.out _ B9.now,B9⟩)
 generalize hw1:w4.drew=w1 at *;refine wpAnyH_take (i:=0) (oi:=⟨some 32,Op.fieldAddr 46 (Operand.tmp 1) 0,0,_,_,none⟩) (v := ?v1) rfl (by kernel_rfl) (by kernel_rfl) (by kernel_rfl) (fun _ _ _ h=>h) (Or.inl ⟨by rfl,?hy1⟩) hH ?_
 case hy1 =>
  intro y hy
  (try dsimp only at hy)
  go_simp
  try with_reducible rfl
 try simp only[Act.put,lsa,lsz,lsc]
 refine wpAnyH_take (i:=1) (oi:=⟨some 33,Op.load 4 (Operand.tmp 32),4,_,_,none⟩) (v := ?v2) rfl (by kernel_rfl) (by kernel_rfl) (by kernel_rfl) (fun _ _ _ h=>h) (Or.inl ⟨by rfl,?hy2⟩) hH ?_
 case hy2 =>
  intro y hy
  (try dsimp only at hy)
  go_simp
  try with_reducible rfl
 try simp only[Act.put,lsa,lsz,lsc]
 refine wpAnyH_take (i:=2) (oi:=⟨some 34,Op.load 49 (Operand.tmp 4),49,_,_,none⟩) (v := ?v3) rfl (by kernel_rfl) (by kernel_rfl) (by kernel_rfl) (fun _ _ _ h=>h) (Or.inl ⟨by rfl,?hy3⟩) hH ?_
 case hy3 =>
  intro y hy
  (try dsimp only at hy)
  go_simp
  try with_reducible rfl
 try simp only[Act.put,lsa,lsz,lsc]
 refine wpAnyH_take (i:=4) (oi:=⟨some 36,Op.load 49 (Operand.tmp 6),49,_,_,none⟩) (v := ?v4) rfl (by kernel_rfl) (by kernel_rfl) (by kernel_rfl) (fun _ _ _ h=>h) (Or.inl ⟨by rfl,?hy4⟩) hH ?_
 case hy4 =>
  intro y hy
  (try dsimp only at hy)
  go_simp
  try with_reducible rfl
 try simp only[Act.put,lsa,lsz,lsc]
 refine wpAnyH_ready (rs := [3,6]) (by kernel_rfl) (by simp) ?_
 refine AllReadyH.cons rfl (fun K hK => ?_) ?_
 · go_simp
   (go_at_call 116;(with_reducible refine(OF.out _ _ _ _ hH.2.now.2.2.2.1).mono ?_);rintro e wy3 ⟨a5,n5,c5,m5,rfl,hi5,hbz⟩)
   refine hK.out _ _ ?_ (fun hH => ?_)
   · exact(have B9:=Bag.go hH.2 hbz;⟨HC.out _ B9.now,B9⟩)
   clear hK K
   try simp only[Act.put,lsa,lsz,lsc]
   refine wpAnyH_ready (rs := [5,6]) (by kernel_rfl) (by simp) ?_
   refine AllReadyH.cons rfl (fun K hK => ?_) ?_
   · go_simp
     (go_at_call 115;(with_reducible refine(LW.out _ _ _ _ _ _ _ _ (IntAt.below hi5 (by exact Below.refl _ _)) hH.2.now.2.1).mono ?_);rintro e wy5 ⟨a6,n6,c6,m6,a7,n7,c7,rfl,hr5,hbz⟩)
     refine hK.out _ _ ?_ (fun hH => ?_)
     · exact(have B9:=Bag.go hH.2 hbz;⟨HC.out _ B9.now,B9⟩)
     clear hK K
     try simp only[Act.put,lsa,lsz,lsc]
     refine wpAnyH_ready (rs := [6]) (by kernel_rfl) (by simp) ?_;refine AllReadyH.cons rfl (fun K hK => ?_) AllReadyH.nil;have hkA:=hH.2.now.1.lt;have sA:=Slot3.new wy5 (.slice none 0 0) (.bool false) (.slice none 0 0) 53;go_simp
     refine hK.out _ _ ?_ (fun hH => ?_)
     · exact(have B9:=Bag.alloc hH.2 _;⟨HC.out _ B9.now,B9⟩)
     clear hK K
     try simp only[Act.put,lsa,lsz,lsc]
     refine wpAnyH_ready (rs := [7]) (by kernel_rfl) (by simp) ?_;refine AllReadyH.cons (o:=⟨none,Op.store 53 (Operand.tmp 8) (Operand.tmp 37),0,_,_,none⟩) rfl (fun K hK => ?_) AllReadyH.nil;have hr5:=hr5.below (show Below wy5.heap.size wy5 (World.alloc wy5 (.cells #[.slice none 0 0,.bool false,.slice none 0 0] 53))from by refine Below.more ?_ _;exact Below.refl _ _);generalize hww:(World.alloc wy5 (.cells #[.slice none 0 0,.bool false,.slice none 0 0] 53))=ww at *;have⟨l0,l1,l2,f0,f1,f2⟩:=sA.s6;have B9s:=HP.out _ _ sA (by omega) hH.2 a6 n6 c6 m6 a7 n7 c7;have hr5:=RatAt.set3 hr5 sA (.slice a6 n6 c6) (.bool m6) (.slice a7 n7 c7);have sA:=(sA.set2 (.slice a6 n6 c6) (.bool m6)).set1 (.slice a7 n7 c7);go_simp
     refine hK.out _ _ ?_ (fun hH => ?_)
     · exact⟨HC.out _ B9s.now,B9s⟩
     clear hK K
     try simp only[Act.put,lsa,lsz,lsc]
     refine wpAnyH_done (by kernel_rfl) ?_ _;refine NoPanic.normal ?_;exact TL _ _ _ _ _ _ _ _ _ _ _ _ _ hH.2 sA hr5
   refine AllReadyH.cons rfl (fun K hK => ?_) ?_
   · have hkA:=hH.2.now.1.lt;have sA:=Slot3.new wy3 (.slice none 0 0) (.bool false) (.slice none 0 0) 53;go_simp
     refine hK.out _ _ ?_ (fun hH => ?_)
     · exact(have B9:=Bag.alloc hH.2 _;⟨HC.out _ B9.now,B9⟩)
     clear hK K
     try simp only[Act.put,lsa,lsz,lsc]
     refine wpAnyH_ready (rs := [5]) (by kernel_rfl) (by simp) ?_;refine AllReadyH.cons rfl (fun K hK => ?_) AllReadyH.nil;go_simp
     (go_at_call 115;(with_reducible refine(LW.out _ _ _ _ _ _ _ _ (IntAt.below hi5 (by refine Below.more ?_ _;exact Below.refl _ _)) hH.2.now.2.1).mono ?_);rintro e wy5 ⟨a6,n6,c6,m6,a7,n7,c7,rfl,hr5,hbz⟩);have sA:=sA.below hbz
     refine hK.out _ _ ?_ (fun hH => ?_)
     · exact(have B9:=Bag.go hH.2 hbz;⟨HC.out _ B9.now,B9⟩)
     clear hK K
     try simp only[Act.put,lsa,lsz,lsc]
     refine wpAnyH_ready (rs := [7]) (by kernel_rfl) (by simp) ?_;refine AllReadyH.cons (o:=⟨none,Op.store 53 (Operand.tmp 8) (Operand.tmp 37),0,_,_,none⟩) rfl (fun K hK => ?_) AllReadyH.nil;have⟨l0,l1,l2,f0,f1,f2⟩:=sA.s6;have B9s:=HP.out _ _ sA (by omega) hH.2 a6 n6 c6 m6 a7 n7 c7;have hr5:=RatAt.set3 hr5 sA (.slice a6 n6 c6) (.bool m6) (.slice a7 n7 c7);have sA:=(sA.set2 (.slice a6 n6 c6) (.bool m6)).set1 (.slice a7 n7 c7);go_simp
     refine hK.out _ _ ?_ (fun hH => ?_)
     · exact⟨HC.out _ B9s.now,B9s⟩
     clear hK K
     try simp only[Act.put,lsa,lsz,lsc]
     refine wpAnyH_done (by kernel_rfl) ?_ _;refine NoPanic.normal ?_;exact TL _ _ _ _ _ _ _ _ _ _ _ _ _ hH.2 sA hr5
   exact AllReadyH.nil
 refine AllReadyH.cons rfl (fun K hK => ?_) ?_
 · have hkA:=hH.2.now.1.lt;have sA:=Slot3.new w1 (.slice none 0 0) (.bool false) (.slice none 0 0) 53;go_simp
   refine hK.out _ _ ?_ (fun hH => ?_)
   · exact(have B9:=Bag.alloc hH.2 _;⟨HC.out _ B9.now,B9⟩)
   clear hK K
   try simp only[Act.put,lsa,lsz,lsc]
   refine wpAnyH_ready (rs := [3]) (by kernel_rfl) (by simp) ?_;refine AllReadyH.cons rfl (fun K hK => ?_) AllReadyH.nil;go_simp
   (go_at_call 116;(with_reducible refine(OF.out _ _ _ _ hH.2.now.2.2.2.1).mono ?_);rintro e wy3 ⟨a5,n5,c5,m5,rfl,hi5,hbz⟩);have sA:=sA.below hbz
   refine hK.out _ _ ?_ (fun hH => ?_)
   · exact(have B9:=Bag.go hH.2 hbz;⟨HC.out _ B9.now,B9⟩)
   clear hK K
   try simp only[Act.put,lsa,lsz,lsc]
   refine wpAnyH_ready (rs := [5]) (by kernel_rfl) (by simp) ?_;refine AllReadyH.cons rfl (fun K hK => ?_) AllReadyH.nil;go_simp
   (go_at_call 115;(with_reducible refine(LW.out _ _ _ _ _ _ _ _ (IntAt.below hi5 (by exact Below.refl _ _)) hH.2.now.2.1).mono ?_);rintro e wy5 ⟨a6,n6,c6,m6,a7,n7,c7,rfl,hr5,hbz⟩);have sA:=sA.below hbz
   refine hK.out _ _ ?_ (fun hH => ?_)
   · exact(have B9:=Bag.go hH.2 hbz;⟨HC.out _ B9.now,B9⟩)
   clear hK K
   try simp only[Act.put,lsa,lsz,lsc]
   refine wpAnyH_ready (rs := [7]) (by kernel_rfl) (by simp) ?_;refine AllReadyH.cons (o:=⟨none,Op.store 53 (Operand.tmp 8) (Operand.tmp 37),0,_,_,none⟩) rfl (fun K hK => ?_) AllReadyH.nil;have⟨l0,l1,l2,f0,f1,f2⟩:=sA.s6;have B9s:=HP.out _ _ sA (by omega) hH.2 a6 n6 c6 m6 a7 n7 c7;have hr5:=RatAt.set3 hr5 sA (.slice a6 n6 c6) (.bool m6) (.slice a7 n7 c7);have sA:=(sA.set2 (.slice a6 n6 c6) (.bool m6)).set1 (.slice a7 n7 c7);go_simp
   refine hK.out _ _ ?_ (fun hH => ?_)
   · exact⟨HC.out _ B9s.now,B9s⟩
   clear hK K
   try simp only[Act.put,lsa,lsz,lsc]
   refine wpAnyH_done (by kernel_rfl) ?_ _;refine NoPanic.normal ?_;exact TL _ _ _ _ _ _ _ _ _ _ _ _ _ hH.2 sA hr5
 exact AllReadyH.nil
theorem of_none (b : Bool) (s t : ByteArray) (w : World) (hs : s.size <= 60) (ht : t.size <= 60) (hk : ofK s t = false) :
    Calls Tryz.prog 55 #[.agg #[.bool b,.string s,.string t]] w fun e w'=>RatTold3 w w' e 0 1 false:=by
 have B0:=(Bag.start w).box3 (.bool b) (.string s) (.string t) 46 |>.box3 (.slice none 0 0) (.bool false) (.slice none 0 0) 53
 simp only[World.size_alloc]at B0
 have RD:∀u:ByteArray,u.size<=60->Hid (∀wz,Calls Tryz.prog 113 #[.string u] wz fun e w'=>SubOf3 wz w' e (if okB u.data.toList then numOf u.data.toList else 0) (okB u.data.toList)):=fun u hu wz=>by
  cases h:okB u.data.toList with
  | true=>exact ratRead_yes u wz (by omega) h
  | false=>exact ratRead_no u wz (by omega) h
 have RS1:=RD s hs;have RS2:=RD t ht;unfold SubOf3 at RS1 RS2;unfold ofK at hk;have ZE:=Lib.hid (fun a n c wz (h:NatIs wz (.agg #[.slice a n c]) (if okB t.data.toList then numOf t.data.toList else 0))=>zero_any _ _ wz h);have hz:∀g,okB t.data.toList=g->g=true->decide ((if okB t.data.toList then numOf t.data.toList else 0)=0)=decide (numOf t.data.toList=0):=fun g h1 h2=>by rw[h1,h2,if_pos rfl]
 obtain⟨g1,hg1⟩:∃g,okB s.data.toList=g:=⟨_,rfl⟩
 obtain⟨g2,hg2⟩:∃g,okB t.data.toList=g:=⟨_,rfl⟩
 have hz2:=hz g2 hg2;clear hz RD;obtain⟨z,hz3⟩:∃z,decide ((if okB t.data.toList then numOf t.data.toList else 0)=0)=z:=⟨_,rfl⟩
 rw[hz3]at ZE hz2;generalize (if okB t.data.toList then numOf t.data.toList else 0)=M at *;generalize (if okB s.data.toList then numOf s.data.toList else 0)=N at *;rw[hg1]at RS1 hk;rw[hg2]at RS2 hk
 have hk2:(g1&&(g2 && !z))=false:=by
  cases g2 with
  | false=>simp
  | true=>rw[← hz2 rfl]at hk;simpa using hk
 have BB:=Lib.hid B0;have⟨q0,q1,q2⟩:=B0.now.2.1.c3;clear B0 hs ht hk hg1 hg2 hz2 hz3
 cases g1<;>cases g2<;>cases z
 all_goals
  first
   | (exact absurd hk2 (by decide))
   | skip
 all_goals
  clear hk2;go_enter Tryz.func55,Tryz.ntmps55;go_wp2_with fail;go_at_call 113;(with_reducible refine(RS1.out _).mono ?_);rintro e w2 ⟨a3,n3,c3,rfl,hn3,hb2⟩;have BB:=Lib.hid ((BB.out.go hb2).alloc (.cells #[.slice a3 n3 c3] 49));clear hb2 hn3;have⟨q0,q1,q2⟩:=BB.out.now.2.1.c3;go_wp2_with fail;go_at_call 113;(with_reducible refine(RS2.out _).mono ?_);rintro e w3 ⟨a4,n4,c4,rfl,hn4,hb3⟩;have BB:=Lib.hid (((BB.out.go hb3).nat hn4).box (.slice a4 n4 c4) 49);clear hb3 hn4;have q3:=BB.out.now.1.cell;have hs9:=BB.out.now.2.2.1;have⟨u0,u1,u2,g0,g1,g2⟩:=hs9.s6;have HS:=hs9.set (.slice none 0 0) (.bool false) (.slice none 0 0);have HE:=Lib.hid (RatTold3.done false BB.out.below (show w.heap.size<=w.heap.size+1 by omega) hs9 (RatAt.zero _));clear hs9
  go_wp2_with (first
   | (go_at_call 114;(with_reducible refine(ZE.out _ _ _ _ BB.out.now.2.1).mono ?_);rintro e w4 ⟨rfl,hb4⟩;have BB:=Lib.hid (BB.out.go hb4);clear hb4;have hs9:=BB.out.now.2.2.1;have u0:=hs9.cell;have u1:=hs9.cell1;have u2:=hs9.cell2;have g0:=hs9.free;have g1:=hs9.free1;have g2:=hs9.free2;have HS:=hs9.set (.slice none 0 0) (.bool false) (.slice none 0 0);have HE:=Lib.hid (RatTold3.done false BB.out.below (show w.heap.size<=w.heap.size+1 by omega) hs9 (RatAt.zero _));clear hs9))
  exact bodyPost_ret (by simp[results,Tryz.results55,go_sem,HS]) rfl HE.out
def ofO(b:Bool)(s t:ByteArray):Bool:=ofK s t&&decide (rB (ofP b s t)=b/\rS (ofP b s t)=s/\str (dec (ofQ b s t))=t)
theorem of_any' (b : Bool) (s t : ByteArray) (w : World) (hs : s.size <= 60) (ht : t.size <= 60) :
    Calls Tryz.prog 55 #[.agg #[.bool b,.string s,.string t]] w fun e w'=>RatTold3 w w' e (if ofO b s t then ofP b s t else 0) (if ofO b s t then ofQ b s t else 1) (ofO b s t):=by
 cases hk:ofK s t with
 | false =>
  have e:ofO b s t=false:=by unfold ofO;rw[hk];rfl
  rw[e];exact of_none b s t w hs ht hk
 | true =>
  have e:ofO b s t=decide (rB (ofP b s t)=b/\rS (ofP b s t)=s/\str (dec (ofQ b s t))=t):=by unfold ofO;rw[hk,Bool.true_and]
  rw[e];exact of_some b s t w hs ht hk _ rfl
theorem ofO_all(b:Bool)(s t:ByteArray):ofO b s t=(okB s.data.toList&&(okB t.data.toList&&(decide (str (dec (numOf s.data.toList))=s)&&(decide (str (dec (numOf t.data.toList))=t)&&(!decide (numOf t.data.toList=0)&&(decide (Nat.gcd (numOf s.data.toList) (numOf t.data.toList)=1) && !(b&&decide (numOf s.data.toList=0)))))))):=by
 unfold ofO ofK ofP ofQ
 by_cases h0:numOf t.data.toList=0
 · rw[decide_eq_true h0];simp
 · rw[of_right b s t (by omega),decide_eq_false h0]
   cases okB s.data.toList<;>cases okB t.data.toList<;>simp
theorem str_beq(s t:ByteArray):(s.toList==t.toList)=decide (s=t):=by
 rw[Bool.eq_iff_iff,beq_iff_eq,decide_eq_true_eq]
 constructor
 · intro h;rw[ByteArray.toList_eq,ByteArray.toList_eq]at h;exact ByteArray.ext (Array.toList_inj.1 h)
 · intro h;rw[h]
theorem r3Right_any (b : Bool) (s t : ByteArray) (w : World) (hs : s.size <= 60) (ht : t.size <= 60) :
    Calls Tryz.prog 54 #[.agg #[.bool b,.string s,.string t]] w fun e w'=>e=.returned (.bool (ofO b s t))/\Below w.heap.size w w':=by
 rw[ofO_all];have BB:=Lib.hid ((Bag.start w).box3 (.bool b) (.string s) (.string t) 46);have R1:=Lib.hid (fun wz=>right_any s wz (by unfold maxLen;omega));have R2:=Lib.hid (fun wz=>right_any t wz (by unfold maxLen;omega))
 have TR:∀(u:ByteArray) (hu:u.size<=60) (h:okB u.data.toList=true) wz,Calls Tryz.prog 111 #[.string u] wz fun e w'=>e=.returned (.string (str (dec (numOf u.data.toList))))/\wz=w':=by
  intro u hu h wz;obtain⟨g1,g2,g3⟩:=okB_digs h;have hl:u.data.toList.length=u.size:=rfl;have:=trim_any (numOf u.data.toList) u.data.toList.length wz g1 (numOf_lt _ g3) (by omega);rw[sdig_numOf _ g3]at this;exact this
 have T1:=Lib.hid (fun wz h=>TR s hs h wz);have T2:=Lib.hid (fun wz h=>TR t ht h wz)
 have hl1:dl (numOf s.data.toList)<=900∨okB s.data.toList=false:=by
  cases h:okB s.data.toList with
  | false=>exact .inr rfl
  | true =>
   obtain⟨g1,g2,g3⟩:=okB_digs h;exact .inl (Nat.le_trans (dl_le _ _ g1 (numOf_lt _ g3)) (by have:s.data.toList.length=s.size:=rfl;omega))
 obtain⟨E,hE⟩:∃E,E=1000:=⟨_,rfl⟩
 have hl2:(dl (numOf t.data.toList)<=900/\numOf t.data.toList<2^E)∨okB t.data.toList=false:=by
  cases h:okB t.data.toList with
  | false=>exact .inr rfl
  | true =>
   obtain⟨g1,g2,g3⟩:=okB_digs h;have hl:t.data.toList.length=t.size:=rfl;refine .inl ⟨Nat.le_trans (dl_le _ _ g1 (numOf_lt _ g3)) (by omega),Nat.lt_of_lt_of_le (numOf_lt _ g3) (Nat.le_trans (Nat.pow_le_pow_right (by omega) (show t.data.toList.length<=60 by omega)) ?_)⟩;exact Nat.le_trans (Nat.pow_le_pow_left (show 10<=2^4 by decide) 60) (by rw[← Nat.pow_mul];exact Nat.pow_le_pow_right (by omega) (by omega))
 generalize hN:numOf s.data.toList=N at *;generalize hM:numOf t.data.toList=M at *
 have GC:∀wz,okB s.data.toList=true->okB t.data.toList=true->str (dec N)=s->str (dec M)=t->Calls Tryz.prog 112 #[.string s,.string t] wz fun e w'=>e=.returned (.string (str (dec (Nat.gcd N M))))/\Below wz.heap.size wz w':=by
  intro wz h1 h2 h3 h4;have:=rgcd_any N M wz (by rcases hl1 with h|h;exact h;rw[h1]at h;cases h) (by rcases hl2 with h|h;exact h.1;rw[h2]at h;cases h) E (by omega) (by rcases hl2 with h|h;exact h.2;rw[h2]at h;cases h);rw[h3,h4]at this;exact this
 have hz1:decide (M=0)=((str (dec M)).toList == [48]):=(dec_isnt0 M).symm;have hz0:decide (N=0)=((str (dec N)).toList == [48]):=(dec_isnt0 N).symm;have hg1:decide (Nat.gcd N M=1)=((str (dec (Nat.gcd N M))).toList == [49]):=(dec_is1 _).symm;generalize okB s.data.toList=r1 at *;generalize okB t.data.toList=r2 at *;have d1:=str_beq (str (dec N)) s;have d2:=str_beq (str (dec M)) t;rw[← d1,← d2,hz1,hz0,hg1];have GC:=Lib.hid GC;generalize str (dec (Nat.gcd N M))=gg at *;generalize str (dec N)=s1 at *;generalize str (dec M)=t1 at *;have D1:Hid ((s1.toList==s.toList)=true->s1=s):=fun h=>of_decide_eq_true (d1.symm.trans h)
 have D2:Hid ((t1.toList==t.toList)=true->t1=t):=fun h=>of_decide_eq_true (d2.symm.trans h)
 clear TR hl1 hl2 hN hM hs ht hz1 hz0 hg1 d1 d2;obtain⟨e1,he1⟩:∃e,(s1.toList==s.toList)=e:=⟨_,rfl⟩
 obtain⟨e2,he2⟩:∃e,(t1.toList==t.toList)=e:=⟨_,rfl⟩
 obtain⟨z,hz⟩:∃e,(t.toList == [48])=e:=⟨_,rfl⟩
 obtain⟨x13,h13⟩:∃x,x=(!r1 || !r2):=⟨_,rfl⟩
 obtain⟨x21,h21⟩:∃x,x=(x13 || !e1):=⟨_,rfl⟩
 obtain⟨x29,h29⟩:∃x,x=(x21 || !e2):=⟨_,rfl⟩
 obtain⟨x33,h33⟩:∃x,x=(x29||z):=⟨_,rfl⟩
 have OR:∀x y z:Bool,z=(x||y)->((x=true->z=true)/\(x=false->z=y)):=by intro x y z h;subst h;cases x<;>simp
 have P1:Hid ((!r1)=true->x13=true):=(OR _ _ _ h13).1;have Q1:Hid ((!r1)=false->x13 = !r2):=(OR _ _ _ h13).2;have P2:Hid (x13=true->x21=true):=(OR _ _ _ h21).1;have Q2:Hid (x13=false->x21 = !e1):=(OR _ _ _ h21).2;have P3:Hid (x21=true->x29=true):=(OR _ _ _ h29).1;have Q3:Hid (x21=false->x29 = !e2):=(OR _ _ _ h29).2;have P4:Hid (x29=true->x33=true):=(OR _ _ _ h33).1;have Q4:Hid (x29=false->x33=z):=(OR _ _ _ h33).2;have N1:Hid (x13=false->r1=true):=by intro h;rw[h]at h13;cases r1;cases h13;rfl
 have N2:Hid (x21=false->r2=true):=by intro h;rw[h]at h21;cases hx:x13;rw[hx]at h13;cases r2;cases r1<;>cases h13;rfl;rw[hx]at h21;cases h21
 have LAST0:(x33=true->∀G,(r1&&(r2&&(e1&&(e2&&(!(t1.toList == [48])&&G)))))=false)/\(x33=false->r1=true/\r2=true/\e1=true/\e2=true/\z=false):=by
  rw[h33,h29,h21,h13]
  refine⟨fun h G => ?_,fun h => ?_⟩
  · cases hh:e2 with
    | false=>simp
    | true =>
     have h4:=D2.out (he2.trans hh);rw[h4,hz];rw[hh]at h
     cases r1<;>cases r2<;>cases e1<;>cases z<;>first|rfl|cases h
  · cases r1<;>cases r2<;>cases e1<;>cases e2<;>cases z<;>first|exact⟨rfl,rfl,rfl,rfl,rfl⟩|cases h
 have LAST:=Lib.hid LAST0;rw[he1,he2];clear LAST0 hE OR h13 h21 h29 h33;go_enter Tryz.func54,Tryz.ntmps54;go_wp2_with fail
 refine wp_region_inv ⟨(fun j=>([[3], [4], [5], [6], [7], [8], [9], [10], [11], [12], [13], [14], [15], [16], [17], [18], [19], [20], [21], [22], [23], [24], [25], [26], [27], [28], [29], [30], [31], [32], [33]]:List (List Nat)).getD j []),(fun j=>([[], [0], [0,1], [0,1,2], [0,1,2,3], [0,1,2,3,4], [0,1,2,3,4,5], [0,1,2,3,4,5,6], [0,1,2,3,4,5,6,7], [0,1,2,3,4,5,6,7,8], [0,1,2,3,4,5,6,7,8,9], [0,1,2,3,4,5,6,7,8,9,10], [0,1,2,3,4,5,6,7,8,9,10,11], [0,1,2,3,4,5,6,7,8,9,10,11,12], [0,1,2,3,4,5,6,7,8,9,10], [0,1,2,3,4,5,6,7,8,9,10,14], [0,1,2,3,4,5,6,7,8,9,10,11,12,13,14,15], [0,1,2,3,4,5,6,7,8,9,10,11,12,13,14,15,16], [0,1,2,3,4,5,6,7,8,9,10,11,12,13,14,15,16,17], [0,1,2,3,4,5,6,7,8,9,10,11,12,13,14,15,16,17,18], [0,1,2,3,4,5,6,7,8,9,10,11,12,13,14,15,16,17,18,19], [0,1,2,3,4,5,6,7,8,9,10,11,12,13,14,15,16,17,18,19,20], [0,1,2,3,4,5,6,7,8,9,10,11,12,13,14,15,16,17,18], [0,1,2,3,4,5,6,7,8,9,10,11,12,13,14,15,16,17,18,22], [0,1,2,3,4,5,6,7,8,9,10,11,12,13,14,15,16,17,18,19,20,21,22,23], [0,1,2,3,4,5,6,7,8,9,10,11,12,13,14,15,16,17,18,19,20,21,22,23,24], [0,1,2,3,4,5,6,7,8,9,10,11,12,13,14,15,16,17,18,19,20,21,22,23,24,25], [0,1,2,3,4,5,6,7,8,9,10,11,12,13,14,15,16,17,18,19,20,21,22,23,24,25,26], [0,1,2,3,4,5,6,7,8,9,10,11,12,13,14,15,16,17,18,19,20,21,22,23,24,25,26,27], [0,1,2,3,4,5,6,7,8,9,10,11,12,13,14,15,16,17,18,19,20,21,22,23,24,25,26,27,28], [0,1,2,3,4,5,6,7,8,9,10,11,12,13,14,15,16,17,18,19,20,21,22,23,24,25,26,27,28,29]]:List (List Nat)).getD j []), []⟩ (fun jj vv yy=>match jj with|0=>vv = [some (.pointer (some ⟨w.heap.size,1,none⟩))]|1=>vv = [some (.string s)]|2=>vv = [some (.bool r1)]|3=>vv = [some (.bool (!r1))]|4=>vv = [some (.bool (!r1))]|5=>((!r1)=false)->(vv = [some (.pointer (some ⟨w.heap.size,2,none⟩))])|6=>((!r1)=false)->(vv = [some (.string t)])|7=>((!r1)=false)->(vv = [some (.bool r2)])|8=>((!r1)=false)->(vv = [some (.bool (!r2))])|9=>vv = [some (.bool x13)]|10=>vv = [some (.bool x13)]|11=>(x13=false)->(vv = [some (.pointer (some ⟨w.heap.size,1,none⟩))])|12=>(x13=false)->(vv = [some (.string s)])|13=>(x13=false)->(vv = [some (.string s1)])|14=>(x13=false)->(vv = [some (.pointer (some ⟨w.heap.size,1,none⟩))])|15=>(x13=false)->(vv = [some (.string s)])|16=>(x13=false)->(vv = [some (.bool (!e1))])|17=>vv = [some (.bool x21)]|18=>vv = [some (.bool x21)]|19=>(x21=false)->(vv = [some (.pointer (some ⟨w.heap.size,2,none⟩))])|20=>(x21=false)->(vv = [some (.string t)])|21=>(x21=false)->(vv = [some (.string t1)])|22=>(x21=false)->(vv = [some (.pointer (some ⟨w.heap.size,2,none⟩))])|23=>(x21=false)->(vv = [some (.string t)])|24=>(x21=false)->(vv = [some (.bool (!e2))])|25=>vv = [some (.bool x29)]|26=>vv = [some (.bool x29)]|27=>(x29=false)->(vv = [some (.pointer (some ⟨w.heap.size,2,none⟩))])|28=>(x29=false)->(vv = [some (.string t)])|29=>(x29=false)->(vv = [some (.bool z)])|30=>vv = [some (.bool x33)]|_=>True) (Bag w (fun y=>Slot3 y w.heap.size (.bool b) (.string s) (.string t)/\True)) (by kernel_rfl) (by kernel_rfl) (by kernel_rfl) BB.out.drew ?_ ?_ ?_
 · intro jj vv yw yw2 hb h
   match jj,h with
   | 0,h=>exact h
   | 1,h=>exact h
   | 2,h=>exact h
   | 3,h=>exact h
   | 4,h=>exact h
   | 5,h=>exact h
   | 6,h=>exact h
   | 7,h=>exact h
   | 8,h=>exact h
   | 9,h=>exact h
   | 10,h=>exact h
   | 11,h=>exact h
   | 12,h=>exact h
   | 13,h=>exact h
   | 14,h=>exact h
   | 15,h=>exact h
   | 16,h=>exact h
   | 17,h=>exact h
   | 18,h=>exact h
   | 19,h=>exact h
   | 20,h=>exact h
   | 21,h=>exact h
   | 22,h=>exact h
   | 23,h=>exact h
   | 24,h=>exact h
   | 25,h=>exact h
   | 26,h=>exact h
   | 27,h=>exact h
   | 28,h=>exact h
   | 29,h=>exact h
   | 30,h=>exact h
   | _+31,h=>exact h
 · intro ac yw hsz hdf hold hB hp;have t33:ac.tmps[33]? = some (.bool x33):=(List.cons.inj (hp 30 (by decide))).1;have t1':ac.tmps[1]? = some (.pointer (some ⟨w.heap.size,0,none⟩)):=hold 1 (by kernel_rfl);clear hold hp;have⟨q0,q1,q2⟩:=hB.now.1.c3;obtain⟨F,hF⟩:∃F:Nat->Value,∀i,(ac.tmps[i]?).getD undef=F i:=⟨_,fun _=>rfl⟩
   have f33:=(hF 33).symm.trans (congrArg (fun x=>Option.getD x undef) t33);have f1:=(hF 1).symm.trans (congrArg (fun x=>Option.getD x undef) t1');have hac:=act_eq (n:=50) hsz F hF;rw[show((List.range 50).map F).toArray=#[F 0,F 1,F 2,F 3,F 4,F 5,F 6,F 7,F 8,F 9,F 10,F 11,F 12,F 13,F 14,F 15,F 16,F 17,F 18,F 19,F 20,F 21,F 22,F 23,F 24,F 25,F 26,F 27,F 28,F 29,F 30,F 31,F 32,F 33,F 34,F 35,F 36,F 37,F 38,F 39,F 40,F 41,F 42,F 43,F 44,F 45,F 46,F 47,F 48,F 49]from rfl,f33,f1,hdf]at hac;simp only[Option.getD_some]at hac;subst hac;clear hF f33 f1;obtain⟨L1,L2⟩:=LAST.out;have BB:=Lib.hid hB;clear LAST P1 Q1 P2 Q2 P3 Q3 P4 Q4 N1 N2 R1 R2 T1 T2 hB
   cases x33 with
   | true =>
    have L3:=Lib.hid (L1 rfl);clear L1 L2 GC he1 he2 hz D1 D2;go_wp2;go_ret;exact⟨congrArg (fun b=>Ending.returned (.bool b)) (L3.out _).symm,BB.out.below⟩
   | false =>
    obtain⟨rfl,rfl,rfl,rfl,rfl⟩:=L2 rfl;obtain rfl:=D1.out he1;obtain rfl:=D2.out he2;have GC2:=Lib.hid (fun wz=>GC.out wz rfl rfl rfl rfl);clear GC;obtain⟨g,hg⟩:∃g,(gg.toList == [49])=g:=⟨_,rfl⟩
    obtain⟨z0,hz0⟩:∃g,(s1.toList == [48])=g:=⟨_,rfl⟩
    have HZ:=Lib.hid (And.intro hz (And.intro hg hz0));clear L1 L2 he1 he2 D1 D2
    cases g<;>cases b<;>cases z0
    all_goals
     go_wp2_with fail;go_at_call 112;(with_reducible refine(GC2.out _).mono ?_);rintro e w2 ⟨rfl,hb2⟩;have BB:=bgo BB hb2;have⟨q0,q1,q2⟩:=BB.out.now.1.c3;go_wp2;go_ret;exact⟨congrArg (fun b=>Ending.returned (.bool b)) (by rw[HZ.out.1,HZ.out.2.1,HZ.out.2.2];rfl),BB.out.below⟩
 refine Stps.cons (o:=_) ?_ ?_
 · intro ac yw hsz hold hB hp K hK;have t1:ac.tmps[1]? = some (.pointer (some ⟨w.heap.size,0,none⟩)):=hold 1 (by kernel_rfl);clear hold hp hsz;go_simp;exact hK.out _ _ ⟨hB,rfl,Nat.le_refl _,.inl (Below.refl _ _),fun h=>absurd h (by decide)⟩
 refine Stps.cons (o:=_) ?_ ?_
 · intro ac yw hsz hold hB hp K hK;have e0:=hp 0 (by decide);have t3:ac.tmps[3]? = some (.pointer (some ⟨w.heap.size,1,none⟩)):=(List.cons.inj e0).1;clear hold hp hsz e0;have⟨q0,q1,q2⟩:=hB.now.1.c3;go_simp;exact hK.out _ _ ⟨hB,rfl,Nat.le_refl _,.inl (Below.refl _ _),fun h=>absurd h (by decide)⟩
 refine Stps.cons (o:=_) ?_ ?_
 · intro ac yw hsz hold hB hp K hK;have e1:=hp 1 (by decide);have t4:ac.tmps[4]? = some (.string s):=(List.cons.inj e1).1;clear hold hp hsz e1;go_simp
   (go_at_call 110;(with_reducible refine(R1.out _).mono ?_);rintro e wz ⟨rfl,rfl⟩;have hbz:=Below.refl yw.heap.size yw)
   exact hK.out _ _ ⟨hB.go hbz,rfl,hbz.size,.inl hbz,fun h=>absurd h (by decide)⟩
 refine Stps.cons (o:=_) ?_ ?_
 · intro ac yw hsz hold hB hp K hK;have e2:=hp 2 (by decide);have t5:ac.tmps[5]? = some (.bool r1):=(List.cons.inj e2).1;clear hold hp hsz e2;go_simp;exact hK.out _ _ ⟨hB,rfl,Nat.le_refl _,.inl (Below.refl _ _),fun h=>absurd h (by decide)⟩
 refine Stps.cons (o:=_) ?_ ?_
 · intro ac yw hsz hold hB hp K hK;have e3:=hp 3 (by decide);have t6:ac.tmps[6]? = some (.bool (!r1)):=(List.cons.inj e3).1;clear hold hp hsz e3;go_simp;exact hK.out _ _ ⟨hB,rfl,Nat.le_refl _,.inl (Below.refl _ _),fun h=>absurd h (by decide)⟩
 refine Stps.cons (o:=_) ?_ ?_
 · intro ac yw hsz hold hB hp K hK;have t7:ac.tmps[7]? = some (.bool (!r1)):=(List.cons.inj (hp 4 (by decide))).1
   by_cases hc:((!r1))=false
   · rw[hc]at t7;rw[if_pos (wanted_pos rfl rfl t7)];have t1:ac.tmps[1]? = some (.pointer (some ⟨w.heap.size,0,none⟩)):=hold 1 (by kernel_rfl);clear hold hp hsz;go_simp;exact hK.out _ _ ⟨hB,fun _=>rfl,Nat.le_refl _,.inl (Below.refl _ _),fun h=>absurd h (by decide)⟩
   · rw[if_neg (by rw[wanted_neg rfl rfl t7 (fun e=>hc (by injection e))];decide)];exact hK.out _ _ ⟨hB,fun h=>absurd h hc,Nat.le_refl _,.inl (Below.refl _ _),fun h=>absurd h (by decide)⟩
 refine Stps.cons (o:=_) ?_ ?_
 · intro ac yw hsz hold hB hp K hK;have t7:ac.tmps[7]? = some (.bool (!r1)):=(List.cons.inj (hp 4 (by decide))).1
   by_cases hc:((!r1))=false
   · rw[hc]at t7;rw[if_pos (wanted_pos rfl rfl t7)];have e5:=hp 5 (by decide) hc;have t8:ac.tmps[8]? = some (.pointer (some ⟨w.heap.size,2,none⟩)):=(List.cons.inj e5).1;clear hold hp hsz e5;have⟨q0,q1,q2⟩:=hB.now.1.c3;go_simp;exact hK.out _ _ ⟨hB,fun _=>rfl,Nat.le_refl _,.inl (Below.refl _ _),fun h=>absurd h (by decide)⟩
   · rw[if_neg (by rw[wanted_neg rfl rfl t7 (fun e=>hc (by injection e))];decide)];exact hK.out _ _ ⟨hB,fun h=>absurd h hc,Nat.le_refl _,.inl (Below.refl _ _),fun h=>absurd h (by decide)⟩
 refine Stps.cons (o:=_) ?_ ?_
 · intro ac yw hsz hold hB hp K hK;have t7:ac.tmps[7]? = some (.bool (!r1)):=(List.cons.inj (hp 4 (by decide))).1
   by_cases hc:((!r1))=false
   · rw[hc]at t7;rw[if_pos (wanted_pos rfl rfl t7)];have e6:=hp 6 (by decide) hc;have t9:ac.tmps[9]? = some (.string t):=(List.cons.inj e6).1;clear hold hp hsz e6;go_simp
     (go_at_call 110;(with_reducible refine(R2.out _).mono ?_);rintro e wz ⟨rfl,rfl⟩;have hbz:=Below.refl yw.heap.size yw)
     exact hK.out _ _ ⟨hB.go hbz,fun _=>rfl,hbz.size,.inl hbz,fun h=>absurd h (by decide)⟩
   · rw[if_neg (by rw[wanted_neg rfl rfl t7 (fun e=>hc (by injection e))];decide)];exact hK.out _ _ ⟨hB,fun h=>absurd h hc,Nat.le_refl _,.inl (Below.refl _ _),fun h=>absurd h (by decide)⟩
 refine Stps.cons (o:=_) ?_ ?_
 · intro ac yw hsz hold hB hp K hK;have t7:ac.tmps[7]? = some (.bool (!r1)):=(List.cons.inj (hp 4 (by decide))).1
   by_cases hc:((!r1))=false
   · rw[hc]at t7;rw[if_pos (wanted_pos rfl rfl t7)];have e7:=hp 7 (by decide) hc;have t10:ac.tmps[10]? = some (.bool r2):=(List.cons.inj e7).1;clear hold hp hsz e7;go_simp;exact hK.out _ _ ⟨hB,fun _=>rfl,Nat.le_refl _,.inl (Below.refl _ _),fun h=>absurd h (by decide)⟩
   · rw[if_neg (by rw[wanted_neg rfl rfl t7 (fun e=>hc (by injection e))];decide)];exact hK.out _ _ ⟨hB,fun h=>absurd h hc,Nat.le_refl _,.inl (Below.refl _ _),fun h=>absurd h (by decide)⟩
 refine Stps.cons (o:=_) ?_ ?_
 · intro ac yw hsz hold hB hp K hK;have t7:ac.tmps[7]? = some (.bool (!r1)):=(List.cons.inj (hp 4 (by decide))).1
   by_cases hc:((!r1))=true
   · rw[hc]at t7;clear hold hp hsz;go_simp;exact hK.out _ _ ⟨hB,congrArg (fun b => [some (Value.bool b)]) (P1.out hc).symm,Nat.le_refl _,.inl (Below.refl _ _),fun h=>absurd h (by decide)⟩
   · have hc:((!r1))=false:=by simpa using hc
     rw[hc]at t7;have t11:ac.tmps[11]? = some (.bool (!r2)):=(List.cons.inj (hp 8 (by decide) hc)).1;clear hold hp hsz;go_simp;exact hK.out _ _ ⟨hB,congrArg (fun b => [some (Value.bool b)]) (Q1.out hc).symm,Nat.le_refl _,.inl (Below.refl _ _),fun h=>absurd h (by decide)⟩
 refine Stps.cons (o:=_) ?_ ?_
 · intro ac yw hsz hold hB hp K hK;have e9:=hp 9 (by decide);have t12:ac.tmps[12]? = some (.bool x13):=(List.cons.inj e9).1;clear hold hp hsz e9;go_simp;exact hK.out _ _ ⟨hB,rfl,Nat.le_refl _,.inl (Below.refl _ _),fun h=>absurd h (by decide)⟩
 refine Stps.cons (o:=_) ?_ ?_
 · intro ac yw hsz hold hB hp K hK;have t13:ac.tmps[13]? = some (.bool x13):=(List.cons.inj (hp 10 (by decide))).1
   by_cases hc:(x13)=false
   · rw[hc]at t13;rw[if_pos (wanted_pos rfl rfl t13)];have t1:ac.tmps[1]? = some (.pointer (some ⟨w.heap.size,0,none⟩)):=hold 1 (by kernel_rfl);clear hold hp hsz;go_simp;exact hK.out _ _ ⟨hB,fun _=>rfl,Nat.le_refl _,.inl (Below.refl _ _),fun h=>absurd h (by decide)⟩
   · rw[if_neg (by rw[wanted_neg rfl rfl t13 (fun e=>hc (by injection e))];decide)];exact hK.out _ _ ⟨hB,fun h=>absurd h hc,Nat.le_refl _,.inl (Below.refl _ _),fun h=>absurd h (by decide)⟩
 refine Stps.cons (o:=_) ?_ ?_
 · intro ac yw hsz hold hB hp K hK;have t13:ac.tmps[13]? = some (.bool x13):=(List.cons.inj (hp 10 (by decide))).1
   by_cases hc:(x13)=false
   · rw[hc]at t13;rw[if_pos (wanted_pos rfl rfl t13)];have e11:=hp 11 (by decide) hc;have t14:ac.tmps[14]? = some (.pointer (some ⟨w.heap.size,1,none⟩)):=(List.cons.inj e11).1;clear hold hp hsz e11;have⟨q0,q1,q2⟩:=hB.now.1.c3;go_simp;exact hK.out _ _ ⟨hB,fun _=>rfl,Nat.le_refl _,.inl (Below.refl _ _),fun h=>absurd h (by decide)⟩
   · rw[if_neg (by rw[wanted_neg rfl rfl t13 (fun e=>hc (by injection e))];decide)];exact hK.out _ _ ⟨hB,fun h=>absurd h hc,Nat.le_refl _,.inl (Below.refl _ _),fun h=>absurd h (by decide)⟩
 refine Stps.cons (o:=_) ?_ ?_
 · intro ac yw hsz hold hB hp K hK;have t13:ac.tmps[13]? = some (.bool x13):=(List.cons.inj (hp 10 (by decide))).1
   by_cases hc:(x13)=false
   · rw[hc]at t13;rw[if_pos (wanted_pos rfl rfl t13)];have e12:=hp 12 (by decide) hc;have t15:ac.tmps[15]? = some (.string s):=(List.cons.inj e12).1;clear hold hp hsz e12;go_simp
     (go_at_call 111;(with_reducible refine(T1.out _ (N1.out hc)).mono ?_);rintro e wz ⟨rfl,rfl⟩;have hbz:=Below.refl yw.heap.size yw)
     exact hK.out _ _ ⟨hB.go hbz,fun _=>rfl,hbz.size,.inl hbz,fun h=>absurd h (by decide)⟩
   · rw[if_neg (by rw[wanted_neg rfl rfl t13 (fun e=>hc (by injection e))];decide)];exact hK.out _ _ ⟨hB,fun h=>absurd h hc,Nat.le_refl _,.inl (Below.refl _ _),fun h=>absurd h (by decide)⟩
 refine Stps.cons (o:=_) ?_ ?_
 · intro ac yw hsz hold hB hp K hK;have t13:ac.tmps[13]? = some (.bool x13):=(List.cons.inj (hp 10 (by decide))).1
   by_cases hc:(x13)=false
   · rw[hc]at t13;rw[if_pos (wanted_pos rfl rfl t13)];have t1:ac.tmps[1]? = some (.pointer (some ⟨w.heap.size,0,none⟩)):=hold 1 (by kernel_rfl);clear hold hp hsz;go_simp;exact hK.out _ _ ⟨hB,fun _=>rfl,Nat.le_refl _,.inl (Below.refl _ _),fun h=>absurd h (by decide)⟩
   · rw[if_neg (by rw[wanted_neg rfl rfl t13 (fun e=>hc (by injection e))];decide)];exact hK.out _ _ ⟨hB,fun h=>absurd h hc,Nat.le_refl _,.inl (Below.refl _ _),fun h=>absurd h (by decide)⟩
 refine Stps.cons (o:=_) ?_ ?_
 · intro ac yw hsz hold hB hp K hK;have t13:ac.tmps[13]? = some (.bool x13):=(List.cons.inj (hp 10 (by decide))).1
   by_cases hc:(x13)=false
   · rw[hc]at t13;rw[if_pos (wanted_pos rfl rfl t13)];have e14:=hp 14 (by decide) hc;have t17:ac.tmps[17]? = some (.pointer (some ⟨w.heap.size,1,none⟩)):=(List.cons.inj e14).1;clear hold hp hsz e14;have⟨q0,q1,q2⟩:=hB.now.1.c3;go_simp;exact hK.out _ _ ⟨hB,fun _=>rfl,Nat.le_refl _,.inl (Below.refl _ _),fun h=>absurd h (by decide)⟩
   · rw[if_neg (by rw[wanted_neg rfl rfl t13 (fun e=>hc (by injection e))];decide)];exact hK.out _ _ ⟨hB,fun h=>absurd h hc,Nat.le_refl _,.inl (Below.refl _ _),fun h=>absurd h (by decide)⟩
 refine Stps.cons (o:=_) ?_ ?_
 · intro ac yw hsz hold hB hp K hK;have t13:ac.tmps[13]? = some (.bool x13):=(List.cons.inj (hp 10 (by decide))).1
   by_cases hc:(x13)=false
   · rw[hc]at t13;rw[if_pos (wanted_pos rfl rfl t13)];have e13:=hp 13 (by decide) hc;have t16:ac.tmps[16]? = some (.string s1):=(List.cons.inj e13).1;have e15:=hp 15 (by decide) hc;have t18:ac.tmps[18]? = some (.string s):=(List.cons.inj e15).1;clear hold hp hsz e13 e15;go_simp;exact hK.out _ _ ⟨hB,fun _=>rfl,Nat.le_refl _,.inl (Below.refl _ _),fun h=>absurd h (by decide)⟩
   · rw[if_neg (by rw[wanted_neg rfl rfl t13 (fun e=>hc (by injection e))];decide)];exact hK.out _ _ ⟨hB,fun h=>absurd h hc,Nat.le_refl _,.inl (Below.refl _ _),fun h=>absurd h (by decide)⟩
 refine Stps.cons (o:=_) ?_ ?_
 · intro ac yw hsz hold hB hp K hK;have t13:ac.tmps[13]? = some (.bool x13):=(List.cons.inj (hp 10 (by decide))).1
   by_cases hc:(x13)=true
   · rw[hc]at t13;clear hold hp hsz;go_simp;exact hK.out _ _ ⟨hB,congrArg (fun b => [some (Value.bool b)]) (P2.out hc).symm,Nat.le_refl _,.inl (Below.refl _ _),fun h=>absurd h (by decide)⟩
   · have hc:(x13)=false:=by simpa using hc
     rw[hc]at t13;have t19:ac.tmps[19]? = some (.bool (!e1)):=(List.cons.inj (hp 16 (by decide) hc)).1;clear hold hp hsz;go_simp;exact hK.out _ _ ⟨hB,congrArg (fun b => [some (Value.bool b)]) (Q2.out hc).symm,Nat.le_refl _,.inl (Below.refl _ _),fun h=>absurd h (by decide)⟩
 refine Stps.cons (o:=_) ?_ ?_
 · intro ac yw hsz hold hB hp K hK;have e17:=hp 17 (by decide);have t20:ac.tmps[20]? = some (.bool x21):=(List.cons.inj e17).1;clear hold hp hsz e17;go_simp;exact hK.out _ _ ⟨hB,rfl,Nat.le_refl _,.inl (Below.refl _ _),fun h=>absurd h (by decide)⟩
 refine Stps.cons (o:=_) ?_ ?_
 · intro ac yw hsz hold hB hp K hK;have t21:ac.tmps[21]? = some (.bool x21):=(List.cons.inj (hp 18 (by decide))).1
   by_cases hc:(x21)=false
   · rw[hc]at t21;rw[if_pos (wanted_pos rfl rfl t21)];have t1:ac.tmps[1]? = some (.pointer (some ⟨w.heap.size,0,none⟩)):=hold 1 (by kernel_rfl);clear hold hp hsz;go_simp;exact hK.out _ _ ⟨hB,fun _=>rfl,Nat.le_refl _,.inl (Below.refl _ _),fun h=>absurd h (by decide)⟩
   · rw[if_neg (by rw[wanted_neg rfl rfl t21 (fun e=>hc (by injection e))];decide)];exact hK.out _ _ ⟨hB,fun h=>absurd h hc,Nat.le_refl _,.inl (Below.refl _ _),fun h=>absurd h (by decide)⟩
 refine Stps.cons (o:=_) ?_ ?_
 · intro ac yw hsz hold hB hp K hK;have t21:ac.tmps[21]? = some (.bool x21):=(List.cons.inj (hp 18 (by decide))).1
   by_cases hc:(x21)=false
   · rw[hc]at t21;rw[if_pos (wanted_pos rfl rfl t21)];have e19:=hp 19 (by decide) hc;have t22:ac.tmps[22]? = some (.pointer (some ⟨w.heap.size,2,none⟩)):=(List.cons.inj e19).1;clear hold hp hsz e19;have⟨q0,q1,q2⟩:=hB.now.1.c3;go_simp;exact hK.out _ _ ⟨hB,fun _=>rfl,Nat.le_refl _,.inl (Below.refl _ _),fun h=>absurd h (by decide)⟩
   · rw[if_neg (by rw[wanted_neg rfl rfl t21 (fun e=>hc (by injection e))];decide)];exact hK.out _ _ ⟨hB,fun h=>absurd h hc,Nat.le_refl _,.inl (Below.refl _ _),fun h=>absurd h (by decide)⟩
 refine Stps.cons (o:=_) ?_ ?_
 · intro ac yw hsz hold hB hp K hK;have t21:ac.tmps[21]? = some (.bool x21):=(List.cons.inj (hp 18 (by decide))).1
   by_cases hc:(x21)=false
   · rw[hc]at t21;rw[if_pos (wanted_pos rfl rfl t21)];have e20:=hp 20 (by decide) hc;have t23:ac.tmps[23]? = some (.string t):=(List.cons.inj e20).1;clear hold hp hsz e20;go_simp
     (go_at_call 111;(with_reducible refine(T2.out _ (N2.out hc)).mono ?_);rintro e wz ⟨rfl,rfl⟩;have hbz:=Below.refl yw.heap.size yw)
     exact hK.out _ _ ⟨hB.go hbz,fun _=>rfl,hbz.size,.inl hbz,fun h=>absurd h (by decide)⟩
   · rw[if_neg (by rw[wanted_neg rfl rfl t21 (fun e=>hc (by injection e))];decide)];exact hK.out _ _ ⟨hB,fun h=>absurd h hc,Nat.le_refl _,.inl (Below.refl _ _),fun h=>absurd h (by decide)⟩
 refine Stps.cons (o:=_) ?_ ?_
 · intro ac yw hsz hold hB hp K hK;have t21:ac.tmps[21]? = some (.bool x21):=(List.cons.inj (hp 18 (by decide))).1
   by_cases hc:(x21)=false
   · rw[hc]at t21;rw[if_pos (wanted_pos rfl rfl t21)];have t1:ac.tmps[1]? = some (.pointer (some ⟨w.heap.size,0,none⟩)):=hold 1 (by kernel_rfl);clear hold hp hsz;go_simp;exact hK.out _ _ ⟨hB,fun _=>rfl,Nat.le_refl _,.inl (Below.refl _ _),fun h=>absurd h (by decide)⟩
   · rw[if_neg (by rw[wanted_neg rfl rfl t21 (fun e=>hc (by injection e))];decide)];exact hK.out _ _ ⟨hB,fun h=>absurd h hc,Nat.le_refl _,.inl (Below.refl _ _),fun h=>absurd h (by decide)⟩
 refine Stps.cons (o:=_) ?_ ?_
 · intro ac yw hsz hold hB hp K hK;have t21:ac.tmps[21]? = some (.bool x21):=(List.cons.inj (hp 18 (by decide))).1
   by_cases hc:(x21)=false
   · rw[hc]at t21;rw[if_pos (wanted_pos rfl rfl t21)];have e22:=hp 22 (by decide) hc;have t25:ac.tmps[25]? = some (.pointer (some ⟨w.heap.size,2,none⟩)):=(List.cons.inj e22).1;clear hold hp hsz e22;have⟨q0,q1,q2⟩:=hB.now.1.c3;go_simp;exact hK.out _ _ ⟨hB,fun _=>rfl,Nat.le_refl _,.inl (Below.refl _ _),fun h=>absurd h (by decide)⟩
   · rw[if_neg (by rw[wanted_neg rfl rfl t21 (fun e=>hc (by injection e))];decide)];exact hK.out _ _ ⟨hB,fun h=>absurd h hc,Nat.le_refl _,.inl (Below.refl _ _),fun h=>absurd h (by decide)⟩
 refine Stps.cons (o:=_) ?_ ?_
 · intro ac yw hsz hold hB hp K hK;have t21:ac.tmps[21]? = some (.bool x21):=(List.cons.inj (hp 18 (by decide))).1
   by_cases hc:(x21)=false
   · rw[hc]at t21;rw[if_pos (wanted_pos rfl rfl t21)];have e21:=hp 21 (by decide) hc;have t24:ac.tmps[24]? = some (.string t1):=(List.cons.inj e21).1;have e23:=hp 23 (by decide) hc;have t26:ac.tmps[26]? = some (.string t):=(List.cons.inj e23).1;clear hold hp hsz e21 e23;go_simp;exact hK.out _ _ ⟨hB,fun _=>rfl,Nat.le_refl _,.inl (Below.refl _ _),fun h=>absurd h (by decide)⟩
   · rw[if_neg (by rw[wanted_neg rfl rfl t21 (fun e=>hc (by injection e))];decide)];exact hK.out _ _ ⟨hB,fun h=>absurd h hc,Nat.le_refl _,.inl (Below.refl _ _),fun h=>absurd h (by decide)⟩
 refine Stps.cons (o:=_) ?_ ?_
 · intro ac yw hsz hold hB hp K hK;have t21:ac.tmps[21]? = some (.bool x21):=(List.cons.inj (hp 18 (by decide))).1
   by_cases hc:(x21)=true
   · rw[hc]at t21;clear hold hp hsz;go_simp;exact hK.out _ _ ⟨hB,congrArg (fun b => [some (Value.bool b)]) (P3.out hc).symm,Nat.le_refl _,.inl (Below.refl _ _),fun h=>absurd h (by decide)⟩
   · have hc:(x21)=false:=by simpa using hc
     rw[hc]at t21;have t27:ac.tmps[27]? = some (.bool (!e2)):=(List.cons.inj (hp 24 (by decide) hc)).1;clear hold hp hsz;go_simp;exact hK.out _ _ ⟨hB,congrArg (fun b => [some (Value.bool b)]) (Q3.out hc).symm,Nat.le_refl _,.inl (Below.refl _ _),fun h=>absurd h (by decide)⟩
 refine Stps.cons (o:=_) ?_ ?_
 · intro ac yw hsz hold hB hp K hK;have e25:=hp 25 (by decide);have t28:ac.tmps[28]? = some (.bool x29):=(List.cons.inj e25).1;clear hold hp hsz e25;go_simp;exact hK.out _ _ ⟨hB,rfl,Nat.le_refl _,.inl (Below.refl _ _),fun h=>absurd h (by decide)⟩
 refine Stps.cons (o:=_) ?_ ?_
 · intro ac yw hsz hold hB hp K hK;have t29:ac.tmps[29]? = some (.bool x29):=(List.cons.inj (hp 26 (by decide))).1
   by_cases hc:(x29)=false
   · rw[hc]at t29;rw[if_pos (wanted_pos rfl rfl t29)];have t1:ac.tmps[1]? = some (.pointer (some ⟨w.heap.size,0,none⟩)):=hold 1 (by kernel_rfl);clear hold hp hsz;go_simp;exact hK.out _ _ ⟨hB,fun _=>rfl,Nat.le_refl _,.inl (Below.refl _ _),fun h=>absurd h (by decide)⟩
   · rw[if_neg (by rw[wanted_neg rfl rfl t29 (fun e=>hc (by injection e))];decide)];exact hK.out _ _ ⟨hB,fun h=>absurd h hc,Nat.le_refl _,.inl (Below.refl _ _),fun h=>absurd h (by decide)⟩
 refine Stps.cons (o:=_) ?_ ?_
 · intro ac yw hsz hold hB hp K hK;have t29:ac.tmps[29]? = some (.bool x29):=(List.cons.inj (hp 26 (by decide))).1
   by_cases hc:(x29)=false
   · rw[hc]at t29;rw[if_pos (wanted_pos rfl rfl t29)];have e27:=hp 27 (by decide) hc;have t30:ac.tmps[30]? = some (.pointer (some ⟨w.heap.size,2,none⟩)):=(List.cons.inj e27).1;clear hold hp hsz e27;have⟨q0,q1,q2⟩:=hB.now.1.c3;go_simp;exact hK.out _ _ ⟨hB,fun _=>rfl,Nat.le_refl _,.inl (Below.refl _ _),fun h=>absurd h (by decide)⟩
   · rw[if_neg (by rw[wanted_neg rfl rfl t29 (fun e=>hc (by injection e))];decide)];exact hK.out _ _ ⟨hB,fun h=>absurd h hc,Nat.le_refl _,.inl (Below.refl _ _),fun h=>absurd h (by decide)⟩
 refine Stps.cons (o:=_) ?_ ?_
 · intro ac yw hsz hold hB hp K hK;have t29:ac.tmps[29]? = some (.bool x29):=(List.cons.inj (hp 26 (by decide))).1
   by_cases hc:(x29)=false
   · rw[hc]at t29;rw[if_pos (wanted_pos rfl rfl t29)];have e28:=hp 28 (by decide) hc;have t31:ac.tmps[31]? = some (.string t):=(List.cons.inj e28).1;clear hold hp hsz e28;go_simp;exact hK.out _ _ ⟨hB,fun _=>rfl,Nat.le_refl _,.inl (Below.refl _ _),fun h=>absurd h (by decide)⟩
   · rw[if_neg (by rw[wanted_neg rfl rfl t29 (fun e=>hc (by injection e))];decide)];exact hK.out _ _ ⟨hB,fun h=>absurd h hc,Nat.le_refl _,.inl (Below.refl _ _),fun h=>absurd h (by decide)⟩
 refine Stps.cons (o:=_) ?_ ?_
 · intro ac yw hsz hold hB hp K hK;have t29:ac.tmps[29]? = some (.bool x29):=(List.cons.inj (hp 26 (by decide))).1
   by_cases hc:(x29)=true
   · rw[hc]at t29;clear hold hp hsz;go_simp;exact hK.out _ _ ⟨hB,congrArg (fun b => [some (Value.bool b)]) (P4.out hc).symm,Nat.le_refl _,.inl (Below.refl _ _),fun h=>absurd h (by decide)⟩
   · have hc:(x29)=false:=by simpa using hc
     rw[hc]at t29;have t32:ac.tmps[32]? = some (.bool z):=(List.cons.inj (hp 29 (by decide) hc)).1;clear hold hp hsz;go_simp;exact hK.out _ _ ⟨hB,congrArg (fun b => [some (Value.bool b)]) (Q4.out hc).symm,Nat.le_refl _,.inl (Below.refl _ _),fun h=>absurd h (by decide)⟩
 exact Stps.nil _
theorem RX.lt{w:World}{k:Nat}(h:RX w k):k<w.heap.size:=by
 obtain⟨x,z,h1⟩:=h;exact h1.lt
def RF(k:Nat)(b:Bool)(s:ByteArray)(b2:Bool)(s2:ByteArray)(y:World):Prop:=RX y (k+1+1)/\RX y (k+1+1+1)/\Slot2 y (k+1) (.bool b2) (.string s2)/\Slot2 y k (.bool b) (.string s)
theorem RF.stay{k:Nat}{b:Bool}{s:ByteArray}{b2:Bool}{s2:ByteArray}:∀x y,Below x.heap.size x y->RF k b s b2 s2 x->RF k b s b2 s2 y:=fun _ _ hb h=>⟨h.1.below hb,h.2.1.below hb,h.2.2.1.below hb,h.2.2.2.below hb⟩
theorem RF.start(w:World)(b:Bool)(s:ByteArray)(b2:Bool)(s2:ByteArray):Bag w (RF w.heap.size b s b2 s2) ((((w.alloc (.cells #[.bool b,.string s] 159)).alloc (.cells #[.bool b2,.string s2] 159)).alloc (.cells #[.bool false,.string ⟨#[]⟩] 159)).alloc (.cells #[.bool false,.string ⟨#[]⟩] 159)):=by
 have B0:=((((Bag.start w).box2 (.bool b) (.string s) 159).box2 (.bool b2) (.string s2) 159).box2 (.bool false) (.string ⟨#[]⟩) 159).box2 (.bool false) (.string ⟨#[]⟩) 159;simp only[World.size_alloc]at B0;exact⟨B0.below,RF.stay,⟨_,_,B0.now.2.1⟩,⟨_,_,B0.now.1⟩,B0.now.2.2.1,B0.now.2.2.2.1⟩
theorem RF.put2{k j:Nat}{b:Bool}{s:ByteArray}{b2:Bool}{s2:ByteArray}{y:World}(h:RF k b s b2 s2 y)(h1:k≠j)(h2:k+1≠j)(u v:Value):RF k b s b2 s2 (put2 y j u v):=⟨h.1.put2 u v,h.2.1.put2 u v,h.2.2.1.put2o h2 u v,h.2.2.2.put2o h1 u v⟩
def RFloor(w w':World)(e:Ending)(Q R:Int):Prop:=e=.returned (.tuple #[.agg #[.bool (rB Q),.string (rS Q)],.agg #[.bool (rB R),.string (rS R)]])/\Below w.heap.size w w'
theorem fl_times{Z Y:Int}(hY:Y≠0):Z=flQ Z Y*Y+flR Z Y:=by
 obtain⟨q,hq⟩:∃q,Z.natAbs / Y.natAbs=q:=⟨_,rfl⟩
 obtain⟨r,hr⟩:∃r,Z.natAbs%Y.natAbs=r:=⟨_,rfl⟩
 have e:=Nat.div_add_mod Z.natAbs Y.natAbs;have hrl:r<Y.natAbs:=by rw[← hr];exact Nat.mod_lt _ (by omega)
 rw[hq,hr]at e;unfold flQ flR flU flA;rw[hq,hr]
 by_cases hz:Z<0
 · obtain ⟨z, rfl⟩ : ∃ z : Nat, Z = -(z : Int) := ⟨Z.natAbs, by omega⟩
   by_cases hy:Y<0
   · obtain⟨y,rfl⟩:∃y:Nat,Y = -(y:Int):=⟨Y.natAbs,by omega⟩
     rw[decide_eq_true hz,decide_eq_true hy];simp only[Int.natAbs_neg,Int.natAbs_natCast]at e;have e':(y:Int)*(q:Int)+(r:Int)=(z:Int):=by exact_mod_cast e
     simp[sgn]
     rw[Int.mul_neg,Int.mul_comm (q:Int)];omega
   · obtain⟨y,rfl⟩:∃y:Nat,Y=(y:Int):=⟨Y.natAbs,by omega⟩
     rw[decide_eq_true hz,decide_eq_false hy]
     simp at e hrl
     have e':(y:Int)*(q:Int)+(r:Int)=(z:Int):=by exact_mod_cast e
     by_cases h0:r=0
     · subst h0
       simp[sgn]
       rw[Int.neg_mul,Int.mul_comm (q:Int)];omega
     · simp[sgn,h0]
       rw[Int.neg_mul,Int.add_mul,Int.mul_comm (q:Int)];omega
 · obtain ⟨z, rfl⟩ : ∃ z : Nat, Z = (z : Int) := ⟨Z.natAbs, by omega⟩
   by_cases hy:Y<0
   · obtain⟨y,rfl⟩:∃y:Nat,Y = -(y:Int):=⟨Y.natAbs,by omega⟩
     rw[decide_eq_false hz,decide_eq_true hy]
     simp at e hrl
     have e':(y:Int)*(q:Int)+(r:Int)=(z:Int):=by exact_mod_cast e
     by_cases h0:r=0
     · subst h0
       simp[sgn]
       rw[Int.neg_mul_neg,Int.mul_comm (q:Int)];omega
     · simp[sgn,h0]
       rw[Int.neg_mul_neg,Int.add_mul,Int.mul_comm (q:Int)];omega
   · obtain⟨y,rfl⟩:∃y:Nat,Y=(y:Int):=⟨Y.natAbs,by omega⟩
     rw[decide_eq_false hz,decide_eq_false hy]
     simp[sgn]at e ⊢
     have e':(y:Int)*(q:Int)+(r:Int)=(z:Int):=by exact_mod_cast e
     rw[Int.mul_comm (q:Int)];omega
theorem flA_rB(Z Y:Int):flA Z Y=(rB Z != rB Y):=rfl
theorem rB_of_nonneg{Z:Int}(h:0<=Z):rB Z=false:=decide_eq_false (by omega)
theorem rFloor_same (Z Y : Int) (w : World) (hl : dl Z.natAbs <= 400) (hl2 : dl Y.natAbs <= 400) (hY : Y ≠ 0) (hs : rB Z = rB Y) :
    Calls Tryz.prog 210 #[.agg #[.bool (rB Z),.string (rS Z)],.agg #[.bool (rB Y),.string (rS Y)]] w fun e w'=>RFloor w w' e (flQ Z Y) (flR Z Y):=by
 have ha:flA Z Y=false:=by rw[flA_rB,hs];cases rB Y<;>rfl
 have hqe:flQ Z Y=((Z.natAbs / Y.natAbs:Nat):Int):=by unfold flQ flU;rw[ha];simp[sgn]
 have hqd:dl (flQ Z Y).natAbs<=400:=by rw[hqe,Int.natAbs_natCast];exact Nat.le_trans (dl_mono (Nat.div_le_self _ _)) hl
 have hqb:rB (flQ Z Y)=false:=rB_of_nonneg (by rw[hqe];exact Int.natCast_nonneg _);have hqs:rS (flQ Z Y)=str (dec (Z.natAbs / Y.natAbs)):=by unfold rS;rw[hqe,Int.natAbs_natCast]
 have hpd:dl (flQ Z Y*Y).natAbs<=800:=by rw[Int.natAbs_mul];exact dl_mul_le hqd hl2
 have hR:Z + -(flQ Z Y*Y)=flR Z Y:=by have:=fl_times (Z:=Z) hY;omega
 have DM:Hid (∀wz,Calls Tryz.prog 164 #[.string (rS Z),.string (rS Y)] wz fun e w'=>e=.returned (.tuple #[.string (str (dec (Z.natAbs / Y.natAbs))),.string (str (dec (Z.natAbs%Y.natAbs)))])/\Below wz.heap.size wz w'):=fun wz=>rdivMod_any _ _ wz (by omega) (by omega) (by omega)
 have OF:Hid (∀wz,Calls Tryz.prog 189 #[.bool false,.string (str (dec (Z.natAbs / Y.natAbs)))] wz fun e w'=>RTold wz w' e (flQ Z Y)):=by
  intro wz;have h1:=rOf_dec false (Z.natAbs / Y.natAbs) wz (Nat.le_trans (dl_mono (Nat.div_le_self _ _)) (by omega));rw[show sgn false (Z.natAbs / Y.natAbs)=flQ Z Y from by rw[hqe];rfl]at h1;exact h1
 have MU:Hid (∀wz,Calls Tryz.prog 128 #[.agg #[.bool (rB (flQ Z Y)),.string (rS (flQ Z Y))],.agg #[.bool (rB Y),.string (rS Y)]] wz fun e w'=>RTold wz w' e (flQ Z Y*Y)):=fun wz=>rMul_any _ _ wz (by omega) (by omega)
 have MI:Hid (∀wz,Calls Tryz.prog 209 #[.agg #[.bool (rB (flQ Z Y*Y)),.string (rS (flQ Z Y*Y))]] wz fun e w'=>RTold wz w' e (-(flQ Z Y*Y))):=fun wz=>rMinus_any _ wz (by omega)
 have AD:Hid (∀wz,Calls Tryz.prog 193 #[.agg #[.bool (rB Z),.string (rS Z)],.agg #[.bool (rB (-(flQ Z Y*Y))),.string (rS (-(flQ Z Y*Y)))]] wz fun e w'=>RTold wz w' e (flR Z Y)):=by
  intro wz;have h1:=rAdd_any Z (-(flQ Z Y*Y)) wz (by omega) (by rw[Int.natAbs_neg];omega);rw[hR]at h1;exact h1
 unfold RTold at OF MU MI AD;rw[hqb]at OF MU;rw[← hqs]at OF DM;have hb:rB Z=rB Y:=hs;obtain⟨b,hbe⟩:∃b,rB Y=b:=⟨_,rfl⟩
 rw[hbe]at hb MU ⊢;rw[hb]at AD ⊢;obtain⟨sq,hsq⟩:∃sq,rS (flQ Z Y)=sq:=⟨_,rfl⟩
 obtain⟨R,hRe⟩:∃R,flR Z Y=R:=⟨_,rfl⟩
 obtain⟨V,hV⟩:∃V,flQ Z Y*Y=V:=⟨_,rfl⟩
 have HQ:Hid (Ending.returned (.tuple #[.agg #[.bool false,.string sq],.agg #[.bool (rB R),.string (rS R)]])=.returned (.tuple #[.agg #[.bool (rB (flQ Z Y)),.string (rS (flQ Z Y))],.agg #[.bool (rB (flR Z Y)),.string (rS (flR Z Y))]])):=Lib.hid (by rw[hqb,hsq,hRe]);rw[hsq]at OF DM MU;rw[hRe]at AD;rw[hV]at MU MI AD;obtain⟨s,hse⟩:∃s,rS Z=s:=⟨_,rfl⟩
 obtain⟨s2,hse2⟩:∃s2,rS Y=s2:=⟨_,rfl⟩
 rw[hse]at DM AD ⊢;rw[hse2]at DM MU ⊢;obtain⟨b2,hb2e⟩:∃b2,b=b2:=⟨_,rfl⟩
 have BB:=Lib.hid (RF.start w b s b s2);have q0:=BB.out.now.2.2.2.cell;have q1:=BB.out.now.2.2.2.cell1;have q2:=BB.out.now.2.2.1.cell;have q3:=BB.out.now.2.2.1.cell1;clear hl hl2 hY hs ha hqe hqd hqb hqs hpd hR hb hbe hsq hRe hV hse hse2 hb2e b2
 cases b
 · go_enter Tryz.func210, Tryz.ntmps210
   go_wp2_with (first
    | (go_at_call 164;(with_reducible refine(DM.out _).mono ?_);rintro e w2 ⟨rfl,hb2⟩;have BB:=Lib.hid (BB.out.go hb2);have q0:=BB.out.now.2.2.2.cell;have q1:=BB.out.now.2.2.2.cell1;have q2:=BB.out.now.2.2.1.cell;have q3:=BB.out.now.2.2.1.cell1;clear hb2)
    | (go_at_call 189;(with_reducible refine(OF.out _).mono ?_);rintro e w3 ⟨rfl,hb3⟩;have hk3:w.heap.size+1+1+1<w3.heap.size:=RX.lt (BB.out.go hb3).now.2.1;have BB:=Lib.hid ((BB.out.go hb3).box2 (.bool false) (.string sq) 159);have q0:=BB.out.now.2.2.2.2.cell;have q1:=BB.out.now.2.2.2.2.cell1;have q2:=BB.out.now.2.2.2.1.cell;have q3:=BB.out.now.2.2.2.1.cell1;have q4:=BB.out.now.1.cell;have q5:=BB.out.now.1.cell1;clear hb3))
   go_region_held3 (fun y => (y.cell? ⟨w.heap.size, 0, none⟩ = some (.bool false) /\ y.cell? ⟨w.heap.size, 1, none⟩ = some (.string s) /\ y.cell? ⟨w.heap.size + 1, 0, none⟩ = some (.bool false) /\ y.cell? ⟨w.heap.size + 1, 1, none⟩ = some (.string s2) /\ y.cell? ⟨w3.heap.size, 0, none⟩ = some (.bool false) /\ y.cell? ⟨w3.heap.size, 1, none⟩ = some (.string sq)) /\ Bag w (fun y => Slot2 y w3.heap.size (.bool false) (.string sq) /\ RF w.heap.size false s false s2 y) y)
    (first
      | (have B9:=BB.out.drew;exact⟨⟨B9.now.2.2.2.2.cell,B9.now.2.2.2.2.cell1,B9.now.2.2.2.1.cell,B9.now.2.2.2.1.cell1,B9.now.1.cell,B9.now.1.cell1⟩,B9⟩)
      | (have B9:=Bag.go (show Bag w (fun y=>Slot2 y w3.heap.size (.bool false) (.string sq)/\RF w.heap.size false s false s2 y) _ from by go_split_ands;assumption) hb2;exact⟨⟨B9.now.2.2.2.2.cell,B9.now.2.2.2.2.cell1,B9.now.2.2.2.1.cell,B9.now.2.2.2.1.cell1,B9.now.1.cell,B9.now.1.cell1⟩,B9⟩)
      | (have B9:=Bag.put2 (show Bag w (fun y=>Slot2 y w3.heap.size (.bool false) (.string sq)/\RF w.heap.size false s false s2 y) _ from by go_split_ands;assumption) (k:=w.heap.size+1+1) (u:=.bool false) (v:=.string sq) (by omega) (fun h=>⟨h.1.put2o (by omega) _ _,h.2.put2 (by omega) (by omega) _ _⟩);exact⟨⟨B9.now.2.2.2.2.cell,B9.now.2.2.2.2.cell1,B9.now.2.2.2.1.cell,B9.now.2.2.2.1.cell1,B9.now.1.cell,B9.now.1.cell1⟩,B9⟩)
      | (have B9:=Bag.put2 (show Bag w (fun y=>Slot2 y w3.heap.size (.bool false) (.string sq)/\RF w.heap.size false s false s2 y) _ from by go_split_ands;assumption) (k:=w.heap.size+1+1+1) (u:=.bool (rB R)) (v:=.string (rS R)) (by omega) (fun h=>⟨h.1.put2o (by omega) _ _,h.2.put2 (by omega) (by omega) _ _⟩);exact⟨⟨B9.now.2.2.2.2.cell,B9.now.2.2.2.2.cell1,B9.now.2.2.2.1.cell,B9.now.2.2.2.1.cell1,B9.now.1.cell,B9.now.1.cell1⟩,B9⟩))
    (first
      | (go_at_call 128;(with_reducible refine(MU.out _).mono ?_);rintro e w2 ⟨rfl,hb2⟩)
      | (go_at_call 209;(with_reducible refine(MI.out _).mono ?_);rintro e w2 ⟨rfl,hb2⟩)
      | (go_at_call 193; (with_reducible refine (AD.out _).mono ?_); rintro e w2 ⟨rfl, hb2⟩;
          have B7:=Bag.go (show Bag w (fun y=>Slot2 y w3.heap.size (.bool false) (.string sq)/\RF w.heap.size false s false s2 y) _ from by go_split_ands;assumption) hb2;
          obtain⟨x8,z8,hs8⟩:=B7.now.2.1;
          obtain⟨x9,z9,hs9⟩:=B7.now.2.2.1;
          have hc1:=hs8.cell;have hc2:=hs8.cell1;have hc3:=hs9.cell;have hc4:=hs9.cell1;have hf1:=hs8.free;have hf2:=hs8.free1;have hf3:=hs9.free;have hf4:=hs9.free1;
          have HA:=(hs8.put2s (.bool false) (.string sq)).put2o (show w.heap.size+1+1≠w.heap.size+1+1+1 by omega) (.bool (rB R)) (.string (rS R));
          have HB:=(hs9.put2o (show w.heap.size+1+1+1≠w.heap.size+1+1 by omega) (.bool false) (.string sq)).put2s (.bool (rB R)) (.string (rS R));
          have e1:=HA.cell;have e2:=HA.cell1;have e3:=HB.cell;have e4:=HB.cell1;
          have HE:Hid (RFloor w (put2 (put2 w2 (w.heap.size+1+1) (.bool false) (.string sq)) (w.heap.size+1+1+1) (.bool (rB R)) (.string (rS R))) (.returned (.tuple #[.agg #[.bool false,.string sq],.agg #[.bool (rB R),.string (rS R)]])) (flQ Z Y) (flR Z Y)):=⟨HQ.out,(((B7.below.setCell (show w.heap.size<=w.heap.size+1+1 by omega) _).setCell (show w.heap.size<=w.heap.size+1+1 by omega) _).setCell (show w.heap.size<=w.heap.size+1+1+1 by omega) _).setCell (show w.heap.size<=w.heap.size+1+1+1 by omega) _⟩;
          unfold put2 at HE e1 e2 e3 e4;clear hs8 hs9 HA HB B7))
   all_goals
    go_wp2;exact bodyPost_ret (v:=.tuple #[.agg #[.bool false,.string sq],.agg #[.bool (rB R),.string (rS R)]]) (by simp[results,Tryz.results210,go_sem,e1,e2,e3,e4]) rfl HE.out
 · go_enter Tryz.func210, Tryz.ntmps210
   go_wp2_with (first
    | (go_at_call 164;(with_reducible refine(DM.out _).mono ?_);rintro e w2 ⟨rfl,hb2⟩;have BB:=Lib.hid (BB.out.go hb2);have q0:=BB.out.now.2.2.2.cell;have q1:=BB.out.now.2.2.2.cell1;have q2:=BB.out.now.2.2.1.cell;have q3:=BB.out.now.2.2.1.cell1;clear hb2)
    | (go_at_call 189;(with_reducible refine(OF.out _).mono ?_);rintro e w3 ⟨rfl,hb3⟩;have hk3:w.heap.size+1+1+1<w3.heap.size:=RX.lt (BB.out.go hb3).now.2.1;have BB:=Lib.hid ((BB.out.go hb3).box2 (.bool false) (.string sq) 159);have q0:=BB.out.now.2.2.2.2.cell;have q1:=BB.out.now.2.2.2.2.cell1;have q2:=BB.out.now.2.2.2.1.cell;have q3:=BB.out.now.2.2.2.1.cell1;have q4:=BB.out.now.1.cell;have q5:=BB.out.now.1.cell1;clear hb3))
   go_region_held3 (fun y => (y.cell? ⟨w.heap.size, 0, none⟩ = some (.bool true) /\ y.cell? ⟨w.heap.size, 1, none⟩ = some (.string s) /\ y.cell? ⟨w.heap.size + 1, 0, none⟩ = some (.bool true) /\ y.cell? ⟨w.heap.size + 1, 1, none⟩ = some (.string s2) /\ y.cell? ⟨w3.heap.size, 0, none⟩ = some (.bool false) /\ y.cell? ⟨w3.heap.size, 1, none⟩ = some (.string sq)) /\ Bag w (fun y => Slot2 y w3.heap.size (.bool false) (.string sq) /\ RF w.heap.size true s true s2 y) y)
    (first
      | (have B9:=BB.out.drew;exact⟨⟨B9.now.2.2.2.2.cell,B9.now.2.2.2.2.cell1,B9.now.2.2.2.1.cell,B9.now.2.2.2.1.cell1,B9.now.1.cell,B9.now.1.cell1⟩,B9⟩)
      | (have B9:=Bag.go (show Bag w (fun y=>Slot2 y w3.heap.size (.bool false) (.string sq)/\RF w.heap.size true s true s2 y) _ from by go_split_ands;assumption) hb2;exact⟨⟨B9.now.2.2.2.2.cell,B9.now.2.2.2.2.cell1,B9.now.2.2.2.1.cell,B9.now.2.2.2.1.cell1,B9.now.1.cell,B9.now.1.cell1⟩,B9⟩)
      | (have B9:=Bag.put2 (show Bag w (fun y=>Slot2 y w3.heap.size (.bool false) (.string sq)/\RF w.heap.size true s true s2 y) _ from by go_split_ands;assumption) (k:=w.heap.size+1+1) (u:=.bool false) (v:=.string sq) (by omega) (fun h=>⟨h.1.put2o (by omega) _ _,h.2.put2 (by omega) (by omega) _ _⟩);exact⟨⟨B9.now.2.2.2.2.cell,B9.now.2.2.2.2.cell1,B9.now.2.2.2.1.cell,B9.now.2.2.2.1.cell1,B9.now.1.cell,B9.now.1.cell1⟩,B9⟩)
      | (have B9:=Bag.put2 (show Bag w (fun y=>Slot2 y w3.heap.size (.bool false) (.string sq)/\RF w.heap.size true s true s2 y) _ from by go_split_ands;assumption) (k:=w.heap.size+1+1+1) (u:=.bool (rB R)) (v:=.string (rS R)) (by omega) (fun h=>⟨h.1.put2o (by omega) _ _,h.2.put2 (by omega) (by omega) _ _⟩);exact⟨⟨B9.now.2.2.2.2.cell,B9.now.2.2.2.2.cell1,B9.now.2.2.2.1.cell,B9.now.2.2.2.1.cell1,B9.now.1.cell,B9.now.1.cell1⟩,B9⟩))
    (first
      | (go_at_call 128;(with_reducible refine(MU.out _).mono ?_);rintro e w2 ⟨rfl,hb2⟩)
      | (go_at_call 209;(with_reducible refine(MI.out _).mono ?_);rintro e w2 ⟨rfl,hb2⟩)
      | (go_at_call 193; (with_reducible refine (AD.out _).mono ?_); rintro e w2 ⟨rfl, hb2⟩;
          have B7:=Bag.go (show Bag w (fun y=>Slot2 y w3.heap.size (.bool false) (.string sq)/\RF w.heap.size true s true s2 y) _ from by go_split_ands;assumption) hb2;
          obtain⟨x8,z8,hs8⟩:=B7.now.2.1;
          obtain⟨x9,z9,hs9⟩:=B7.now.2.2.1;
          have hc1:=hs8.cell;have hc2:=hs8.cell1;have hc3:=hs9.cell;have hc4:=hs9.cell1;have hf1:=hs8.free;have hf2:=hs8.free1;have hf3:=hs9.free;have hf4:=hs9.free1;
          have HA:=(hs8.put2s (.bool false) (.string sq)).put2o (show w.heap.size+1+1≠w.heap.size+1+1+1 by omega) (.bool (rB R)) (.string (rS R));
          have HB:=(hs9.put2o (show w.heap.size+1+1+1≠w.heap.size+1+1 by omega) (.bool false) (.string sq)).put2s (.bool (rB R)) (.string (rS R));
          have e1:=HA.cell;have e2:=HA.cell1;have e3:=HB.cell;have e4:=HB.cell1;
          have HE:Hid (RFloor w (put2 (put2 w2 (w.heap.size+1+1) (.bool false) (.string sq)) (w.heap.size+1+1+1) (.bool (rB R)) (.string (rS R))) (.returned (.tuple #[.agg #[.bool false,.string sq],.agg #[.bool (rB R),.string (rS R)]])) (flQ Z Y) (flR Z Y)):=⟨HQ.out,(((B7.below.setCell (show w.heap.size<=w.heap.size+1+1 by omega) _).setCell (show w.heap.size<=w.heap.size+1+1 by omega) _).setCell (show w.heap.size<=w.heap.size+1+1+1 by omega) _).setCell (show w.heap.size<=w.heap.size+1+1+1 by omega) _⟩;
          unfold put2 at HE e1 e2 e3 e4;clear hs8 hs9 HA HB B7))
   all_goals
    go_wp2;exact bodyPost_ret (v:=.tuple #[.agg #[.bool false,.string sq],.agg #[.bool (rB R),.string (rS R)]]) (by simp[results,Tryz.results210,go_sem,e1,e2,e3,e4]) rfl HE.out
end Go.Proofs.YtdmmenaejkpnjaaGreatDoor
