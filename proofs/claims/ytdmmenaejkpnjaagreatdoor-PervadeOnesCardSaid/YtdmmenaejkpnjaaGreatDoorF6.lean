/-
  Texts of this seat, laid together.
-/
import Derived.Deep.QuietTactic
import Derived.BigQuiet
import Derived.IntWalk
import Derived.Test.YtdmmenaejkpnjaaGreatDoorF5
set_option maxHeartbeats 12800000
set_option maxRecDepth 100000
set_option linter.unusedSimpArgs false
set_option linter.unusedVariables false
namespace Go.Proofs.YtdmmenaejkpnjaaGreatDoor
open Go.RowKit
theorem d10_lt(Z k:Nat):d10 Z k<10:=Nat.mod_lt _ (by omega)
theorem set_digit{Z Y p t:Nat}(ht:t<10)(h:Y+d10 Z p*10^p=Z+t*10^p):∀k,d10 Y k=if k=p then t else d10 Z k:=by
 have hp:0<10^p:=Nat.pow_pos (by omega);have e1:=Nat.div_add_mod Z (10^p);have e2:=Nat.div_add_mod (Z / 10^p) 10;have e3:Z / 10^p%10=d10 Z p:=rfl;rw[e3]at e2
 -- Z = lo + 10^p * (10 * hi + d)
 obtain⟨hi,hhi⟩:∃hi,Z / 10^p / 10=hi:=⟨_,rfl⟩
 obtain⟨lo,hlo⟩:∃lo,Z%10^p=lo:=⟨_,rfl⟩
 have hlol:lo<10^p:=by rw[← hlo];exact Nat.mod_lt _ hp
 rw[hhi]at e2;rw[hlo]at e1;have hZ:Z=lo+10^p*(10*hi+d10 Z p):=by rw[e2];omega
 have hY:Y=lo+10^p*(10*hi+t):=by
  have a1:10^p*(10*hi+d10 Z p)=10^p*(10*hi)+d10 Z p*10^p:=by rw[Nat.mul_add,Nat.mul_comm (10^p) (d10 Z p)]
  have a2:10^p*(10*hi+t)=10^p*(10*hi)+t*10^p:=by rw[Nat.mul_add,Nat.mul_comm (10^p) t]
  omega
 have gen:∀u,u<10->∀k,d10 (lo+10^p*(10*hi+u)) k=if k<p then d10 lo k else if k=p then u else hi / 10^(k-p-1)%10:=by
  intro u hu k;unfold d10
  rcases Nat.lt_trichotomy k p with h|h|h
  · rw[if_pos h];obtain⟨m,rfl⟩:∃m,p=k+(m+1):=⟨p-k-1,by omega⟩
    rw[Nat.pow_add,Nat.mul_assoc,Nat.add_mul_div_left _ _ (Nat.pow_pos (by omega)),Nat.pow_succ,Nat.mul_comm (10^m) 10,Nat.mul_assoc]
    omega
  · subst h;rw[if_neg (by omega),if_pos rfl,Nat.add_mul_div_left _ _ hp,Nat.div_eq_of_lt hlol]
    omega
  · rw[if_neg (by omega),if_neg (by omega)];obtain⟨m,rfl⟩:∃m,k=p+(m+1):=⟨k-p-1,by omega⟩
    rw[Nat.pow_add,← Nat.div_div_eq_div_mul,Nat.add_mul_div_left _ _ hp,Nat.div_eq_of_lt hlol,Nat.zero_add,Nat.pow_succ,Nat.mul_comm (10^m) 10,← Nat.div_div_eq_div_mul];rw[show(10*hi+u) / 10=hi by omega,show p+(m+1)-p-1=m by omega]
 intro k;rw[hY,gen t ht k]
 by_cases h1:k=p
 · subst h1;rw[if_neg (by omega),if_pos rfl,if_pos rfl]
 · rw[if_neg h1,if_neg h1];have:=gen (d10 Z p) (d10_lt Z p) k;rw[← hZ,if_neg h1]at this;rw[this]
structure ArrI(w wr:World)(b L Z:Nat):Prop where
 below:Below w.heap.size w wr
 ge:w.heap.size<=b
 lt:b<wr.heap.size
 free:Free wr b
 row:Cells wr .i64 b 0 L (d10 Z)
theorem ArrI.set{w wr:World}{b L Z Y p t:Nat}(h:ArrI w wr b L Z)(hp:p<L)(ht:t<10)(he:Y+d10 Z p*10^p=Z+t*10^p)(n:Nat):ArrI w ((wr.drewN n).setCell ⟨b,p,none⟩ (.int .i64 t)) b L Y:=by
 have hs:=h.row.set (k:=p) (x:=t) hp;rw[Nat.zero_add]at hs;refine⟨(below_drewN h.below n).setCell h.ge _,h.ge,by simpa using h.lt,(h.free).set _ _,fun j hj => ?_⟩;have:=hs j hj;rw[set_digit ht he j];exact this
theorem str_append(a b:List UInt8):str a++str b=str (a++b):=by
 refine str_of ?_
 show(str a++str b).data.toList=_
 rw[ByteArray.data_append]
 simp[str]
theorem sdig_snoc (N : Nat) : ∀ n, sdig N (n + 1) = sdig (N / 10) n ++ [dgt N 0]
 | 0=>rfl
 | n+1=>by
  rw[sdig,sdig_snoc N n,sdig]
  have e:dgt (N / 10) n=dgt N (n+1):=by
   unfold dgt;rw[Nat.div_div_eq_div_mul,Nat.pow_succ,Nat.mul_comm 10]
  rw[e];rfl
theorem extract_one{s:ByteArray}{k:Nat}(hk:k<s.size):s.extract k (k+1)=str [s[k]]:=by
 refine str_of ?_;rw[Lib.extract_data];have h:k<s.data.toList.length:=by simpa using hk
 rw[show k+1-k=1 by omega];rw[List.drop_eq_getElem_cons h]
 rfl
theorem rest_digit (R x n k : Nat) (hk : k < n) (h : k < (str (sdig x n)).size) :
    str (dec R)++(str (sdig x n)).extract k (k+1)=str (sdig (10*R+d10 x (n-1-k)) (dl R+1)):=by
 have hd:=d10_lt x (n-1-k)
 have hc:(str (sdig x n))[k]=dgt (10*R+d10 x (n-1-k)) 0:=by
  have h1:=sdig_get x n k hk
  have h3:(sdig x n)[k]? = some ((str (sdig x n))[k]):=by
   rw[List.getElem?_eq_getElem (by rw[sdig_length];omega)];rfl
  rw[h3]at h1;rw[Option.some.inj h1,← UInt8.toNat_inj,dgt_toNat,dgt_toNat]
  show 48+d10 x (n-1-k)=_
  rw[Nat.pow_zero,Nat.div_one]
  omega
 rw[extract_one h,str_append,sdig_snoc,hc];have e:(10*R+d10 x (n-1-k)) / 10=R:=by omega
 rw[e];rfl
theorem div_step (x y k n : Nat) (hy : 0 < y) (hk : k < n) (R : Nat) (hR : R = x / 10 ^ (n - k) % y) :
    (10*R+d10 x (n-1-k)) / y=d10 (x / y) (n-1-k)/\(10*R+d10 x (n-1-k))%y=x / 10^(n-(k+1))%y:=by
 obtain⟨m,hm⟩:∃m,n-1-k=m:=⟨_,rfl⟩
 have e1:n-k=m+1:=by omega
 have e2:n-(k+1)=m:=by omega
 rw[hm,e2];rw[e1]at hR;obtain⟨A,hA⟩:∃A,x / 10^m=A:=⟨_,rfl⟩
 have hA2:x / 10^(m+1)=A / 10:=by rw[Nat.pow_succ,← Nat.div_div_eq_div_mul,hA]
 have hd:d10 x m=A%10:=by unfold d10;rw[hA]
 have hq:d10 (x / y) m=A / y%10:=by
  unfold d10;rw[Nat.div_div_eq_div_mul,Nat.mul_comm,← Nat.div_div_eq_div_mul,hA]
 rw[hA2]at hR;rw[hA,hd,hq];obtain⟨B,hB⟩:∃B,A / 10=B:=⟨_,rfl⟩
 rw[hB]at hR;have hAB:A=10*B+A%10:=by omega
 have hBm:=Nat.div_add_mod B y;rw[← hR]at hBm;have hRl:R<y:=by rw[hR];exact Nat.mod_lt _ hy
 -- A = y * (10 * (B / y)) + (10 * R + A % 10)
 have hA3:A=y*(10*(B / y))+(10*R+A%10):=by
  have:y*(10*(B / y))=10*(y*(B / y)):=by rw[← Nat.mul_assoc,Nat.mul_comm y 10,Nat.mul_assoc]
  omega
 have hT:10*R+A%10<10*y:=by omega
 obtain⟨T,hTT⟩:∃T,10*R+A%10=T:=⟨_,rfl⟩
 rw[hTT]at hA3 hT ⊢;have g1:A / y=10*(B / y)+T / y:=by rw[hA3,Nat.mul_add_div hy]
 have g2:A%y=T%y:=by rw[hA3,Nat.mul_add_mod]
 have g3:T / y<10:=by rw[Nat.div_lt_iff_lt_mul hy];omega
 rw[g1,g2];generalize T / y=t at *;generalize B / y=u at *;exact⟨by omega,rfl⟩
theorem rdivMod_any (x y : Nat) (w : World) (hx : dl x <= 900) (hy : dl y <= 900) (hy0 : 0 < y) :
    Calls Tryz.prog 164 #[.string (str (dec x)),.string (str (dec y))] w fun e w'=>e=.returned (.tuple #[.string (str (dec (x / y))),.string (str (dec (x%y)))])/\Below w.heap.size w w':=by
 obtain⟨i0,hi,hz0,hz1,hz2⟩:=info_parts infoB;obtain⟨n,hn⟩:∃n,dl x=n:=⟨_,rfl⟩
 have hn0:0<n:=by rw[← hn];exact dl_pos x
 have hxn:x<10^n:=by rw[← hn];exact dl_lt x
 have ha:str (dec x)=str (sdig x n):=by unfold dec;rw[hn]
 have hsz:(str (sdig x n)).size=n:=by rw[str_size,sdig_length]
 rw[ha];have HRD:Hid (∀R k (h:k<(str (sdig x n)).size),str (dec R)++(str (sdig x n)).extract k (k+1)=str (sdig (10*R+d10 x (n-1-k)) (dl R+1))):=fun R k h=>rest_digit R x n k (by omega) h
 obtain⟨a,hae⟩:∃a,str (sdig x n)=a:=⟨_,rfl⟩
 rw[hae]at hsz HRD ⊢;have hb:∀R,dl R<=1000->∀wz,Calls Tryz.prog 188 #[.string (str (dec R)),.string (str (dec y))] wz fun e w'=>e=.returned (.int .i64 (cmpI R y))/\wz=w':=fun R hR wz=>rcmp_any R y wz (by omega) (by omega)
 have hs:∀R,y<=R->dl R<=1000->∀wz,Calls Tryz.prog 196 #[.string (str (dec R)),.string (str (dec y))] wz fun e w'=>e=.returned (.string (str (dec (R-y))))/\Below wz.heap.size wz w':=fun R hR hl wz=>rsub_any R (dl R) y (dl y) wz (dl_lt _) (dl_lt _) hl (by omega) hR
 obtain⟨b,hbe⟩:∃b,str (dec y)=b:=⟨_,rfl⟩
 rw[hbe]at hb hs ⊢;have CM:=Lib.hid hb;have SB:=Lib.hid hs;have HX:=Lib.hid hxn;have HI:=Lib.hid hi;have HY:=Lib.hid hy0;have hnl:n<=900:=by omega
 have HYL:=Lib.hid hy;obtain⟨z,hz,hmk⟩:=make_bytes a.size (by omega)
 have H0:Hid (WrI w (w.alloc (.cells z 5)) w.heap.size (x / y) n (.slice (some ⟨w.heap.size,0,none⟩) 0 a.size) 0) :=
  ⟨(Below.refl _ _).alloc (Nat.le_refl _) _,World.ownsRow_made w z a.size (Nat.le_refl _) (by unfold maxLen;omega) (by omega)⟩
 have HSZ:=Lib.hid hsz;have hal:a.size<=900:=by omega
 have HR0:Hid (0=x / 10^(n-0)%y):=by show _=_;rw[Nat.sub_zero,Nat.div_eq_of_lt hxn,Nat.zero_mod]
 have hd0:(⟨#[48]⟩:ByteArray)=str (dec 0):=by rw[dec_zero];rfl
 have HD0:=Lib.hid hd0;clear hb hs hxn hi hy0 hz hsz ha hae hbe hn hx hy hd0;go_enter Tryz.func164,Tryz.ntmps164;go_wp2
 go_loopw [6,7,8] (fun D rs i wr=>∃(k R:Nat) (V:Value) (r:ByteArray),k<=a.size/\i=.int .i64 k/\rs=.string r/\Hid (r=str (dec R))/\Hid (R=x / 10^(n-k)%y)/\V=D/\WrI w wr w.heap.size (x / y) n V k)
  (fun _ _ i _=>a.size-(intOf i).toNat)
 case atStart=>exact⟨0,0,_,_,by omega,rfl,rfl,HD0.out,HR0.out,rfl,H0.out⟩
 case round =>
  obtain⟨k,R,V,r,hk,rfl,rfl,hr,hR,rfl,hw⟩:=hrel
  by_cases hlt:k<a.size
  · have hkn : k < n := by have := HSZ.out; omega
    have hRD:=HRD.out R k hlt;rw[← hr.out]at hRD;obtain⟨T,hT⟩:∃T,10*R+d10 x (n-1-k)=T:=⟨_,rfl⟩
    obtain⟨g1,g2⟩:=div_step x y k n HY.out hkn R hR.out;rw[hT]at g1 g2 hRD;have hRl:R<y:=by rw[hR.out];exact Nat.mod_lt _ HY.out
    have hdR:dl R<=900:=by
     have h1:=HYL.out;refine Nat.le_trans (dl_le R (dl y) (dl_pos y) (Nat.lt_trans hRl (dl_lt y))) h1
    have hTl:T<10^(dl R+1):=by
     have h1:=dl_lt R;have h2:=d10_lt x (n-1-k);rw[Nat.pow_succ];omega
    have hT10:T<10*y:=by have h2:=d10_lt x (n-1-k);omega
    have hdT:dl T<=1000:=by have:=dl_le T (dl R+1) (by omega) hTl;omega
    have TR:Hid (∀wz,Calls Tryz.prog 111 #[.string (r++a.extract k (k+1))] wz fun e w'=>e=.returned (.string (str (dec T)))/\wz=w'):=by
     intro wz;rw[hRD];exact trim_any T (dl R+1) wz (by omega) hTl (by omega)
    have HT0:Hid (str (dec T)=str (dec (T-0*y))/\0*y<=T):=⟨by simp,by simp⟩
    obtain⟨t,ht⟩:∃t,str (dec T)=t:=⟨_,rfl⟩
    rw[ht]at TR HT0;have G1:=Lib.hid g1;have G2:=Lib.hid g2;have HW:=Lib.hid hw;have HDT:=Lib.hid hdT;have HT10:=Lib.hid hT10;have hrsz:r.size<=900:=by rw[hr.out,str_size];unfold dec;rw[sdig_length];exact hdR
    clear hRD g1 g2 hRl hdR hTl hT10 hdT ht hw hr hR hT
    go_wp2_with (go_at_call 111;refine(TR.out _).mono ?_;rintro e w1 ⟨rfl,rfl⟩)
    go_loopw [7,9] (fun rs c wi=>∃(cc:Nat) (r2:ByteArray),cc<=9/\c=.int .i64 cc/\rs=.string r2/\Hid (r2=str (dec (T-cc*y))/\cc*y<=T)/\WrI w wi w.heap.size (x / y) n V k)
     (fun _ c _=>10-(intOf c).toNat)
    case atStart=>exact⟨0,_,by omega,rfl,rfl,HT0.out,HW.out⟩
    case round =>
     obtain⟨cc,r2,hcc,rfl,rfl,hr2,hwi⟩:=hrel;have hdS:dl (T-cc*y)<=1000:=Nat.le_trans (dl_le _ (dl T) (dl_pos T) (Nat.lt_of_le_of_lt (Nat.sub_le _ _) (dl_lt T))) HDT.out;have CMS:=CM.out (T-cc*y) hdS;rw[← hr2.out.1]at CMS
     by_cases hge:y<=T-cc*y
     · obtain⟨q,hq⟩:=cmp_pos hge;rw[hq]at CMS;have SBS:=SB.out (T-cc*y) hge hdS;rw[← hr2.out.1]at SBS;have hmul:(cc+1)*y=cc*y+y:=by rw[Nat.add_mul,Nat.one_mul]
       have hnx:(T-cc*y-y=T-(cc+1)*y)/\(cc+1)*y<=T:=⟨by rw[hmul];omega,by rw[hmul];have:=HY.out;omega⟩
       have hc9:cc+1<=9:=by
        rcases Nat.lt_or_ge cc 9 with h|h
        · omega
        · have h1:=Nat.mul_le_mul_right y (show 10<=cc+1 by omega);rw[hmul]at h1;have:=HT10.out;omega
       have HNX:Hid (str (dec (T-cc*y-y))=str (dec (T-(cc+1)*y))/\(cc+1)*y<=T):=⟨by rw[hnx.1],hnx.2⟩
       obtain⟨t2,ht2⟩:∃t2,str (dec (T-cc*y-y))=t2:=⟨_,rfl⟩
       rw[ht2]at HNX SBS;have C1:=Lib.hid CMS;have S1:=Lib.hid SBS;have HWI:=Lib.hid hwi;have d1:decide ((cc:Int)<10)=true:=decide_eq_true (by omega);clear CMS SBS hmul hnx hge hq hdS hr2 hwi ht2;go_wp2_with fail;go_at_call 188;refine(C1.out _).mono ?_;rintro e w2 ⟨rfl,rfl⟩;go_wp2_with fail;go_at_call 196;refine(S1.out _).mono ?_;rintro e w3 ⟨rfl,hb3⟩;have HW3:Hid (WrI w w3 w.heap.size (x / y) n V k):=⟨HWI.out.below.trans (hb3.mono HWI.out.below.size),HWI.out.own.below hb3⟩
       clear hb3;go_wp2
       go_roundw
       case rel=>exact⟨cc+1,t2,hc9,by go_num,rfl,HNX.out,HW3.out⟩
       case measure=>simp[intOf];omega
     · rw[cmp_neg (show T-cc*y<y by omega)]at CMS;have C1:=Lib.hid CMS;have hy0:=HY.out
       have hqT:T / y=cc:=by
        have h1:T=cc*y+(T-cc*y):=by have:=hr2.out.2;omega
        rw[h1,Nat.add_comm,Nat.add_mul_div_right _ _ hy0,Nat.div_eq_of_lt (by omega)];omega
       have hrT:T%y=T-cc*y:=by
        have h1:T=cc*y+(T-cc*y):=by have:=hr2.out.2;omega
        have h2:(cc*y+(T-cc*y))%y=T-cc*y:=by rw[Nat.add_comm,Nat.add_mul_mod_self_right,Nat.mod_eq_of_lt (by omega)]
        rw[← h1]at h2;exact h2
       obtain⟨yy,hyy⟩:∃yy,48+cc=yy:=⟨_,rfl⟩
       have e2:(48:Int)+(cc:Int)=(yy:Int):=by omega
       have e3:(yy:Int)%256=(yy:Int):=by omega
       have HYD:Hid (yy=dg (x / y) (n-1-k)):=by show _=_;rw[dg_d10,← G1.out,hqT,hyy]
       have HRN:Hid (r2=str (dec (T-cc*y))/\T-cc*y=x / 10^(n-(k+1))%y):=⟨hr2.out.1,by rw[← hrT];exact G2.out⟩
       have HWI:=Lib.hid hwi;have hzr:w.heap.size<=wr.heap.size:=hwi.below.size;have hkn1:k+1<=a.size:=hlt;have hccl:cc<=9:=hcc;clear CMS hge hdS hr2 hwi hqT hrT hyy hy0;go_wp2_with fail;go_at_call 188;refine(C1.out _).mono ?_;rintro e w2 ⟨rfl,rfl⟩
       go_wp2_with (at_builtin;refine wpList_append_own _ rfl _ _ 175 rfl w.heap.size 5 i0 (.int .u8 0) 1 1 Tryz.underlying175 HI.out hz0 hz1 hz2 rfl (by decide) _ _ _ rfl (World.ownsRow.alloc HWI.out.own _) ⟨wr.heap.size,0,none⟩ 1 1 [.int .u8 yy] rfl rfl (cell_one_at _ _ _) (one_cell_list _ _) (by unfold maxLen;omega) (by omega) (by rw[World.size_alloc];omega) ?_;intro v' w5 hown' hgrow _)
       have hb5:Below w.heap.size w w5:=(HWI.out.below.alloc hzr _).grown hgrow (by rw[World.size_alloc];omega) (fun q hq=>(World.ownsRow.lt HWI.out.own q hq).1)
       have hown2:OwnL w5 w.heap.size 5 .u8 v' (k+1) (fun j=>dg (x / y) (n-1-j)):=by
        rw[cl_snoc,cl_congr (g:=fun j=>dg (x / y) (n-1-j)) (fun j hj=>by
         by_cases e:j=k
         · rw[if_pos e,HYD.out,e]
         · rw[if_neg e])]at hown'
        exact hown'
       have HG5:=Lib.hid (show WrI w w5 w.heap.size (x / y) n v' (k+1)from⟨hb5,hown2⟩);clear hown' hgrow hb5 hown2;go_wp2
       go_roundw
       case rel=>exact⟨k+1,T-cc*y,v',r2,hkn1,by go_num,rfl,HRN.out.1,HRN.out.2,rfl,HG5.out⟩
       case measure=>simp[intOf];omega
  · obtain rfl : k = a.size := by omega
    have hsz':=HSZ.out;have hRx:R=x%y:=by rw[hR.out,hsz',Nat.sub_self,Nat.pow_zero,Nat.div_one]
    have hdx:=Nat.div_le_self x y
    rcases hw.own.cases with ⟨hV,hk0⟩|⟨g,c2,rfl,hc2,hgb,hgl,hgc,hgf⟩
    · exfalso;omega
    · have hcv:=run_convert_bytes_arg (P:=Tryz.prog) (w:=wr) 175 5 Tryz.underlying175 Tryz.underlying5 g 0 a.size c2 ((List.range a.size).map fun j=>((dg (x / y) (n-1-j):Nat):Int)) (by simp) (fun j hj=>by rw[hgc j hj];simp[hj]) 9 Tryz.underlying9
      have hst:strOfNums ((List.range a.size).map fun j=>((dg (x / y) (n-1-j):Nat):Int))=str (sdig (x / y) n):=by
       rw[hsz'];refine str_of ?_;rw[strOfNums_data]
       apply List.ext_getElem?
       intro j
       by_cases hj:j<n
       · rw[sdig_get (x / y) n j hj,List.getElem?_map,List.getElem?_map,List.getElem?_range hj];simp only[Option.map_some];rw[Int.toNat_natCast];rfl
       · rw[List.getElem?_eq_none (by simp;omega),List.getElem?_eq_none (by rw[sdig_length];omega)]
      rw[hst]at hcv;have HT:=Lib.hid (trim_any (x / y) n wr (by omega) (Nat.lt_of_le_of_lt hdx HX.out) (by omega));have HB:=Lib.hid hw.below;have HRR:Hid (r=str (dec (x%y))):=by show _=_;rw[hr.out,hRx]
      clear hw hgc hgf hst hr hR hRx hsz';go_wp2_with fail;go_at_call 111;refine HT.out.mono ?_;rintro e w7 ⟨rfl,rfl⟩;clear hcv;go_wp2;go_ret2;exact⟨by rw[HRR.out];rfl,HB.out⟩
end Go.Proofs.YtdmmenaejkpnjaaGreatDoor
namespace Go.Proofs.YtdmmenaejkpnjaaGreatDoor
open Go.RowKit
attribute [local go_sem ↓] Go.wp_at_zero Go.wp_at_succ
def rB(Z:Int):Bool:=decide (Z<0)
def rS(Z:Int):ByteArray:=str (dec Z.natAbs)
def RTold(w w':World)(e:Ending)(Z:Int):Prop:=e=.returned (.agg #[.bool (rB Z),.string (rS Z)])/\Below w.heap.size w w'
def put2(y:World)(k:Nat)(x z:Value):World:=(y.setCell ⟨k,0,none⟩ x).setCell ⟨k,1,none⟩ z
theorem RTold.fin{w w2:World}{k:Nat}{Y:Int}{b:Bool}{t:ByteArray}(hb:Below w.heap.size w w2)(hk:w.heap.size<=k)(h1:rB Y=b)(h2:rS Y=t):RTold w (put2 w2 k (.bool b) (.string t)) (.returned (.agg #[.bool b,.string t])) Y :=
 ⟨by rw[h1,h2],(hb.setCell hk _).setCell hk _⟩
theorem rFrom_any (X : Int) (w : World) (h : -9223372036854775808 <= X /\ X <= 9223372036854775807) :
    Calls Tryz.prog 119 #[.int .i64 X] w fun e w'=>RTold w w' e X:=by
 have BB:=Lib.hid ((Bag.start w).box2 (.bool false) (.string ⟨#[]⟩) 159)
 by_cases h0:X<0
 · obtain⟨y,hy⟩:∃y:Nat,(y:Int) = -X:=⟨(-X).toNat,by omega⟩
   obtain⟨y1,hy1⟩:∃y1:Nat,(y1:Int) = -X-1:=⟨(-X-1).toNat,by omega⟩
   obtain⟨X1,hX1⟩:∃X1,X+1=X1:=⟨_,rfl⟩
   have e2:0-X1=(y1:Int):=by omega
   have e3:(y1:Int)+1=(y:Int):=by omega
   have d0:decide (X<0)=true:=decide_eq_true h0;have HB:Hid (rB X=true/\rS X=str (dec y)):=⟨by unfold rB;exact d0,by unfold rS;rw[show X.natAbs=y by omega]⟩
   have HO:=Lib.hid (fun wz=>rof_any y wz (by omega));obtain⟨t,ht⟩:∃t,str (dec y)=t:=⟨_,rfl⟩
   rw[ht]at HO HB;have hb1 : -9223372036854775807<=X1/\X1<=0:=by omega
   have hb3:(y1:Int)<=9223372036854775807:=by omega
   have h':=h.1;clear hy hy1 ht h;go_enter Tryz.func119,Tryz.ntmps119;go_wp2_with fail;go_at_call 174;refine(HO.out _).mono ?_;rintro e w2 ⟨rfl,hb2⟩;have B2:=BB.out.go hb2;have hs2:=B2.now.1;have hc1:=hs2.cell;have hc2:=hs2.cell1;have hf1:=hs2.free;have hf2:=hs2.free1;have HS:=hs2.set (.bool true) (.string t);have HE:=Lib.hid (RTold.fin B2.below (Nat.le_refl _) HB.out.1 HB.out.2);unfold put2 at HE;clear hb2 B2 hs2;go_wp2;exact bodyPost_ret (by simp[results,Tryz.results119,go_sem,HS]) rfl HE.out
 · obtain⟨y,rfl⟩:∃y:Nat,X=(y:Int):=⟨X.toNat,by omega⟩
   have d0:decide ((y:Int)<0)=false:=decide_eq_false h0;have HB:Hid (rB (y:Int)=false/\rS (y:Int)=str (dec y)):=⟨by unfold rB;exact d0,by unfold rS;simp⟩
   have HO:=Lib.hid (fun wz=>rof_any y wz (by omega));obtain⟨t,ht⟩:∃t,str (dec y)=t:=⟨_,rfl⟩
   rw[ht]at HO HB;have h':=h.2;clear ht h;go_enter Tryz.func119,Tryz.ntmps119;go_wp2_with fail;go_at_call 174;refine(HO.out _).mono ?_;rintro e w2 ⟨rfl,hb2⟩;have B2:=BB.out.go hb2;have hs2:=B2.now.1;have hc1:=hs2.cell;have hc2:=hs2.cell1;have hf1:=hs2.free;have hf2:=hs2.free1;have HS:=hs2.set (.bool false) (.string t);have HE:=Lib.hid (RTold.fin B2.below (Nat.le_refl _) HB.out.1 HB.out.2);unfold put2 at HE;clear hb2 B2 hs2;go_wp2;exact bodyPost_ret (by simp[results,Tryz.results119,go_sem,HS]) rfl HE.out
def RX(y:World)(k:Nat):Prop:=∃x z,Slot2 y k x z
theorem RX.below{w w':World}{k:Nat}(h:RX w k)(hb:Below w.heap.size w w'):RX w' k:=by
 obtain⟨x,z,h1⟩:=h;exact⟨x,z,h1.below hb⟩
theorem Slot2.put2s{w:World}{k:Nat}{x z:Value}(h:Slot2 w k x z)(u v:Value):Slot2 (put2 w k u v) k u v :=
 ⟨(h.set u v).1,(h.set u v).2,by simp[put2,h.free],by simp[put2,h.free1],by simpa[put2]using h.lt⟩
theorem Slot2.put2o{w:World}{k j:Nat}{x z:Value}(h1:Slot2 w j x z)(e:j≠k)(u v:Value):Slot2 (put2 w k u v) j x z:=by
 refine⟨?_,?_,by simp[put2,h1.free],by simp[put2,h1.free1],by simpa[put2]using h1.lt⟩
 · unfold put2;rw[World.cell?_setCell_other _ _ _ _ (fun e'=>by cases e'<;>exact e rfl),World.cell?_setCell_other _ _ _ _ (fun e'=>by cases e'<;>exact e rfl)];exact h1.cell
 · unfold put2;rw[World.cell?_setCell_other _ _ _ _ (fun e'=>by cases e'<;>exact e rfl),World.cell?_setCell_other _ _ _ _ (fun e'=>by cases e'<;>exact e rfl)];exact h1.cell1
theorem RX.put2{w:World}{k j:Nat}(h:RX w j)(u v:Value):RX (put2 w k u v) j:=by
 obtain⟨x,z,h1⟩:=h
 by_cases e:j=k
 · subst e;exact⟨_,_,h1.put2s u v⟩
 · exact⟨_,_,h1.put2o e u v⟩
theorem Bag.put2{w0 w:World}{P:World->Prop}(h:Bag w0 P w){k:Nat}(hk:w0.heap.size<=k){u v:Value}(hp:P w->P (put2 w k u v)):Bag w0 P (put2 w k u v) :=
 ⟨(h.below.setCell hk _).setCell hk _,h.stay,hp h.now⟩
def BP(k:Nat)(b:Bool)(s:ByteArray)(b2:Bool)(s2:ByteArray)(y:World):Prop:=RX y (k+1+1)/\Slot2 y (k+1) (.bool b2) (.string s2)/\Slot2 y k (.bool b) (.string s)
theorem BP.stay{k:Nat}{b:Bool}{s:ByteArray}{b2:Bool}{s2:ByteArray}:∀x y,Below x.heap.size x y->BP k b s b2 s2 x->BP k b s b2 s2 y:=fun _ _ hb h=>⟨h.1.below hb,h.2.1.below hb,h.2.2.below hb⟩
theorem BP.put2{k:Nat}{b:Bool}{s:ByteArray}{b2:Bool}{s2:ByteArray}{y:World}(h:BP k b s b2 s2 y)(u v:Value):BP k b s b2 s2 (put2 y (k+1+1) u v):=⟨h.1.put2 u v,h.2.1.put2o (by omega) u v,h.2.2.put2o (by omega) u v⟩
theorem BP.start(w:World)(b:Bool)(s:ByteArray)(b2:Bool)(s2:ByteArray):Bag w (BP w.heap.size b s b2 s2) (((w.alloc (.cells #[.bool b,.string s] 159)).alloc (.cells #[.bool b2,.string s2] 159)).alloc (.cells #[.bool false,.string ⟨#[]⟩] 159)):=by
 have B0:=(((Bag.start w).box2 (.bool b) (.string s) 159).box2 (.bool b2) (.string s2) 159).box2 (.bool false) (.string ⟨#[]⟩) 159;simp only[World.size_alloc]at B0;exact⟨B0.below,BP.stay,⟨_,_,B0.now.1⟩,B0.now.2.1,B0.now.2.2.1⟩
theorem Slot.set1{w:World}{k:Nat}{x:Value}(h:Slot w k x)(u:Value):Slot (w.setCell ⟨k,0,none⟩ u) k u :=
 ⟨World.cell?_setCell_same _ _ _ h.cell,by simp[h.free],by simpa using h.lt⟩
theorem Slot.other{w:World}{k j:Nat}{x:Value}(h:Slot w j x)(u:Value)(hj:j≠k):Slot (w.setCell ⟨k,0,none⟩ u) j x :=
 ⟨by rw[World.cell?_setCell_other _ _ _ _ (fun e'=>by cases e'<;>exact hj rfl)];exact h.cell,by simp[h.free],by simpa using h.lt⟩
theorem Slot2.other{w:World}{k j:Nat}{x z:Value}(h:Slot2 w j x z)(u:Value)(hj:j≠k):Slot2 (w.setCell ⟨k,0,none⟩ u) j x z :=
 ⟨by rw[World.cell?_setCell_other _ _ _ _ (fun e'=>by cases e'<;>exact hj rfl)];exact h.cell,by rw[World.cell?_setCell_other _ _ _ _ (fun e'=>by cases e'<;>exact hj rfl)];exact h.cell1,by simp[h.free],by simp[h.free1],by simpa using h.lt⟩
theorem RS.other{w:World}{k j:Nat}(h:RS w j)(u:Value)(hj:j≠k):RS (w.setCell ⟨k,0,none⟩ u) j:=by
 obtain⟨x,b,h1,h2⟩:=h;exact⟨x,b,h1.other u hj,h2⟩
theorem FP.set1{k j:Nat}{a:Option Addr}{n c:Nat}{m:Bool}{Z:Int}{a2:Option Addr}{n2 c2:Nat}{m2:Bool}{Y:Int}{y:World}(h:FP k a n c m Z a2 n2 c2 m2 Y y){a3:Option Addr}{n3 c3:Nat}(hj:y.cell? ⟨j,0,none⟩=some (.slice a3 n3 c3))(hk:k+3<j)(u:Value):FP k a n c m Z a2 n2 c2 m2 Y (y.setCell ⟨j,0,none⟩ u) :=
 ⟨h.1.other u (by omega),h.2.1.other u (by omega),h.2.2.1.other u (by omega),h.2.2.2.1.other u (by omega),⟨h.2.2.2.2.1.1,h.2.2.2.2.1.2.storeAt hj (fun _ _ h=>by cases h) u⟩,⟨h.2.2.2.2.2.1,h.2.2.2.2.2.2.storeAt hj (fun _ _ h=>by cases h) u⟩⟩
end Go.Proofs.YtdmmenaejkpnjaaGreatDoor
namespace Go.Proofs.YtdmmenaejkpnjaaGreatDoor
open Go.RowKit
def readN(w:World)(k:Nat):Nat :=
 match w.cell? ⟨k,0,none⟩with
 | some (.slice (some ad) n _)=>val (fun j=>match w.cell? ⟨ad.block,ad.off+j,none⟩with
  | some (.int _ x)=>x.toNat
  | _=>0) n
 | _=>0
theorem readN_is{w:World}{k:Nat}{a:Option Addr}{n c N:Nat}(hs:Slot w k (.slice a n c))(h:NatIs w (.agg #[.slice a n c]) N):readN w k=N:=by
 obtain⟨a',n',c',f,e,⟨h1,h2,h3,h4⟩,hv,ht⟩:=h
 cases e
 unfold readN;rw[hs.cell]
 rcases h4 with ⟨rfl,hc⟩|⟨b,off,rfl,hb,hcc⟩
 · have hn:n=0:=by omega
   subst hn;simp only[];rw[← hv];rfl
 · simp only[];rw[← hv];refine val_congr n (fun j hj => ?_);rw[hcc j hj]
   simp
def GI(w wr:World)(A B:Nat):Prop:=Below w.heap.size w wr/\∃a n c a2 n2 c2,Slot wr w.heap.size (.slice a n c)/\NatIs wr (.agg #[.slice a n c]) A/\Slot wr (w.heap.size+1) (.slice a2 n2 c2)/\NatIs wr (.agg #[.slice a2 n2 c2]) B/\Slot wr (w.heap.size+1+1) (.slice none 0 0)
theorem gcd_any (a0 : Option Addr) (n0 c0 : Nat) (b0 : Option Addr) (m0 d0 : Nat) (X Y : Nat) (w : World) (h : NatIs w (.agg #[.slice a0 n0 c0]) X) (g : NatIs w (.agg #[.slice b0 m0 d0]) Y)
    (K:Nat) (hK:K<=900000) (hX:X<4294967296^K) (hY:Y<4294967296^K) :
    Calls Tryz.prog 170 #[.agg #[.slice a0 n0 c0],.agg #[.slice b0 m0 d0]] w fun e w'=>NatOf3 w w' e (Nat.gcd X Y):=by
 have B0:=((((Bag.start w).nat h).nat g).box (.slice a0 n0 c0) 49).box (.slice b0 m0 d0) 49 |>.box (.slice none 0 0) 49
 simp only[World.size_alloc]at B0;have H0:Hid (GI w _ X Y):=⟨B0.below,a0,n0,c0,b0,m0,d0,B0.now.2.2.1,B0.now.2.2.2.2.1,B0.now.2.1,B0.now.2.2.2.1,B0.now.1⟩
 have HXY:Hid (X<4294967296^K/\Y<4294967296^K):=⟨hX,hY⟩
 clear B0 h g hX hY;go_enter Tryz.func170,Tryz.ntmps170;go_wp2
 go_loopw [] (fun wr=>∃A B:Nat,GI w wr A B/\Hid (Nat.gcd A B=Nat.gcd X Y/\A<4294967296^K/\B<4294967296^K)) (fun wr=>readN wr (w.heap.size+1))
 case atStart=>exact⟨X,Y,H0.out,rfl,HXY.out.1,HXY.out.2⟩
 case round =>
  obtain⟨A,B,⟨hbl,a,n,c,a2,n2,c2,s1,i1,s2,i2,s3⟩,hh⟩:=hrel
  by_cases h0:B=0
  · have HZ:=Lib.hid (zero_any _ B wr i2);rw[decide_eq_true h0]at HZ;have hAg:A=Nat.gcd X Y:=by have:=hh.out.1;rw[h0,Nat.gcd_zero_right]at this;exact this
    subst hAg;have BB:=Lib.hid ((((((⟨hbl,fun _ _ _ _=>trivial,trivial⟩:Bag w (fun _=>True) wr).slot s3).slot s2).slot s1).nat i1));have q2:=s2.cell;clear h0 s1 s2 s3 i1 i2 hbl hh;go_wp2_with fail;go_at_call 114;(with_reducible refine HZ.out.mono ?_);rintro e w1 ⟨rfl,hb1⟩;have B1:=BB.out.go hb1;have BB:=Lib.hid B1;obtain⟨_,_,_,f,he,hs,hv,ht⟩:=B1.now.1
    cases he
    have hnl:=NatIs.len hs;have HS:=Lib.hid hs;have HV:=Lib.hid hv;clear hb1 B1 hs hv ht q2;have q1:=BB.out.now.2.1.cell;go_wp2_with fail;go_at_call 141;refine(copied_own a n c f n w1 HS.out (Nat.le_refl _) hnl).mono ?_;rintro e w2 ⟨b,rfl,ho,hb2⟩;have hbb:w.heap.size+1+1<b:=Nat.lt_of_lt_of_le BB.out.now.2.2.2.1.lt ho.ge;have BB:=bgo BB hb2;obtain⟨gg,hg,hgv⟩:=ho.slAt hnl;have HG:=Lib.hid hg;have HGV:=Lib.hid (hgv.trans HV.out);clear ho hb2 hg hgv q1;go_wp2_with fail;go_at_call 143;refine(trimmed_pl _ n n gg w2 HG.out).mono ?_;rintro e w3 ⟨a3,n3,c3,f3,rfl,hs3,hv3,ht3,hp3,hb3⟩;have B3:=BB.out.go hb3;have hc4:=B3.now.2.2.2.1.cell;have hf4:=B3.now.2.2.2.1.free;have HE:=Lib.hid (natOut_store (u:=.slice a3 n3 c3) (k:=w.heap.size+1+1) B3.below (by omega) hs3 (hv3.trans HGV.out) ht3 (by rintro x rfl;rcases hp3 with h|h<;>cases h;simp;omega)).three;clear hs3 hv3 ht3 hb3 hp3 B3;go_wp2;exact bodyPost_ret (v:=.agg #[.slice a3 n3 c3]) (by simp[results,Tryz.results170,go_sem,hc4]) rfl HE.out
  · have HZ:=Lib.hid (zero_any _ B wr i2);rw[decide_eq_false h0]at HZ
    have DM:Hid (∀wz,NatIs wz (.agg #[.slice a n c]) A->NatIs wz (.agg #[.slice a2 n2 c2]) B->Calls Tryz.prog 171 #[.agg #[.slice a n c],.agg #[.slice a2 n2 c2]] wz fun e w'=>DivOf3 wz w' e (A / B) (A%B) true):=fun wz h g=>(divMod_any _ _ _ _ wz h g K hK hh.out.2.1).mono fun _ _ h=>by
     have:=h.three (b:=true) (by simp;exact h0);unfold modz at this;rw[if_neg h0]at this;exact this
    have hlt:A%B<B:=Nat.mod_lt _ (Nat.pos_of_ne_zero h0);have HH:Hid (Nat.gcd B (A%B)=Nat.gcd X Y/\B<4294967296^K/\A%B<4294967296^K):=⟨by rw[Nat.gcd_comm B,← Nat.gcd_rec,Nat.gcd_comm];exact hh.out.1,hh.out.2.2,by have:=hh.out.2.2;omega⟩
    have HR:Hid (readN wr (w.heap.size+1)=B):=readN_is s2 i2;have HL:=Lib.hid hlt;have BB:=Lib.hid ((((((⟨hbl,fun _ _ _ _=>trivial,trivial⟩:Bag w (fun _=>True) wr).slot s3).slot s2).slot s1).nat i2).nat i1);have q2:=s2.cell;clear h0 s1 s2 s3 i1 i2 hbl hh hlt;go_wp2_with fail;go_at_call 114;(with_reducible refine HZ.out.mono ?_);rintro e w1 ⟨rfl,hb1⟩;have BB:=bgo BB hb1;clear hb1 q2;have q1:=BB.out.now.2.2.1.cell;have q2:=BB.out.now.2.2.2.1.cell;go_wp2_with fail;go_at_call 171;(with_reducible refine(DM.out _ BB.out.now.1 BB.out.now.2.1).mono ?_);rintro e w2 ⟨aq,nq,cq,ar,nr,cr,rfl,hiq,hir,hb2⟩;have hks:w.heap.size+1+1<w2.heap.size:=(BB.out.go hb2).now.2.2.2.2.1.lt;have B2:=(((BB.out.go hb2).nat hir).box (.slice aq nq cq) 49).box (.slice ar nr cr) 49;rw[World.size_alloc]at B2;clear hiq hir hb2 q1 q2;obtain⟨t6,t5,ir,ia,ib,t1,t2,t3,_⟩:=B2.now;have c1:=t1.cell;have f1:=t1.free;have c2':=t2.cell;have f2:=t2.free;have c6:=t6.cell
    have HN:Hid (GI w (((((w2.alloc (.cells #[.slice aq nq cq] 49)).alloc (.cells #[.slice ar nr cr] 49)).setCell ⟨w.heap.size,0,none⟩ (.slice a2 n2 c2)).setCell ⟨w.heap.size+1,0,none⟩ (.slice ar nr cr)).drew) B (A%B)):=by
     have u1:=t1.set1 (.slice a2 n2 c2);have u2:=t2.other (k:=w.heap.size) (.slice a2 n2 c2) (by omega);have u3:=t3.other (k:=w.heap.size) (.slice a2 n2 c2) (by omega);have jb:=ib.storeAt t1.cell (fun _ _ h=>by cases h) (.slice a2 n2 c2);have jr:=ir.storeAt t1.cell (fun _ _ h=>by cases h) (.slice a2 n2 c2);exact⟨((B2.below.setCell (Nat.le_refl _) _).setCell (show w.heap.size<=w.heap.size+1 by omega) _).drew,a2,n2,c2,ar,nr,cr,(u1.other (k:=w.heap.size+1) (.slice ar nr cr) (by omega)).below (Below.refl _ _).drew,(jb.storeAt u2.cell (fun _ _ h=>by cases h) _).below (Below.refl _ _).drew,(u2.set1 (.slice ar nr cr)).below (Below.refl _ _).drew,(jr.storeAt u2.cell (fun _ _ h=>by cases h) _).below (Below.refl _ _).drew,(u3.other (k:=w.heap.size+1) (.slice ar nr cr) (by omega)).below (Below.refl _ _).drew⟩
    have HM:Hid (readN (((((w2.alloc (.cells #[.slice aq nq cq] 49)).alloc (.cells #[.slice ar nr cr] 49)).setCell ⟨w.heap.size,0,none⟩ (.slice a2 n2 c2)).setCell ⟨w.heap.size+1,0,none⟩ (.slice ar nr cr)).drew) (w.heap.size+1)<readN wr (w.heap.size+1)):=by
     show _<_
     obtain⟨_,x1,x2,x3,y1,y2,y3,_,_,v1,v2,_⟩:=HN.out;rw[HR.out,readN_is v1 v2];exact HL.out
    clear t6 t5 ir ia ib t1 t2 t3 B2;go_wp2_with fail
    go_region
    all_goals
     go_wp2
     go_roundw
     case rel=>exact⟨B,A%B,HN.out,HH.out⟩
     case measure=>exact HM.out
end Go.Proofs.YtdmmenaejkpnjaaGreatDoor
namespace Go.Proofs.YtdmmenaejkpnjaaGreatDoor
open Go.RowKit
attribute [local go_sem ↓] Go.wp_at_zero Go.wp_at_succ
def RT(y:World)(k:Nat):Prop:=∃b t,Slot2 y k (.bool b) (.string t)
theorem RT.below{w w':World}{k:Nat}(h:RT w k)(hb:Below w.heap.size w w'):RT w' k:=by
 obtain⟨x,z,h1⟩:=h;exact⟨x,z,h1.below hb⟩
theorem RT.put2{w:World}{k:Nat}(h:RT w k)(b:Bool)(t:ByteArray):RT (put2 w k (.bool b) (.string t)) k:=by
 obtain⟨x,z,h1⟩:=h;exact⟨_,_,h1.put2s _ _⟩
theorem RT.putI{w:World}{k j:Nat}(h:RT w j)(e:j≠k)(a:Option Addr)(n c:Nat)(b:Bool):RT (putI w k a n c b) j:=by
 obtain⟨x,z,h1⟩:=h;exact⟨_,_,h1.put2o e _ _⟩
def LP(k0 k5 k7:Nat)(b:Bool)(d:ByteArray)(a:Option Addr)(n c N:Nat)(y:World):Prop:=RS y k0/\RT y (k0+1)/\Slot2 y k5 (.bool b) (.string d)/\Slot y k7 (.slice a n c)/\NatIs y (.agg #[.slice a n c]) N
theorem LP.stay{k0 k5 k7:Nat}{b:Bool}{d:ByteArray}{a:Option Addr}{n c N:Nat}:∀x y,Below x.heap.size x y->LP k0 k5 k7 b d a n c N x->LP k0 k5 k7 b d a n c N y :=
 fun _ _ hb h=>⟨h.1.below hb,h.2.1.below hb,h.2.2.1.below hb,h.2.2.2.1.below hb,h.2.2.2.2.below hb⟩
theorem Slot.put2o{w:World}{k j:Nat}{x:Value}(h:Slot w j x)(e:j≠k)(u v:Value):Slot (put2 w k u v) j x:=by
 refine⟨?_,by simp[put2,h.free],by simpa[put2]using h.lt⟩;unfold put2;rw[World.cell?_setCell_other _ _ _ _ (fun e'=>by cases e'<;>exact e rfl),World.cell?_setCell_other _ _ _ _ (fun e'=>by cases e'<;>exact e rfl)];exact h.cell
end Go.Proofs.YtdmmenaejkpnjaaGreatDoor
namespace Go.Proofs.YtdmmenaejkpnjaaGreatDoor
open Go.RowKit
theorem IntsAt.nought(w:World)(f:Nat->Int):IntsAt w none 0 0 f:=⟨Nat.le_refl _,by omega,.inl rfl⟩
theorem IntsAt.mk1 {w : World} {k : Nat} (hk : w.heap.size = k) {a : Option Addr} {n c : Nat} {m : Bool} {Z : Int} {t : TypeId} (h : IntAt (w.alloc (.cells #[.slice a n c, .bool m] t)) a n c m Z) :
    IntsAt (w.alloc (.cells #[.slice a n c,.bool m] t)) (some ⟨k,0,none⟩) 1 1 (fun _=>Z):=by
 subst hk;have hs:=Slot2.new w (.slice a n c) (.bool m) t;refine⟨Nat.le_refl _,by omega,.inr ⟨_,0,rfl,by rw[World.size_alloc];omega,fun j hj => ?_⟩⟩;obtain rfl:j=0:=by omega
 exact⟨a,n,c,m,hs.cell,hs.cell1,h⟩
theorem plus1_any (a : Option Addr) (n c : Nat) (m : Bool) (Z : Int) (sa : Option Addr) (Y : Int) (w : World) (h : IntAt w a n c m Z) (g : IntsAt w sa 1 1 (fun _ => Y)) (K : Nat) (hK : K <= 900000) (hZ : Z.natAbs + Y.natAbs < 4294967296 ^ K) :
    Calls Tryz.prog 228 #[.agg #[.slice a n c,.bool m],.slice sa 1 1] w fun e w'=>IntTold w w' e (Z+Y) :=
 plus_any a n c m Z sa 1 1 (fun _=>Y) w h g K hK (by simp[asum];exact hZ)
theorem times1_any (a : Option Addr) (n c : Nat) (m : Bool) (Z : Int) (sa : Option Addr) (Y : Int) (w : World) (h : IntAt w a n c m Z) (g : IntsAt w sa 1 1 (fun _ => Y)) (K : Nat) (hK : K <= 400000) (hZ : Z.natAbs < 4294967296 ^ K) (hY : Y.natAbs < 4294967296 ^ K) :
    Calls Tryz.prog 122 #[.agg #[.slice a n c,.bool m],.slice sa 1 1] w fun e w'=>IntTold w w' e (Z*Y) :=
 times_any a n c m Z sa 1 1 (fun _ => Y) w h g K hK (fun k hk => by obtain rfl : k = 0 := by omega
                                                                    exact⟨hZ,hY⟩)
theorem Below.step{w a b:World}(hb:Below a.heap.size a b)(h:Below w.heap.size w a):Below w.heap.size w b:=h.trans (hb.mono h.size)
theorem Below.more{w a:World}(h:Below w.heap.size w a)(o:Obj):Below w.heap.size w (a.alloc o):=h.alloc h.size o
theorem IntsAt.old1 {wk w : World} {k : Nat} {a : Option Addr} {n c : Nat} {m : Bool} {Z : Int} {t : TypeId} (hb : Below (wk.alloc (.cells #[.slice a n c, .bool m] t)).heap.size (wk.alloc (.cells #[.slice a n c, .bool m] t)) w)
    (hk:wk.heap.size=k) (h:IntAt w a n c m Z):IntsAt w (some ⟨k,0,none⟩) 1 1 (fun _=>Z):=by
 subst hk;have hs:=(Slot2.new wk (.slice a n c) (.bool m) t).below hb;refine⟨Nat.le_refl _,by omega,.inr ⟨_,0,rfl,hs.lt,fun j hj => ?_⟩⟩;obtain rfl:j=0:=by omega
 exact⟨a,n,c,m,hs.cell,hs.cell1,h⟩
def rg(P:Int)(Q:Nat):Nat:=Nat.gcd P.natAbs Q
def loP(P:Int)(Q:Nat):Int:=sgn (decide (P<0)) (P.natAbs / rg P Q)
def loQ(P:Int)(Q:Nat):Nat:=Q / rg P Q
theorem rg_pos(P:Int){Q:Nat}(h:0<Q):0<rg P Q:=Nat.gcd_pos_of_pos_right _ h
theorem loP_abs(P:Int)(Q:Nat):(loP P Q).natAbs=P.natAbs / rg P Q:=sgn_abs _ _
theorem loP_absle(P:Int)(Q:Nat):(loP P Q).natAbs<=P.natAbs:=by rw[loP_abs];exact Nat.div_le_self _ _
theorem loQ_le(P:Int)(Q:Nat):loQ P Q<=Q:=Nat.div_le_self _ _
theorem loQ_pos(P:Int){Q:Nat}(h:0<Q):0<loQ P Q :=
 Nat.div_pos (Nat.le_of_dvd h (Nat.gcd_dvd_right _ _)) (rg_pos P h)
theorem sgn_times(b:Bool)(N M:Nat):sgn b (N*M)=N*sgn b M:=by
 cases b<;>simp[sgn,Int.mul_neg]
theorem loP_mul(P:Int)(Q:Nat):(rg P Q:Int)*loP P Q=P:=by
 unfold loP;rw[← sgn_times,show rg P Q*(P.natAbs / rg P Q)=P.natAbs from Nat.mul_div_cancel' (Nat.gcd_dvd_left _ _),sgn_self]
theorem loP_zero{P:Int}{Q:Nat}:loP P Q=0↔P=0:=by
 constructor
 · intro h1;have:=loP_mul P Q;rw[h1]at this;omega
 · intro h1;have:=loP_absle P Q;rw[h1]at this ⊢
   omega
theorem loP_neg{P:Int}{Q:Nat}:decide (loP P Q<0)=decide (P<0):=by
 have h1:(P.natAbs / rg P Q=0)↔P=0:=by
  rw[← loP_abs];have:=loP_zero (P:=P) (Q:=Q)
  constructor
  · intro h2;exact this.1 (by omega)
  · intro h2;rw[this.2 h2];rfl
 unfold loP;rw[sgn_neg]
 by_cases h2:P<0
 · rw[decide_eq_true h2,decide_eq_false (fun h3=>by have:=h1.1 h3;omega)];rfl
 · rw[decide_eq_false h2];rfl
theorem lo_cop(P:Int){Q:Nat}(h:0<Q):Nat.gcd (loP P Q).natAbs (loQ P Q)=1:=by
 rw[loP_abs];exact Nat.Coprime.gcd_eq_one (Nat.coprime_div_gcd_div_gcd (rg_pos P h))
theorem lo_one{P:Int}{Q:Nat}(h:Nat.gcd P.natAbs Q=1):loP P Q=P/\loQ P Q=Q:=by
 have h1:rg P Q=1:=h;unfold loP loQ;rw[h1,Nat.div_one,Nat.div_one,sgn_self];exact⟨rfl,rfl⟩
def upZ(P Y:Int):Int:=if Y<0 then -P else P
end Go.Proofs.YtdmmenaejkpnjaaGreatDoor
namespace Go.Proofs.YtdmmenaejkpnjaaGreatDoor
open Go.RowKit
attribute [local go_sem ↓] Go.wp_at_zero Go.wp_at_succ
structure Slot3(w:World)(k:Nat)(x y z:Value):Prop where
 cell:w.cell? ⟨k,0,none⟩=some x
 cell1:w.cell? ⟨k,1,none⟩=some y
 cell2:w.cell? ⟨k,2,none⟩=some z
 free:w.frozen? ⟨k,0,none⟩=false
 free1:w.frozen? ⟨k,1,none⟩=false
 free2:w.frozen? ⟨k,2,none⟩=false
 lt:k<w.heap.size
theorem Slot3.c3{w:World}{k:Nat}{x y z:Value}(h:Slot3 w k x y z):w.cell? ⟨k,0,none⟩=some x ∧ w.cell? ⟨k,1,none⟩=some y ∧ w.cell? ⟨k,2,none⟩=some z:=⟨h.cell,h.cell1,h.cell2⟩
theorem Slot3.f3{w:World}{k:Nat}{x y z:Value}(h:Slot3 w k x y z):w.frozen? ⟨k,0,none⟩=false ∧ w.frozen? ⟨k,1,none⟩=false ∧ w.frozen? ⟨k,2,none⟩=false:=⟨h.free,h.free1,h.free2⟩
theorem Slot3.s6{w:World}{k:Nat}{x y z:Value}(h:Slot3 w k x y z):w.cell? ⟨k,0,none⟩=some x ∧ w.cell? ⟨k,1,none⟩=some y ∧ w.cell? ⟨k,2,none⟩=some z ∧ w.frozen? ⟨k,0,none⟩=false ∧ w.frozen? ⟨k,1,none⟩=false ∧ w.frozen? ⟨k,2,none⟩=false:=⟨h.cell,h.cell1,h.cell2,h.free,h.free1,h.free2⟩
theorem Slot3.below{w w':World}{k:Nat}{x y z:Value}(h:Slot3 w k x y z)(hb:Below w.heap.size w w'):Slot3 w' k x y z :=
 ⟨(hb.cell (p:=⟨k,0,none⟩) h.lt).trans h.cell,(hb.cell (p:=⟨k,1,none⟩) h.lt).trans h.cell1,(hb.cell (p:=⟨k,2,none⟩) h.lt).trans h.cell2,
   (hb.frozen (p:=⟨k,0,none⟩) h.lt).trans h.free,(hb.frozen (p:=⟨k,1,none⟩) h.lt).trans h.free1,(hb.frozen (p:=⟨k,2,none⟩) h.lt).trans h.free2,Nat.lt_of_lt_of_le h.lt hb.size⟩
theorem Slot3.new(w:World)(x y z:Value)(t:TypeId):Slot3 (w.alloc (.cells #[x,y,z] t)) w.heap.size x y z:=by
 refine⟨?_,?_,?_,World.frozen?_alloc_new _ _ _ _,World.frozen?_alloc_new _ _ _ _,World.frozen?_alloc_new _ _ _ _,by rw[World.size_alloc];omega⟩
 · rw[World.cell?_alloc_new];rfl
 · rw[World.cell?_alloc_new];rfl
 · rw[World.cell?_alloc_new];rfl
theorem Bag.slot3{w0 w:World}{P:World->Prop}{k:Nat}{x y z:Value}(h:Bag w0 P w)(q:Slot3 w k x y z):Bag w0 (fun v=>Slot3 v k x y z/\P v) w:=h.add (fun _ _ hb q=>q.below hb) q
theorem Bag.box3{w0 w:World}{P:World->Prop}(h:Bag w0 P w)(x y z:Value)(t:TypeId):Bag w0 (fun v=>Slot3 v w.heap.size x y z/\P v) (w.alloc (.cells #[x,y,z] t)) :=
 (h.alloc _).slot3 (Slot3.new w x y z t)
theorem bq0{w0 y:World}{A U:World → Prop}{k j:Nat}{x1 x2 x3 z1 z2 z3:Value}(h:Hid (Bag w0 (fun y=>A y ∧ Slot3 y j z1 z2 z3 ∧ Slot3 y k x1 x2 x3 ∧ U y) y)):y.cell? ⟨k,0,none⟩=some x1 ∧ y.cell? ⟨k,1,none⟩=some x2 ∧ y.cell? ⟨k,2,none⟩=some x3 ∧ y.cell? ⟨j,0,none⟩=some z1 ∧ y.cell? ⟨j,1,none⟩=some z2 ∧ y.cell? ⟨j,2,none⟩=some z3:=⟨h.out.now.2.2.1.cell,h.out.now.2.2.1.cell1,h.out.now.2.2.1.cell2,h.out.now.2.1.cell,h.out.now.2.1.cell1,h.out.now.2.1.cell2⟩
theorem bq1{w0 y:World}{A B U:World → Prop}{k j:Nat}{x1 x2 x3 z1 z2 z3:Value}(h:Hid (Bag w0 (fun y=>A y ∧ B y ∧ Slot3 y j z1 z2 z3 ∧ Slot3 y k x1 x2 x3 ∧ U y) y)):y.cell? ⟨k,0,none⟩=some x1 ∧ y.cell? ⟨k,1,none⟩=some x2 ∧ y.cell? ⟨k,2,none⟩=some x3 ∧ y.cell? ⟨j,0,none⟩=some z1 ∧ y.cell? ⟨j,1,none⟩=some z2 ∧ y.cell? ⟨j,2,none⟩=some z3:=⟨h.out.now.2.2.2.1.cell,h.out.now.2.2.2.1.cell1,h.out.now.2.2.2.1.cell2,h.out.now.2.2.1.cell,h.out.now.2.2.1.cell1,h.out.now.2.2.1.cell2⟩
def lowN(Q:Nat):Nat:=if Q=1 then 0 else Q
def RatAt(w:World)(a:Option Addr)(n c:Nat)(m:Bool)(a2:Option Addr)(n2 c2:Nat)(P:Int)(Q:Nat):Prop:=IntAt w a n c m P/\NatIs w (.agg #[.slice a2 n2 c2]) (lowN Q)
theorem RatAt.below{w w':World}{a:Option Addr}{n c:Nat}{m:Bool}{a2:Option Addr}{n2 c2:Nat}{P:Int}{Q:Nat}(h:RatAt w a n c m a2 n2 c2 P Q)(hb:Below w.heap.size w w'):RatAt w' a n c m a2 n2 c2 P Q:=⟨h.1.below hb,h.2.below hb⟩
theorem Bag.rat{w0 w:World}{B:World->Prop}{a:Option Addr}{n c:Nat}{m:Bool}{a2:Option Addr}{n2 c2:Nat}{P:Int}{Q:Nat}(h:Bag w0 B w)(q:RatAt w a n c m a2 n2 c2 P Q):Bag w0 (fun y=>RatAt y a n c m a2 n2 c2 P Q/\B y) w:=h.add (fun _ _ hb q=>q.below hb) q
theorem bagR{w:World}{a:Option Addr}{n c:Nat}{m:Bool}{a2:Option Addr}{n2 c2:Nat}{P:Int}{Q:Nat}{b:Option Addr}{k l:Nat}{v:Bool}{b2:Option Addr}{k2 l2:Nat}{P':Int}{Q':Nat}(h:RatAt w a n c m a2 n2 c2 P Q)(g:RatAt w b k l v b2 k2 l2 P' Q'):Hid (Bag w (fun y=>Slot3 y (w.heap.size+1+1) (.slice none 0 0) (.bool false) (.slice none 0 0) ∧ Slot3 y (w.heap.size+1) (.slice b k l) (.bool v) (.slice b2 k2 l2) ∧ Slot3 y w.heap.size (.slice a n c) (.bool m) (.slice a2 n2 c2) ∧ RatAt y b k l v b2 k2 l2 P' Q' ∧ RatAt y a n c m a2 n2 c2 P Q ∧ True) (((w.alloc (.cells #[.slice a n c,.bool m,.slice a2 n2 c2] 53)).alloc (.cells #[.slice b k l,.bool v,.slice b2 k2 l2] 53)).alloc (.cells #[.slice none 0 0,.bool false,.slice none 0 0] 53))):=by
 have BB:=Lib.hid ((((((Bag.start w).rat h).rat g).box3 (.slice a n c) (.bool m) (.slice a2 n2 c2) 53).box3 (.slice b k l) (.bool v) (.slice b2 k2 l2) 53).box3 (.slice none 0 0) (.bool false) (.slice none 0 0) 53)
 simp only[World.size_alloc]at BB
 exact BB
def RatTold(w w':World)(e:Ending)(P:Int)(Q:Nat):Prop:=∃a n c m a2 n2 c2,e=.returned (.agg #[.slice a n c,.bool m,.slice a2 n2 c2])/\RatAt w' a n c m a2 n2 c2 P Q/\Below w.heap.size w w'
theorem Slot3.set {w : World} {k : Nat} {x y z : Value} (h : Slot3 w k x y z) (u v t : Value) :
    (((w.setCell ⟨k,0,none⟩ u).setCell ⟨k,1,none⟩ v).setCell ⟨k,2,none⟩ t).cell? ⟨k,0,none⟩=some u/\(((w.setCell ⟨k,0,none⟩ u).setCell ⟨k,1,none⟩ v).setCell ⟨k,2,none⟩ t).cell? ⟨k,1,none⟩=some v/\(((w.setCell ⟨k,0,none⟩ u).setCell ⟨k,1,none⟩ v).setCell ⟨k,2,none⟩ t).cell? ⟨k,2,none⟩=some t:=by
 refine⟨?_,?_,?_⟩
 · rw[World.cell?_setCell_other _ _ _ _ (fun e=>by cases e),World.cell?_setCell_other _ _ _ _ (fun e=>by cases e)];exact World.cell?_setCell_same _ _ _ h.cell
 · rw[World.cell?_setCell_other _ _ _ _ (fun e=>by cases e)];refine World.cell?_setCell_same (u:=y) _ _ _ ?_;rw[World.cell?_setCell_other _ _ _ _ (fun e=>by cases e)];exact h.cell1
 · refine World.cell?_setCell_same (u:=z) _ _ _ ?_;rw[World.cell?_setCell_other _ _ _ _ (fun e=>by cases e),World.cell?_setCell_other _ _ _ _ (fun e=>by cases e)];exact h.cell2
theorem NatIs.set3 {w : World} {k : Nat} {x y z : Value} {v : Value} {N : Nat} (q : NatIs w v N) (h : Slot3 w k x y z) (hx : ∀ ki i, x ≠ .int ki i) (hy : ∀ ki i, y ≠ .int ki i) (hz : ∀ ki i, z ≠ .int ki i) (u v' t : Value) :
    NatIs (((w.setCell ⟨k,0,none⟩ u).setCell ⟨k,1,none⟩ v').setCell ⟨k,2,none⟩ t) v N:=by
 refine((q.storeAt h.cell hx _).storeAt (x:=y) ?_ hy _).storeAt (x:=z) ?_ hz _
 · rw[World.cell?_setCell_other _ _ _ _ (fun e=>by cases e)];exact h.cell1
 · rw[World.cell?_setCell_other _ _ _ _ (fun e=>by cases e),World.cell?_setCell_other _ _ _ _ (fun e=>by cases e)];exact h.cell2
theorem Slot3.set2{w:World}{k:Nat}{x y z:Value}(h:Slot3 w k x y z)(u v:Value):Slot3 ((w.setCell ⟨k,0,none⟩ u).setCell ⟨k,1,none⟩ v) k u v z:=by
 refine⟨?_,?_,?_,by simp[h.free],by simp[h.free1],by simp[h.free2],by simpa using h.lt⟩
 · rw[World.cell?_setCell_other _ _ _ _ (fun e=>by cases e)];exact World.cell?_setCell_same _ _ _ h.cell
 · refine World.cell?_setCell_same (u:=y) _ _ _ ?_;rw[World.cell?_setCell_other _ _ _ _ (fun e=>by cases e)];exact h.cell1
 · rw[World.cell?_setCell_other _ _ _ _ (fun e=>by cases e),World.cell?_setCell_other _ _ _ _ (fun e=>by cases e)];exact h.cell2
theorem Slot3.set2o{w:World}{k j:Nat}{x y z:Value}(h:Slot3 w j x y z)(e:j≠k)(u v:Value):Slot3 ((w.setCell ⟨k,0,none⟩ u).setCell ⟨k,1,none⟩ v) j x y z:=by
 have hn:∀o o':Nat,(⟨k,o',none⟩:Addr)≠⟨j,o,none⟩:=fun o o' h=>e (by cases h;rfl)
 refine⟨?_,?_,?_,by simp[h.free],by simp[h.free1],by simp[h.free2],by simpa using h.lt⟩
 · rw[World.cell?_setCell_other _ _ _ _ (hn _ _),World.cell?_setCell_other _ _ _ _ (hn _ _)];exact h.cell
 · rw[World.cell?_setCell_other _ _ _ _ (hn _ _),World.cell?_setCell_other _ _ _ _ (hn _ _)];exact h.cell1
 · rw[World.cell?_setCell_other _ _ _ _ (hn _ _),World.cell?_setCell_other _ _ _ _ (hn _ _)];exact h.cell2
theorem NatIs.set2 {w : World} {k : Nat} {x y z : Value} {v : Value} {N : Nat} (q : NatIs w v N) (h : Slot3 w k x y z) (hx : ∀ ki i, x ≠ .int ki i) (hy : ∀ ki i, y ≠ .int ki i) (u v' : Value) :
    NatIs ((w.setCell ⟨k,0,none⟩ u).setCell ⟨k,1,none⟩ v') v N:=by
 refine(q.storeAt h.cell hx _).storeAt (x:=y) ?_ hy _;rw[World.cell?_setCell_other _ _ _ _ (fun e=>by cases e)];exact h.cell1
theorem RatTold.done {w w2 : World} {k : Nat} {a0 : Option Addr} {n0 c0 : Nat} {m0 : Bool} {a1 : Option Addr} {n1 c1 : Nat} {a : Option Addr} {n c : Nat} {m : Bool} {a2 : Option Addr} {n2 c2 : Nat} {P : Int} {Q : Nat} (hb : Below w.heap.size w w2) (hk : w.heap.size <= k)
    (hs:Slot3 w2 k (.slice a0 n0 c0) (.bool m0) (.slice a1 n1 c1)) (h:RatAt w2 a n c m a2 n2 c2 P Q) :
    RatTold w (((w2.setCell ⟨k,0,none⟩ (.slice a n c)).setCell ⟨k,1,none⟩ (.bool m)).setCell ⟨k,2,none⟩ (.slice a2 n2 c2)) (.returned (.agg #[.slice a n c,.bool m,.slice a2 n2 c2])) P Q :=
 ⟨a,n,c,m,a2,n2,c2,rfl,⟨⟨h.1.1,h.1.2.set3 hs (fun _ _ h=>by cases h) (fun _ _ h=>by cases h) (fun _ _ h=>by cases h) _ _ _⟩,h.2.set3 hs (fun _ _ h=>by cases h) (fun _ _ h=>by cases h) (fun _ _ h=>by cases h) _ _ _⟩,
   ((hb.setCell hk _).setCell hk _).setCell hk _⟩
theorem NatTold.done {w w2 : World} {k : Nat} {a0 : Option Addr} {n0 c0 : Nat} {a : Option Addr} {n c N : Nat} (hb : Below w.heap.size w w2) (hk : w.heap.size <= k) (hs : Slot w2 k (.slice a0 n0 c0)) (h : NatIs w2 (.agg #[.slice a n c]) N) :
    NatTold w (w2.setCell ⟨k,0,none⟩ (.slice a n c)) (.returned (.agg #[.slice a n c])) N :=
 ⟨a,n,c,rfl,h.storeAt hs.cell (fun _ _ h=>by cases h) _,hb.setCell hk _⟩
theorem lowN_zero{Q:Nat}(h:0<Q):decide (lowN Q=0)=decide (Q=1):=by
 unfold lowN
 by_cases h1:Q=1
 · rw[if_pos h1,decide_eq_true rfl,decide_eq_true h1]
 · rw[if_neg h1,decide_eq_false (by omega),decide_eq_false h1]
theorem whole_any (a : Option Addr) (n c : Nat) (m : Bool) (Z : Int) (w : World) (h : IntAt w a n c m Z) :
    Calls Tryz.prog 117 #[.agg #[.slice a n c,.bool m]] w fun e w'=>RatTold w w' e Z 1:=by
 have B0:=(((Bag.start w).int h).box2 (.slice a n c) (.bool m) 51).box3 (.slice a n c) (.bool m) (.slice none 0 0) 53
 have HE:Hid (RatTold w ((w.alloc (.cells #[.slice a n c,.bool m] 51)).alloc (.cells #[.slice a n c,.bool m,.slice none 0 0] 53)) (.returned (.agg #[.slice a n c,.bool m,.slice none 0 0])) Z 1) :=
  ⟨a,n,c,m,none,0,0,rfl,⟨B0.now.2.2.1,NatIs.zero _⟩,B0.below⟩
 clear h B0;go_enter Tryz.func117,Tryz.ntmps117;go_wp2;exact bodyPost_ret (v:=.agg #[.slice a n c,.bool m,.slice none 0 0]) (by simp[results,Tryz.results117,go_sem]) rfl HE.out
theorem isWhole_any (a : Option Addr) (n c : Nat) (m : Bool) (a2 : Option Addr) (n2 c2 : Nat) (P : Int) (Q : Nat) (w : World) (h : RatAt w a n c m a2 n2 c2 P Q) (hQ : 0 < Q) :
    Calls Tryz.prog 120 #[.agg #[.slice a n c,.bool m,.slice a2 n2 c2]] w fun e w'=>e=.returned (.bool (decide (Q=1)))/\Below w.heap.size w w':=by
 have BB:=Lib.hid (((Bag.start w).nat h.2).box3 (.slice a n c) (.bool m) (.slice a2 n2 c2) 53);have HZ:=Lib.hid (fun wz hz=>zero_any (.agg #[.slice a2 n2 c2]) (lowN Q) wz hz);rw[lowN_zero hQ]at HZ;clear h hQ;generalize decide (Q=1)=q at *;go_enter Tryz.func120,Tryz.ntmps120
 go_wp2_with (go_at_call 114;refine(HZ.out _ BB.out.now.2.1).mono ?_;rintro e w2 ⟨rfl,hb2⟩;have HB:=Lib.hid (BB.out.go hb2).below;clear hb2)
 go_ret;exact⟨rfl,HB.out⟩
theorem ratSign_any (a : Option Addr) (n c : Nat) (m : Bool) (a2 : Option Addr) (n2 c2 : Nat) (P : Int) (Q : Nat) (w : World) (h : RatAt w a n c m a2 n2 c2 P Q) :
    Calls Tryz.prog 72 #[.agg #[.slice a n c,.bool m,.slice a2 n2 c2]] w fun e w'=>e=.returned (.int .i64 (sgnI P))/\Below w.heap.size w w':=by
 have BB:=Lib.hid (((Bag.start w).int h.1).box3 (.slice a n c) (.bool m) (.slice a2 n2 c2) 53);have HS:=Lib.hid (fun wz hz=>sign_any a n c m P wz hz);clear h;generalize sgnI P=s at *;go_enter Tryz.func72,Tryz.ntmps72
 go_wp2_with (go_at_call 140;refine(HS.out _ BB.out.now.2.1).mono ?_;rintro e w2 ⟨rfl,hb2⟩;have HB:=Lib.hid (BB.out.go hb2).below;clear hb2)
 go_ret;exact⟨rfl,HB.out⟩
theorem bot_any (a : Option Addr) (n c : Nat) (m : Bool) (a2 : Option Addr) (n2 c2 : Nat) (P : Int) (Q : Nat) (w : World) (h : RatAt w a n c m a2 n2 c2 P Q) (hQ : 0 < Q) :
    Calls Tryz.prog 74 #[.agg #[.slice a n c,.bool m,.slice a2 n2 c2]] w fun e w'=>NatTold w w' e Q:=by
 have B0:=(((Bag.start w).rat h).box3 (.slice a n c) (.bool m) (.slice a2 n2 c2) 53).box (.slice none 0 0) 49;rw[World.size_alloc]at B0;have IW:=Lib.hid (fun wz hz=>isWhole_any a n c m a2 n2 c2 P Q wz hz hQ);have BB:=Lib.hid B0
 by_cases h1:Q=1
 · subst h1;have OF:=Lib.hid (fun wz=>of_told 1 wz (by omega));rw[decide_eq_true rfl]at IW;clear h hQ B0;go_enter Tryz.func74,Tryz.ntmps74;go_wp2_with fail;go_at_call 120;refine(IW.out _ BB.out.now.2.2.1).mono ?_;rintro e w2 ⟨rfl,hb2⟩;have BB:=bgo BB hb2;clear hb2;go_wp2_with fail;go_at_call 146;refine(OF.out _).mono ?_;rintro e w3 ⟨a3,n3,c3,rfl,hv,hb3⟩;have BB:=bgo BB hb3;have hs:=BB.out.now.1;have hc:=hs.cell;have hf:=hs.free;have HS:=World.cell?_setCell_same w3 ⟨w.heap.size+1,0,none⟩ (.slice a3 n3 c3) hc;have HE:=Lib.hid (NatTold.done BB.out.below (by omega) hs hv);clear hb3 hs;go_wp2;exact bodyPost_ret (by simp[results,Tryz.results74,go_sem,HS]) rfl HE.out
 · rw[decide_eq_false h1]at IW;have hl:lowN Q=Q:=if_neg h1;have hx:=h.2;rw[hl]at hx;have q0:=B0.now.2.1.cell2;clear h hQ B0;go_enter Tryz.func74,Tryz.ntmps74;go_wp2_with fail;go_at_call 120;refine(IW.out _ BB.out.now.2.2.1).mono ?_;rintro e w2 ⟨rfl,hb2⟩;have BB:=bgo BB hb2;clear hb2;have q0:=BB.out.now.2.1.cell2;have hs:=BB.out.now.1;have hc:=hs.cell;have hf:=hs.free;have HS:=World.cell?_setCell_same w2 ⟨w.heap.size+1,0,none⟩ (.slice a2 n2 c2) hc;have HE:=Lib.hid (NatTold.done BB.out.below (by omega) hs (hl▸BB.out.now.2.2.1.2));clear hs;go_wp2;exact bodyPost_ret (by simp[results,Tryz.results74,go_sem,HS]) rfl HE.out
theorem below_any (a : Option Addr) (n c : Nat) (m : Bool) (a2 : Option Addr) (n2 c2 : Nat) (P : Int) (Q : Nat) (w : World) (h : RatAt w a n c m a2 n2 c2 P Q) (hQ : 0 < Q) :
    Calls Tryz.prog 123 #[.agg #[.slice a n c,.bool m,.slice a2 n2 c2]] w fun e w'=>IntTold w w' e (Q:Int):=by
 have B0:=(((Bag.start w).rat h).box3 (.slice a n c) (.bool m) (.slice a2 n2 c2) 53).box2 (.slice none 0 0) (.bool false) 51;rw[World.size_alloc]at B0;have BT:=Lib.hid (fun wz hz=>bot_any a n c m a2 n2 c2 P Q wz hz hQ);have OF:=Lib.hid (fun a n c wz (h:NatIs wz (.agg #[.slice a n c]) Q)=>wof_any false a n c Q wz h);rw[show sgn false Q=(Q:Int)from rfl]at OF;have BB:=Lib.hid B0;clear h hQ B0;go_enter Tryz.func123,Tryz.ntmps123;go_wp2_with fail;go_at_call 74;refine(BT.out _ BB.out.now.2.2.1).mono ?_;rintro e w2 ⟨a3,n3,c3,rfl,hv,hb2⟩;have BB:=Lib.hid ((BB.out.go hb2).nat hv);clear hb2 hv;go_wp2_with fail;go_at_call 116;refine(OF.out _ _ _ _ BB.out.now.1).mono ?_;rintro e w3 ⟨a4,n4,c4,m4,rfl,hi,hb3⟩;have BB:=bgo BB hb3;have hs:=BB.out.now.2.1;have hc:=hs.cell;have hc1:=hs.cell1;have hf:=hs.free;have hf1:=hs.free1;have HS:=hs.set (.slice a4 n4 c4) (.bool m4);have HE:=Lib.hid (IntTold.done BB.out.below (by omega) hs (fun _ _ h=>by cases h) hi);clear hb3 hs;go_wp2;exact bodyPost_ret (by simp[results,Tryz.results123,go_sem,HS]) rfl HE.out
theorem ratFrom_any (X : Int) (w : World) (h : -9223372036854775808 <= X /\ X <= 9223372036854775807) :
    Calls Tryz.prog 56 #[.int .i64 X] w fun e w'=>RatTold w w' e X 1:=by
 have BB:=Lib.hid ((Bag.start w).box3 (.slice none 0 0) (.bool false) (.slice none 0 0) 53);have FR:=Lib.hid (fun wz=>from_any X wz h);have WH:=Lib.hid (fun a n c m wz (h:IntAt wz a n c m X)=>whole_any a n c m X wz h);clear h;go_enter Tryz.func56,Tryz.ntmps56;go_wp2_with fail;go_at_call 118;refine(FR.out _).mono ?_;rintro e w2 ⟨a,n,c,m,rfl,hi,hb2⟩;have BB:=Lib.hid ((BB.out.go hb2).int hi);clear hb2 hi;go_wp2_with fail;go_at_call 117;refine(WH.out _ _ _ _ _ BB.out.now.1).mono ?_;rintro e w3 ⟨a3,n3,c3,m3,a4,n4,c4,rfl,hr,hb3⟩;have BB:=bgo BB hb3;have hs:=BB.out.now.2.1;have⟨hc,hc1,hc2,hf,hf1,hf2⟩:=hs.s6;have HS:=hs.set (.slice a3 n3 c3) (.bool m3) (.slice a4 n4 c4);have HE:=Lib.hid (RatTold.done BB.out.below (by omega) hs hr);clear hb3 hs hr;go_wp2;exact bodyPost_ret (by simp[results,Tryz.results56,go_sem,HS]) rfl HE.out
theorem Slot3.set1{w:World}{k:Nat}{x y z:Value}(h:Slot3 w k x y z)(t:Value):Slot3 (w.setCell ⟨k,2,none⟩ t) k x y t:=by
 refine⟨?_,?_,World.cell?_setCell_same _ _ _ h.cell2,by simp[h.free],by simp[h.free1],by simp[h.free2],by simpa using h.lt⟩
 · rw[World.cell?_setCell_other _ _ _ _ (fun e=>by cases e)];exact h.cell
 · rw[World.cell?_setCell_other _ _ _ _ (fun e=>by cases e)];exact h.cell1
theorem Slot3.set1o{w:World}{k j o:Nat}{x y z:Value}(h:Slot3 w j x y z)(e:j≠k)(t:Value):Slot3 (w.setCell ⟨k,o,none⟩ t) j x y z:=by
 have hn:∀o':Nat,(⟨k,o,none⟩:Addr)≠⟨j,o',none⟩:=fun o' h=>e (by cases h;rfl)
 refine⟨?_,?_,?_,by simp[h.free],by simp[h.free1],by simp[h.free2],by simpa using h.lt⟩
 · rw[World.cell?_setCell_other _ _ _ _ (hn _)];exact h.cell
 · rw[World.cell?_setCell_other _ _ _ _ (hn _)];exact h.cell1
 · rw[World.cell?_setCell_other _ _ _ _ (hn _)];exact h.cell2
theorem fraction_any (b : Bool) (a : Option Addr) (n c N : Nat) (a2 : Option Addr) (n2 c2 M : Nat) (w : World) (h : NatIs w (.agg #[.slice a n c]) N) (g : NatIs w (.agg #[.slice a2 n2 c2]) M) (hM : 0 < M) :
    Calls Tryz.prog 172 #[.bool b,.agg #[.slice a n c],.agg #[.slice a2 n2 c2]] w fun e w'=>RatTold w w' e (sgn b N) M:=by
 have OF:=Lib.hid (fun wz (h:NatIs wz (.agg #[.slice a n c]) N)=>wof_any b a n c N wz h);have WH:=Lib.hid (fun a n c m wz (h:IntAt wz a n c m (sgn b N))=>whole_any a n c m (sgn b N) wz h);have ON:=Lib.hid (fun wz (h:NatIs wz (.agg #[.slice a2 n2 c2]) M)=>one_any _ M wz h);have B0:=(((((Bag.start w).nat h).nat g).box (.slice a n c) 49).box (.slice a2 n2 c2) 49).box3 (.slice none 0 0) (.bool false) (.slice none 0 0) 53;simp only[World.size_alloc]at B0;have BB:=Lib.hid B0;generalize sgn b N=P at *;clear h g B0
 by_cases hm:M=1
 · rw[decide_eq_true hm]at ON;go_enter Tryz.func172,Tryz.ntmps172;go_wp2_with fail;go_at_call 116;refine(OF.out _ BB.out.now.2.2.2.2.1).mono ?_;rintro e w2 ⟨a3,n3,c3,m3,rfl,hi,hb2⟩;have BB:=Lib.hid ((BB.out.go hb2).int hi);clear hb2 hi;go_wp2_with fail;go_at_call 117;refine(WH.out _ _ _ _ _ BB.out.now.1).mono ?_;rintro e w3 ⟨a4,n4,c4,m4,a5,n5,c5,rfl,hr,hb3⟩;have BB:=Lib.hid (((BB.out.go hb3).rat hr).box3 (.slice a4 n4 c4) (.bool m4) (.slice a5 n5 c5) 53);clear hb3 hr;have q0:=BB.out.now.2.2.2.2.1.cell;go_wp2_with fail;go_at_call 168;refine(ON.out _ BB.out.now.2.2.2.2.2.2.1).mono ?_;rintro e w4 ⟨rfl,hb4⟩;have BB:=bgo BB hb4;clear hb4 q0;have hs0:=BB.out.now.1;have⟨q0,q1,q2⟩:=hs0.c3;have hs:=BB.out.now.2.2.2.1;have⟨r0,r1,r2,g0,g1,g2⟩:=hs.s6;have HS:=hs.set (.slice a4 n4 c4) (.bool m4) (.slice a5 n5 c5);have HE:=Lib.hid (RatTold.done BB.out.below (by omega) hs BB.out.now.2.1);clear hs hs0;subst hm;go_wp2;exact bodyPost_ret (by simp[results,Tryz.results172,go_sem,HS]) rfl HE.out
 · rw[decide_eq_false hm]at ON;go_enter Tryz.func172,Tryz.ntmps172;go_wp2_with fail;go_at_call 116;refine(OF.out _ BB.out.now.2.2.2.2.1).mono ?_;rintro e w2 ⟨a3,n3,c3,m3,rfl,hi,hb2⟩;have BB:=Lib.hid ((BB.out.go hb2).int hi);clear hb2 hi;go_wp2_with fail;go_at_call 117;refine(WH.out _ _ _ _ _ BB.out.now.1).mono ?_;rintro e w3 ⟨a4,n4,c4,m4,a5,n5,c5,rfl,hr,hb3⟩;have hk:w.heap.size+1+1<w3.heap.size:=(BB.out.go hb3).now.2.1.lt;have BB:=Lib.hid (((BB.out.go hb3).rat hr).box3 (.slice a4 n4 c4) (.bool m4) (.slice a5 n5 c5) 53);clear hb3 hr;have q0:=BB.out.now.2.2.2.2.1.cell;go_wp2_with fail;go_at_call 168;refine(ON.out _ BB.out.now.2.2.2.2.2.2.1).mono ?_;rintro e w4 ⟨rfl,hb4⟩;have BB:=bgo BB hb4;clear hb4 q0;have hs0:=BB.out.now.1;have q3:=BB.out.now.2.2.2.2.1.cell;have p2:=hs0.cell2;have pf:=hs0.free2;have hs1:=hs0.set1 (.slice a2 n2 c2);have⟨q0,q1,q2⟩:=hs1.c3;have hs:=BB.out.now.2.2.2.1.set1o (o:=2) (k:=w3.heap.size) (by omega) (.slice a2 n2 c2);have⟨r0,r1,r2,g0,g1,g2⟩:=hs.s6;have HS:=hs.set (.slice a4 n4 c4) (.bool m4) (.slice a2 n2 c2)
   have hx:RatAt (w4.setCell ⟨w3.heap.size,2,none⟩ (.slice a2 n2 c2)) a4 n4 c4 m4 a2 n2 c2 P M:=by
    have h1:=BB.out.now.2.1.1;have h2:=BB.out.now.2.2.2.2.2.2.1;refine⟨⟨h1.1,h1.2.storeAt hs0.cell2 (fun _ _ h=>by cases h) _⟩,?_⟩;rw[show lowN M=M from if_neg hm];exact h2.storeAt hs0.cell2 (fun _ _ h=>by cases h) _
   have HE:=Lib.hid (RatTold.done (BB.out.below.setCell (p:=⟨w3.heap.size,2,none⟩) (show w.heap.size<=w3.heap.size by omega) _) (by omega) hs hx);clear hs hs0 hs1 hx;go_wp2;exact bodyPost_ret (by simp[results,Tryz.results172,go_sem,HS]) rfl HE.out
theorem Slot.set0{w:World}{k:Nat}{x:Value}(h:Slot w k x)(t:Value):Slot (w.setCell ⟨k,0,none⟩ t) k t :=
 ⟨World.cell?_setCell_same _ _ _ h.cell,by simp[h.free],by simpa using h.lt⟩
theorem Slot.seto{w:World}{k j:Nat}{x:Value}(h:Slot w j x)(e:j≠k)(t:Value):Slot (w.setCell ⟨k,0,none⟩ t) j x:=by
 refine⟨?_,by simp[h.free],by simpa using h.lt⟩;rw[World.cell?_setCell_other _ _ _ _ (fun e'=>by cases e';exact e rfl)];exact h.cell
theorem Slot2.seto{w:World}{k j:Nat}{x y:Value}(h:Slot2 w j x y)(e:j≠k)(t:Value):Slot2 (w.setCell ⟨k,0,none⟩ t) j x y:=by
 refine⟨?_,?_,by simp[h.free],by simp[h.free1],by simpa using h.lt⟩
 · rw[World.cell?_setCell_other _ _ _ _ (fun e'=>by cases e';exact e rfl)];exact h.cell
 · rw[World.cell?_setCell_other _ _ _ _ (fun e'=>by cases e')];exact h.cell1
theorem Slot.set3o{w:World}{k j:Nat}{x:Value}(h:Slot w j x)(e:j≠k)(u v t:Value):Slot (((w.setCell ⟨k,0,none⟩ u).setCell ⟨k,1,none⟩ v).setCell ⟨k,2,none⟩ t) j x:=by
 have hn:∀o:Nat,(⟨k,o,none⟩:Addr)≠⟨j,0,none⟩:=fun o h=>e (by cases h;rfl)
 refine⟨?_,by simp[h.free],by simpa using h.lt⟩;rw[World.cell?_setCell_other _ _ _ _ (hn _),World.cell?_setCell_other _ _ _ _ (hn _),World.cell?_setCell_other _ _ _ _ (hn _)];exact h.cell
theorem Slot2.set3o{w:World}{k j:Nat}{x y:Value}(h:Slot2 w j x y)(e:j≠k)(u v t:Value):Slot2 (((w.setCell ⟨k,0,none⟩ u).setCell ⟨k,1,none⟩ v).setCell ⟨k,2,none⟩ t) j x y:=by
 have hn:∀o o':Nat,(⟨k,o,none⟩:Addr)≠⟨j,o',none⟩:=fun o o' h=>e (by cases h;rfl)
 refine⟨?_,?_,by simp[h.free],by simp[h.free1],by simpa using h.lt⟩
 · rw[World.cell?_setCell_other _ _ _ _ (hn _ _),World.cell?_setCell_other _ _ _ _ (hn _ _),World.cell?_setCell_other _ _ _ _ (hn _ _)];exact h.cell
 · rw[World.cell?_setCell_other _ _ _ _ (hn _ _),World.cell?_setCell_other _ _ _ _ (hn _ _),World.cell?_setCell_other _ _ _ _ (hn _ _)];exact h.cell1
theorem Slot3.set3o{w:World}{k j:Nat}{x y z:Value}(h:Slot3 w j x y z)(e:j≠k)(u v t:Value):Slot3 (((w.setCell ⟨k,0,none⟩ u).setCell ⟨k,1,none⟩ v).setCell ⟨k,2,none⟩ t) j x y z :=
 (h.set2o e u v).set1o e t
theorem divMod3_any (a : Option Addr) (n c : Nat) (a2 : Option Addr) (n2 c2 : Nat) (N M : Nat) (w : World) (h : NatIs w (.agg #[.slice a n c]) N) (g : NatIs w (.agg #[.slice a2 n2 c2]) M) (k : Nat) (hk : k <= 900000) (hN : N < 4294967296 ^ k) (hM : 0 < M) :
    Calls Tryz.prog 171 #[.agg #[.slice a n c],.agg #[.slice a2 n2 c2]] w fun e w'=>DivOf3 w w' e (N / M) (modz N M) true:=by
 refine(divMod_any _ _ N M w h g k hk hN).mono ?_;rintro e w' ⟨v,u,rfl,hv,hu,hb⟩;obtain⟨a,n,c,f,rfl,hs,hv,ht⟩:=hv;obtain⟨a2,n2,c2,f2,rfl,hs2,hv2,ht2⟩:=hu;exact⟨a,n,c,a2,n2,c2,by rw[decide_eq_true (by omega)],⟨a,n,c,f,rfl,hs,hv,ht⟩,⟨a2,n2,c2,f2,rfl,hs2,hv2,ht2⟩,hb⟩
theorem lowest_any (a : Option Addr) (n c : Nat) (m : Bool) (P : Int) (a2 : Option Addr) (n2 c2 Q : Nat) (w : World) (h : IntAt w a n c m P) (g : NatIs w (.agg #[.slice a2 n2 c2]) Q) (hQ : 0 < Q)
    (K:Nat) (hK:K<=900000) (hPK:P.natAbs<4294967296^K) (hQK:Q<4294967296^K) :
    Calls Tryz.prog 115 #[.agg #[.slice a n c,.bool m],.agg #[.slice a2 n2 c2]] w fun e w'=>RatTold w w' e (loP P Q) (loQ P Q):=by
 have ON:=Lib.hid (fun wz (h:NatIs wz (.agg #[.slice a2 n2 c2]) Q)=>one_any _ Q wz h);have B0:=(((((Bag.start w).int h).nat g).box2 (.slice a n c) (.bool m) 51).box (.slice a2 n2 c2) 49).box3 (.slice none 0 0) (.bool false) (.slice none 0 0) 53;simp only[World.size_alloc]at B0;have BB:=Lib.hid B0
 by_cases hq:Q=1
 · subst hq;have hlo:loP P 1=P/\loQ P 1=1:=lo_one (Nat.gcd_one_right _);rw[hlo.1,hlo.2];rw[decide_eq_true rfl]at ON;have WH:=Lib.hid (fun wz (h:IntAt wz a n c m P)=>whole_any a n c m P wz h);clear h g B0 hlo hPK hQK;go_enter Tryz.func115,Tryz.ntmps115;have q0:=BB.out.now.2.1.cell;have q1:=BB.out.now.2.2.1.cell;have q2:=BB.out.now.2.2.1.cell1;go_wp2_with fail;go_at_call 168;refine(ON.out _ BB.out.now.2.2.2.1).mono ?_;rintro e w2 ⟨rfl,hb2⟩;have BB:=bgo BB hb2;clear hb2 q0 q1 q2;have q0:=BB.out.now.2.1.cell;have q1:=BB.out.now.2.2.1.cell;have q2:=BB.out.now.2.2.1.cell1;go_wp2_with fail;go_at_call 117;refine(WH.out _ BB.out.now.2.2.2.2.1).mono ?_;rintro e w3 ⟨a3,n3,c3,m3,a4,n4,c4,rfl,hr,hb3⟩;have BB:=bgo BB hb3;have hs:=BB.out.now.1;have⟨r0,r1,r2,g0,g1,g2⟩:=hs.s6;have HS:=hs.set (.slice a3 n3 c3) (.bool m3) (.slice a4 n4 c4);have HE:=Lib.hid (RatTold.done BB.out.below (by omega) hs hr);clear hb3 hs hr;go_wp2;exact bodyPost_ret (by simp[results,Tryz.results115,go_sem,HS]) rfl HE.out
 · rw [decide_eq_false hq] at ON; have SZ := Lib.hid (fun wz (h : IntAt wz a n c m P) => size_any a n c m P wz h); have NG := Lib.hid (fun wz (h : IntAt wz a n c m P) => neg_any a n c m P wz h); have GC : Hid (∀ wz, NatIs wz (.agg #[.slice a n c]) P.natAbs -> NatIs wz (.agg #[.slice a2 n2 c2]) Q -> Calls Tryz.prog 170 #[.agg #[.slice a n c], .agg #[.slice a2 n2 c2]] wz fun e w' => NatOf3 wz w' e (Nat.gcd P.natAbs Q)) := fun wz h g => gcd_any a n c a2 n2 c2 P.natAbs Q wz h g K hK hPK hQK
   have ON2:=Lib.hid (fun a n c wz (h:NatIs wz (.agg #[.slice a n c]) (Nat.gcd P.natAbs Q))=>one_any _ (Nat.gcd P.natAbs Q) wz h);unfold NatTold2 at SZ
   by_cases hg:Nat.gcd P.natAbs Q=1
   · have hlo : loP P Q = P /\ loQ P Q = Q := lo_one hg; rw [hlo.1, hlo.2]; rw [hg] at ON2 GC; rw [decide_eq_true rfl] at ON2; have FR := Lib.hid (fun wz (h : NatIs wz (.agg #[.slice a n c]) P.natAbs) (g : NatIs wz (.agg #[.slice a2 n2 c2]) Q) => fraction_any m a n c P.natAbs a2 n2 c2 Q wz h g hQ); rw [h.1, sgn_self, ← h.1] at FR; clear h g B0 hlo hPK hQK hQ hg; go_enter Tryz.func115, Tryz.ntmps115; have q0 := BB.out.now.2.1.cell; have q1 := BB.out.now.2.2.1.cell; have q2 := BB.out.now.2.2.1.cell1
     go_wp2_with (first
      | (go_at_call 168;(with_reducible refine(ON.out _ BB.out.now.2.2.2.1).mono ?_);rintro e w2 ⟨rfl,hb2⟩;have BB:=Lib.hid (BB.out.go hb2);clear hb2;have q0:=BB.out.now.2.1.cell;have q1:=BB.out.now.2.2.1.cell;have q2:=BB.out.now.2.2.1.cell1)
      | (go_at_call 169;(with_reducible refine(SZ.out _ BB.out.now.2.2.2.2.1).mono ?_);rintro e w3 ⟨rfl,hn3,hb3⟩;have hk3:w.heap.size+1+1<w3.heap.size:=(BB.out.go hb3).now.1.lt;have BB:=Lib.hid (((BB.out.go hb3).nat hn3).box (.slice a n c) 49);clear hb3 hn3;have q0:=BB.out.now.2.2.2.1.cell;have q1:=BB.out.now.2.2.2.2.1.cell;have q2:=BB.out.now.2.2.2.2.1.cell1;have q3:=BB.out.now.1.cell)
      | (go_at_call 170;(with_reducible refine(GC.out _ BB.out.now.2.1 BB.out.now.2.2.2.2.2.1).mono ?_);rintro e w4 ⟨a5,n5,c5,rfl,hn5,hb4⟩;have hk4:w3.heap.size<w4.heap.size:=(BB.out.go hb4).now.1.lt;have BB:=Lib.hid (((BB.out.go hb4).nat hn5).box (.slice a5 n5 c5) 49);clear hb4 hn5;have q0:=BB.out.now.2.2.2.2.2.1.cell;have q1:=BB.out.now.2.2.2.2.2.2.1.cell;have q2:=BB.out.now.2.2.2.2.2.2.1.cell1;have q3:=BB.out.now.2.2.1.cell;have q4:=BB.out.now.1.cell)
      | (go_at_call 168;(with_reducible refine(ON2.out a5 n5 c5 _ BB.out.now.2.1).mono ?_);rintro e w5 ⟨rfl,hb5⟩;have BB:=Lib.hid (BB.out.go hb5);clear hb5;have q0:=BB.out.now.2.2.2.2.2.1.cell;have q1:=BB.out.now.2.2.2.2.2.2.1.cell;have q2:=BB.out.now.2.2.2.2.2.2.1.cell1;have q3:=BB.out.now.2.2.1.cell;have q4:=BB.out.now.1.cell))
     have BB:=Lib.hid BB.out.drew;have he:w.heap.size≠w.heap.size+1+1/\w.heap.size+1≠w.heap.size+1+1/\w3.heap.size≠w.heap.size+1+1:=by omega
     go_region_held3 (fun y => y.cell? ⟨w.heap.size, 0, none⟩ = some (.slice a n c) /\ y.cell? ⟨w.heap.size, 1, none⟩ = some (.bool m) /\ y.cell? ⟨w.heap.size + 1, 0, none⟩ = some (.slice a2 n2 c2) /\ y.cell? ⟨w3.heap.size, 0, none⟩ = some (.slice a n c))
      (first
        | (exact⟨BB.out.now.2.2.2.2.2.2.1.cell,BB.out.now.2.2.2.2.2.2.1.cell1,BB.out.now.2.2.2.2.2.1.cell,BB.out.now.2.2.1.cell⟩)
        | (exact⟨z0.cell,z0.cell1,z1.cell,z2.cell⟩))
      (first
        | (go_at_call 173;(with_reducible refine(NG.out _ BB.out.now.2.2.2.2.2.2.2.2.1).mono ?_);rintro e w6 ⟨rfl,hb6⟩;have BB:=Lib.hid (BB.out.go hb6);clear hb6)
        | (go_at_call 172;(with_reducible refine(FR.out _ BB.out.now.2.2.2.1 BB.out.now.2.2.2.2.2.2.2.1).mono ?_);rintro e w7 ⟨a6,n6,c6,m6,a7,n7,c7,rfl,hr,hb7⟩;have BB:=Lib.hid (BB.out.go hb7);have hs:=BB.out.now.2.2.2.2.1;have r0:=hs.cell;have r1:=hs.cell1;have r2:=hs.cell2;have g0:=hs.free;have g1:=hs.free1;have g2:=hs.free2;have HS:=hs.set (.slice a6 n6 c6) (.bool m6) (.slice a7 n7 c7);have z0:=BB.out.now.2.2.2.2.2.2.1.set3o he.1 (.slice a6 n6 c6) (.bool m6) (.slice a7 n7 c7);have z1:=BB.out.now.2.2.2.2.2.1.set3o he.2.1 (.slice a6 n6 c6) (.bool m6) (.slice a7 n7 c7);have z2:=BB.out.now.2.2.1.set3o he.2.2 (.slice a6 n6 c6) (.bool m6) (.slice a7 n7 c7);have HE:=Lib.hid (RatTold.done BB.out.below (by omega) hs hr);clear hb7 hs hr))
     go_wp2;exact bodyPost_ret (by simp[results,Tryz.results115,go_sem,HS]) rfl HE.out
   · have DM := Lib.hid (fun a5 n5 c5 wz (h : NatIs wz (.agg #[.slice a n c]) P.natAbs) (g : NatIs wz (.agg #[.slice a5 n5 c5]) (Nat.gcd P.natAbs Q)) => divMod3_any a n c a5 n5 c5 P.natAbs (Nat.gcd P.natAbs Q) wz h g K hK hPK (rg_pos P hQ)); have DQ := Lib.hid (fun a5 n5 c5 wz (h : NatIs wz (.agg #[.slice a2 n2 c2]) Q) (g : NatIs wz (.agg #[.slice a5 n5 c5]) (Nat.gcd P.natAbs Q)) => divMod3_any a2 n2 c2 a5 n5 c5 Q (Nat.gcd P.natAbs Q) wz h g K hK hQK (rg_pos P hQ)); have FR := Lib.hid (fun a n c a2 n2 c2 wz (h : NatIs wz (.agg #[.slice a n c]) (P.natAbs / Nat.gcd P.natAbs Q)) (g : NatIs wz (.agg #[.slice a2 n2 c2]) (Q / Nat.gcd P.natAbs Q)) => fraction_any m a n c (P.natAbs / Nat.gcd P.natAbs Q) a2 n2 c2 (Q / Nat.gcd P.natAbs Q) wz h g (loQ_pos P hQ)); have hx : sgn m (P.natAbs / Nat.gcd P.natAbs Q) = loP P Q := by rw [h.1]; rfl
     rw[hx,show Q / Nat.gcd P.natAbs Q=loQ P Q from rfl]at FR;rw[show Q / Nat.gcd P.natAbs Q=loQ P Q from rfl]at DQ;rw[decide_eq_false hg]at ON2;unfold DivOf3 at DM DQ;generalize loP P Q=P1 at *;generalize loQ P Q=Q1 at *;generalize P.natAbs / Nat.gcd P.natAbs Q=N1 at *;generalize Nat.gcd P.natAbs Q=G at *;clear h g B0 hPK hQK hQ hg hx;go_enter Tryz.func115,Tryz.ntmps115;have q0:=BB.out.now.2.1.cell;have q1:=BB.out.now.2.2.1.cell;have q2:=BB.out.now.2.2.1.cell1
     go_wp2_with (first
      | (go_at_call 168;(with_reducible refine(ON.out _ BB.out.now.2.2.2.1).mono ?_);rintro e w2 ⟨rfl,hb2⟩;have BB:=Lib.hid (BB.out.go hb2);clear hb2;have q0:=BB.out.now.2.1.cell;have q1:=BB.out.now.2.2.1.cell;have q2:=BB.out.now.2.2.1.cell1)
      | (go_at_call 169;(with_reducible refine(SZ.out _ BB.out.now.2.2.2.2.1).mono ?_);rintro e w3 ⟨rfl,hn3,hb3⟩;have hk3:w.heap.size+1+1<w3.heap.size:=(BB.out.go hb3).now.1.lt;have BB:=Lib.hid (((BB.out.go hb3).nat hn3).box (.slice a n c) 49);clear hb3 hn3;have q0:=BB.out.now.2.2.2.1.cell;have q1:=BB.out.now.2.2.2.2.1.cell;have q2:=BB.out.now.2.2.2.2.1.cell1;have q3:=BB.out.now.1.cell)
      | (go_at_call 170;(with_reducible refine(GC.out _ BB.out.now.2.1 BB.out.now.2.2.2.2.2.1).mono ?_);rintro e w4 ⟨a5,n5,c5,rfl,hn5,hb4⟩;have hk4:w3.heap.size<w4.heap.size:=(BB.out.go hb4).now.1.lt;have BB:=Lib.hid (((BB.out.go hb4).nat hn5).box (.slice a5 n5 c5) 49);clear hb4 hn5;have q0:=BB.out.now.2.2.2.2.2.1.cell;have q1:=BB.out.now.2.2.2.2.2.2.1.cell;have q2:=BB.out.now.2.2.2.2.2.2.1.cell1;have q3:=BB.out.now.2.2.1.cell;have q4:=BB.out.now.1.cell)
      | (go_at_call 168;(with_reducible refine(ON2.out a5 n5 c5 _ BB.out.now.2.1).mono ?_);rintro e w5 ⟨rfl,hb5⟩;have BB:=Lib.hid (BB.out.go hb5);clear hb5;have q0:=BB.out.now.2.2.2.2.2.1.cell;have q1:=BB.out.now.2.2.2.2.2.2.1.cell;have q2:=BB.out.now.2.2.2.2.2.2.1.cell1;have q3:=BB.out.now.2.2.1.cell;have q4:=BB.out.now.1.cell))
     go_at_call 171;(with_reducible refine(DM.out _ _ _ _ BB.out.now.2.2.2.1 BB.out.now.2.1).mono ?_);rintro e w6 ⟨a6,n6,c6,a7,n7,c7,rfl,hv,_,hb6⟩;have B6:=BB.out.go hb6;have u0:=B6.now.2.2.1;have hc:=u0.cell;have hf:=u0.free;have hni:∀(x:Option Addr) (y z:Nat) (ki:IntKind) (i:Int),(Value.slice x y z) ≠ .int ki i:=fun _ _ _ _ _ h=>by cases h
     have B7:=(Bag.start w).go (B6.below.setCell (p:=⟨w3.heap.size,0,none⟩) (show w.heap.size<=w3.heap.size by omega) (.slice a6 n6 c6));have B7:=B7.int (a:=a) (n:=n) (c:=c) (m:=m) (Z:=P) ⟨B6.now.2.2.2.2.2.2.2.2.1.1,B6.now.2.2.2.2.2.2.2.2.1.2.storeAt hc (hni _ _ _) _⟩;have B7:=B7.nat (B6.now.2.2.2.2.2.2.2.1.storeAt hc (hni _ _ _) _)
     have B7:=B7.slot2 (B6.now.2.2.2.2.2.2.1.seto (by omega) _);have B7:=B7.slot (B6.now.2.2.2.2.2.1.seto (by omega) _);have B7:=B7.slot3 (B6.now.2.2.2.2.1.set1o (by omega) _);have B7:=B7.nat (B6.now.2.1.storeAt hc (hni _ _ _) _)
     have B7:=B7.slot (B6.now.1.seto (by omega) _);have B7:=B7.slot (u0.set0 _);have B7:=B7.nat (hv.storeAt hc (hni _ _ _) _)
     have BB:=Lib.hid B7;have q0:=B7.now.2.2.2.2.2.1.cell;have q3:=B7.now.2.1.cell;have q4:=B7.now.2.2.1.cell;clear hv hb6 B6 u0 B7;go_wp2_with fail;go_at_call 171;(with_reducible refine(DQ.out _ _ _ _ BB.out.now.2.2.2.2.2.2.2.1 BB.out.now.2.2.2.1).mono ?_);rintro e w7 ⟨a8,n8,c8,a9,n9,c9,rfl,hv,_,hb7⟩;have B8:=BB.out.go hb7;have u0:=B8.now.2.2.2.2.2.1;have hc:=u0.cell;have hf:=u0.free;have B9:=(Bag.start w).go (B8.below.setCell (p:=⟨w.heap.size+1,0,none⟩) (show w.heap.size<=w.heap.size+1 by omega) (.slice a8 n8 c8));have B9:=B9.int (a:=a) (n:=n) (c:=c) (m:=m) (Z:=P) ⟨B8.now.2.2.2.2.2.2.2.2.1.1,B8.now.2.2.2.2.2.2.2.2.1.2.storeAt hc (hni _ _ _) _⟩;have B9:=B9.slot2 (B8.now.2.2.2.2.2.2.1.seto (by omega) _);have B9:=B9.slot (u0.set0 _);have B9:=B9.slot3 (B8.now.2.2.2.2.1.set1o (by omega) _);have B9:=B9.nat (B8.now.2.2.2.1.storeAt hc (hni _ _ _) _)
     have B9:=B9.slot (B8.now.2.2.1.seto (by omega) _);have B9:=B9.slot (B8.now.2.1.seto (by omega) _);have B9:=B9.nat (B8.now.1.storeAt hc (hni _ _ _) _)
     have B9:=B9.nat (hv.storeAt hc (hni _ _ _) _)
     have BB:=Lib.hid B9;clear hv hb7 B8 u0 B9 q0 q3 q4;go_wp2_with fail;have BB:=Lib.hid BB.out.drew;have he:w.heap.size≠w.heap.size+1+1/\w.heap.size+1≠w.heap.size+1+1/\w3.heap.size≠w.heap.size+1+1:=by omega
     go_region_held3 (fun y => y.cell? ⟨w.heap.size, 0, none⟩ = some (.slice a n c) /\ y.cell? ⟨w.heap.size, 1, none⟩ = some (.bool m) /\ y.cell? ⟨w.heap.size + 1, 0, none⟩ = some (.slice a8 n8 c8) /\ y.cell? ⟨w3.heap.size, 0, none⟩ = some (.slice a6 n6 c6))
      (first
        | (exact⟨BB.out.now.2.2.2.2.2.2.2.1.cell,BB.out.now.2.2.2.2.2.2.2.1.cell1,BB.out.now.2.2.2.2.2.2.1.cell,BB.out.now.2.2.1.cell⟩)
        | (exact⟨z0.cell,z0.cell1,z1.cell,z2.cell⟩))
      (first
        | (go_at_call 173;(with_reducible refine(NG.out _ BB.out.now.2.2.2.2.2.2.2.2.1).mono ?_);rintro e w8 ⟨rfl,hb8⟩;have BB:=Lib.hid (BB.out.go hb8);clear hb8)
        | (go_at_call 172;(with_reducible refine(FR.out _ _ _ _ _ _ _ BB.out.now.2.1 BB.out.now.1).mono ?_);rintro e w9 ⟨a10,n10,c10,m10,a11,n11,c11,rfl,hr,hb9⟩;have BB:=Lib.hid (BB.out.go hb9);have hs:=BB.out.now.2.2.2.2.2.1;have r0:=hs.cell;have r1:=hs.cell1;have r2:=hs.cell2;have g0:=hs.free;have g1:=hs.free1;have g2:=hs.free2;have HS:=hs.set (.slice a10 n10 c10) (.bool m10) (.slice a11 n11 c11);have z0:=BB.out.now.2.2.2.2.2.2.2.1.set3o he.1 (.slice a10 n10 c10) (.bool m10) (.slice a11 n11 c11);have z1:=BB.out.now.2.2.2.2.2.2.1.set3o he.2.1 (.slice a10 n10 c10) (.bool m10) (.slice a11 n11 c11);have z2:=BB.out.now.2.2.1.set3o he.2.2 (.slice a10 n10 c10) (.bool m10) (.slice a11 n11 c11);have HE:=Lib.hid (RatTold.done BB.out.below (by omega) hs hr);clear hb9 hs hr))
     go_wp2;exact bodyPost_ret (by simp[results,Tryz.results115,go_sem,HS]) rfl HE.out
def RatTold3(w w':World)(e:Ending)(P:Int)(Q:Nat)(ok:Bool):Prop:=∃a n c m a2 n2 c2,e=.returned (.tuple #[.agg #[.slice a n c,.bool m,.slice a2 n2 c2],.bool ok])/\RatAt w' a n c m a2 n2 c2 P Q/\Below w.heap.size w w'
theorem RatTold3.done {w w2 : World} {k : Nat} {a0 : Option Addr} {n0 c0 : Nat} {m0 : Bool} {a1 : Option Addr} {n1 c1 : Nat} {a : Option Addr} {n c : Nat} {m : Bool} {a2 : Option Addr} {n2 c2 : Nat} {P : Int} {Q : Nat} (ok : Bool) (hb : Below w.heap.size w w2) (hk : w.heap.size <= k)
    (hs:Slot3 w2 k (.slice a0 n0 c0) (.bool m0) (.slice a1 n1 c1)) (h:RatAt w2 a n c m a2 n2 c2 P Q) :
    RatTold3 w (((w2.setCell ⟨k,0,none⟩ (.slice a n c)).setCell ⟨k,1,none⟩ (.bool m)).setCell ⟨k,2,none⟩ (.slice a2 n2 c2)) (.returned (.tuple #[.agg #[.slice a n c,.bool m,.slice a2 n2 c2],.bool ok])) P Q ok:=by
 obtain⟨a',n',c',m',a2',n2',c2',he,h1,h2⟩:=RatTold.done hb hk hs h
 cases he
 exact⟨a,n,c,m,a2,n2,c2,rfl,h1,h2⟩
theorem IntAt.nt{w:World}{a:Option Addr}{n c:Nat}{m:Bool}{Z:Int}(h:IntAt w a n c m Z):NatIs w (.agg #[.slice a n c]) Z.natAbs:=h.2
theorem RatAt.int{w:World}{a:Option Addr}{n c:Nat}{m:Bool}{a2:Option Addr}{n2 c2:Nat}{P:Int}{Q:Nat}(h:RatAt w a n c m a2 n2 c2 P Q):IntAt w a n c m P:=h.1
theorem RatAt.low{w:World}{a:Option Addr}{n c:Nat}{m:Bool}{a2:Option Addr}{n2 c2:Nat}{P:Int}{Q:Nat}(h:RatAt w a n c m a2 n2 c2 P Q):NatIs w (.agg #[.slice a2 n2 c2]) (lowN Q):=h.2
theorem RatAt.zero(w:World):RatAt w none 0 0 false none 0 0 0 1:=⟨⟨rfl,NatIs.zero w⟩,NatIs.zero w⟩
theorem Slot2.set2{w:World}{k:Nat}{x y:Value}(h:Slot2 w k x y)(u v:Value):Slot2 ((w.setCell ⟨k,0,none⟩ u).setCell ⟨k,1,none⟩ v) k u v :=
 ⟨(h.set u v).1,(h.set u v).2,by simp[h.free],by simp[h.free1],by simpa using h.lt⟩
theorem Slot2.set2o{w:World}{k j:Nat}{x y:Value}(h:Slot2 w j x y)(e:j≠k)(u v:Value):Slot2 ((w.setCell ⟨k,0,none⟩ u).setCell ⟨k,1,none⟩ v) j x y:=by
 have hn:∀o o':Nat,(⟨k,o,none⟩:Addr)≠⟨j,o',none⟩:=fun o o' h=>e (by cases h;rfl)
 refine⟨?_,?_,by simp[h.free],by simp[h.free1],by simpa using h.lt⟩
 · rw[World.cell?_setCell_other _ _ _ _ (hn _ _),World.cell?_setCell_other _ _ _ _ (hn _ _)];exact h.cell
 · rw[World.cell?_setCell_other _ _ _ _ (hn _ _),World.cell?_setCell_other _ _ _ _ (hn _ _)];exact h.cell1
theorem NatIs.set2b {w : World} {k : Nat} {x y : Value} {v : Value} {N : Nat} (q : NatIs w v N) (h : Slot2 w k x y) (hx : ∀ ki i, x ≠ .int ki i) (hy : ∀ ki i, y ≠ .int ki i) (u v' : Value) :
    NatIs ((w.setCell ⟨k,0,none⟩ u).setCell ⟨k,1,none⟩ v') v N:=by
 refine(q.storeAt h.cell hx _).storeAt (x:=y) ?_ hy _;rw[World.cell?_setCell_other _ _ _ _ (fun e=>by cases e)];exact h.cell1
def nwP(P Y:Int):Int:=loP (upZ P Y) Y.natAbs
def nwQ(P Y:Int):Nat:=loQ (upZ P Y) Y.natAbs
theorem RatAt.set3 {w : World} {k : Nat} {a0 : Option Addr} {n0 c0 : Nat} {m0 : Bool} {a1 : Option Addr} {n1 c1 : Nat} {a : Option Addr} {n c : Nat} {m : Bool} {a2 : Option Addr} {n2 c2 : Nat} {P : Int} {Q : Nat} (q : RatAt w a n c m a2 n2 c2 P Q)
    (h:Slot3 w k (.slice a0 n0 c0) (.bool m0) (.slice a1 n1 c1)) (u v t:Value):RatAt (((w.setCell ⟨k,0,none⟩ u).setCell ⟨k,1,none⟩ v).setCell ⟨k,2,none⟩ t) a n c m a2 n2 c2 P Q :=
 ⟨⟨q.1.1,q.1.2.set3 h (fun _ _ h=>by cases h) (fun _ _ h=>by cases h) (fun _ _ h=>by cases h) _ _ _⟩,q.2.set3 h (fun _ _ h=>by cases h) (fun _ _ h=>by cases h) (fun _ _ h=>by cases h) _ _ _⟩
end Go.Proofs.YtdmmenaejkpnjaaGreatDoor
namespace Go.Proofs.YtdmmenaejkpnjaaGreatDoor
open Go.RowKit
theorem str_inj{l:List UInt8}{s:ByteArray}:str l=s↔l=s.data.toList:=by
 constructor
 · intro h;rw[← h];rfl
 · intro h;rw[h];rfl
theorem lo_gcd1{N M:Nat}(hM:0<M)(h:M / Nat.gcd N M=M):Nat.gcd N M=1:=by
 have hg:0<Nat.gcd N M:=Nat.gcd_pos_of_pos_right _ hM
 rcases Nat.lt_or_ge 1 (Nat.gcd N M)with h1|h1
 · have:=Nat.div_lt_self hM h1;omega
 · omega
theorem of_right (b : Bool) (s t : ByteArray) (hM : 0 < numOf t.data.toList) :
    decide (rB (loP (sgn b (numOf s.data.toList)) (numOf t.data.toList))=b/\rS (loP (sgn b (numOf s.data.toList)) (numOf t.data.toList))=s/\str (dec (loQ (sgn b (numOf s.data.toList)) (numOf t.data.toList)))=t)
     = (decide (str (dec (numOf s.data.toList))=s)&&(decide (str (dec (numOf t.data.toList))=t)&&(decide (Nat.gcd (numOf s.data.toList) (numOf t.data.toList)=1) && !(b&&decide (numOf s.data.toList=0))))):=by
 have ha:(sgn b (numOf s.data.toList)).natAbs=numOf s.data.toList:=sgn_abs _ _;have e1:(loP (sgn b (numOf s.data.toList)) (numOf t.data.toList)).natAbs=numOf s.data.toList / Nat.gcd (numOf s.data.toList) (numOf t.data.toList):=by rw[loP_abs];unfold rg;rw[ha]
 have e2:loQ (sgn b (numOf s.data.toList)) (numOf t.data.toList)=numOf t.data.toList / Nat.gcd (numOf s.data.toList) (numOf t.data.toList):=by unfold loQ rg;rw[ha]
 have e3:rB (loP (sgn b (numOf s.data.toList)) (numOf t.data.toList))=(b && !decide (numOf s.data.toList=0)):=by
  unfold rB;rw[loP_neg];exact sgn_neg _ _
 rw[e2,e3];unfold rS;rw[e1];rw[Bool.eq_iff_iff,decide_eq_true_eq,Bool.and_eq_true,Bool.and_eq_true,Bool.and_eq_true,decide_eq_true_eq,decide_eq_true_eq,decide_eq_true_eq]
 constructor
 · rintro⟨h1,h2,h3⟩
   have n1:numOf s.data.toList / Nat.gcd (numOf s.data.toList) (numOf t.data.toList)=numOf s.data.toList:=by
    have:=congrArg numOf (str_inj.1 h2);rw[numOf_dec]at this;exact this
   have n2:numOf t.data.toList / Nat.gcd (numOf s.data.toList) (numOf t.data.toList)=numOf t.data.toList:=by
    have:=congrArg numOf (str_inj.1 h3);rw[numOf_dec]at this;exact this
   rw[n1]at h2;rw[n2]at h3;refine⟨h2,h3,lo_gcd1 hM n2,?_⟩
   cases b
   · rfl
   · simpa using h1
 · rintro⟨h1,h2,h3,h4⟩;rw[h3,Nat.div_one,Nat.div_one];refine⟨?_,h1,h2⟩
   cases b
   · rfl
   · simpa using h4
end Go.Proofs.YtdmmenaejkpnjaaGreatDoor
namespace Go.Proofs.YtdmmenaejkpnjaaGreatDoor
open Go.RowKit Go.WideMaps Go.WideElems
theorem limbs_of_bits{N n:Nat}(h1:N<4294967296^n)(h2:0<n->4294967296^(n-1)<=N):(nbits N+31) / 32=n:=by
 have e:∀k,(4294967296:Nat)^k=2^(32*k):=fun k=>by rw[Nat.pow_mul]
 have h3:nbits N<=32*n:=nbits_le.2 (by rw[← e];exact h1)
 rcases Nat.eq_zero_or_pos n with h0|h0
 · omega
 · have h4:=h2 h0
   have h5:¬nbits N<=32*(n-1):=fun h=>by
    have:=nbits_le.1 h;rw[← e]at this;omega
   omega
def LimbsOut(w w':World)(e:Ending)(N:Nat):Prop:=e=.returned (.int .i64 ((nbits N+31) / 32:Nat))/\Below w.heap.size w w'
theorem limbs_bits(v:Value)(N:Nat)(w:World)(h:NatIs w v N):Calls Tryz.prog 187 #[v] w fun e w'=>LimbsOut w w' e N:=by
 refine(limbs_any v N w h).mono ?_;rintro e w' ⟨n,rfl,_,_,h1,hb⟩;exact⟨by rw[limbs_of_bits h1.out.1 h1.out.2],hb⟩
theorem dec_eq_digit(N d:Nat)(hd:d<10):((str (dec N)).toList == [UInt8.ofNat (48+d)])=decide (N=d):=by
 rw[Bool.eq_iff_iff,beq_iff_eq,decide_eq_true_eq,ByteArray.toList_eq,str_toList,← dec_small hd]
 constructor
 · intro h;have:=congrArg numOf h;rw[numOf_dec,numOf_dec]at this;exact this
 · intro h;rw[h]
end Go.Proofs.YtdmmenaejkpnjaaGreatDoor
namespace Go.Proofs.YtdmmenaejkpnjaaGreatDoor
open Go.RowKit
def lb(N:Nat):Nat:=(nbits N+31) / 32
def powN(X:Nat)(n most:Int):Nat × Bool :=
 if n<=0∨X=1 then(1,true)else if X=0 then(0,true)else if (lb (X^n.toNat):Int)<=most then(X^n.toNat,true)else(0,false)
theorem NatIs.store{w:World}{v:Value}{N k:Nat}{x:Value}(h:NatIs w v N)(hs:w.cell? ⟨k,0,none⟩=some x)(hx:∀ki z,x ≠ .int ki z)(u:Value):NatIs (w.setCell ⟨k,0,none⟩ u) v N:=by
 obtain⟨a,n,c,f,rfl,⟨h1,h2,h3,h4⟩,hv,ht⟩:=h;refine⟨a,n,c,f,rfl,⟨h1,h2,h3,?_⟩,hv,ht⟩
 rcases h4 with h4|⟨b,off,rfl,hb,hc⟩
 · exact .inl h4
 · refine .inr ⟨b,off,rfl,by simpa using hb,fun j hj => ?_⟩
   rw[World.cell?_setCell_other _ _ _ _ (fun e' => ?_)]
   · exact hc j hj
   · have h5:=hc j hj;rw[show(⟨b,off+j,none⟩:Addr)=⟨k,0,none⟩from by first|exact e'|exact e'.symm,hs]at h5;exact hx _ _ (Option.some.inj h5)
def PowTold(w w':World)(e:Ending)(N:Nat)(b:Bool):Prop:=∃a n c,e=.returned (.tuple #[.agg #[.slice a n c],.bool b])/\NatIs w' (.agg #[.slice a n c]) N/\Below w.heap.size w w'
structure PI(w wr:World)(x:Value)(X:Nat):Prop where
 below:Below w.heap.size w wr
 s1:Slot wr w.heap.size x
 s2:Slot wr (w.heap.size+1) (.slice none 0 0)
 xs:NatIs wr (.agg #[x]) X
theorem PI.go{w wr w2:World}{x:Value}{X:Nat}(h:PI w wr x X)(hb:Below wr.heap.size wr w2):PI w w2 x X :=
 ⟨h.below.trans (hb.mono h.below.size),h.s1.below hb,h.s2.below hb,h.xs.below hb⟩
theorem PI.done {w wr : World} {x : Value} {X : Nat} (h : PI w wr x X) {a : Option Addr} {n c N : Nat} (hv : NatIs wr (.agg #[.slice a n c]) N) (b : Bool) :
    PowTold w (wr.setCell ⟨w.heap.size+1,0,none⟩ (.slice a n c)) (.returned (.tuple #[.agg #[.slice a n c],.bool b])) N b :=
 ⟨a,n,c,rfl,hv.store h.s2.cell (fun _ _ h=>by cases h) _,h.below.setCell (show w.heap.size<=w.heap.size+1 by omega) _⟩
theorem PI.start{w:World}{a:Option Addr}{n c X:Nat}(h:NatIs w (.agg #[.slice a n c]) X):PI w ((w.alloc (.cells #[.slice a n c] 49)).alloc (.cells #[.slice none 0 0] 49)) (.slice a n c) X :=
 have hb:Below w.heap.size w ((w.alloc (.cells #[.slice a n c] 49)).alloc (.cells #[.slice none 0 0] 49)):=((Below.refl _ _).alloc (Nat.le_refl _) _).alloc (by rw[World.size_alloc];omega) _
 ⟨hb,(Slot.new w _ _).alloc _,Slot.new1 w _ _ _,h.below hb⟩
theorem pow_one (v : Value) (X : Nat) (n most : Int) (w : World) (h : NatIs w v X) (hn : n <= 0 ∨ X = 1) :
    Calls Tryz.prog 215 #[v,.int .i64 n,.int .i64 most] w fun e w'=>PowTold w w' e 1 true:=by
 obtain⟨a,k,c,f,rfl,hs,hv,ht⟩:=h;have HP:=Lib.hid (PI.start (w:=w) ⟨a,k,c,f,rfl,hs,hv,ht⟩);have hON:=Lib.hid (one_any (.agg #[.slice a k c]) X _ HP.out.xs);clear hs hv ht
 by_cases c1:n<=0
 · have d1:decide (n<=0)=true:=decide_eq_true c1;go_enter Tryz.func215,Tryz.ntmps215;go_wp2_with fail;go_at_call 146;refine(of_told 1 _ (by omega)).mono ?_;rintro e w3 ⟨a3,n3,c3,rfl,hn3,hb3⟩;have HQ:=HP.out.go hb3;have hc:=HQ.s2.cell;have hf:=HQ.s2.free;have HE:=Lib.hid (HQ.done hn3 true);clear HQ hn3 hb3;go_wp2;exact bodyPost_ret (v:=.tuple #[.agg #[.slice a3 n3 c3],.bool true]) (by simp[results,Tryz.results215,go_sem,hc]) rfl HE.out
 · have d1:decide (n<=0)=false:=decide_eq_false c1;have hX1:X=1:=by omega
   rw[decide_eq_true hX1]at hON;have hc0:=HP.out.s1.cell;go_enter Tryz.func215,Tryz.ntmps215;go_wp2_with fail;go_at_call 168;refine hON.out.mono ?_;rintro e w2 ⟨rfl,hb2⟩;have HP2:=Lib.hid (HP.out.go hb2);clear hb2 hc0;go_wp2_with fail;go_at_call 146;refine(of_told 1 _ (by omega)).mono ?_;rintro e w3 ⟨a3,n3,c3,rfl,hn3,hb3⟩;have HQ:=HP2.out.go hb3;have hc:=HQ.s2.cell;have hf:=HQ.s2.free;have HE:=Lib.hid (HQ.done hn3 true);clear HQ hn3 hb3;go_wp2;exact bodyPost_ret (v:=.tuple #[.agg #[.slice a3 n3 c3],.bool true]) (by simp[results,Tryz.results215,go_sem,hc]) rfl HE.out
theorem pow_zero (v : Value) (n most : Int) (w : World) (h : NatIs w v 0) (hn : 0 < n) :
    Calls Tryz.prog 215 #[v,.int .i64 n,.int .i64 most] w fun e w'=>PowTold w w' e 0 true:=by
 obtain⟨a,k,c,f,rfl,hs,hv,ht⟩:=h;have HP:=Lib.hid (PI.start (w:=w) ⟨a,k,c,f,rfl,hs,hv,ht⟩);have hON:=Lib.hid (one_any (.agg #[.slice a k c]) 0 _ HP.out.xs);have hZN:=Lib.hid (fun wz h=>zero_any (.agg #[.slice a k c]) 0 wz h);clear hs hv ht;have d1:decide (n<=0)=false:=decide_eq_false (by omega);have hc0:=HP.out.s1.cell;go_enter Tryz.func215,Tryz.ntmps215;go_wp2_with fail;go_at_call 168;refine hON.out.mono ?_;rintro e w2 ⟨rfl,hb2⟩;have HP2:=Lib.hid (HP.out.go hb2);have hc1:=HP2.out.s1.cell;clear hb2 hc0;go_wp2_with fail;go_at_call 114;refine(hZN.out _ HP2.out.xs).mono ?_;rintro e w3 ⟨rfl,hb3⟩;have HQ:=HP2.out.go hb3;have hc:=HQ.s2.cell;have hf:=HQ.s2.free;have HE:=Lib.hid (HQ.done (NatIs.zero _) true);clear HQ hb3;go_wp2;exact bodyPost_ret (v:=.tuple #[.agg #[.slice none 0 0],.bool true]) (by simp[results,Tryz.results215,go_sem,hc]) rfl HE.out
structure PS(w wr:World)(x:Value)(X z8 E:Nat)(p:Value):Prop where
 pi:PI w wr x X
 lt8:w.heap.size+1<z8
 s8:Slot wr z8 p
 np:NatIs wr (.agg #[p]) (X^E)
theorem PS.go{w wr w2:World}{x p:Value}{X z8 E:Nat}(h:PS w wr x X z8 E p)(hb:Below wr.heap.size wr w2):PS w w2 x X z8 E p :=
 ⟨h.pi.go hb,h.lt8,h.s8.below hb,h.np.below hb⟩
theorem PS.put {w wr : World} {x : Value} {X z8 E E2 : Nat} {a a2 : Option Addr} {n c n2 c2 : Nat} (h : PS w wr x X z8 E (.slice a n c)) (hv : NatIs wr (.agg #[.slice a2 n2 c2]) (X ^ E2)) :
    PS w (wr.setCell ⟨z8,0,none⟩ (.slice a2 n2 c2)) x X z8 E2 (.slice a2 n2 c2):=by
 have hlt:=h.lt8;have hw:Wrote z8 0 1 wr (wr.setCell ⟨z8,0,none⟩ (.slice a2 n2 c2)):=(Wrote.refl z8 0 1 wr).setCell (Nat.le_refl _) (by omega) _;refine⟨⟨h.pi.below.setCell (show w.heap.size<=z8 by omega) _,h.pi.s1.wrote hw (by omega),h.pi.s2.wrote hw (by omega),h.pi.xs.store h.s8.cell (fun _ _ h=>by cases h) _⟩,hlt,⟨World.cell?_setCell_same _ _ _ h.s8.cell,by simp[h.s8.free],by simpa using h.s8.lt⟩,hv.store h.s8.cell (fun _ _ h=>by cases h) _⟩
end Go.Proofs.YtdmmenaejkpnjaaGreatDoor
