/-
  Texts of this seat, laid together.
-/
import Derived.BigRegion
import Derived.RegionTactic
import Derived.Deep.RegionWith
import Derived.Deep.RegionHeld3
import Derived.Deep.DrawnRows
import Derived.IntWalk
import Derived.Laws.BitsLemmas
import Derived.Test.YtdmmenaejkpnjaaGreatDoorV2
set_option maxHeartbeats 12800000
set_option maxRecDepth 100000
set_option linter.unusedSimpArgs false
set_option linter.unusedVariables false
namespace Go.Proofs.YtdmmenaejkpnjaaGreatDoor
open Go.RowKit
theorem ret_str{s t:ByteArray}(h:s=t):Ending.returned (.string s)=.returned (.string t):=by rw[h]
theorem extract_cons(x:UInt8)(l:List UInt8):(str (x::l)).extract 1 (str (x::l)).size=str l:=by
 refine str_of ?_;rw[Lib.extract_data]
 simp[str,ByteArray.size]
theorem dec_of_top{N k:Nat}(h:N<10^k)(h2:k=1∨(1<=k/\¬dgt N (k-1)=48)):sdig N k=dec N:=by
 have:dl N=k:=by
  rcases h2 with rfl|⟨h1,h2⟩
  · have:=dl_le N 1 (by omega) h;have:=dl_pos N;omega
  · refine Nat.le_antisymm (dl_le N k h1 h) ?_
    have:10^(k-1)<=N:=by
     rcases Nat.lt_or_ge N (10^(k-1))with h3|h3
     · exact absurd (by rw[dgt_zero,Nat.div_eq_of_lt h3]) h2
     · exact h3
    have:=dl_ge this;omega
 unfold dec;rw[this]
theorem trim_any(N n:Nat)(w:World)(hn:0<n)(hN:N<10^n)(hl:n<=10000000):Calls Tryz.prog 111 #[.string (str (sdig N n))] w fun e w'=>e=.returned (.string (str (dec N)))/\w=w':=by
 have H0:Hid (str (sdig N n)=str (sdig N n)/\(str (sdig N n)).size=n/\N<10^n/\0<n/\n<=10000000):=⟨rfl,by rw[str_size,sdig_length],hN,hn,hl⟩
 obtain⟨s0,hs0⟩:∃s0,str (sdig N n)=s0:=⟨_,rfl⟩
 rw[hs0];have H0':Hid (s0=str (sdig N n)/\s0.size=n/\N<10^n/\0<n/\n<=10000000):=by rw[← hs0];exact H0
 clear H0 hs0 hn hN hl;go_enter Tryz.func111,Tryz.ntmps111;go_wp2
 go_loop [0] (fun s=>∃(k:Nat) (t:ByteArray),s=.string t/\Hid (t=str (sdig N k)/\t.size=k/\N<10^k/\0<k/\k<=10000000))
  (fun s=>match s with | .string t=>t.size|_=>0)
 case atStart=>exact⟨n,s0,rfl,H0'.out⟩
 case round =>
  obtain⟨k,t,rfl,hr⟩:=hrel;obtain⟨ht,hk,hNk,hk0,hkl⟩:=hr.out;have hz:0<t.size:=by omega
  obtain⟨c,hc⟩:∃c,t[0]=c:=⟨_,rfl⟩
  have hcd:c=dgt N (k-1):=by
   obtain⟨m,rfl⟩:∃m,k=m+1:=⟨k-1,by omega⟩
   subst ht;rw[← hc];rfl
  have HCD:=Lib.hid hcd;have HK:=Lib.hid hk
  by_cases h1:1<t.size
  · have d1 : decide ((1 : Int) < (t.size : Int)) = true := decide_eq_true (by omega)
    by_cases h2:c=48
    · have d2 : ((c.toNat : Int) == 48) = true := by rw [h2]; rfl
      obtain⟨t',htt⟩:∃t',t.extract 1 t.size=t':=⟨_,rfl⟩
      have hnx:Hid (t'=str (sdig N (k-1))/\t'.size=k-1/\N<10^(k-1)/\0<k-1/\k-1<=10000000):=by
       obtain⟨m,rfl⟩:∃m,k=m+1:=⟨k-1,by omega⟩
       have e:t'=str (sdig N m):=by rw[← htt,ht];exact extract_cons _ _
       have hlt:N<10^m:=by
        rw[hcd,Nat.add_sub_cancel,dgt_zero]at h2
        rcases Nat.lt_or_ge N (10^m)with h3|h3
        · exact h3
        · have h4:=Nat.div_pos h3 (Nat.pow_pos (by omega));have h5:N / 10^m<10:=by rw[Nat.div_lt_iff_lt_mul (Nat.pow_pos (by omega))];rw[Nat.pow_succ]at hNk;omega
          omega
       exact⟨e,by rw[e,str_size,sdig_length];rfl,hlt,by omega,by omega⟩
      have hsz:t'.size<t.size:=by have:=hnx.out.2.1;omega
      clear hr ht hk hNk hcd h2;go_wp2
      go_round
      case rel=>exact⟨k-1,t',rfl,hnx.out⟩
      case measure=>simpa using hsz
    · have d2:((c.toNat:Int)==48)=false:=by
        rw[beq_eq_false_iff_ne];intro h;apply h2;rw[← UInt8.toNat_inj]
        show c.toNat=48
        omega
      have hE:Hid (str (dec N)=t):=by show _=_;rw[ht,dec_of_top hNk (.inr ⟨hk0,by rw[← hcd];exact h2⟩)]
      clear hr ht hk hNk hcd h2;go_wp2;go_ret;exact⟨ret_str hE.out.symm,rfl⟩
  · have d1:decide ((1:Int)<(t.size:Int))=false:=decide_eq_false (by omega);have hE:Hid (str (dec N)=t):=by show _=_;rw[ht,dec_of_top hNk (.inl (by omega))]
    clear hr ht hk hNk hcd;go_wp2;go_ret;exact⟨ret_str hE.out.symm,rfl⟩
theorem infoI:(Tryz.prog.info? 3).map (fun i=>(i.zero,i.size,i.bytes))=some (some (.int .i64 0),1,8):=by kernel_rfl
theorem make_bytes(m:Nat)(hm:m<=10000000):∃z:Array Value,z.size=m /\
    ∀w:World,(Instr.makeSlice 175 (.int .i64 0) (.int .i64 m)).run Tryz.prog w=.ok (.slice (some ⟨w.heap.size,0,none⟩) 0 m) (w.alloc (.cells z 5)):=by
 obtain⟨i0,hi,hz0,hz1,hz2⟩:=info_parts infoB;refine⟨madeCells (Value.cells (.int .u8 0)) m,size_madeCells _ _,fun w => ?_⟩;have hmk:=run_make (P:=Tryz.prog) w 175 5 i0 (.int .u8 0) Tryz.underlying175 hi hz0 .i64 .i64 0 m (by omega) (by omega) (by rw[hz2];omega) (by omega);simp only[Int.toNat_natCast,hz1,Nat.mul_one,Int.toNat_zero]at hmk;exact hmk
def d10(N j:Nat):Nat:=N / 10^j%10
theorem dg_d10(N j:Nat):dg N j=48+d10 N j:=rfl
structure WrI(w wr:World)(base N n:Nat)(V:Value)(k:Nat):Prop where
 below:Below base w wr
 own:OwnL wr base 5 .u8 V k (fun j=>dg N (n-1-j))
theorem written_any (a : Option Addr) (n c : Nat) (f : Nat -> Nat) (N : Nat) (w : World) (hs : SlAt w .i64 10 a n c f) (hf : ∀ j, j < n -> f j = d10 N j) (hN : N < 10 ^ n) :
    Calls Tryz.prog 218 #[.slice a n c] w fun e w'=>e=.returned (.string (str (dec N)))/\Below w.heap.size w w':=by
 obtain⟨i0,hi,hz0,hz1,hz2⟩:=info_parts infoB;have hnl:n<=1000000:=hs.2.1;obtain⟨m,hm⟩:∃m,n+1=m:=⟨_,rfl⟩
 have em:(n:Int)+1=(m:Int):=by omega
 obtain⟨z,hz,hmk⟩:=make_bytes m (by omega)
 have H0:WrI w (w.alloc (.cells z 5)) w.heap.size N n (.slice (some ⟨w.heap.size,0,none⟩) 0 m) 0 :=
  ⟨(Below.refl _ _).alloc (Nat.le_refl _) _,World.ownsRow_made w z m (Nat.le_refl _) (by unfold maxLen;omega) (by omega)⟩
 have HS:=Lib.hid hs;have HF:=Lib.hid hf;have HN:=Lib.hid hN;have HI:=Lib.hid hi;have H0':=Lib.hid H0;clear hs hf hN hi H0 hz hm;go_enter Tryz.func218,Tryz.ntmps218;go_wp2
 go_loopw [3,4] (fun D i wr=>∃(k:Nat) (ii:Int) (V:Value),k<=n/\i=.int .i64 ii/\ii=(n:Int)-1-(k:Int)/\V=D/\WrI w wr w.heap.size N n V k)
  (fun _ i _=>(intOf i+1).toNat)
 case atStart=>exact⟨0,_,_,by omega,rfl,by omega,rfl,H0'.out⟩
 case round =>
  obtain⟨k,ii,V,hk,rfl,hii,rfl,hr⟩:=hrel
  by_cases hlt:k<n
  · obtain ⟨t, rfl⟩ : ∃ t : Nat, ii = (t : Int) := ⟨ii.toNat, by omega⟩
    have htn:n-1-k=t:=by omega
    obtain⟨b,off,rfl,hb,hcc⟩:=HS.out.at (show 0<n by omega)
    have hct:=(hr.below.cell (p:=⟨b,off+t,none⟩) hb).trans (hcc t (by omega));have hft:=HF.out t (by omega);rw[hft]at hct;have hxl:d10 N t<10:=Nat.mod_lt _ (by omega);obtain⟨x,hx⟩:∃x,d10 N t=x:=⟨_,rfl⟩
    rw[hx]at hct hxl;obtain⟨y,hy⟩:∃y,48+x=y:=⟨_,rfl⟩
    have e2:(48:Int)+(x:Int)=(y:Int):=by omega
    have e3:(y:Int)%256=(y:Int):=by omega
    have hyd:y=dg N (n-1-k):=by rw[htn,dg_d10,hx,hy]
    have HYD:=Lib.hid hyd;have HR:=Lib.hid hr;have HII:=Lib.hid hii;have ht0:(0:Int)<=(t:Int):=by omega
    have ht1:(t:Int)<(n:Int):=by omega
    have hzr:w.heap.size<=wr.heap.size:=hr.below.size;clear hr hcc hft hx hy hyd htn hii
    go_wp2_with (at_builtin;refine wpList_append_own _ rfl _ _ 175 rfl w.heap.size 5 i0 (.int .u8 0) 1 1 Tryz.underlying175 HI.out hz0 hz1 hz2 rfl (by decide) _ _ _ rfl (World.ownsRow.alloc HR.out.own _) ⟨wr.heap.size,0,none⟩ 1 1 [.int .u8 y] rfl rfl ?c1 ?c2 ?c3 ?c4 ?c5 ?_)
    case c1 =>
     intro j u hj
     match j,hj with
     | 0,hj=>simp at hj;subst hj;simp[Addr.add]
    case c2=>intro u hu;simp at hu;subst hu;rfl
    case c3=>unfold maxLen;omega
    case c4=>omega
    case c5=>rw[World.size_alloc];omega
    · intro v' w5 hown' hgrow _;have hb5:Below w.heap.size w w5:=(HR.out.below.alloc hzr _).grown hgrow (by rw[World.size_alloc];omega) (fun q hq=>(World.ownsRow.lt HR.out.own q hq).1)
      have hown2:OwnL w5 w.heap.size 5 .u8 v' (k+1) (fun j=>dg N (n-1-j)):=by
       rw[cl_snoc,cl_congr (g:=fun j=>dg N (n-1-j)) (fun j hj=>by
        by_cases e:j=k
        · rw[if_pos e,HYD.out,e]
        · rw[if_neg e])]at hown'
       exact hown'
      have HG5:=Lib.hid (show WrI w w5 w.heap.size N n v' (k+1)from⟨hb5,hown2⟩);clear hown' hgrow hb5 hown2;go_wp2
      go_roundw
      case rel =>
       have:=HII.out;exact⟨k+1,(t:Int)-1,v',by omega,rfl,by omega,rfl,HG5.out⟩
      case measure=>simp[intOf]
  · obtain rfl : k = n := by omega
    have d1:decide ((0:Int)<=ii)=false:=decide_eq_false (by omega);have hii2:¬(0:Int)<=ii:=by omega
    have hbl:=hr.below
    rcases hr.own.cases with ⟨hV,hk0⟩|⟨g,c2,rfl,hc2,hgb,hgl,hgc,hgf⟩
    · subst hk0;have h0:N=0:=by have:=HN.out;simp at this;omega
      subst h0;subst hV;have HB:=Lib.hid hbl;clear hr hbl hii;go_wp2;go_ret;exact⟨by rw[dec_zero];rfl,HB.out⟩
    · by_cases hk0 : k = 0
      · subst hk0;have h0:N=0:=by have:=HN.out;simp at this;omega
        subst h0;have HB:=Lib.hid hbl;clear hr hbl hii hgc hgf;go_wp2;go_ret;exact⟨by rw[dec_zero];rfl,HB.out⟩
      · have d2:((k:Int)==0)=false:=by rw[beq_eq_false_iff_ne];omega
        have hcv:=run_convert_bytes_arg (P:=Tryz.prog) (w:=wr) 175 5 Tryz.underlying175 Tryz.underlying5 g 0 k c2 ((List.range k).map fun j=>((dg N (k-1-j):Nat):Int)) (by simp) (fun j hj=>by rw[hgc j hj];simp[hj]) 9 Tryz.underlying9
        have hst:strOfNums ((List.range k).map fun j=>((dg N (k-1-j):Nat):Int))=str (sdig N k):=by
         refine str_of ?_;rw[strOfNums_data]
         apply List.ext_getElem?
         intro j
         by_cases hj:j<k
         · rw[sdig_get N k j hj,List.getElem?_map,List.getElem?_map,List.getElem?_range hj];simp only[Option.map_some];rw[Int.toNat_natCast];rfl
         · rw[List.getElem?_eq_none (by simp;omega),List.getElem?_eq_none (by rw[sdig_length];omega)]
        rw[hst]at hcv;have HT:=Lib.hid (trim_any N k wr (by omega) HN.out (by omega));have HB:=Lib.hid hbl;clear hr hbl hii hgc hgf hst;go_wp2_with fail;go_at_call 111;refine HT.out.mono ?_;rintro e w7 ⟨rfl,rfl⟩;clear hcv;go_wp2;go_ret;exact⟨rfl,HB.out⟩
structure OfI(w wr:World)(X:Nat)(V:Value)(k:Nat):Prop where
 below:Below w.heap.size w wr
 own:OwnL wr w.heap.size 3 .i64 V k (d10 X)
theorem rof_any(X:Nat)(w:World)(hX:X<18446744073709551616):Calls Tryz.prog 174 #[.int .u64 X] w fun e w'=>e=.returned (.string (str (dec X)))/\Below w.heap.size w w':=by
 obtain⟨i0,hi,hz0,hz1,hz2⟩:=info_parts infoI
 by_cases h0:X=0
 · subst h0;go_enter Tryz.func174,Tryz.ntmps174;go_wp2;go_ret;exact⟨by rw[dec_zero];rfl,Below.refl _ _⟩
 have HX:Hid (X<10^20):=by show _<_;omega
 have H0:OfI w w X (.slice none 0 0) 0:=⟨Below.refl _ _,World.ownsRow_nil _ _ _ _⟩
 have d0:((X:Int)==0)=false:=by rw[beq_eq_false_iff_ne];omega
 have HI:=Lib.hid hi;have HXL:=Lib.hid hX;clear hi;go_enter Tryz.func174,Tryz.ntmps174;go_wp2
 go_loopw [0,3,4] (fun x D i wr=>∃(k y:Nat) (V:Value),k<=20/\i=.int .i64 k/\x=.int .u64 y/\Hid (y=X / 10^k)/\y<18446744073709551616/\V=D/\OfI w wr X V k)
  (fun _ _ i _=>20-(intOf i).toNat)
 case atStart=>exact⟨0,X,_,by omega,rfl,rfl,(by show _=_;simp),hX,rfl,H0⟩
 case round =>
  obtain⟨k,y,V,hk,rfl,rfl,hy,hyl,rfl,hr⟩:=hrel
  by_cases hlt:k<20/\0<y
  · obtain ⟨hlt, hy0⟩ := hlt; obtain ⟨x, hx⟩ : ∃ x, y % 10 = x := ⟨_, rfl⟩
    obtain⟨y',hy'⟩:∃y',y / 10=y':=⟨_,rfl⟩
    have e1:(y:Int)%10=(x:Int):=by omega
    have e2:(y:Int) / 10=(y':Int):=by omega
    have hxd:x=d10 X k:=by unfold d10;rw[← hx,hy.out]
    have hyn:Hid (y'=X / 10^(k+1)):=by show _=_;rw[← hy',hy.out,Nat.div_div_eq_div_mul,← Nat.pow_succ]
    have HXD:=Lib.hid hxd;have HR:=Lib.hid hr;have hxl:x<10:=by omega
    have hyl':y'<18446744073709551616:=by omega
    have hzr:w.heap.size<=wr.heap.size:=hr.below.size;have d1:decide ((0:Int)<(y:Int))=true:=decide_eq_true (by omega);clear hr hx hy' hxd hy
    go_wp2_with (at_builtin;refine wpList_append_own _ rfl _ _ 22 rfl w.heap.size 3 i0 (.int .i64 0) 1 8 Tryz.underlying22 HI.out hz0 hz1 hz2 rfl (by decide) _ _ _ rfl (World.ownsRow.alloc HR.out.own _) ⟨wr.heap.size,0,none⟩ 1 1 [.int .i64 x] rfl rfl ?c1 ?c2 ?c3 ?c4 ?c5 ?_)
    case c1 =>
     intro j u hj
     match j,hj with
     | 0,hj=>simp at hj;subst hj;simp[Addr.add]
    case c2=>intro u hu;simp at hu;subst hu;rfl
    case c3=>unfold maxLen;omega
    case c4=>omega
    case c5=>rw[World.size_alloc];omega
    · intro v' w5 hown' hgrow _;have hb5:Below w.heap.size w w5:=(HR.out.below.alloc hzr _).grown hgrow (by rw[World.size_alloc];omega) (fun q hq=>(World.ownsRow.lt HR.out.own q hq).1)
      have hown2:OwnL w5 w.heap.size 3 .i64 v' (k+1) (d10 X):=by
       rw[cl_snoc,cl_congr (g:=d10 X) (fun j hj=>by
        by_cases e:j=k
        · rw[if_pos e,HXD.out,e]
        · rw[if_neg e])]at hown'
       exact hown'
      have HG5:=Lib.hid (show OfI w w5 X v' (k+1)from⟨hb5,hown2⟩);clear hown' hgrow hb5 hown2;go_wp2
      go_roundw
      case rel=>exact⟨k+1,y',v',by omega,by go_num,rfl,hyn,hyl',rfl,HG5.out⟩
      case measure=>simp[intOf];omega
  · have hlow:X<10^k:=by
      by_cases hk20:k=20
      · subst hk20;exact HX.out
      · have:X / 10^k=0:=by have:=hy.out;omega
        rcases Nat.lt_or_ge X (10^k)with h|h
        · exact h
        · have:=Nat.div_pos h (Nat.pow_pos (show 0<10 by omega));omega
    obtain⟨a,c,rfl,hsa,_⟩:=hr.own.slAt (m:=10) (fun j _=>Nat.mod_lt _ (by omega)) (by omega);have HW:=Lib.hid (written_any a k c (d10 X) X wr hsa (fun _ _=>rfl) hlow);have HB:=Lib.hid hr.below;clear hsa hr hlow hy
    by_cases hk20:k<20
    · have d1:decide ((0:Int)<(y:Int))=false:=decide_eq_false (by omega)
      go_wp2_with (go_at_call 218;refine HW.out.mono ?_;rintro e w7 ⟨rfl,hb7⟩)
      go_ret;exact⟨rfl,HB.out.trans (hb7.mono HB.out.size)⟩
    · go_wp2_with (go_at_call 218;refine HW.out.mono ?_;rintro e w7 ⟨rfl,hb7⟩)
      go_ret;exact⟨rfl,HB.out.trans (hb7.mono HB.out.size)⟩
theorem right_any(s:ByteArray)(w:World)(hs:s.size<=maxLen):Calls Tryz.prog 110 #[.string s] w fun e w'=>e=.returned (.bool (okB s.data.toList))/\w=w':=by
 have hsl:s.data.toList.length=s.size:=rfl;unfold maxLen at hs;obtain⟨b,hb⟩:∃b,okB s.data.toList=b:=⟨_,rfl⟩
 rw[hb];have HB:=Lib.hid hb;have HSL:=Lib.hid hsl;clear hb hsl;go_enter Tryz.func110,Tryz.ntmps110;go_wp2
 go_loop [3] (fun i=>∃k:Nat,k<=s.size/\k<=2001/\i=.int .i64 k/\Hid (∀c ∈ s.data.toList.take k,48<=c.toNat/\c.toNat<=57))
  (fun i=>s.size-(intOf i).toNat)
 case atStart=>exact⟨0,by omega,by omega,rfl,by show ∀c ∈ _,_;simp⟩
 case round =>
  obtain⟨k,hk,hk2,rfl,hdg⟩:=hrel
  by_cases hlt:k<s.size
  · have d0 : decide ((k : Int) < (s.size : Int)) = true := decide_eq_true (by omega)
    by_cases h2k:k<=2000
    · have d1 : decide ((k : Int) <= 2000) = true := decide_eq_true (by omega); have hsn := take_snoc s k hlt; obtain ⟨c, hc⟩ : ∃ c, s[k] = c := ⟨_, rfl⟩
      rw[hc]at hsn
      have hbad:¬(48<=c.toNat/\c.toNat<=57)->b=false:=by
       intro hdc;rw[← HB.out]
       cases hk:okB s.data.toList
       · rfl
       · exfalso
         have:=(okB_digs hk).2.2 c (List.mem_of_mem_take (by rw[hsn];exact List.mem_append_right _ List.mem_cons_self));exact hdc this
      by_cases hdc:48<=c.toNat/\c.toNat<=57
      · have t1:decide ((c.toNat:Int)<48)=false:=decide_eq_false (by omega);have t2:decide ((57:Int)<(c.toNat:Int))=false:=decide_eq_false (by omega)
        have hnx:Hid (∀c ∈ s.data.toList.take (k+1),48<=c.toNat/\c.toNat<=57):=by
         intro x hx;rw[hsn]at hx
         rcases List.mem_append.1 hx with h|h
         · exact hdg.out x h
         · rw[List.mem_singleton.1 h];exact hdc
        clear hsn hbad hdc;go_wp2
        go_round
        case rel=>exact⟨k+1,by omega,by omega,by go_num,hnx⟩
        case measure=>simp[intOf];omega
      · have hbf:=Lib.hid (hbad hdc);clear hsn hbad
        by_cases h48:c.toNat<48
        · have t1:decide ((c.toNat:Int)<48)=true:=decide_eq_true (by omega);clear hdc;go_wp2;go_ret;exact⟨by rw[hbf.out];rfl,rfl⟩
        · have t1:decide ((c.toNat:Int)<48)=false:=decide_eq_false (by omega);have t2:decide ((57:Int)<(c.toNat:Int))=true:=decide_eq_true (by omega);clear hdc;go_wp2;go_ret;exact⟨by rw[hbf.out];rfl,rfl⟩
    · have d1 : decide ((k : Int) <= 2000) = false := decide_eq_false (by omega)
      have hbf:Hid (b=false):=by
       show _=_
       rw[← HB.out]
       cases hk:okB s.data.toList
       · rfl
       · exfalso
         have:=(okB_digs hk).2.1;rw[HSL.out]at this;omega
      have d3:decide ((1:Int)<=(s.size:Int))=true:=decide_eq_true (by omega);have d4:decide ((s.size:Int)<=2000)=false:=decide_eq_false (by omega);go_wp2;go_ret;exact⟨by rw[hbf.out];rfl,rfl⟩
  · obtain rfl : k = s.size := by omega
    have d0:decide ((s.size:Int)<(s.size:Int))=false:=decide_eq_false (by omega)
    by_cases h1:1<=s.size
    · have d3 : decide ((1 : Int) <= (s.size : Int)) = true := decide_eq_true (by omega)
      by_cases h4:s.size<=2000
      · have d4:decide ((s.size:Int)<=2000)=true:=decide_eq_true (by omega)
        have hbf:Hid (b=true):=by
         show _=_
         rw[← HB.out];refine okB_mk (by rw[HSL.out];omega) (by rw[HSL.out];omega) ?_;have:=hdg.out;rw[List.take_of_length_le (by rw[HSL.out];omega)]at this;exact this
        go_wp2;go_ret;exact⟨by rw[hbf.out];rfl,rfl⟩
      · have d4 : decide ((s.size : Int) <= 2000) = false := decide_eq_false (by omega)
        have hbf:Hid (b=false):=by
         show _=_
         rw[← HB.out]
         cases hk:okB s.data.toList
         · rfl
         · exfalso
           have:=(okB_digs hk).2.1;rw[HSL.out]at this;omega
        go_wp2;go_ret;exact⟨by rw[hbf.out];rfl,rfl⟩
    · have d3 : decide ((1 : Int) <= (s.size : Int)) = false := decide_eq_false (by omega)
      have hbf:Hid (b=false):=by
       show _=_
       rw[← HB.out]
       cases hk:okB s.data.toList
       · rfl
       · exfalso
         have:=(okB_digs hk).1;rw[HSL.out]at this;omega
      go_wp2;go_ret;exact⟨by rw[hbf.out];rfl,rfl⟩
theorem digit_any(N n i:Nat)(w:World)(hN:N<10^n)(hn:n<=10000000)(hi:i<=100000000):Calls Tryz.prog 231 #[.string (str (sdig N n)),.int .i64 i] w fun e w'=>e=.returned (.int .i64 (d10 N i))/\w=w':=by
 obtain⟨s,hs⟩:∃s,str (sdig N n)=s:=⟨_,rfl⟩
 have hsz:s.size=n:=by rw[← hs,str_size,sdig_length]
 rw[hs]
 by_cases h:i<n
 · obtain ⟨k, hk⟩ : ∃ k, n - 1 - i = k := ⟨_, rfl⟩
   have hks:k<s.size:=by omega
   have hc:s[k].toNat=48+d10 N i:=by
    have h1:=sdig_get N n k (by omega);rw[show n-1-k=i by omega]at h1
    have h2:s[k]=dgt N i:=by
     subst hs
     have h3:(sdig N n)[k]? = some ((str (sdig N n))[k]):=by
      rw[List.getElem?_eq_getElem (by rw[sdig_length];omega)];rfl
     rw[h3]at h1;exact Option.some.inj h1
    rw[h2,dgt_toNat];rfl
   obtain⟨c,hcc⟩:∃c,s[k]=c:=⟨_,rfl⟩
   rw[hcc]at hc;obtain⟨x,hx⟩:∃x,d10 N i=x:=⟨_,rfl⟩
   have hxl:x<10:=by rw[← hx];exact Nat.mod_lt _ (by omega)
   rw[hx]at hc ⊢;have e1:(s.size:Int)-1-(i:Int)=(k:Int):=by omega
   have e2:(c.toNat:Int)-48=(x:Int):=by omega
   have e3:(x:Int)%256=(x:Int):=by omega
   have e4:(48:Int)<=(c.toNat:Int):=by omega
   have d0:decide ((s.size:Int)<=(i:Int))=false:=decide_eq_false (by omega);have i1:(k:Int)<(s.size:Int):=by omega
   have h':i<s.size:=by omega
   have hsb:s.size<=10000000:=by omega
   clear hs hx hc hk hsz hN;go_enter Tryz.func231,Tryz.ntmps231;go_wp2;go_ret;exact⟨rfl,rfl⟩
 · have hz:d10 N i=0:=by
     unfold d10;have:=Nat.pow_le_pow_right (show 0<10 by omega) (show n<=i by omega);rw[Nat.div_eq_of_lt (by omega)]
   rw[hz];have d0:decide ((s.size:Int)<=(i:Int))=true:=decide_eq_true (by omega);have h':s.size<=i:=by omega
   clear hs hsz hN hz;go_enter Tryz.func231,Tryz.ntmps231;go_wp2;go_ret;exact⟨rfl,rfl⟩
def carry(x y i:Nat):Nat:=(x%10^i+y%10^i) / 10^i
theorem carry_zero(x y:Nat):carry x y 0=0:=by simp[carry,Nat.mod_one]
theorem carry_step(x y i:Nat):(d10 x i+d10 y i+carry x y i)%10=d10 (x+y) i/\(d10 x i+d10 y i+carry x y i) / 10=carry x y (i+1):=by
 have hp:0<10^i:=Nat.pow_pos (by omega);have hx:x%10^(i+1)=x%10^i+10^i*d10 x i:=by unfold d10;rw[Nat.pow_succ,Nat.mod_mul]
 have hy:y%10^(i+1)=y%10^i+10^i*d10 y i:=by unfold d10;rw[Nat.pow_succ,Nat.mod_mul]
 have hs:(x%10^(i+1)+y%10^(i+1)) / 10^i=d10 x i+d10 y i+carry x y i:=by
  rw[hx,hy];unfold carry;rw[show x%10^i+10^i*d10 x i+(y%10^i+10^i*d10 y i)=(x%10^i+y%10^i)+10^i*(d10 x i+d10 y i)by rw[Nat.mul_add];omega,Nat.add_mul_div_left _ _ hp]
  omega
 constructor
 · rw[← hs];unfold d10;have e1:=Nat.div_add_mod x (10^(i+1));have e2:=Nat.div_add_mod y (10^(i+1))
   have:x+y=x%10^(i+1)+y%10^(i+1)+10^i*(10*(x / 10^(i+1)+y / 10^(i+1))):=by
    have e3:10^i*(10*(x / 10^(i+1)+y / 10^(i+1)))=10^(i+1)*(x / 10^(i+1))+10^(i+1)*(y / 10^(i+1)):=by rw[← Nat.mul_assoc,← Nat.pow_succ,Nat.mul_add]
    omega
   rw[this,Nat.add_mul_div_left _ _ hp]
   omega
 · rw[← hs,Nat.div_div_eq_div_mul,← Nat.pow_succ];rfl
theorem carry_done{x y i:Nat}(h:carry x y i=0)(hx:x<10^i)(hy:y<10^i):x+y<10^i:=by
 unfold carry at h;rw[Nat.mod_eq_of_lt hx,Nat.mod_eq_of_lt hy]at h;have hp:0<10^i:=Nat.pow_pos (by omega)
 rcases Nat.lt_or_ge (x+y) (10^i)with h1|h1
 · exact h1
 · have:=Nat.div_pos h1 hp;omega
structure SumI(w wr:World)(Z:Nat)(V:Value)(k:Nat):Prop where
 below:Below w.heap.size w wr
 own:OwnL wr w.heap.size 3 .i64 V k (d10 Z)
theorem cell_one_at(w:World)(x:Value)(t:TypeId):∀j u, [x][j]? = some u->(w.alloc (.cells #[x] t)).cell? ((⟨w.heap.size,0,none⟩:Addr).add j)=some u:=by
 intro j u hj
 match j,hj with
 | 0,hj=>simp at hj;subst hj;simp[Addr.add]
theorem one_cell_list(k:IntKind)(x:Int):∀u ∈ [Value.int k x],u.oneCell'=true:=by
 intro u hu;simp at hu;subst hu;rfl
theorem sum_next {w wr w5 : World} {Z : Nat} {V v' : Value} {k r : Nat} {o : Obj} (h : SumI w wr Z V k) (hown : w5.ownsRow w.heap.size 3 1 v' (k + 1) (cl .i64 (d10 Z) k ++ [.int .i64 r])) (hg : (wr.alloc o).grownBy w5 V.ownBlock)
    (hz:w.heap.size<=wr.heap.size) (hr:r=d10 Z k):SumI w w5 Z v' (k+1):=by
 refine⟨(h.below.alloc hz _).grown hg (by rw[World.size_alloc];omega) (fun q hq=>(World.ownsRow.lt h.own q hq).1),?_⟩
 rw[cl_snoc,cl_congr (g:=d10 Z) (fun j hj=>by
  by_cases e:j=k
  · rw[if_pos e,hr,e]
  · rw[if_neg e])]at hown
 exact hown
theorem radd_any (x n y m : Nat) (w : World) (hx : x < 10 ^ n) (hy : y < 10 ^ m) (hn : n <= 1000) (hm : m <= 1000) :
    Calls Tryz.prog 197 #[.string (str (sdig x n)),.string (str (sdig y m))] w fun e w'=>e=.returned (.string (str (dec (x+y))))/\Below w.heap.size w w':=by
 obtain⟨i0,hi,hz0,hz1,hz2⟩:=info_parts infoI;have DX:=Lib.hid (fun i (h:i<=100000000) wz=>digit_any x n i wz hx (by omega) h);have DY:=Lib.hid (fun i (h:i<=100000000) wz=>digit_any y m i wz hy (by omega) h);have hs1:(str (sdig x n)).size=n:=by rw[str_size,sdig_length]
 have hs2:(str (sdig y m)).size=m:=by rw[str_size,sdig_length]
 generalize str (sdig x n)=s at *;generalize str (sdig y m)=t at *;have H0:SumI w w (x+y) (.slice none 0 0) 0:=⟨Below.refl _ _,World.ownsRow_nil _ _ _ _⟩
 have HI:=Lib.hid hi;have HX:=Lib.hid hx;have HY:=Lib.hid hy;have HC0:Hid (0=carry x y 0):=(carry_zero x y).symm;have hL:s.size<=1000/\t.size<=1000:=by omega
 obtain⟨hL1,hL2⟩:=hL;have HS1:=Lib.hid hs1;have HS2:=Lib.hid hs2;clear hi hx hy hs1 hs2 hn hm;go_enter Tryz.func197,Tryz.ntmps197;go_wp2
 go_loopw [5,6,7] (fun D c i wr=>∃(k cy:Nat) (V:Value),k<=1001/\i=.int .i64 k/\cy<=1/\c=.int .i64 cy/\Hid (cy=carry x y k/\(k<=s.size∨k<=t.size∨(k=1+max s.size t.size/\cy=0)∨k<=max s.size t.size))/\V=D/\SumI w wr (x+y) V k)
  (fun _ _ i _=>1002-(intOf i).toNat)
 case atStart=>exact⟨0,0,_,by omega,rfl,by omega,rfl,⟨HC0.out,.inl (by omega)⟩,rfl,H0⟩
 case round =>
  obtain⟨k,cy,V,hk,rfl,hcy,rfl,hcc,rfl,hr⟩:=hrel
  have hgo:Hid (¬(k<s.size∨k<t.size∨0<cy)->x+y<10^k):=by
   intro h;have hc0:cy=0:=by omega
   refine carry_done (by rw[← hcc.out.1];exact hc0) ?_ ?_
   · have:=HS1.out;exact Nat.lt_of_lt_of_le HX.out (Nat.pow_le_pow_right (by omega) (by omega))
   · have:=HS2.out;exact Nat.lt_of_lt_of_le HY.out (Nat.pow_le_pow_right (by omega) (by omega))
  by_cases hc:k<s.size∨k<t.size∨0<cy
  · have hk2:k<=1000:=by
      rcases hc with h|h|h
      · omega
      · omega
      · rcases hcc.out.2 with h2|h2|h2|h2
        · omega
        · omega
        · omega
        · omega
    obtain⟨dx,hdx⟩:∃dx,d10 x k=dx:=⟨_,rfl⟩
    obtain⟨dy,hdy⟩:∃dy,d10 y k=dy:=⟨_,rfl⟩
    have CX:=DX.out k (by omega);have CY:=DY.out k (by omega);rw[hdx]at CX;rw[hdy]at CY;have hdxl:dx<10:=by rw[← hdx];exact Nat.mod_lt _ (by omega)
    have hdyl:dy<10:=by rw[← hdy];exact Nat.mod_lt _ (by omega)
    obtain⟨q1,q2⟩:=carry_step x y k;rw[hdx,hdy,← hcc.out.1]at q1 q2;obtain⟨tt,htt⟩:∃tt,dx+dy+cy=tt:=⟨_,rfl⟩
    obtain⟨r,hr1⟩:∃r,tt%10=r:=⟨_,rfl⟩
    obtain⟨q,hq1⟩:∃q,tt / 10=q:=⟨_,rfl⟩
    rw[htt,hr1]at q1;rw[htt,hq1]at q2;have e1:(dx:Int)+(dy:Int)+(cy:Int)=(tt:Int):=by omega
    have e2:(tt:Int)%10=(r:Int):=by omega
    have e3:(tt:Int) / 10=(q:Int):=by omega
    have hql:q<=1:=by omega
    have CX':=Lib.hid CX;have CY':=Lib.hid CY;have Q1:=Lib.hid q1
    have HNX:Hid (q=carry x y (k+1)/\(k+1<=s.size∨k+1<=t.size∨(k+1=1+max s.size t.size/\q=0)∨k+1<=max s.size t.size)):=by
     refine⟨q2,?_⟩
     by_cases h1:k<s.size∨k<t.size
     · omega
     · refine .inr (.inr (.inl ?_));have hxk:x<10^k:=Nat.lt_of_lt_of_le HX.out (Nat.pow_le_pow_right (by omega) (by have:=HS1.out;omega));have hyk:y<10^k:=Nat.lt_of_lt_of_le HY.out (Nat.pow_le_pow_right (by omega) (by have:=HS2.out;omega));have z1:dx=0:=by rw[← hdx];unfold d10;rw[Nat.div_eq_of_lt hxk]
       have z2:dy=0:=by rw[← hdy];unfold d10;rw[Nat.div_eq_of_lt hyk]
       refine⟨?_,by omega⟩
       rcases hcc.out.2 with h2|h2|h2|h2<;>omega
    have HR:=Lib.hid hr;have hzr:w.heap.size<=wr.heap.size:=hr.below.size;have HCC:=hcc;have HC:=Lib.hid hc;clear hr q1 q2 htt hr1 hq1 CX CY hdx hdy hcc hc;have hgo':True:=trivial;clear hgo hgo'
    by_cases c1:k<s.size
    all_goals by_cases c2:k<t.size
    all_goals by_cases c3:0<cy
    all_goals first|(exfalso;have:=HC.out;omega)|skip
    all_goals
     have d1:decide ((k:Int)<(s.size:Int))=decide (k<s.size):=by simp
     have d2:decide ((k:Int)<(t.size:Int))=decide (k<t.size):=by simp
     have d3:decide ((0:Int)<(cy:Int))=decide (0<cy):=by simp
     first|rw[decide_eq_true c1]at d1|rw[decide_eq_false c1]at d1
     first|rw[decide_eq_true c2]at d2|rw[decide_eq_false c2]at d2
     first|rw[decide_eq_true c3]at d3|rw[decide_eq_false c3]at d3
     go_wp2_with fail;go_at_call 231;refine(CX'.out wr).mono ?_;rintro e w2 ⟨rfl,rfl⟩;go_wp2_with fail;go_at_call 231;refine(CY'.out wr).mono ?_;rintro e w2 ⟨rfl,rfl⟩
     go_wp2_with (at_builtin;refine wpList_append_own _ rfl _ _ 22 rfl w.heap.size 3 i0 (.int .i64 0) 1 8 Tryz.underlying22 HI.out hz0 hz1 hz2 rfl (by decide) _ _ _ rfl (World.ownsRow.alloc HR.out.own _) ⟨wr.heap.size,0,none⟩ 1 1 [.int .i64 r] rfl rfl (cell_one_at _ _ _) (one_cell_list _ _) (by unfold maxLen;omega) (by omega) (by rw[World.size_alloc];omega) ?_;intro v' w5 hown' hgrow _)
     have HG5:=Lib.hid (sum_next HR.out hown' hgrow hzr Q1.out);clear hown' hgrow;go_wp2
     go_roundw
     case rel=>exact⟨k+1,q,v',by omega,by go_num,hql,rfl,HNX.out,rfl,HG5.out⟩
     case measure=>simp[intOf];omega
  · obtain⟨a,c,rfl,hsa,_⟩:=hr.own.slAt (m:=10) (fun j _=>Nat.mod_lt _ (by omega)) (by omega);have HW:=Lib.hid (written_any a k c (d10 (x+y)) (x+y) wr hsa (fun _ _=>rfl) (hgo.out hc));have HB:=Lib.hid hr.below;have d1:decide ((k:Int)<(s.size:Int))=false:=decide_eq_false (by omega);have d2:decide ((k:Int)<(t.size:Int))=false:=decide_eq_false (by omega);have d3:decide ((0:Int)<(cy:Int))=false:=decide_eq_false (by omega);have c1:¬k<s.size:=by omega
    have c2:¬k<t.size:=by omega
    have c3:¬0<cy:=by omega
    clear hsa hr hc
    go_wp2_with (go_at_call 218;refine HW.out.mono ?_;rintro e w7 ⟨rfl,hb7⟩)
    go_ret;exact⟨rfl,HB.out.trans (hb7.mono HB.out.size)⟩
theorem numOf_sdig(N:Nat):∀n,numOf (sdig N n)=N%10^n
 | 0=>by simp[sdig,numOf,Nat.mod_one]
 | n+1=>by
  rw[sdig,numOf,numOf_sdig N n,sdig_length,dgt_toNat,Nat.pow_succ,Nat.mod_mul];rw[Nat.add_sub_cancel_left,Nat.mul_comm (N / 10^n%10)]
  omega
theorem sdig_inj{x y n:Nat}(hx:x<10^n)(hy:y<10^n)(h:sdig x n=sdig y n):x=y:=by
 have:=congrArg numOf h;rw[numOf_sdig,numOf_sdig,Nat.mod_eq_of_lt hx,Nat.mod_eq_of_lt hy]at this;exact this
theorem less_sdig (x y : Nat) : ∀ n, Op.bytesLess (sdig x n) (sdig y n) = decide (x % 10 ^ n < y % 10 ^ n)
 | 0=>by simp[sdig,Op.bytesLess,Nat.mod_one]
 | n+1=>by
  rw[sdig,sdig,Op.bytesLess,less_sdig x y n,Nat.pow_succ,Nat.mod_mul,Nat.mod_mul];have hp:0<10^n:=Nat.pow_pos (by omega);have hx:=Nat.mod_lt x hp;have hy:=Nat.mod_lt y hp
  have e1:(dgt x n<dgt y n)↔x / 10^n%10<y / 10^n%10:=by
   rw[UInt8.lt_iff_toNat_lt,dgt_toNat,dgt_toNat];omega
  have e2:(dgt x n=dgt y n)↔x / 10^n%10=y / 10^n%10:=by
   rw[← UInt8.toNat_inj,dgt_toNat,dgt_toNat];omega
  generalize x / 10^n%10=a at *;generalize y / 10^n%10=b at *;generalize x%10^n=u at *;generalize y%10^n=v at *;generalize 10^n=P at *;rw[Bool.eq_iff_iff];simp only[Bool.or_eq_true,decide_eq_true_eq,Bool.and_eq_true,beq_iff_eq,e1,e2]
  rcases Nat.lt_trichotomy a b with h|h|h
  · have h3:=Nat.mul_le_mul_left P (show a+1<=b from h);rw[Nat.mul_add]at h3
    constructor
    · intro _;omega
    · intro _;exact .inl h
  · subst h
    constructor
    · rintro(h|⟨_,h⟩)<;>omega
    · intro h;exact .inr ⟨rfl,by omega⟩
  · have h3:=Nat.mul_le_mul_left P (show b+1<=a from h);rw[Nat.mul_add]at h3
    constructor
    · rintro(h1|⟨h1,_⟩)<;>omega
    · intro h1;omega
theorem dl_mono_lt{x y:Nat}(h:dl x<dl y):x<y:=by
 have h1:=dl_lt x
 have hy:0<y:=by
  rcases Nat.eq_zero_or_pos y with h0|h0
  · subst h0;have e:dl 0=1:=by unfold dl;rfl
    have:=dl_pos x;omega
  · exact h0
 have h2:=dl_low hy;have:=Nat.pow_le_pow_right (show 0<10 by omega) (show dl x<=dl y-1 by omega)
 omega
theorem rcmp_any(x y:Nat)(w:World)(hx:dl x<=100000)(hy:dl y<=100000):Calls Tryz.prog 188 #[.string (str (dec x)),.string (str (dec y))] w fun e w'=>e=.returned (.int .i64 (cmpI x y))/\w=w':=by
 have hs1:(str (dec x)).size=dl x:=by rw[str_size];exact sdig_length _ _
 have hs2:(str (dec y)).size=dl y:=by rw[str_size];exact sdig_length _ _
 have ht1:(str (dec x)).toList=dec x:=by rw[ByteArray.toList_eq];rfl
 have ht2:(str (dec y)).toList=dec y:=by rw[ByteArray.toList_eq];rfl
 by_cases hl:dl x=dl y
 · have hle : dec y = sdig y (dl x) := by unfold dec; rw [hl]
   have hb:Op.bytesLess (str (dec x)).toList (str (dec y)).toList=decide (x<y):=by
    rw[ht1,ht2,hle];unfold dec;rw[less_sdig,Nat.mod_eq_of_lt (dl_lt x),Nat.mod_eq_of_lt (by rw[hl];exact dl_lt y)]
   have heq:((str (dec x)).toList==(str (dec y)).toList)=decide (x=y):=by
    rw[ht1,ht2,hle,Bool.eq_iff_iff,beq_iff_eq,decide_eq_true_eq];unfold dec;exact⟨fun h=>sdig_inj (dl_lt x) (by rw[hl];exact dl_lt y) h,fun h=>by rw[h]⟩
   have hn:(((str (dec x)).size:Int) != ((str (dec y)).size:Int))=false:=by rw[hs1,hs2,hl];simp
   have hss:(str (dec x)).size=(str (dec y)).size:=by omega
   have hsb:(str (dec x)).size<=100000:=by omega
   clear hs1 hs2 ht1 ht2 hle hl;generalize str (dec x)=s at *;generalize str (dec y)=t at *
   by_cases h1:x=y
   · have hr:Hid (cmpI x y=0):=by show _=_;unfold cmpI;rw[if_neg (by omega),if_pos h1]
     rw[decide_eq_true h1]at heq;clear hb hx hy h1;have HSS:=Lib.hid hss;clear hss;go_enter Tryz.func188,Tryz.ntmps188;go_wp2;go_ret;exact⟨ret_int hr.out.symm,rfl⟩
   · rw[decide_eq_false h1]at heq;have HSS:=Lib.hid hss;clear hss
     by_cases h2:x<y
     · have hr:Hid (cmpI x y = -1):=cmp_neg h2;rw[decide_eq_true h2]at hb;clear hx hy h1 h2;go_enter Tryz.func188,Tryz.ntmps188;go_wp2;go_ret;exact⟨ret_int hr.out.symm,rfl⟩
     · have hr:Hid (cmpI x y=1):=by show _=_;unfold cmpI;rw[if_neg h2,if_neg h1]
       rw[decide_eq_false h2]at hb;clear hx hy h1 h2;go_enter Tryz.func188,Tryz.ntmps188;go_wp2;go_ret;exact⟨ret_int hr.out.symm,rfl⟩
 · have hn:(((str (dec x)).size:Int) != ((str (dec y)).size:Int))=true:=by rw[hs1,hs2];simp;omega
   have hsb:(str (dec x)).size<=100000/\(str (dec y)).size<=100000:=by omega
   have hne:¬(str (dec x)).size=(str (dec y)).size:=by omega
   have hc:((str (dec x)).size<(str (dec y)).size->cmpI x y = -1)/\(¬(str (dec x)).size<(str (dec y)).size->cmpI x y=1):=by
    rw[hs1,hs2];refine⟨fun h=>cmp_neg (dl_mono_lt h),fun h => ?_⟩;have:=dl_mono_lt (show dl y<dl x by omega);unfold cmpI;rw[if_neg (by omega),if_neg (by omega)]
   clear hs1 hs2 ht1 ht2 hl hx hy;generalize str (dec x)=s at *;generalize str (dec y)=t at *;obtain⟨hb1,hb2⟩:=hsb
   by_cases h:s.size<t.size
   · have hr:=Lib.hid (hc.1 h);have d1:decide ((s.size:Int)<(t.size:Int))=true:=decide_eq_true (by omega);clear hc hne;go_enter Tryz.func188,Tryz.ntmps188;go_wp2;go_ret;exact⟨ret_int hr.out.symm,rfl⟩
   · have hr:=Lib.hid (hc.2 h);have d1:decide ((s.size:Int)<(t.size:Int))=false:=decide_eq_false (by omega);clear hc hne;go_enter Tryz.func188,Tryz.ntmps188;go_wp2;go_ret;exact⟨ret_int hr.out.symm,rfl⟩
theorem rsub_any (x n y m : Nat) (w : World) (hx : x < 10 ^ n) (hy : y < 10 ^ m) (hn : n <= 1000) (hm : m <= 1000) (hxy : y <= x) :
    Calls Tryz.prog 196 #[.string (str (sdig x n)),.string (str (sdig y m))] w fun e w'=>e=.returned (.string (str (dec (x-y))))/\Below w.heap.size w w':=by
 obtain⟨i0,hi,hz0,hz1,hz2⟩:=info_parts infoI;have DX:=Lib.hid (fun i (h:i<=100000000) wz=>digit_any x n i wz hx (by omega) h);have DY:=Lib.hid (fun i (h:i<=100000000) wz=>digit_any y m i wz hy (by omega) h);have hs1:(str (sdig x n)).size=n:=by rw[str_size,sdig_length]
 generalize str (sdig x n)=s at *;generalize str (sdig y m)=t at *;obtain⟨z,hz⟩:∃z,x-y=z:=⟨_,rfl⟩
 have hyz:y+z=x:=by omega
 have HZN:Hid (z<10^n):=by show _<_;omega
 rw[hz];have H0:SumI w w z (.slice none 0 0) 0:=⟨Below.refl _ _,World.ownsRow_nil _ _ _ _⟩
 have HI:=Lib.hid hi;have HC0:Hid (0=carry y z 0):=(carry_zero y z).symm;have hL:s.size<=1000:=by omega
 have HS1:=Lib.hid hs1;have HYZ:=Lib.hid hyz;clear hi hx hy hs1 hn hm hz hyz hxy;go_enter Tryz.func196,Tryz.ntmps196;go_wp2
 go_loopw [5,6,7] (fun D c i wr=>∃(k cy:Nat) (V:Value),k<=s.size/\i=.int .i64 k/\cy<=1/\c=.int .i64 cy/\Hid (cy=carry y z k)/\V=D/\SumI w wr z V k)
  (fun _ _ i _=>s.size-(intOf i).toNat)
 case atStart=>exact⟨0,0,_,by omega,rfl,by omega,rfl,HC0,rfl,H0⟩
 case round =>
  obtain⟨k,cy,V,hk,rfl,hcy,rfl,hcc,rfl,hr⟩:=hrel
  by_cases c1:k<s.size
  · obtain⟨dx,hdx⟩:∃dx,d10 x k=dx:=⟨_,rfl⟩
    obtain⟨dy,hdy⟩:∃dy,d10 y k=dy:=⟨_,rfl⟩
    obtain⟨dz,hdz⟩:∃dz,d10 z k=dz:=⟨_,rfl⟩
    have CX:=DX.out k (by omega);have CY:=DY.out k (by omega);rw[hdx]at CX;rw[hdy]at CY;have hdyl:dy<10:=by rw[← hdy];exact Nat.mod_lt _ (by omega)
    have hdzl:dz<10:=by rw[← hdz];exact Nat.mod_lt _ (by omega)
    obtain⟨q1,q2⟩:=carry_step y z k;rw[HYZ.out,hdy,hdz,← hcc.out,hdx]at q1;rw[hdy,hdz,← hcc.out]at q2;have CX':=Lib.hid CX;have CY':=Lib.hid CY;have Q1:=Lib.hid hdz.symm;have HR:=Lib.hid hr;have hzr:w.heap.size<=wr.heap.size:=hr.below.size;have d1:decide ((k:Int)<(s.size:Int))=true:=decide_eq_true (by omega)
    by_cases hsm:dy+dz+cy<10
    · have e1:(dx:Int)-(dy:Int)-(cy:Int)=(dz:Int):=by omega
      have HNX:Hid (0=carry y z (k+1)):=by show _=_;rw[← q2];omega
      have d2:decide ((dz:Int)<0)=false:=decide_eq_false (by omega);clear hr q1 q2 CX CY hdx hdy hdz hsm hcc;go_wp2_with fail;go_at_call 231;refine(CX'.out wr).mono ?_;rintro e w2 ⟨rfl,rfl⟩;go_wp2_with fail;go_at_call 231;refine(CY'.out wr).mono ?_;rintro e w2 ⟨rfl,rfl⟩
      go_wp2_with (at_builtin;refine wpList_append_own _ rfl _ _ 22 rfl w.heap.size 3 i0 (.int .i64 0) 1 8 Tryz.underlying22 HI.out hz0 hz1 hz2 rfl (by decide) _ _ _ rfl (World.ownsRow.alloc HR.out.own _) ⟨wr.heap.size,0,none⟩ 1 1 [.int .i64 dz] rfl rfl (cell_one_at _ _ _) (one_cell_list _ _) (by unfold maxLen;omega) (by omega) (by rw[World.size_alloc];omega) ?_;intro v' w5 hown' hgrow _)
      have HG5:=Lib.hid (sum_next HR.out hown' hgrow hzr Q1.out);clear hown' hgrow;go_wp2
      go_roundw
      case rel=>exact⟨k+1,0,v',by omega,by go_num,by omega,rfl,HNX,rfl,HG5.out⟩
      case measure=>simp[intOf];omega
    · have e1:(dx:Int)-(dy:Int)-(cy:Int)=(dz:Int)-10:=by omega
      have HNX:Hid (1=carry y z (k+1)):=by show _=_;rw[← q2];omega
      have d2:decide ((dz:Int)-10<0)=true:=decide_eq_true (by omega);have d3:(dz:Int)<10:=by omega
      have e2:(dz:Int)-10+10=(dz:Int):=by omega
      clear hr q1 q2 CX CY hdx hdy hdz hsm hcc;go_wp2_with fail;go_at_call 231;refine(CX'.out wr).mono ?_;rintro e w2 ⟨rfl,rfl⟩;go_wp2_with fail;go_at_call 231;refine(CY'.out wr).mono ?_;rintro e w2 ⟨rfl,rfl⟩
      go_wp2_with (at_builtin;refine wpList_append_own _ rfl _ _ 22 rfl w.heap.size 3 i0 (.int .i64 0) 1 8 Tryz.underlying22 HI.out hz0 hz1 hz2 rfl (by decide) _ _ _ rfl (World.ownsRow.alloc HR.out.own _) ⟨wr.heap.size,0,none⟩ 1 1 [.int .i64 dz] rfl rfl (cell_one_at _ _ _) (one_cell_list _ _) (by unfold maxLen;omega) (by omega) (by rw[World.size_alloc];omega) ?_;intro v' w5 hown' hgrow _)
      have HG5:=Lib.hid (sum_next HR.out hown' hgrow hzr Q1.out);clear hown' hgrow;go_wp2
      go_roundw
      case rel=>exact⟨k+1,1,v',by omega,by go_num,by omega,rfl,HNX,rfl,HG5.out⟩
      case measure=>simp[intOf];omega
  · obtain rfl:k=s.size:=by omega
    obtain⟨a,c,rfl,hsa,_⟩:=hr.own.slAt (m:=10) (fun j _=>Nat.mod_lt _ (by omega)) (by omega);have HW:=Lib.hid (written_any a s.size c (d10 z) z wr hsa (fun _ _=>rfl) (by rw[HS1.out];exact HZN.out));have HB:=Lib.hid hr.below;clear hsa hr
    go_wp2_with (go_at_call 218;refine HW.out.mono ?_;rintro e w7 ⟨rfl,hb7⟩)
    go_ret;exact⟨rfl,HB.out.trans (hb7.mono HB.out.size)⟩
theorem numOf_append(b:List UInt8):∀a:List UInt8,numOf (a++b)=numOf a*10^b.length+numOf b
 | []=>by simp[numOf]
 | c::a=>by
  rw[List.cons_append,numOf,numOf_append b a,numOf,List.length_append,Nat.pow_add,Nat.add_mul,Nat.mul_assoc]
  omega
theorem numOf_take_le(l:List UInt8)(k:Nat):numOf (l.take k)<=numOf l:=by
 have h:=numOf_append (l.drop k) (l.take k);rw[List.take_append_drop]at h;have:=Nat.le_mul_of_pos_right (numOf (l.take k)) (Nat.pow_pos (n:=(l.drop k).length) (show 0<10 by omega))
 omega
theorem numOf_dec(N:Nat):numOf (dec N)=N:=by unfold dec;rw[numOf_sdig,Nat.mod_eq_of_lt (dl_lt N)]
theorem dec_dig(N:Nat):∀c ∈ dec N,48<=c.toNat/\c.toNat<=57:=by
 intro c hc;obtain⟨j,hj⟩:=List.getElem?_of_mem hc;unfold dec at hj
 have hjl:j<dl N:=by
  rcases Nat.lt_or_ge j (dl N)with h|h
  · exact h
  · rw[List.getElem?_eq_none (by rw[sdig_length];exact h)]at hj;cases hj
 rw[sdig_get N _ _ hjl]at hj
 cases hj
 rw[dgt_toNat];have:=Nat.mod_lt (N / 10^(dl N-1-j)) (show 0<10 by omega)
 omega
theorem dec_max:dec 18446744073709551615 = [49,56,52,52,54,55,52,52,48,55,51,55,48,57,53,53,49,54,49,53]:=by
 rw[← dec_of_top (k:=20) (by decide) (.inr ⟨by decide,by decide⟩)]
 decide
theorem dec_at {N : Nat} {s : ByteArray} (hs : s.data.toList = dec N) {k : Nat} (hk : k < s.size) :
    ∃c x:Nat,s[k].toNat=c/\c=48+x/\x<10/\numOf (s.data.toList.take (k+1))=10*numOf (s.data.toList.take k)+x:=by
 have hm:s[k] ∈ dec N:=by
  rw[← hs];exact List.getElem_mem (l:=s.data.toList) (by simpa using hk)
 obtain⟨h1,h2⟩:=dec_dig N _ hm;refine⟨_,s[k].toNat-48,rfl,by omega,by omega,?_⟩;rw[take_snoc s k hk,numOf_snoc]
def uI(N:Nat):Nat:=if N<18446744073709551616 then N else 0
theorem runi_any(N:Nat)(w:World)(hl:dl N<=1000):Calls Tryz.prog 232 #[.string (str (dec N))] w fun e w'=>e=.returned (.tuple #[.int .u64 (uI N),.bool (decide (N<18446744073709551616))])/\w=w':=by
 have hc:∀wz,Calls Tryz.prog 188 #[.string (str (dec N)),.string ⟨#[49,56,52,52,54,55,52,52,48,55,51,55,48,57,53,53,49,54,49,53]⟩] wz fun e w'=>e=.returned (.int .i64 (cmpI N 18446744073709551615))/\wz=w':=by
  intro wz;have h:=rcmp_any N 18446744073709551615 wz (by omega) (by have:=dl_le 18446744073709551615 20 (by omega) (by decide);omega);rw[dec_max]at h;exact h
 have hsz:(str (dec N)).size=dl N:=by rw[str_size];exact sdig_length _ _
 have hda:(str (dec N)).data.toList=dec N:=rfl;generalize str (dec N)=s at *
 by_cases hbig:18446744073709551615<N
 · have h1:cmpI N 18446744073709551615=1:=by unfold cmpI;rw[if_neg (by omega),if_neg (by omega)]
   rw[h1]at hc;have HC:=Lib.hid hc;have HE:Hid (uI N=0/\decide (N<18446744073709551616)=false):=⟨by unfold uI;rw[if_neg (by omega)],decide_eq_false (by omega)⟩
   clear hc h1 hbig hsz hda;rw[HE.out.1,HE.out.2];go_enter Tryz.func232,Tryz.ntmps232
   go_wp2_with (go_at_call 188;refine(HC.out _).mono ?_;rintro e w1 ⟨rfl,rfl⟩)
   go_ret2;exact⟨rfl,rfl⟩
 · obtain ⟨cm, hcm⟩ : ∃ cm, cmpI N 18446744073709551615 = cm := ⟨_, rfl⟩
   have hcl:cm<=0:=by
    rw[← hcm];unfold cmpI
    split
    · omega
    · split
      · omega
      · omega
   rw[hcm]at hc;have HC:=Lib.hid hc;have d0:decide ((0:Int)<cm)=false:=decide_eq_false (by omega);have HE:Hid (uI N=N/\decide (N<18446744073709551616)=true):=⟨by unfold uI;rw[if_pos (by omega)],decide_eq_true (by omega)⟩
   have HN:Hid (N<18446744073709551616):=by show _<_;omega
   have HDA:=Lib.hid hda;have HSZ:=Lib.hid hsz;have hsl:s.size<=1000:=by omega
   rw[HE.out.1,HE.out.2];clear hc hcm hbig hsz hda HE hl;go_enter Tryz.func232,Tryz.ntmps232
   go_wp2_with (go_at_call 188;refine(HC.out _).mono ?_;rintro e w1 ⟨rfl,rfl⟩)
   go_loop [4,5] (fun a i=>∃k acc:Nat,k<=s.size/\i=.int .i64 k/\a=.int .u64 acc/\Hid (acc=numOf (s.data.toList.take k)))
    (fun _ i=>s.size-(intOf i).toNat)
   case atStart=>exact⟨0,0,by omega,rfl,rfl,by show _=_;simp[numOf]⟩
   case round =>
    obtain⟨k,acc,hk,rfl,rfl,hacc⟩:=hrel
    by_cases hlt:k<s.size
    · obtain⟨c,x,hcx,hc48,hx10,hnum⟩:=dec_at HDA.out hlt;have hle:=numOf_take_le s.data.toList (k+1);rw[HDA.out,numOf_dec,← HDA.out,hnum,← hacc.out]at hle;have hNl:=HN.out;obtain⟨acc',ha'⟩:∃acc',10*acc+x=acc':=⟨_,rfl⟩
      have hal:acc'<18446744073709551616:=by omega
      have HNX:Hid (acc'=numOf (s.data.toList.take (k+1))):=by show _=_;rw[hnum,← hacc.out,ha']
      have e0:(s[k].toNat:Int)-48=(x:Int):=by omega
      have e1:(acc:Int)*10+(x:Int)=(acc':Int):=by omega
      have e2:(x:Int)%256=(x:Int):=by omega
      have e3:(48:Int)<=(s[k].toNat:Int):=by omega
      have e4:(acc:Int)*10<=18446744073709551615:=by omega
      clear hcx hc48 hnum hle hNl ha' hacc;go_wp2
      go_round
      case rel=>exact⟨k+1,acc',by omega,by go_num,rfl,HNX.out⟩
      case measure=>simp[intOf];omega
    · obtain rfl:k=s.size:=by omega
      have hE:Hid (acc=N):=by
       show _=_
       rw[hacc.out,List.take_of_length_le (by show s.data.toList.length<=_;exact Nat.le_refl _),HDA.out,numOf_dec]
      go_wp2;go_ret2;exact⟨by rw[hE.out];rfl,rfl⟩
def hor(g:Nat->Nat):Nat->Nat
 | 0=>0
 | k+1=>hor g k*1000000000+g k
theorem hor_congr{f g:Nat->Nat}:∀n,(∀j,j<n->f j=g j)->hor f n=hor g n
 | 0,_=>rfl
 | n+1,h=>by rw[hor,hor,hor_congr n (fun j hj=>h j (by omega)),h n (by omega)]
def GrpIs(wr:World)(base:Nat)(V:Value)(cnt X:Nat):Prop:=∃g,OwnL wr base 3 .i64 V cnt g/\(∀j,j<cnt->g j<1000000000)/\hor g cnt=X
theorem GrpIs.snoc{wr w5:World}{base:Nat}{V v':Value}{cnt X x:Nat}(h:GrpIs wr base V cnt X)(hx:x<1000000000)(hown:∀g,OwnL wr base 3 .i64 V cnt g->w5.ownsRow base 3 1 v' (cnt+1) (cl .i64 g cnt ++ [.int .i64 x])):GrpIs w5 base v' (cnt+1) (X*1000000000+x):=by
 obtain⟨g,h1,h2,h3⟩:=h;have:=hown g h1;rw[cl_snoc]at this
 refine⟨_,this,fun j hj => ?_,?_⟩
 · show(if j=cnt then x else g j)<_
   split
   · exact hx
   · exact h2 j (by omega)
 · rw[hor,if_pos rfl,hor_congr cnt (g:=g) (fun j hj=>if_neg (by omega)),h3]
def GrI(w wr:World)(s:ByteArray)(V:Value)(n i:Nat):Prop:=Below w.heap.size w wr/\∃p cnt X,GrpIs wr w.heap.size V cnt X/\X*10^p+n=numOf (s.data.toList.take i)/\n<10^p/\(s.size-i)%9+p<=9/\((s.size-i)%9=0->p=0)/\cnt<=i/\(X=0∨(s.size-i+p)%9=0)
theorem groups_any(N:Nat)(w:World)(hl:dl N<=1000):Calls Tryz.prog 234 #[.string (str (dec N))] w fun e w'=>∃V cnt,e=.returned V/\GrpIs w' w.heap.size V cnt N/\cnt<=1000/\Below w.heap.size w w':=by
 obtain⟨i0,hi,hz0,hz1,hz2⟩:=info_parts infoI;have hsz:(str (dec N)).size=dl N:=by rw[str_size];exact sdig_length _ _
 have hda:(str (dec N)).data.toList=dec N:=rfl;generalize str (dec N)=s at *;have hsl:s.size<=1000:=by omega
 have hHI:=Lib.hid hi;have HDA:=Lib.hid hda;have H0:GrI w w s (.slice none 0 0) 0 0:=⟨Below.refl _ _,0,0,0,⟨fun _=>0,World.ownsRow_nil _ _ _ _,fun _ h=>by omega,rfl⟩,by simp[numOf],by simp,by omega,fun _=>rfl,by omega,.inl rfl⟩
 clear hi hsz hda hl;go_enter Tryz.func234,Tryz.ntmps234;go_wp2
 go_loopw [3,4,5,6] (fun L a k i wr=>∃(j n m:Nat) (V:Value),j<=s.size/\i=.int .i64 j/\n<1000000000/\a=.int .i64 n/\m+j=s.size/\k=.int .i64 m/\V=L/\GrI w wr s V n j)
  (fun _ _ _ i _=>s.size-(intOf i).toNat)
 case atStart=>exact⟨0,0,s.size,_,by omega,rfl,by omega,rfl,by omega,rfl,rfl,H0⟩
 case round =>
  obtain⟨j,n,m,V,hj,rfl,hnl,rfl,hm,rfl,rfl,hr⟩:=hrel
  by_cases hlt:j<s.size
  · obtain ⟨c, x, hcx, hc48, hx10, hnum⟩ := dec_at HDA.out hlt; obtain ⟨hbl, p, cnt, X, hg, hv, hnp, hp9, hp0, hcnt, hX0⟩ := hr; obtain ⟨m', hm'⟩ : ∃ m', m - 1 = m' := ⟨_, rfl⟩
    have hpl:p<=8:=by omega
    have hn8:n<100000000:=Nat.lt_of_lt_of_le hnp (Nat.le_trans (Nat.pow_le_pow_right (by omega) hpl) (by decide));obtain⟨n',hn'⟩:∃n',n*10+x=n':=⟨_,rfl⟩
    have hn'l:n'<1000000000:=by omega
    have hnp':n'<10^(p+1):=by rw[Nat.pow_succ];omega
    have hv':X*10^(p+1)+n'=numOf (s.data.toList.take (j+1)):=by
     rw[hnum,← hv,← hn',Nat.pow_succ,← Nat.mul_assoc];omega
    have e0:(s[j].toNat:Int)-48=(x:Int):=by omega
    have e1:(n:Int)*10+(x:Int)=(n':Int):=by omega
    have e2:(x:Int)%256=(x:Int):=by omega
    have e3:(48:Int)<=(s[j].toNat:Int):=by omega
    have e5:(m:Int)-1=(m':Int):=by omega
    have hmj:s.size-(j+1)=m':=by omega
    have hml:m'<=1000:=by omega
    obtain⟨r,hr9⟩:∃r,m'%9=r:=⟨_,rfl⟩
    have e6:(m':Int)%9=(r:Int):=by omega
    have hzr:w.heap.size<=wr.heap.size:=hbl.size
    by_cases h9:r=0
    · have HGR := Lib.hid hg; obtain ⟨g, hown, hgb, hgv⟩ := hg; have HOWN := Lib.hid hown
      have hnx:∀w5 v',GrpIs w5 w.heap.size v' (cnt+1) (X*1000000000+n')->Below w.heap.size w w5->GrI w w5 s v' 0 (j+1):=by
       intro w5 v' h1 h2;have hp:p+1<=9:=by omega
       have key:(p+1=9∨X=0):=by
        rcases hX0 with h|h
        · exact .inr h
        · left;omega
       refine⟨h2,0,cnt+1,_,h1,?_,by omega,by omega,fun _=>rfl,by omega,.inr (by omega)⟩;rw[← hv']
       rcases key with h|h
       · rw[h];simp
       · rw[h];simp
      have HNX:=Lib.hid hnx;have hr0:((r:Int)==0)=true:=by rw[h9];rfl
      have HBL:=Lib.hid hbl;have hm2:=Lib.hid (show m'+(j+1)=s.size by omega);have hcl:cnt<=1000:=by omega
      have HIN:=Lib.hid (fun v' w5 (h1:∀g,OwnL wr w.heap.size 3 .i64 V cnt g->w5.ownsRow w.heap.size 3 1 v' (cnt+1) (cl .i64 g cnt ++ [.int .i64 n']))=>HGR.out.snoc (w5:=w5) (v':=v') hn'l h1);have h9':(r:Int)=0:=by omega
      clear hnx hcx hc48 hnum hbl hgb hgv hv hnp hp9 hp0 hm' hn' hnp' hv' hmj hr9 hown hm hX0 h9
      go_wp2_with (at_builtin;refine wpList_append_own _ rfl _ _ 22 rfl w.heap.size 3 i0 (.int .i64 0) 1 8 Tryz.underlying22 hHI.out hz0 hz1 hz2 rfl (by decide) _ _ _ rfl (World.ownsRow.alloc HOWN.out _) ⟨wr.heap.size,0,none⟩ 1 1 [.int .i64 n'] rfl rfl (cell_one_at _ _ _) (one_cell_list _ _) (by unfold maxLen;omega) (by omega) (by rw[World.size_alloc];omega) ?_;intro v' w5 hown' hgrow _)
      have hb5:Below w.heap.size w w5:=(HBL.out.alloc hzr _).grown hgrow (by rw[World.size_alloc];omega) (fun q hq=>(World.ownsRow.lt HOWN.out q hq).1)
      have hg5:GrpIs w5 w.heap.size v' (cnt+1) (X*1000000000+n'):=by
       refine HIN.out v' w5 (fun g' hg' => ?_)
       have e:cl .i64 g' cnt=cl .i64 g cnt:=by
        have h1:=hg'.2;have h2:=HOWN.out.2
        rcases h1 with ⟨a1,a2⟩|⟨q1,c1,cu1,a1,_,a3,_,_,_,a4⟩
        · rw[a2];rfl
        · rcases h2 with ⟨b1,b2⟩|⟨q2,c2,cu2,b1,_,b3,_,_,_,b4⟩
          · rw[b2];rfl
          · rw[a1]at b1;simp only[Value.slice.injEq,Option.some.injEq,Addr.mk.injEq,and_true,true_and]at b1;obtain⟨rfl,_⟩:=b1;rw[a3]at b3;simp only[Option.some.injEq,Obj.cells.injEq,and_true]at b3;rw[← a4,← b4,b3]
       rw[e];exact hown'
      have HG5:=Lib.hid (HNX.out w5 v' hg5 hb5);clear hown' hgrow hb5 hg5;go_wp2
      go_roundw
      case rel=>exact⟨j+1,0,m',v',by omega,by go_num,by omega,rfl,hm2.out,rfl,rfl,HG5.out⟩
      case measure=>simp[intOf];omega
    · have hr0:((r:Int)==0)=false:=by rw[beq_eq_false_iff_ne];omega
      have HNX:Hid (GrI w wr s V n' (j+1)):=⟨hbl,p+1,cnt,X,hg,hv',hnp',by omega,fun h=>by omega,by omega,by rcases hX0 with h|h;exact .inl h;right;omega⟩
      have hm2:=Lib.hid (show m'+(j+1)=s.size by omega);have h9':¬(r:Int)=0:=by omega
      clear hcx hc48 hnum hbl hg hv hnp hp9 hp0 hm' hn' hnp' hv' hmj hr9 hm hX0 h9;go_wp2
      go_roundw
      case rel=>exact⟨j+1,n',m',V,by omega,by go_num,hn'l,rfl,hm2.out,rfl,rfl,HNX.out⟩
      case measure=>simp[intOf];omega
  · obtain rfl:j=s.size:=by omega
    obtain⟨hbl,p,cnt,X,hg,hv,hnp,hp9,hp0,hcnt,hX0⟩:=hr;have hp:p=0:=hp0 (by omega);subst hp;have hn0:n=0:=by simpa using hnp
    subst hn0;rw[List.take_of_length_le (by show s.data.toList.length<=_;exact Nat.le_refl _),HDA.out,numOf_dec,Nat.pow_zero,Nat.mul_one,Nat.add_zero]at hv;subst hv;have HBL:=Lib.hid hbl;have HG:=Lib.hid hg;clear hbl hg hp9 hp0 hX0 hnp;go_wp2;go_ret;exact⟨V,cnt,rfl,HG.out,by omega,HBL.out⟩
theorem nbits_zero:nbits 0=0:=by simp[nbits]
theorem nbits_half{N:Nat}(h:0<N):nbits N=nbits (N / 2)+1:=by
 rcases Nat.lt_or_ge N 2 with h1|h1
 · obtain rfl:N=1:=by omega
   rw[nbits_eq (N:=1) (b:=0) (by decide) (by decide)]
   simp[nbits]
 · obtain⟨b,hb⟩:∃b,nbits (N / 2)=b+1:=by
     refine⟨(N / 2).log2,?_⟩;unfold nbits;rw[if_neg (by omega)]
   rw[hb];have h2:N / 2<2^(b+1):=nbits_le.1 (by omega);have h3:¬N / 2<2^b:=fun h=>by have:=nbits_le.2 h;omega
   refine nbits_eq ?_ ?_
   · rw[Nat.pow_succ];omega
   · rw[Nat.pow_succ];omega
theorem nbits_shift{N:Nat}(k:Nat)(h:0<N / 2^k):nbits N=nbits (N / 2^k)+k:=by
 induction k generalizing N with
 | zero=>simp
 | succ k ih =>
  have e:N / 2^(k+1)=N / 2 / 2^k:=by rw[Nat.pow_succ,Nat.mul_comm,Nat.div_div_eq_div_mul]
  rw[e]at h ⊢
  have h0:0<N:=by
   rcases Nat.eq_zero_or_pos N with h1|h1
   · subst h1;simp at h
   · exact h1
  rw[nbits_half h0,ih h];omega
theorem OwnL.mono{w:World}{base base':Nat}{e:TypeId}{ki:IntKind}{v:Value}{n:Nat}{f:Nat->Nat}(h:OwnL w base e ki v n f)(hb:base'<=base):OwnL w base' e ki v n f:=by
 refine⟨h.1,?_⟩
 rcases h.2 with h0|⟨g,cap,cur,h1,h2,h3⟩
 · exact .inl h0
 · exact .inr ⟨g,cap,cur,h1,by omega,h3⟩
theorem hor_succ(g:Nat->Nat)(k:Nat):hor g (k+1)=hor g k*1000000000+g k:=by rw[hor]
theorem hor_div(X x:Nat):(X%65536*1000000000+x)%65536=(X*1000000000+x)%65536/\X / 65536*1000000000+(X%65536*1000000000+x) / 65536=(X*1000000000+x) / 65536:=by
 constructor<;>omega
structure BitI(W0 wr:World)(g:Nat->Nat)(Q:Value)(c2 k:Nat):Prop where
 below:Below W0.heap.size W0 wr
 grp:GrpIs wr W0.heap.size Q c2 (hor g k / 65536)
 zero:c2=0↔hor g k / 65536=0
 len:c2<=k
theorem GrpIs.zero{wr:World}{base:Nat}{V:Value}{cnt X:Nat}(h:GrpIs wr base V cnt X)(h0:cnt=0):X=0:=by
 obtain⟨g,_,_,h3⟩:=h;subst h0;exact h3.symm
structure BitO(w wr:World)(N E j X:Nat)(V:Value)(cnt:Nat):Prop where
 below:Below w.heap.size w wr
 grp:GrpIs wr w.heap.size V cnt X
 len:cnt<=1000
 bits:nbits N=16*j+nbits X
 lim:X<65536^(E-j)
theorem BitI.next {W0 wr w5 : World} {g : Nat -> Nat} {Q v' : Value} {c2 k tt : Nat} (h : BitI W0 wr g Q c2 k) (htt : hor g k % 65536 * 1000000000 + g k = tt) (hq : tt / 65536 < 1000000000) (hb : Below W0.heap.size W0 w5)
    (hpos:0<c2∨0<tt / 65536)
    (hown:∀g',OwnL wr W0.heap.size 3 .i64 Q c2 g'->w5.ownsRow W0.heap.size 3 1 v' (c2+1) (cl .i64 g' c2 ++ [.int .i64 (tt / 65536:Nat)])):BitI W0 w5 g v' (c2+1) (k+1):=by
 have e:=(hor_div (hor g k) (g k)).2;rw[htt]at e;have hs:=h.grp.snoc (w5:=w5) (v':=v') hq hown;rw[e,← hor_succ]at hs;rw[← hor_succ]at e;refine⟨hb,hs,⟨fun h0=>by omega,fun h0 => ?_⟩,by have:=h.len;omega⟩
 exfalso
 have hz:hor g k / 65536*1000000000+tt / 65536=0:=by rw[e];exact h0
 rcases hpos with hp|hp
 · have:=h.zero.2 (by omega);omega
 · omega
theorem BitI.skip{W0 wr:World}{g:Nat->Nat}{Q:Value}{c2 k tt:Nat}(h:BitI W0 wr g Q c2 k)(htt:hor g k%65536*1000000000+g k=tt)(h0:c2=0)(h1:tt / 65536=0):BitI W0 wr g Q c2 (k+1):=by
 have e:=(hor_div (hor g k) (g k)).2;rw[htt,h1,h.zero.1 h0]at e
 have e2:hor g (k+1) / 65536=0:=by
  rw[hor_succ,← e,Nat.zero_mul]
 refine⟨h.below,?_,⟨fun _=>e2,fun _=>h0⟩,by have:=h.len;omega⟩;have:=h.grp;rw[h.zero.1 h0]at this;rw[e2];exact this
theorem GrpIs.fn {wr w5 : World} {base : Nat} {V : Value} {cnt : Nat} {v' : Value} {x : Nat} {g g' : Nat -> Nat} (h1 : OwnL wr base 3 .i64 V cnt g') (h2 : OwnL wr base 3 .i64 V cnt g)
    (hown':w5.ownsRow base 3 1 v' (cnt+1) (cl .i64 g cnt ++ [.int .i64 x])):w5.ownsRow base 3 1 v' (cnt+1) (cl .i64 g' cnt ++ [.int .i64 x]):=by
 have e:cl .i64 g' cnt=cl .i64 g cnt:=by
  rcases h1.2 with ⟨a1,a2⟩|⟨q1,c1,cu1,a1,_,a3,_,_,_,a4⟩
  · rw[a2];rfl
  · rcases h2.2 with ⟨b1,b2⟩|⟨q2,c2,cu2,b1,_,b3,_,_,_,b4⟩
    · rw[b2];rfl
    · rw[a1]at b1;simp only[Value.slice.injEq,Option.some.injEq,Addr.mk.injEq,and_true,true_and]at b1;obtain⟨rfl,_⟩:=b1;rw[a3]at b3;simp only[Option.some.injEq,Obj.cells.injEq,and_true]at b3;rw[← a4,← b4,b3]
 rw[e];exact hown'
theorem rbits_any(N E:Nat)(w:World)(hl:dl N<=1000)(hE:E<=200)(hN:N<65536^E):Calls Tryz.prog 198 #[.string (str (dec N))] w fun e w'=>e=.returned (.int .i64 (nbits N))/\Below w.heap.size w w':=by
 obtain⟨i0,hi,hz0,hz1,hz2⟩:=info_parts infoI;have HG:=Lib.hid (groups_any N w hl);have HI:=Lib.hid hi;have HN:=Lib.hid hN;generalize str (dec N)=s at *;clear hl hi hN;go_enter Tryz.func198,Tryz.ntmps198;go_wp2_with fail;go_at_call 234;refine HG.out.mono ?_;rintro e w1 ⟨V0,cnt0,rfl,hg0,hc0,hb0⟩;have HST:=Lib.hid (show BitO w w1 N E 0 N V0 cnt0 from⟨hb0,hg0,hc0,by omega,HN.out⟩);clear hg0 hb0 hc0;go_wp2_with fail
 go_loopw [3,4,5] (fun L n i wr=>∃(j X cnt m:Nat) (V:Value),j<=E/\i=.int .i64 j/\m=16*j/\n=.int .i64 m/\V=L/\BitO w wr N E j X V cnt)
  (fun _ _ i _=>201-(intOf i).toNat)
 case atStart=>exact⟨0,N,cnt0,0,V0,by omega,rfl,rfl,rfl,rfl,HST.out⟩
 case round =>
  obtain⟨j,X,cnt,m,V,hj,rfl,hm,rfl,rfl,hh⟩:=hrel;obtain⟨wo,rfl⟩:∃wo:World,wo=wr:=⟨_,rfl⟩
  have hcn:=hh.len;obtain⟨g,hown,hgb,hgv⟩:=hh.grp;obtain⟨a,c,rfl,hsa,hpl⟩:=hown.slAt hgb (by omega);have H0:BitI wo wo g (.slice none 0 0) 0 0:=⟨Below.refl _ _,⟨fun _=>0,World.ownsRow_nil _ _ _ _,fun _ h=>by omega,by simp[hor]⟩,by simp[hor],by omega⟩
  have HSA:=Lib.hid hsa;have HGB:=Lib.hid hgb;have HGV:=Lib.hid hgv;have HH:=Lib.hid hh;have HM:=Lib.hid hm;have hml:m<=3200:=by omega
  have d10k:decide ((j:Int)<10000)=true:=decide_eq_true (by omega);have HRR0:Hid (0=hor g 0%65536):=by show _=_;simp[hor]
  clear hh hown hgb hgv hsa hpl HST HN hm;go_wp2
  go_loopw [6,7,8] (fun Q r k wr=>∃(kk rr c2:Nat) (U:Value),kk<=cnt/\k=.int .i64 kk/\rr<65536/\r=.int .i64 rr/\Hid (rr=hor g kk%65536)/\U=Q/\BitI wo wr g U c2 kk)
   (fun _ _ k _=>cnt-(intOf k).toNat)
  case atStart=>exact⟨0,0,0,_,by omega,rfl,by omega,rfl,HRR0,rfl,H0⟩
  case round =>
   obtain⟨kk,rr,c2,U,hkk,rfl,hrl,rfl,hrr,rfl,hbi⟩:=hrel;obtain⟨g2,hown2,hgb2,hgv2⟩:=hbi.grp;have hc2l:c2<=1000:=by have:=hbi.len;omega
   obtain⟨a2,cc,rfl,_,_⟩:=hown2.slAt hgb2 (by omega)
   by_cases hlt:kk<cnt
   · obtain ⟨b, off, rfl, hbb, hcc⟩ := HSA.out.at (show 0 < cnt by omega)
     have hcell:=(hbi.below.cell (p:=⟨b,off+kk,none⟩) hbb).trans (hcc kk hlt);have hxl:=HGB.out kk hlt;obtain⟨tt,htt⟩:∃tt,rr*1000000000+g kk=tt:=⟨_,rfl⟩
     have htt2:hor g kk%65536*1000000000+g kk=tt:=by rw[← hrr.out];exact htt
     obtain⟨r',hr'⟩:∃r',tt%65536=r':=⟨_,rfl⟩
     obtain⟨qd,hqd⟩:∃qd,tt / 65536=qd:=⟨_,rfl⟩
     have hrn:Hid (r'=hor g (kk+1)%65536):=by
      show _=_
      have:=(hor_div (hor g kk) (g kk)).1;rw[htt2]at this;rw[← hr',this,hor_succ]
     have hql:qd<1000000000:=by omega
     have hr'l:r'<65536:=by omega
     have e1:(rr:Int)*1000000000+(g kk:Int)=(tt:Int):=by omega
     have e2:(tt:Int)%65536=(r':Int):=by omega
     have e3:(tt:Int) / 65536=(qd:Int):=by omega
     have httl:tt<65536000000000:=by omega
     have k0:(0:Int)<=(kk:Int):=by omega
     have k1:(kk:Int)<(cnt:Int):=by omega
     have hzz:wo.heap.size<=wr.heap.size:=hbi.below.size;have HBI:=Lib.hid hbi;have HO2:=Lib.hid hown2;have HTT:=Lib.hid htt2;have HQD:=Lib.hid hqd
     by_cases hap:0<c2∨0<qd
     · have HN5:Hid (∀w5 v',Below wo.heap.size wo w5->w5.ownsRow wo.heap.size 3 1 v' (c2+1) (cl .i64 g2 c2 ++ [.int .i64 qd])->BitI wo w5 g v' (c2+1) (kk+1)):=by
         intro w5 v' h1 h2;refine BitI.next HBI.out HTT.out (by rw[HQD.out];exact hql) h1 (by rw[HQD.out];exact hap) (fun g' hg' => ?_);rw[HQD.out];exact GrpIs.fn hg' HO2.out h2
       clear hcc htt htt2 hr' hqd hbi hown2 hgb2 hgv2 hrr
       by_cases c1:0<c2
       all_goals
        first
         | have d1:decide ((0:Int)<(c2:Int))=true:=decide_eq_true (by omega)
         | (have d1 : decide ((0 : Int) < (c2 : Int)) = false := decide_eq_false (by omega)
            have hq0:0<qd:=by omega
            have d2:decide ((0:Int)<(qd:Int))=true:=decide_eq_true (by omega))
        clear hap
        go_wp2_with (at_builtin;refine wpList_append_own _ rfl _ _ 22 rfl wo.heap.size 3 i0 (.int .i64 0) 1 8 Tryz.underlying22 HI.out hz0 hz1 hz2 rfl (by decide) _ _ _ rfl (World.ownsRow.alloc HO2.out _) ⟨wr.heap.size,0,none⟩ 1 1 [.int .i64 qd] rfl rfl (cell_one_at _ _ _) (one_cell_list _ _) (by unfold maxLen;omega) (by omega) (by rw[World.size_alloc];omega) ?_;intro v' w5 hown' hgrow _)
        have hb5:Below wo.heap.size wo w5:=(HBI.out.below.alloc hzz _).grown hgrow (by rw[World.size_alloc];omega) (fun q hq=>(World.ownsRow.lt HO2.out q hq).1);have HG5:=Lib.hid (HN5.out w5 v' hb5 hown');clear hown' hgrow hb5;go_wp2
        go_roundw
        case rel=>exact⟨kk+1,r',c2+1,v',by omega,by go_num,hr'l,rfl,hrn,rfl,HG5.out⟩
        case measure=>simp[intOf];omega
     · obtain rfl:c2=0:=by omega
       obtain rfl:qd=0:=by omega
       have HSK:=Lib.hid (HBI.out.skip HTT.out rfl HQD.out);clear hcc htt htt2 hr' hqd hbi hown2 hgb2 hgv2 hrr hap;go_wp2
       go_roundw
       case rel=>exact⟨kk+1,r',0,_,by omega,by go_num,hr'l,(by first|rfl|exact vint e2),hrn,rfl,HSK.out⟩
       case measure=>simp[intOf];omega
   · obtain rfl : kk = cnt := by omega
     have hrX:rr=X%65536:=by rw[hrr.out,HGV.out]
     have hzX:c2=0↔X / 65536=0:=by rw[← HGV.out];exact hbi.zero
     have hbw:Below w.heap.size w wr:=HH.out.below.trans (hbi.below.mono HH.out.below.size);have HBW:=Lib.hid hbw;have hgrp:=hbi.grp;rw[HGV.out]at hgrp
     by_cases h0:c2=0
     · subst h0; have hX0 := hzX.1 rfl
       have hNB:Hid (nbits N=m+nbits rr):=by
        show _=_
        rw[HH.out.bits,HM.out,hrX,show X%65536=X by omega]
       have hb16:nbits rr<=16:=nbits_le.2 (by omega);have hB16:=Lib.hid hb16;clear hgrp hbi hown2 hgb2 hgv2 hrr hrX hzX hX0 hbw hb16;go_wp2
       go_loop [4,7] (fun n r=>∃(mm ss:Nat),mm<=5000/\n=.int .i64 mm/\r=.int .i64 ss/\ss<65536/\Hid (nbits N=mm+nbits ss/\mm+nbits ss<=3216))
        (fun _ r=>(intOf r).toNat)
       case atStart=>exact⟨m,rr,by omega,rfl,rfl,hrl,hNB.out,by have:=hB16.out;omega⟩
       case round =>
        obtain⟨mm,ss,hmm,rfl,rfl,hss,hnb⟩:=hrel
        by_cases hs0:0<ss
        · have hN2:Hid (nbits N=(mm+1)+nbits (ss / 2)/\(mm+1)+nbits (ss / 2)<=3216):=by
            have h1:=nbits_half hs0;have h2:=hnb.out;exact⟨by omega,by omega⟩
          obtain⟨s2,hs2⟩:∃s2,ss / 2=s2:=⟨_,rfl⟩
          rw[hs2]at hN2;have e1:(ss:Int) / 2=(s2:Int):=by omega
          have hsl:s2<ss:=by omega
          have hmm2:mm+1<=5000:=by have:=hN2.out.2;omega
          clear hs2;go_wp2
          go_round
          case rel=>exact⟨mm+1,s2,hmm2,by go_num,rfl,by omega,hN2.out⟩
          case measure=>simp[intOf];omega
        · obtain rfl:ss=0:=by omega
          have hE2:Hid (nbits N=mm):=by show _=_;rw[hnb.out.1,nbits_zero];rfl
          go_wp2;go_ret;exact⟨ret_int (by rw[hE2.out]),HBW.out⟩
     · have hXp:0<X / 65536:=by
         rcases Nat.eq_zero_or_pos (X / 65536)with h|h
         · exact absurd (hzX.2 h) h0
         · exact h
       have hjE:j<E:=by
        rcases Nat.lt_or_ge j E with h|h
        · exact h
        · have:=HH.out.lim;rw[show E-j=0 by omega,Nat.pow_zero]at this
          omega
       have hBO:BitO w wr N E (j+1) (X / 65536) (.slice a2 c2 cc) c2:=by
        refine⟨hbw,?_,hc2l,?_,?_⟩
        · obtain⟨g3,h1,h2,h3⟩:=hgrp;exact⟨g3,h1.mono HH.out.below.size,h2,h3⟩
        · have h1:nbits X=nbits (X / 65536)+16:=nbits_shift 16 hXp;rw[HH.out.bits,h1];omega
        · have h1:=HH.out.lim;rw[show E-j=(E-(j+1))+1 by omega,Nat.pow_succ]at h1;rw[Nat.div_lt_iff_lt_mul (by omega)];exact h1
       have HBO:=Lib.hid hBO;have h0':((c2:Int)==0)=false:=by rw[beq_eq_false_iff_ne];omega
       have HM':=HM;clear hgrp hbi hown2 hgb2 hgv2 hrr hrX hzX hbw hXp hBO;go_wp2
       go_roundw
       case rel=>exact⟨j+1,X / 65536,c2,m+16,_,hjE,by go_num,by have:=HM'.out;omega,by go_num,rfl,HBO.out⟩
       case measure=>simp[intOf];omega
theorem rlimbs_any(N E:Nat)(w:World)(hl:dl N<=1000)(hE:E<=200)(hN:N<65536^E):Calls Tryz.prog 139 #[.string (str (dec N))] w fun e w'=>e=.returned (.int .i64 ((nbits N+31) / 32:Nat))/\Below w.heap.size w w':=by
 have HB:=Lib.hid (rbits_any N E w hl hE hN)
 have hb:nbits N<=16*E:=by
  have h3:(65536:Nat)^E=2^(16*E):=by rw[Nat.pow_mul]
  exact nbits_le.2 (by omega)
 obtain⟨B,hB⟩:∃B,nbits N=B:=⟨_,rfl⟩
 rw[hB]at HB hb ⊢;obtain⟨L,hL⟩:∃L,(B+31) / 32=L:=⟨_,rfl⟩
 have e1:((B:Int)+31) / 32=(L:Int):=by omega
 have hb2:B<=3200:=by omega
 rw[hL];clear hB hL hN;go_enter Tryz.func139,Tryz.ntmps139
 go_wp2_with (go_at_call 198;refine HB.out.mono ?_;rintro e w1 ⟨rfl,hb1⟩)
 go_ret;exact⟨ret_int e1,hb1⟩
structure Bag(w0:World)(P:World->Prop)(w:World):Prop where
 below:Below w0.heap.size w0 w
 stay:∀a b,Below a.heap.size a b->P a->P b
 now:P w
theorem Bag.start(w:World):Bag w (fun _=>True) w:=⟨Below.refl _ _,fun _ _ _ _=>trivial,trivial⟩
theorem Bag.go{w0 w w':World}{P:World->Prop}(h:Bag w0 P w)(hb:Below w.heap.size w w'):Bag w0 P w' :=
 ⟨h.below.trans (hb.mono h.below.size),h.stay,h.stay _ _ hb h.now⟩
theorem bgo{w0 w w':World}{U:World → Prop}(h:Hid (Bag w0 U w))(hb:Below w.heap.size w w'):Hid (Bag w0 U w'):=Lib.hid (h.out.go hb)
theorem Bag.add{w0 w:World}{P Q:World->Prop}(h:Bag w0 P w)(hs:∀a b,Below a.heap.size a b->Q a->Q b)(q:Q w):Bag w0 (fun x=>Q x/\P x) w :=
 ⟨h.below,fun a b hb ⟨h1,h2⟩=>⟨hs a b hb h1,h.stay a b hb h2⟩,q,h.now⟩
theorem Bag.nat{w0 w:World}{P:World->Prop}{v:Value}{N:Nat}(h:Bag w0 P w)(q:NatIs w v N):Bag w0 (fun x=>NatIs x v N/\P x) w:=h.add (fun _ _ hb q=>q.below hb) q
theorem Bag.alloc{w0 w:World}{P:World->Prop}(h:Bag w0 P w)(o:Obj):Bag w0 P (w.alloc o):=h.go ((Below.refl _ _).alloc (Nat.le_refl _) _)
theorem Bag.slot{w0 w:World}{P:World->Prop}{k:Nat}{x:Value}(h:Bag w0 P w)(q:Slot w k x):Bag w0 (fun y=>Slot y k x/\P y) w:=h.add (fun _ _ hb q=>q.below hb) q
theorem Bag.box{w0 w:World}{P:World->Prop}(h:Bag w0 P w)(x:Value)(t:TypeId):Bag w0 (fun y=>Slot y w.heap.size x/\P y) (w.alloc (.cells #[x] t)) :=
 (h.alloc _).slot (Slot.new w x t)
theorem Bag.drewN{w0 w:World}{P:World->Prop}(h:Bag w0 P w)(n:Nat):Bag w0 P (w.drewN n):=h.go (below_drewN (Below.refl _ _) n)
theorem Bag.drew{w0 w:World}{P:World->Prop}(h:Bag w0 P w):Bag w0 P w.drew:=h.go (Below.refl _ _).drew
structure Slot2(w:World)(k:Nat)(x y:Value):Prop where
 cell:w.cell? ⟨k,0,none⟩=some x
 cell1:w.cell? ⟨k,1,none⟩=some y
 free:w.frozen? ⟨k,0,none⟩=false
 free1:w.frozen? ⟨k,1,none⟩=false
 lt:k<w.heap.size
theorem Slot2.below{w w':World}{k:Nat}{x y:Value}(h:Slot2 w k x y)(hb:Below w.heap.size w w'):Slot2 w' k x y :=
 ⟨(hb.cell (p:=⟨k,0,none⟩) h.lt).trans h.cell,(hb.cell (p:=⟨k,1,none⟩) h.lt).trans h.cell1,(hb.frozen (p:=⟨k,0,none⟩) h.lt).trans h.free,(hb.frozen (p:=⟨k,1,none⟩) h.lt).trans h.free1,Nat.lt_of_lt_of_le h.lt hb.size⟩
theorem Slot2.new(w:World)(x y:Value)(t:TypeId):Slot2 (w.alloc (.cells #[x,y] t)) w.heap.size x y:=by
 refine⟨?_,?_,World.frozen?_alloc_new _ _ _ _,World.frozen?_alloc_new _ _ _ _,by rw[World.size_alloc];omega⟩
 · rw[World.cell?_alloc_new];rfl
 · rw[World.cell?_alloc_new];rfl
theorem Bag.slot2{w0 w:World}{P:World->Prop}{k:Nat}{x z:Value}(h:Bag w0 P w)(q:Slot2 w k x z):Bag w0 (fun y=>Slot2 y k x z/\P y) w:=h.add (fun _ _ hb q=>q.below hb) q
theorem Bag.box2{w0 w:World}{P:World->Prop}(h:Bag w0 P w)(x z:Value)(t:TypeId):Bag w0 (fun y=>Slot2 y w.heap.size x z/\P y) (w.alloc (.cells #[x,z] t)) :=
 (h.alloc _).slot2 (Slot2.new w x z t)
end Go.Proofs.YtdmmenaejkpnjaaGreatDoor
namespace Go.Proofs.YtdmmenaejkpnjaaGreatDoor
open Go.RowKit
attribute [local go_sem ↓] Go.wp_at_zero Go.wp_at_succ
def IntAt(w:World)(a:Option Addr)(n c:Nat)(m:Bool)(Z:Int):Prop:=m=decide (Z<0)/\NatIs w (.agg #[.slice a n c]) Z.natAbs
theorem IntAt.below{w w':World}{a:Option Addr}{n c:Nat}{m:Bool}{Z:Int}(h:IntAt w a n c m Z)(hb:Below w.heap.size w w'):IntAt w' a n c m Z:=⟨h.1,h.2.below hb⟩
def IntTold(w w':World)(e:Ending)(Z:Int):Prop:=∃a n c m,e=.returned (.agg #[.slice a n c,.bool m])/\IntAt w' a n c m Z/\Below w.heap.size w w'
def sgn(b:Bool)(N:Nat):Int:=if b then -(N:Int)else N
theorem sgn_abs(b:Bool)(N:Nat):(sgn b N).natAbs=N:=by unfold sgn;split<;>omega
theorem sgn_neg(b:Bool)(N:Nat):decide (sgn b N<0)=(b && !decide (N=0)):=by
 cases b
 · simp[sgn]
 · by_cases h:N=0
   · simp[sgn,h]
   · simp[sgn,h];omega
theorem sgn_self(Z:Int):sgn (decide (Z<0)) Z.natAbs=Z:=by
 by_cases h:Z<0
 · rw[decide_eq_true h];simp[sgn];omega
 · rw[decide_eq_false h];simp[sgn];omega
def NatTold2(w w':World)(e:Ending)(v:Value)(N:Nat):Prop:=e=.returned v/\NatIs w' v N/\Below w.heap.size w w'
theorem NatIs.storeAt{w:World}{v:Value}{N:Nat}{p:Addr}{x:Value}(h:NatIs w v N)(hs:w.cell? p=some x)(hx:∀ki z,x ≠ .int ki z)(u:Value):NatIs (w.setCell p u) v N:=by
 obtain⟨a,n,c,f,rfl,⟨h1,h2,h3,h4⟩,hv,ht⟩:=h;refine⟨a,n,c,f,rfl,⟨h1,h2,h3,?_⟩,hv,ht⟩
 rcases h4 with h4|⟨b,off,rfl,hb,hc⟩
 · exact .inl h4
 · refine .inr ⟨b,off,rfl,by simpa using hb,fun j hj => ?_⟩
   rw[World.cell?_setCell_other _ _ _ _ (fun e' => ?_)]
   · exact hc j hj
   · have h5:=hc j hj;rw[show(⟨b,off+j,none⟩:Addr)=p from by first|exact e'|exact e'.symm,hs]at h5;exact hx _ _ (Option.some.inj h5)
theorem IntTold.done {w w2 : World} {k : Nat} {x : Value} {m0 : Bool} {a : Option Addr} {n c : Nat} {m : Bool} {Z : Int} (hb : Below w.heap.size w w2) (hk : w.heap.size <= k) (hs : Slot2 w2 k x (.bool m0)) (hx : ∀ ki z, x ≠ .int ki z) (h : IntAt w2 a n c m Z) :
    IntTold w ((w2.setCell ⟨k,0,none⟩ (.slice a n c)).setCell ⟨k,1,none⟩ (.bool m)) (.returned (.agg #[.slice a n c,.bool m])) Z:=by
 refine⟨a,n,c,m,rfl,⟨h.1,?_⟩,(hb.setCell hk _).setCell hk _⟩;refine(h.2.storeAt hs.cell hx _).storeAt (x:=.bool m0) ?_ (fun _ _ h=>by cases h) _;rw[World.cell?_setCell_other _ _ _ _ (fun e=>by cases e)];exact hs.cell1
theorem Slot2.set{w:World}{k:Nat}{x y:Value}(h:Slot2 w k x y)(u v:Value):((w.setCell ⟨k,0,none⟩ u).setCell ⟨k,1,none⟩ v).cell? ⟨k,0,none⟩=some u/\((w.setCell ⟨k,0,none⟩ u).setCell ⟨k,1,none⟩ v).cell? ⟨k,1,none⟩=some v:=by
 refine⟨?_,?_⟩
 · rw[World.cell?_setCell_other _ _ _ _ (fun e=>by cases e)];exact World.cell?_setCell_same _ _ _ h.cell
 · refine World.cell?_setCell_same (u:=y) _ _ _ ?_;rw[World.cell?_setCell_other _ _ _ _ (fun e=>by cases e)];exact h.cell1
def RS(y:World)(k:Nat):Prop:=∃x b,Slot2 y k x (.bool b)/\∀ki z,x ≠ .int ki z
theorem RS.below{w w':World}{k:Nat}(h:RS w k)(hb:Below w.heap.size w w'):RS w' k:=by
 obtain⟨x,b,h1,h2⟩:=h;exact⟨x,b,h1.below hb,h2⟩
theorem Slot2.rs{w:World}{k:Nat}{a:Option Addr}{n c:Nat}{b:Bool}(h:Slot2 w k (.slice a n c) (.bool b)):RS w k:=⟨_,_,h,fun _ _ h=>by cases h⟩
def putI(y:World)(k:Nat)(a:Option Addr)(n c:Nat)(b:Bool):World:=(y.setCell ⟨k,0,none⟩ (.slice a n c)).setCell ⟨k,1,none⟩ (.bool b)
theorem RS.frozen{w:World}{k:Nat}(h:RS w k):w.frozen? ⟨k,0,none⟩=false/\w.frozen? ⟨k,1,none⟩=false:=by
 obtain⟨x,b,h1,_⟩:=h;exact⟨h1.free,h1.free1⟩
theorem RS.lt{w:World}{k:Nat}(h:RS w k):k<w.heap.size:=by
 obtain⟨x,b,h1,_⟩:=h;exact h1.lt
theorem RS.cells{w:World}{k:Nat}(h:RS w k)(a:Option Addr)(n c:Nat)(b:Bool):(putI w k a n c b).cell? ⟨k,0,none⟩=some (.slice a n c)/\(putI w k a n c b).cell? ⟨k,1,none⟩=some (.bool b):=by
 obtain⟨x,b',h1,_⟩:=h;exact h1.set _ _
theorem RS.slotted{w:World}{k:Nat}(h:RS w k)(a:Option Addr)(n c:Nat)(b:Bool):Slot2 (putI w k a n c b) k (.slice a n c) (.bool b):=by
 obtain⟨x,b',h1,_⟩:=h;exact⟨(h1.set _ _).1,(h1.set _ _).2,by simp[putI,h1.free],by simp[putI,h1.free1],by simpa[putI]using h1.lt⟩
theorem RS.put{w:World}{k j:Nat}(h:RS w j)(a:Option Addr)(n c:Nat)(b:Bool):RS (putI w k a n c b) j:=by
 obtain⟨x,b',h1,h2⟩:=h
 by_cases e:j=k
 · subst e;have:=h1.set (.slice a n c) (.bool b);exact⟨_,_,⟨this.1,this.2,by simp[putI,h1.free],by simp[putI,h1.free1],by simpa[putI]using h1.lt⟩,fun _ _ h=>by cases h⟩
 · refine⟨x,b',⟨?_,?_,by simp[putI,h1.free],by simp[putI,h1.free1],by simpa[putI]using h1.lt⟩,h2⟩
   · unfold putI;rw[World.cell?_setCell_other _ _ _ _ (fun e'=>by cases e'),World.cell?_setCell_other _ _ _ _ (fun e'=>e (by cases e';rfl))];exact h1.cell
   · unfold putI;rw[World.cell?_setCell_other _ _ _ _ (fun e'=>e (by cases e';rfl)),World.cell?_setCell_other _ _ _ _ (fun e'=>by cases e')];exact h1.cell1
theorem Slot2.put{w:World}{k j:Nat}{x z:Value}(h1:Slot2 w j x z)(e:j≠k)(a:Option Addr)(n c:Nat)(b:Bool):Slot2 (putI w k a n c b) j x z:=by
 refine⟨?_,?_,by simp[putI,h1.free],by simp[putI,h1.free1],by simpa[putI]using h1.lt⟩
 · unfold putI;rw[World.cell?_setCell_other _ _ _ _ (fun e'=>by cases e'<;>exact e rfl),World.cell?_setCell_other _ _ _ _ (fun e'=>by cases e'<;>exact e rfl)];exact h1.cell
 · unfold putI;rw[World.cell?_setCell_other _ _ _ _ (fun e'=>by cases e'<;>exact e rfl),World.cell?_setCell_other _ _ _ _ (fun e'=>by cases e'<;>exact e rfl)];exact h1.cell1
theorem Slot.put{w:World}{k j:Nat}{x:Value}(h1:Slot w j x)(e:j≠k)(a:Option Addr)(n c:Nat)(b:Bool):Slot (putI w k a n c b) j x:=by
 refine⟨?_,by simp[putI,h1.free],by simpa[putI]using h1.lt⟩;unfold putI;rw[World.cell?_setCell_other _ _ _ _ (fun e'=>by cases e'<;>exact e rfl),World.cell?_setCell_other _ _ _ _ (fun e'=>by cases e'<;>exact e rfl)];exact h1.cell
theorem NatIs.put{w:World}{k:Nat}{v:Value}{N:Nat}(q:NatIs w v N)(h:RS w k)(a:Option Addr)(n c:Nat)(b:Bool):NatIs (putI w k a n c b) v N:=by
 obtain⟨x,b',h1,h2⟩:=h;refine(q.storeAt h1.cell h2 _).storeAt (x:=.bool b') ?_ (fun _ _ h=>by cases h) _;rw[World.cell?_setCell_other _ _ _ _ (fun e=>by cases e)];exact h1.cell1
theorem IntAt.put{w:World}{k:Nat}{a':Option Addr}{n' c':Nat}{m:Bool}{Z:Int}(q:IntAt w a' n' c' m Z)(h:RS w k)(a:Option Addr)(n c:Nat)(b:Bool):IntAt (putI w k a n c b) a' n' c' m Z:=⟨q.1,q.2.put h a n c b⟩
theorem Bag.put{w0 w:World}{P:World->Prop}(h:Bag w0 P w){k:Nat}(hk:w0.heap.size<=k){a:Option Addr}{n c:Nat}{b:Bool}(hp:P w->P (putI w k a n c b)):Bag w0 P (putI w k a n c b) :=
 ⟨(h.below.setCell hk _).setCell hk _,h.stay,hp h.now⟩
theorem IntTold.fin {w w2 : World} {k : Nat} {a : Option Addr} {n c : Nat} {m : Bool} {Z : Int} (hb : Below w.heap.size w w2) (hk : w.heap.size <= k) (hs : RS w2 k) (h : IntAt w2 a n c m Z) :
    IntTold w (putI w2 k a n c m) (.returned (.agg #[.slice a n c,.bool m])) Z :=
 ⟨a,n,c,m,rfl,h.put hs a n c m,(hb.setCell hk _).setCell hk _⟩
theorem wof_any (b : Bool) (a : Option Addr) (n c N : Nat) (w : World) (h : NatIs w (.agg #[.slice a n c]) N) :
    Calls Tryz.prog 116 #[.bool b,.agg #[.slice a n c]] w fun e w'=>IntTold w w' e (sgn b N):=by
 cases b with
 | false =>
  have HE:Hid (IntTold w ((w.alloc (.cells #[.slice a n c] 49)).alloc (.cells #[.slice a n c,.bool false] 51)).drew (.returned (.agg #[.slice a n c,.bool false])) (sgn false N)) :=
   have B0:=(((Bag.start w).nat h).alloc (.cells #[.slice a n c] 49)).box2 (.slice a n c) (.bool false) 51
   ⟨a,n,c,false,rfl,⟨by rw[sgn_neg];rfl,by rw[sgn_abs];exact B0.drew.now.2.1⟩,B0.drew.below⟩
  clear h;go_enter Tryz.func116,Tryz.ntmps116;go_wp2_with fail
  go_region
  all_goals
   go_wp2;exact bodyPost_ret (v:=.agg #[.slice a n c,.bool false]) (by simp[results,Tryz.results116,go_sem]) rfl HE.out
 | true =>
  have B0:=(((Bag.start w).nat h).box (.slice a n c) 49).box2 (.slice none 0 0) (.bool false) 51;rw[World.size_alloc]at B0;have BB:=Lib.hid B0.drew;have HZ:=Lib.hid (zero_any _ N _ B0.drew.now.2.2.1);have q0:=B0.now.2.1.cell;have HI:Hid (∀wz,NatIs wz (.agg #[.slice a n c]) N->IntAt wz a n c (!decide (N=0)) (sgn true N)):=fun wz hz=>⟨by rw[sgn_neg];rfl,by rw[sgn_abs];exact hz⟩
  obtain⟨m,hm⟩:∃m,(!decide (N=0))=m:=⟨_,rfl⟩
  obtain⟨z,hz⟩:∃z,decide (N=0)=z:=⟨_,rfl⟩
  rw[hm]at HI;rw[hz]at HZ hm;subst hm;clear B0 h hz;go_enter Tryz.func116,Tryz.ntmps116;go_wp2_with fail
  go_region_with (go_at_call 114;refine HZ.out.mono ?_;rintro e w2 ⟨rfl,hb2⟩;have B2:=BB.out.go hb2;have hq:=B2.now.2.1.cell;have hs2:=B2.now.1;have hc1:=hs2.cell;have hc2:=hs2.cell1;have hf1:=hs2.free;have hf2:=hs2.free1;have HS:=hs2.set (.slice a n c) (.bool (!z));have HE:=Lib.hid (IntTold.done B2.below (by omega) hs2 (fun _ _ h=>by cases h) (HI.out _ B2.now.2.2.1));clear hb2 B2 hs2)
  all_goals
   go_wp2;exact bodyPost_ret (by simp[results,Tryz.results116,go_sem,HS]) rfl HE.out
theorem Bag.int{w0 w:World}{P:World->Prop}{a:Option Addr}{n c:Nat}{m:Bool}{Z:Int}(h:Bag w0 P w)(q:IntAt w a n c m Z):Bag w0 (fun y=>IntAt y a n c m Z/\P y) w:=h.add (fun _ _ hb q=>q.below hb) q
theorem neg_any (a : Option Addr) (n c : Nat) (m : Bool) (Z : Int) (w : World) (h : IntAt w a n c m Z) :
    Calls Tryz.prog 173 #[.agg #[.slice a n c,.bool m]] w fun e w'=>e=.returned (.bool m)/\Below w.heap.size w w':=by
 have B0:=((Bag.start w).nat h.2).box2 (.slice a n c) (.bool m) 51;have q0:=B0.now.1.cell;have q1:=B0.now.1.cell1;have hz:=zero_any _ _ _ B0.now.2.1;have BB:=Lib.hid B0
 cases m with
 | false =>
  clear h B0 hz;go_enter Tryz.func173,Tryz.ntmps173;go_wp2;go_ret;exact⟨rfl,BB.out.below⟩
 | true =>
  have h0:decide (Z.natAbs=0)=false:=by
   have:=h.1;rw[decide_eq_false];have h2:=of_decide_eq_true this.symm
   omega
  rw[h0]at hz;have HZ:=Lib.hid hz;clear h B0 h0 hz;go_enter Tryz.func173,Tryz.ntmps173
  go_wp2_with (go_at_call 114;refine HZ.out.mono ?_;rintro e w2 ⟨rfl,hb2⟩;have HB:=Lib.hid (BB.out.go hb2).below;clear hb2)
  go_ret;exact⟨rfl,HB.out⟩
theorem size_any (a : Option Addr) (n c : Nat) (m : Bool) (Z : Int) (w : World) (h : IntAt w a n c m Z) :
    Calls Tryz.prog 169 #[.agg #[.slice a n c,.bool m]] w fun e w'=>NatTold2 w w' e (.agg #[.slice a n c]) Z.natAbs:=by
 have B0:=(((Bag.start w).nat h.2).box2 (.slice a n c) (.bool m) 51).alloc (.cells #[.slice a n c] 49);have HE:Hid (NatTold2 w ((w.alloc (.cells #[.slice a n c,.bool m] 51)).alloc (.cells #[.slice a n c] 49)) (.returned (.agg #[.slice a n c])) (.agg #[.slice a n c]) Z.natAbs):=⟨rfl,B0.now.2.1,B0.below⟩
 clear h B0;go_enter Tryz.func169,Tryz.ntmps169;go_wp2;exact bodyPost_ret (v:=.agg #[.slice a n c]) (by simp[results,Tryz.results169,go_sem]) rfl HE.out
def sgnI(Z:Int):Int:=if Z<0 then -1 else if Z=0 then 0 else 1
theorem sign_any (a : Option Addr) (n c : Nat) (m : Bool) (Z : Int) (w : World) (h : IntAt w a n c m Z) :
    Calls Tryz.prog 140 #[.agg #[.slice a n c,.bool m]] w fun e w'=>e=.returned (.int .i64 (sgnI Z))/\Below w.heap.size w w':=by
 have B0:=((Bag.start w).int h).box2 (.slice a n c) (.bool m) 51;have q0:=B0.now.1.cell;have q1:=B0.now.1.cell1;have hz:=zero_any _ _ _ B0.now.2.1.2;have BB:=Lib.hid B0
 by_cases h0:Z=0
 · have d0:decide (Z.natAbs=0)=true:=decide_eq_true (by omega);rw[d0]at hz;have HZ:=Lib.hid hz;have HE:Hid (sgnI Z=0):=by show _=_;unfold sgnI;rw[if_neg (by omega),if_pos h0]
   clear h B0 h0 d0 hz;go_enter Tryz.func140,Tryz.ntmps140
   go_wp2_with (go_at_call 114;refine HZ.out.mono ?_;rintro e w2 ⟨rfl,hb2⟩;have HB:=Lib.hid (BB.out.go hb2).below;clear hb2)
   go_ret;exact⟨ret_int HE.out.symm,HB.out⟩
 · have d0:decide (Z.natAbs=0)=false:=decide_eq_false (by omega);rw[d0]at hz;have HZ:=Lib.hid hz;have HM:=Lib.hid h.1
   have HE:Hid (sgnI Z=if m then -1 else 1):=by
    show _=_
    rw[h.1];unfold sgnI
    by_cases h2:Z<0
    · rw[if_pos h2,decide_eq_true h2];rfl
    · rw[if_neg h2,if_neg h0,decide_eq_false h2];rfl
   clear h B0 h0 d0 hz;go_enter Tryz.func140,Tryz.ntmps140;go_wp2_with fail;go_at_call 114;refine HZ.out.mono ?_;rintro e w2 ⟨rfl,hb2⟩;have B2:=Lib.hid (BB.out.go hb2);clear hb2 q0 q1;have q0:=B2.out.now.1.cell;have q1:=B2.out.now.1.cell1;go_wp2_with fail;go_at_call 173;refine(neg_any a n c m Z _ B2.out.now.2.1).mono ?_;rintro e w3 ⟨rfl,hb3⟩;have B3:=Lib.hid (B2.out.go hb3);clear hb3 q0 q1
   cases m
   all_goals
    go_wp2;go_ret;exact⟨ret_int HE.out.symm,B3.out.below⟩
theorem minus_any (a : Option Addr) (n c : Nat) (m : Bool) (Z : Int) (w : World) (h : IntAt w a n c m Z) :
    Calls Tryz.prog 222 #[.agg #[.slice a n c,.bool m]] w fun e w'=>IntTold w w' e (-Z):=by
 have B0:=(((Bag.start w).int h).box2 (.slice a n c) (.bool m) 51).box2 (.slice none 0 0) (.bool false) 51;rw[World.size_alloc]at B0;have q0:=B0.now.2.1.cell;have q1:=B0.now.2.1.cell1;have BB:=Lib.hid B0.drew;have NG:Hid (∀wz,IntAt wz a n c m Z->Calls Tryz.prog 173 #[.agg #[.slice a n c,.bool m]] wz fun e w'=>e=.returned (.bool m)/\Below wz.heap.size wz w'):=fun wz hz=>neg_any a n c m Z wz hz
 have OF:Hid (∀wz,IntAt wz a n c m Z->Calls Tryz.prog 116 #[.bool (!m),.agg #[.slice a n c]] wz fun e w'=>IntTold wz w' e (-Z)):=by
  intro wz hz;have h1:=wof_any (!m) a n c _ wz hz.2
  have e:sgn (!m) Z.natAbs = -Z:=by
   rw[h.1]
   by_cases h2:Z<0
   · rw[decide_eq_true h2];simp[sgn];omega
   · rw[decide_eq_false h2];simp[sgn];omega
  rw[e]at h1;exact h1
 clear h B0;go_enter Tryz.func222,Tryz.ntmps222;go_wp2_with fail
 go_region_with (first
  | (go_at_call 173;refine(NG.out _ BB.out.now.2.2.1).mono ?_;rintro e w2 ⟨rfl,hb2⟩;have BB:=Lib.hid (BB.out.go hb2);have q0:=BB.out.now.2.1.cell;have q1:=BB.out.now.2.1.cell1;clear hb2)
  | (go_at_call 116;refine(OF.out _ BB.out.now.2.2.1).mono ?_;rintro e w2 ⟨a3,n3,c3,m3,rfl,hi3,hb2⟩;have B2:=BB.out.go hb2;have hs2:=B2.now.1;have hc1:=hs2.cell;have hc2:=hs2.cell1;have hf1:=hs2.free;have hf2:=hs2.free1;have HS:=hs2.set (.slice a3 n3 c3) (.bool m3);have HE:=Lib.hid (IntTold.done B2.below (by omega) hs2 (fun _ _ h=>by cases h) hi3);clear hb2 B2 hs2 hi3))
 all_goals
  go_wp2;exact bodyPost_ret (by simp[results,Tryz.results222,go_sem,HS]) rfl HE.out
def cmpZ(Z Y:Int):Int:=if Z<Y then -1 else if Z=Y then 0 else 1
theorem icmp_any (a : Option Addr) (n c : Nat) (m : Bool) (Z : Int) (a2 : Option Addr) (n2 c2 : Nat) (m2 : Bool) (Y : Int) (w : World) (h : IntAt w a n c m Z) (g : IntAt w a2 n2 c2 m2 Y) :
    Calls Tryz.prog 121 #[.agg #[.slice a n c,.bool m],.agg #[.slice a2 n2 c2,.bool m2]] w fun e w'=>e=.returned (.int .i64 (cmpZ Z Y))/\Below w.heap.size w w':=by
 have B0:=((((Bag.start w).int h).int g).box2 (.slice a n c) (.bool m) 51).box2 (.slice a2 n2 c2) (.bool m2) 51;rw[World.size_alloc]at B0;have q0:=B0.now.2.1.cell;have q1:=B0.now.2.1.cell1;have q2:=B0.now.1.cell;have q3:=B0.now.1.cell1;have BB:=Lib.hid B0;have N1:Hid (∀wz,IntAt wz a n c m Z->Calls Tryz.prog 173 #[.agg #[.slice a n c,.bool m]] wz fun e w'=>e=.returned (.bool m)/\Below wz.heap.size wz w'):=fun wz hz=>neg_any a n c m Z wz hz
 have N2:Hid (∀wz,IntAt wz a2 n2 c2 m2 Y->Calls Tryz.prog 173 #[.agg #[.slice a2 n2 c2,.bool m2]] wz fun e w'=>e=.returned (.bool m2)/\Below wz.heap.size wz w'):=fun wz hz=>neg_any a2 n2 c2 m2 Y wz hz
 have HE:Hid (cmpZ Z Y=if m then(if m2 then cmpI Y.natAbs Z.natAbs else -1)else(if m2 then 1 else cmpI Z.natAbs Y.natAbs)):=by
  show _=_
  rw[h.1,g.1];unfold cmpZ cmpI
  by_cases h2:Z<0
  · by_cases h3:Y<0
    · rw[decide_eq_true h2,decide_eq_true h3];simp only[if_true];(repeat' split)<;>omega
    · rw[decide_eq_true h2,decide_eq_false h3,if_pos (by omega)];rfl
  · by_cases h3:Y<0
    · rw[decide_eq_false h2,decide_eq_true h3,if_neg (by omega),if_neg (by omega)];rfl
    · rw[decide_eq_false h2,decide_eq_false h3];simp only[Bool.false_eq_true,if_false];(repeat' split)<;>omega
 have CM:Hid (∀wz,IntAt wz a n c m Z->IntAt wz a2 n2 c2 m2 Y->Calls Tryz.prog 175 #[.agg #[.slice a n c],.agg #[.slice a2 n2 c2]] wz fun e w'=>e=.returned (.int .i64 (cmpI Z.natAbs Y.natAbs))/\Below wz.heap.size wz w'):=fun wz hz hy=>cmp_any _ _ _ _ wz hz.2 hy.2
 have CN:Hid (∀wz,IntAt wz a n c m Z->IntAt wz a2 n2 c2 m2 Y->Calls Tryz.prog 175 #[.agg #[.slice a2 n2 c2],.agg #[.slice a n c]] wz fun e w'=>e=.returned (.int .i64 (cmpI Y.natAbs Z.natAbs))/\Below wz.heap.size wz w'):=fun wz hz hy=>cmp_any _ _ _ _ wz hy.2 hz.2
 clear h g B0;go_enter Tryz.func121,Tryz.ntmps121;go_wp2_with fail;go_at_call 173;refine(N1.out _ BB.out.now.2.2.2.1).mono ?_;rintro e w2 ⟨rfl,hb2⟩;have BB:=bgo BB hb2;clear hb2 q0 q1 q2 q3;have q0:=BB.out.now.2.1.cell;have q1:=BB.out.now.2.1.cell1;have q2:=BB.out.now.1.cell;have q3:=BB.out.now.1.cell1
 cases m with
 | true =>
  go_wp2_with fail;go_at_call 173;refine(N2.out _ BB.out.now.2.2.1).mono ?_;rintro e w3 ⟨rfl,hb2⟩;have BB:=bgo BB hb2;clear hb2 q0 q1 q2 q3;have q0:=BB.out.now.2.1.cell;have q1:=BB.out.now.2.1.cell1;have q2:=BB.out.now.1.cell;have q3:=BB.out.now.1.cell1
  cases m2 with
  | true =>
   go_wp2_with fail;go_at_call 175;refine(CN.out _ BB.out.now.2.2.2.1 BB.out.now.2.2.1).mono ?_;rintro e w4 ⟨rfl,hb2⟩;have BB:=bgo BB hb2;clear hb2 q0 q1 q2 q3;go_wp2;go_ret;exact⟨ret_int HE.out.symm,BB.out.below⟩
  | false =>
   go_wp2_with fail;go_at_call 173;refine(N1.out _ BB.out.now.2.2.2.1).mono ?_;rintro e w4 ⟨rfl,hb2⟩;have BB:=bgo BB hb2;clear hb2 q0 q1 q2 q3;go_wp2;go_ret;exact⟨ret_int HE.out.symm,BB.out.below⟩
 | false =>
  go_wp2_with fail;go_at_call 173;refine(N1.out _ BB.out.now.2.2.2.1).mono ?_;rintro e w3 ⟨rfl,hb2⟩;have BB:=bgo BB hb2;clear hb2 q0 q1 q2 q3;have q0:=BB.out.now.2.1.cell;have q1:=BB.out.now.2.1.cell1;have q2:=BB.out.now.1.cell;have q3:=BB.out.now.1.cell1;go_wp2_with fail;go_at_call 173;refine(N2.out _ BB.out.now.2.2.1).mono ?_;rintro e w4 ⟨rfl,hb2⟩;have BB:=bgo BB hb2;clear hb2 q0 q1 q2 q3;have q0:=BB.out.now.2.1.cell;have q1:=BB.out.now.2.1.cell1;have q2:=BB.out.now.1.cell;have q3:=BB.out.now.1.cell1
  cases m2 with
  | true =>
   go_wp2;go_ret;exact⟨ret_int HE.out.symm,BB.out.below⟩
  | false =>
   go_wp2_with fail;go_at_call 175;refine(CM.out _ BB.out.now.2.2.2.1 BB.out.now.2.2.1).mono ?_;rintro e w5 ⟨rfl,hb2⟩;have BB:=bgo BB hb2;clear hb2 q0 q1 q2 q3;go_wp2;go_ret;exact⟨ret_int HE.out.symm,BB.out.below⟩
theorem of_pl2(x:Nat)(w:World)(hx:x<18446744073709551616):Calls Tryz.prog 146 #[.int .u64 x] w fun e w'=>∃a n c,e=.returned (.agg #[.slice a n c])/\NatIs w' (.agg #[.slice a n c]) x/\Below w.heap.size w w' :=
 (of_any x w hx).mono fun _ _ ⟨v,h1,⟨a,n,c,f,h2,h3,h4,h5⟩,h6⟩=>⟨a,n,c,by rw[h1,h2],⟨a,n,c,f,rfl,h3,h4,h5⟩,h6⟩
theorem from_any (X : Int) (w : World) (h : -9223372036854775808 <= X /\ X <= 9223372036854775807) :
    Calls Tryz.prog 118 #[.int .i64 X] w fun e w'=>IntTold w w' e X:=by
 have B0:=Lib.hid ((Bag.start w).box2 (.slice none 0 0) (.bool false) 51)
 by_cases h0:X<0
 · obtain⟨y,hy⟩:∃y:Nat,(y:Int) = -X:=⟨(-X).toNat,by omega⟩
   have d0:decide (X<0)=true:=decide_eq_true h0
   have e2:IntKind.u64.wrap (-IntKind.u64.wrap X)=(y:Int):=by
    rw[IntKind.wrap_u64,IntKind.wrap_u64];omega
   have hyl:y<18446744073709551616:=by omega
   have HZ:Hid (sgn true y=X):=by show _=_;unfold sgn;simp;omega
   have HO:Hid (∀wz,Calls Tryz.prog 146 #[.int .u64 y] wz fun e w'=>∃a n c,e=.returned (.agg #[.slice a n c])/\NatIs w' (.agg #[.slice a n c]) y/\Below wz.heap.size wz w'):=fun wz=>of_pl2 y wz hyl
   clear hy h;go_enter Tryz.func118,Tryz.ntmps118;go_wp2_with fail;go_at_call 146;refine(HO.out _).mono ?_;rintro e w2 ⟨a2,n2,c2,rfl,hi2,hb2⟩;have BB:=Lib.hid ((B0.out.go hb2).nat hi2);clear hi2 hb2;go_wp2_with fail;go_at_call 116;refine(wof_any true a2 n2 c2 y _ BB.out.now.1).mono ?_;rintro e w3 ⟨a3,n3,c3,m3,rfl,hi3,hb3⟩;rw[HZ.out]at hi3;have B3:=BB.out.go hb3;have hs2:=B3.now.2.1;have hc1:=hs2.cell;have hc2:=hs2.cell1;have hf1:=hs2.free;have hf2:=hs2.free1;have HS:=hs2.set (.slice a3 n3 c3) (.bool m3);have HE:=Lib.hid (IntTold.done B3.below (Nat.le_refl _) hs2 (fun _ _ h=>by cases h) hi3);clear hb3 B3 hs2 hi3;go_wp2;exact bodyPost_ret (by simp[results,Tryz.results118,go_sem,HS]) rfl HE.out
 · obtain⟨y,rfl⟩:∃y:Nat,X=(y:Int):=⟨X.toNat,by omega⟩
   have d0:decide ((y:Int)<0)=false:=decide_eq_false h0;have hyl:y<18446744073709551616:=by omega
   have HZ:Hid (sgn false y=(y:Int)):=by show _=_;unfold sgn;simp
   have HO:Hid (∀wz,Calls Tryz.prog 146 #[.int .u64 y] wz fun e w'=>∃a n c,e=.returned (.agg #[.slice a n c])/\NatIs w' (.agg #[.slice a n c]) y/\Below wz.heap.size wz w'):=fun wz=>of_pl2 y wz hyl
   have hy2:(y:Int)<=9223372036854775807:=h.2;clear h;go_enter Tryz.func118,Tryz.ntmps118;go_wp2_with fail;go_at_call 146;refine(HO.out _).mono ?_;rintro e w2 ⟨a2,n2,c2,rfl,hi2,hb2⟩;have BB:=Lib.hid ((B0.out.go hb2).nat hi2);clear hi2 hb2;go_wp2_with fail;go_at_call 116;refine(wof_any false a2 n2 c2 y _ BB.out.now.1).mono ?_;rintro e w3 ⟨a3,n3,c3,m3,rfl,hi3,hb3⟩;rw[HZ.out]at hi3;have B3:=BB.out.go hb3;have hs2:=B3.now.2.1;have hc1:=hs2.cell;have hc2:=hs2.cell1;have hf1:=hs2.free;have hf2:=hs2.free1;have HS:=hs2.set (.slice a3 n3 c3) (.bool m3);have HE:=Lib.hid (IntTold.done B3.below (Nat.le_refl _) hs2 (fun _ _ h=>by cases h) hi3);clear hb3 B3 hs2 hi3;go_wp2;exact bodyPost_ret (by simp[results,Tryz.results118,go_sem,HS]) rfl HE.out
def fitB(Z:Int):Bool:=decide (-9223372036854775808<=Z/\Z<=9223372036854775807)
def fitI(Z:Int):Int:=if fitB Z then Z else 0
theorem ret_ib{k:IntKind}{a b:Int}{x y:Bool}(h:a=b)(h':x=y):Ending.returned (.tuple #[.int k a,.bool x])=.returned (.tuple #[.int k b,.bool y]):=by rw[h,h']
theorem int_any (a : Option Addr) (n c : Nat) (m : Bool) (Z : Int) (w : World) (h : IntAt w a n c m Z) :
    Calls Tryz.prog 229 #[.agg #[.slice a n c,.bool m]] w fun e w'=>e=.returned (.tuple #[.int .i64 (fitI Z),.bool (fitB Z)])/\Below w.heap.size w w':=by
 have B0:=((Bag.start w).int h).box2 (.slice a n c) (.bool m) 51;have q0:=B0.now.1.cell;have q1:=B0.now.1.cell1;have hu:=uint_any _ _ _ B0.now.2.1.2;have BB:=Lib.hid B0;have hm:=h.1;obtain⟨N,hN⟩:∃N,Z.natAbs=N:=⟨_,rfl⟩
 rw[hN]at hu;unfold UintOut at hu;clear h B0
 by_cases hbig:N<18446744073709551616
 · rw [if_pos hbig, decide_eq_true hbig] at hu; have HU := Lib.hid hu; clear hu
   by_cases hz:Z<0
   · rw [decide_eq_true hz] at hm; subst hm; have hZN : Z = -(N : Int) := by omega
     by_cases h63:N<=9223372036854775808
     · have HE:Hid (fitI Z = -(N:Int)/\fitB Z=true):=by
         have:fitB Z=true:=decide_eq_true (by omega);exact⟨by unfold fitI;rw[this,if_pos rfl];exact hZN,this⟩
       have d2:decide ((N:Int)<=9223372036854775808)=true:=decide_eq_true (by omega)
       have e2:IntKind.i64.wrap (IntKind.u64.wrap (-(N:Int))) = -(N:Int):=by
        rw[IntKind.wrap_i64,IntKind.wrap_u64];omega
       clear hz hZN hN hbig
       by_cases h62:N<=9223372036854775807
       all_goals
        first
         | have d1:decide ((N:Int)<=9223372036854775807)=true:=decide_eq_true (by omega)
         | have d1:decide ((N:Int)<=9223372036854775807)=false:=decide_eq_false (by omega)
        clear h62 h63;go_enter Tryz.func229,Tryz.ntmps229
        go_wp2_with (first
         | (go_at_call 238;refine HU.out.mono ?_;rintro e w2 ⟨rfl,hb2⟩;have BB:=Lib.hid (BB.out.go hb2);clear hb2 q0 q1;have q0:=BB.out.now.1.cell;have q1:=BB.out.now.1.cell1)
         | (go_at_call 173;refine(neg_any a n c true Z _ BB.out.now.2.1).mono ?_;rintro e w2 ⟨rfl,hb2⟩;have BB:=Lib.hid (BB.out.go hb2);clear hb2 q0 q1;have q0:=BB.out.now.1.cell;have q1:=BB.out.now.1.cell1))
        go_ret2;exact⟨ret_ib HE.out.1.symm HE.out.2.symm,BB.out.below⟩
     · have HE:Hid (fitI Z=0/\fitB Z=false):=by
         have:fitB Z=false:=decide_eq_false (by omega);exact⟨by unfold fitI;rw[this];rfl,this⟩
       have d1:decide ((N:Int)<=9223372036854775807)=false:=decide_eq_false (by omega);have d2:decide ((N:Int)<=9223372036854775808)=false:=decide_eq_false (by omega);clear hz hZN hN hbig h63;go_enter Tryz.func229,Tryz.ntmps229
       go_wp2_with (first
        | (go_at_call 238;refine HU.out.mono ?_;rintro e w2 ⟨rfl,hb2⟩;have BB:=Lib.hid (BB.out.go hb2);clear hb2 q0 q1;have q0:=BB.out.now.1.cell;have q1:=BB.out.now.1.cell1))
       go_ret2;exact⟨ret_ib HE.out.1.symm HE.out.2.symm,BB.out.below⟩
   · rw [decide_eq_false hz] at hm; subst hm; have hZN : Z = (N : Int) := by omega
     by_cases h63:N<=9223372036854775807
     · have HE:Hid (fitI Z=(N:Int)/\fitB Z=true):=by
         have:fitB Z=true:=decide_eq_true (by omega);exact⟨by unfold fitI;rw[this,if_pos rfl];exact hZN,this⟩
       have d1:decide ((N:Int)<=9223372036854775807)=true:=decide_eq_true (by omega);have hl:(N:Int)<=9223372036854775807:=by omega
       clear hz hZN hN hbig h63;go_enter Tryz.func229,Tryz.ntmps229
       go_wp2_with (first
        | (go_at_call 238;refine HU.out.mono ?_;rintro e w2 ⟨rfl,hb2⟩;have BB:=Lib.hid (BB.out.go hb2);clear hb2 q0 q1;have q0:=BB.out.now.1.cell;have q1:=BB.out.now.1.cell1)
        | (go_at_call 173;refine(neg_any a n c false Z _ BB.out.now.2.1).mono ?_;rintro e w2 ⟨rfl,hb2⟩;have BB:=Lib.hid (BB.out.go hb2);clear hb2 q0 q1;have q0:=BB.out.now.1.cell;have q1:=BB.out.now.1.cell1))
       go_ret2;exact⟨ret_ib HE.out.1.symm HE.out.2.symm,BB.out.below⟩
     · have HE:Hid (fitI Z=0/\fitB Z=false):=by
         have:fitB Z=false:=decide_eq_false (by omega);exact⟨by unfold fitI;rw[this];rfl,this⟩
       have d1:decide ((N:Int)<=9223372036854775807)=false:=decide_eq_false (by omega);clear hz hZN hN hbig
       by_cases h62:N<=9223372036854775808
       all_goals
        first
         | have d2:decide ((N:Int)<=9223372036854775808)=true:=decide_eq_true (by omega)
         | have d2:decide ((N:Int)<=9223372036854775808)=false:=decide_eq_false (by omega)
        clear h62 h63;go_enter Tryz.func229,Tryz.ntmps229
        go_wp2_with (first
         | (go_at_call 238;refine HU.out.mono ?_;rintro e w2 ⟨rfl,hb2⟩;have BB:=Lib.hid (BB.out.go hb2);clear hb2 q0 q1;have q0:=BB.out.now.1.cell;have q1:=BB.out.now.1.cell1)
         | (go_at_call 173;refine(neg_any a n c false Z _ BB.out.now.2.1).mono ?_;rintro e w2 ⟨rfl,hb2⟩;have BB:=Lib.hid (BB.out.go hb2);clear hb2 q0 q1;have q0:=BB.out.now.1.cell;have q1:=BB.out.now.1.cell1))
        go_ret2;exact⟨ret_ib HE.out.1.symm HE.out.2.symm,BB.out.below⟩
 · rw[if_neg hbig,decide_eq_false hbig]at hu;have HU:=Lib.hid hu
   have HE:Hid (fitI Z=0/\fitB Z=false):=by
    have:fitB Z=false:=decide_eq_false (by omega);exact⟨by unfold fitI;rw[this];rfl,this⟩
   clear hu hbig hN hm;go_enter Tryz.func229,Tryz.ntmps229
   go_wp2_with (first
    | (go_at_call 238;refine HU.out.mono ?_;rintro e w2 ⟨rfl,hb2⟩;have BB:=Lib.hid (BB.out.go hb2);clear hb2 q0 q1;have q0:=BB.out.now.1.cell;have q1:=BB.out.now.1.cell1))
   go_ret2;exact⟨ret_ib HE.out.1.symm HE.out.2.symm,BB.out.below⟩
end Go.Proofs.YtdmmenaejkpnjaaGreatDoor
namespace Go.Proofs.YtdmmenaejkpnjaaGreatDoor
open Go.RowKit
theorem dec_small{N:Nat}(h:N<10):dec N = [UInt8.ofNat (48+N)]:=by
 have:dl N=1:=by unfold dl;rw[dif_pos h]
 unfold dec;rw[this,sdig,sdig];unfold dgt;rw[Nat.pow_zero,Nat.div_one,Nat.mod_eq_of_lt h]
def NatTold(w w':World)(e:Ending)(N:Nat):Prop:=∃a n c,e=.returned (.agg #[.slice a n c])/\NatIs w' (.agg #[.slice a n c]) N/\Below w.heap.size w w'
theorem NatOut.told{w w':World}{e:Ending}{N:Nat}(h:NatOut w w' e N):NatTold w w' e N:=by
 obtain⟨v,rfl,hv,hb⟩:=h;obtain⟨a,n,c,f,rfl,hs,hv,ht⟩:=hv;exact⟨a,n,c,rfl,⟨a,n,c,f,rfl,hs,hv,ht⟩,hb⟩
theorem NatIs.alloc{w:World}{v:Value}{N:Nat}(h:NatIs w v N)(o:Obj):NatIs (w.alloc o) v N:=h.below ((Below.refl _ _).alloc (Nat.le_refl _) _)
theorem of_told(x:Nat)(w:World)(hx:x<18446744073709551616):Calls Tryz.prog 146 #[.int .u64 x] w fun e w'=>NatTold w w' e x :=
 (of_any x w hx).mono fun _ _ h=>h.told
end Go.Proofs.YtdmmenaejkpnjaaGreatDoor
namespace Go.Proofs.YtdmmenaejkpnjaaGreatDoor
open Go.RowKit
attribute [local go_sem ↓] Go.wp_at_zero Go.wp_at_succ
def NatOf3(w w':World)(e:Ending)(N:Nat):Prop:=∃a n c,e=.returned (.agg #[.slice a n c])/\NatIs w' (.agg #[.slice a n c]) N/\Below w.heap.size w w'
theorem NatOut.three{w w':World}{e:Ending}{N:Nat}(h:NatOut w w' e N):NatOf3 w w' e N:=by
 obtain⟨v,h1,⟨a,n,c,f,h2,h3,h4,h5⟩,h6⟩:=h;exact⟨a,n,c,by rw[h1,h2],⟨a,n,c,f,rfl,h3,h4,h5⟩,h6⟩
def SubOf3(w w':World)(e:Ending)(N:Nat)(b:Bool):Prop:=∃a n c,e=.returned (.tuple #[.agg #[.slice a n c],.bool b])/\NatIs w' (.agg #[.slice a n c]) N/\Below w.heap.size w w'
theorem SubOut.three{w w':World}{e:Ending}{N M:Nat}{b:Bool}(h:SubOut w w' e N M)(hb:decide (M<=N)=b):SubOf3 w w' e (N-M) b:=by
 obtain⟨v,h1,⟨a,n,c,f,h2,h3,h4,h5⟩,h6⟩:=h;exact⟨a,n,c,by rw[h1,h2,hb],⟨a,n,c,f,rfl,h3,h4,h5⟩,h6⟩
def PO(k:Nat)(a:Option Addr)(n c:Nat)(m:Bool)(Z:Int)(a2:Option Addr)(n2 c2:Nat)(m2:Bool)(Y:Int)(y:World):Prop :=
 RS y (k+1+1)/\Slot2 y (k+1) (.slice a2 n2 c2) (.bool m2)/\Slot2 y k (.slice a n c) (.bool m)/\IntAt y a2 n2 c2 m2 Y/\IntAt y a n c m Z
theorem PO.put{k:Nat}{a:Option Addr}{n c:Nat}{m:Bool}{Z:Int}{a2:Option Addr}{n2 c2:Nat}{m2:Bool}{Y:Int}{y:World}(h:PO k a n c m Z a2 n2 c2 m2 Y y)(a3:Option Addr)(n3 c3:Nat)(b:Bool):PO k a n c m Z a2 n2 c2 m2 Y (putI y (k+1+1) a3 n3 c3 b) :=
 ⟨h.1.put _ _ _ _,h.2.1.put (by omega) _ _ _ _,h.2.2.1.put (by omega) _ _ _ _,h.2.2.2.1.put h.1 _ _ _ _,h.2.2.2.2.put h.1 _ _ _ _⟩
theorem PO.stay{k:Nat}{a:Option Addr}{n c:Nat}{m:Bool}{Z:Int}{a2:Option Addr}{n2 c2:Nat}{m2:Bool}{Y:Int}:∀x y,Below x.heap.size x y->PO k a n c m Z a2 n2 c2 m2 Y x->PO k a n c m Z a2 n2 c2 m2 Y y :=
 fun _ _ hb h=>⟨h.1.below hb,h.2.1.below hb,h.2.2.1.below hb,h.2.2.2.1.below hb,h.2.2.2.2.below hb⟩
theorem PO.start {w : World} {a : Option Addr} {n c : Nat} {m : Bool} {Z : Int} {a2 : Option Addr} {n2 c2 : Nat} {m2 : Bool} {Y : Int} (h : IntAt w a n c m Z) (g : IntAt w a2 n2 c2 m2 Y) :
    Bag w (PO w.heap.size a n c m Z a2 n2 c2 m2 Y) (((w.alloc (.cells #[.slice a n c,.bool m] 51)).alloc (.cells #[.slice a2 n2 c2,.bool m2] 51)).alloc (.cells #[.slice none 0 0,.bool false] 51)):=by
 have B0:=(((((Bag.start w).int h).int g).box2 (.slice a n c) (.bool m) 51).box2 (.slice a2 n2 c2) (.bool m2) 51).box2 (.slice none 0 0) (.bool false) 51;simp only[World.size_alloc]at B0;exact⟨B0.below,PO.stay,B0.now.1.rs,B0.now.2.1,B0.now.2.2.1,B0.now.2.2.2.1,B0.now.2.2.2.2.1⟩
def POc(k:Nat)(a:Option Addr)(n c:Nat)(m:Bool)(a2:Option Addr)(n2 c2:Nat)(m2:Bool)(y:World):Prop :=
 y.cell? ⟨k,0,none⟩=some (.slice a n c)/\y.cell? ⟨k,1,none⟩=some (.bool m)/\y.cell? ⟨k+1,0,none⟩=some (.slice a2 n2 c2)/\y.cell? ⟨k+1,1,none⟩=some (.bool m2)
theorem PO.c{k:Nat}{a:Option Addr}{n c:Nat}{m:Bool}{Z:Int}{a2:Option Addr}{n2 c2:Nat}{m2:Bool}{Y:Int}{y:World}(h:PO k a n c m Z a2 n2 c2 m2 Y y):POc k a n c m a2 n2 c2 m2 y :=
 ⟨h.2.2.1.cell,h.2.2.1.cell1,h.2.1.cell,h.2.1.cell1⟩
theorem plusOne_same (a : Option Addr) (n c : Nat) (m : Bool) (Z : Int) (a2 : Option Addr) (n2 c2 : Nat) (m2 : Bool) (Y : Int) (w : World) (h : IntAt w a n c m Z) (g : IntAt w a2 n2 c2 m2 Y)
    (k:Nat) (hk:k<=900000) (hZ:Z.natAbs<4294967296^k) (hY:Y.natAbs<4294967296^k) (hmm:m=m2) :
    Calls Tryz.prog 250 #[.agg #[.slice a n c,.bool m],.agg #[.slice a2 n2 c2,.bool m2]] w fun e w'=>IntTold w w' e (Z+Y):=by
 have BB:=Lib.hid (PO.start h g);have N1:Hid (∀wz,Bag w (PO w.heap.size a n c m Z a2 n2 c2 m2 Y) wz->Calls Tryz.prog 173 #[.agg #[.slice a n c,.bool m]] wz fun e w'=>e=.returned (.bool m)/\Below wz.heap.size wz w'):=fun wz hz=>neg_any a n c m Z wz hz.now.2.2.2.2
 have N2:Hid (∀wz,Bag w (PO w.heap.size a n c m Z a2 n2 c2 m2 Y) wz->Calls Tryz.prog 173 #[.agg #[.slice a2 n2 c2,.bool m2]] wz fun e w'=>e=.returned (.bool m2)/\Below wz.heap.size wz w'):=fun wz hz=>neg_any a2 n2 c2 m2 Y wz hz.now.2.2.2.1
 have hm1:=h.1;have hm2:=g.1;have hd:(m==m2)=true:=by rw[hmm];simp
 have AD:Hid (∀wz,Bag w (PO w.heap.size a n c m Z a2 n2 c2 m2 Y) wz->Calls Tryz.prog 167 #[.agg #[.slice a n c],.agg #[.slice a2 n2 c2]] wz fun e w'=>NatOf3 wz w' e (Z.natAbs+Y.natAbs)):=fun wz hz=>(add_any _ _ _ _ wz hz.now.2.2.2.2.2 hz.now.2.2.2.1.2 k hk hZ hY).mono fun _ _ h=>h.three
 have hz:sgn m (Z.natAbs+Y.natAbs)=Z+Y:=by
  rw[hm1]at hmm ⊢;rw[hm2]at hmm
  by_cases h1:Z<0
  · rw[decide_eq_true h1]at hmm ⊢;have:=of_decide_eq_true hmm.symm
    simp[sgn];omega
  · rw[decide_eq_false h1]at hmm ⊢;have:=of_decide_eq_false hmm.symm
    simp[sgn];omega
 have OF:Hid (∀a3 n3 c3 wz,NatIs wz (.agg #[.slice a3 n3 c3]) (Z.natAbs+Y.natAbs)->Calls Tryz.prog 116 #[.bool m,.agg #[.slice a3 n3 c3]] wz fun e w'=>IntTold wz w' e (Z+Y)):=by
  intro a3 n3 c3 wz hi;have:=wof_any m a3 n3 c3 _ wz hi;rw[hz]at this;exact this
 clear h g hm1 hm2 hmm hZ hY hz;go_enter Tryz.func250,Tryz.ntmps250;go_wp2_with fail
 go_region_held3 (fun y=>(y.cell? ⟨w.heap.size,0,none⟩=some (.slice a n c)/\y.cell? ⟨w.heap.size,1,none⟩=some (.bool m)/\y.cell? ⟨w.heap.size+1,0,none⟩=some (.slice a2 n2 c2)/\y.cell? ⟨w.heap.size+1,1,none⟩=some (.bool m2))/\Bag w (PO w.heap.size a n c m Z a2 n2 c2 m2 Y) y)
  (first|(have B9:=BB.out.drew;exact⟨B9.now.c,B9⟩)|(have B9:=Bag.go (by go_split_ands;assumption) hb2;exact⟨B9.now.c,B9⟩))
  (first|(go_at_call 173;(with_reducible refine(N1.out _ ?_).mono ?_);(go_split_ands;assumption);rintro e w2 ⟨rfl,hb2⟩)|(go_at_call 173;(with_reducible refine(N2.out _ ?_).mono ?_);(go_split_ands;assumption);rintro e w2 ⟨rfl,hb2⟩))
 have B3:=Lib.hid (show Bag w (PO w.heap.size a n c m Z a2 n2 c2 m2 Y) _ from by go_split_ands;assumption);go_wp2_with fail
 go_region_held3 (fun y => (y.cell? ⟨w.heap.size, 0, none⟩ = some (.slice a n c) /\ y.cell? ⟨w.heap.size, 1, none⟩ = some (.bool m) /\ y.cell? ⟨w.heap.size + 1, 0, none⟩ = some (.slice a2 n2 c2) /\ y.cell? ⟨w.heap.size + 1, 1, none⟩ = some (.bool m2)) /\ Bag w (PO w.heap.size a n c m Z a2 n2 c2 m2 Y) y)
  (first|(have B9:=B3.out.drew;exact⟨B9.now.c,B9⟩)|(have B9:=Bag.go (by go_split_ands;assumption) hb2;exact⟨B9.now.c,B9⟩)|(exact⟨B8.out.now.c,B8.out⟩))
  (first
    | (go_at_call 173;(with_reducible refine(N1.out _ ?_).mono ?_);(go_split_ands;assumption);rintro e w2 ⟨rfl,hb2⟩)
    | (go_at_call 167;(with_reducible refine(AD.out _ ?_).mono ?_);(go_split_ands;assumption);rintro e w2 ⟨a3,n3,c3,rfl,hi3,hb2⟩)
    | (go_at_call 116;(with_reducible refine(OF.out a3 n3 c3 _ hi3).mono ?_);rintro e w2 ⟨a4,n4,c4,m4,rfl,hi4,hb2⟩;have B7:=Bag.go (show Bag w (PO w.heap.size a n c m Z a2 n2 c2 m2 Y) _ from by go_split_ands;assumption) hb2;obtain⟨x8,b8,hs8,_⟩:=B7.now.1;have hc1:=hs8.cell;have hc2:=hs8.cell1;have hf1:=hs8.free;have hf2:=hs8.free1;clear hs8;have HS:=B7.now.1.cells a4 n4 c4 m4;have HE:=Lib.hid (IntTold.fin B7.below (by omega) B7.now.1 hi4);have B8:=Lib.hid (B7.put (by omega) (a:=a4) (n:=n4) (c:=c4) (b:=m4) (fun h=>h.put _ _ _ _));unfold putI at HS;clear B7))
 go_wp2;exact bodyPost_ret (by simp[results,Tryz.results250,go_sem,HS]) rfl HE.out
theorem plusOne_less (a : Option Addr) (n c : Nat) (m : Bool) (Z : Int) (a2 : Option Addr) (n2 c2 : Nat) (m2 : Bool) (Y : Int) (w : World) (h : IntAt w a n c m Z) (g : IntAt w a2 n2 c2 m2 Y)
    (hmm:¬m=m2) (hle:Y.natAbs<=Z.natAbs) :
    Calls Tryz.prog 250 #[.agg #[.slice a n c,.bool m],.agg #[.slice a2 n2 c2,.bool m2]] w fun e w'=>IntTold w w' e (Z+Y):=by
 have BB:=Lib.hid (PO.start h g);have q0:=BB.out.now.c.1;have q1:=BB.out.now.c.2.1;have q2:=BB.out.now.c.2.2.1;have q3:=BB.out.now.c.2.2.2;have N1:Hid (∀wz,Bag w (PO w.heap.size a n c m Z a2 n2 c2 m2 Y) wz->Calls Tryz.prog 173 #[.agg #[.slice a n c,.bool m]] wz fun e w'=>e=.returned (.bool m)/\Below wz.heap.size wz w'):=fun wz hz=>neg_any a n c m Z wz hz.now.2.2.2.2
 have N2:Hid (∀wz,Bag w (PO w.heap.size a n c m Z a2 n2 c2 m2 Y) wz->Calls Tryz.prog 173 #[.agg #[.slice a2 n2 c2,.bool m2]] wz fun e w'=>e=.returned (.bool m2)/\Below wz.heap.size wz w'):=fun wz hz=>neg_any a2 n2 c2 m2 Y wz hz.now.2.2.2.1
 have hm1:=h.1;have hm2:=g.1;have hd:(m==m2)=false:=by simpa using hmm
 have SB:Hid (∀wz,Bag w (PO w.heap.size a n c m Z a2 n2 c2 m2 Y) wz->Calls Tryz.prog 251 #[.agg #[.slice a n c],.agg #[.slice a2 n2 c2]] wz fun e w'=>SubOf3 wz w' e (Z.natAbs-Y.natAbs) true):=fun wz hz=>(sub_any _ _ _ _ wz hz.now.2.2.2.2.2 hz.now.2.2.2.1.2).mono fun _ _ h=>h.three (decide_eq_true hle)
 have hz:sgn m (Z.natAbs-Y.natAbs)=Z+Y:=by
  by_cases h1:Z<0
  · rw[decide_eq_true h1]at hm1;rw[hm1]at hmm
    by_cases h2:Y<0
    · rw[decide_eq_true h2]at hm2;exact absurd hm2.symm hmm
    · rw[decide_eq_false h2]at hm2;rw[hm1];simp[sgn];omega
  · rw[decide_eq_false h1]at hm1;rw[hm1]at hmm
    by_cases h2:Y<0
    · rw[decide_eq_true h2]at hm2;rw[hm1];simp[sgn];omega
    · rw[decide_eq_false h2]at hm2;exact absurd hm2.symm hmm
 have OF:Hid (∀a3 n3 c3 wz,NatIs wz (.agg #[.slice a3 n3 c3]) (Z.natAbs-Y.natAbs)->Calls Tryz.prog 116 #[.bool m,.agg #[.slice a3 n3 c3]] wz fun e w'=>IntTold wz w' e (Z+Y)):=by
  intro a3 n3 c3 wz hi;have:=wof_any m a3 n3 c3 _ wz hi;rw[hz]at this;exact this
 clear h g hm1 hm2 hmm hz hle;go_enter Tryz.func250,Tryz.ntmps250;go_wp2_with fail
 go_region_held3 (fun y=>(y.cell? ⟨w.heap.size,0,none⟩=some (.slice a n c)/\y.cell? ⟨w.heap.size,1,none⟩=some (.bool m)/\y.cell? ⟨w.heap.size+1,0,none⟩=some (.slice a2 n2 c2)/\y.cell? ⟨w.heap.size+1,1,none⟩=some (.bool m2))/\Bag w (PO w.heap.size a n c m Z a2 n2 c2 m2 Y) y)
  (first|(have B9:=BB.out.drew;exact⟨B9.now.c,B9⟩)|(have B9:=Bag.go (by go_split_ands;assumption) hb2;exact⟨B9.now.c,B9⟩))
  (first|(go_at_call 173;(with_reducible refine(N1.out _ ?_).mono ?_);(go_split_ands;assumption);rintro e w2 ⟨rfl,hb2⟩)|(go_at_call 173;(with_reducible refine(N2.out _ ?_).mono ?_);(go_split_ands;assumption);rintro e w2 ⟨rfl,hb2⟩))
 have B3:=Lib.hid (show Bag w (PO w.heap.size a n c m Z a2 n2 c2 m2 Y) _ from by go_split_ands;assumption);clear q0 q1 q2 q3;have q0:=B3.out.now.c.1;have q1:=B3.out.now.c.2.1;have q2:=B3.out.now.c.2.2.1;have q3:=B3.out.now.c.2.2.2;go_wp2_with fail;go_at_call 251;(with_reducible refine(SB.out _ B3.out).mono ?_);rintro e w4 ⟨a3,n3,c3,rfl,hi3,hb4⟩;have B4:=Lib.hid (((B3.out.go hb4).nat hi3).box (.slice a3 n3 c3) 49);have hk4:w.heap.size+1+1<w4.heap.size:=RS.lt (B3.out.go hb4).now.1;clear hb4 hi3 q0 q1 q2 q3;have q0:=B4.out.now.2.2.c.1;have q1:=B4.out.now.2.2.c.2.1;have q2:=B4.out.now.2.2.c.2.2.1;have q3:=B4.out.now.2.2.c.2.2.2;have q4:=B4.out.now.1.cell;go_wp2_with fail
 go_region_held3 (fun y => (y.cell? ⟨w.heap.size, 0, none⟩ = some (.slice a n c) /\ y.cell? ⟨w.heap.size, 1, none⟩ = some (.bool m) /\ y.cell? ⟨w.heap.size + 1, 0, none⟩ = some (.slice a2 n2 c2) /\ y.cell? ⟨w.heap.size + 1, 1, none⟩ = some (.bool m2)) /\ y.cell? ⟨w4.heap.size, 0, none⟩ = some (.slice a3 n3 c3) /\ Bag w (fun y => Slot y w4.heap.size (.slice a3 n3 c3) /\ NatIs y (.agg #[.slice a3 n3 c3]) (Z.natAbs - Y.natAbs) /\ PO w.heap.size a n c m Z a2 n2 c2 m2 Y y) y)
  (first|(have B9:=B4.out.drew;exact⟨B9.now.2.2.c,B9.now.1.cell,B9⟩)|(have B9:=Bag.go (by go_split_ands;assumption) hb2;exact⟨B9.now.2.2.c,B9.now.1.cell,B9⟩)|(exact⟨B8.out.now.2.2.c,B8.out.now.1.cell,B8.out⟩))
  (first
    | (go_at_call 173;(with_reducible refine(N1.out _ ?_).mono ?_);(have B6:=(show Bag w (fun y=>Slot y w4.heap.size (.slice a3 n3 c3)/\NatIs y (.agg #[.slice a3 n3 c3]) (Z.natAbs-Y.natAbs)/\PO w.heap.size a n c m Z a2 n2 c2 m2 Y y) _ from by go_split_ands;assumption);exact⟨B6.below,PO.stay,B6.now.2.2⟩);rintro e w2 ⟨rfl,hb2⟩)
    | (go_at_call 116;(with_reducible refine(OF.out a3 n3 c3 _ ?_).mono ?_);(have B6:=(show Bag w (fun y=>Slot y w4.heap.size (.slice a3 n3 c3)/\NatIs y (.agg #[.slice a3 n3 c3]) (Z.natAbs-Y.natAbs)/\PO w.heap.size a n c m Z a2 n2 c2 m2 Y y) _ from by go_split_ands;assumption);exact B6.now.2.1);rintro e w2 ⟨a4,n4,c4,m4,rfl,hi4,hb2⟩;have B7:=Bag.go (show Bag w (fun y=>Slot y w4.heap.size (.slice a3 n3 c3)/\NatIs y (.agg #[.slice a3 n3 c3]) (Z.natAbs-Y.natAbs)/\PO w.heap.size a n c m Z a2 n2 c2 m2 Y y) _ from by go_split_ands;assumption) hb2;obtain⟨x8,b8,hs8,_⟩:=B7.now.2.2.1;have hc1:=hs8.cell;have hc2:=hs8.cell1;have hf1:=hs8.free;have hf2:=hs8.free1;clear hs8;have HS:=B7.now.2.2.1.cells a4 n4 c4 m4;have HE:=Lib.hid (IntTold.fin B7.below (by omega) B7.now.2.2.1 hi4);have B8:=Lib.hid (B7.put (by omega) (a:=a4) (n:=n4) (c:=c4) (b:=m4) (fun h=>⟨h.1.put (by omega) _ _ _ _,h.2.1.put h.2.2.1 _ _ _ _,h.2.2.put _ _ _ _⟩));unfold putI at HS;clear B7))
 go_wp2;exact bodyPost_ret (by simp[results,Tryz.results250,go_sem,HS]) rfl HE.out
theorem plusOne_more (a : Option Addr) (n c : Nat) (m : Bool) (Z : Int) (a2 : Option Addr) (n2 c2 : Nat) (m2 : Bool) (Y : Int) (w : World) (h : IntAt w a n c m Z) (g : IntAt w a2 n2 c2 m2 Y)
    (hmm:¬m=m2) (hle:Z.natAbs<Y.natAbs) :
    Calls Tryz.prog 250 #[.agg #[.slice a n c,.bool m],.agg #[.slice a2 n2 c2,.bool m2]] w fun e w'=>IntTold w w' e (Z+Y):=by
 have BB:=Lib.hid (PO.start h g);have q0:=BB.out.now.c.1;have q1:=BB.out.now.c.2.1;have q2:=BB.out.now.c.2.2.1;have q3:=BB.out.now.c.2.2.2;have N1:Hid (∀wz,Bag w (PO w.heap.size a n c m Z a2 n2 c2 m2 Y) wz->Calls Tryz.prog 173 #[.agg #[.slice a n c,.bool m]] wz fun e w'=>e=.returned (.bool m)/\Below wz.heap.size wz w'):=fun wz hz=>neg_any a n c m Z wz hz.now.2.2.2.2
 have N2:Hid (∀wz,Bag w (PO w.heap.size a n c m Z a2 n2 c2 m2 Y) wz->Calls Tryz.prog 173 #[.agg #[.slice a2 n2 c2,.bool m2]] wz fun e w'=>e=.returned (.bool m2)/\Below wz.heap.size wz w'):=fun wz hz=>neg_any a2 n2 c2 m2 Y wz hz.now.2.2.2.1
 have hm1:=h.1;have hm2:=g.1;have hd:(m==m2)=false:=by simpa using hmm
 have SB:Hid (∀wz,Bag w (PO w.heap.size a n c m Z a2 n2 c2 m2 Y) wz->Calls Tryz.prog 251 #[.agg #[.slice a n c],.agg #[.slice a2 n2 c2]] wz fun e w'=>SubOf3 wz w' e (Z.natAbs-Y.natAbs) false):=fun wz hz=>(sub_any _ _ _ _ wz hz.now.2.2.2.2.2 hz.now.2.2.2.1.2).mono fun _ _ h=>h.three (decide_eq_false (by omega))
 have SB2:Hid (∀wz,Bag w (PO w.heap.size a n c m Z a2 n2 c2 m2 Y) wz->Calls Tryz.prog 251 #[.agg #[.slice a2 n2 c2],.agg #[.slice a n c]] wz fun e w'=>SubOf3 wz w' e (Y.natAbs-Z.natAbs) true):=fun wz hz=>(sub_any _ _ _ _ wz hz.now.2.2.2.1.2 hz.now.2.2.2.2.2).mono fun _ _ h=>h.three (decide_eq_true (by omega))
 have hz:sgn m2 (Y.natAbs-Z.natAbs)=Z+Y:=by
  by_cases h1:Z<0
  · rw[decide_eq_true h1]at hm1;rw[hm1]at hmm
    by_cases h2:Y<0
    · rw[decide_eq_true h2]at hm2;exact absurd hm2.symm hmm
    · rw[decide_eq_false h2]at hm2;rw[hm2];simp[sgn];omega
  · rw[decide_eq_false h1]at hm1;rw[hm1]at hmm
    by_cases h2:Y<0
    · rw[decide_eq_true h2]at hm2;rw[hm2];simp[sgn];omega
    · rw[decide_eq_false h2]at hm2;exact absurd hm2.symm hmm
 have OF:Hid (∀a3 n3 c3 wz,NatIs wz (.agg #[.slice a3 n3 c3]) (Y.natAbs-Z.natAbs)->Calls Tryz.prog 116 #[.bool m2,.agg #[.slice a3 n3 c3]] wz fun e w'=>IntTold wz w' e (Z+Y)):=by
  intro a3 n3 c3 wz hi;have:=wof_any m2 a3 n3 c3 _ wz hi;rw[hz]at this;exact this
 clear h g hm1 hm2 hmm hz hle;go_enter Tryz.func250,Tryz.ntmps250;go_wp2_with fail
 go_region_held3 (fun y=>(y.cell? ⟨w.heap.size,0,none⟩=some (.slice a n c)/\y.cell? ⟨w.heap.size,1,none⟩=some (.bool m)/\y.cell? ⟨w.heap.size+1,0,none⟩=some (.slice a2 n2 c2)/\y.cell? ⟨w.heap.size+1,1,none⟩=some (.bool m2))/\Bag w (PO w.heap.size a n c m Z a2 n2 c2 m2 Y) y)
  (first|(have B9:=BB.out.drew;exact⟨B9.now.c,B9⟩)|(have B9:=Bag.go (by go_split_ands;assumption) hb2;exact⟨B9.now.c,B9⟩))
  (first|(go_at_call 173;(with_reducible refine(N1.out _ ?_).mono ?_);(go_split_ands;assumption);rintro e w2 ⟨rfl,hb2⟩)|(go_at_call 173;(with_reducible refine(N2.out _ ?_).mono ?_);(go_split_ands;assumption);rintro e w2 ⟨rfl,hb2⟩))
 have B3:=Lib.hid (show Bag w (PO w.heap.size a n c m Z a2 n2 c2 m2 Y) _ from by go_split_ands;assumption);clear q0 q1 q2 q3;have q0:=B3.out.now.c.1;have q1:=B3.out.now.c.2.1;have q2:=B3.out.now.c.2.2.1;have q3:=B3.out.now.c.2.2.2;go_wp2_with fail;go_at_call 251;(with_reducible refine(SB.out _ B3.out).mono ?_);rintro e w4 ⟨a3,n3,c3,rfl,hi3,hb4⟩;have B3:=Lib.hid ((B3.out.go hb4).alloc (.cells #[.slice a3 n3 c3] 49));clear hb4 hi3 q0 q1 q2 q3;have q0:=B3.out.now.c.1;have q1:=B3.out.now.c.2.1;have q2:=B3.out.now.c.2.2.1;have q3:=B3.out.now.c.2.2.2;go_wp2_with fail;go_at_call 251;(with_reducible refine(SB2.out _ B3.out).mono ?_);rintro e w4 ⟨a3,n3,c3,rfl,hi3,hb4⟩;have B4:=Lib.hid (((B3.out.go hb4).nat hi3).box (.slice a3 n3 c3) 49);have hk4:w.heap.size+1+1<w4.heap.size:=RS.lt (B3.out.go hb4).now.1;clear hb4 hi3 q0 q1 q2 q3;have q0:=B4.out.now.2.2.c.1;have q1:=B4.out.now.2.2.c.2.1;have q2:=B4.out.now.2.2.c.2.2.1;have q3:=B4.out.now.2.2.c.2.2.2;have q4:=B4.out.now.1.cell;go_wp2_with fail
 go_region_held3 (fun y => (y.cell? ⟨w.heap.size, 0, none⟩ = some (.slice a n c) /\ y.cell? ⟨w.heap.size, 1, none⟩ = some (.bool m) /\ y.cell? ⟨w.heap.size + 1, 0, none⟩ = some (.slice a2 n2 c2) /\ y.cell? ⟨w.heap.size + 1, 1, none⟩ = some (.bool m2)) /\ y.cell? ⟨w4.heap.size, 0, none⟩ = some (.slice a3 n3 c3) /\ Bag w (fun y => Slot y w4.heap.size (.slice a3 n3 c3) /\ NatIs y (.agg #[.slice a3 n3 c3]) (Y.natAbs - Z.natAbs) /\ PO w.heap.size a n c m Z a2 n2 c2 m2 Y y) y)
  (first|(have B9:=B4.out.drew;exact⟨B9.now.2.2.c,B9.now.1.cell,B9⟩)|(have B9:=Bag.go (by go_split_ands;assumption) hb2;exact⟨B9.now.2.2.c,B9.now.1.cell,B9⟩)|(exact⟨B8.out.now.2.2.c,B8.out.now.1.cell,B8.out⟩))
  (first
    | (go_at_call 173;(with_reducible refine(N2.out _ ?_).mono ?_);(have B6:=(show Bag w (fun y=>Slot y w4.heap.size (.slice a3 n3 c3)/\NatIs y (.agg #[.slice a3 n3 c3]) (Y.natAbs-Z.natAbs)/\PO w.heap.size a n c m Z a2 n2 c2 m2 Y y) _ from by go_split_ands;assumption);exact⟨B6.below,PO.stay,B6.now.2.2⟩);rintro e w2 ⟨rfl,hb2⟩)
    | (go_at_call 116;(with_reducible refine(OF.out a3 n3 c3 _ ?_).mono ?_);(have B6:=(show Bag w (fun y=>Slot y w4.heap.size (.slice a3 n3 c3)/\NatIs y (.agg #[.slice a3 n3 c3]) (Y.natAbs-Z.natAbs)/\PO w.heap.size a n c m Z a2 n2 c2 m2 Y y) _ from by go_split_ands;assumption);exact B6.now.2.1);rintro e w2 ⟨a4,n4,c4,m4,rfl,hi4,hb2⟩;have B7:=Bag.go (show Bag w (fun y=>Slot y w4.heap.size (.slice a3 n3 c3)/\NatIs y (.agg #[.slice a3 n3 c3]) (Y.natAbs-Z.natAbs)/\PO w.heap.size a n c m Z a2 n2 c2 m2 Y y) _ from by go_split_ands;assumption) hb2;obtain⟨x8,b8,hs8,_⟩:=B7.now.2.2.1;have hc1:=hs8.cell;have hc2:=hs8.cell1;have hf1:=hs8.free;have hf2:=hs8.free1;clear hs8;have HS:=B7.now.2.2.1.cells a4 n4 c4 m4;have HE:=Lib.hid (IntTold.fin B7.below (by omega) B7.now.2.2.1 hi4);have B8:=Lib.hid (B7.put (by omega) (a:=a4) (n:=n4) (c:=c4) (b:=m4) (fun h=>⟨h.1.put (by omega) _ _ _ _,h.2.1.put h.2.2.1 _ _ _ _,h.2.2.put _ _ _ _⟩));unfold putI at HS;clear B7))
 go_wp2;exact bodyPost_ret (by simp[results,Tryz.results250,go_sem,HS]) rfl HE.out
theorem plusOne_any (a : Option Addr) (n c : Nat) (m : Bool) (Z : Int) (a2 : Option Addr) (n2 c2 : Nat) (m2 : Bool) (Y : Int) (w : World) (h : IntAt w a n c m Z) (g : IntAt w a2 n2 c2 m2 Y)
    (k:Nat) (hk:k<=900000) (hZ:Z.natAbs<4294967296^k) (hY:Y.natAbs<4294967296^k) :
    Calls Tryz.prog 250 #[.agg #[.slice a n c,.bool m],.agg #[.slice a2 n2 c2,.bool m2]] w fun e w'=>IntTold w w' e (Z+Y):=by
 by_cases hmm:m=m2
 · exact plusOne_same a n c m Z a2 n2 c2 m2 Y w h g k hk hZ hY hmm
 · rcases Nat.lt_or_ge Z.natAbs Y.natAbs with hl|hl
   · exact plusOne_more a n c m Z a2 n2 c2 m2 Y w h g hmm hl
   · exact plusOne_less a n c m Z a2 n2 c2 m2 Y w h g hmm hl
end Go.Proofs.YtdmmenaejkpnjaaGreatDoor
namespace Go.Proofs.YtdmmenaejkpnjaaGreatDoor
open Go.RowKit
def IntsAt(w:World)(sa:Option Addr)(n c:Nat)(f:Nat->Int):Prop:=n<=c/\n<=1000/\(n=0∨∃b off,sa=some ⟨b,off,none⟩/\b<w.heap.size /\
 ∀j,j<n->∃a' n' c' m',w.cell? ⟨b,off+j*2,none⟩=some (.slice a' n' c')/\w.cell? ⟨b,off+j*2+1,none⟩=some (.bool m')/\IntAt w a' n' c' m' (f j))
theorem IntsAt.below{w w':World}{sa:Option Addr}{n c:Nat}{f:Nat->Int}(h:IntsAt w sa n c f)(hb:Below w.heap.size w w'):IntsAt w' sa n c f:=by
 obtain⟨h0,h1,h2⟩:=h;refine⟨h0,h1,?_⟩
 rcases h2 with h2|⟨b,off,rfl,hl,hc⟩
 · exact .inl h2
 · refine .inr ⟨b,off,rfl,Nat.lt_of_lt_of_le hl hb.size,fun j hj => ?_⟩;obtain⟨a',n',c',m',e1,e2,e3⟩:=hc j hj;exact⟨a',n',c',m',(hb.cell (p:=⟨b,_,none⟩) hl).trans e1,(hb.cell (p:=⟨b,_,none⟩) hl).trans e2,e3.below hb⟩
theorem IntsAt.get {w : World} {sa : Option Addr} {n c : Nat} {f : Nat -> Int} (h : IntsAt w sa n c f) {j : Nat} (hj : j < n) :
    ∃b off a' n' c' m',sa=some ⟨b,off,none⟩/\b<w.heap.size/\w.cell? ⟨b,off+j*2,none⟩=some (.slice a' n' c')/\w.cell? ⟨b,off+j*2+1,none⟩=some (.bool m')/\IntAt w a' n' c' m' (f j):=by
 obtain⟨h0,h1,h2⟩:=h
 rcases h2 with h2|⟨b,off,rfl,hl,hc⟩
 · omega
 · obtain⟨a',n',c',m',e⟩:=hc j hj;exact⟨b,off,a',n',c',m',rfl,hl,e⟩
def psum(Z:Int)(f:Nat->Int):Nat->Int
 | 0=>Z
 | k+1=>psum Z f k+f k
def asum(f:Nat->Int):Nat->Nat
 | 0=>0
 | k+1=>asum f k+(f k).natAbs
theorem asum_mono(f:Nat->Int){k n:Nat}(h:k<=n):asum f k<=asum f n:=by
 induction n with
 | zero => obtain rfl : k = 0 := by omega
           exact Nat.le_refl _
 | succ n ih =>
  rcases Nat.lt_or_ge k (n+1)with h1|h1
  · have:=ih (by omega);rw[asum];omega
  · obtain rfl:k=n+1:=by omega
    exact Nat.le_refl _
theorem psum_abs(Z:Int)(f:Nat->Int):∀k,(psum Z f k).natAbs<=Z.natAbs+asum f k
 | 0=>by simp[psum,asum]
 | k+1=>by have:=psum_abs Z f k;rw[psum,asum];omega
theorem asum_get(f:Nat->Int){k n:Nat}(h:k<n):(f k).natAbs<=asum f n:=by
 have:=asum_mono f (show k+1<=n from h);rw[asum]at this;omega
def PL(w wr:World)(V:Int):Prop:=Below w.heap.size w wr/\RS wr (w.heap.size+1)/\∃a n c m,Slot2 wr (w.heap.size+1+1) (.slice a n c) (.bool m)/\IntAt wr a n c m V
theorem plus_any (a : Option Addr) (n c : Nat) (m : Bool) (Z : Int) (sa : Option Addr) (ln lc : Nat) (f : Nat -> Int) (w : World) (h : IntAt w a n c m Z) (g : IntsAt w sa ln lc f)
    (K:Nat) (hK:K<=900000) (hb:Z.natAbs+asum f ln<4294967296^K) :
    Calls Tryz.prog 228 #[.agg #[.slice a n c,.bool m],.slice sa ln lc] w fun e w'=>IntTold w w' e (psum Z f ln):=by
 have B0:=(((((Bag.start w).int h).box2 (.slice a n c) (.bool m) 51).box2 (.slice none 0 0) (.bool false) 51)).box2 (.slice a n c) (.bool m) 51;simp only[World.size_alloc]at B0;have H0:Hid (PL w _ (psum Z f 0)):=⟨B0.below,B0.now.2.1.rs,a,n,c,m,B0.now.1,B0.now.2.2.2.1⟩
 have q0:=B0.now.2.2.1.cell;have q1:=B0.now.2.2.1.cell1;have HG:=Lib.hid g;have hln:ln<=1000/\ln<=lc:=⟨g.2.1,g.1⟩
 have HB:Hid (∀k,k<ln->(psum Z f k).natAbs<4294967296^K/\(f k).natAbs<4294967296^K):=fun k hk=>by
  have h1:=psum_abs Z f k;have h2:=asum_mono f (Nat.le_of_lt hk);have h3:=asum_get f hk;exact⟨by omega,by omega⟩
 clear B0 h g hb;go_enter Tryz.func228,Tryz.ntmps228;go_wp2
 go_loopw [11] (fun i wr=>∃k:Nat,k<=ln/\i=.int .i64 k/\PL w wr (psum Z f k)) (fun i _=>ln-(intOf i).toNat)
 case atStart=>exact⟨0,by omega,rfl,H0.out⟩
 case round =>
  obtain⟨k,hk,rfl,hr⟩:=hrel
  by_cases hlt:k<ln
  · obtain⟨hbl,hrs,a3,n3,c3,m3,hs3,hi3⟩:=hr;obtain⟨b,off,a',n',c',m',rfl,hlb,e1,e2,hi'⟩:=(HG.out.below hbl).get hlt;have B1:=((((Bag.start wr).int hi3).int hi').slot2 hs3).box2 (.slice a' n' c') (.bool m') 51;have HBK:=HB.out k hlt;have PO1:=Lib.hid (plusOne_any a3 n3 c3 m3 (psum Z f k) a' n' c' m' (f k) _ B1.now.2.2.2.1 B1.now.2.2.1 K hK HBK.1 HBK.2);have HBL:=Lib.hid hbl;have HRS:=Lib.hid hrs;have p0:=B1.now.2.1.cell;have p1:=B1.now.2.1.cell1;have BB:=Lib.hid B1;have hwr:w.heap.size<=wr.heap.size:=hbl.size;clear hbl hrs hi3 hi' B1 HBK hs3 q0 q1;go_wp2_with fail;go_at_call 250;(with_reducible refine PO1.out.mono ?_);rintro e w4 ⟨a5,n5,c5,m5,rfl,hi5,hb5⟩;have B5:=BB.out.go hb5;have hs5:=B5.now.2.1;have hc1:=hs5.cell;have hc2:=hs5.cell1;have hf1:=hs5.free;have hf2:=hs5.free1;have hb6:=HBL.out.trans (B5.below.mono hwr)
    have HN:Hid (PL w (putI w4 (w.heap.size+1+1) a5 n5 c5 m5) (psum Z f (k+1))):=by
     refine⟨(hb6.setCell (show w.heap.size<=w.heap.size+1+1 by omega) _).setCell (show w.heap.size<=w.heap.size+1+1 by omega) _,?_,a5,n5,c5,m5,?_,hi5.put hs5.rs _ _ _ _⟩
     · exact(HRS.out.below B5.below).put _ _ _ _
     · have:=hs5.set (.slice a5 n5 c5) (.bool m5);exact⟨this.1,this.2,by simp[putI,hs5.free],by simp[putI,hs5.free1],by simpa[putI]using hs5.lt⟩
    unfold putI at HN;clear hb5 hi5 B5 hs5 hb6 p0 p1;go_wp2
    go_roundw
    case rel=>exact⟨k+1,by omega,by go_num,HN.out⟩
    case measure=>simp[intOf];omega
  · obtain rfl:k=ln:=by omega
    obtain⟨hbl,hrs,a3,n3,c3,m3,hs3,hi3⟩:=hr;have HE:=Lib.hid (IntTold.fin hbl (by omega) hrs hi3);have HS:=hrs.cells a3 n3 c3 m3;unfold putI at HS;have p0:=hs3.cell;have p1:=hs3.cell1;obtain⟨x8,b8,hs8,_⟩:=hrs;have hc1:=hs8.cell;have hc2:=hs8.cell1;have hf1:=hs8.free;have hf2:=hs8.free1;clear hs8 hs3 hi3 hbl q0 q1;go_wp2;exact bodyPost_ret (by simp[results,Tryz.results228,go_sem,HS]) rfl HE.out
end Go.Proofs.YtdmmenaejkpnjaaGreatDoor
namespace Go.Proofs.YtdmmenaejkpnjaaGreatDoor
open Go.RowKit
attribute [local go_sem ↓] Go.wp_at_zero Go.wp_at_succ
def flA(Z Y:Int):Bool:=decide (Z<0) != decide (Y<0)
def flU(Z Y:Int):Bool:=flA Z Y && !decide (Z.natAbs%Y.natAbs=0)
def flQ(Z Y:Int):Int:=sgn (flA Z Y) (if flU Z Y then Z.natAbs / Y.natAbs+1 else Z.natAbs / Y.natAbs)
def flR(Z Y:Int):Int:=sgn (decide (Y<0)) (if flU Z Y then Y.natAbs-Z.natAbs%Y.natAbs else Z.natAbs%Y.natAbs)
def FP(k:Nat)(a:Option Addr)(n c:Nat)(m:Bool)(Z:Int)(a2:Option Addr)(n2 c2:Nat)(m2:Bool)(Y:Int)(y:World):Prop :=
 RS y (k+1+1)/\RS y (k+1+1+1)/\Slot2 y (k+1) (.slice a2 n2 c2) (.bool m2)/\Slot2 y k (.slice a n c) (.bool m)/\IntAt y a2 n2 c2 m2 Y/\IntAt y a n c m Z
theorem FP.stay{k:Nat}{a:Option Addr}{n c:Nat}{m:Bool}{Z:Int}{a2:Option Addr}{n2 c2:Nat}{m2:Bool}{Y:Int}:∀x y,Below x.heap.size x y->FP k a n c m Z a2 n2 c2 m2 Y x->FP k a n c m Z a2 n2 c2 m2 Y y :=
 fun _ _ hb h=>⟨h.1.below hb,h.2.1.below hb,h.2.2.1.below hb,h.2.2.2.1.below hb,h.2.2.2.2.1.below hb,h.2.2.2.2.2.below hb⟩
theorem FP.start {w : World} {a : Option Addr} {n c : Nat} {m : Bool} {Z : Int} {a2 : Option Addr} {n2 c2 : Nat} {m2 : Bool} {Y : Int} (h : IntAt w a n c m Z) (g : IntAt w a2 n2 c2 m2 Y) :
    Bag w (FP w.heap.size a n c m Z a2 n2 c2 m2 Y) ((((w.alloc (.cells #[.slice a n c,.bool m] 51)).alloc (.cells #[.slice a2 n2 c2,.bool m2] 51)).alloc (.cells #[.slice none 0 0,.bool false] 51)).alloc (.cells #[.slice none 0 0,.bool false] 51)):=by
 have B0:=((((((Bag.start w).int h).int g).box2 (.slice a n c) (.bool m) 51).box2 (.slice a2 n2 c2) (.bool m2) 51).box2 (.slice none 0 0) (.bool false) 51).box2 (.slice none 0 0) (.bool false) 51;simp only[World.size_alloc]at B0;exact⟨B0.below,FP.stay,B0.now.2.1.rs,B0.now.1.rs,B0.now.2.2.1,B0.now.2.2.2.1,B0.now.2.2.2.2.1,B0.now.2.2.2.2.2.1⟩
theorem FP.put{k j:Nat}{a:Option Addr}{n c:Nat}{m:Bool}{Z:Int}{a2:Option Addr}{n2 c2:Nat}{m2:Bool}{Y:Int}{y:World}(h:FP k a n c m Z a2 n2 c2 m2 Y y)(hj:RS y j)(h1:k≠j)(h2:k+1≠j)(a3:Option Addr)(n3 c3:Nat)(b:Bool):FP k a n c m Z a2 n2 c2 m2 Y (putI y j a3 n3 c3 b) :=
 ⟨h.1.put _ _ _ _,h.2.1.put _ _ _ _,h.2.2.1.put h2 _ _ _ _,h.2.2.2.1.put h1 _ _ _ _,h.2.2.2.2.1.put hj _ _ _ _,h.2.2.2.2.2.put hj _ _ _ _⟩
def DivOf3(w w':World)(e:Ending)(N M:Nat)(b:Bool):Prop:=∃a n c a2 n2 c2,e=.returned (.tuple #[.agg #[.slice a n c],.agg #[.slice a2 n2 c2],.bool b])/\NatIs w' (.agg #[.slice a n c]) N/\NatIs w' (.agg #[.slice a2 n2 c2]) M/\Below w.heap.size w w'
theorem DivOut.three{w w':World}{e:Ending}{N M:Nat}{b:Bool}(h:DivOut w w' e N M)(hb:decide (M≠0)=b):DivOf3 w w' e (N / M) (modz N M) b:=by
 obtain⟨v,u,h1,⟨a,n,c,f,h2,h3,h4,h5⟩,⟨a',n',c',f',h2',h3',h4',h5'⟩,h6⟩:=h;exact⟨a,n,c,a',n',c',by rw[h1,h2,h2',hb],⟨a,n,c,f,rfl,h3,h4,h5⟩,⟨a',n',c',f',rfl,h3',h4',h5'⟩,h6⟩
def FloorTold(w w':World)(e:Ending)(Q R:Int):Prop:=∃a n c m a2 n2 c2 m2,e=.returned (.tuple #[.agg #[.slice a n c,.bool m],.agg #[.slice a2 n2 c2,.bool m2],.bool true])/\IntAt w' a n c m Q/\IntAt w' a2 n2 c2 m2 R/\Below w.heap.size w w'
end Go.Proofs.YtdmmenaejkpnjaaGreatDoor
