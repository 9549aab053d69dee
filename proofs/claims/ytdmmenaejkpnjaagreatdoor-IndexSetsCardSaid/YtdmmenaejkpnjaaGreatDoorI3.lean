/-
  Texts of this seat, laid together.
-/
import Derived.BigRegion
import Derived.RegionTactic
import Derived.Deep.RegionWith
import Derived.Deep.RegionHeld3
import Derived.Deep.DrawnRows
import Derived.IntWalk
import Derived.Laws.BitsLemmas
import Derived.Deep.MidRow
import Derived.Lib.SliceRun
import Derived.Lib.Walk
import Derived.Deep.AppendLies
import Derived.Deep.RegionLaw
import Derived.Deep.QuietTactic
import Derived.BigQuiet
import Derived.Test.YtdmmenaejkpnjaaGreatDoorI2
set_option maxHeartbeats 12800000
set_option maxRecDepth 100000
set_option linter.unusedSimpArgs false
set_option linter.unusedVariables false
namespace Go.Proofs.YtdmmenaejkpnjaaGreatDoor
open Go.RowKit
theorem ret_str{s t:ByteArray}(h:s=t):Ending.returned (.string s)=.returned (.string t):=by rw[h]
theorem extract_cons(x:UInt8)(l:List UInt8):(str (x::l)).extract 1 (str (x::l)).size=str l:=by
 refine str_of ?_;rw[Lib.extract_data]
 simp[str,ByteArray.size]
theorem dec_of_top{N k:Nat}(h:N<10^k)(h2:k=1∨(1<=k/\¬dgt N (k-1)=48)):sdig N k=dec N:=by
 have:dl N=k:=by
  rcases h2 with rfl|⟨h1,h2⟩
  · have:=dl_le N 1 (by omega) h;have:=dl_pos N;omega
  · refine Nat.le_antisymm (dl_le N k h1 h) ?_
    have:10^(k-1)<=N:=by
     rcases Nat.lt_or_ge N (10^(k-1))with h3|h3
     · exact absurd (by rw[dgt_zero,Nat.div_eq_of_lt h3]) h2
     · exact h3
    have:=dl_ge this;omega
 unfold dec;rw[this]
theorem trim_any(N n:Nat)(w:World)(hn:0<n)(hN:N<10^n)(hl:n<=10000000):Calls Tryz.prog 111 #[.string (str (sdig N n))] w fun e w'=>e=.returned (.string (str (dec N)))/\w=w':=by
 have H0:Hid (str (sdig N n)=str (sdig N n)/\(str (sdig N n)).size=n/\N<10^n/\0<n/\n<=10000000):=⟨rfl,by rw[str_size,sdig_length],hN,hn,hl⟩
 obtain⟨s0,hs0⟩:∃s0,str (sdig N n)=s0:=⟨_,rfl⟩
 rw[hs0];have H0':Hid (s0=str (sdig N n)/\s0.size=n/\N<10^n/\0<n/\n<=10000000):=by rw[← hs0];exact H0
 clear H0 hs0 hn hN hl;go_enter Tryz.func111,Tryz.ntmps111;go_wp2
 go_loop [0] (fun s=>∃(k:Nat) (t:ByteArray),s=.string t/\Hid (t=str (sdig N k)/\t.size=k/\N<10^k/\0<k/\k<=10000000))
  (fun s=>match s with | .string t=>t.size|_=>0)
 case atStart=>exact⟨n,s0,rfl,H0'.out⟩
 case round =>
  obtain⟨k,t,rfl,hr⟩:=hrel;obtain⟨ht,hk,hNk,hk0,hkl⟩:=hr.out;have hz:0<t.size:=by omega
  obtain⟨c,hc⟩:∃c,t[0]=c:=⟨_,rfl⟩
  have hcd:c=dgt N (k-1):=by
   obtain⟨m,rfl⟩:∃m,k=m+1:=⟨k-1,by omega⟩
   subst ht;rw[← hc];rfl
  have HCD:=Lib.hid hcd;have HK:=Lib.hid hk
  by_cases h1:1<t.size
  · have d1 : decide ((1 : Int) < (t.size : Int)) = true := decide_eq_true (by omega)
    by_cases h2:c=48
    · have d2 : ((c.toNat : Int) == 48) = true := by rw [h2]; rfl
      obtain⟨t',htt⟩:∃t',t.extract 1 t.size=t':=⟨_,rfl⟩
      have hnx:Hid (t'=str (sdig N (k-1))/\t'.size=k-1/\N<10^(k-1)/\0<k-1/\k-1<=10000000):=by
       obtain⟨m,rfl⟩:∃m,k=m+1:=⟨k-1,by omega⟩
       have e:t'=str (sdig N m):=by rw[← htt,ht];exact extract_cons _ _
       have hlt:N<10^m:=by
        rw[hcd,Nat.add_sub_cancel,dgt_zero]at h2
        rcases Nat.lt_or_ge N (10^m)with h3|h3
        · exact h3
        · have h4:=Nat.div_pos h3 (Nat.pow_pos (by omega));have h5:N / 10^m<10:=by rw[Nat.div_lt_iff_lt_mul (Nat.pow_pos (by omega))];rw[Nat.pow_succ]at hNk;omega
          omega
       exact⟨e,by rw[e,str_size,sdig_length];rfl,hlt,by omega,by omega⟩
      have hsz:t'.size<t.size:=by have:=hnx.out.2.1;omega
      clear hr ht hk hNk hcd h2;go_wp2
      go_round
      case rel=>exact⟨k-1,t',rfl,hnx.out⟩
      case measure=>simpa using hsz
    · have d2:((c.toNat:Int)==48)=false:=by
        rw[beq_eq_false_iff_ne];intro h;apply h2;rw[← UInt8.toNat_inj]
        show c.toNat=48
        omega
      have hE:Hid (str (dec N)=t):=by show _=_;rw[ht,dec_of_top hNk (.inr ⟨hk0,by rw[← hcd];exact h2⟩)]
      clear hr ht hk hNk hcd h2;go_wp2;go_ret;exact⟨ret_str hE.out.symm,rfl⟩
  · have d1:decide ((1:Int)<(t.size:Int))=false:=decide_eq_false (by omega);have hE:Hid (str (dec N)=t):=by show _=_;rw[ht,dec_of_top hNk (.inl (by omega))]
    clear hr ht hk hNk hcd;go_wp2;go_ret;exact⟨ret_str hE.out.symm,rfl⟩
theorem infoI:(Tryz.prog.info? 3).map (fun i=>(i.zero,i.size,i.bytes))=some (some (.int .i64 0),1,8):=by kernel_rfl
theorem make_bytes(m:Nat)(hm:m<=10000000):∃z:Array Value,z.size=m /\
    ∀w:World,(Instr.makeSlice 175 (.int .i64 0) (.int .i64 m)).run Tryz.prog w=.ok (.slice (some ⟨w.heap.size,0,none⟩) 0 m) (w.alloc (.cells z 5)):=by
 obtain⟨i0,hi,hz0,hz1,hz2⟩:=info_parts infoB;refine⟨madeCells (Value.cells (.int .u8 0)) m,size_madeCells _ _,fun w => ?_⟩;have hmk:=run_make (P:=Tryz.prog) w 175 5 i0 (.int .u8 0) Tryz.underlying175 hi hz0 .i64 .i64 0 m (by omega) (by omega) (by rw[hz2];omega) (by omega);simp only[Int.toNat_natCast,hz1,Nat.mul_one,Int.toNat_zero]at hmk;exact hmk
def d10(N j:Nat):Nat:=N / 10^j%10
theorem dg_d10(N j:Nat):dg N j=48+d10 N j:=rfl
structure WrI(w wr:World)(base N n:Nat)(V:Value)(k:Nat):Prop where
 below:Below base w wr
 own:OwnL wr base 5 .u8 V k (fun j=>dg N (n-1-j))
theorem written_any (a : Option Addr) (n c : Nat) (f : Nat -> Nat) (N : Nat) (w : World) (hs : SlAt w .i64 10 a n c f) (hf : ∀ j, j < n -> f j = d10 N j) (hN : N < 10 ^ n) :
    Calls Tryz.prog 218 #[.slice a n c] w fun e w'=>e=.returned (.string (str (dec N)))/\Below w.heap.size w w':=by
 obtain⟨i0,hi,hz0,hz1,hz2⟩:=info_parts infoB;have hnl:n<=1000000:=hs.2.1;obtain⟨m,hm⟩:∃m,n+1=m:=⟨_,rfl⟩
 have em:(n:Int)+1=(m:Int):=by omega
 obtain⟨z,hz,hmk⟩:=make_bytes m (by omega)
 have H0:WrI w (w.alloc (.cells z 5)) w.heap.size N n (.slice (some ⟨w.heap.size,0,none⟩) 0 m) 0 :=
  ⟨(Below.refl _ _).alloc (Nat.le_refl _) _,World.ownsRow_made w z m (Nat.le_refl _) (by unfold maxLen;omega) (by omega)⟩
 have HS:=Lib.hid hs;have HF:=Lib.hid hf;have HN:=Lib.hid hN;have HI:=Lib.hid hi;have H0':=Lib.hid H0;clear hs hf hN hi H0 hz hm;go_enter Tryz.func218,Tryz.ntmps218;go_wp2
 go_loopw [3,4] (fun D i wr=>∃(k:Nat) (ii:Int) (V:Value),k<=n/\i=.int .i64 ii/\ii=(n:Int)-1-(k:Int)/\V=D/\WrI w wr w.heap.size N n V k)
  (fun _ i _=>(intOf i+1).toNat)
 case atStart=>exact⟨0,_,_,by omega,rfl,by omega,rfl,H0'.out⟩
 case round =>
  obtain⟨k,ii,V,hk,rfl,hii,rfl,hr⟩:=hrel
  by_cases hlt:k<n
  · obtain ⟨t, rfl⟩ : ∃ t : Nat, ii = (t : Int) := ⟨ii.toNat, by omega⟩
    have htn:n-1-k=t:=by omega
    obtain⟨b,off,rfl,hb,hcc⟩:=HS.out.at (show 0<n by omega)
    have hct:=(hr.below.cell (p:=⟨b,off+t,none⟩) hb).trans (hcc t (by omega));have hft:=HF.out t (by omega);rw[hft]at hct;have hxl:d10 N t<10:=Nat.mod_lt _ (by omega);obtain⟨x,hx⟩:∃x,d10 N t=x:=⟨_,rfl⟩
    rw[hx]at hct hxl;obtain⟨y,hy⟩:∃y,48+x=y:=⟨_,rfl⟩
    have e2:(48:Int)+(x:Int)=(y:Int):=by omega
    have e3:(y:Int)%256=(y:Int):=by omega
    have hyd:y=dg N (n-1-k):=by rw[htn,dg_d10,hx,hy]
    have HYD:=Lib.hid hyd;have HR:=Lib.hid hr;have HII:=Lib.hid hii;have ht0:(0:Int)<=(t:Int):=by omega
    have ht1:(t:Int)<(n:Int):=by omega
    have hzr:w.heap.size<=wr.heap.size:=hr.below.size;clear hr hcc hft hx hy hyd htn hii
    go_wp2_with (at_builtin;refine wpList_append_own _ rfl _ _ 175 rfl w.heap.size 5 i0 (.int .u8 0) 1 1 Tryz.underlying175 HI.out hz0 hz1 hz2 rfl (by decide) _ _ _ rfl (World.ownsRow.alloc HR.out.own _) ⟨wr.heap.size,0,none⟩ 1 1 [.int .u8 y] rfl rfl ?c1 ?c2 ?c3 ?c4 ?c5 ?_)
    case c1 =>
     intro j u hj
     match j,hj with
     | 0,hj=>simp at hj;subst hj;simp[Addr.add]
    case c2=>intro u hu;simp at hu;subst hu;rfl
    case c3=>unfold maxLen;omega
    case c4=>omega
    case c5=>rw[World.size_alloc];omega
    · intro v' w5 hown' hgrow _;have hb5:Below w.heap.size w w5:=(HR.out.below.alloc hzr _).grown hgrow (by rw[World.size_alloc];omega) (fun q hq=>(World.ownsRow.lt HR.out.own q hq).1)
      have hown2:OwnL w5 w.heap.size 5 .u8 v' (k+1) (fun j=>dg N (n-1-j)):=by
       rw[cl_snoc,cl_congr (g:=fun j=>dg N (n-1-j)) (fun j hj=>by
        by_cases e:j=k
        · rw[if_pos e,HYD.out,e]
        · rw[if_neg e])]at hown'
       exact hown'
      have HG5:=Lib.hid (show WrI w w5 w.heap.size N n v' (k+1)from⟨hb5,hown2⟩);clear hown' hgrow hb5 hown2;go_wp2
      go_roundw
      case rel =>
       have:=HII.out;exact⟨k+1,(t:Int)-1,v',by omega,rfl,by omega,rfl,HG5.out⟩
      case measure=>simp[intOf]
  · obtain rfl : k = n := by omega
    have d1:decide ((0:Int)<=ii)=false:=decide_eq_false (by omega);have hii2:¬(0:Int)<=ii:=by omega
    have hbl:=hr.below
    rcases hr.own.cases with ⟨hV,hk0⟩|⟨g,c2,rfl,hc2,hgb,hgl,hgc,hgf⟩
    · subst hk0;have h0:N=0:=by have:=HN.out;simp at this;omega
      subst h0;subst hV;have HB:=Lib.hid hbl;clear hr hbl hii;go_wp2;go_ret;exact⟨by rw[dec_zero];rfl,HB.out⟩
    · by_cases hk0 : k = 0
      · subst hk0;have h0:N=0:=by have:=HN.out;simp at this;omega
        subst h0;have HB:=Lib.hid hbl;clear hr hbl hii hgc hgf;go_wp2;go_ret;exact⟨by rw[dec_zero];rfl,HB.out⟩
      · have d2:((k:Int)==0)=false:=by rw[beq_eq_false_iff_ne];omega
        have hcv:=run_convert_bytes_arg (P:=Tryz.prog) (w:=wr) 175 5 Tryz.underlying175 Tryz.underlying5 g 0 k c2 ((List.range k).map fun j=>((dg N (k-1-j):Nat):Int)) (by simp) (fun j hj=>by rw[hgc j hj];simp[hj]) 9 Tryz.underlying9
        have hst:strOfNums ((List.range k).map fun j=>((dg N (k-1-j):Nat):Int))=str (sdig N k):=by
         refine str_of ?_;rw[strOfNums_data]
         apply List.ext_getElem?
         intro j
         by_cases hj:j<k
         · rw[sdig_get N k j hj,List.getElem?_map,List.getElem?_map,List.getElem?_range hj];simp only[Option.map_some];rw[Int.toNat_natCast];rfl
         · rw[List.getElem?_eq_none (by simp;omega),List.getElem?_eq_none (by rw[sdig_length];omega)]
        rw[hst]at hcv;have HT:=Lib.hid (trim_any N k wr (by omega) HN.out (by omega));have HB:=Lib.hid hbl;clear hr hbl hii hgc hgf hst;go_wp2_with fail;go_at_call 111;refine HT.out.mono ?_;rintro e w7 ⟨rfl,rfl⟩;clear hcv;go_wp2;go_ret;exact⟨rfl,HB.out⟩
structure OfI(w wr:World)(X:Nat)(V:Value)(k:Nat):Prop where
 below:Below w.heap.size w wr
 own:OwnL wr w.heap.size 3 .i64 V k (d10 X)
theorem rof_any(X:Nat)(w:World)(hX:X<18446744073709551616):Calls Tryz.prog 174 #[.int .u64 X] w fun e w'=>e=.returned (.string (str (dec X)))/\Below w.heap.size w w':=by
 obtain⟨i0,hi,hz0,hz1,hz2⟩:=info_parts infoI
 by_cases h0:X=0
 · subst h0;go_enter Tryz.func174,Tryz.ntmps174;go_wp2;go_ret;exact⟨by rw[dec_zero];rfl,Below.refl _ _⟩
 have HX:Hid (X<10^20):=by show _<_;omega
 have H0:OfI w w X (.slice none 0 0) 0:=⟨Below.refl _ _,World.ownsRow_nil _ _ _ _⟩
 have d0:((X:Int)==0)=false:=by rw[beq_eq_false_iff_ne];omega
 have HI:=Lib.hid hi;have HXL:=Lib.hid hX;clear hi;go_enter Tryz.func174,Tryz.ntmps174;go_wp2
 go_loopw [0,3,4] (fun x D i wr=>∃(k y:Nat) (V:Value),k<=20/\i=.int .i64 k/\x=.int .u64 y/\Hid (y=X / 10^k)/\y<18446744073709551616/\V=D/\OfI w wr X V k)
  (fun _ _ i _=>20-(intOf i).toNat)
 case atStart=>exact⟨0,X,_,by omega,rfl,rfl,(by show _=_;simp),hX,rfl,H0⟩
 case round =>
  obtain⟨k,y,V,hk,rfl,rfl,hy,hyl,rfl,hr⟩:=hrel
  by_cases hlt:k<20/\0<y
  · obtain ⟨hlt, hy0⟩ := hlt; obtain ⟨x, hx⟩ : ∃ x, y % 10 = x := ⟨_, rfl⟩
    obtain⟨y',hy'⟩:∃y',y / 10=y':=⟨_,rfl⟩
    have e1:(y:Int)%10=(x:Int):=by omega
    have e2:(y:Int) / 10=(y':Int):=by omega
    have hxd:x=d10 X k:=by unfold d10;rw[← hx,hy.out]
    have hyn:Hid (y'=X / 10^(k+1)):=by show _=_;rw[← hy',hy.out,Nat.div_div_eq_div_mul,← Nat.pow_succ]
    have HXD:=Lib.hid hxd;have HR:=Lib.hid hr;have hxl:x<10:=by omega
    have hyl':y'<18446744073709551616:=by omega
    have hzr:w.heap.size<=wr.heap.size:=hr.below.size;have d1:decide ((0:Int)<(y:Int))=true:=decide_eq_true (by omega);clear hr hx hy' hxd hy
    go_wp2_with (at_builtin;refine wpList_append_own _ rfl _ _ 22 rfl w.heap.size 3 i0 (.int .i64 0) 1 8 Tryz.underlying22 HI.out hz0 hz1 hz2 rfl (by decide) _ _ _ rfl (World.ownsRow.alloc HR.out.own _) ⟨wr.heap.size,0,none⟩ 1 1 [.int .i64 x] rfl rfl ?c1 ?c2 ?c3 ?c4 ?c5 ?_)
    case c1 =>
     intro j u hj
     match j,hj with
     | 0,hj=>simp at hj;subst hj;simp[Addr.add]
    case c2=>intro u hu;simp at hu;subst hu;rfl
    case c3=>unfold maxLen;omega
    case c4=>omega
    case c5=>rw[World.size_alloc];omega
    · intro v' w5 hown' hgrow _;have hb5:Below w.heap.size w w5:=(HR.out.below.alloc hzr _).grown hgrow (by rw[World.size_alloc];omega) (fun q hq=>(World.ownsRow.lt HR.out.own q hq).1)
      have hown2:OwnL w5 w.heap.size 3 .i64 v' (k+1) (d10 X):=by
       rw[cl_snoc,cl_congr (g:=d10 X) (fun j hj=>by
        by_cases e:j=k
        · rw[if_pos e,HXD.out,e]
        · rw[if_neg e])]at hown'
       exact hown'
      have HG5:=Lib.hid (show OfI w w5 X v' (k+1)from⟨hb5,hown2⟩);clear hown' hgrow hb5 hown2;go_wp2
      go_roundw
      case rel=>exact⟨k+1,y',v',by omega,by go_num,rfl,hyn,hyl',rfl,HG5.out⟩
      case measure=>simp[intOf];omega
  · have hlow:X<10^k:=by
      by_cases hk20:k=20
      · subst hk20;exact HX.out
      · have:X / 10^k=0:=by have:=hy.out;omega
        rcases Nat.lt_or_ge X (10^k)with h|h
        · exact h
        · have:=Nat.div_pos h (Nat.pow_pos (show 0<10 by omega));omega
    obtain⟨a,c,rfl,hsa,_⟩:=hr.own.slAt (m:=10) (fun j _=>Nat.mod_lt _ (by omega)) (by omega);have HW:=Lib.hid (written_any a k c (d10 X) X wr hsa (fun _ _=>rfl) hlow);have HB:=Lib.hid hr.below;clear hsa hr hlow hy
    by_cases hk20:k<20
    · have d1:decide ((0:Int)<(y:Int))=false:=decide_eq_false (by omega)
      go_wp2_with (go_at_call 218;refine HW.out.mono ?_;rintro e w7 ⟨rfl,hb7⟩)
      go_ret;exact⟨rfl,HB.out.trans (hb7.mono HB.out.size)⟩
    · go_wp2_with (go_at_call 218;refine HW.out.mono ?_;rintro e w7 ⟨rfl,hb7⟩)
      go_ret;exact⟨rfl,HB.out.trans (hb7.mono HB.out.size)⟩
theorem right_any(s:ByteArray)(w:World)(hs:s.size<=maxLen):Calls Tryz.prog 110 #[.string s] w fun e w'=>e=.returned (.bool (okB s.data.toList))/\w=w':=by
 have hsl:s.data.toList.length=s.size:=rfl;unfold maxLen at hs;obtain⟨b,hb⟩:∃b,okB s.data.toList=b:=⟨_,rfl⟩
 rw[hb];have HB:=Lib.hid hb;have HSL:=Lib.hid hsl;clear hb hsl;go_enter Tryz.func110,Tryz.ntmps110;go_wp2
 go_loop [3] (fun i=>∃k:Nat,k<=s.size/\k<=2001/\i=.int .i64 k/\Hid (∀c ∈ s.data.toList.take k,48<=c.toNat/\c.toNat<=57))
  (fun i=>s.size-(intOf i).toNat)
 case atStart=>exact⟨0,by omega,by omega,rfl,by show ∀c ∈ _,_;simp⟩
 case round =>
  obtain⟨k,hk,hk2,rfl,hdg⟩:=hrel
  by_cases hlt:k<s.size
  · have d0 : decide ((k : Int) < (s.size : Int)) = true := decide_eq_true (by omega)
    by_cases h2k:k<=2000
    · have d1 : decide ((k : Int) <= 2000) = true := decide_eq_true (by omega); have hsn := take_snoc s k hlt; obtain ⟨c, hc⟩ : ∃ c, s[k] = c := ⟨_, rfl⟩
      rw[hc]at hsn
      have hbad:¬(48<=c.toNat/\c.toNat<=57)->b=false:=by
       intro hdc;rw[← HB.out]
       cases hk:okB s.data.toList
       · rfl
       · exfalso
         have:=(okB_digs hk).2.2 c (List.mem_of_mem_take (by rw[hsn];exact List.mem_append_right _ List.mem_cons_self));exact hdc this
      by_cases hdc:48<=c.toNat/\c.toNat<=57
      · have t1:decide ((c.toNat:Int)<48)=false:=decide_eq_false (by omega);have t2:decide ((57:Int)<(c.toNat:Int))=false:=decide_eq_false (by omega)
        have hnx:Hid (∀c ∈ s.data.toList.take (k+1),48<=c.toNat/\c.toNat<=57):=by
         intro x hx;rw[hsn]at hx
         rcases List.mem_append.1 hx with h|h
         · exact hdg.out x h
         · rw[List.mem_singleton.1 h];exact hdc
        clear hsn hbad hdc;go_wp2
        go_round
        case rel=>exact⟨k+1,by omega,by omega,by go_num,hnx⟩
        case measure=>simp[intOf];omega
      · have hbf:=Lib.hid (hbad hdc);clear hsn hbad
        by_cases h48:c.toNat<48
        · have t1:decide ((c.toNat:Int)<48)=true:=decide_eq_true (by omega);clear hdc;go_wp2;go_ret;exact⟨by rw[hbf.out];rfl,rfl⟩
        · have t1:decide ((c.toNat:Int)<48)=false:=decide_eq_false (by omega);have t2:decide ((57:Int)<(c.toNat:Int))=true:=decide_eq_true (by omega);clear hdc;go_wp2;go_ret;exact⟨by rw[hbf.out];rfl,rfl⟩
    · have d1 : decide ((k : Int) <= 2000) = false := decide_eq_false (by omega)
      have hbf:Hid (b=false):=by
       show _=_
       rw[← HB.out]
       cases hk:okB s.data.toList
       · rfl
       · exfalso
         have:=(okB_digs hk).2.1;rw[HSL.out]at this;omega
      have d3:decide ((1:Int)<=(s.size:Int))=true:=decide_eq_true (by omega);have d4:decide ((s.size:Int)<=2000)=false:=decide_eq_false (by omega);go_wp2;go_ret;exact⟨by rw[hbf.out];rfl,rfl⟩
  · obtain rfl : k = s.size := by omega
    have d0:decide ((s.size:Int)<(s.size:Int))=false:=decide_eq_false (by omega)
    by_cases h1:1<=s.size
    · have d3 : decide ((1 : Int) <= (s.size : Int)) = true := decide_eq_true (by omega)
      by_cases h4:s.size<=2000
      · have d4:decide ((s.size:Int)<=2000)=true:=decide_eq_true (by omega)
        have hbf:Hid (b=true):=by
         show _=_
         rw[← HB.out];refine okB_mk (by rw[HSL.out];omega) (by rw[HSL.out];omega) ?_;have:=hdg.out;rw[List.take_of_length_le (by rw[HSL.out];omega)]at this;exact this
        go_wp2;go_ret;exact⟨by rw[hbf.out];rfl,rfl⟩
      · have d4 : decide ((s.size : Int) <= 2000) = false := decide_eq_false (by omega)
        have hbf:Hid (b=false):=by
         show _=_
         rw[← HB.out]
         cases hk:okB s.data.toList
         · rfl
         · exfalso
           have:=(okB_digs hk).2.1;rw[HSL.out]at this;omega
        go_wp2;go_ret;exact⟨by rw[hbf.out];rfl,rfl⟩
    · have d3 : decide ((1 : Int) <= (s.size : Int)) = false := decide_eq_false (by omega)
      have hbf:Hid (b=false):=by
       show _=_
       rw[← HB.out]
       cases hk:okB s.data.toList
       · rfl
       · exfalso
         have:=(okB_digs hk).1;rw[HSL.out]at this;omega
      go_wp2;go_ret;exact⟨by rw[hbf.out];rfl,rfl⟩
theorem digit_any(N n i:Nat)(w:World)(hN:N<10^n)(hn:n<=10000000)(hi:i<=100000000):Calls Tryz.prog 231 #[.string (str (sdig N n)),.int .i64 i] w fun e w'=>e=.returned (.int .i64 (d10 N i))/\w=w':=by
 obtain⟨s,hs⟩:∃s,str (sdig N n)=s:=⟨_,rfl⟩
 have hsz:s.size=n:=by rw[← hs,str_size,sdig_length]
 rw[hs]
 by_cases h:i<n
 · obtain ⟨k, hk⟩ : ∃ k, n - 1 - i = k := ⟨_, rfl⟩
   have hks:k<s.size:=by omega
   have hc:s[k].toNat=48+d10 N i:=by
    have h1:=sdig_get N n k (by omega);rw[show n-1-k=i by omega]at h1
    have h2:s[k]=dgt N i:=by
     subst hs
     have h3:(sdig N n)[k]? = some ((str (sdig N n))[k]):=by
      rw[List.getElem?_eq_getElem (by rw[sdig_length];omega)];rfl
     rw[h3]at h1;exact Option.some.inj h1
    rw[h2,dgt_toNat];rfl
   obtain⟨c,hcc⟩:∃c,s[k]=c:=⟨_,rfl⟩
   rw[hcc]at hc;obtain⟨x,hx⟩:∃x,d10 N i=x:=⟨_,rfl⟩
   have hxl:x<10:=by rw[← hx];exact Nat.mod_lt _ (by omega)
   rw[hx]at hc ⊢;have e1:(s.size:Int)-1-(i:Int)=(k:Int):=by omega
   have e2:(c.toNat:Int)-48=(x:Int):=by omega
   have e3:(x:Int)%256=(x:Int):=by omega
   have e4:(48:Int)<=(c.toNat:Int):=by omega
   have d0:decide ((s.size:Int)<=(i:Int))=false:=decide_eq_false (by omega);have i1:(k:Int)<(s.size:Int):=by omega
   have h':i<s.size:=by omega
   have hsb:s.size<=10000000:=by omega
   clear hs hx hc hk hsz hN;go_enter Tryz.func231,Tryz.ntmps231;go_wp2;go_ret;exact⟨rfl,rfl⟩
 · have hz:d10 N i=0:=by
     unfold d10;have:=Nat.pow_le_pow_right (show 0<10 by omega) (show n<=i by omega);rw[Nat.div_eq_of_lt (by omega)]
   rw[hz];have d0:decide ((s.size:Int)<=(i:Int))=true:=decide_eq_true (by omega);have h':s.size<=i:=by omega
   clear hs hsz hN hz;go_enter Tryz.func231,Tryz.ntmps231;go_wp2;go_ret;exact⟨rfl,rfl⟩
def carry(x y i:Nat):Nat:=(x%10^i+y%10^i) / 10^i
theorem carry_zero(x y:Nat):carry x y 0=0:=by simp[carry,Nat.mod_one]
theorem carry_step(x y i:Nat):(d10 x i+d10 y i+carry x y i)%10=d10 (x+y) i/\(d10 x i+d10 y i+carry x y i) / 10=carry x y (i+1):=by
 have hp:0<10^i:=Nat.pow_pos (by omega);have hx:x%10^(i+1)=x%10^i+10^i*d10 x i:=by unfold d10;rw[Nat.pow_succ,Nat.mod_mul]
 have hy:y%10^(i+1)=y%10^i+10^i*d10 y i:=by unfold d10;rw[Nat.pow_succ,Nat.mod_mul]
 have hs:(x%10^(i+1)+y%10^(i+1)) / 10^i=d10 x i+d10 y i+carry x y i:=by
  rw[hx,hy];unfold carry;rw[show x%10^i+10^i*d10 x i+(y%10^i+10^i*d10 y i)=(x%10^i+y%10^i)+10^i*(d10 x i+d10 y i)by rw[Nat.mul_add];omega,Nat.add_mul_div_left _ _ hp]
  omega
 constructor
 · rw[← hs];unfold d10;have e1:=Nat.div_add_mod x (10^(i+1));have e2:=Nat.div_add_mod y (10^(i+1))
   have:x+y=x%10^(i+1)+y%10^(i+1)+10^i*(10*(x / 10^(i+1)+y / 10^(i+1))):=by
    have e3:10^i*(10*(x / 10^(i+1)+y / 10^(i+1)))=10^(i+1)*(x / 10^(i+1))+10^(i+1)*(y / 10^(i+1)):=by rw[← Nat.mul_assoc,← Nat.pow_succ,Nat.mul_add]
    omega
   rw[this,Nat.add_mul_div_left _ _ hp]
   omega
 · rw[← hs,Nat.div_div_eq_div_mul,← Nat.pow_succ];rfl
structure SumI(w wr:World)(Z:Nat)(V:Value)(k:Nat):Prop where
 below:Below w.heap.size w wr
 own:OwnL wr w.heap.size 3 .i64 V k (d10 Z)
theorem cell_one_at(w:World)(x:Value)(t:TypeId):∀j u, [x][j]? = some u->(w.alloc (.cells #[x] t)).cell? ((⟨w.heap.size,0,none⟩:Addr).add j)=some u:=by
 intro j u hj
 match j,hj with
 | 0,hj=>simp at hj;subst hj;simp[Addr.add]
theorem one_cell_list(k:IntKind)(x:Int):∀u ∈ [Value.int k x],u.oneCell'=true:=by
 intro u hu;simp at hu;subst hu;rfl
theorem sum_next {w wr w5 : World} {Z : Nat} {V v' : Value} {k r : Nat} {o : Obj} (h : SumI w wr Z V k) (hown : w5.ownsRow w.heap.size 3 1 v' (k + 1) (cl .i64 (d10 Z) k ++ [.int .i64 r])) (hg : (wr.alloc o).grownBy w5 V.ownBlock)
    (hz:w.heap.size<=wr.heap.size) (hr:r=d10 Z k):SumI w w5 Z v' (k+1):=by
 refine⟨(h.below.alloc hz _).grown hg (by rw[World.size_alloc];omega) (fun q hq=>(World.ownsRow.lt h.own q hq).1),?_⟩
 rw[cl_snoc,cl_congr (g:=d10 Z) (fun j hj=>by
  by_cases e:j=k
  · rw[if_pos e,hr,e]
  · rw[if_neg e])]at hown
 exact hown
theorem numOf_sdig(N:Nat):∀n,numOf (sdig N n)=N%10^n
 | 0=>by simp[sdig,numOf,Nat.mod_one]
 | n+1=>by
  rw[sdig,numOf,numOf_sdig N n,sdig_length,dgt_toNat,Nat.pow_succ,Nat.mod_mul];rw[Nat.add_sub_cancel_left,Nat.mul_comm (N / 10^n%10)]
  omega
theorem sdig_inj{x y n:Nat}(hx:x<10^n)(hy:y<10^n)(h:sdig x n=sdig y n):x=y:=by
 have:=congrArg numOf h;rw[numOf_sdig,numOf_sdig,Nat.mod_eq_of_lt hx,Nat.mod_eq_of_lt hy]at this;exact this
theorem less_sdig (x y : Nat) : ∀ n, Op.bytesLess (sdig x n) (sdig y n) = decide (x % 10 ^ n < y % 10 ^ n)
 | 0=>by simp[sdig,Op.bytesLess,Nat.mod_one]
 | n+1=>by
  rw[sdig,sdig,Op.bytesLess,less_sdig x y n,Nat.pow_succ,Nat.mod_mul,Nat.mod_mul];have hp:0<10^n:=Nat.pow_pos (by omega);have hx:=Nat.mod_lt x hp;have hy:=Nat.mod_lt y hp
  have e1:(dgt x n<dgt y n)↔x / 10^n%10<y / 10^n%10:=by
   rw[UInt8.lt_iff_toNat_lt,dgt_toNat,dgt_toNat];omega
  have e2:(dgt x n=dgt y n)↔x / 10^n%10=y / 10^n%10:=by
   rw[← UInt8.toNat_inj,dgt_toNat,dgt_toNat];omega
  generalize x / 10^n%10=a at *;generalize y / 10^n%10=b at *;generalize x%10^n=u at *;generalize y%10^n=v at *;generalize 10^n=P at *;rw[Bool.eq_iff_iff];simp only[Bool.or_eq_true,decide_eq_true_eq,Bool.and_eq_true,beq_iff_eq,e1,e2]
  rcases Nat.lt_trichotomy a b with h|h|h
  · have h3:=Nat.mul_le_mul_left P (show a+1<=b from h);rw[Nat.mul_add]at h3
    constructor
    · intro _;omega
    · intro _;exact .inl h
  · subst h
    constructor
    · rintro(h|⟨_,h⟩)<;>omega
    · intro h;exact .inr ⟨rfl,by omega⟩
  · have h3:=Nat.mul_le_mul_left P (show b+1<=a from h);rw[Nat.mul_add]at h3
    constructor
    · rintro(h1|⟨h1,_⟩)<;>omega
    · intro h1;omega
theorem dl_mono_lt{x y:Nat}(h:dl x<dl y):x<y:=by
 have h1:=dl_lt x
 have hy:0<y:=by
  rcases Nat.eq_zero_or_pos y with h0|h0
  · subst h0;have e:dl 0=1:=by unfold dl;rfl
    have:=dl_pos x;omega
  · exact h0
 have h2:=dl_low hy;have:=Nat.pow_le_pow_right (show 0<10 by omega) (show dl x<=dl y-1 by omega)
 omega
theorem rcmp_any(x y:Nat)(w:World)(hx:dl x<=100000)(hy:dl y<=100000):Calls Tryz.prog 188 #[.string (str (dec x)),.string (str (dec y))] w fun e w'=>e=.returned (.int .i64 (cmpI x y))/\w=w':=by
 have hs1:(str (dec x)).size=dl x:=by rw[str_size];exact sdig_length _ _
 have hs2:(str (dec y)).size=dl y:=by rw[str_size];exact sdig_length _ _
 have ht1:(str (dec x)).toList=dec x:=by rw[ByteArray.toList_eq];rfl
 have ht2:(str (dec y)).toList=dec y:=by rw[ByteArray.toList_eq];rfl
 by_cases hl:dl x=dl y
 · have hle : dec y = sdig y (dl x) := by unfold dec; rw [hl]
   have hb:Op.bytesLess (str (dec x)).toList (str (dec y)).toList=decide (x<y):=by
    rw[ht1,ht2,hle];unfold dec;rw[less_sdig,Nat.mod_eq_of_lt (dl_lt x),Nat.mod_eq_of_lt (by rw[hl];exact dl_lt y)]
   have heq:((str (dec x)).toList==(str (dec y)).toList)=decide (x=y):=by
    rw[ht1,ht2,hle,Bool.eq_iff_iff,beq_iff_eq,decide_eq_true_eq];unfold dec;exact⟨fun h=>sdig_inj (dl_lt x) (by rw[hl];exact dl_lt y) h,fun h=>by rw[h]⟩
   have hn:(((str (dec x)).size:Int) != ((str (dec y)).size:Int))=false:=by rw[hs1,hs2,hl];simp
   have hss:(str (dec x)).size=(str (dec y)).size:=by omega
   have hsb:(str (dec x)).size<=100000:=by omega
   clear hs1 hs2 ht1 ht2 hle hl;generalize str (dec x)=s at *;generalize str (dec y)=t at *
   by_cases h1:x=y
   · have hr:Hid (cmpI x y=0):=by show _=_;unfold cmpI;rw[if_neg (by omega),if_pos h1]
     rw[decide_eq_true h1]at heq;clear hb hx hy h1;have HSS:=Lib.hid hss;clear hss;go_enter Tryz.func188,Tryz.ntmps188;go_wp2;go_ret;exact⟨ret_int hr.out.symm,rfl⟩
   · rw[decide_eq_false h1]at heq;have HSS:=Lib.hid hss;clear hss
     by_cases h2:x<y
     · have hr:Hid (cmpI x y = -1):=cmp_neg h2;rw[decide_eq_true h2]at hb;clear hx hy h1 h2;go_enter Tryz.func188,Tryz.ntmps188;go_wp2;go_ret;exact⟨ret_int hr.out.symm,rfl⟩
     · have hr:Hid (cmpI x y=1):=by show _=_;unfold cmpI;rw[if_neg h2,if_neg h1]
       rw[decide_eq_false h2]at hb;clear hx hy h1 h2;go_enter Tryz.func188,Tryz.ntmps188;go_wp2;go_ret;exact⟨ret_int hr.out.symm,rfl⟩
 · have hn:(((str (dec x)).size:Int) != ((str (dec y)).size:Int))=true:=by rw[hs1,hs2];simp;omega
   have hsb:(str (dec x)).size<=100000/\(str (dec y)).size<=100000:=by omega
   have hne:¬(str (dec x)).size=(str (dec y)).size:=by omega
   have hc:((str (dec x)).size<(str (dec y)).size->cmpI x y = -1)/\(¬(str (dec x)).size<(str (dec y)).size->cmpI x y=1):=by
    rw[hs1,hs2];refine⟨fun h=>cmp_neg (dl_mono_lt h),fun h => ?_⟩;have:=dl_mono_lt (show dl y<dl x by omega);unfold cmpI;rw[if_neg (by omega),if_neg (by omega)]
   clear hs1 hs2 ht1 ht2 hl hx hy;generalize str (dec x)=s at *;generalize str (dec y)=t at *;obtain⟨hb1,hb2⟩:=hsb
   by_cases h:s.size<t.size
   · have hr:=Lib.hid (hc.1 h);have d1:decide ((s.size:Int)<(t.size:Int))=true:=decide_eq_true (by omega);clear hc hne;go_enter Tryz.func188,Tryz.ntmps188;go_wp2;go_ret;exact⟨ret_int hr.out.symm,rfl⟩
   · have hr:=Lib.hid (hc.2 h);have d1:decide ((s.size:Int)<(t.size:Int))=false:=decide_eq_false (by omega);clear hc hne;go_enter Tryz.func188,Tryz.ntmps188;go_wp2;go_ret;exact⟨ret_int hr.out.symm,rfl⟩
theorem rsub_any (x n y m : Nat) (w : World) (hx : x < 10 ^ n) (hy : y < 10 ^ m) (hn : n <= 1000) (hm : m <= 1000) (hxy : y <= x) :
    Calls Tryz.prog 196 #[.string (str (sdig x n)),.string (str (sdig y m))] w fun e w'=>e=.returned (.string (str (dec (x-y))))/\Below w.heap.size w w':=by
 obtain⟨i0,hi,hz0,hz1,hz2⟩:=info_parts infoI;have DX:=Lib.hid (fun i (h:i<=100000000) wz=>digit_any x n i wz hx (by omega) h);have DY:=Lib.hid (fun i (h:i<=100000000) wz=>digit_any y m i wz hy (by omega) h);have hs1:(str (sdig x n)).size=n:=by rw[str_size,sdig_length]
 generalize str (sdig x n)=s at *;generalize str (sdig y m)=t at *;obtain⟨z,hz⟩:∃z,x-y=z:=⟨_,rfl⟩
 have hyz:y+z=x:=by omega
 have HZN:Hid (z<10^n):=by show _<_;omega
 rw[hz];have H0:SumI w w z (.slice none 0 0) 0:=⟨Below.refl _ _,World.ownsRow_nil _ _ _ _⟩
 have HI:=Lib.hid hi;have HC0:Hid (0=carry y z 0):=(carry_zero y z).symm;have hL:s.size<=1000:=by omega
 have HS1:=Lib.hid hs1;have HYZ:=Lib.hid hyz;clear hi hx hy hs1 hn hm hz hyz hxy;go_enter Tryz.func196,Tryz.ntmps196;go_wp2
 go_loopw [5,6,7] (fun D c i wr=>∃(k cy:Nat) (V:Value),k<=s.size/\i=.int .i64 k/\cy<=1/\c=.int .i64 cy/\Hid (cy=carry y z k)/\V=D/\SumI w wr z V k)
  (fun _ _ i _=>s.size-(intOf i).toNat)
 case atStart=>exact⟨0,0,_,by omega,rfl,by omega,rfl,HC0,rfl,H0⟩
 case round =>
  obtain⟨k,cy,V,hk,rfl,hcy,rfl,hcc,rfl,hr⟩:=hrel
  by_cases c1:k<s.size
  · obtain⟨dx,hdx⟩:∃dx,d10 x k=dx:=⟨_,rfl⟩
    obtain⟨dy,hdy⟩:∃dy,d10 y k=dy:=⟨_,rfl⟩
    obtain⟨dz,hdz⟩:∃dz,d10 z k=dz:=⟨_,rfl⟩
    have CX:=DX.out k (by omega);have CY:=DY.out k (by omega);rw[hdx]at CX;rw[hdy]at CY;have hdyl:dy<10:=by rw[← hdy];exact Nat.mod_lt _ (by omega)
    have hdzl:dz<10:=by rw[← hdz];exact Nat.mod_lt _ (by omega)
    obtain⟨q1,q2⟩:=carry_step y z k;rw[HYZ.out,hdy,hdz,← hcc.out,hdx]at q1;rw[hdy,hdz,← hcc.out]at q2;have CX':=Lib.hid CX;have CY':=Lib.hid CY;have Q1:=Lib.hid hdz.symm;have HR:=Lib.hid hr;have hzr:w.heap.size<=wr.heap.size:=hr.below.size;have d1:decide ((k:Int)<(s.size:Int))=true:=decide_eq_true (by omega)
    by_cases hsm:dy+dz+cy<10
    · have e1:(dx:Int)-(dy:Int)-(cy:Int)=(dz:Int):=by omega
      have HNX:Hid (0=carry y z (k+1)):=by show _=_;rw[← q2];omega
      have d2:decide ((dz:Int)<0)=false:=decide_eq_false (by omega);clear hr q1 q2 CX CY hdx hdy hdz hsm hcc;go_wp2_with fail;go_at_call 231;refine(CX'.out wr).mono ?_;rintro e w2 ⟨rfl,rfl⟩;go_wp2_with fail;go_at_call 231;refine(CY'.out wr).mono ?_;rintro e w2 ⟨rfl,rfl⟩
      go_wp2_with (at_builtin;refine wpList_append_own _ rfl _ _ 22 rfl w.heap.size 3 i0 (.int .i64 0) 1 8 Tryz.underlying22 HI.out hz0 hz1 hz2 rfl (by decide) _ _ _ rfl (World.ownsRow.alloc HR.out.own _) ⟨wr.heap.size,0,none⟩ 1 1 [.int .i64 dz] rfl rfl (cell_one_at _ _ _) (one_cell_list _ _) (by unfold maxLen;omega) (by omega) (by rw[World.size_alloc];omega) ?_;intro v' w5 hown' hgrow _)
      have HG5:=Lib.hid (sum_next HR.out hown' hgrow hzr Q1.out);clear hown' hgrow;go_wp2
      go_roundw
      case rel=>exact⟨k+1,0,v',by omega,by go_num,by omega,rfl,HNX,rfl,HG5.out⟩
      case measure=>simp[intOf];omega
    · have e1:(dx:Int)-(dy:Int)-(cy:Int)=(dz:Int)-10:=by omega
      have HNX:Hid (1=carry y z (k+1)):=by show _=_;rw[← q2];omega
      have d2:decide ((dz:Int)-10<0)=true:=decide_eq_true (by omega);have d3:(dz:Int)<10:=by omega
      have e2:(dz:Int)-10+10=(dz:Int):=by omega
      clear hr q1 q2 CX CY hdx hdy hdz hsm hcc;go_wp2_with fail;go_at_call 231;refine(CX'.out wr).mono ?_;rintro e w2 ⟨rfl,rfl⟩;go_wp2_with fail;go_at_call 231;refine(CY'.out wr).mono ?_;rintro e w2 ⟨rfl,rfl⟩
      go_wp2_with (at_builtin;refine wpList_append_own _ rfl _ _ 22 rfl w.heap.size 3 i0 (.int .i64 0) 1 8 Tryz.underlying22 HI.out hz0 hz1 hz2 rfl (by decide) _ _ _ rfl (World.ownsRow.alloc HR.out.own _) ⟨wr.heap.size,0,none⟩ 1 1 [.int .i64 dz] rfl rfl (cell_one_at _ _ _) (one_cell_list _ _) (by unfold maxLen;omega) (by omega) (by rw[World.size_alloc];omega) ?_;intro v' w5 hown' hgrow _)
      have HG5:=Lib.hid (sum_next HR.out hown' hgrow hzr Q1.out);clear hown' hgrow;go_wp2
      go_roundw
      case rel=>exact⟨k+1,1,v',by omega,by go_num,by omega,rfl,HNX,rfl,HG5.out⟩
      case measure=>simp[intOf];omega
  · obtain rfl:k=s.size:=by omega
    obtain⟨a,c,rfl,hsa,_⟩:=hr.own.slAt (m:=10) (fun j _=>Nat.mod_lt _ (by omega)) (by omega);have HW:=Lib.hid (written_any a s.size c (d10 z) z wr hsa (fun _ _=>rfl) (by rw[HS1.out];exact HZN.out));have HB:=Lib.hid hr.below;clear hsa hr
    go_wp2_with (go_at_call 218;refine HW.out.mono ?_;rintro e w7 ⟨rfl,hb7⟩)
    go_ret;exact⟨rfl,HB.out.trans (hb7.mono HB.out.size)⟩
theorem numOf_append(b:List UInt8):∀a:List UInt8,numOf (a++b)=numOf a*10^b.length+numOf b
 | []=>by simp[numOf]
 | c::a=>by
  rw[List.cons_append,numOf,numOf_append b a,numOf,List.length_append,Nat.pow_add,Nat.add_mul,Nat.mul_assoc]
  omega
theorem numOf_take_le(l:List UInt8)(k:Nat):numOf (l.take k)<=numOf l:=by
 have h:=numOf_append (l.drop k) (l.take k);rw[List.take_append_drop]at h;have:=Nat.le_mul_of_pos_right (numOf (l.take k)) (Nat.pow_pos (n:=(l.drop k).length) (show 0<10 by omega))
 omega
theorem numOf_dec(N:Nat):numOf (dec N)=N:=by unfold dec;rw[numOf_sdig,Nat.mod_eq_of_lt (dl_lt N)]
theorem dec_dig(N:Nat):∀c ∈ dec N,48<=c.toNat/\c.toNat<=57:=by
 intro c hc;obtain⟨j,hj⟩:=List.getElem?_of_mem hc;unfold dec at hj
 have hjl:j<dl N:=by
  rcases Nat.lt_or_ge j (dl N)with h|h
  · exact h
  · rw[List.getElem?_eq_none (by rw[sdig_length];exact h)]at hj;cases hj
 rw[sdig_get N _ _ hjl]at hj
 cases hj
 rw[dgt_toNat];have:=Nat.mod_lt (N / 10^(dl N-1-j)) (show 0<10 by omega)
 omega
theorem dec_max:dec 18446744073709551615 = [49,56,52,52,54,55,52,52,48,55,51,55,48,57,53,53,49,54,49,53]:=by
 rw[← dec_of_top (k:=20) (by decide) (.inr ⟨by decide,by decide⟩)]
 decide
theorem dec_at {N : Nat} {s : ByteArray} (hs : s.data.toList = dec N) {k : Nat} (hk : k < s.size) :
    ∃c x:Nat,s[k].toNat=c/\c=48+x/\x<10/\numOf (s.data.toList.take (k+1))=10*numOf (s.data.toList.take k)+x:=by
 have hm:s[k] ∈ dec N:=by
  rw[← hs];exact List.getElem_mem (l:=s.data.toList) (by simpa using hk)
 obtain⟨h1,h2⟩:=dec_dig N _ hm;refine⟨_,s[k].toNat-48,rfl,by omega,by omega,?_⟩;rw[take_snoc s k hk,numOf_snoc]
def uI(N:Nat):Nat:=if N<18446744073709551616 then N else 0
theorem runi_any(N:Nat)(w:World)(hl:dl N<=1000):Calls Tryz.prog 232 #[.string (str (dec N))] w fun e w'=>e=.returned (.tuple #[.int .u64 (uI N),.bool (decide (N<18446744073709551616))])/\w=w':=by
 have hc:∀wz,Calls Tryz.prog 188 #[.string (str (dec N)),.string ⟨#[49,56,52,52,54,55,52,52,48,55,51,55,48,57,53,53,49,54,49,53]⟩] wz fun e w'=>e=.returned (.int .i64 (cmpI N 18446744073709551615))/\wz=w':=by
  intro wz;have h:=rcmp_any N 18446744073709551615 wz (by omega) (by have:=dl_le 18446744073709551615 20 (by omega) (by decide);omega);rw[dec_max]at h;exact h
 have hsz:(str (dec N)).size=dl N:=by rw[str_size];exact sdig_length _ _
 have hda:(str (dec N)).data.toList=dec N:=rfl;generalize str (dec N)=s at *
 by_cases hbig:18446744073709551615<N
 · have h1:cmpI N 18446744073709551615=1:=by unfold cmpI;rw[if_neg (by omega),if_neg (by omega)]
   rw[h1]at hc;have HC:=Lib.hid hc;have HE:Hid (uI N=0/\decide (N<18446744073709551616)=false):=⟨by unfold uI;rw[if_neg (by omega)],decide_eq_false (by omega)⟩
   clear hc h1 hbig hsz hda;rw[HE.out.1,HE.out.2];go_enter Tryz.func232,Tryz.ntmps232
   go_wp2_with (go_at_call 188;refine(HC.out _).mono ?_;rintro e w1 ⟨rfl,rfl⟩)
   go_ret2;exact⟨rfl,rfl⟩
 · obtain ⟨cm, hcm⟩ : ∃ cm, cmpI N 18446744073709551615 = cm := ⟨_, rfl⟩
   have hcl:cm<=0:=by
    rw[← hcm];unfold cmpI
    split
    · omega
    · split
      · omega
      · omega
   rw[hcm]at hc;have HC:=Lib.hid hc;have d0:decide ((0:Int)<cm)=false:=decide_eq_false (by omega);have HE:Hid (uI N=N/\decide (N<18446744073709551616)=true):=⟨by unfold uI;rw[if_pos (by omega)],decide_eq_true (by omega)⟩
   have HN:Hid (N<18446744073709551616):=by show _<_;omega
   have HDA:=Lib.hid hda;have HSZ:=Lib.hid hsz;have hsl:s.size<=1000:=by omega
   rw[HE.out.1,HE.out.2];clear hc hcm hbig hsz hda HE hl;go_enter Tryz.func232,Tryz.ntmps232
   go_wp2_with (go_at_call 188;refine(HC.out _).mono ?_;rintro e w1 ⟨rfl,rfl⟩)
   go_loop [4,5] (fun a i=>∃k acc:Nat,k<=s.size/\i=.int .i64 k/\a=.int .u64 acc/\Hid (acc=numOf (s.data.toList.take k)))
    (fun _ i=>s.size-(intOf i).toNat)
   case atStart=>exact⟨0,0,by omega,rfl,rfl,by show _=_;simp[numOf]⟩
   case round =>
    obtain⟨k,acc,hk,rfl,rfl,hacc⟩:=hrel
    by_cases hlt:k<s.size
    · obtain⟨c,x,hcx,hc48,hx10,hnum⟩:=dec_at HDA.out hlt;have hle:=numOf_take_le s.data.toList (k+1);rw[HDA.out,numOf_dec,← HDA.out,hnum,← hacc.out]at hle;have hNl:=HN.out;obtain⟨acc',ha'⟩:∃acc',10*acc+x=acc':=⟨_,rfl⟩
      have hal:acc'<18446744073709551616:=by omega
      have HNX:Hid (acc'=numOf (s.data.toList.take (k+1))):=by show _=_;rw[hnum,← hacc.out,ha']
      have e0:(s[k].toNat:Int)-48=(x:Int):=by omega
      have e1:(acc:Int)*10+(x:Int)=(acc':Int):=by omega
      have e2:(x:Int)%256=(x:Int):=by omega
      have e3:(48:Int)<=(s[k].toNat:Int):=by omega
      have e4:(acc:Int)*10<=18446744073709551615:=by omega
      clear hcx hc48 hnum hle hNl ha' hacc;go_wp2
      go_round
      case rel=>exact⟨k+1,acc',by omega,by go_num,rfl,HNX.out⟩
      case measure=>simp[intOf];omega
    · obtain rfl:k=s.size:=by omega
      have hE:Hid (acc=N):=by
       show _=_
       rw[hacc.out,List.take_of_length_le (by show s.data.toList.length<=_;exact Nat.le_refl _),HDA.out,numOf_dec]
      go_wp2;go_ret2;exact⟨by rw[hE.out];rfl,rfl⟩
def hor(g:Nat->Nat):Nat->Nat
 | 0=>0
 | k+1=>hor g k*1000000000+g k
structure Bag(w0:World)(P:World->Prop)(w:World):Prop where
 below:Below w0.heap.size w0 w
 stay:∀a b,Below a.heap.size a b->P a->P b
 now:P w
theorem Bag.start(w:World):Bag w (fun _=>True) w:=⟨Below.refl _ _,fun _ _ _ _=>trivial,trivial⟩
theorem Bag.go{w0 w w':World}{P:World->Prop}(h:Bag w0 P w)(hb:Below w.heap.size w w'):Bag w0 P w' :=
 ⟨h.below.trans (hb.mono h.below.size),h.stay,h.stay _ _ hb h.now⟩
theorem bgo{w0 w w':World}{U:World → Prop}(h:Hid (Bag w0 U w))(hb:Below w.heap.size w w'):Hid (Bag w0 U w'):=Lib.hid (h.out.go hb)
theorem Bag.add{w0 w:World}{P Q:World->Prop}(h:Bag w0 P w)(hs:∀a b,Below a.heap.size a b->Q a->Q b)(q:Q w):Bag w0 (fun x=>Q x/\P x) w :=
 ⟨h.below,fun a b hb ⟨h1,h2⟩=>⟨hs a b hb h1,h.stay a b hb h2⟩,q,h.now⟩
theorem Bag.nat{w0 w:World}{P:World->Prop}{v:Value}{N:Nat}(h:Bag w0 P w)(q:NatIs w v N):Bag w0 (fun x=>NatIs x v N/\P x) w:=h.add (fun _ _ hb q=>q.below hb) q
theorem Bag.alloc{w0 w:World}{P:World->Prop}(h:Bag w0 P w)(o:Obj):Bag w0 P (w.alloc o):=h.go ((Below.refl _ _).alloc (Nat.le_refl _) _)
theorem Bag.slot{w0 w:World}{P:World->Prop}{k:Nat}{x:Value}(h:Bag w0 P w)(q:Slot w k x):Bag w0 (fun y=>Slot y k x/\P y) w:=h.add (fun _ _ hb q=>q.below hb) q
theorem Bag.box{w0 w:World}{P:World->Prop}(h:Bag w0 P w)(x:Value)(t:TypeId):Bag w0 (fun y=>Slot y w.heap.size x/\P y) (w.alloc (.cells #[x] t)) :=
 (h.alloc _).slot (Slot.new w x t)
theorem Bag.drew{w0 w:World}{P:World->Prop}(h:Bag w0 P w):Bag w0 P w.drew:=h.go (Below.refl _ _).drew
structure Slot2(w:World)(k:Nat)(x y:Value):Prop where
 cell:w.cell? ⟨k,0,none⟩=some x
 cell1:w.cell? ⟨k,1,none⟩=some y
 free:w.frozen? ⟨k,0,none⟩=false
 free1:w.frozen? ⟨k,1,none⟩=false
 lt:k<w.heap.size
theorem Slot2.below{w w':World}{k:Nat}{x y:Value}(h:Slot2 w k x y)(hb:Below w.heap.size w w'):Slot2 w' k x y :=
 ⟨(hb.cell (p:=⟨k,0,none⟩) h.lt).trans h.cell,(hb.cell (p:=⟨k,1,none⟩) h.lt).trans h.cell1,(hb.frozen (p:=⟨k,0,none⟩) h.lt).trans h.free,(hb.frozen (p:=⟨k,1,none⟩) h.lt).trans h.free1,Nat.lt_of_lt_of_le h.lt hb.size⟩
theorem Slot2.new(w:World)(x y:Value)(t:TypeId):Slot2 (w.alloc (.cells #[x,y] t)) w.heap.size x y:=by
 refine⟨?_,?_,World.frozen?_alloc_new _ _ _ _,World.frozen?_alloc_new _ _ _ _,by rw[World.size_alloc];omega⟩
 · rw[World.cell?_alloc_new];rfl
 · rw[World.cell?_alloc_new];rfl
theorem Bag.slot2{w0 w:World}{P:World->Prop}{k:Nat}{x z:Value}(h:Bag w0 P w)(q:Slot2 w k x z):Bag w0 (fun y=>Slot2 y k x z/\P y) w:=h.add (fun _ _ hb q=>q.below hb) q
theorem Bag.box2{w0 w:World}{P:World->Prop}(h:Bag w0 P w)(x z:Value)(t:TypeId):Bag w0 (fun y=>Slot2 y w.heap.size x z/\P y) (w.alloc (.cells #[x,z] t)) :=
 (h.alloc _).slot2 (Slot2.new w x z t)
end Go.Proofs.YtdmmenaejkpnjaaGreatDoor
namespace Go.Proofs.YtdmmenaejkpnjaaGreatDoor
open Go.RowKit
attribute [local go_sem ↓] Go.wp_at_zero Go.wp_at_succ
def IntAt(w:World)(a:Option Addr)(n c:Nat)(m:Bool)(Z:Int):Prop:=m=decide (Z<0)/\NatIs w (.agg #[.slice a n c]) Z.natAbs
theorem IntAt.below{w w':World}{a:Option Addr}{n c:Nat}{m:Bool}{Z:Int}(h:IntAt w a n c m Z)(hb:Below w.heap.size w w'):IntAt w' a n c m Z:=⟨h.1,h.2.below hb⟩
def IntTold(w w':World)(e:Ending)(Z:Int):Prop:=∃a n c m,e=.returned (.agg #[.slice a n c,.bool m])/\IntAt w' a n c m Z/\Below w.heap.size w w'
def sgn(b:Bool)(N:Nat):Int:=if b then -(N:Int)else N
theorem sgn_abs(b:Bool)(N:Nat):(sgn b N).natAbs=N:=by unfold sgn;split<;>omega
theorem sgn_neg(b:Bool)(N:Nat):decide (sgn b N<0)=(b && !decide (N=0)):=by
 cases b
 · simp[sgn]
 · by_cases h:N=0
   · simp[sgn,h]
   · simp[sgn,h];omega
theorem sgn_self(Z:Int):sgn (decide (Z<0)) Z.natAbs=Z:=by
 by_cases h:Z<0
 · rw[decide_eq_true h];simp[sgn];omega
 · rw[decide_eq_false h];simp[sgn];omega
def NatTold2(w w':World)(e:Ending)(v:Value)(N:Nat):Prop:=e=.returned v/\NatIs w' v N/\Below w.heap.size w w'
theorem NatIs.storeAt{w:World}{v:Value}{N:Nat}{p:Addr}{x:Value}(h:NatIs w v N)(hs:w.cell? p=some x)(hx:∀ki z,x ≠ .int ki z)(u:Value):NatIs (w.setCell p u) v N:=by
 obtain⟨a,n,c,f,rfl,⟨h1,h2,h3,h4⟩,hv,ht⟩:=h;refine⟨a,n,c,f,rfl,⟨h1,h2,h3,?_⟩,hv,ht⟩
 rcases h4 with h4|⟨b,off,rfl,hb,hc⟩
 · exact .inl h4
 · refine .inr ⟨b,off,rfl,by simpa using hb,fun j hj => ?_⟩
   rw[World.cell?_setCell_other _ _ _ _ (fun e' => ?_)]
   · exact hc j hj
   · have h5:=hc j hj;rw[show(⟨b,off+j,none⟩:Addr)=p from by first|exact e'|exact e'.symm,hs]at h5;exact hx _ _ (Option.some.inj h5)
theorem IntTold.done {w w2 : World} {k : Nat} {x : Value} {m0 : Bool} {a : Option Addr} {n c : Nat} {m : Bool} {Z : Int} (hb : Below w.heap.size w w2) (hk : w.heap.size <= k) (hs : Slot2 w2 k x (.bool m0)) (hx : ∀ ki z, x ≠ .int ki z) (h : IntAt w2 a n c m Z) :
    IntTold w ((w2.setCell ⟨k,0,none⟩ (.slice a n c)).setCell ⟨k,1,none⟩ (.bool m)) (.returned (.agg #[.slice a n c,.bool m])) Z:=by
 refine⟨a,n,c,m,rfl,⟨h.1,?_⟩,(hb.setCell hk _).setCell hk _⟩;refine(h.2.storeAt hs.cell hx _).storeAt (x:=.bool m0) ?_ (fun _ _ h=>by cases h) _;rw[World.cell?_setCell_other _ _ _ _ (fun e=>by cases e)];exact hs.cell1
theorem Slot2.set{w:World}{k:Nat}{x y:Value}(h:Slot2 w k x y)(u v:Value):((w.setCell ⟨k,0,none⟩ u).setCell ⟨k,1,none⟩ v).cell? ⟨k,0,none⟩=some u/\((w.setCell ⟨k,0,none⟩ u).setCell ⟨k,1,none⟩ v).cell? ⟨k,1,none⟩=some v:=by
 refine⟨?_,?_⟩
 · rw[World.cell?_setCell_other _ _ _ _ (fun e=>by cases e)];exact World.cell?_setCell_same _ _ _ h.cell
 · refine World.cell?_setCell_same (u:=y) _ _ _ ?_;rw[World.cell?_setCell_other _ _ _ _ (fun e=>by cases e)];exact h.cell1
def RS(y:World)(k:Nat):Prop:=∃x b,Slot2 y k x (.bool b)/\∀ki z,x ≠ .int ki z
theorem wof_any (b : Bool) (a : Option Addr) (n c N : Nat) (w : World) (h : NatIs w (.agg #[.slice a n c]) N) :
    Calls Tryz.prog 116 #[.bool b,.agg #[.slice a n c]] w fun e w'=>IntTold w w' e (sgn b N):=by
 cases b with
 | false =>
  have HE:Hid (IntTold w ((w.alloc (.cells #[.slice a n c] 49)).alloc (.cells #[.slice a n c,.bool false] 51)).drew (.returned (.agg #[.slice a n c,.bool false])) (sgn false N)) :=
   have B0:=(((Bag.start w).nat h).alloc (.cells #[.slice a n c] 49)).box2 (.slice a n c) (.bool false) 51
   ⟨a,n,c,false,rfl,⟨by rw[sgn_neg];rfl,by rw[sgn_abs];exact B0.drew.now.2.1⟩,B0.drew.below⟩
  clear h;go_enter Tryz.func116,Tryz.ntmps116;go_wp2_with fail
  go_region
  all_goals
   go_wp2;exact bodyPost_ret (v:=.agg #[.slice a n c,.bool false]) (by simp[results,Tryz.results116,go_sem]) rfl HE.out
 | true =>
  have B0:=(((Bag.start w).nat h).box (.slice a n c) 49).box2 (.slice none 0 0) (.bool false) 51;rw[World.size_alloc]at B0;have BB:=Lib.hid B0.drew;have HZ:=Lib.hid (zero_any _ N _ B0.drew.now.2.2.1);have q0:=B0.now.2.1.cell;have HI:Hid (∀wz,NatIs wz (.agg #[.slice a n c]) N->IntAt wz a n c (!decide (N=0)) (sgn true N)):=fun wz hz=>⟨by rw[sgn_neg];rfl,by rw[sgn_abs];exact hz⟩
  obtain⟨m,hm⟩:∃m,(!decide (N=0))=m:=⟨_,rfl⟩
  obtain⟨z,hz⟩:∃z,decide (N=0)=z:=⟨_,rfl⟩
  rw[hm]at HI;rw[hz]at HZ hm;subst hm;clear B0 h hz;go_enter Tryz.func116,Tryz.ntmps116;go_wp2_with fail
  go_region_with (go_at_call 114;refine HZ.out.mono ?_;rintro e w2 ⟨rfl,hb2⟩;have B2:=BB.out.go hb2;have hq:=B2.now.2.1.cell;have hs2:=B2.now.1;have hc1:=hs2.cell;have hc2:=hs2.cell1;have hf1:=hs2.free;have hf2:=hs2.free1;have HS:=hs2.set (.slice a n c) (.bool (!z));have HE:=Lib.hid (IntTold.done B2.below (by omega) hs2 (fun _ _ h=>by cases h) (HI.out _ B2.now.2.2.1));clear hb2 B2 hs2)
  all_goals
   go_wp2;exact bodyPost_ret (by simp[results,Tryz.results116,go_sem,HS]) rfl HE.out
theorem Bag.int{w0 w:World}{P:World->Prop}{a:Option Addr}{n c:Nat}{m:Bool}{Z:Int}(h:Bag w0 P w)(q:IntAt w a n c m Z):Bag w0 (fun y=>IntAt y a n c m Z/\P y) w:=h.add (fun _ _ hb q=>q.below hb) q
theorem neg_any (a : Option Addr) (n c : Nat) (m : Bool) (Z : Int) (w : World) (h : IntAt w a n c m Z) :
    Calls Tryz.prog 173 #[.agg #[.slice a n c,.bool m]] w fun e w'=>e=.returned (.bool m)/\Below w.heap.size w w':=by
 have B0:=((Bag.start w).nat h.2).box2 (.slice a n c) (.bool m) 51;have q0:=B0.now.1.cell;have q1:=B0.now.1.cell1;have hz:=zero_any _ _ _ B0.now.2.1;have BB:=Lib.hid B0
 cases m with
 | false =>
  clear h B0 hz;go_enter Tryz.func173,Tryz.ntmps173;go_wp2;go_ret;exact⟨rfl,BB.out.below⟩
 | true =>
  have h0:decide (Z.natAbs=0)=false:=by
   have:=h.1;rw[decide_eq_false];have h2:=of_decide_eq_true this.symm
   omega
  rw[h0]at hz;have HZ:=Lib.hid hz;clear h B0 h0 hz;go_enter Tryz.func173,Tryz.ntmps173
  go_wp2_with (go_at_call 114;refine HZ.out.mono ?_;rintro e w2 ⟨rfl,hb2⟩;have HB:=Lib.hid (BB.out.go hb2).below;clear hb2)
  go_ret;exact⟨rfl,HB.out⟩
theorem size_any (a : Option Addr) (n c : Nat) (m : Bool) (Z : Int) (w : World) (h : IntAt w a n c m Z) :
    Calls Tryz.prog 169 #[.agg #[.slice a n c,.bool m]] w fun e w'=>NatTold2 w w' e (.agg #[.slice a n c]) Z.natAbs:=by
 have B0:=(((Bag.start w).nat h.2).box2 (.slice a n c) (.bool m) 51).alloc (.cells #[.slice a n c] 49);have HE:Hid (NatTold2 w ((w.alloc (.cells #[.slice a n c,.bool m] 51)).alloc (.cells #[.slice a n c] 49)) (.returned (.agg #[.slice a n c])) (.agg #[.slice a n c]) Z.natAbs):=⟨rfl,B0.now.2.1,B0.below⟩
 clear h B0;go_enter Tryz.func169,Tryz.ntmps169;go_wp2;exact bodyPost_ret (v:=.agg #[.slice a n c]) (by simp[results,Tryz.results169,go_sem]) rfl HE.out
def sgnI(Z:Int):Int:=if Z<0 then -1 else if Z=0 then 0 else 1
theorem sign_any (a : Option Addr) (n c : Nat) (m : Bool) (Z : Int) (w : World) (h : IntAt w a n c m Z) :
    Calls Tryz.prog 140 #[.agg #[.slice a n c,.bool m]] w fun e w'=>e=.returned (.int .i64 (sgnI Z))/\Below w.heap.size w w':=by
 have B0:=((Bag.start w).int h).box2 (.slice a n c) (.bool m) 51;have q0:=B0.now.1.cell;have q1:=B0.now.1.cell1;have hz:=zero_any _ _ _ B0.now.2.1.2;have BB:=Lib.hid B0
 by_cases h0:Z=0
 · have d0:decide (Z.natAbs=0)=true:=decide_eq_true (by omega);rw[d0]at hz;have HZ:=Lib.hid hz;have HE:Hid (sgnI Z=0):=by show _=_;unfold sgnI;rw[if_neg (by omega),if_pos h0]
   clear h B0 h0 d0 hz;go_enter Tryz.func140,Tryz.ntmps140
   go_wp2_with (go_at_call 114;refine HZ.out.mono ?_;rintro e w2 ⟨rfl,hb2⟩;have HB:=Lib.hid (BB.out.go hb2).below;clear hb2)
   go_ret;exact⟨ret_int HE.out.symm,HB.out⟩
 · have d0:decide (Z.natAbs=0)=false:=decide_eq_false (by omega);rw[d0]at hz;have HZ:=Lib.hid hz;have HM:=Lib.hid h.1
   have HE:Hid (sgnI Z=if m then -1 else 1):=by
    show _=_
    rw[h.1];unfold sgnI
    by_cases h2:Z<0
    · rw[if_pos h2,decide_eq_true h2];rfl
    · rw[if_neg h2,if_neg h0,decide_eq_false h2];rfl
   clear h B0 h0 d0 hz;go_enter Tryz.func140,Tryz.ntmps140;go_wp2_with fail;go_at_call 114;refine HZ.out.mono ?_;rintro e w2 ⟨rfl,hb2⟩;have B2:=Lib.hid (BB.out.go hb2);clear hb2 q0 q1;have q0:=B2.out.now.1.cell;have q1:=B2.out.now.1.cell1;go_wp2_with fail;go_at_call 173;refine(neg_any a n c m Z _ B2.out.now.2.1).mono ?_;rintro e w3 ⟨rfl,hb3⟩;have B3:=Lib.hid (B2.out.go hb3);clear hb3 q0 q1
   cases m
   all_goals
    go_wp2;go_ret;exact⟨ret_int HE.out.symm,B3.out.below⟩
theorem of_pl2(x:Nat)(w:World)(hx:x<18446744073709551616):Calls Tryz.prog 146 #[.int .u64 x] w fun e w'=>∃a n c,e=.returned (.agg #[.slice a n c])/\NatIs w' (.agg #[.slice a n c]) x/\Below w.heap.size w w' :=
 (of_any x w hx).mono fun _ _ ⟨v,h1,⟨a,n,c,f,h2,h3,h4,h5⟩,h6⟩=>⟨a,n,c,by rw[h1,h2],⟨a,n,c,f,rfl,h3,h4,h5⟩,h6⟩
theorem from_any (X : Int) (w : World) (h : -9223372036854775808 <= X /\ X <= 9223372036854775807) :
    Calls Tryz.prog 118 #[.int .i64 X] w fun e w'=>IntTold w w' e X:=by
 have B0:=Lib.hid ((Bag.start w).box2 (.slice none 0 0) (.bool false) 51)
 by_cases h0:X<0
 · obtain⟨y,hy⟩:∃y:Nat,(y:Int) = -X:=⟨(-X).toNat,by omega⟩
   have d0:decide (X<0)=true:=decide_eq_true h0
   have e2:IntKind.u64.wrap (-IntKind.u64.wrap X)=(y:Int):=by
    rw[IntKind.wrap_u64,IntKind.wrap_u64];omega
   have hyl:y<18446744073709551616:=by omega
   have HZ:Hid (sgn true y=X):=by show _=_;unfold sgn;simp;omega
   have HO:Hid (∀wz,Calls Tryz.prog 146 #[.int .u64 y] wz fun e w'=>∃a n c,e=.returned (.agg #[.slice a n c])/\NatIs w' (.agg #[.slice a n c]) y/\Below wz.heap.size wz w'):=fun wz=>of_pl2 y wz hyl
   clear hy h;go_enter Tryz.func118,Tryz.ntmps118;go_wp2_with fail;go_at_call 146;refine(HO.out _).mono ?_;rintro e w2 ⟨a2,n2,c2,rfl,hi2,hb2⟩;have BB:=Lib.hid ((B0.out.go hb2).nat hi2);clear hi2 hb2;go_wp2_with fail;go_at_call 116;refine(wof_any true a2 n2 c2 y _ BB.out.now.1).mono ?_;rintro e w3 ⟨a3,n3,c3,m3,rfl,hi3,hb3⟩;rw[HZ.out]at hi3;have B3:=BB.out.go hb3;have hs2:=B3.now.2.1;have hc1:=hs2.cell;have hc2:=hs2.cell1;have hf1:=hs2.free;have hf2:=hs2.free1;have HS:=hs2.set (.slice a3 n3 c3) (.bool m3);have HE:=Lib.hid (IntTold.done B3.below (Nat.le_refl _) hs2 (fun _ _ h=>by cases h) hi3);clear hb3 B3 hs2 hi3;go_wp2;exact bodyPost_ret (by simp[results,Tryz.results118,go_sem,HS]) rfl HE.out
 · obtain⟨y,rfl⟩:∃y:Nat,X=(y:Int):=⟨X.toNat,by omega⟩
   have d0:decide ((y:Int)<0)=false:=decide_eq_false h0;have hyl:y<18446744073709551616:=by omega
   have HZ:Hid (sgn false y=(y:Int)):=by show _=_;unfold sgn;simp
   have HO:Hid (∀wz,Calls Tryz.prog 146 #[.int .u64 y] wz fun e w'=>∃a n c,e=.returned (.agg #[.slice a n c])/\NatIs w' (.agg #[.slice a n c]) y/\Below wz.heap.size wz w'):=fun wz=>of_pl2 y wz hyl
   have hy2:(y:Int)<=9223372036854775807:=h.2;clear h;go_enter Tryz.func118,Tryz.ntmps118;go_wp2_with fail;go_at_call 146;refine(HO.out _).mono ?_;rintro e w2 ⟨a2,n2,c2,rfl,hi2,hb2⟩;have BB:=Lib.hid ((B0.out.go hb2).nat hi2);clear hi2 hb2;go_wp2_with fail;go_at_call 116;refine(wof_any false a2 n2 c2 y _ BB.out.now.1).mono ?_;rintro e w3 ⟨a3,n3,c3,m3,rfl,hi3,hb3⟩;rw[HZ.out]at hi3;have B3:=BB.out.go hb3;have hs2:=B3.now.2.1;have hc1:=hs2.cell;have hc2:=hs2.cell1;have hf1:=hs2.free;have hf2:=hs2.free1;have HS:=hs2.set (.slice a3 n3 c3) (.bool m3);have HE:=Lib.hid (IntTold.done B3.below (Nat.le_refl _) hs2 (fun _ _ h=>by cases h) hi3);clear hb3 B3 hs2 hi3;go_wp2;exact bodyPost_ret (by simp[results,Tryz.results118,go_sem,HS]) rfl HE.out
def fitB(Z:Int):Bool:=decide (-9223372036854775808<=Z/\Z<=9223372036854775807)
def fitI(Z:Int):Int:=if fitB Z then Z else 0
theorem ret_ib{k:IntKind}{a b:Int}{x y:Bool}(h:a=b)(h':x=y):Ending.returned (.tuple #[.int k a,.bool x])=.returned (.tuple #[.int k b,.bool y]):=by rw[h,h']
theorem int_any (a : Option Addr) (n c : Nat) (m : Bool) (Z : Int) (w : World) (h : IntAt w a n c m Z) :
    Calls Tryz.prog 229 #[.agg #[.slice a n c,.bool m]] w fun e w'=>e=.returned (.tuple #[.int .i64 (fitI Z),.bool (fitB Z)])/\Below w.heap.size w w':=by
 have B0:=((Bag.start w).int h).box2 (.slice a n c) (.bool m) 51;have q0:=B0.now.1.cell;have q1:=B0.now.1.cell1;have hu:=uint_any _ _ _ B0.now.2.1.2;have BB:=Lib.hid B0;have hm:=h.1;obtain⟨N,hN⟩:∃N,Z.natAbs=N:=⟨_,rfl⟩
 rw[hN]at hu;unfold UintOut at hu;clear h B0
 by_cases hbig:N<18446744073709551616
 · rw [if_pos hbig, decide_eq_true hbig] at hu; have HU := Lib.hid hu; clear hu
   by_cases hz:Z<0
   · rw [decide_eq_true hz] at hm; subst hm; have hZN : Z = -(N : Int) := by omega
     by_cases h63:N<=9223372036854775808
     · have HE:Hid (fitI Z = -(N:Int)/\fitB Z=true):=by
         have:fitB Z=true:=decide_eq_true (by omega);exact⟨by unfold fitI;rw[this,if_pos rfl];exact hZN,this⟩
       have d2:decide ((N:Int)<=9223372036854775808)=true:=decide_eq_true (by omega)
       have e2:IntKind.i64.wrap (IntKind.u64.wrap (-(N:Int))) = -(N:Int):=by
        rw[IntKind.wrap_i64,IntKind.wrap_u64];omega
       clear hz hZN hN hbig
       by_cases h62:N<=9223372036854775807
       all_goals
        first
         | have d1:decide ((N:Int)<=9223372036854775807)=true:=decide_eq_true (by omega)
         | have d1:decide ((N:Int)<=9223372036854775807)=false:=decide_eq_false (by omega)
        clear h62 h63;go_enter Tryz.func229,Tryz.ntmps229
        go_wp2_with (first
         | (go_at_call 238;refine HU.out.mono ?_;rintro e w2 ⟨rfl,hb2⟩;have BB:=Lib.hid (BB.out.go hb2);clear hb2 q0 q1;have q0:=BB.out.now.1.cell;have q1:=BB.out.now.1.cell1)
         | (go_at_call 173;refine(neg_any a n c true Z _ BB.out.now.2.1).mono ?_;rintro e w2 ⟨rfl,hb2⟩;have BB:=Lib.hid (BB.out.go hb2);clear hb2 q0 q1;have q0:=BB.out.now.1.cell;have q1:=BB.out.now.1.cell1))
        go_ret2;exact⟨ret_ib HE.out.1.symm HE.out.2.symm,BB.out.below⟩
     · have HE:Hid (fitI Z=0/\fitB Z=false):=by
         have:fitB Z=false:=decide_eq_false (by omega);exact⟨by unfold fitI;rw[this];rfl,this⟩
       have d1:decide ((N:Int)<=9223372036854775807)=false:=decide_eq_false (by omega);have d2:decide ((N:Int)<=9223372036854775808)=false:=decide_eq_false (by omega);clear hz hZN hN hbig h63;go_enter Tryz.func229,Tryz.ntmps229
       go_wp2_with (first
        | (go_at_call 238;refine HU.out.mono ?_;rintro e w2 ⟨rfl,hb2⟩;have BB:=Lib.hid (BB.out.go hb2);clear hb2 q0 q1;have q0:=BB.out.now.1.cell;have q1:=BB.out.now.1.cell1))
       go_ret2;exact⟨ret_ib HE.out.1.symm HE.out.2.symm,BB.out.below⟩
   · rw [decide_eq_false hz] at hm; subst hm; have hZN : Z = (N : Int) := by omega
     by_cases h63:N<=9223372036854775807
     · have HE:Hid (fitI Z=(N:Int)/\fitB Z=true):=by
         have:fitB Z=true:=decide_eq_true (by omega);exact⟨by unfold fitI;rw[this,if_pos rfl];exact hZN,this⟩
       have d1:decide ((N:Int)<=9223372036854775807)=true:=decide_eq_true (by omega);have hl:(N:Int)<=9223372036854775807:=by omega
       clear hz hZN hN hbig h63;go_enter Tryz.func229,Tryz.ntmps229
       go_wp2_with (first
        | (go_at_call 238;refine HU.out.mono ?_;rintro e w2 ⟨rfl,hb2⟩;have BB:=Lib.hid (BB.out.go hb2);clear hb2 q0 q1;have q0:=BB.out.now.1.cell;have q1:=BB.out.now.1.cell1)
        | (go_at_call 173;refine(neg_any a n c false Z _ BB.out.now.2.1).mono ?_;rintro e w2 ⟨rfl,hb2⟩;have BB:=Lib.hid (BB.out.go hb2);clear hb2 q0 q1;have q0:=BB.out.now.1.cell;have q1:=BB.out.now.1.cell1))
       go_ret2;exact⟨ret_ib HE.out.1.symm HE.out.2.symm,BB.out.below⟩
     · have HE:Hid (fitI Z=0/\fitB Z=false):=by
         have:fitB Z=false:=decide_eq_false (by omega);exact⟨by unfold fitI;rw[this];rfl,this⟩
       have d1:decide ((N:Int)<=9223372036854775807)=false:=decide_eq_false (by omega);clear hz hZN hN hbig
       by_cases h62:N<=9223372036854775808
       all_goals
        first
         | have d2:decide ((N:Int)<=9223372036854775808)=true:=decide_eq_true (by omega)
         | have d2:decide ((N:Int)<=9223372036854775808)=false:=decide_eq_false (by omega)
        clear h62 h63;go_enter Tryz.func229,Tryz.ntmps229
        go_wp2_with (first
         | (go_at_call 238;refine HU.out.mono ?_;rintro e w2 ⟨rfl,hb2⟩;have BB:=Lib.hid (BB.out.go hb2);clear hb2 q0 q1;have q0:=BB.out.now.1.cell;have q1:=BB.out.now.1.cell1)
         | (go_at_call 173;refine(neg_any a n c false Z _ BB.out.now.2.1).mono ?_;rintro e w2 ⟨rfl,hb2⟩;have BB:=Lib.hid (BB.out.go hb2);clear hb2 q0 q1;have q0:=BB.out.now.1.cell;have q1:=BB.out.now.1.cell1))
        go_ret2;exact⟨ret_ib HE.out.1.symm HE.out.2.symm,BB.out.below⟩
 · rw[if_neg hbig,decide_eq_false hbig]at hu;have HU:=Lib.hid hu
   have HE:Hid (fitI Z=0/\fitB Z=false):=by
    have:fitB Z=false:=decide_eq_false (by omega);exact⟨by unfold fitI;rw[this];rfl,this⟩
   clear hu hbig hN hm;go_enter Tryz.func229,Tryz.ntmps229
   go_wp2_with (first
    | (go_at_call 238;refine HU.out.mono ?_;rintro e w2 ⟨rfl,hb2⟩;have BB:=Lib.hid (BB.out.go hb2);clear hb2 q0 q1;have q0:=BB.out.now.1.cell;have q1:=BB.out.now.1.cell1))
   go_ret2;exact⟨ret_ib HE.out.1.symm HE.out.2.symm,BB.out.below⟩
end Go.Proofs.YtdmmenaejkpnjaaGreatDoor
namespace Go.Proofs.YtdmmenaejkpnjaaGreatDoor
open Go.RowKit
theorem dec_small{N:Nat}(h:N<10):dec N = [UInt8.ofNat (48+N)]:=by
 have:dl N=1:=by unfold dl;rw[dif_pos h]
 unfold dec;rw[this,sdig,sdig];unfold dgt;rw[Nat.pow_zero,Nat.div_one,Nat.mod_eq_of_lt h]
def NatTold(w w':World)(e:Ending)(N:Nat):Prop:=∃a n c,e=.returned (.agg #[.slice a n c])/\NatIs w' (.agg #[.slice a n c]) N/\Below w.heap.size w w'
theorem NatOut.told{w w':World}{e:Ending}{N:Nat}(h:NatOut w w' e N):NatTold w w' e N:=by
 obtain⟨v,rfl,hv,hb⟩:=h;obtain⟨a,n,c,f,rfl,hs,hv,ht⟩:=hv;exact⟨a,n,c,rfl,⟨a,n,c,f,rfl,hs,hv,ht⟩,hb⟩
theorem of_told(x:Nat)(w:World)(hx:x<18446744073709551616):Calls Tryz.prog 146 #[.int .u64 x] w fun e w'=>NatTold w w' e x :=
 (of_any x w hx).mono fun _ _ h=>h.told
def arrC(ch:Bool)(more:Int)(d:Nat->Int)(na:Option Addr)(nn nc:Nat)(ta:Option Addr)(tn tc:Nat):Array Value :=
 #[.bool ch, .int .i64 more, .int .i64 (d 0), .int .i64 (d 1), .int .i64 (d 2), .int .i64 (d 3), .int .i64 (d 4), .int .i64 (d 5), .int .i64 (d 6), .int .i64 (d 7), .slice na nn nc, .slice ta tn tc]
def dm(f:Nat->Int)(n j:Nat):Int:=if j<n then f j else 0
def Row(w:World)(g:Nat)(t:TypeId)(cs:Array Value):Prop:=w.heap[g]? = some (.cells cs t (0,0))
theorem Row.lt{w:World}{g:Nat}{t:TypeId}{cs:Array Value}(h:Row w g t cs):g<w.heap.size:=by
 rcases Nat.lt_or_ge g w.heap.size with h1|h1
 · exact h1
 · unfold Row at h;rw[Array.getElem?_eq_none h1]at h;cases h
theorem Row.below{w w':World}{g:Nat}{t:TypeId}{cs:Array Value}(h:Row w g t cs)(hb:Below w.heap.size w w'):Row w' g t cs:=(hb.block g h.lt).trans h
theorem Row.new(w:World)(t:TypeId)(cs:Array Value):Row (w.alloc (.cells cs t)) w.heap.size t cs:=heap_new _ _
theorem Row.cell{w:World}{g:Nat}{t:TypeId}{cs:Array Value}(h:Row w g t cs)(i:Nat):w.cell? ⟨g,i,none⟩=cs[i]? := cell_of_row w g i cs t (0,0) h
theorem Row.free{w:World}{g:Nat}{t:TypeId}{cs:Array Value}(h:Row w g t cs)(i:Nat):w.frozen? ⟨g,i,none⟩=false:=frozen_of_row w g i cs t h
theorem Bag.row{w0 w:World}{P:World->Prop}{g:Nat}{t:TypeId}{cs:Array Value}(h:Bag w0 P w)(q:Row w g t cs):Bag w0 (fun y=>Row y g t cs/\P y) w:=h.add (fun _ _ hb q=>q.below hb) q
theorem arrC_one(ch:Bool)(more:Int)(d:Nat->Int)(na:Option Addr)(nn nc:Nat)(ta:Option Addr)(tn tc:Nat):(arrC ch more d na nn nc ta tn tc).all (·.oneCell')=true:=by simp[arrC,Value.oneCell']
theorem arr12:(Tryz.prog.info? 36).map (·.size)=some 12:=by kernel_rfl
theorem ld_arr {ops : Array Oper} {rest : List Oper} {o : Oper} {a : Act} {w : World} {Q : Exit -> Act -> World -> Prop} (hgd : o.guard = none) (x : Operand) (ho : o.op = .load 36 x) (g : Nat) (hx : a.eval x = .pointer (some ⟨g, 0, none⟩))
    {ch:Bool} {more:Int} {d:Nat->Int} {na:Option Addr} {nn nc:Nat} {ta:Option Addr} {tn tc:Nat} (hg:Row w g 36 (arrC ch more d na nn nc ta tn tc))
    (h:wpList Tryz.prog ops Q rest (a.put o.dst (.agg (arrC ch more d na nn nc ta tn tc))) w):wpList Tryz.prog ops Q (o::rest) a w :=
 wpList_load_row hgd _ x ho g hx _ _ (0,0) _ hg Tryz.underlying36 rfl arr12 h
theorem st_arr {ops : Array Oper} {rest : List Oper} {o : Oper} {a : Act} {w : World} {Q : Exit -> Act -> World -> Prop} (hgd : o.guard = none) (x y : Operand) (ho : o.op = .store 36 x y) (g : Nat) (hx : a.eval x = .pointer (some ⟨g, 0, none⟩))
    (ch:Bool) (more:Int) (d:Nat->Int) (na:Option Addr) (nn nc:Nat) (ta:Option Addr) (tn tc:Nat) (hy:a.eval y=.agg (arrC ch more d na nn nc ta tn tc)) {old:Array Value} (hg:Row w g 36 old) (ho2:old.size=12)
    (h:wpList Tryz.prog ops Q rest (a.put o.dst undef) (w.setRow g (arrC ch more d na nn nc ta tn tc))):wpList Tryz.prog ops Q (o::rest) a w :=
 wpList_store_row hgd _ x y ho g _ hx hy _ old hg arr12 ho2 (arrC_one _ _ _ _ _ _ _ _ _) h
theorem Row.put{w:World}{g:Nat}{t:TypeId}{cs:Array Value}(h:Row w g t cs)(cs':Array Value):Row (w.setRow g cs') g t cs':=setRow_heap w g cs cs' t (0,0) h
theorem below_put{w w1:World}{g:Nat}(h:Below w.heap.size w w1)(hg:w.heap.size<=g)(cs:Array Value):Below w.heap.size w (w1.setRow g cs) :=
 ⟨h.os,h.tape,h.output,by simpa using h.size,fun k hk=>(setRow_other w1 g k cs (by omega)).trans (h.block k hk)⟩
theorem res_arr {fn : Func} {p : Tmp} {tmps : Array Value} {w : World} {g : Nat} {cs : Array Value} (h : fn.results = #[.cell p 36]) (hp : tmps.getD p undef = .pointer (some ⟨g, 0, none⟩)) (hg : Row w g 36 cs) (hs : cs.size = 12) :
    (results fn tmps).run Tryz.prog w=.ok (.agg cs) w :=
 results_cell_row h tmps w g _ cs (0,0) _ hp hg Tryz.underlying36 rfl (by rw[arr12,hs])
theorem res_arr2 {fn : Func} {p q : Tmp} {tmps : Array Value} {w : World} {g : Nat} {cs : Array Value} {v : Value} (h : fn.results = #[.cell p 36, .tmp q]) (hp : tmps.getD p undef = .pointer (some ⟨g, 0, none⟩)) (hq : tmps.getD q undef = v) (hg : Row w g 36 cs) (hs : cs.size = 12) :
    (results fn tmps).run Tryz.prog w=.ok (.tuple #[.agg cs,v]) w:=by
 have hp':tmps[p]?.getD undef=.pointer (some ⟨g,0,none⟩):=by simpa using hp
 have hq':tmps[q]?.getD undef=v:=by simpa using hq
 simp[results,h,hp',hq',asAddr,run_loadVar_row w g _ _ cs (0,0) _ hg Tryz.underlying36 rfl (by rw[arr12,hs])]
def BareTold(b:Bool)(f:Nat->Int)(n:Nat)(w w':World)(e:Ending):Prop :=
 e=.returned (.tuple #[.agg (if b then arrC false ((n:Int)-1) (dm f n) none 0 0 none 0 0 else arrC false 0 (fun _=>0) none 0 0 none 0 0),.bool b])/\Below w.heap.size w w'
theorem In64.le8{f:Nat->Int}{n:Nat}(h:shB f n=true):n<=8:=by
 unfold shB at h;rw[Bool.and_eq_true,decide_eq_true_eq]at h;exact h.1
theorem bare_no (a : Option Addr) (n c : Nat) (f : Nat -> Int) (m : Int) (w : World) (h : KRow w .i64 a n c f) (hf : In64 f n) (hno : (shB f n && decide (itm f n = m)) = false) :
    Calls Tryz.prog 102 #[.slice a n c,.int .i64 m] w fun e w'=>BareTold false f n w w' e:=by
 have CN:=Lib.hid (fun wz (h:KRow wz .i64 a n c f)=>count_any a n c f wz h hf);unfold CntTold cntI at CN;have HB:Hid (Below w.heap.size w (w.alloc (.cells (arrC false 0 (fun _=>0) none 0 0 none 0 0) 36))):=(Below.refl _ _).alloc (Nat.le_refl _) _;have HE:Hid (BareTold false f n w (w.alloc (.cells (arrC false 0 (fun _=>0) none 0 0 none 0 0) 36)) (.returned (.tuple #[.agg (arrC false 0 (fun _=>0) none 0 0 none 0 0),.bool false]))):=⟨rfl,HB.out⟩
 unfold arrC at HE;have HK:=Lib.hid h;have hl:=h.len;clear h hf
 cases hs:shB f n with
 | false =>
  rw[hs]at CN;rw[if_neg (by decide)]at CN;clear hs hno;go_enter Tryz.func102,Tryz.ntmps102;go_wp2_with fail;go_at_call 97
  refine(CN.out _ (HK.out.below ?_)).mono ?_
  · exact HB.out
  rintro e w2 ⟨rfl,rfl⟩;go_wp2;exact bodyPost_ret (v:=.tuple #[.agg #[.bool false,.int .i64 0,.int .i64 0,.int .i64 0,.int .i64 0,.int .i64 0,.int .i64 0,.int .i64 0,.int .i64 0,.int .i64 0,.slice none 0 0,.slice none 0 0],.bool false]) (by simp[results,Tryz.results102,go_sem]) rfl HE.out
 | true =>
  rw[hs]at CN hno;rw[if_pos rfl]at CN;rw[Bool.true_and,decide_eq_false_iff_not]at hno;have hne:(itm f n != m)=true:=bne_iff_ne.2 hno;clear hs hno;go_enter Tryz.func102,Tryz.ntmps102;go_wp2_with fail;go_at_call 97
  refine(CN.out _ (HK.out.below ?_)).mono ?_
  · exact HB.out
  rintro e w2 ⟨rfl,rfl⟩;go_wp2;exact bodyPost_ret (v:=.tuple #[.agg #[.bool false,.int .i64 0,.int .i64 0,.int .i64 0,.int .i64 0,.int .i64 0,.int .i64 0,.int .i64 0,.int .i64 0,.int .i64 0,.slice none 0 0,.slice none 0 0],.bool false]) (by simp[results,Tryz.results102,go_sem]) rfl HE.out
theorem dm_splice (f : Nat -> Int) (n : Nat) (h : n <= 8) (x0 x1 x2 x3 : Value) (z : Value) (hz : z = .int .i64 0) :
    splice [x0,x1,z,z,z,z,z,z,z,z,x2,x3] 2 ((List.range n).map fun j=>.int .i64 (f j)) =
    [x0,x1,.int .i64 (dm f n 0),.int .i64 (dm f n 1),.int .i64 (dm f n 2),.int .i64 (dm f n 3),.int .i64 (dm f n 4),.int .i64 (dm f n 5),.int .i64 (dm f n 6),.int .i64 (dm f n 7),x2,x3]:=by
 subst hz;have hn:n=0∨n=1∨n=2∨n=3∨n=4∨n=5∨n=6∨n=7∨n=8:=by omega
 rcases hn with rfl|rfl|rfl|rfl|rfl|rfl|rfl|rfl|rfl<;>rfl
theorem bare_yes (a : Option Addr) (n c : Nat) (f : Nat -> Int) (m : Int) (w : World) (h : KRow w .i64 a n c f) (hf : In64 f n) (hs : shB f n = true) (hm : itm f n = m) :
    Calls Tryz.prog 102 #[.slice a n c,.int .i64 m] w fun e w'=>BareTold true f n w w' e:=by
 have CN:=Lib.hid (fun wz (h:KRow wz .i64 a n c f)=>count_any a n c f wz h hf);unfold CntTold cntI at CN;have HB:Hid (Below w.heap.size w (w.alloc (.cells (arrC false 0 (fun _=>0) none 0 0 none 0 0) 36))):=(Below.refl _ _).alloc (Nat.le_refl _) _;have HK:=Lib.hid h;have hl:=h.len;have h8:=In64.le8 hs;have hne:(m != m)=false:=bne_self_eq_false m;rw[hs,if_pos rfl,hm]at CN;have hw:IntKind.i64.wrap ((n:Int)-1)=(n:Int)-1:=IntWalk.i64_in _ (by omega);clear h hf hs hm;go_enter Tryz.func102,Tryz.ntmps102;go_wp2_with fail;go_at_call 97
 (with_reducible refine(CN.out _ (HK.out.below ?_)).mono ?_)
 · exact HB.out
 rintro e w2 ⟨rfl,rfl⟩;have H8:=Lib.hid h8;clear h8
 go_wp2_with (refine wpList_copy_splice rfl (.tmp 27) (.tmp 28) 22 22 rfl 3 Tryz.underlying22 (by kernel_rfl) _ _ _ _ _ _ rfl rfl (w.heap.size+1) 2 [.bool false,.int .i64 ((n:Int)-1),.int .i64 0,.int .i64 0,.int .i64 0,.int .i64 0,.int .i64 0,.int .i64 0,.int .i64 0,.int .i64 0,.slice none 0 0,.slice none 0 0] 36 ?hg ((List.range n).map fun j=>.int .i64 (f j)) ?hn ?hpos ?hfit ?h1 (w.heap.size+1) (w.alloc (.cells #[.bool false,.int .i64 0,.int .i64 0,.int .i64 0,.int .i64 0,.int .i64 0,.int .i64 0,.int .i64 0,.int .i64 0,.int .i64 0,.slice none 0 0,.slice none 0 0] 36)) ?hb (Nat.le_refl _) ?_)
 case hg=>exact heap_alloc2_new _ _ _
 case hn=>rw[List.length_map,List.length_range];exact(Nat.min_eq_left H8.out).symm
 case hpos =>
  intro h0;have h0:0<n:=by simpa using h0
  obtain⟨b,off,rfl,hb,hc⟩:=HK.out.2.2.resolve_left (by omega);refine⟨_,rfl,fun j x hj => ?_⟩;simp only[List.getElem?_eq_some_iff,List.getElem_range]at hj;obtain⟨hj1,rfl⟩:=hj;rw[show(⟨b,off,none⟩:Addr).add j=⟨b,off+j,none⟩by simp[Addr.add],← hc j (by simpa using hj1)];rw[World.cell?_alloc_lt _ _ ⟨b,off+j,none⟩ (by simp;omega)];exact World.cell?_alloc_lt w _ ⟨b,off+j,none⟩ hb
 case hfit=>have:=H8.out;simp;omega
 case h1 =>
  intro v hv
  simp at hv
  obtain⟨_,_,rfl⟩:=hv
  rfl
 case hb=>exact(Below.refl _ _).alloc (by simp) _
 · intro w1 hg1 hb1;have hr0:Row w1 w.heap.size 36 _:=(hb1.block w.heap.size (by omega)).trans (heap_new _ _);have hr1:Row w1 (w.heap.size+1) 36 _:=hg1.out;rw[dm_splice f n H8.out _ _ _ _ _ rfl]at hr1;have hbw:Below w.heap.size w w1:=((Below.refl w.heap.size w).alloc (Nat.le_refl _) _).trans (hb1.mono (Nat.le_succ _));clear hg1 hb1;have HE:Hid (BareTold true f n w (w1.setRow w.heap.size (arrC false ((n:Int)-1) (dm f n) none 0 0 none 0 0)) (.returned (.tuple #[.agg (arrC false ((n:Int)-1) (dm f n) none 0 0 none 0 0),.bool true]))):=⟨rfl,below_put hbw (Nat.le_refl _) _⟩
   go_wp2_with (first
    | (refine ld_arr rfl (.tmp 8) rfl (w.heap.size+1) rfl (ch:=false) (more:=(n:Int)-1) (d:=dm f n) (na:=none) (nn:=0) (nc:=0) (ta:=none) (tn:=0) (tc:=0) hr1 ?_)
    | (refine st_arr rfl (.tmp 4) (.tmp 30) rfl w.heap.size rfl _ _ _ _ _ _ _ _ _ rfl hr0 rfl ?_))
   exact bodyPost_ret (res_arr2 Tryz.results102 rfl rfl (hr0.put _) rfl) rfl HE.out
theorem bare_any (a : Option Addr) (n c : Nat) (f : Nat -> Int) (m : Int) (w : World) (h : KRow w .i64 a n c f) (hf : In64 f n) :
    Calls Tryz.prog 102 #[.slice a n c,.int .i64 m] w fun e w'=>BareTold (shB f n&&decide (itm f n=m)) f n w w' e:=by
 cases hb:shB f n&&decide (itm f n=m)with
 | false=>exact bare_no a n c f m w h hf hb
 | true =>
  rw[Bool.and_eq_true,decide_eq_true_eq]at hb;exact bare_yes a n c f m w h hf hb.1 hb.2
theorem KRow.nought(w:World)(ki:IntKind)(a:Option Addr)(c:Nat)(hc:c<=maxLen)(f:Nat->Int):KRow w ki a 0 c f:=⟨Nat.zero_le _,hc,.inl rfl⟩
theorem Bag.krow{w0 w:World}{B:World->Prop}{ki:IntKind}{a:Option Addr}{n c:Nat}{f:Nat->Int}(h:Bag w0 B w)(q:KRow w ki a n c f):Bag w0 (fun y=>KRow y ki a n c f/\B y) w:=h.add (fun _ _ hb q=>KRow.below q hb) q
theorem Bag.newRow{w0 w:World}{B:World->Prop}(h:Bag w0 B w)(cs:Array Value)(t:TypeId):Bag w0 (fun y=>Row y w.heap.size t cs/\B y) (w.alloc (.cells cs t)):=(h.alloc _).row (Row.new w t cs)
theorem Row.set{w:World}{g:Nat}{t:TypeId}{cs:Array Value}(h:Row w g t cs)(i:Nat)(v:Value):Row (w.setCell ⟨g,i,none⟩ v) g t (cs.setIfInBounds i v):=heap_setCell_same w g i cs t v h
theorem Row.far{w:World}{g:Nat}{t:TypeId}{cs:Array Value}(h:Row w g t cs){a:Addr}(e:g≠a.block)(v:Value):Row (w.setCell a v) g t cs:=(heap_setCell_other w a g v e).trans h
structure Far(g:Nat)(w w':World):Prop where
 size:w.heap.size<=w'.heap.size
 block:∀k,k≠g->k<w.heap.size->w'.heap[k]? = w.heap[k]?
theorem Far.setCell(w:World)(g o:Nat)(v:Value):Far g w (w.setCell ⟨g,o,none⟩ v):=⟨by simp,fun k hk _=>heap_setCell_other w ⟨g,o,none⟩ k v hk⟩
theorem Far.setRow(w:World)(g:Nat)(cs:Array Value):Far g w (w.setRow g cs):=⟨by simp,fun k hk _=>setRow_other w g k cs hk⟩
theorem Far.cell{g:Nat}{w w':World}(h:Far g w w'){a:Addr}(hg:a.block≠g)(hl:a.block<w.heap.size):w'.cell? a=w.cell? a:=World.cell?_of_block (h.block _ hg hl)
def sameB(f g:Nat->Int):Nat->Bool
 | 0=>true
 | k+1=>sameB f g k&&decide (f k=g k)
theorem sameB_iff{f g:Nat->Int}{n:Nat}:sameB f g n=true↔∀j,j<n->f j=g j:=by
 induction n with
 | zero=>exact⟨fun _ j h=>absurd h (Nat.not_lt_zero _),fun _=>rfl⟩
 | succ n ih =>
  show(sameB f g n&&decide (f n=g n))=true↔_
  rw[Bool.and_eq_true,ih,decide_eq_true_eq]
  constructor
  · rintro⟨h1,h2⟩ j hj
    rcases Nat.lt_or_ge j n with h|h
    · exact h1 j h
    · obtain rfl:j=n:=by omega
      exact h2
  · exact fun h=>⟨fun j hj=>h j (by omega),h n (by omega)⟩
def SameTold(b:Bool)(w w':World)(e:Ending):Prop:=e=.returned (.bool b)/\Below w.heap.size w w'
theorem r6Same_any (a : Option Addr) (n c : Nat) (f : Nat -> Int) (a2 : Option Addr) (n2 c2 : Nat) (g : Nat -> Int) (w : World) (h : KRow w .i64 a n c f) (h2 : KRow w .i64 a2 n2 c2 g) :
    Calls Tryz.prog 31 #[.slice a n c,.slice a2 n2 c2] w fun e w'=>SameTold (decide (n=n2)&&sameB f g n) w w' e:=by
 have hl:=h.len;have hl2:=h2.len;have H1:=Lib.hid h;have H2:=Lib.hid h2;clear h h2
 by_cases hn:n=n2
 · subst hn; rw [decide_eq_true rfl, Bool.true_and]; have dn : ((n : Int) != n) = false := bne_self_eq_false _; go_enter Tryz.func31, Tryz.ntmps31; go_wp2
   go_loopw [5] (fun i wr=>∃k:Nat,k<=n/\i=.int .i64 k/\Hid (Below w.heap.size w wr/\sameB f g k=true)) (fun i _=>n-(intOf i).toNat)
   case atStart=>exact⟨0,by omega,rfl,Below.refl _ _,rfl⟩
   case round =>
    obtain⟨k,hk,rfl,hrel⟩:=hrel;obtain⟨hbl,hsm⟩:=hrel.out
    by_cases hlt:k<n
    · obtain ⟨b, off, rfl, hb, hc⟩ := (H1.out.below hbl).get hlt; obtain ⟨b2, off2, rfl, hb2, hc2⟩ := (H2.out.below hbl).get hlt; have HBL := Lib.hid hbl; have hk0 : (0 : Int) <= k := by omega
      have hk1:(k:Int)<n:=by omega
      have hk2:(k:Int)<=n:=by omega
      by_cases hq:f k=g k
      · have hsm2:Hid (sameB f g (k+1)=true):=by show(sameB f g k&&_)=true;rw[hsm,decide_eq_true hq];rfl
        have hne:(f k != g k)=false:=by rw[hq];exact bne_self_eq_false _
        clear hbl hsm;rw[← hq]at hc2;have hne:(f k != f k)=false:=bne_self_eq_false _;generalize f k=x at *;clear hq;go_wp2_with fail
        go_quiet (fail)
        have HBE:Hid (Below w.heap.size w (wr.drewN nq)/\sameB f g (k+1)=true):=⟨below_drewN HBL.out nq,hsm2.out⟩
        go_wp2
        go_roundw
        case rel=>exact⟨k+1,by omega,by go_num,HBE.out⟩
        case measure=>simp[intOf];omega
      · have hno:sameB f g n=false:=by
          cases hx:sameB f g n with
          | false=>rfl
          | true=>exact absurd ((sameB_iff.1 hx) k hlt) hq
        have HN:=Lib.hid hno;have hne:(f k != g k)=true:=bne_iff_ne.2 hq;clear hbl hsm hno;generalize f k=x at *;generalize g k=y at *;clear hq;go_wp2_with fail
        go_quiet (fail)
        have HBE:Hid (SameTold (sameB f g n) w (wr.drewN nq) (.returned (.bool false))):=⟨by rw[HN.out],below_drewN HBL.out nq⟩
        go_wp2;go_ret;exact HBE.out
    · obtain rfl:k=n:=by omega
      have HE:Hid (SameTold (sameB f g k) w wr (.returned (.bool true))):=⟨by rw[hsm],hbl⟩
      clear hbl hsm;go_wp2;go_ret;exact HE.out
 · rw[decide_eq_false hn,Bool.false_and];have dn:((n:Int) != n2)=true:=bne_iff_ne.2 (by omega);have HE:Hid (SameTold false w w (.returned (.bool false))):=⟨rfl,Below.refl _ _⟩
   clear hn;go_enter Tryz.func31,Tryz.ntmps31;go_wp2;go_ret;exact HE.out
def NewAt(w w':World)(a:Option Addr)(n c:Nat):Prop:=(a=none/\n=0/\c=0)∨∃g,a=some ⟨g,0,none⟩/\w.heap.size<=g/\Free w' g
theorem cloneI_new (a : Option Addr) (n c : Nat) (f : Nat -> Int) (w : World) (h : KRow w .i64 a n c f) (hn : n <= 1000000) :
    Calls Tryz.prog 100 #[.slice a n c] w fun e w'=>∃a' c',e=.returned (.slice a' n c')/\KRow w' .i64 a' n c' f/\NewAt w w' a' n c'/\Below w.heap.size w w':=by
 obtain⟨i0,hi,hz0,hz1,hz2⟩:=info_parts infoI;have q22:∀(w:World) (a:Option Addr) (n c n' c':Nat),(binOp .eql 22 (.slice a n c) (.slice none n' c')).run Tryz.prog w=.ok (.bool a.isNone) w:=fun w a n c n' c'=>Lib.run_eql_slice_nil w _ _ a n c n' c' Tryz.underlying22
 cases a with
 | none =>
  have h0:n=0:=by
   rcases h.2.2 with h|⟨_,_,h,_⟩
   · exact h
   · cases h
  subst h0;go_enter Tryz.func100,Tryz.ntmps100;go_wp2;go_ret;exact⟨none,0,rfl,KRow.nought _ _ _ _ (Nat.zero_le _) _,.inl ⟨rfl,rfl,rfl⟩,Below.refl _ _⟩
 | some ad =>
  have hex:∃news:List Value,news.length=n*1/\(∀j u,news[j]? = some u->w.cell? (ad.add j)=some u)/\(∀u ∈ news,u.oneCell'=true)/\∀j,j<n->news[j]? = some (.int .i64 (f j)):=by
   rcases h.2.2 with h0|⟨b,off,he,hb,hc⟩
   · subst h0;exact⟨[],rfl,fun j u hu=>by simp at hu,fun u hu=>by simp at hu,fun j hj=>by omega⟩
   · obtain rfl := Option.some.inj he; have hg : ∀ j, j < n -> ((List.range n).map fun j => Value.int .i64 (f j))[j]? = some (.int .i64 (f j)) := fun j hj => by rw [List.getElem?_map, List.getElem?_range hj]; rfl
     refine⟨(List.range n).map fun j=>.int .i64 (f j),by simp,fun j u hu => ?_,fun u hu => ?_,hg⟩
     · have hj:j<n:=by
         have:=(List.getElem?_eq_some_iff.1 hu).1
         simpa using this
       rw[hg j hj]at hu;obtain rfl:=Option.some.inj hu;rw[show(⟨b,off,none⟩:Addr).add j=⟨b,off+j,none⟩by simp[Addr.add]];exact hc j hj
     · obtain⟨j,_,rfl⟩:=List.mem_map.1 hu
       rfl
  obtain⟨news,hl,hcell,hone,hrat⟩:=hex;have HC:=Lib.hid hcell;have HO:=Lib.hid hone;have HR:=Lib.hid hrat
  have HL:=Lib.hid hl;have HN:=Lib.hid hn;clear hcell hone hrat hl h hn;go_enter Tryz.func100,Tryz.ntmps100
  go_wp2_with (at_builtin;refine wpList_append_own _ rfl _ _ 22 rfl w.heap.size 3 i0 _ 1 8 Tryz.underlying22 hi hz0 hz1 hz2 rfl (by omega) _ _ _ rfl (World.ownsRow_made w #[] 0 (Nat.le_refl _) (Nat.zero_le _) (by simp)) ad n c news rfl ?qc1 ?qc2 ?qc3 ?qc4 ?qc5 ?qc6 ?_)
  case qc1=>exact HL.out
  case qc2=>exact fun j u hj=>Lib.cell?_alloc_some _ (HC.out j u hj)
  case qc3=>exact HO.out
  case qc4=>have:=HN.out;unfold maxLen;omega
  case qc5=>have:=HN.out;omega
  case qc6=>simp
  intro v' w1 hown hgrow hnil;have hb:Below w.heap.size w w1:=((Below.refl _ w).alloc (Nat.le_refl _) _).grown hgrow (by simp) (by intro k hk;simp[Value.ownBlock]at hk;omega)
  have HE:Hid (∃a' c',v'=.slice a' n c'/\KRow w1 .i64 a' n c' f/\NewAt w w1 a' n c'):=by
   rcases hown.2 with ⟨rfl,h0⟩|⟨g,cap,cur,rfl,hge,hh,h1,h2,_,hcs⟩
   · subst h0;exact⟨none,0,rfl,KRow.nought _ _ _ _ (Nat.zero_le _) _,.inl ⟨rfl,rfl,rfl⟩⟩
   · refine⟨some ⟨g,0,none⟩,cap,rfl,⟨h1,h2,.inr ⟨g,0,rfl,Row.lt (t:=3) hh,fun j hj => ?_⟩⟩,.inr ⟨g,rfl,hge,Free.of_block hh⟩⟩;have:=hown.cells (g:=g) rfl j _ (HR.out j hj)
     rwa [show(⟨g,0,none⟩:Addr).add j=⟨g,0+j,none⟩by unfold Addr.add;split<;>simp_all]at this
  have HB:=Lib.hid hb;clear hown hgrow hnil hb;go_wp2;go_ret;obtain⟨a',c',rfl,hr,hn⟩:=HE.out;exact⟨a',c',rfl,hr,hn,HB.out⟩
theorem cloneI_any (a : Option Addr) (n c : Nat) (f : Nat -> Int) (w : World) (h : KRow w .i64 a n c f) (hn : n <= 1000000) :
    Calls Tryz.prog 100 #[.slice a n c] w fun e w'=>∃a' c',e=.returned (.slice a' n c')/\KRow w' .i64 a' n c' f/\Below w.heap.size w w' :=
 (cloneI_new a n c f w h hn).mono fun _ _ ⟨a',c',h1,h2,_,h3⟩=>⟨a',c',h1,h2,h3⟩
def kcs(ki:IntKind)(f:Nat->Int):Nat->List Value
 | 0 => []
 | k+1=>kcs ki f k ++ [.int ki (f k)]
theorem kcs_length(ki:IntKind)(f:Nat->Int):∀k,(kcs ki f k).length=k
 | 0=>rfl
 | k+1=>by unfold kcs;rw[List.length_append,kcs_length ki f k];rfl
theorem kcs_get (ki : IntKind) (f : Nat -> Int) : ∀ k j, j < k -> (kcs ki f k)[j]? = some (.int ki (f j))
 | 0,j,h=>absurd h (Nat.not_lt_zero _)
 | k+1,j,h=>by
  have hl:=kcs_length ki f k;unfold kcs
  rcases Nat.lt_or_ge j k with h1|h1
  · rw[List.getElem?_append_left (by omega)];exact kcs_get ki f k j h1
  · obtain rfl:j=k:=by omega
    rw[List.getElem?_append_right (by omega),hl,Nat.sub_self]
    rfl
theorem KRow.of_own{w:World}{base:Nat}{e:TypeId}{v:Value}{n:Nat}{ki:IntKind}{f:Nat->Int}(h:w.ownsRow base e 1 v n (kcs ki f n)):∃a c,v=.slice a n c/\KRow w ki a n c f:=by
 rcases h.2 with ⟨rfl,rfl⟩|⟨g,cap,cur,rfl,_,hh,h1,h2,_,hcs⟩
 · exact⟨none,0,rfl,KRow.nought _ _ _ _ (Nat.zero_le _) _⟩
 · refine⟨some ⟨g,0,none⟩,cap,rfl,h1,h2,.inr ⟨g,0,rfl,Row.lt (t:=e) hh,fun j hj => ?_⟩⟩;have:=h.cells (g:=g) rfl j _ (kcs_get ki f n j hj)
   rwa [show(⟨g,0,none⟩:Addr).add j=⟨g,0+j,none⟩by unfold Addr.add;split<;>simp_all]at this
theorem own_below{w w':World}{base:Nat}{e:TypeId}{size:Nat}{v:Value}{n:Nat}{xs:List Value}(h:w.ownsRow base e size v n xs)(hb:Below w.heap.size w w'):w'.ownsRow base e size v n xs:=by
 refine h.kept (row:=none) ⟨hb.os,hb.tape,hb.output,hb.size,fun k hk _=>hb.block k hk⟩ ?_
 cases v.ownBlock with
 | none=>exact .inl rfl
 | some k=>exact .inr (by simp)
theorem own_setCell{w:World}{base:Nat}{e:TypeId}{size:Nat}{v:Value}{n:Nat}{xs:List Value}(h:w.ownsRow base e size v n xs)(k o:Nat)(u:Value)(hk:some k≠v.ownBlock):(w.setCell ⟨k,o,none⟩ u).ownsRow base e size v n xs :=
 h.kept (row:=some k) ⟨rfl,rfl,rfl,by simp,fun j hj hne=>(Far.setCell w k o u).block j (fun e=>hne (by rw[e])) hj⟩ (.inr (fun e=>hk e.symm))
theorem Bag.own{w0 w:World}{B:World->Prop}{base:Nat}{e:TypeId}{size:Nat}{v:Value}{n:Nat}{xs:List Value}(h:Bag w0 B w)(q:w.ownsRow base e size v n xs):Bag w0 (fun y=>y.ownsRow base e size v n xs/\B y) w:=h.add (fun _ _ hb q=>own_below q hb) q
end Go.Proofs.YtdmmenaejkpnjaaGreatDoor
namespace Go.Proofs.YtdmmenaejkpnjaaGreatDoor
open Go.RowKit
attribute [local go_sem ↓] Go.wp_at_zero Go.wp_at_succ
def NatOf3(w w':World)(e:Ending)(N:Nat):Prop:=∃a n c,e=.returned (.agg #[.slice a n c])/\NatIs w' (.agg #[.slice a n c]) N/\Below w.heap.size w w'
theorem NatOut.three{w w':World}{e:Ending}{N:Nat}(h:NatOut w w' e N):NatOf3 w w' e N:=by
 obtain⟨v,h1,⟨a,n,c,f,h2,h3,h4,h5⟩,h6⟩:=h;exact⟨a,n,c,by rw[h1,h2],⟨a,n,c,f,rfl,h3,h4,h5⟩,h6⟩
def SubOf3(w w':World)(e:Ending)(N:Nat)(b:Bool):Prop:=∃a n c,e=.returned (.tuple #[.agg #[.slice a n c],.bool b])/\NatIs w' (.agg #[.slice a n c]) N/\Below w.heap.size w w'
end Go.Proofs.YtdmmenaejkpnjaaGreatDoor
namespace Go.Proofs.YtdmmenaejkpnjaaGreatDoor
open Go.RowKit
def PL(w wr:World)(V:Int):Prop:=Below w.heap.size w wr/\RS wr (w.heap.size+1)/\∃a n c m,Slot2 wr (w.heap.size+1+1) (.slice a n c) (.bool m)/\IntAt wr a n c m V
end Go.Proofs.YtdmmenaejkpnjaaGreatDoor
namespace Go.Proofs.YtdmmenaejkpnjaaGreatDoor
open Go.RowKit
attribute [local go_sem ↓] Go.wp_at_zero Go.wp_at_succ
def DivOf3(w w':World)(e:Ending)(N M:Nat)(b:Bool):Prop:=∃a n c a2 n2 c2,e=.returned (.tuple #[.agg #[.slice a n c],.agg #[.slice a2 n2 c2],.bool b])/\NatIs w' (.agg #[.slice a n c]) N/\NatIs w' (.agg #[.slice a2 n2 c2]) M/\Below w.heap.size w w'
theorem DivOut.three{w w':World}{e:Ending}{N M:Nat}{b:Bool}(h:DivOut w w' e N M)(hb:decide (M≠0)=b):DivOf3 w w' e (N / M) (modz N M) b:=by
 obtain⟨v,u,h1,⟨a,n,c,f,h2,h3,h4,h5⟩,⟨a',n',c',f',h2',h3',h4',h5'⟩,h6⟩:=h;exact⟨a,n,c,a',n',c',by rw[h1,h2,h2',hb],⟨a,n,c,f,rfl,h3,h4,h5⟩,⟨a',n',c',f',rfl,h3',h4',h5'⟩,h6⟩
def TP(k1 k2 k7:Nat)(a:Option Addr)(n c:Nat)(m:Bool)(Z:Int)(a2:Option Addr)(n2 c2:Nat)(m2:Bool)(Y:Int)(y:World):Prop :=
 RS y k2/\RS y k1/\IntAt y a n c m Z/\IntAt y a2 n2 c2 m2 Y/\Slot2 y k7 (.slice a2 n2 c2) (.bool m2)
end Go.Proofs.YtdmmenaejkpnjaaGreatDoor
namespace Go.Proofs.YtdmmenaejkpnjaaGreatDoor
open Go.RowKit
theorem d10_lt(Z k:Nat):d10 Z k<10:=Nat.mod_lt _ (by omega)
theorem str_append(a b:List UInt8):str a++str b=str (a++b):=by
 refine str_of ?_
 show(str a++str b).data.toList=_
 rw[ByteArray.data_append]
 simp[str]
theorem sdig_snoc (N : Nat) : ∀ n, sdig N (n + 1) = sdig (N / 10) n ++ [dgt N 0]
 | 0=>rfl
 | n+1=>by
  rw[sdig,sdig_snoc N n,sdig]
  have e:dgt (N / 10) n=dgt N (n+1):=by
   unfold dgt;rw[Nat.div_div_eq_div_mul,Nat.pow_succ,Nat.mul_comm 10]
  rw[e];rfl
theorem extract_one{s:ByteArray}{k:Nat}(hk:k<s.size):s.extract k (k+1)=str [s[k]]:=by
 refine str_of ?_;rw[Lib.extract_data];have h:k<s.data.toList.length:=by simpa using hk
 rw[show k+1-k=1 by omega];rw[List.drop_eq_getElem_cons h]
 rfl
theorem rest_digit (R x n k : Nat) (hk : k < n) (h : k < (str (sdig x n)).size) :
    str (dec R)++(str (sdig x n)).extract k (k+1)=str (sdig (10*R+d10 x (n-1-k)) (dl R+1)):=by
 have hd:=d10_lt x (n-1-k)
 have hc:(str (sdig x n))[k]=dgt (10*R+d10 x (n-1-k)) 0:=by
  have h1:=sdig_get x n k hk
  have h3:(sdig x n)[k]? = some ((str (sdig x n))[k]):=by
   rw[List.getElem?_eq_getElem (by rw[sdig_length];omega)];rfl
  rw[h3]at h1;rw[Option.some.inj h1,← UInt8.toNat_inj,dgt_toNat,dgt_toNat]
  show 48+d10 x (n-1-k)=_
  rw[Nat.pow_zero,Nat.div_one]
  omega
 rw[extract_one h,str_append,sdig_snoc,hc];have e:(10*R+d10 x (n-1-k)) / 10=R:=by omega
 rw[e];rfl
theorem div_step (x y k n : Nat) (hy : 0 < y) (hk : k < n) (R : Nat) (hR : R = x / 10 ^ (n - k) % y) :
    (10*R+d10 x (n-1-k)) / y=d10 (x / y) (n-1-k)/\(10*R+d10 x (n-1-k))%y=x / 10^(n-(k+1))%y:=by
 obtain⟨m,hm⟩:∃m,n-1-k=m:=⟨_,rfl⟩
 have e1:n-k=m+1:=by omega
 have e2:n-(k+1)=m:=by omega
 rw[hm,e2];rw[e1]at hR;obtain⟨A,hA⟩:∃A,x / 10^m=A:=⟨_,rfl⟩
 have hA2:x / 10^(m+1)=A / 10:=by rw[Nat.pow_succ,← Nat.div_div_eq_div_mul,hA]
 have hd:d10 x m=A%10:=by unfold d10;rw[hA]
 have hq:d10 (x / y) m=A / y%10:=by
  unfold d10;rw[Nat.div_div_eq_div_mul,Nat.mul_comm,← Nat.div_div_eq_div_mul,hA]
 rw[hA2]at hR;rw[hA,hd,hq];obtain⟨B,hB⟩:∃B,A / 10=B:=⟨_,rfl⟩
 rw[hB]at hR;have hAB:A=10*B+A%10:=by omega
 have hBm:=Nat.div_add_mod B y;rw[← hR]at hBm;have hRl:R<y:=by rw[hR];exact Nat.mod_lt _ hy
 -- A = y * (10 * (B / y)) + (10 * R + A % 10)
 have hA3:A=y*(10*(B / y))+(10*R+A%10):=by
  have:y*(10*(B / y))=10*(y*(B / y)):=by rw[← Nat.mul_assoc,Nat.mul_comm y 10,Nat.mul_assoc]
  omega
 have hT:10*R+A%10<10*y:=by omega
 obtain⟨T,hTT⟩:∃T,10*R+A%10=T:=⟨_,rfl⟩
 rw[hTT]at hA3 hT ⊢;have g1:A / y=10*(B / y)+T / y:=by rw[hA3,Nat.mul_add_div hy]
 have g2:A%y=T%y:=by rw[hA3,Nat.mul_add_mod]
 have g3:T / y<10:=by rw[Nat.div_lt_iff_lt_mul hy];omega
 rw[g1,g2];generalize T / y=t at *;generalize B / y=u at *;exact⟨by omega,rfl⟩
theorem rdivMod_any (x y : Nat) (w : World) (hx : dl x <= 900) (hy : dl y <= 900) (hy0 : 0 < y) :
    Calls Tryz.prog 164 #[.string (str (dec x)),.string (str (dec y))] w fun e w'=>e=.returned (.tuple #[.string (str (dec (x / y))),.string (str (dec (x%y)))])/\Below w.heap.size w w':=by
 obtain⟨i0,hi,hz0,hz1,hz2⟩:=info_parts infoB;obtain⟨n,hn⟩:∃n,dl x=n:=⟨_,rfl⟩
 have hn0:0<n:=by rw[← hn];exact dl_pos x
 have hxn:x<10^n:=by rw[← hn];exact dl_lt x
 have ha:str (dec x)=str (sdig x n):=by unfold dec;rw[hn]
 have hsz:(str (sdig x n)).size=n:=by rw[str_size,sdig_length]
 rw[ha];have HRD:Hid (∀R k (h:k<(str (sdig x n)).size),str (dec R)++(str (sdig x n)).extract k (k+1)=str (sdig (10*R+d10 x (n-1-k)) (dl R+1))):=fun R k h=>rest_digit R x n k (by omega) h
 obtain⟨a,hae⟩:∃a,str (sdig x n)=a:=⟨_,rfl⟩
 rw[hae]at hsz HRD ⊢;have hb:∀R,dl R<=1000->∀wz,Calls Tryz.prog 188 #[.string (str (dec R)),.string (str (dec y))] wz fun e w'=>e=.returned (.int .i64 (cmpI R y))/\wz=w':=fun R hR wz=>rcmp_any R y wz (by omega) (by omega)
 have hs:∀R,y<=R->dl R<=1000->∀wz,Calls Tryz.prog 196 #[.string (str (dec R)),.string (str (dec y))] wz fun e w'=>e=.returned (.string (str (dec (R-y))))/\Below wz.heap.size wz w':=fun R hR hl wz=>rsub_any R (dl R) y (dl y) wz (dl_lt _) (dl_lt _) hl (by omega) hR
 obtain⟨b,hbe⟩:∃b,str (dec y)=b:=⟨_,rfl⟩
 rw[hbe]at hb hs ⊢;have CM:=Lib.hid hb;have SB:=Lib.hid hs;have HX:=Lib.hid hxn;have HI:=Lib.hid hi;have HY:=Lib.hid hy0;have hnl:n<=900:=by omega
 have HYL:=Lib.hid hy;obtain⟨z,hz,hmk⟩:=make_bytes a.size (by omega)
 have H0:Hid (WrI w (w.alloc (.cells z 5)) w.heap.size (x / y) n (.slice (some ⟨w.heap.size,0,none⟩) 0 a.size) 0) :=
  ⟨(Below.refl _ _).alloc (Nat.le_refl _) _,World.ownsRow_made w z a.size (Nat.le_refl _) (by unfold maxLen;omega) (by omega)⟩
 have HSZ:=Lib.hid hsz;have hal:a.size<=900:=by omega
 have HR0:Hid (0=x / 10^(n-0)%y):=by show _=_;rw[Nat.sub_zero,Nat.div_eq_of_lt hxn,Nat.zero_mod]
 have hd0:(⟨#[48]⟩:ByteArray)=str (dec 0):=by rw[dec_zero];rfl
 have HD0:=Lib.hid hd0;clear hb hs hxn hi hy0 hz hsz ha hae hbe hn hx hy hd0;go_enter Tryz.func164,Tryz.ntmps164;go_wp2
 go_loopw [6,7,8] (fun D rs i wr=>∃(k R:Nat) (V:Value) (r:ByteArray),k<=a.size/\i=.int .i64 k/\rs=.string r/\Hid (r=str (dec R))/\Hid (R=x / 10^(n-k)%y)/\V=D/\WrI w wr w.heap.size (x / y) n V k)
  (fun _ _ i _=>a.size-(intOf i).toNat)
 case atStart=>exact⟨0,0,_,_,by omega,rfl,rfl,HD0.out,HR0.out,rfl,H0.out⟩
 case round =>
  obtain⟨k,R,V,r,hk,rfl,rfl,hr,hR,rfl,hw⟩:=hrel
  by_cases hlt:k<a.size
  · have hkn : k < n := by have := HSZ.out; omega
    have hRD:=HRD.out R k hlt;rw[← hr.out]at hRD;obtain⟨T,hT⟩:∃T,10*R+d10 x (n-1-k)=T:=⟨_,rfl⟩
    obtain⟨g1,g2⟩:=div_step x y k n HY.out hkn R hR.out;rw[hT]at g1 g2 hRD;have hRl:R<y:=by rw[hR.out];exact Nat.mod_lt _ HY.out
    have hdR:dl R<=900:=by
     have h1:=HYL.out;refine Nat.le_trans (dl_le R (dl y) (dl_pos y) (Nat.lt_trans hRl (dl_lt y))) h1
    have hTl:T<10^(dl R+1):=by
     have h1:=dl_lt R;have h2:=d10_lt x (n-1-k);rw[Nat.pow_succ];omega
    have hT10:T<10*y:=by have h2:=d10_lt x (n-1-k);omega
    have hdT:dl T<=1000:=by have:=dl_le T (dl R+1) (by omega) hTl;omega
    have TR:Hid (∀wz,Calls Tryz.prog 111 #[.string (r++a.extract k (k+1))] wz fun e w'=>e=.returned (.string (str (dec T)))/\wz=w'):=by
     intro wz;rw[hRD];exact trim_any T (dl R+1) wz (by omega) hTl (by omega)
    have HT0:Hid (str (dec T)=str (dec (T-0*y))/\0*y<=T):=⟨by simp,by simp⟩
    obtain⟨t,ht⟩:∃t,str (dec T)=t:=⟨_,rfl⟩
    rw[ht]at TR HT0;have G1:=Lib.hid g1;have G2:=Lib.hid g2;have HW:=Lib.hid hw;have HDT:=Lib.hid hdT;have HT10:=Lib.hid hT10;have hrsz:r.size<=900:=by rw[hr.out,str_size];unfold dec;rw[sdig_length];exact hdR
    clear hRD g1 g2 hRl hdR hTl hT10 hdT ht hw hr hR hT
    go_wp2_with (go_at_call 111;refine(TR.out _).mono ?_;rintro e w1 ⟨rfl,rfl⟩)
    go_loopw [7,9] (fun rs c wi=>∃(cc:Nat) (r2:ByteArray),cc<=9/\c=.int .i64 cc/\rs=.string r2/\Hid (r2=str (dec (T-cc*y))/\cc*y<=T)/\WrI w wi w.heap.size (x / y) n V k)
     (fun _ c _=>10-(intOf c).toNat)
    case atStart=>exact⟨0,_,by omega,rfl,rfl,HT0.out,HW.out⟩
    case round =>
     obtain⟨cc,r2,hcc,rfl,rfl,hr2,hwi⟩:=hrel;have hdS:dl (T-cc*y)<=1000:=Nat.le_trans (dl_le _ (dl T) (dl_pos T) (Nat.lt_of_le_of_lt (Nat.sub_le _ _) (dl_lt T))) HDT.out;have CMS:=CM.out (T-cc*y) hdS;rw[← hr2.out.1]at CMS
     by_cases hge:y<=T-cc*y
     · obtain⟨q,hq⟩:=cmp_pos hge;rw[hq]at CMS;have SBS:=SB.out (T-cc*y) hge hdS;rw[← hr2.out.1]at SBS;have hmul:(cc+1)*y=cc*y+y:=by rw[Nat.add_mul,Nat.one_mul]
       have hnx:(T-cc*y-y=T-(cc+1)*y)/\(cc+1)*y<=T:=⟨by rw[hmul];omega,by rw[hmul];have:=HY.out;omega⟩
       have hc9:cc+1<=9:=by
        rcases Nat.lt_or_ge cc 9 with h|h
        · omega
        · have h1:=Nat.mul_le_mul_right y (show 10<=cc+1 by omega);rw[hmul]at h1;have:=HT10.out;omega
       have HNX:Hid (str (dec (T-cc*y-y))=str (dec (T-(cc+1)*y))/\(cc+1)*y<=T):=⟨by rw[hnx.1],hnx.2⟩
       obtain⟨t2,ht2⟩:∃t2,str (dec (T-cc*y-y))=t2:=⟨_,rfl⟩
       rw[ht2]at HNX SBS;have C1:=Lib.hid CMS;have S1:=Lib.hid SBS;have HWI:=Lib.hid hwi;have d1:decide ((cc:Int)<10)=true:=decide_eq_true (by omega);clear CMS SBS hmul hnx hge hq hdS hr2 hwi ht2;go_wp2_with fail;go_at_call 188;refine(C1.out _).mono ?_;rintro e w2 ⟨rfl,rfl⟩;go_wp2_with fail;go_at_call 196;refine(S1.out _).mono ?_;rintro e w3 ⟨rfl,hb3⟩;have HW3:Hid (WrI w w3 w.heap.size (x / y) n V k):=⟨HWI.out.below.trans (hb3.mono HWI.out.below.size),HWI.out.own.below hb3⟩
       clear hb3;go_wp2
       go_roundw
       case rel=>exact⟨cc+1,t2,hc9,by go_num,rfl,HNX.out,HW3.out⟩
       case measure=>simp[intOf];omega
     · rw[cmp_neg (show T-cc*y<y by omega)]at CMS;have C1:=Lib.hid CMS;have hy0:=HY.out
       have hqT:T / y=cc:=by
        have h1:T=cc*y+(T-cc*y):=by have:=hr2.out.2;omega
        rw[h1,Nat.add_comm,Nat.add_mul_div_right _ _ hy0,Nat.div_eq_of_lt (by omega)];omega
       have hrT:T%y=T-cc*y:=by
        have h1:T=cc*y+(T-cc*y):=by have:=hr2.out.2;omega
        have h2:(cc*y+(T-cc*y))%y=T-cc*y:=by rw[Nat.add_comm,Nat.add_mul_mod_self_right,Nat.mod_eq_of_lt (by omega)]
        rw[← h1]at h2;exact h2
       obtain⟨yy,hyy⟩:∃yy,48+cc=yy:=⟨_,rfl⟩
       have e2:(48:Int)+(cc:Int)=(yy:Int):=by omega
       have e3:(yy:Int)%256=(yy:Int):=by omega
       have HYD:Hid (yy=dg (x / y) (n-1-k)):=by show _=_;rw[dg_d10,← G1.out,hqT,hyy]
       have HRN:Hid (r2=str (dec (T-cc*y))/\T-cc*y=x / 10^(n-(k+1))%y):=⟨hr2.out.1,by rw[← hrT];exact G2.out⟩
       have HWI:=Lib.hid hwi;have hzr:w.heap.size<=wr.heap.size:=hwi.below.size;have hkn1:k+1<=a.size:=hlt;have hccl:cc<=9:=hcc;clear CMS hge hdS hr2 hwi hqT hrT hyy hy0;go_wp2_with fail;go_at_call 188;refine(C1.out _).mono ?_;rintro e w2 ⟨rfl,rfl⟩
       go_wp2_with (at_builtin;refine wpList_append_own _ rfl _ _ 175 rfl w.heap.size 5 i0 (.int .u8 0) 1 1 Tryz.underlying175 HI.out hz0 hz1 hz2 rfl (by decide) _ _ _ rfl (World.ownsRow.alloc HWI.out.own _) ⟨wr.heap.size,0,none⟩ 1 1 [.int .u8 yy] rfl rfl (cell_one_at _ _ _) (one_cell_list _ _) (by unfold maxLen;omega) (by omega) (by rw[World.size_alloc];omega) ?_;intro v' w5 hown' hgrow _)
       have hb5:Below w.heap.size w w5:=(HWI.out.below.alloc hzr _).grown hgrow (by rw[World.size_alloc];omega) (fun q hq=>(World.ownsRow.lt HWI.out.own q hq).1)
       have hown2:OwnL w5 w.heap.size 5 .u8 v' (k+1) (fun j=>dg (x / y) (n-1-j)):=by
        rw[cl_snoc,cl_congr (g:=fun j=>dg (x / y) (n-1-j)) (fun j hj=>by
         by_cases e:j=k
         · rw[if_pos e,HYD.out,e]
         · rw[if_neg e])]at hown'
        exact hown'
       have HG5:=Lib.hid (show WrI w w5 w.heap.size (x / y) n v' (k+1)from⟨hb5,hown2⟩);clear hown' hgrow hb5 hown2;go_wp2
       go_roundw
       case rel=>exact⟨k+1,T-cc*y,v',r2,hkn1,by go_num,rfl,HRN.out.1,HRN.out.2,rfl,HG5.out⟩
       case measure=>simp[intOf];omega
  · obtain rfl : k = a.size := by omega
    have hsz':=HSZ.out;have hRx:R=x%y:=by rw[hR.out,hsz',Nat.sub_self,Nat.pow_zero,Nat.div_one]
    have hdx:=Nat.div_le_self x y
    rcases hw.own.cases with ⟨hV,hk0⟩|⟨g,c2,rfl,hc2,hgb,hgl,hgc,hgf⟩
    · exfalso;omega
    · have hcv:=run_convert_bytes_arg (P:=Tryz.prog) (w:=wr) 175 5 Tryz.underlying175 Tryz.underlying5 g 0 a.size c2 ((List.range a.size).map fun j=>((dg (x / y) (n-1-j):Nat):Int)) (by simp) (fun j hj=>by rw[hgc j hj];simp[hj]) 9 Tryz.underlying9
      have hst:strOfNums ((List.range a.size).map fun j=>((dg (x / y) (n-1-j):Nat):Int))=str (sdig (x / y) n):=by
       rw[hsz'];refine str_of ?_;rw[strOfNums_data]
       apply List.ext_getElem?
       intro j
       by_cases hj:j<n
       · rw[sdig_get (x / y) n j hj,List.getElem?_map,List.getElem?_map,List.getElem?_range hj];simp only[Option.map_some];rw[Int.toNat_natCast];rfl
       · rw[List.getElem?_eq_none (by simp;omega),List.getElem?_eq_none (by rw[sdig_length];omega)]
      rw[hst]at hcv;have HT:=Lib.hid (trim_any (x / y) n wr (by omega) (Nat.lt_of_le_of_lt hdx HX.out) (by omega));have HB:=Lib.hid hw.below;have HRR:Hid (r=str (dec (x%y))):=by show _=_;rw[hr.out,hRx]
      clear hw hgc hgf hst hr hR hRx hsz';go_wp2_with fail;go_at_call 111;refine HT.out.mono ?_;rintro e w7 ⟨rfl,rfl⟩;clear hcv;go_wp2;go_ret2;exact⟨by rw[HRR.out];rfl,HB.out⟩
end Go.Proofs.YtdmmenaejkpnjaaGreatDoor
namespace Go.Proofs.YtdmmenaejkpnjaaGreatDoor
open Go.RowKit
attribute [local go_sem ↓] Go.wp_at_zero Go.wp_at_succ
def rB(Z:Int):Bool:=decide (Z<0)
def rS(Z:Int):ByteArray:=str (dec Z.natAbs)
def RTold(w w':World)(e:Ending)(Z:Int):Prop:=e=.returned (.agg #[.bool (rB Z),.string (rS Z)])/\Below w.heap.size w w'
def put2(y:World)(k:Nat)(x z:Value):World:=(y.setCell ⟨k,0,none⟩ x).setCell ⟨k,1,none⟩ z
theorem RTold.fin{w w2:World}{k:Nat}{Y:Int}{b:Bool}{t:ByteArray}(hb:Below w.heap.size w w2)(hk:w.heap.size<=k)(h1:rB Y=b)(h2:rS Y=t):RTold w (put2 w2 k (.bool b) (.string t)) (.returned (.agg #[.bool b,.string t])) Y :=
 ⟨by rw[h1,h2],(hb.setCell hk _).setCell hk _⟩
theorem dec_is0(N:Nat):((str (dec N)).toList == [48])=decide (N=0):=by
 have e:(str (dec N)).toList=dec N:=by rw[ByteArray.toList_eq];rfl
 rw[e,Bool.eq_iff_iff,beq_iff_eq,decide_eq_true_eq]
 constructor
 · intro h;have:=congrArg numOf h;unfold dec at this;rw[numOf_sdig,Nat.mod_eq_of_lt (dl_lt N)]at this
   simpa[numOf]using this
 · intro h;rw[h,dec_zero]
theorem rsgn_B(b:Bool)(N:Nat):rB (sgn b N)=(b && !decide (N=0)):=sgn_neg b N
theorem rsgn_S(b:Bool)(N:Nat):rS (sgn b N)=str (dec N):=by unfold rS;rw[sgn_abs]
theorem rOf_any (b : Bool) (N n : Nat) (w : World) (hn : 0 < n) (hN : N < 10 ^ n) (hl : n <= 10000000) :
    Calls Tryz.prog 189 #[.bool b,.string (str (sdig N n))] w fun e w'=>RTold w w' e (sgn b N):=by
 have TR:=Lib.hid (fun wz=>trim_any N n wz hn hN hl);have h0:=dec_is0 N;obtain⟨s,hs⟩:∃s,str (sdig N n)=s:=⟨_,rfl⟩
 obtain⟨t,ht⟩:∃t,str (dec N)=t:=⟨_,rfl⟩
 have hx:=rsgn_B b N;have hy:=rsgn_S b N;rw[ht]at TR h0 hy;rw[hs]at TR ⊢;obtain⟨z,hz⟩:∃z,decide (N=0)=z:=⟨_,rfl⟩
 rw[hz]at h0 hx;have HX:=Lib.hid hx;have HY:=Lib.hid hy;clear hx hy hs ht hz hN hn hl
 cases b
 · have HE:Hid (RTold w (w.alloc (.cells #[.bool false,.string t] 159)) (.returned (.agg #[.bool false,.string t])) (sgn false N)):=⟨by rw[HX.out,HY.out];rfl,(Below.refl _ _).alloc (Nat.le_refl _) _⟩
   go_enter Tryz.func189,Tryz.ntmps189
   go_wp2_with (go_at_call 111;refine(TR.out _).mono ?_;rintro e w2 ⟨rfl,rfl⟩)
   exact bodyPost_ret (v:=.agg #[.bool false,.string t]) (by simp[results,Tryz.results189,go_sem]) rfl HE.out
 · have HE:Hid (RTold w (w.alloc (.cells #[.bool (!z),.string t] 159)) (.returned (.agg #[.bool (!z),.string t])) (sgn true N)):=⟨by rw[HX.out,HY.out];rfl,(Below.refl _ _).alloc (Nat.le_refl _) _⟩
   cases z
   all_goals
    go_enter Tryz.func189,Tryz.ntmps189
    go_wp2_with (go_at_call 111;refine(TR.out _).mono ?_;rintro e w2 ⟨rfl,rfl⟩)
    exact bodyPost_ret (v:=_) (by simp[results,Tryz.results189,go_sem]) rfl HE.out
theorem rOf_dec (b : Bool) (N : Nat) (w : World) (hl : dl N <= 10000000) :
    Calls Tryz.prog 189 #[.bool b,.string (str (dec N))] w fun e w'=>RTold w w' e (sgn b N):=rOf_any b N (dl N) w (dl_pos N) (dl_lt N) hl
theorem rFrom_any (X : Int) (w : World) (h : -9223372036854775808 <= X /\ X <= 9223372036854775807) :
    Calls Tryz.prog 119 #[.int .i64 X] w fun e w'=>RTold w w' e X:=by
 have BB:=Lib.hid ((Bag.start w).box2 (.bool false) (.string ⟨#[]⟩) 159)
 by_cases h0:X<0
 · obtain⟨y,hy⟩:∃y:Nat,(y:Int) = -X:=⟨(-X).toNat,by omega⟩
   obtain⟨y1,hy1⟩:∃y1:Nat,(y1:Int) = -X-1:=⟨(-X-1).toNat,by omega⟩
   obtain⟨X1,hX1⟩:∃X1,X+1=X1:=⟨_,rfl⟩
   have e2:0-X1=(y1:Int):=by omega
   have e3:(y1:Int)+1=(y:Int):=by omega
   have d0:decide (X<0)=true:=decide_eq_true h0;have HB:Hid (rB X=true/\rS X=str (dec y)):=⟨by unfold rB;exact d0,by unfold rS;rw[show X.natAbs=y by omega]⟩
   have HO:=Lib.hid (fun wz=>rof_any y wz (by omega));obtain⟨t,ht⟩:∃t,str (dec y)=t:=⟨_,rfl⟩
   rw[ht]at HO HB;have hb1 : -9223372036854775807<=X1/\X1<=0:=by omega
   have hb3:(y1:Int)<=9223372036854775807:=by omega
   have h':=h.1;clear hy hy1 ht h;go_enter Tryz.func119,Tryz.ntmps119;go_wp2_with fail;go_at_call 174;refine(HO.out _).mono ?_;rintro e w2 ⟨rfl,hb2⟩;have B2:=BB.out.go hb2;have hs2:=B2.now.1;have hc1:=hs2.cell;have hc2:=hs2.cell1;have hf1:=hs2.free;have hf2:=hs2.free1;have HS:=hs2.set (.bool true) (.string t);have HE:=Lib.hid (RTold.fin B2.below (Nat.le_refl _) HB.out.1 HB.out.2);unfold put2 at HE;clear hb2 B2 hs2;go_wp2;exact bodyPost_ret (by simp[results,Tryz.results119,go_sem,HS]) rfl HE.out
 · obtain⟨y,rfl⟩:∃y:Nat,X=(y:Int):=⟨X.toNat,by omega⟩
   have d0:decide ((y:Int)<0)=false:=decide_eq_false h0;have HB:Hid (rB (y:Int)=false/\rS (y:Int)=str (dec y)):=⟨by unfold rB;exact d0,by unfold rS;simp⟩
   have HO:=Lib.hid (fun wz=>rof_any y wz (by omega));obtain⟨t,ht⟩:∃t,str (dec y)=t:=⟨_,rfl⟩
   rw[ht]at HO HB;have h':=h.2;clear ht h;go_enter Tryz.func119,Tryz.ntmps119;go_wp2_with fail;go_at_call 174;refine(HO.out _).mono ?_;rintro e w2 ⟨rfl,hb2⟩;have B2:=BB.out.go hb2;have hs2:=B2.now.1;have hc1:=hs2.cell;have hc2:=hs2.cell1;have hf1:=hs2.free;have hf2:=hs2.free1;have HS:=hs2.set (.bool false) (.string t);have HE:=Lib.hid (RTold.fin B2.below (Nat.le_refl _) HB.out.1 HB.out.2);unfold put2 at HE;clear hb2 B2 hs2;go_wp2;exact bodyPost_ret (by simp[results,Tryz.results119,go_sem,HS]) rfl HE.out
theorem rSmall_any (Z : Int) (w : World) (hl : dl Z.natAbs <= 1000) :
    Calls Tryz.prog 191 #[.agg #[.bool (rB Z),.string (rS Z)]] w fun e w'=>e=.returned (.tuple #[.int .i64 (fitI Z),.bool (fitB Z)])/\Below w.heap.size w w':=by
 have B0:=((Bag.start w).box2 (.bool (rB Z)) (.string (rS Z)) 159)
 have q0:=B0.now.1.cell;have q1:=B0.now.1.cell1;have hu:=fun wz=>runi_any Z.natAbs wz hl
 rw[show str (dec Z.natAbs)=rS Z from rfl]at hu;have BB:=Lib.hid B0;obtain⟨N,hN⟩:∃N,Z.natAbs=N:=⟨_,rfl⟩
 rw[hN]at hu;unfold uI at hu;generalize rS Z=s at *
 by_cases hbig:N<18446744073709551616
 · rw [if_pos hbig, decide_eq_true hbig] at hu; have HU := Lib.hid hu; clear hu B0
   by_cases hz:Z<0
   · rw [show rB Z = true from decide_eq_true hz] at *; have hZN : Z = -(N : Int) := by omega
     by_cases h63:N<=9223372036854775808
     · have HE:Hid (fitI Z = -(N:Int)/\fitB Z=true):=by
         have:fitB Z=true:=decide_eq_true (by omega);exact⟨by unfold fitI;rw[this,if_pos rfl];exact hZN,this⟩
       have d2:decide ((9223372036854775808:Int)<(N:Int))=false:=decide_eq_false (by omega);obtain⟨N1,hN1⟩:∃N1,N-1=N1:=⟨_,rfl⟩
       have e1:(N:Int)-1=(N1:Int):=by omega
       have b1:(N1:Int)<=9223372036854775807:=by omega
       have b2:(1:Int)<=(N:Int):=by omega
       have e2:0-(N1:Int) = -(N1:Int):=by omega
       have e3 : -(N1:Int)-1 = -(N:Int):=by omega
       clear hz hZN hN hbig h63 hN1 hl;go_enter Tryz.func191,Tryz.ntmps191
       go_wp2_with (go_at_call 232;refine(HU.out _).mono ?_;rintro e w2 ⟨rfl,rfl⟩)
       go_ret2;exact⟨ret_ib (by rw[HE.out.1]) HE.out.2.symm,BB.out.below⟩
     · have HE:Hid (fitI Z=0/\fitB Z=false):=by
         have:fitB Z=false:=decide_eq_false (by omega);exact⟨by unfold fitI;rw[this];rfl,this⟩
       have d2:decide ((9223372036854775808:Int)<(N:Int))=true:=decide_eq_true (by omega);clear hz hZN hN hbig h63 hl;go_enter Tryz.func191,Tryz.ntmps191
       go_wp2_with (go_at_call 232;refine(HU.out _).mono ?_;rintro e w2 ⟨rfl,rfl⟩)
       go_ret2;exact⟨ret_ib HE.out.1.symm HE.out.2.symm,BB.out.below⟩
   · rw [show rB Z = false from decide_eq_false hz] at *; have hZN : Z = (N : Int) := by omega
     by_cases h63:N<=9223372036854775807
     · have HE:Hid (fitI Z=(N:Int)/\fitB Z=true):=by
         have:fitB Z=true:=decide_eq_true (by omega);exact⟨by unfold fitI;rw[this,if_pos rfl];exact hZN,this⟩
       have d1:decide ((9223372036854775807:Int)<(N:Int))=false:=decide_eq_false (by omega);have hl':(N:Int)<=9223372036854775807:=by omega
       clear hz hZN hN hbig h63 hl;go_enter Tryz.func191,Tryz.ntmps191
       go_wp2_with (go_at_call 232;refine(HU.out _).mono ?_;rintro e w2 ⟨rfl,rfl⟩)
       go_ret2;exact⟨ret_ib HE.out.1.symm HE.out.2.symm,BB.out.below⟩
     · have HE:Hid (fitI Z=0/\fitB Z=false):=by
         have:fitB Z=false:=decide_eq_false (by omega);exact⟨by unfold fitI;rw[this];rfl,this⟩
       have d1:decide ((9223372036854775807:Int)<(N:Int))=true:=decide_eq_true (by omega);clear hz hZN hN hbig h63 hl;go_enter Tryz.func191,Tryz.ntmps191
       go_wp2_with (go_at_call 232;refine(HU.out _).mono ?_;rintro e w2 ⟨rfl,rfl⟩)
       go_ret2;exact⟨ret_ib HE.out.1.symm HE.out.2.symm,BB.out.below⟩
 · rw[if_neg hbig,decide_eq_false hbig]at hu;have HU:=Lib.hid hu
   have HE:Hid (fitI Z=0/\fitB Z=false):=by
    have:fitB Z=false:=decide_eq_false (by omega);exact⟨by unfold fitI;rw[this];rfl,this⟩
   clear hu hbig hN B0 hl;generalize rB Z=b at *;go_enter Tryz.func191,Tryz.ntmps191
   go_wp2_with (go_at_call 232;refine(HU.out _).mono ?_;rintro e w2 ⟨rfl,rfl⟩)
   go_ret2;exact⟨ret_ib HE.out.1.symm HE.out.2.symm,BB.out.below⟩
theorem Slot.set1{w:World}{k:Nat}{x:Value}(h:Slot w k x)(u:Value):Slot (w.setCell ⟨k,0,none⟩ u) k u :=
 ⟨World.cell?_setCell_same _ _ _ h.cell,by simp[h.free],by simpa using h.lt⟩
theorem Slot.other{w:World}{k j:Nat}{x:Value}(h:Slot w j x)(u:Value)(hj:j≠k):Slot (w.setCell ⟨k,0,none⟩ u) j x :=
 ⟨by rw[World.cell?_setCell_other _ _ _ _ (fun e'=>by cases e'<;>exact hj rfl)];exact h.cell,by simp[h.free],by simpa using h.lt⟩
end Go.Proofs.YtdmmenaejkpnjaaGreatDoor
namespace Go.Proofs.YtdmmenaejkpnjaaGreatDoor
open Go.RowKit
def readN(w:World)(k:Nat):Nat :=
 match w.cell? ⟨k,0,none⟩with
 | some (.slice (some ad) n _)=>val (fun j=>match w.cell? ⟨ad.block,ad.off+j,none⟩with
  | some (.int _ x)=>x.toNat
  | _=>0) n
 | _=>0
theorem readN_is{w:World}{k:Nat}{a:Option Addr}{n c N:Nat}(hs:Slot w k (.slice a n c))(h:NatIs w (.agg #[.slice a n c]) N):readN w k=N:=by
 obtain⟨a',n',c',f,e,⟨h1,h2,h3,h4⟩,hv,ht⟩:=h
 cases e
 unfold readN;rw[hs.cell]
 rcases h4 with ⟨rfl,hc⟩|⟨b,off,rfl,hb,hcc⟩
 · have hn:n=0:=by omega
   subst hn;simp only[];rw[← hv];rfl
 · simp only[];rw[← hv];refine val_congr n (fun j hj => ?_);rw[hcc j hj]
   simp
def GI(w wr:World)(A B:Nat):Prop:=Below w.heap.size w wr/\∃a n c a2 n2 c2,Slot wr w.heap.size (.slice a n c)/\NatIs wr (.agg #[.slice a n c]) A/\Slot wr (w.heap.size+1) (.slice a2 n2 c2)/\NatIs wr (.agg #[.slice a2 n2 c2]) B/\Slot wr (w.heap.size+1+1) (.slice none 0 0)
theorem gcd_any (a0 : Option Addr) (n0 c0 : Nat) (b0 : Option Addr) (m0 d0 : Nat) (X Y : Nat) (w : World) (h : NatIs w (.agg #[.slice a0 n0 c0]) X) (g : NatIs w (.agg #[.slice b0 m0 d0]) Y)
    (K:Nat) (hK:K<=900000) (hX:X<4294967296^K) (hY:Y<4294967296^K) :
    Calls Tryz.prog 170 #[.agg #[.slice a0 n0 c0],.agg #[.slice b0 m0 d0]] w fun e w'=>NatOf3 w w' e (Nat.gcd X Y):=by
 have B0:=((((Bag.start w).nat h).nat g).box (.slice a0 n0 c0) 49).box (.slice b0 m0 d0) 49 |>.box (.slice none 0 0) 49
 simp only[World.size_alloc]at B0;have H0:Hid (GI w _ X Y):=⟨B0.below,a0,n0,c0,b0,m0,d0,B0.now.2.2.1,B0.now.2.2.2.2.1,B0.now.2.1,B0.now.2.2.2.1,B0.now.1⟩
 have HXY:Hid (X<4294967296^K/\Y<4294967296^K):=⟨hX,hY⟩
 clear B0 h g hX hY;go_enter Tryz.func170,Tryz.ntmps170;go_wp2
 go_loopw [] (fun wr=>∃A B:Nat,GI w wr A B/\Hid (Nat.gcd A B=Nat.gcd X Y/\A<4294967296^K/\B<4294967296^K)) (fun wr=>readN wr (w.heap.size+1))
 case atStart=>exact⟨X,Y,H0.out,rfl,HXY.out.1,HXY.out.2⟩
 case round =>
  obtain⟨A,B,⟨hbl,a,n,c,a2,n2,c2,s1,i1,s2,i2,s3⟩,hh⟩:=hrel
  by_cases h0:B=0
  · have HZ:=Lib.hid (zero_any _ B wr i2);rw[decide_eq_true h0]at HZ;have hAg:A=Nat.gcd X Y:=by have:=hh.out.1;rw[h0,Nat.gcd_zero_right]at this;exact this
    subst hAg;have BB:=Lib.hid ((((((⟨hbl,fun _ _ _ _=>trivial,trivial⟩:Bag w (fun _=>True) wr).slot s3).slot s2).slot s1).nat i1));have q2:=s2.cell;clear h0 s1 s2 s3 i1 i2 hbl hh;go_wp2_with fail;go_at_call 114;(with_reducible refine HZ.out.mono ?_);rintro e w1 ⟨rfl,hb1⟩;have B1:=BB.out.go hb1;have BB:=Lib.hid B1;obtain⟨_,_,_,f,he,hs,hv,ht⟩:=B1.now.1
    cases he
    have hnl:=NatIs.len hs;have HS:=Lib.hid hs;have HV:=Lib.hid hv;clear hb1 B1 hs hv ht q2;have q1:=BB.out.now.2.1.cell;go_wp2_with fail;go_at_call 141;refine(copied_own a n c f n w1 HS.out (Nat.le_refl _) hnl).mono ?_;rintro e w2 ⟨b,rfl,ho,hb2⟩;have hbb:w.heap.size+1+1<b:=Nat.lt_of_lt_of_le BB.out.now.2.2.2.1.lt ho.ge;have BB:=bgo BB hb2;obtain⟨gg,hg,hgv⟩:=ho.slAt hnl;have HG:=Lib.hid hg;have HGV:=Lib.hid (hgv.trans HV.out);clear ho hb2 hg hgv q1;go_wp2_with fail;go_at_call 143;refine(trimmed_pl _ n n gg w2 HG.out).mono ?_;rintro e w3 ⟨a3,n3,c3,f3,rfl,hs3,hv3,ht3,hp3,hb3⟩;have B3:=BB.out.go hb3;have hc4:=B3.now.2.2.2.1.cell;have hf4:=B3.now.2.2.2.1.free;have HE:=Lib.hid (natOut_store (u:=.slice a3 n3 c3) (k:=w.heap.size+1+1) B3.below (by omega) hs3 (hv3.trans HGV.out) ht3 (by rintro x rfl;rcases hp3 with h|h<;>cases h;simp;omega)).three;clear hs3 hv3 ht3 hb3 hp3 B3;go_wp2;exact bodyPost_ret (v:=.agg #[.slice a3 n3 c3]) (by simp[results,Tryz.results170,go_sem,hc4]) rfl HE.out
  · have HZ:=Lib.hid (zero_any _ B wr i2);rw[decide_eq_false h0]at HZ
    have DM:Hid (∀wz,NatIs wz (.agg #[.slice a n c]) A->NatIs wz (.agg #[.slice a2 n2 c2]) B->Calls Tryz.prog 171 #[.agg #[.slice a n c],.agg #[.slice a2 n2 c2]] wz fun e w'=>DivOf3 wz w' e (A / B) (A%B) true):=fun wz h g=>(divMod_any _ _ _ _ wz h g K hK hh.out.2.1).mono fun _ _ h=>by
     have:=h.three (b:=true) (by simp;exact h0);unfold modz at this;rw[if_neg h0]at this;exact this
    have hlt:A%B<B:=Nat.mod_lt _ (Nat.pos_of_ne_zero h0);have HH:Hid (Nat.gcd B (A%B)=Nat.gcd X Y/\B<4294967296^K/\A%B<4294967296^K):=⟨by rw[Nat.gcd_comm B,← Nat.gcd_rec,Nat.gcd_comm];exact hh.out.1,hh.out.2.2,by have:=hh.out.2.2;omega⟩
    have HR:Hid (readN wr (w.heap.size+1)=B):=readN_is s2 i2;have HL:=Lib.hid hlt;have BB:=Lib.hid ((((((⟨hbl,fun _ _ _ _=>trivial,trivial⟩:Bag w (fun _=>True) wr).slot s3).slot s2).slot s1).nat i2).nat i1);have q2:=s2.cell;clear h0 s1 s2 s3 i1 i2 hbl hh hlt;go_wp2_with fail;go_at_call 114;(with_reducible refine HZ.out.mono ?_);rintro e w1 ⟨rfl,hb1⟩;have BB:=bgo BB hb1;clear hb1 q2;have q1:=BB.out.now.2.2.1.cell;have q2:=BB.out.now.2.2.2.1.cell;go_wp2_with fail;go_at_call 171;(with_reducible refine(DM.out _ BB.out.now.1 BB.out.now.2.1).mono ?_);rintro e w2 ⟨aq,nq,cq,ar,nr,cr,rfl,hiq,hir,hb2⟩;have hks:w.heap.size+1+1<w2.heap.size:=(BB.out.go hb2).now.2.2.2.2.1.lt;have B2:=(((BB.out.go hb2).nat hir).box (.slice aq nq cq) 49).box (.slice ar nr cr) 49;rw[World.size_alloc]at B2;clear hiq hir hb2 q1 q2;obtain⟨t6,t5,ir,ia,ib,t1,t2,t3,_⟩:=B2.now;have c1:=t1.cell;have f1:=t1.free;have c2':=t2.cell;have f2:=t2.free;have c6:=t6.cell
    have HN:Hid (GI w (((((w2.alloc (.cells #[.slice aq nq cq] 49)).alloc (.cells #[.slice ar nr cr] 49)).setCell ⟨w.heap.size,0,none⟩ (.slice a2 n2 c2)).setCell ⟨w.heap.size+1,0,none⟩ (.slice ar nr cr)).drew) B (A%B)):=by
     have u1:=t1.set1 (.slice a2 n2 c2);have u2:=t2.other (k:=w.heap.size) (.slice a2 n2 c2) (by omega);have u3:=t3.other (k:=w.heap.size) (.slice a2 n2 c2) (by omega);have jb:=ib.storeAt t1.cell (fun _ _ h=>by cases h) (.slice a2 n2 c2);have jr:=ir.storeAt t1.cell (fun _ _ h=>by cases h) (.slice a2 n2 c2);exact⟨((B2.below.setCell (Nat.le_refl _) _).setCell (show w.heap.size<=w.heap.size+1 by omega) _).drew,a2,n2,c2,ar,nr,cr,(u1.other (k:=w.heap.size+1) (.slice ar nr cr) (by omega)).below (Below.refl _ _).drew,(jb.storeAt u2.cell (fun _ _ h=>by cases h) _).below (Below.refl _ _).drew,(u2.set1 (.slice ar nr cr)).below (Below.refl _ _).drew,(jr.storeAt u2.cell (fun _ _ h=>by cases h) _).below (Below.refl _ _).drew,(u3.other (k:=w.heap.size+1) (.slice ar nr cr) (by omega)).below (Below.refl _ _).drew⟩
    have HM:Hid (readN (((((w2.alloc (.cells #[.slice aq nq cq] 49)).alloc (.cells #[.slice ar nr cr] 49)).setCell ⟨w.heap.size,0,none⟩ (.slice a2 n2 c2)).setCell ⟨w.heap.size+1,0,none⟩ (.slice ar nr cr)).drew) (w.heap.size+1)<readN wr (w.heap.size+1)):=by
     show _<_
     obtain⟨_,x1,x2,x3,y1,y2,y3,_,_,v1,v2,_⟩:=HN.out;rw[HR.out,readN_is v1 v2];exact HL.out
    clear t6 t5 ir ia ib t1 t2 t3 B2;go_wp2_with fail
    go_region
    all_goals
     go_wp2
     go_roundw
     case rel=>exact⟨B,A%B,HN.out,HH.out⟩
     case measure=>exact HM.out
end Go.Proofs.YtdmmenaejkpnjaaGreatDoor
namespace Go.Proofs.YtdmmenaejkpnjaaGreatDoor
open Go.RowKit
attribute [local go_sem ↓] Go.wp_at_zero Go.wp_at_succ
def RT(y:World)(k:Nat):Prop:=∃b t,Slot2 y k (.bool b) (.string t)
end Go.Proofs.YtdmmenaejkpnjaaGreatDoor
namespace Go.Proofs.YtdmmenaejkpnjaaGreatDoor
open Go.RowKit
theorem Below.more{w a:World}(h:Below w.heap.size w a)(o:Obj):Below w.heap.size w (a.alloc o):=h.alloc h.size o
end Go.Proofs.YtdmmenaejkpnjaaGreatDoor
