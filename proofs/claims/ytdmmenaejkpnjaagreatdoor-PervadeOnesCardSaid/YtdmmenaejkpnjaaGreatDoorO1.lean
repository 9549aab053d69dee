/-
  Texts of this seat, laid together.
-/
import Derived.Laws.BytesArg
import Derived.Lib.ItoaNum
import Derived.IntWalk
import Derived.Test.YtdmmenaejkpnjaaGreatDoorShelf
import Derived.WalkKit
import Derived.WalkSpells
import Derived.Deep.Draws
import Derived.Lib.Hide
import Derived.Lib.TrimByte
import Derived.WalkLawsBesides
import Derived.Laws.CopyOwn
import Derived.Deep.QuietTactic
import Derived.BigQuiet
import Derived.BigRegion
import Derived.RegionTactic
import Derived.Deep.RegionWith
import Derived.StillTailTactics
import Derived.Test.YtdmmenaejkpnjaaGreatDoorRows
import Derived.Deep.RegionHeld3
import Derived.Deep.DrawnRows
import Derived.Laws.BitsLemmas
import Derived.Test.YtdmmenaejkpnjaaGreatDoorF1
import Derived.Test.YtdmmenaejkpnjaaGreatDoorF2
import Derived.Test.YtdmmenaejkpnjaaGreatDoorF3
import Derived.Test.YtdmmenaejkpnjaaGreatDoorF4
import Derived.Test.YtdmmenaejkpnjaaGreatDoorF5
import Derived.Test.YtdmmenaejkpnjaaGreatDoorF6
import Derived.Test.YtdmmenaejkpnjaaGreatDoorF7
import Derived.Test.YtdmmenaejkpnjaaGreatDoorF8
import Derived.Test.YtdmmenaejkpnjaaGreatDoorF9
import Derived.Test.YtdmmenaejkpnjaaGreatDoorF10
import Derived.Test.YtdmmenaejkpnjaaGreatDoorF11
import Derived.Test.YtdmmenaejkpnjaaGreatDoorF12
import Derived.Test.YtdmmenaejkpnjaaGreatDoorF13
import Derived.Test.YtdmmenaejkpnjaaGreatDoorF14
set_option maxHeartbeats 12800000
set_option maxRecDepth 100000
set_option linter.unusedSimpArgs false
set_option linter.unusedVariables false
namespace Go.Proofs.YtdmmenaejkpnjaaGreatDoor
open Go.RowKit
theorem nbits_eq{N b:Nat}(h1:2^b<=N)(h2:N<2^(b+1)):nbits N=b+1:=by
 have h0:N≠0:=by have:=Nat.two_pow_pos b;omega
 unfold nbits;rw[if_neg h0];have:=(Nat.le_log2 h0).2 h1;have:=(Nat.log2_lt h0).2 h2
 omega
theorem bits_val{n:Nat}{f:Nat->Nat}(hn:0<n)(hf:∀j,j<n->f j<4294967296)(ht:f (n-1)≠0):nbits (val f n)=(n-1)*32+Lib.bitLen (f (n-1)):=by
 obtain⟨m,rfl⟩:∃m,n=m+1:=⟨n-1,by omega⟩
 rw[Nat.add_sub_cancel]at *;have hx:=hf m (by omega);obtain⟨a,b,c⟩:=Lib.bitLenAux_bounds 64 (f m) (by omega) ht;have hl:Lib.bitLen (f m)=Lib.bitLenAux 64 (f m):=rfl;rw[hl];generalize Lib.bitLenAux 64 (f m)=l at *;obtain⟨k,rfl⟩:∃k,l=k+1:=⟨l-1,by omega⟩
 rw[Nat.add_sub_cancel]at b;have hB:(4294967296:Nat)^m=2^(m*32):=by rw[Nat.mul_comm,Nat.pow_mul]
 have h1:=val_lt f m (fun j hj=>hf j (by omega));rw[show m*32+(k+1)=(m*32+k)+1 by omega]
 refine nbits_eq ?_ ?_
 · rw[Nat.pow_add,val,hB,Nat.mul_comm];have:=Nat.mul_le_mul_right (2^(m*32)) b
   omega
 · rw[show m*32+k+1=(k+1)+m*32 by omega,Nat.pow_add,val];have:=Nat.mul_le_mul_right (2^(m*32)) (show f m+1<=2^(k+1)from c);rw[Nat.add_mul]at this;rw[hB]at h1 ⊢
   omega
theorem len32_any(x:Nat)(w:World)(h:x<4294967296):Calls Tryz.prog 256 #[.int .u32 x] w fun e w'=>e=.returned (.int .i64 (Lib.bitLen x:Nat))/\w=w' :=
 (Tryz.bits_Len32 x w (by omega) (by omega)).mono fun _ _ ⟨h1,h2⟩=>⟨by rw[h1,Int.toNat_natCast],h2.symm⟩
theorem bits_any(v:Value)(N:Nat)(w:World)(h:NatIs w v N):Calls Tryz.prog 254 #[v] w fun e w'=>e=.returned (.int .i64 (nbits N))/\Below w.heap.size w w':=by
 have HZ:=Lib.hid (zero_any v N);obtain⟨a,n,c,f,rfl,hs,hv,ht⟩:=h;have hz:=nat_zero hv ht;have hzz:=HZ.out (w.alloc (.cells #[.slice a n c] 49)) ⟨a,n,c,f,rfl,hs.below ((Below.refl _ _).alloc (Nat.le_refl _) _),hv,ht⟩;have s0:=Slot.new w (.slice a n c) 49
 by_cases h0:n=0
 · have hN:N=0:=hz.2 h0;subst hN;have HZ2:=Lib.hid hzz;clear hs hv ht hz hzz s0 h0;go_enter Tryz.func254,Tryz.ntmps254
   go_wp2_with (go_at_call 114;refine HZ2.out.mono ?_;rintro e w1 ⟨rfl,hb1⟩)
   go_ret;exact⟨by simp[nbits],below_alloc hb1⟩
 · rw[show decide (N=0)=false from decide_eq_false (by omega)]at hzz;obtain⟨n1,hn1⟩:∃n1,n-1=n1:=⟨_,rfl⟩
   have hb:=bits_val (by omega) hs.2.2.1 (ht.resolve_left h0);rw[hv,hn1]at hb;obtain⟨b,off,rfl,hbl,hc,hl⟩:=hs.limb (show n1<n by omega);have hnl:=NatIs.len hs;have hL:=Lib.bitLen_le (f n1) 32 (by omega) (by omega);have HLN:=Lib.hid (len32_any (f n1));generalize f n1=x at *;obtain⟨l,hl2⟩:∃l,Lib.bitLen x=l:=⟨_,rfl⟩
   rw[hl2]at hb hL HLN;have e1:(n:Int)-1=(n1:Int):=by omega
   have HB:=Lib.hid hb;have HZ2:=Lib.hid hzz;have S0:=Lib.hid s0;have i1:(n1:Int)<(n:Int):=by omega
   clear hs hv ht hz hzz s0 hb hl2 hn1;go_enter Tryz.func254,Tryz.ntmps254;go_wp2_with fail;go_at_call 114;refine HZ2.out.mono ?_;rintro e w1 ⟨rfl,hb1⟩;have S1:=S0.out.below hb1;have hc1:=S1.cell;have HB1:=Lib.hid (below_alloc hb1);have hc2:w1.cell? ⟨b,off+n1,none⟩=some (.int .u32 x):=(HB1.out.cell (p:=⟨b,off+n1,none⟩) hbl).trans hc;clear hb1 S1
   go_wp2_with (go_at_call 256;refine(HLN.out _ hl).mono ?_;rintro e w2 ⟨rfl,rfl⟩)
   go_ret;refine⟨ret_int ?_,HB1.out⟩;rw[HB.out]
   show(n1:Int)*32+(l:Int)=_
   omega
theorem or0(x:Nat)(h:x<18446744073709551616):bits .or .u64 (0:Int) (x:Int)=(x:Int):=by
 have:=u64_or_nat 0 x (by omega) h;rw[Nat.zero_or]at this;exact this
def UintOut(w w':World)(e:Ending)(N:Nat):Prop:=e=.returned (.tuple #[.int .u64 ((if N<18446744073709551616 then N else 0:Nat):Int),.bool (decide (N<18446744073709551616))])/\Below w.heap.size w w'
theorem uint_any(v:Value)(N:Nat)(w:World)(h:NatIs w v N):Calls Tryz.prog 238 #[v] w fun e w'=>UintOut w w' e N:=by
 have HZ:=Lib.hid (bits_any v N);have hnb:nbits N<=64↔N<18446744073709551616:=nbits_le;obtain⟨a,n,c,f,rfl,hs,hv,ht⟩:=h;have hzz:=HZ.out (w.alloc (.cells #[.slice a n c] 49)) ⟨a,n,c,f,rfl,hs.below ((Below.refl _ _).alloc (Nat.le_refl _) _),hv,ht⟩;have s0:=Slot.new w (.slice a n c) 49;have HZ2:=Lib.hid hzz;obtain⟨B,hB⟩:∃B,nbits N=B:=⟨_,rfl⟩
 rw[hB]at HZ2 hnb
 by_cases hbig:64<B
 · have hE:∀w',Below w.heap.size w w'->UintOut w w' (.returned (.tuple #[.int .u64 0,.bool false])) N:=by
     intro w' hb;refine⟨?_,hb⟩;have:¬N<18446744073709551616:=by omega
     rw[if_neg this,decide_eq_false this];rfl
   have HE:=Lib.hid hE;clear hE hs hv ht hzz s0 hnb hB;go_enter Tryz.func238,Tryz.ntmps238
   go_wp2_with (go_at_call 254;refine HZ2.out.mono ?_;rintro e w1 ⟨rfl,hb1⟩)
   go_ret2;exact HE.out _ (below_alloc hb1)
 · have hNl : N < 18446744073709551616 := by omega
   have hn2:n<=2:=NatIs.short (k:=2) hv ht (by omega)
   have hE:∀w',Below w.heap.size w w'->UintOut w w' (.returned (.tuple #[.int .u64 N,.bool true])) N:=by
    intro w' hb;refine⟨?_,hb⟩;rw[if_pos hNl,decide_eq_true hNl]
   have HE:=Lib.hid hE;have HS:=Lib.hid hs;have HV:=Lib.hid hv;have S0:=Lib.hid s0;have HNL:=Lib.hid hNl;clear hE hs hv ht hzz s0 hnb hB hNl;go_enter Tryz.func238,Tryz.ntmps238;go_wp2_with fail;go_at_call 254;refine HZ2.out.mono ?_;rintro e w1 ⟨rfl,hb1⟩;have S1:=Lib.hid (S0.out.below hb1);have HB1:=Lib.hid (below_alloc hb1);have hc1:=S1.out.cell;clear hb1;go_wp2_with fail
   go_loop [4,12] (fun x i=>∃k acc:Nat,k<=n/\i=.int .i64 k/\x=.int .u64 acc/\Hid (acc=val f k))
    (fun _ i=>n-(intOf i).toNat)
   case atStart=>exact⟨0,0,by omega,rfl,rfl,rfl⟩
   case round =>
    obtain⟨k,acc,hk,rfl,rfl,hacc⟩:=hrel
    by_cases hlt:k<n
    · obtain ⟨b, off, rfl, hbl, hcc, hll⟩ := (HS.out.below HB1.out).limb hlt; have hkk : k = 0 ∨ k = 1 := by omega
      rcases hkk with rfl|rfl
      · have h0:acc=0:=hacc.out;subst h0;have HV1:Hid (f 0=val f 1):=by show _=_;simp[val]
        generalize f 0=x at *;rw[Nat.add_zero]at hcc;go_wp2
        go_round
        case rel=>exact⟨1,x,by omega,rfl,vint (or0 x (by omega)),HV1.out⟩
        case measure=>simp[intOf];omega
      · have hac0:=hacc.out;have hal:acc<4294967296:=by rw[hac0];have:=val_lt f 1 (fun j hj=>HS.out.2.2.1 j (by omega));omega
        have hor:bits .or .u64 (acc:Int) ((f 1:Int)*4294967296)=((acc+f 1*4294967296:Nat):Int):=by
         have:=u64_or_nat acc (f 1*4294967296) (by omega) (by omega);rw[Nat.or_comm,nat_join 32 _ _ (by simp) (by omega),Nat.add_comm]at this;rw[← this];simp
        have HV1:Hid (acc+f 1*4294967296=val f 2):=by show _=_;rw[hac0];simp[val]
        generalize f 1=x at *;clear hac0;go_wp2
        go_round
        case rel=>exact⟨2,acc+x*4294967296,by omega,rfl,by simp,HV1.out⟩
        case measure=>simp[intOf];omega
    · obtain rfl:k=n:=by omega
      have h0:acc=N:=by rw[hacc.out,HV.out]
      subst h0;go_wp2;go_ret2;exact HE.out _ HB1.out
theorem carry_done{x y i:Nat}(h:carry x y i=0)(hx:x<10^i)(hy:y<10^i):x+y<10^i:=by
 unfold carry at h;rw[Nat.mod_eq_of_lt hx,Nat.mod_eq_of_lt hy]at h;have hp:0<10^i:=Nat.pow_pos (by omega)
 rcases Nat.lt_or_ge (x+y) (10^i)with h1|h1
 · exact h1
 · have:=Nat.div_pos h1 hp;omega
theorem radd_any (x n y m : Nat) (w : World) (hx : x < 10 ^ n) (hy : y < 10 ^ m) (hn : n <= 1000) (hm : m <= 1000) :
    Calls Tryz.prog 197 #[.string (str (sdig x n)),.string (str (sdig y m))] w fun e w'=>e=.returned (.string (str (dec (x+y))))/\Below w.heap.size w w':=by
 obtain⟨i0,hi,hz0,hz1,hz2⟩:=info_parts infoI;have DX:=Lib.hid (fun i (h:i<=100000000) wz=>digit_any x n i wz hx (by omega) h);have DY:=Lib.hid (fun i (h:i<=100000000) wz=>digit_any y m i wz hy (by omega) h);have hs1:(str (sdig x n)).size=n:=by rw[str_size,sdig_length]
 have hs2:(str (sdig y m)).size=m:=by rw[str_size,sdig_length]
 generalize str (sdig x n)=s at *;generalize str (sdig y m)=t at *;have H0:SumI w w (x+y) (.slice none 0 0) 0:=⟨Below.refl _ _,World.ownsRow_nil _ _ _ _⟩
 have HI:=Lib.hid hi;have HX:=Lib.hid hx;have HY:=Lib.hid hy;have HC0:Hid (0=carry x y 0):=(carry_zero x y).symm;have hL:s.size<=1000/\t.size<=1000:=by omega
 obtain⟨hL1,hL2⟩:=hL;have HS1:=Lib.hid hs1;have HS2:=Lib.hid hs2;clear hi hx hy hs1 hs2 hn hm;go_enter Tryz.func197,Tryz.ntmps197;go_wp2
 go_loopw [5,6,7] (fun D c i wr=>∃(k cy:Nat) (V:Value),k<=1001/\i=.int .i64 k/\cy<=1/\c=.int .i64 cy/\Hid (cy=carry x y k/\(k<=s.size∨k<=t.size∨(k=1+max s.size t.size/\cy=0)∨k<=max s.size t.size))/\V=D/\SumI w wr (x+y) V k)
  (fun _ _ i _=>1002-(intOf i).toNat)
 case atStart=>exact⟨0,0,_,by omega,rfl,by omega,rfl,⟨HC0.out,.inl (by omega)⟩,rfl,H0⟩
 case round =>
  obtain⟨k,cy,V,hk,rfl,hcy,rfl,hcc,rfl,hr⟩:=hrel
  have hgo:Hid (¬(k<s.size∨k<t.size∨0<cy)->x+y<10^k):=by
   intro h;have hc0:cy=0:=by omega
   refine carry_done (by rw[← hcc.out.1];exact hc0) ?_ ?_
   · have:=HS1.out;exact Nat.lt_of_lt_of_le HX.out (Nat.pow_le_pow_right (by omega) (by omega))
   · have:=HS2.out;exact Nat.lt_of_lt_of_le HY.out (Nat.pow_le_pow_right (by omega) (by omega))
  by_cases hc:k<s.size∨k<t.size∨0<cy
  · have hk2:k<=1000:=by
      rcases hc with h|h|h
      · omega
      · omega
      · rcases hcc.out.2 with h2|h2|h2|h2
        · omega
        · omega
        · omega
        · omega
    obtain⟨dx,hdx⟩:∃dx,d10 x k=dx:=⟨_,rfl⟩
    obtain⟨dy,hdy⟩:∃dy,d10 y k=dy:=⟨_,rfl⟩
    have CX:=DX.out k (by omega);have CY:=DY.out k (by omega);rw[hdx]at CX;rw[hdy]at CY;have hdxl:dx<10:=by rw[← hdx];exact Nat.mod_lt _ (by omega)
    have hdyl:dy<10:=by rw[← hdy];exact Nat.mod_lt _ (by omega)
    obtain⟨q1,q2⟩:=carry_step x y k;rw[hdx,hdy,← hcc.out.1]at q1 q2;obtain⟨tt,htt⟩:∃tt,dx+dy+cy=tt:=⟨_,rfl⟩
    obtain⟨r,hr1⟩:∃r,tt%10=r:=⟨_,rfl⟩
    obtain⟨q,hq1⟩:∃q,tt / 10=q:=⟨_,rfl⟩
    rw[htt,hr1]at q1;rw[htt,hq1]at q2;have e1:(dx:Int)+(dy:Int)+(cy:Int)=(tt:Int):=by omega
    have e2:(tt:Int)%10=(r:Int):=by omega
    have e3:(tt:Int) / 10=(q:Int):=by omega
    have hql:q<=1:=by omega
    have CX':=Lib.hid CX;have CY':=Lib.hid CY;have Q1:=Lib.hid q1
    have HNX:Hid (q=carry x y (k+1)/\(k+1<=s.size∨k+1<=t.size∨(k+1=1+max s.size t.size/\q=0)∨k+1<=max s.size t.size)):=by
     refine⟨q2,?_⟩
     by_cases h1:k<s.size∨k<t.size
     · omega
     · refine .inr (.inr (.inl ?_));have hxk:x<10^k:=Nat.lt_of_lt_of_le HX.out (Nat.pow_le_pow_right (by omega) (by have:=HS1.out;omega));have hyk:y<10^k:=Nat.lt_of_lt_of_le HY.out (Nat.pow_le_pow_right (by omega) (by have:=HS2.out;omega));have z1:dx=0:=by rw[← hdx];unfold d10;rw[Nat.div_eq_of_lt hxk]
       have z2:dy=0:=by rw[← hdy];unfold d10;rw[Nat.div_eq_of_lt hyk]
       refine⟨?_,by omega⟩
       rcases hcc.out.2 with h2|h2|h2|h2<;>omega
    have HR:=Lib.hid hr;have hzr:w.heap.size<=wr.heap.size:=hr.below.size;have HCC:=hcc;have HC:=Lib.hid hc;clear hr q1 q2 htt hr1 hq1 CX CY hdx hdy hcc hc;have hgo':True:=trivial;clear hgo hgo'
    by_cases c1:k<s.size
    all_goals by_cases c2:k<t.size
    all_goals by_cases c3:0<cy
    all_goals first|(exfalso;have:=HC.out;omega)|skip
    all_goals
     have d1:decide ((k:Int)<(s.size:Int))=decide (k<s.size):=by simp
     have d2:decide ((k:Int)<(t.size:Int))=decide (k<t.size):=by simp
     have d3:decide ((0:Int)<(cy:Int))=decide (0<cy):=by simp
     first|rw[decide_eq_true c1]at d1|rw[decide_eq_false c1]at d1
     first|rw[decide_eq_true c2]at d2|rw[decide_eq_false c2]at d2
     first|rw[decide_eq_true c3]at d3|rw[decide_eq_false c3]at d3
     go_wp2_with fail;go_at_call 231;refine(CX'.out wr).mono ?_;rintro e w2 ⟨rfl,rfl⟩;go_wp2_with fail;go_at_call 231;refine(CY'.out wr).mono ?_;rintro e w2 ⟨rfl,rfl⟩
     go_wp2_with (at_builtin;refine wpList_append_own _ rfl _ _ 22 rfl w.heap.size 3 i0 (.int .i64 0) 1 8 Tryz.underlying22 HI.out hz0 hz1 hz2 rfl (by decide) _ _ _ rfl (World.ownsRow.alloc HR.out.own _) ⟨wr.heap.size,0,none⟩ 1 1 [.int .i64 r] rfl rfl (cell_one_at _ _ _) (one_cell_list _ _) (by unfold maxLen;omega) (by omega) (by rw[World.size_alloc];omega) ?_;intro v' w5 hown' hgrow _)
     have HG5:=Lib.hid (sum_next HR.out hown' hgrow hzr Q1.out);clear hown' hgrow;go_wp2
     go_roundw
     case rel=>exact⟨k+1,q,v',by omega,by go_num,hql,rfl,HNX.out,rfl,HG5.out⟩
     case measure=>simp[intOf];omega
  · obtain⟨a,c,rfl,hsa,_⟩:=hr.own.slAt (m:=10) (fun j _=>Nat.mod_lt _ (by omega)) (by omega);have HW:=Lib.hid (written_any a k c (d10 (x+y)) (x+y) wr hsa (fun _ _=>rfl) (hgo.out hc));have HB:=Lib.hid hr.below;have d1:decide ((k:Int)<(s.size:Int))=false:=decide_eq_false (by omega);have d2:decide ((k:Int)<(t.size:Int))=false:=decide_eq_false (by omega);have d3:decide ((0:Int)<(cy:Int))=false:=decide_eq_false (by omega);have c1:¬k<s.size:=by omega
    have c2:¬k<t.size:=by omega
    have c3:¬0<cy:=by omega
    clear hsa hr hc
    go_wp2_with (go_at_call 218;refine HW.out.mono ?_;rintro e w7 ⟨rfl,hb7⟩)
    go_ret;exact⟨rfl,HB.out.trans (hb7.mono HB.out.size)⟩
theorem dec_dig(N:Nat):∀c ∈ dec N,48<=c.toNat/\c.toNat<=57:=by
 intro c hc;obtain⟨j,hj⟩:=List.getElem?_of_mem hc;unfold dec at hj
 have hjl:j<dl N:=by
  rcases Nat.lt_or_ge j (dl N)with h|h
  · exact h
  · rw[List.getElem?_eq_none (by rw[sdig_length];exact h)]at hj;cases hj
 rw[sdig_get N _ _ hjl]at hj
 cases hj
 rw[dgt_toNat];have:=Nat.mod_lt (N / 10^(dl N-1-j)) (show 0<10 by omega)
 omega
theorem dec_at {N : Nat} {s : ByteArray} (hs : s.data.toList = dec N) {k : Nat} (hk : k < s.size) :
    ∃c x:Nat,s[k].toNat=c/\c=48+x/\x<10/\numOf (s.data.toList.take (k+1))=10*numOf (s.data.toList.take k)+x:=by
 have hm:s[k] ∈ dec N:=by
  rw[← hs];exact List.getElem_mem (l:=s.data.toList) (by simpa using hk)
 obtain⟨h1,h2⟩:=dec_dig N _ hm;refine⟨_,s[k].toNat-48,rfl,by omega,by omega,?_⟩;rw[take_snoc s k hk,numOf_snoc]
def GrI(w wr:World)(s:ByteArray)(V:Value)(n i:Nat):Prop:=Below w.heap.size w wr/\∃p cnt X,GrpIs wr w.heap.size V cnt X/\X*10^p+n=numOf (s.data.toList.take i)/\n<10^p/\(s.size-i)%9+p<=9/\((s.size-i)%9=0->p=0)/\cnt<=i/\(X=0∨(s.size-i+p)%9=0)
theorem groups_any(N:Nat)(w:World)(hl:dl N<=1000):Calls Tryz.prog 234 #[.string (str (dec N))] w fun e w'=>∃V cnt,e=.returned V/\GrpIs w' w.heap.size V cnt N/\cnt<=1000/\Below w.heap.size w w':=by
 obtain⟨i0,hi,hz0,hz1,hz2⟩:=info_parts infoI;have hsz:(str (dec N)).size=dl N:=by rw[str_size];exact sdig_length _ _
 have hda:(str (dec N)).data.toList=dec N:=rfl;generalize str (dec N)=s at *;have hsl:s.size<=1000:=by omega
 have hHI:=Lib.hid hi;have HDA:=Lib.hid hda;have H0:GrI w w s (.slice none 0 0) 0 0:=⟨Below.refl _ _,0,0,0,⟨fun _=>0,World.ownsRow_nil _ _ _ _,fun _ h=>by omega,rfl⟩,by simp[numOf],by simp,by omega,fun _=>rfl,by omega,.inl rfl⟩
 clear hi hsz hda hl;go_enter Tryz.func234,Tryz.ntmps234;go_wp2
 go_loopw [3,4,5,6] (fun L a k i wr=>∃(j n m:Nat) (V:Value),j<=s.size/\i=.int .i64 j/\n<1000000000/\a=.int .i64 n/\m+j=s.size/\k=.int .i64 m/\V=L/\GrI w wr s V n j)
  (fun _ _ _ i _=>s.size-(intOf i).toNat)
 case atStart=>exact⟨0,0,s.size,_,by omega,rfl,by omega,rfl,by omega,rfl,rfl,H0⟩
 case round =>
  obtain⟨j,n,m,V,hj,rfl,hnl,rfl,hm,rfl,rfl,hr⟩:=hrel
  by_cases hlt:j<s.size
  · obtain ⟨c, x, hcx, hc48, hx10, hnum⟩ := dec_at HDA.out hlt; obtain ⟨hbl, p, cnt, X, hg, hv, hnp, hp9, hp0, hcnt, hX0⟩ := hr; obtain ⟨m', hm'⟩ : ∃ m', m - 1 = m' := ⟨_, rfl⟩
    have hpl:p<=8:=by omega
    have hn8:n<100000000:=Nat.lt_of_lt_of_le hnp (Nat.le_trans (Nat.pow_le_pow_right (by omega) hpl) (by decide));obtain⟨n',hn'⟩:∃n',n*10+x=n':=⟨_,rfl⟩
    have hn'l:n'<1000000000:=by omega
    have hnp':n'<10^(p+1):=by rw[Nat.pow_succ];omega
    have hv':X*10^(p+1)+n'=numOf (s.data.toList.take (j+1)):=by
     rw[hnum,← hv,← hn',Nat.pow_succ,← Nat.mul_assoc];omega
    have e0:(s[j].toNat:Int)-48=(x:Int):=by omega
    have e1:(n:Int)*10+(x:Int)=(n':Int):=by omega
    have e2:(x:Int)%256=(x:Int):=by omega
    have e3:(48:Int)<=(s[j].toNat:Int):=by omega
    have e5:(m:Int)-1=(m':Int):=by omega
    have hmj:s.size-(j+1)=m':=by omega
    have hml:m'<=1000:=by omega
    obtain⟨r,hr9⟩:∃r,m'%9=r:=⟨_,rfl⟩
    have e6:(m':Int)%9=(r:Int):=by omega
    have hzr:w.heap.size<=wr.heap.size:=hbl.size
    by_cases h9:r=0
    · have HGR := Lib.hid hg; obtain ⟨g, hown, hgb, hgv⟩ := hg; have HOWN := Lib.hid hown
      have hnx:∀w5 v',GrpIs w5 w.heap.size v' (cnt+1) (X*1000000000+n')->Below w.heap.size w w5->GrI w w5 s v' 0 (j+1):=by
       intro w5 v' h1 h2;have hp:p+1<=9:=by omega
       have key:(p+1=9∨X=0):=by
        rcases hX0 with h|h
        · exact .inr h
        · left;omega
       refine⟨h2,0,cnt+1,_,h1,?_,by omega,by omega,fun _=>rfl,by omega,.inr (by omega)⟩;rw[← hv']
       rcases key with h|h
       · rw[h];simp
       · rw[h];simp
      have HNX:=Lib.hid hnx;have hr0:((r:Int)==0)=true:=by rw[h9];rfl
      have HBL:=Lib.hid hbl;have hm2:=Lib.hid (show m'+(j+1)=s.size by omega);have hcl:cnt<=1000:=by omega
      have HIN:=Lib.hid (fun v' w5 (h1:∀g,OwnL wr w.heap.size 3 .i64 V cnt g->w5.ownsRow w.heap.size 3 1 v' (cnt+1) (cl .i64 g cnt ++ [.int .i64 n']))=>HGR.out.snoc (w5:=w5) (v':=v') hn'l h1);have h9':(r:Int)=0:=by omega
      clear hnx hcx hc48 hnum hbl hgb hgv hv hnp hp9 hp0 hm' hn' hnp' hv' hmj hr9 hown hm hX0 h9
      go_wp2_with (at_builtin;refine wpList_append_own _ rfl _ _ 22 rfl w.heap.size 3 i0 (.int .i64 0) 1 8 Tryz.underlying22 hHI.out hz0 hz1 hz2 rfl (by decide) _ _ _ rfl (World.ownsRow.alloc HOWN.out _) ⟨wr.heap.size,0,none⟩ 1 1 [.int .i64 n'] rfl rfl (cell_one_at _ _ _) (one_cell_list _ _) (by unfold maxLen;omega) (by omega) (by rw[World.size_alloc];omega) ?_;intro v' w5 hown' hgrow _)
      have hb5:Below w.heap.size w w5:=(HBL.out.alloc hzr _).grown hgrow (by rw[World.size_alloc];omega) (fun q hq=>(World.ownsRow.lt HOWN.out q hq).1)
      have hg5:GrpIs w5 w.heap.size v' (cnt+1) (X*1000000000+n'):=by
       refine HIN.out v' w5 (fun g' hg' => ?_)
       have e:cl .i64 g' cnt=cl .i64 g cnt:=by
        have h1:=hg'.2;have h2:=HOWN.out.2
        rcases h1 with ⟨a1,a2⟩|⟨q1,c1,cu1,a1,_,a3,_,_,_,a4⟩
        · rw[a2];rfl
        · rcases h2 with ⟨b1,b2⟩|⟨q2,c2,cu2,b1,_,b3,_,_,_,b4⟩
          · rw[b2];rfl
          · rw[a1]at b1;simp only[Value.slice.injEq,Option.some.injEq,Addr.mk.injEq,and_true,true_and]at b1;obtain⟨rfl,_⟩:=b1;rw[a3]at b3;simp only[Option.some.injEq,Obj.cells.injEq,and_true]at b3;rw[← a4,← b4,b3]
       rw[e];exact hown'
      have HG5:=Lib.hid (HNX.out w5 v' hg5 hb5);clear hown' hgrow hb5 hg5;go_wp2
      go_roundw
      case rel=>exact⟨j+1,0,m',v',by omega,by go_num,by omega,rfl,hm2.out,rfl,rfl,HG5.out⟩
      case measure=>simp[intOf];omega
    · have hr0:((r:Int)==0)=false:=by rw[beq_eq_false_iff_ne];omega
      have HNX:Hid (GrI w wr s V n' (j+1)):=⟨hbl,p+1,cnt,X,hg,hv',hnp',by omega,fun h=>by omega,by omega,by rcases hX0 with h|h;exact .inl h;right;omega⟩
      have hm2:=Lib.hid (show m'+(j+1)=s.size by omega);have h9':¬(r:Int)=0:=by omega
      clear hcx hc48 hnum hbl hg hv hnp hp9 hp0 hm' hn' hnp' hv' hmj hr9 hm hX0 h9;go_wp2
      go_roundw
      case rel=>exact⟨j+1,n',m',V,by omega,by go_num,hn'l,rfl,hm2.out,rfl,rfl,HNX.out⟩
      case measure=>simp[intOf];omega
  · obtain rfl:j=s.size:=by omega
    obtain⟨hbl,p,cnt,X,hg,hv,hnp,hp9,hp0,hcnt,hX0⟩:=hr;have hp:p=0:=hp0 (by omega);subst hp;have hn0:n=0:=by simpa using hnp
    subst hn0;rw[List.take_of_length_le (by show s.data.toList.length<=_;exact Nat.le_refl _),HDA.out,numOf_dec,Nat.pow_zero,Nat.mul_one,Nat.add_zero]at hv;subst hv;have HBL:=Lib.hid hbl;have HG:=Lib.hid hg;clear hbl hg hp9 hp0 hX0 hnp;go_wp2;go_ret;exact⟨V,cnt,rfl,HG.out,by omega,HBL.out⟩
theorem nbits_zero:nbits 0=0:=by simp[nbits]
theorem nbits_half{N:Nat}(h:0<N):nbits N=nbits (N / 2)+1:=by
 rcases Nat.lt_or_ge N 2 with h1|h1
 · obtain rfl:N=1:=by omega
   rw[nbits_eq (N:=1) (b:=0) (by decide) (by decide)]
   simp[nbits]
 · obtain⟨b,hb⟩:∃b,nbits (N / 2)=b+1:=by
     refine⟨(N / 2).log2,?_⟩;unfold nbits;rw[if_neg (by omega)]
   rw[hb];have h2:N / 2<2^(b+1):=nbits_le.1 (by omega);have h3:¬N / 2<2^b:=fun h=>by have:=nbits_le.2 h;omega
   refine nbits_eq ?_ ?_
   · rw[Nat.pow_succ];omega
   · rw[Nat.pow_succ];omega
theorem nbits_shift{N:Nat}(k:Nat)(h:0<N / 2^k):nbits N=nbits (N / 2^k)+k:=by
 induction k generalizing N with
 | zero=>simp
 | succ k ih =>
  have e:N / 2^(k+1)=N / 2 / 2^k:=by rw[Nat.pow_succ,Nat.mul_comm,Nat.div_div_eq_div_mul]
  rw[e]at h ⊢
  have h0:0<N:=by
   rcases Nat.eq_zero_or_pos N with h1|h1
   · subst h1;simp at h
   · exact h1
  rw[nbits_half h0,ih h];omega
structure BitO(w wr:World)(N E j X:Nat)(V:Value)(cnt:Nat):Prop where
 below:Below w.heap.size w wr
 grp:GrpIs wr w.heap.size V cnt X
 len:cnt<=1000
 bits:nbits N=16*j+nbits X
 lim:X<65536^(E-j)
theorem rbits_any(N E:Nat)(w:World)(hl:dl N<=1000)(hE:E<=200)(hN:N<65536^E):Calls Tryz.prog 198 #[.string (str (dec N))] w fun e w'=>e=.returned (.int .i64 (nbits N))/\Below w.heap.size w w':=by
 obtain⟨i0,hi,hz0,hz1,hz2⟩:=info_parts infoI;have HG:=Lib.hid (groups_any N w hl);have HI:=Lib.hid hi;have HN:=Lib.hid hN;generalize str (dec N)=s at *;clear hl hi hN;go_enter Tryz.func198,Tryz.ntmps198;go_wp2_with fail;go_at_call 234;refine HG.out.mono ?_;rintro e w1 ⟨V0,cnt0,rfl,hg0,hc0,hb0⟩;have HST:=Lib.hid (show BitO w w1 N E 0 N V0 cnt0 from⟨hb0,hg0,hc0,by omega,HN.out⟩);clear hg0 hb0 hc0;go_wp2_with fail
 go_loopw [3,4,5] (fun L n i wr=>∃(j X cnt m:Nat) (V:Value),j<=E/\i=.int .i64 j/\m=16*j/\n=.int .i64 m/\V=L/\BitO w wr N E j X V cnt)
  (fun _ _ i _=>201-(intOf i).toNat)
 case atStart=>exact⟨0,N,cnt0,0,V0,by omega,rfl,rfl,rfl,rfl,HST.out⟩
 case round =>
  obtain⟨j,X,cnt,m,V,hj,rfl,hm,rfl,rfl,hh⟩:=hrel;obtain⟨wo,rfl⟩:∃wo:World,wo=wr:=⟨_,rfl⟩
  have hcn:=hh.len;obtain⟨g,hown,hgb,hgv⟩:=hh.grp;obtain⟨a,c,rfl,hsa,hpl⟩:=hown.slAt hgb (by omega);have H0:BitI wo wo g (.slice none 0 0) 0 0:=⟨Below.refl _ _,⟨fun _=>0,World.ownsRow_nil _ _ _ _,fun _ h=>by omega,by simp[hor]⟩,by simp[hor],by omega⟩
  have HSA:=Lib.hid hsa;have HGB:=Lib.hid hgb;have HGV:=Lib.hid hgv;have HH:=Lib.hid hh;have HM:=Lib.hid hm;have hml:m<=3200:=by omega
  have d10k:decide ((j:Int)<10000)=true:=decide_eq_true (by omega);have HRR0:Hid (0=hor g 0%65536):=by show _=_;simp[hor]
  clear hh hown hgb hgv hsa hpl HST HN hm;go_wp2
  go_loopw [6,7,8] (fun Q r k wr=>∃(kk rr c2:Nat) (U:Value),kk<=cnt/\k=.int .i64 kk/\rr<65536/\r=.int .i64 rr/\Hid (rr=hor g kk%65536)/\U=Q/\BitI wo wr g U c2 kk)
   (fun _ _ k _=>cnt-(intOf k).toNat)
  case atStart=>exact⟨0,0,0,_,by omega,rfl,by omega,rfl,HRR0,rfl,H0⟩
  case round =>
   obtain⟨kk,rr,c2,U,hkk,rfl,hrl,rfl,hrr,rfl,hbi⟩:=hrel;obtain⟨g2,hown2,hgb2,hgv2⟩:=hbi.grp;have hc2l:c2<=1000:=by have:=hbi.len;omega
   obtain⟨a2,cc,rfl,_,_⟩:=hown2.slAt hgb2 (by omega)
   by_cases hlt:kk<cnt
   · obtain ⟨b, off, rfl, hbb, hcc⟩ := HSA.out.at (show 0 < cnt by omega)
     have hcell:=(hbi.below.cell (p:=⟨b,off+kk,none⟩) hbb).trans (hcc kk hlt);have hxl:=HGB.out kk hlt;obtain⟨tt,htt⟩:∃tt,rr*1000000000+g kk=tt:=⟨_,rfl⟩
     have htt2:hor g kk%65536*1000000000+g kk=tt:=by rw[← hrr.out];exact htt
     obtain⟨r',hr'⟩:∃r',tt%65536=r':=⟨_,rfl⟩
     obtain⟨qd,hqd⟩:∃qd,tt / 65536=qd:=⟨_,rfl⟩
     have hrn:Hid (r'=hor g (kk+1)%65536):=by
      show _=_
      have:=(hor_div (hor g kk) (g kk)).1;rw[htt2]at this;rw[← hr',this,hor_succ]
     have hql:qd<1000000000:=by omega
     have hr'l:r'<65536:=by omega
     have e1:(rr:Int)*1000000000+(g kk:Int)=(tt:Int):=by omega
     have e2:(tt:Int)%65536=(r':Int):=by omega
     have e3:(tt:Int) / 65536=(qd:Int):=by omega
     have httl:tt<65536000000000:=by omega
     have k0:(0:Int)<=(kk:Int):=by omega
     have k1:(kk:Int)<(cnt:Int):=by omega
     have hzz:wo.heap.size<=wr.heap.size:=hbi.below.size;have HBI:=Lib.hid hbi;have HO2:=Lib.hid hown2;have HTT:=Lib.hid htt2;have HQD:=Lib.hid hqd
     by_cases hap:0<c2∨0<qd
     · have HN5:Hid (∀w5 v',Below wo.heap.size wo w5->w5.ownsRow wo.heap.size 3 1 v' (c2+1) (cl .i64 g2 c2 ++ [.int .i64 qd])->BitI wo w5 g v' (c2+1) (kk+1)):=by
         intro w5 v' h1 h2;refine BitI.next HBI.out HTT.out (by rw[HQD.out];exact hql) h1 (by rw[HQD.out];exact hap) (fun g' hg' => ?_);rw[HQD.out];exact GrpIs.fn hg' HO2.out h2
       clear hcc htt htt2 hr' hqd hbi hown2 hgb2 hgv2 hrr
       by_cases c1:0<c2
       all_goals
        first
         | have d1:decide ((0:Int)<(c2:Int))=true:=decide_eq_true (by omega)
         | (have d1 : decide ((0 : Int) < (c2 : Int)) = false := decide_eq_false (by omega)
            have hq0:0<qd:=by omega
            have d2:decide ((0:Int)<(qd:Int))=true:=decide_eq_true (by omega))
        clear hap
        go_wp2_with (at_builtin;refine wpList_append_own _ rfl _ _ 22 rfl wo.heap.size 3 i0 (.int .i64 0) 1 8 Tryz.underlying22 HI.out hz0 hz1 hz2 rfl (by decide) _ _ _ rfl (World.ownsRow.alloc HO2.out _) ⟨wr.heap.size,0,none⟩ 1 1 [.int .i64 qd] rfl rfl (cell_one_at _ _ _) (one_cell_list _ _) (by unfold maxLen;omega) (by omega) (by rw[World.size_alloc];omega) ?_;intro v' w5 hown' hgrow _)
        have hb5:Below wo.heap.size wo w5:=(HBI.out.below.alloc hzz _).grown hgrow (by rw[World.size_alloc];omega) (fun q hq=>(World.ownsRow.lt HO2.out q hq).1);have HG5:=Lib.hid (HN5.out w5 v' hb5 hown');clear hown' hgrow hb5;go_wp2
        go_roundw
        case rel=>exact⟨kk+1,r',c2+1,v',by omega,by go_num,hr'l,rfl,hrn,rfl,HG5.out⟩
        case measure=>simp[intOf];omega
     · obtain rfl:c2=0:=by omega
       obtain rfl:qd=0:=by omega
       have HSK:=Lib.hid (HBI.out.skip HTT.out rfl HQD.out);clear hcc htt htt2 hr' hqd hbi hown2 hgb2 hgv2 hrr hap;go_wp2
       go_roundw
       case rel=>exact⟨kk+1,r',0,_,by omega,by go_num,hr'l,(by first|rfl|exact vint e2),hrn,rfl,HSK.out⟩
       case measure=>simp[intOf];omega
   · obtain rfl : kk = cnt := by omega
     have hrX:rr=X%65536:=by rw[hrr.out,HGV.out]
     have hzX:c2=0↔X / 65536=0:=by rw[← HGV.out];exact hbi.zero
     have hbw:Below w.heap.size w wr:=HH.out.below.trans (hbi.below.mono HH.out.below.size);have HBW:=Lib.hid hbw;have hgrp:=hbi.grp;rw[HGV.out]at hgrp
     by_cases h0:c2=0
     · subst h0; have hX0 := hzX.1 rfl
       have hNB:Hid (nbits N=m+nbits rr):=by
        show _=_
        rw[HH.out.bits,HM.out,hrX,show X%65536=X by omega]
       have hb16:nbits rr<=16:=nbits_le.2 (by omega);have hB16:=Lib.hid hb16;clear hgrp hbi hown2 hgb2 hgv2 hrr hrX hzX hX0 hbw hb16;go_wp2
       go_loop [4,7] (fun n r=>∃(mm ss:Nat),mm<=5000/\n=.int .i64 mm/\r=.int .i64 ss/\ss<65536/\Hid (nbits N=mm+nbits ss/\mm+nbits ss<=3216))
        (fun _ r=>(intOf r).toNat)
       case atStart=>exact⟨m,rr,by omega,rfl,rfl,hrl,hNB.out,by have:=hB16.out;omega⟩
       case round =>
        obtain⟨mm,ss,hmm,rfl,rfl,hss,hnb⟩:=hrel
        by_cases hs0:0<ss
        · have hN2:Hid (nbits N=(mm+1)+nbits (ss / 2)/\(mm+1)+nbits (ss / 2)<=3216):=by
            have h1:=nbits_half hs0;have h2:=hnb.out;exact⟨by omega,by omega⟩
          obtain⟨s2,hs2⟩:∃s2,ss / 2=s2:=⟨_,rfl⟩
          rw[hs2]at hN2;have e1:(ss:Int) / 2=(s2:Int):=by omega
          have hsl:s2<ss:=by omega
          have hmm2:mm+1<=5000:=by have:=hN2.out.2;omega
          clear hs2;go_wp2
          go_round
          case rel=>exact⟨mm+1,s2,hmm2,by go_num,rfl,by omega,hN2.out⟩
          case measure=>simp[intOf];omega
        · obtain rfl:ss=0:=by omega
          have hE2:Hid (nbits N=mm):=by show _=_;rw[hnb.out.1,nbits_zero];rfl
          go_wp2;go_ret;exact⟨ret_int (by rw[hE2.out]),HBW.out⟩
     · have hXp:0<X / 65536:=by
         rcases Nat.eq_zero_or_pos (X / 65536)with h|h
         · exact absurd (hzX.2 h) h0
         · exact h
       have hjE:j<E:=by
        rcases Nat.lt_or_ge j E with h|h
        · exact h
        · have:=HH.out.lim;rw[show E-j=0 by omega,Nat.pow_zero]at this
          omega
       have hBO:BitO w wr N E (j+1) (X / 65536) (.slice a2 c2 cc) c2:=by
        refine⟨hbw,?_,hc2l,?_,?_⟩
        · obtain⟨g3,h1,h2,h3⟩:=hgrp;exact⟨g3,h1.mono HH.out.below.size,h2,h3⟩
        · have h1:nbits X=nbits (X / 65536)+16:=nbits_shift 16 hXp;rw[HH.out.bits,h1];omega
        · have h1:=HH.out.lim;rw[show E-j=(E-(j+1))+1 by omega,Nat.pow_succ]at h1;rw[Nat.div_lt_iff_lt_mul (by omega)];exact h1
       have HBO:=Lib.hid hBO;have h0':((c2:Int)==0)=false:=by rw[beq_eq_false_iff_ne];omega
       have HM':=HM;clear hgrp hbi hown2 hgb2 hgv2 hrr hrX hzX hbw hXp hBO;go_wp2
       go_roundw
       case rel=>exact⟨j+1,X / 65536,c2,m+16,_,hjE,by go_num,by have:=HM'.out;omega,by go_num,rfl,HBO.out⟩
       case measure=>simp[intOf];omega
theorem rlimbs_any(N E:Nat)(w:World)(hl:dl N<=1000)(hE:E<=200)(hN:N<65536^E):Calls Tryz.prog 139 #[.string (str (dec N))] w fun e w'=>e=.returned (.int .i64 ((nbits N+31) / 32:Nat))/\Below w.heap.size w w':=by
 have HB:=Lib.hid (rbits_any N E w hl hE hN)
 have hb:nbits N<=16*E:=by
  have h3:(65536:Nat)^E=2^(16*E):=by rw[Nat.pow_mul]
  exact nbits_le.2 (by omega)
 obtain⟨B,hB⟩:∃B,nbits N=B:=⟨_,rfl⟩
 rw[hB]at HB hb ⊢;obtain⟨L,hL⟩:∃L,(B+31) / 32=L:=⟨_,rfl⟩
 have e1:((B:Int)+31) / 32=(L:Int):=by omega
 have hb2:B<=3200:=by omega
 rw[hL];clear hB hL hN;go_enter Tryz.func139,Tryz.ntmps139
 go_wp2_with (go_at_call 198;refine HB.out.mono ?_;rintro e w1 ⟨rfl,hb1⟩)
 go_ret;exact⟨ret_int e1,hb1⟩
end Go.Proofs.YtdmmenaejkpnjaaGreatDoor
namespace Go.Proofs.YtdmmenaejkpnjaaGreatDoor
open Go.RowKit
attribute [local go_sem ↓] Go.wp_at_zero Go.wp_at_succ
theorem RS.slotted{w:World}{k:Nat}(h:RS w k)(a:Option Addr)(n c:Nat)(b:Bool):Slot2 (putI w k a n c b) k (.slice a n c) (.bool b):=by
 obtain⟨x,b',h1,_⟩:=h;exact⟨(h1.set _ _).1,(h1.set _ _).2,by simp[putI,h1.free],by simp[putI,h1.free1],by simpa[putI]using h1.lt⟩
theorem minus_any (a : Option Addr) (n c : Nat) (m : Bool) (Z : Int) (w : World) (h : IntAt w a n c m Z) :
    Calls Tryz.prog 222 #[.agg #[.slice a n c,.bool m]] w fun e w'=>IntTold w w' e (-Z):=by
 have B0:=(((Bag.start w).int h).box2 (.slice a n c) (.bool m) 51).box2 (.slice none 0 0) (.bool false) 51;rw[World.size_alloc]at B0;have q0:=B0.now.2.1.cell;have q1:=B0.now.2.1.cell1;have BB:=Lib.hid B0.drew;have NG:Hid (∀wz,IntAt wz a n c m Z->Calls Tryz.prog 173 #[.agg #[.slice a n c,.bool m]] wz fun e w'=>e=.returned (.bool m)/\Below wz.heap.size wz w'):=fun wz hz=>neg_any a n c m Z wz hz
 have OF:Hid (∀wz,IntAt wz a n c m Z->Calls Tryz.prog 116 #[.bool (!m),.agg #[.slice a n c]] wz fun e w'=>IntTold wz w' e (-Z)):=by
  intro wz hz;have h1:=wof_any (!m) a n c _ wz hz.2
  have e:sgn (!m) Z.natAbs = -Z:=by
   rw[h.1]
   by_cases h2:Z<0
   · rw[decide_eq_true h2];simp[sgn];omega
   · rw[decide_eq_false h2];simp[sgn];omega
  rw[e]at h1;exact h1
 clear h B0;go_enter Tryz.func222,Tryz.ntmps222;go_wp2_with fail
 go_region_with (first
  | (go_at_call 173;refine(NG.out _ BB.out.now.2.2.1).mono ?_;rintro e w2 ⟨rfl,hb2⟩;have BB:=Lib.hid (BB.out.go hb2);have q0:=BB.out.now.2.1.cell;have q1:=BB.out.now.2.1.cell1;clear hb2)
  | (go_at_call 116;refine(OF.out _ BB.out.now.2.2.1).mono ?_;rintro e w2 ⟨a3,n3,c3,m3,rfl,hi3,hb2⟩;have B2:=BB.out.go hb2;have hs2:=B2.now.1;have hc1:=hs2.cell;have hc2:=hs2.cell1;have hf1:=hs2.free;have hf2:=hs2.free1;have HS:=hs2.set (.slice a3 n3 c3) (.bool m3);have HE:=Lib.hid (IntTold.done B2.below (by omega) hs2 (fun _ _ h=>by cases h) hi3);clear hb2 B2 hs2 hi3))
 all_goals
  go_wp2;exact bodyPost_ret (by simp[results,Tryz.results222,go_sem,HS]) rfl HE.out
end Go.Proofs.YtdmmenaejkpnjaaGreatDoor
namespace Go.Proofs.YtdmmenaejkpnjaaGreatDoor
open Go.RowKit
end Go.Proofs.YtdmmenaejkpnjaaGreatDoor
namespace Go.Proofs.YtdmmenaejkpnjaaGreatDoor
open Go.RowKit
attribute [local go_sem ↓] Go.wp_at_zero Go.wp_at_succ
end Go.Proofs.YtdmmenaejkpnjaaGreatDoor
namespace Go.Proofs.YtdmmenaejkpnjaaGreatDoor
open Go.RowKit
end Go.Proofs.YtdmmenaejkpnjaaGreatDoor
namespace Go.Proofs.YtdmmenaejkpnjaaGreatDoor
open Go.RowKit
attribute [local go_sem ↓] Go.wp_at_zero Go.wp_at_succ
def flR(Z Y:Int):Int:=sgn (decide (Y<0)) (if flU Z Y then Y.natAbs-Z.natAbs%Y.natAbs else Z.natAbs%Y.natAbs)
def FloorTold(w w':World)(e:Ending)(Q R:Int):Prop:=∃a n c m a2 n2 c2 m2,e=.returned (.tuple #[.agg #[.slice a n c,.bool m],.agg #[.slice a2 n2 c2,.bool m2],.bool true])/\IntAt w' a n c m Q/\IntAt w' a2 n2 c2 m2 R/\Below w.heap.size w w'
end Go.Proofs.YtdmmenaejkpnjaaGreatDoor
namespace Go.Proofs.YtdmmenaejkpnjaaGreatDoor
open Go.RowKit
theorem mod_step(y j:Nat):y%10^(j+1)=y%10^j+10^j*d10 y j:=by unfold d10;rw[Nat.pow_succ,Nat.mod_mul]
theorem make_ints(m:Nat)(hm:m<=10000000):∃z:List Value,(∀j,j<m->z[j]? = some (.int .i64 0)) /\
    ∀w:World,(Instr.makeSlice 22 (.int .i64 m) (.int .i64 m)).run Tryz.prog w=.ok (.slice (some ⟨w.heap.size,0,none⟩) m m) (w.alloc (.cells z.toArray 3)):=by
 obtain⟨i0,hi,hz0,hz1,hz2⟩:=info_parts infoI
 refine⟨(madeCells (Value.cells (.int .i64 0)) m).toList,fun j hj => ?_,fun w => ?_⟩
 · have h3:(madeCells (Value.cells (.int .i64 0)) m)[j]? = some (.int .i64 0):=by simp[madeCells,hj,Value.cells,Nat.mod_one]
   rw[Array.getElem?_toList];exact h3
 · have hmk:=run_make (P:=Tryz.prog) w 22 3 i0 (.int .i64 0) Tryz.underlying22 hi hz0 .i64 .i64 m m (by omega) (by omega) (by rw[hz2];omega) (by omega);simp only[Int.toNat_natCast,hz1,Nat.mul_one]at hmk;rw[Array.toArray_toList];exact hmk
def MulJ(x y i j c Z:Nat):Prop:=Z+c*10^(i+j)=x%10^i*y+d10 x i*(y%10^j)*10^i
theorem mulJ_step{x y i j c Z Y t:Nat}(h:MulJ x y i j c Z)(ht:d10 Z (i+j)+d10 x i*d10 y j+c=t)(hY:Y+d10 Z (i+j)*10^(i+j)=Z+t%10*10^(i+j)):MulJ x y i (j+1) (t / 10) Y:=by
 unfold MulJ at *;rw[mod_step,show i+(j+1)=(i+j)+1 by omega,Nat.pow_succ];have e:=Nat.div_add_mod t 10
 have a1:d10 x i*(y%10^j+10^j*d10 y j)*10^i=d10 x i*(y%10^j)*10^i+d10 x i*d10 y j*10^(i+j):=by
  rw[Nat.mul_add,Nat.add_mul,Nat.pow_add]
  congr 1
  rw[Nat.mul_comm (10^j) (d10 y j),← Nat.mul_assoc,Nat.mul_assoc,Nat.mul_comm (10^j)]
 rw[a1];generalize 10^(i+j)=P at *;generalize d10 x i*d10 y j=u at *;generalize d10 Z (i+j)=d at *;have a2:(d+u+c)*P=d*P+u*P+c*P:=by rw[Nat.add_mul,Nat.add_mul]
 have a3:t / 10*(P*10)+t%10*P=(10*(t / 10)+t%10)*P:=by rw[Nat.add_mul,Nat.mul_comm P 10,← Nat.mul_assoc,Nat.mul_comm (t / 10) 10]
 rw[e,← ht,a2]at a3;rw[ht]at a3
 omega
theorem quietL {P : Program} {f : FuncId} {args : Array Value} {w : World} {n : Nat} {v : Value}
    (h:Calls P f args (w.drewN n) fun e w'=>e=.returned v/\w.drewN n=w'):Calls P f args (w.drewN n) fun e w''=>e=.returned v/\∃m,w''=w.drewN m :=
 h.mono fun _ _ ⟨he,hm⟩=>⟨he,n,hm.symm⟩
theorem d10_le_self(Z p:Nat):d10 Z p*10^p<=Z:=by
 have h1:d10 Z p<=Z / 10^p:=Nat.mod_le _ _;exact Nat.le_trans (Nat.mul_le_mul_right _ h1) (Nat.div_mul_le_self _ _)
theorem mulJ_start{x y i Z:Nat}(h:Z=x%10^i*y):MulJ x y i 0 0 Z:=by
 unfold MulJ;simp[Nat.mod_one,h]
theorem mulJ_full{x y i j m c Z:Nat}(h:MulJ x y i j c Z)(hj:m<=j)(hy:y<10^m):Z+c*10^(i+j)=x%10^(i+1)*y:=by
 unfold MulJ at h;have hy2:y%10^j=y:=Nat.mod_eq_of_lt (Nat.lt_of_lt_of_le hy (Nat.pow_le_pow_right (by omega) hj));rw[hy2]at h;rw[h,mod_step,Nat.add_mul,Nat.mul_right_comm (d10 x i) y,Nat.mul_comm (d10 x i) (10^i)]
theorem mulJ_last{x y i m c Z:Nat}(h:MulJ x y i (m+1) c Z)(hy:y<10^m):c=0:=by
 have e:=mulJ_full h (by omega) hy;have h1:x%10^(i+1)<10^(i+1):=Nat.mod_lt _ (Nat.pow_pos (by omega));have h2:x%10^(i+1)*y<=x%10^(i+1)*10^m:=Nat.mul_le_mul_left _ (Nat.le_of_lt hy);have h3:x%10^(i+1)*10^m<10^(i+1)*10^m:=Nat.mul_lt_mul_of_pos_right h1 (Nat.pow_pos (by omega));rw[← Nat.pow_add,show i+1+m=i+(m+1)by omega]at h3
 rcases Nat.eq_zero_or_pos c with h0|h0
 · exact h0
 · have h4:1*10^(i+(m+1))<=c*10^(i+(m+1)):=Nat.mul_le_mul_right _ h0
   omega
theorem mul_small{a b:Nat}(h:a<10)(h2:b<10):a*b<=81 :=
 Nat.le_trans (Nat.mul_le_mul (Nat.le_of_lt_succ h) (Nat.le_of_lt_succ h2)) (by omega)
theorem rmul_any (x n y m : Nat) (w : World) (hx : x < 10 ^ n) (hy : y < 10 ^ m) (hn : n <= 2000) (hm : m <= 2000) :
    Calls Tryz.prog 190 #[.string (str (sdig x n)),.string (str (sdig y m))] w fun e w'=>e=.returned (.string (str (dec (x*y))))/\Below w.heap.size w w':=by
 have DX:=Lib.hid (fun i (h:i<=100000000) wz=>digit_any x n i wz hx (by omega) h);have DY:=Lib.hid (fun i (h:i<=100000000) wz=>digit_any y m i wz hy (by omega) h);have hs1:(str (sdig x n)).size=n:=by rw[str_size,sdig_length]
 have hs2:(str (sdig y m)).size=m:=by rw[str_size,sdig_length]
 generalize str (sdig x n)=s at *;generalize str (sdig y m)=t at *;subst hs1;subst hs2;obtain⟨L1,hL1⟩:∃L1,s.size+t.size=L1:=⟨_,rfl⟩
 obtain⟨L,hL⟩:∃L,L1+1=L:=⟨_,rfl⟩
 have e1:(s.size:Int)+(t.size:Int)=(L1:Int):=by omega
 have e2:(L1:Int)+1=(L:Int):=by omega
 obtain⟨z,hz,hmk⟩:=make_ints L (by omega)
 have H0:ArrI w (w.alloc (.cells z.toArray 3)) w.heap.size L 0:=by
  have hh:=heap_new w (.cells z.toArray 3);refine⟨(Below.refl _ _).alloc (Nat.le_refl _) _,Nat.le_refl _,by rw[World.size_alloc];omega,Free.of_block hh,Cells.of_block hh (fun j hj => ?_)⟩;rw[hz j hj];simp[d10]
 have HX:=Lib.hid hx;have HY:=Lib.hid hy;have HL:Hid (L=s.size+t.size+1):=by show _=_;omega
 have hLl:L<=4001:=by omega
 have HA0:=Lib.hid H0;have HZ0:Hid (0=x%10^0*y):=by show _=_;simp[Nat.mod_one]
 clear hx hy hz hL1 hL H0;go_enter Tryz.func190,Tryz.ntmps190;go_wp2
 go_loopw [6] (fun i wr=>∃(k Z:Nat),k<=s.size/\i=.int .i64 k/\Hid (Z=x%10^k*y)/\ArrI w wr w.heap.size L Z)
  (fun i _=>2001-(intOf i).toNat)
 case atStart=>exact⟨0,0,by omega,rfl,HZ0.out,HA0.out⟩
 case round =>
  obtain⟨k,Z,hk,rfl,hZ,hr⟩:=hrel
  by_cases hlt:k<s.size
  · have HJ0 : Hid (MulJ x y k 0 0 Z) := mulJ_start hZ.out; have HR := Lib.hid hr; have d0 : decide ((k : Int) < (s.size : Int)) = true := decide_eq_true (by omega); obtain ⟨dx, hdx⟩ : ∃ dx, d10 x k = dx := ⟨_, rfl⟩
    have CX:=DX.out k (by omega);rw[hdx]at CX;have hdxl:dx<10:=by rw[← hdx];exact Nat.mod_lt _ (by omega)
    have CX':=Lib.hid CX;have HDX:=Lib.hid hdx;obtain⟨wo,hwo⟩:∃wo:World,wo=wr:=⟨_,rfl⟩
    clear CX hdx hr HA0 hwo;go_wp2
    go_loopw [7,8] (fun c j wi=>∃(jj cc Y:Nat),jj<=t.size+1/\j=.int .i64 jj/\cc<=9/\c=.int .i64 cc/\Hid (MulJ x y k jj cc Y)/\ArrI w wi w.heap.size L Y)
     (fun _ j _=>2002-(intOf j).toNat)
    case atStart=>exact⟨0,0,Z,by omega,rfl,by omega,rfl,HJ0.out,HR.out⟩
    case round =>
     obtain⟨jj,cc,Y,hjj,rfl,hcc,rfl,hmj,hri⟩:=hrel
     by_cases hgo:jj<t.size∨0<cc
     · have hj1:jj<=t.size:=by
         rcases Nat.lt_or_ge t.size jj with h|h
         · obtain rfl:jj=t.size+1:=by omega
           have:=mulJ_last hmj.out HY.out
           omega
         · exact h
       obtain⟨p,hp⟩:∃p,k+jj=p:=⟨_,rfl⟩
       have hpL:p<L:=by have:=HL.out;omega
       have hcell:=hri.row p hpL;rw[Nat.zero_add]at hcell;have hfree:=hri.free p;obtain⟨d,hd⟩:∃d,d10 Y p=d:=⟨_,rfl⟩
       rw[hd]at hcell;have hdl:d<10:=by rw[← hd];exact d10_lt _ _
       obtain⟨dy,hdy⟩:∃dy,d10 y jj=dy:=⟨_,rfl⟩
       have hdyl:dy<10:=by rw[← hdy];exact d10_lt _ _
       have CY:=DY.out jj (by omega);rw[hdy]at CY;have CY':=Lib.hid CY;obtain⟨pr,hpr⟩:∃pr,dx*dy=pr:=⟨_,rfl⟩
       have hprl:pr<=81:=by rw[← hpr];exact mul_small hdxl hdyl
       obtain⟨u,hu⟩:∃u,d+pr=u:=⟨_,rfl⟩
       obtain⟨tt,htt⟩:∃tt,u+cc=tt:=⟨_,rfl⟩
       have hsum:d10 Y (k+jj)+d10 x k*d10 y jj+cc=tt:=by rw[hp,hd,HDX.out,hdy,hpr];omega
       obtain⟨r,hr1⟩:∃r,tt%10=r:=⟨_,rfl⟩
       obtain⟨q,hq1⟩:∃q,tt / 10=q:=⟨_,rfl⟩
       have hle:=d10_le_self Y p;obtain⟨Y2,hY2⟩:∃Y2,Y2+d10 Y p*10^p=Y+r*10^p:=⟨Y+r*10^p-d10 Y p*10^p,by omega⟩
       have hrl:r<10:=by omega
       have hst:=mulJ_step (Y:=Y2) hmj.out hsum (by rw[hp,hr1];exact hY2);rw[hq1]at hst;have HST:=Lib.hid hst;have HRN:Hid (∀a,ArrI w ((wr.drewN a).setCell ⟨w.heap.size,p,none⟩ (.int .i64 r)) w.heap.size L Y2):=fun a=>hri.set hpL hrl hY2 a
       have f0:(dx:Int)*(dy:Int)=(pr:Int):=by rw[← hpr,Int.natCast_mul]
       have f1:(d:Int)+(pr:Int)=(u:Int):=by omega
       have f2:(u:Int)+(cc:Int)=(tt:Int):=by omega
       have f3:(tt:Int)%10=(r:Int):=by omega
       have f4:(tt:Int) / 10=(q:Int):=by omega
       have f5:(k:Int)+(jj:Int)=(p:Int):=by omega
       have hql:q<=9:=by omega
       have g0:IntKind.i64.wrap ((k:Int)+(jj:Int))=(p:Int):=by rw[f5];exact IntWalk.i64_in _ (by omega)
       have g1:IntKind.i64.wrap ((dx:Int)*(dy:Int))=(pr:Int):=by rw[f0];exact IntWalk.i64_in _ (by omega)
       have g2:IntKind.i64.wrap ((d:Int)+(pr:Int))=(u:Int):=by rw[f1];exact IntWalk.i64_in _ (by omega)
       have g3:IntKind.i64.wrap ((u:Int)+(cc:Int))=(tt:Int):=by rw[f2];exact IntWalk.i64_in _ (by omega)
       have p0:(0:Int)<=(p:Int):=by omega
       have p1:(p:Int)<(L:Int):=by omega
       have p2:((p:Int)).toNat=p:=by omega
       have hjn:jj+1<=t.size+1:=by omega
       have HGO:=Lib.hid hgo;have QX:Hid (∀a,Calls Tryz.prog 231 #[.string s,.int .i64 k] (wr.drewN a) fun e w''=>e=.returned (.int .i64 dx)/\∃m,w''=wr.drewN m):=fun a=>quietL (CX'.out _)
       have QY:Hid (∀a,Calls Tryz.prog 231 #[.string t,.int .i64 jj] (wr.drewN a) fun e w''=>e=.returned (.int .i64 dy)/\∃m,w''=wr.drewN m):=fun a=>quietL (CY'.out _)
       clear hst hsum hmj hri hd hdy hpr hu htt hr1 hq1 hle hY2 CY hp hgo
       by_cases c1:jj<t.size
       all_goals
        first
         | have d1:decide ((jj:Int)<(t.size:Int))=true:=decide_eq_true (by omega)
         | (have d1 : decide ((jj : Int) < (t.size : Int)) = false := decide_eq_false (by omega)
            have hc0:0<cc:=by have:=HGO.out;omega
            have d2:decide ((0:Int)<(cc:Int))=true:=decide_eq_true (by omega))
        go_wp2_with fail
        go_quiet (first|(go_at_call 231;with_reducible exact QX.out _)|(go_at_call 231;with_reducible exact QY.out _))
        go_wp2
        go_roundw
        case rel=>exact⟨jj+1,q,Y2,hjn,by go_num,hql,rfl,HST.out,HRN.out _⟩
        case measure=>simp[intOf];omega
     · have hjm:t.size<=jj:=by omega
       obtain rfl:cc=0:=by omega
       have hfull:=mulJ_full hmj.out hjm HY.out;rw[Nat.zero_mul,Nat.add_zero]at hfull;have HF:=Lib.hid hfull;have HRI:=Lib.hid hri;have d1:decide ((jj:Int)<(t.size:Int))=false:=decide_eq_false (by omega);have hk2:k+1<=s.size:=by omega
       clear hfull hri hmj hgo;go_wp2
       go_roundw
       case rel=>exact⟨k+1,Y,hk2,by go_num,HF.out,HRI.out⟩
       case measure=>simp[intOf];omega
  · obtain rfl:k=s.size:=by omega
    have hxy:Z=x*y:=by rw[hZ.out,Nat.mod_eq_of_lt HX.out]
    have hlim:x*y<10^L:=by
     have h1:x*y<=x*10^t.size:=Nat.mul_le_mul_left _ (Nat.le_of_lt HY.out);have h2:x*10^t.size<10^s.size*10^t.size:=Nat.mul_lt_mul_of_pos_right HX.out (Nat.pow_pos (by omega));rw[← Nat.pow_add]at h2;have h3:10^(s.size+t.size)<=10^L:=Nat.pow_le_pow_right (by omega) (by have:=HL.out;omega)
     omega
    subst hxy;have HW:=Lib.hid (written_any (some ⟨w.heap.size,0,none⟩) L L (d10 (x*y)) (x*y) wr ⟨Nat.le_refl _,by omega,fun j _=>d10_lt _ _,.inr ⟨_,0,rfl,hr.lt,hr.row⟩⟩ (fun _ _=>rfl) hlim);have HB:=Lib.hid hr.below;have d0:decide ((s.size:Int)<(s.size:Int))=false:=decide_eq_false (by omega);clear hr hZ hlim HZ0
    go_wp2_with (go_at_call 218;refine HW.out.mono ?_;rintro e w7 ⟨rfl,hb7⟩)
    go_ret;exact⟨rfl,HB.out.trans (hb7.mono HB.out.size)⟩
end Go.Proofs.YtdmmenaejkpnjaaGreatDoor
namespace Go.Proofs.YtdmmenaejkpnjaaGreatDoor
open Go.RowKit
attribute [local go_sem ↓] Go.wp_at_zero Go.wp_at_succ
theorem dec_is0(N:Nat):((str (dec N)).toList == [48])=decide (N=0):=by
 have e:(str (dec N)).toList=dec N:=by rw[ByteArray.toList_eq];rfl
 rw[e,Bool.eq_iff_iff,beq_iff_eq,decide_eq_true_eq]
 constructor
 · intro h;have:=congrArg numOf h;unfold dec at this;rw[numOf_sdig,Nat.mod_eq_of_lt (dl_lt N)]at this
   simpa[numOf]using this
 · intro h;rw[h,dec_zero]
theorem rS_is0(Z:Int):((rS Z).toList == [48])=decide (Z=0):=by
 unfold rS;rw[dec_is0]
 by_cases h:Z=0
 · rw[decide_eq_true h,decide_eq_true (by omega)]
 · rw[decide_eq_false h,decide_eq_false (by omega)]
theorem rsgn_B(b:Bool)(N:Nat):rB (sgn b N)=(b && !decide (N=0)):=sgn_neg b N
theorem rsgn_S(b:Bool)(N:Nat):rS (sgn b N)=str (dec N):=by unfold rS;rw[sgn_abs]
theorem rOf_any (b : Bool) (N n : Nat) (w : World) (hn : 0 < n) (hN : N < 10 ^ n) (hl : n <= 10000000) :
    Calls Tryz.prog 189 #[.bool b,.string (str (sdig N n))] w fun e w'=>RTold w w' e (sgn b N):=by
 have TR:=Lib.hid (fun wz=>trim_any N n wz hn hN hl);have h0:=dec_is0 N;obtain⟨s,hs⟩:∃s,str (sdig N n)=s:=⟨_,rfl⟩
 obtain⟨t,ht⟩:∃t,str (dec N)=t:=⟨_,rfl⟩
 have hx:=rsgn_B b N;have hy:=rsgn_S b N;rw[ht]at TR h0 hy;rw[hs]at TR ⊢;obtain⟨z,hz⟩:∃z,decide (N=0)=z:=⟨_,rfl⟩
 rw[hz]at h0 hx;have HX:=Lib.hid hx;have HY:=Lib.hid hy;clear hx hy hs ht hz hN hn hl
 cases b
 · have HE:Hid (RTold w (w.alloc (.cells #[.bool false,.string t] 159)) (.returned (.agg #[.bool false,.string t])) (sgn false N)):=⟨by rw[HX.out,HY.out];rfl,(Below.refl _ _).alloc (Nat.le_refl _) _⟩
   go_enter Tryz.func189,Tryz.ntmps189
   go_wp2_with (go_at_call 111;refine(TR.out _).mono ?_;rintro e w2 ⟨rfl,rfl⟩)
   exact bodyPost_ret (v:=.agg #[.bool false,.string t]) (by simp[results,Tryz.results189,go_sem]) rfl HE.out
 · have HE:Hid (RTold w (w.alloc (.cells #[.bool (!z),.string t] 159)) (.returned (.agg #[.bool (!z),.string t])) (sgn true N)):=⟨by rw[HX.out,HY.out];rfl,(Below.refl _ _).alloc (Nat.le_refl _) _⟩
   cases z
   all_goals
    go_enter Tryz.func189,Tryz.ntmps189
    go_wp2_with (go_at_call 111;refine(TR.out _).mono ?_;rintro e w2 ⟨rfl,rfl⟩)
    exact bodyPost_ret (v:=_) (by simp[results,Tryz.results189,go_sem]) rfl HE.out
theorem rOf_dec (b : Bool) (N : Nat) (w : World) (hl : dl N <= 10000000) :
    Calls Tryz.prog 189 #[.bool b,.string (str (dec N))] w fun e w'=>RTold w w' e (sgn b N):=rOf_any b N (dl N) w (dl_pos N) (dl_lt N) hl
theorem rSign_any(Z:Int)(w:World):Calls Tryz.prog 150 #[.agg #[.bool (rB Z),.string (rS Z)]] w fun e w'=>e=.returned (.int .i64 (sgnI Z))/\Below w.heap.size w w':=by
 have B0:=Lib.hid ((Bag.start w).box2 (.bool (rB Z)) (.string (rS Z)) 159);have h0:=rS_is0 Z
 by_cases hz:Z=0
 · rw[decide_eq_true hz]at h0;have HE:Hid (sgnI Z=0):=by show _=_;unfold sgnI;rw[if_neg (by omega),if_pos hz]
   clear hz;generalize rB Z=b at *;generalize rS Z=s at *;go_enter Tryz.func150,Tryz.ntmps150;go_wp2;go_ret;exact⟨ret_int HE.out.symm,B0.out.below⟩
 · rw[decide_eq_false hz]at h0
   have HE:Hid (sgnI Z=if rB Z then -1 else 1):=by
    show _=_;unfold sgnI rB
    by_cases h2:Z<0
    · rw[if_pos h2,decide_eq_true h2];rfl
    · rw[if_neg h2,if_neg hz,decide_eq_false h2];rfl
   clear hz;generalize rB Z=b at *;generalize rS Z=s at *
   cases b
   all_goals
    go_enter Tryz.func150,Tryz.ntmps150;go_wp2;go_ret;exact⟨ret_int HE.out.symm,B0.out.below⟩
theorem rMinus_any(Z:Int)(w:World)(hl:dl Z.natAbs<=10000000):Calls Tryz.prog 209 #[.agg #[.bool (rB Z),.string (rS Z)]] w fun e w'=>RTold w w' e (-Z):=by
 have B0:=((Bag.start w).box2 (.bool (rB Z)) (.string (rS Z)) 159).box2 (.bool false) (.string ⟨#[]⟩) 159;rw[World.size_alloc]at B0
 have OF:Hid (∀wz,Calls Tryz.prog 189 #[.bool (!rB Z),.string (rS Z)] wz fun e w'=>RTold wz w' e (-Z)):=by
  intro wz;have h1:=rOf_dec (!rB Z) Z.natAbs wz hl
  have e:sgn (!rB Z) Z.natAbs = -Z:=by
   unfold rB
   by_cases h2:Z<0
   · rw[decide_eq_true h2];simp[sgn];omega
   · rw[decide_eq_false h2];simp[sgn];omega
  rw[e]at h1;exact h1
 have BB:=Lib.hid B0;generalize rB Z=b at *;generalize rS Z=s at *;generalize -Z=Y at *;clear B0 hl;go_enter Tryz.func209,Tryz.ntmps209;go_wp2_with fail;go_at_call 189;refine(OF.out _).mono ?_;rintro e w2 ⟨rfl,hb2⟩;have B2:=BB.out.go hb2;have hs2:=B2.now.1;have hc1:=hs2.cell;have hc2:=hs2.cell1;have hf1:=hs2.free;have hf2:=hs2.free1;have HS:=hs2.set (.bool (rB Y)) (.string (rS Y));have HE:=Lib.hid (RTold.fin (Y:=Y) B2.below (show w.heap.size<=w.heap.size+1 by omega) rfl rfl);unfold put2 at HE;clear hb2 B2 hs2;go_wp2;exact bodyPost_ret (by simp[results,Tryz.results209,go_sem,HS]) rfl HE.out
theorem cmpZ_sgn{Z Y:Int}(h:sgnI Z≠sgnI Y):cmpZ Z Y=if sgnI Z<sgnI Y then -1 else 1:=by
 unfold cmpZ sgnI at *
 (repeat' split at h)<;>(repeat' split)<;>omega
theorem cmpZ_abs{Z Y:Int}(h:sgnI Z=sgnI Y):cmpZ Z Y=if rB Z then cmpI Y.natAbs Z.natAbs else cmpI Z.natAbs Y.natAbs:=by
 unfold cmpZ sgnI rB cmpI at *
 by_cases h1:Z<0
 · rw[decide_eq_true h1];(repeat' split at h)<;>simp only[if_true]<;>(repeat' split)<;>omega
 · rw[decide_eq_false h1];(repeat' split at h)<;>simp only[Bool.false_eq_true,if_false]<;>(repeat' split)<;>omega
theorem rCmp_any (Z Y : Int) (w : World) (hl : dl Z.natAbs <= 100000) (hl2 : dl Y.natAbs <= 100000) :
    Calls Tryz.prog 127 #[.agg #[.bool (rB Z),.string (rS Z)],.agg #[.bool (rB Y),.string (rS Y)]] w fun e w'=>e=.returned (.int .i64 (cmpZ Z Y))/\Below w.heap.size w w':=by
 have B0:=((Bag.start w).box2 (.bool (rB Z)) (.string (rS Z)) 159).box2 (.bool (rB Y)) (.string (rS Y)) 159;rw[World.size_alloc]at B0;have S1:=Lib.hid (fun wz=>rSign_any Z wz);have S2:=Lib.hid (fun wz=>rSign_any Y wz);have C1:=Lib.hid (fun wz=>rcmp_any Z.natAbs Y.natAbs wz hl hl2);have C2:=Lib.hid (fun wz=>rcmp_any Y.natAbs Z.natAbs wz hl2 hl);have HD:=Lib.hid (@cmpZ_sgn Z Y);have HS:=Lib.hid (@cmpZ_abs Z Y);have e1:str (dec Z.natAbs)=rS Z:=rfl;have e2:str (dec Y.natAbs)=rS Y:=rfl;rw[e1,e2]at C1 C2;have BB:=Lib.hid B0;generalize rB Z=b at *;generalize rS Z=s at *;generalize rB Y=b2 at *;generalize rS Y=s2 at *;obtain⟨x,hx⟩:∃x,sgnI Z=x:=⟨_,rfl⟩
 obtain⟨y,hy⟩:∃y,sgnI Y=y:=⟨_,rfl⟩
 rw[hx]at S1 HD HS;rw[hy]at S2 HD HS;clear e1 e2 hx hy hl hl2 B0
 by_cases hxy:x=y
 · have hd : (x == y) = true := by rw [hxy]; simp
   have HE:=Lib.hid (HS.out hxy);clear hxy HD HS;go_enter Tryz.func127,Tryz.ntmps127;go_wp2_with fail
   go_region_held3 (fun z => (z.cell? ⟨w.heap.size, 0, none⟩ = some (.bool b) /\ z.cell? ⟨w.heap.size, 1, none⟩ = some (.string s) /\ z.cell? ⟨w.heap.size + 1, 0, none⟩ = some (.bool b2) /\ z.cell? ⟨w.heap.size + 1, 1, none⟩ = some (.string s2)) /\ Bag w (fun z => Slot2 z (w.heap.size + 1) (.bool b2) (.string s2) /\ Slot2 z w.heap.size (.bool b) (.string s) /\ True) z)
    (first
      | (have B9:=BB.out.drew;exact⟨⟨B9.now.2.1.cell,B9.now.2.1.cell1,B9.now.1.cell,B9.now.1.cell1⟩,B9⟩)
      | (have B9:=Bag.go (show Bag w (fun z=>Slot2 z (w.heap.size+1) (.bool b2) (.string s2)/\Slot2 z w.heap.size (.bool b) (.string s)/\True) _ from by go_split_ands;assumption) hb2;exact⟨⟨B9.now.2.1.cell,B9.now.2.1.cell1,B9.now.1.cell,B9.now.1.cell1⟩,B9⟩))
    (first
      | (go_at_call 150;(with_reducible refine(S1.out _).mono ?_);rintro e w2 ⟨rfl,hb2⟩)
      | (go_at_call 150;(with_reducible refine(S2.out _).mono ?_);rintro e w2 ⟨rfl,hb2⟩))
   have BB:=Lib.hid (show Bag w (fun z=>Slot2 z (w.heap.size+1) (.bool b2) (.string s2)/\Slot2 z w.heap.size (.bool b) (.string s)/\True) _ from by go_split_ands;assumption);have q0:=BB.out.now.2.1.cell;have q1:=BB.out.now.2.1.cell1;have q2:=BB.out.now.1.cell;have q3:=BB.out.now.1.cell1
   cases b
   · go_wp2_with (go_at_call 188;(with_reducible refine(C1.out _).mono ?_);rintro e w5 ⟨rfl,rfl⟩)
     go_ret;exact⟨ret_int HE.out.symm,BB.out.below⟩
   · go_wp2_with (go_at_call 188;(with_reducible refine(C2.out _).mono ?_);rintro e w5 ⟨rfl,rfl⟩)
     go_ret;exact⟨ret_int HE.out.symm,BB.out.below⟩
 · have hd : (x == y) = false := by rw [beq_eq_false_iff_ne]; exact hxy
   have HE:=Lib.hid (HD.out hxy);clear hxy HD HS
   by_cases hlt:x<y
   all_goals
    first
     | have d1:decide (x<y)=true:=decide_eq_true hlt
     | have d1:decide (x<y)=false:=decide_eq_false hlt
    have HF:Hid (cmpZ Z Y=if decide (x<y)then -1 else 1):=by show _=_;rw[HE.out];simp
    rw[d1]at HF;go_enter Tryz.func127,Tryz.ntmps127;go_wp2_with fail
    go_region_held3 (fun z => (z.cell? ⟨w.heap.size, 0, none⟩ = some (.bool b) /\ z.cell? ⟨w.heap.size, 1, none⟩ = some (.string s) /\ z.cell? ⟨w.heap.size + 1, 0, none⟩ = some (.bool b2) /\ z.cell? ⟨w.heap.size + 1, 1, none⟩ = some (.string s2)) /\ Bag w (fun z => Slot2 z (w.heap.size + 1) (.bool b2) (.string s2) /\ Slot2 z w.heap.size (.bool b) (.string s) /\ True) z)
     (first
       | (have B9:=BB.out.drew;exact⟨⟨B9.now.2.1.cell,B9.now.2.1.cell1,B9.now.1.cell,B9.now.1.cell1⟩,B9⟩)
       | (have B9:=Bag.go (show Bag w (fun z=>Slot2 z (w.heap.size+1) (.bool b2) (.string s2)/\Slot2 z w.heap.size (.bool b) (.string s)/\True) _ from by go_split_ands;assumption) hb2;exact⟨⟨B9.now.2.1.cell,B9.now.2.1.cell1,B9.now.1.cell,B9.now.1.cell1⟩,B9⟩))
     (first
       | (go_at_call 150;(with_reducible refine(S1.out _).mono ?_);rintro e w2 ⟨rfl,hb2⟩)
       | (go_at_call 150;(with_reducible refine(S2.out _).mono ?_);rintro e w2 ⟨rfl,hb2⟩))
    have BB:=Lib.hid (show Bag w (fun z=>Slot2 z (w.heap.size+1) (.bool b2) (.string s2)/\Slot2 z w.heap.size (.bool b) (.string s)/\True) _ from by go_split_ands;assumption);go_wp2_with fail
    go_region_held3 (fun z => (z.cell? ⟨w.heap.size, 0, none⟩ = some (.bool b) /\ z.cell? ⟨w.heap.size, 1, none⟩ = some (.string s) /\ z.cell? ⟨w.heap.size + 1, 0, none⟩ = some (.bool b2) /\ z.cell? ⟨w.heap.size + 1, 1, none⟩ = some (.string s2)) /\ Bag w (fun z => Slot2 z (w.heap.size + 1) (.bool b2) (.string s2) /\ Slot2 z w.heap.size (.bool b) (.string s) /\ True) z)
     (first
       | (have B9:=BB.out.drew;exact⟨⟨B9.now.2.1.cell,B9.now.2.1.cell1,B9.now.1.cell,B9.now.1.cell1⟩,B9⟩)
       | (have B9:=Bag.go (show Bag w (fun z=>Slot2 z (w.heap.size+1) (.bool b2) (.string s2)/\Slot2 z w.heap.size (.bool b) (.string s)/\True) _ from by go_split_ands;assumption) hb2;exact⟨⟨B9.now.2.1.cell,B9.now.2.1.cell1,B9.now.1.cell,B9.now.1.cell1⟩,B9⟩))
     (first
       | (go_at_call 150;(with_reducible refine(S1.out _).mono ?_);rintro e w2 ⟨rfl,hb2⟩)
       | (go_at_call 150;(with_reducible refine(S2.out _).mono ?_);rintro e w2 ⟨rfl,hb2⟩))
    have BB:=Lib.hid (show Bag w (fun z=>Slot2 z (w.heap.size+1) (.bool b2) (.string s2)/\Slot2 z w.heap.size (.bool b) (.string s)/\True) _ from by go_split_ands;assumption);go_wp2;go_ret;exact⟨ret_int HF.out.symm,BB.out.below⟩
theorem dl_add_le{x y k:Nat}(hx:dl x<=k)(hy:dl y<=k):dl (x+y)<=k+1:=by
 refine dl_le _ _ (by omega) ?_;have h1:=dl_lt x;have h2:=dl_lt y;have h3:=Nat.pow_le_pow_right (show 0<10 by omega) hx;have h4:=Nat.pow_le_pow_right (show 0<10 by omega) hy;rw[Nat.pow_succ];omega
theorem dl_mono{x y:Nat}(h:x<=y):dl x<=dl y:=dl_le _ _ (dl_pos y) (Nat.lt_of_le_of_lt h (dl_lt y))
theorem dl_mul_le{x y k m:Nat}(hx:dl x<=k)(hy:dl y<=m):dl (x*y)<=k+m:=by
 have h1:=dl_lt x;have h2:=dl_lt y;have h3:=Nat.pow_le_pow_right (show 0<10 by omega) hx;have h4:=Nat.pow_le_pow_right (show 0<10 by omega) hy;have:=dl_pos x;refine dl_le _ _ (by omega) ?_;rw[Nat.pow_add];have a1:x*y<=x*10^m:=Nat.mul_le_mul_left _ (by omega);have a2:x*10^m<10^k*10^m:=Nat.mul_lt_mul_of_pos_right (by omega) (Nat.pow_pos (by omega))
 omega
theorem rAdd_same (Z Y : Int) (w : World) (hl : dl Z.natAbs <= 1000) (hl2 : dl Y.natAbs <= 1000) (hs : rB Z = rB Y) :
    Calls Tryz.prog 193 #[.agg #[.bool (rB Z),.string (rS Z)],.agg #[.bool (rB Y),.string (rS Y)]] w fun e w'=>RTold w w' e (Z+Y):=by
 have hd:(rB Z==rB Y)=true:=by rw[hs];simp
 have hv:sgn (rB Z) (Z.natAbs+Y.natAbs)=Z+Y:=by
  unfold rB at *
  by_cases h1:Z<0
  · rw[decide_eq_true h1]at hs ⊢;have:=of_decide_eq_true hs.symm
    simp[sgn];omega
  · rw[decide_eq_false h1]at hs ⊢;have:=of_decide_eq_false hs.symm
    simp[sgn];omega
 have OF:Hid (∀wz,Calls Tryz.prog 189 #[.bool (rB Z),.string (str (dec (Z.natAbs+Y.natAbs)))] wz fun e w'=>RTold wz w' e (Z+Y)):=by
  intro wz;have h1:=rOf_dec (rB Z) (Z.natAbs+Y.natAbs) wz (by have:=dl_add_le hl hl2;omega);rw[show sgn (rB Z) (Z.natAbs+Y.natAbs)=Z+Y from hv]at h1;exact h1
 have C1:Hid (∀wz,Calls Tryz.prog 197 #[.string (rS Z),.string (rS Y)] wz fun e w'=>e=.returned (.string (str (dec (Z.natAbs+Y.natAbs))))/\Below wz.heap.size wz w'):=fun wz=>radd_any Z.natAbs (dl Z.natAbs) Y.natAbs (dl Y.natAbs) wz (dl_lt _) (dl_lt _) (by omega) (by omega)
 clear hs;obtain⟨V,hV⟩:∃V,Z+Y=V:=⟨_,rfl⟩
 rw[hV]at OF ⊢;obtain⟨t,ht⟩:∃t,str (dec (Z.natAbs+Y.natAbs))=t:=⟨_,rfl⟩
 rw[ht]at OF C1;clear hV ht hv;generalize rB Z=b at *;generalize rS Z=s at *;generalize rB Y=b2 at *;generalize rS Y=s2 at *;clear hl hl2;have BB:=Lib.hid (BP.start w b s b2 s2);have q0:=BB.out.now.2.2.cell;have q1:=BB.out.now.2.2.cell1;have q2:=BB.out.now.2.1.cell;have q3:=BB.out.now.2.1.cell1;go_enter Tryz.func193,Tryz.ntmps193;go_wp2_with fail
 go_region_held3 (fun y => (y.cell? ⟨w.heap.size, 0, none⟩ = some (.bool b) /\ y.cell? ⟨w.heap.size, 1, none⟩ = some (.string s) /\ y.cell? ⟨w.heap.size + 1, 0, none⟩ = some (.bool b2) /\ y.cell? ⟨w.heap.size + 1, 1, none⟩ = some (.string s2)) /\ Bag w (BP w.heap.size b s b2 s2) y)
  (first
    | (have B9:=BB.out.drew;exact⟨⟨B9.now.2.2.cell,B9.now.2.2.cell1,B9.now.2.1.cell,B9.now.2.1.cell1⟩,B9⟩)
    | (have B9:=Bag.go (show Bag w (BP w.heap.size b s b2 s2) _ from by go_split_ands;assumption) hb2;exact⟨⟨B9.now.2.2.cell,B9.now.2.2.cell1,B9.now.2.1.cell,B9.now.2.1.cell1⟩,B9⟩)
    | (have B9:=Bag.put2 (show Bag w (BP w.heap.size b s b2 s2) _ from by go_split_ands;assumption) (k:=w.heap.size+1+1) (u:=.bool (rB V)) (v:=.string (rS V)) (by omega) (fun h=>h.put2 _ _);exact⟨⟨B9.now.2.2.cell,B9.now.2.2.cell1,B9.now.2.1.cell,B9.now.2.1.cell1⟩,B9⟩))
  (first
    | (go_at_call 197;(with_reducible refine(C1.out _).mono ?_);rintro e w2 ⟨rfl,hb2⟩)
    | (go_at_call 189;(with_reducible refine(OF.out _).mono ?_);rintro e w2 ⟨rfl,hb2⟩;have B7:=Bag.go (show Bag w (BP w.heap.size b s b2 s2) _ from by go_split_ands;assumption) hb2;obtain⟨x8,z8,hs8⟩:=B7.now.1;have hc1:=hs8.cell;have hc2:=hs8.cell1;have hf1:=hs8.free;have hf2:=hs8.free1;have HS:=hs8.set (.bool (rB V)) (.string (rS V));have HE:=Lib.hid (RTold.fin (Y:=V) B7.below (show w.heap.size<=w.heap.size+1+1 by omega) rfl rfl);unfold put2 at HE;clear hs8 B7))
 go_wp2;exact bodyPost_ret (by simp[results,Tryz.results193,go_sem,HS]) rfl HE.out
theorem rAdd_less (Z Y : Int) (w : World) (hl : dl Z.natAbs <= 1000) (hl2 : dl Y.natAbs <= 1000) (hs : ¬ rB Z = rB Y) (hle : Y.natAbs <= Z.natAbs) :
    Calls Tryz.prog 193 #[.agg #[.bool (rB Z),.string (rS Z)],.agg #[.bool (rB Y),.string (rS Y)]] w fun e w'=>RTold w w' e (Z+Y):=by
 have hd:(rB Z==rB Y)=false:=by simpa using hs
 have hv:sgn (rB Z) (Z.natAbs-Y.natAbs)=Z+Y:=by
  unfold rB at *
  by_cases h1:Z<0
  · rw[decide_eq_true h1]at hs
    by_cases h2:Y<0
    · rw[decide_eq_true h2]at hs;exact absurd rfl hs
    · first|rw[decide_eq_true h1]|rw[decide_eq_false h2]
      simp[sgn];omega
  · rw[decide_eq_false h1]at hs
    by_cases h2:Y<0
    · first|rw[decide_eq_false h1]|rw[decide_eq_true h2]
      simp[sgn];omega
    · rw[decide_eq_false h2]at hs;exact absurd rfl hs
 have CM:Hid (∀wz,Calls Tryz.prog 188 #[.string (rS Z),.string (rS Y)] wz fun e w'=>e=.returned (.int .i64 (cmpI Z.natAbs Y.natAbs))/\wz=w'):=fun wz=>rcmp_any Z.natAbs Y.natAbs wz (by omega) (by omega)
 obtain⟨cm,hcm⟩:∃cm,cmpI Z.natAbs Y.natAbs=cm:=⟨_,rfl⟩
 rw[hcm]at CM
 have hge:0<=cm:=by
  obtain⟨k,hk⟩:=cmp_pos hle
  omega
 have d1:decide (0<=cm)=true:=decide_eq_true hge
 have OF:Hid (∀wz,Calls Tryz.prog 189 #[.bool (rB Z),.string (str (dec (Z.natAbs-Y.natAbs)))] wz fun e w'=>RTold wz w' e (Z+Y)):=by
  intro wz;have h1:=rOf_dec (rB Z) (Z.natAbs-Y.natAbs) wz (by have:=dl_mono (Nat.sub_le Z.natAbs Y.natAbs);omega);rw[show sgn (rB Z) (Z.natAbs-Y.natAbs)=Z+Y from hv]at h1;exact h1
 have C1:Hid (∀wz,Calls Tryz.prog 196 #[.string (rS Z),.string (rS Y)] wz fun e w'=>e=.returned (.string (str (dec (Z.natAbs-Y.natAbs))))/\Below wz.heap.size wz w'):=fun wz=>rsub_any Z.natAbs (dl Z.natAbs) Y.natAbs (dl Y.natAbs) wz (dl_lt _) (dl_lt _) (by omega) (by omega) hle
 clear hs hcm hle;obtain⟨V,hV⟩:∃V,Z+Y=V:=⟨_,rfl⟩
 rw[hV]at OF ⊢;obtain⟨t,ht⟩:∃t,str (dec (Z.natAbs-Y.natAbs))=t:=⟨_,rfl⟩
 rw[ht]at OF C1;clear hV ht hv;generalize rB Z=b at *;generalize rS Z=s at *;generalize rB Y=b2 at *;generalize rS Y=s2 at *;clear hl hl2;have BB:=Lib.hid (BP.start w b s b2 s2);have q0:=BB.out.now.2.2.cell;have q1:=BB.out.now.2.2.cell1;have q2:=BB.out.now.2.1.cell;have q3:=BB.out.now.2.1.cell1;go_enter Tryz.func193,Tryz.ntmps193
 go_wp2_with (go_at_call 188;(with_reducible refine(CM.out _).mono ?_);rintro e w5 ⟨rfl,rfl⟩)
 go_region_held3 (fun y => (y.cell? ⟨w.heap.size, 0, none⟩ = some (.bool b) /\ y.cell? ⟨w.heap.size, 1, none⟩ = some (.string s) /\ y.cell? ⟨w.heap.size + 1, 0, none⟩ = some (.bool b2) /\ y.cell? ⟨w.heap.size + 1, 1, none⟩ = some (.string s2)) /\ Bag w (BP w.heap.size b s b2 s2) y)
  (first
    | (have B9:=BB.out.drew;exact⟨⟨B9.now.2.2.cell,B9.now.2.2.cell1,B9.now.2.1.cell,B9.now.2.1.cell1⟩,B9⟩)
    | (have B9:=Bag.go (show Bag w (BP w.heap.size b s b2 s2) _ from by go_split_ands;assumption) hb2;exact⟨⟨B9.now.2.2.cell,B9.now.2.2.cell1,B9.now.2.1.cell,B9.now.2.1.cell1⟩,B9⟩)
    | (have B9:=Bag.put2 (show Bag w (BP w.heap.size b s b2 s2) _ from by go_split_ands;assumption) (k:=w.heap.size+1+1) (u:=.bool (rB V)) (v:=.string (rS V)) (by omega) (fun h=>h.put2 _ _);exact⟨⟨B9.now.2.2.cell,B9.now.2.2.cell1,B9.now.2.1.cell,B9.now.2.1.cell1⟩,B9⟩))
  (first
    | (go_at_call 196;(with_reducible refine(C1.out _).mono ?_);rintro e w2 ⟨rfl,hb2⟩)
    | (go_at_call 189;(with_reducible refine(OF.out _).mono ?_);rintro e w2 ⟨rfl,hb2⟩;have B7:=Bag.go (show Bag w (BP w.heap.size b s b2 s2) _ from by go_split_ands;assumption) hb2;obtain⟨x8,z8,hs8⟩:=B7.now.1;have hc1:=hs8.cell;have hc2:=hs8.cell1;have hf1:=hs8.free;have hf2:=hs8.free1;have HS:=hs8.set (.bool (rB V)) (.string (rS V));have HE:=Lib.hid (RTold.fin (Y:=V) B7.below (show w.heap.size<=w.heap.size+1+1 by omega) rfl rfl);unfold put2 at HE;clear hs8 B7))
 go_wp2;exact bodyPost_ret (by simp[results,Tryz.results193,go_sem,HS]) rfl HE.out
theorem rAdd_more (Z Y : Int) (w : World) (hl : dl Z.natAbs <= 1000) (hl2 : dl Y.natAbs <= 1000) (hs : ¬ rB Z = rB Y) (hle : Z.natAbs < Y.natAbs) :
    Calls Tryz.prog 193 #[.agg #[.bool (rB Z),.string (rS Z)],.agg #[.bool (rB Y),.string (rS Y)]] w fun e w'=>RTold w w' e (Z+Y):=by
 have hd:(rB Z==rB Y)=false:=by simpa using hs
 have hv:sgn (rB Y) (Y.natAbs-Z.natAbs)=Z+Y:=by
  unfold rB at *
  by_cases h1:Z<0
  · rw[decide_eq_true h1]at hs
    by_cases h2:Y<0
    · rw[decide_eq_true h2]at hs;exact absurd rfl hs
    · first|rw[decide_eq_true h1]|rw[decide_eq_false h2]
      simp[sgn];omega
  · rw[decide_eq_false h1]at hs
    by_cases h2:Y<0
    · first|rw[decide_eq_false h1]|rw[decide_eq_true h2]
      simp[sgn];omega
    · rw[decide_eq_false h2]at hs;exact absurd rfl hs
 have CM:Hid (∀wz,Calls Tryz.prog 188 #[.string (rS Z),.string (rS Y)] wz fun e w'=>e=.returned (.int .i64 (cmpI Z.natAbs Y.natAbs))/\wz=w'):=fun wz=>rcmp_any Z.natAbs Y.natAbs wz (by omega) (by omega)
 obtain⟨cm,hcm⟩:∃cm,cmpI Z.natAbs Y.natAbs=cm:=⟨_,rfl⟩
 rw[hcm]at CM;have hlt:cm = -1:=by rw[← hcm];exact cmp_neg hle
 subst hlt
 have OF:Hid (∀wz,Calls Tryz.prog 189 #[.bool (rB Y),.string (str (dec (Y.natAbs-Z.natAbs)))] wz fun e w'=>RTold wz w' e (Z+Y)):=by
  intro wz;have h1:=rOf_dec (rB Y) (Y.natAbs-Z.natAbs) wz (by have:=dl_mono (Nat.sub_le Y.natAbs Z.natAbs);omega);rw[show sgn (rB Y) (Y.natAbs-Z.natAbs)=Z+Y from hv]at h1;exact h1
 have C1:Hid (∀wz,Calls Tryz.prog 196 #[.string (rS Y),.string (rS Z)] wz fun e w'=>e=.returned (.string (str (dec (Y.natAbs-Z.natAbs))))/\Below wz.heap.size wz w'):=fun wz=>rsub_any Y.natAbs (dl Y.natAbs) Z.natAbs (dl Z.natAbs) wz (dl_lt _) (dl_lt _) (by omega) (by omega) (by omega)
 clear hs hcm hle;obtain⟨V,hV⟩:∃V,Z+Y=V:=⟨_,rfl⟩
 rw[hV]at OF ⊢;obtain⟨t,ht⟩:∃t,str (dec (Y.natAbs-Z.natAbs))=t:=⟨_,rfl⟩
 rw[ht]at OF C1;clear hV ht hv;generalize rB Z=b at *;generalize rS Z=s at *;generalize rB Y=b2 at *;generalize rS Y=s2 at *;clear hl hl2;have BB:=Lib.hid (BP.start w b s b2 s2);have q0:=BB.out.now.2.2.cell;have q1:=BB.out.now.2.2.cell1;have q2:=BB.out.now.2.1.cell;have q3:=BB.out.now.2.1.cell1;go_enter Tryz.func193,Tryz.ntmps193
 go_wp2_with (go_at_call 188;(with_reducible refine(CM.out _).mono ?_);rintro e w5 ⟨rfl,rfl⟩)
 go_region_held3 (fun y => (y.cell? ⟨w.heap.size, 0, none⟩ = some (.bool b) /\ y.cell? ⟨w.heap.size, 1, none⟩ = some (.string s) /\ y.cell? ⟨w.heap.size + 1, 0, none⟩ = some (.bool b2) /\ y.cell? ⟨w.heap.size + 1, 1, none⟩ = some (.string s2)) /\ Bag w (BP w.heap.size b s b2 s2) y)
  (first
    | (have B9:=BB.out.drew;exact⟨⟨B9.now.2.2.cell,B9.now.2.2.cell1,B9.now.2.1.cell,B9.now.2.1.cell1⟩,B9⟩)
    | (have B9:=Bag.go (show Bag w (BP w.heap.size b s b2 s2) _ from by go_split_ands;assumption) hb2;exact⟨⟨B9.now.2.2.cell,B9.now.2.2.cell1,B9.now.2.1.cell,B9.now.2.1.cell1⟩,B9⟩)
    | (have B9:=Bag.put2 (show Bag w (BP w.heap.size b s b2 s2) _ from by go_split_ands;assumption) (k:=w.heap.size+1+1) (u:=.bool (rB V)) (v:=.string (rS V)) (by omega) (fun h=>h.put2 _ _);exact⟨⟨B9.now.2.2.cell,B9.now.2.2.cell1,B9.now.2.1.cell,B9.now.2.1.cell1⟩,B9⟩))
  (first
    | (go_at_call 196;(with_reducible refine(C1.out _).mono ?_);rintro e w2 ⟨rfl,hb2⟩)
    | (go_at_call 189;(with_reducible refine(OF.out _).mono ?_);rintro e w2 ⟨rfl,hb2⟩;have B7:=Bag.go (show Bag w (BP w.heap.size b s b2 s2) _ from by go_split_ands;assumption) hb2;obtain⟨x8,z8,hs8⟩:=B7.now.1;have hc1:=hs8.cell;have hc2:=hs8.cell1;have hf1:=hs8.free;have hf2:=hs8.free1;have HS:=hs8.set (.bool (rB V)) (.string (rS V));have HE:=Lib.hid (RTold.fin (Y:=V) B7.below (show w.heap.size<=w.heap.size+1+1 by omega) rfl rfl);unfold put2 at HE;clear hs8 B7))
 go_wp2;exact bodyPost_ret (by simp[results,Tryz.results193,go_sem,HS]) rfl HE.out
theorem rMul_any (Z Y : Int) (w : World) (hl : dl Z.natAbs <= 1000) (hl2 : dl Y.natAbs <= 1000)  :
    Calls Tryz.prog 128 #[.agg #[.bool (rB Z),.string (rS Z)],.agg #[.bool (rB Y),.string (rS Y)]] w fun e w'=>RTold w w' e (Z*Y):=by
 have hv:sgn (rB Z != rB Y) (Z.natAbs*Y.natAbs)=Z*Y:=sgn_mul Z Y
 have OF:Hid (∀wz,Calls Tryz.prog 189 #[.bool (rB Z != rB Y),.string (str (dec (Z.natAbs*Y.natAbs)))] wz fun e w'=>RTold wz w' e (Z*Y)):=by
  intro wz;have h1:=rOf_dec (rB Z != rB Y) (Z.natAbs*Y.natAbs) wz (by have:=dl_mul_le hl hl2;omega);rw[show sgn (rB Z != rB Y) (Z.natAbs*Y.natAbs)=Z*Y from hv]at h1;exact h1
 have C1:Hid (∀wz,Calls Tryz.prog 190 #[.string (rS Z),.string (rS Y)] wz fun e w'=>e=.returned (.string (str (dec (Z.natAbs*Y.natAbs))))/\Below wz.heap.size wz w'):=fun wz=>rmul_any Z.natAbs (dl Z.natAbs) Y.natAbs (dl Y.natAbs) wz (dl_lt _) (dl_lt _) (by omega) (by omega)
 obtain⟨mm,hmm⟩:∃mm,(!(rB Z==rB Y))=mm:=⟨_,rfl⟩
 rw[show(rB Z != rB Y)=mm from hmm]at OF;obtain⟨V,hV⟩:∃V,Z*Y=V:=⟨_,rfl⟩
 rw[hV]at OF ⊢;obtain⟨t,ht⟩:∃t,str (dec (Z.natAbs*Y.natAbs))=t:=⟨_,rfl⟩
 rw[ht]at OF C1;clear hV ht hv;generalize rB Z=b at *;generalize rS Z=s at *;generalize rB Y=b2 at *;generalize rS Y=s2 at *;clear hl hl2;have BB:=Lib.hid (BP.start w b s b2 s2);have q0:=BB.out.now.2.2.cell;have q1:=BB.out.now.2.2.cell1;have q2:=BB.out.now.2.1.cell;have q3:=BB.out.now.2.1.cell1;go_enter Tryz.func128,Tryz.ntmps128;go_wp2_with fail
 go_region_held3 (fun y => (y.cell? ⟨w.heap.size, 0, none⟩ = some (.bool b) /\ y.cell? ⟨w.heap.size, 1, none⟩ = some (.string s) /\ y.cell? ⟨w.heap.size + 1, 0, none⟩ = some (.bool b2) /\ y.cell? ⟨w.heap.size + 1, 1, none⟩ = some (.string s2)) /\ Bag w (BP w.heap.size b s b2 s2) y)
  (first
    | (have B9:=BB.out.drew;exact⟨⟨B9.now.2.2.cell,B9.now.2.2.cell1,B9.now.2.1.cell,B9.now.2.1.cell1⟩,B9⟩)
    | (have B9:=Bag.go (show Bag w (BP w.heap.size b s b2 s2) _ from by go_split_ands;assumption) hb2;exact⟨⟨B9.now.2.2.cell,B9.now.2.2.cell1,B9.now.2.1.cell,B9.now.2.1.cell1⟩,B9⟩)
    | (have B9:=Bag.put2 (show Bag w (BP w.heap.size b s b2 s2) _ from by go_split_ands;assumption) (k:=w.heap.size+1+1) (u:=.bool (rB V)) (v:=.string (rS V)) (by omega) (fun h=>h.put2 _ _);exact⟨⟨B9.now.2.2.cell,B9.now.2.2.cell1,B9.now.2.1.cell,B9.now.2.1.cell1⟩,B9⟩))
  (first
    | (go_at_call 190;(with_reducible refine(C1.out _).mono ?_);rintro e w2 ⟨rfl,hb2⟩)
    | (go_at_call 189;(with_reducible refine(OF.out _).mono ?_);rintro e w2 ⟨rfl,hb2⟩;have B7:=Bag.go (show Bag w (BP w.heap.size b s b2 s2) _ from by go_split_ands;assumption) hb2;obtain⟨x8,z8,hs8⟩:=B7.now.1;have hc1:=hs8.cell;have hc2:=hs8.cell1;have hf1:=hs8.free;have hf2:=hs8.free1;have HS:=hs8.set (.bool (rB V)) (.string (rS V));have HE:=Lib.hid (RTold.fin (Y:=V) B7.below (show w.heap.size<=w.heap.size+1+1 by omega) rfl rfl);unfold put2 at HE;clear hs8 B7))
 go_wp2;exact bodyPost_ret (by simp[results,Tryz.results128,go_sem,HS]) rfl HE.out
theorem rAdd_any (Z Y : Int) (w : World) (hl : dl Z.natAbs <= 1000) (hl2 : dl Y.natAbs <= 1000) :
    Calls Tryz.prog 193 #[.agg #[.bool (rB Z),.string (rS Z)],.agg #[.bool (rB Y),.string (rS Y)]] w fun e w'=>RTold w w' e (Z+Y):=by
 by_cases hs:rB Z=rB Y
 · exact rAdd_same Z Y w hl hl2 hs
 · rcases Nat.lt_or_ge Z.natAbs Y.natAbs with h|h
   · exact rAdd_more Z Y w hl hl2 hs h
   · exact rAdd_less Z Y w hl hl2 hs h
end Go.Proofs.YtdmmenaejkpnjaaGreatDoor
