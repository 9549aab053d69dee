/-
  Texts of this seat, laid together.
-/
import Derived.Lib.ItoaNum
import Derived.IntWalk
import Derived.Test.YtdmmenaejkpnjaaGreatDoorShelf
import Derived.Laws.BytesArg
import Derived.Test.YtdmmenaejkpnjaaGreatDoorI1
set_option maxHeartbeats 12800000
set_option maxRecDepth 100000
set_option linter.unusedSimpArgs false
set_option linter.unusedVariables false
namespace Go.Proofs.YtdmmenaejkpnjaaGreatDoor
open Go.RowKit
theorem pow_add32(a b:Nat):(4294967296:Nat)^(a+b)=4294967296^a*4294967296^b:=Nat.pow_add ..
theorem pow_pos32(a:Nat):0<(4294967296:Nat)^a:=Nat.pow_pos (by omega)
theorem pow_mono32{a b:Nat}(h:a<=b):(4294967296:Nat)^a<=4294967296^b:=Nat.pow_le_pow_right (by omega) h
theorem val_shift (f : Nat -> Nat) (a : Nat) : ∀ k, val f (a + k) = val f a + 4294967296 ^ a * val (fun j => f (a + j)) k
 | 0=>by simp[val]
 | k+1=>by
  rw[← Nat.add_assoc,val,val_shift f a k,val,pow_add32,Nat.mul_add]
  have:f (a+k)*(4294967296^a*4294967296^k)=4294967296^a*(f (a+k)*4294967296^k):=by
   rw[← Nat.mul_assoc,Nat.mul_comm (f (a+k)),Nat.mul_assoc]
  omega
theorem val_low(f:Nat->Nat){k n:Nat}(h:k<=n)(hv:val f n<4294967296^k):val f n=val f k:=by
 obtain⟨m,rfl⟩:∃m,n=k+m:=⟨n-k,by omega⟩
 rw[val_shift]at hv ⊢
 rcases Nat.eq_zero_or_pos (val (fun j=>f (k+j)) m)with h0|h0
 · rw[h0];rfl
 · have:4294967296^k*1<=4294967296^k*val (fun j=>f (k+j)) m:=Nat.mul_le_mul_left _ h0
   omega
theorem val_top(f:Nat->Nat)(n:Nat)(hn:0<n)(h:f (n-1)≠0):4294967296^(n-1)<=val f n:=by
 obtain⟨m,rfl⟩:∃m,n=m+1:=⟨n-1,by omega⟩
 rw[val,Nat.add_sub_cancel];rw[Nat.add_sub_cancel]at h;have:1*4294967296^m<=f m*4294967296^m:=Nat.mul_le_mul_right _ (by omega)
 omega
theorem down_term(x y u:Nat)(hu:u<32):(x / 2^u+y*2^(32-u)%4294967296)*2^u+x%2^u=x+y%2^u*4294967296:=by
 have h2:=two32 hu
 have e:y*2^(32-u)%4294967296=y%2^u*2^(32-u):=by
  have:=Nat.mul_mod_mul_right (2^(32-u)) y (2^u);rw[Nat.mul_comm (2^u),h2]at this;exact this
 rw[e,Nat.add_mul,Nat.mul_assoc (y%2^u),h2];have:=Nat.div_add_mod x (2^u);rw[Nat.mul_comm]at this
 omega
theorem down_val(s d:Nat->Nat)(n u:Nat)(hu:u<32)(h:DownR s n u n d):∀k,k<=n->0<k->2^u*val d k+s 0%2^u=val s k+(if k<n then s k%2^u*4294967296^k else 0):=by
 intro k
 induction k with
 | zero=>intro _ h;omega
 | succ k ih =>
  intro hk _;have hd:=h k (by omega);have ht:=down_term (s k) (nxt s n k) u hu;rw[val,val,hd]
  have hn:nxt s n k%2^u*4294967296*4294967296^k=if k+1<n then s (k+1)%2^u*4294967296^(k+1)else 0:=by
   unfold nxt
   split
   · rw[pow_succ32,Nat.mul_assoc]
   · simp
  rw[← hn];generalize s k / 2^u+nxt s n k*2^(32-u)%4294967296=D at *;have hm:(D*2^u+s k%2^u)*4294967296^k=(s k+nxt s n k%2^u*4294967296)*4294967296^k:=by rw[ht]
  rw[Nat.add_mul,Nat.add_mul]at hm;have hc:D*2^u*4294967296^k=2^u*(D*4294967296^k):=by rw[Nat.mul_comm D,Nat.mul_assoc]
  rw[Nat.mul_add]
  rcases Nat.eq_zero_or_pos k with h0|h0
  · subst h0;simp only[val,Nat.pow_zero,Nat.mul_one,Nat.mul_zero,Nat.zero_add]at *;omega
  · have:=ih (by omega) h0;rw[if_pos (by omega)]at this
    omega
theorem down_div(s d:Nat->Nat)(n u:Nat)(hu:u<32)(h:DownR s n u n d):val d n=val s n / 2^u:=by
 rcases Nat.eq_zero_or_pos n with h0|h0
 · subst h0;simp[val]
 · have:=down_val s d n u hu h n (Nat.le_refl _) h0;rw[if_neg (by omega)]at this;have hp:=Nat.mod_lt (s 0) (Nat.two_pow_pos u)
   refine(Nat.div_eq_of_lt_le ?_ ?_).symm
   · rw[Nat.mul_comm];omega
   · rw[Nat.mul_comm,Nat.mul_add];omega
theorem up_fits{s d:Nat->Nat}{n u c:Nat}(hd:UpR s u n c d)(hl:val s n*2^u<4294967296^n):c=0/\val d n=val s n*2^u:=by
 unfold UpR at hd
 rcases Nat.eq_zero_or_pos c with h|h
 · subst h;omega
 · have:1*4294967296^n<=c*4294967296^n:=Nat.mul_le_mul_right _ h
   omega
theorem lz_spec{x:Nat}(h0:0<x)(h1:x<4294967296):∃u,(32-(Lib.bitLen x:Int))=((u:Nat):Int)/\u<32/\(x+1)*2^u<=4294967296:=by
 obtain⟨a,b,c⟩:=Lib.bitLenAux_bounds 64 x (by omega) (by omega);have hle:Lib.bitLen x<=32:=Lib.bitLen_le x 32 (by omega) (by omega)
 refine⟨32-Lib.bitLen x,by omega,?_,?_⟩
 · unfold Lib.bitLen at *;omega
 · have:x+1<=2^Lib.bitLen x:=c;have h2:2^Lib.bitLen x*2^(32-Lib.bitLen x)=4294967296:=by rw[← Nat.pow_add,show Lib.bitLen x+(32-Lib.bitLen x)=32 by omega]
   rw[← h2];exact Nat.mul_le_mul_right _ this
theorem up_room{s:Nat->Nat}{n u:Nat}(hn:0<n)(hs:∀j,j<n->s j<4294967296)(hu:(s (n-1)+1)*2^u<=4294967296):val s n*2^u<4294967296^n:=by
 obtain⟨m,rfl⟩:∃m,n=m+1:=⟨n-1,by omega⟩
 rw[Nat.add_sub_cancel]at hu;have h1:=val_lt s m (fun j hj=>hs j (by omega));rw[val,pow_succ32];have h2:val s m+s m*4294967296^m<(s m+1)*4294967296^m:=by rw[Nat.add_mul];omega
 have h3:(val s m+s m*4294967296^m)*2^u<(s m+1)*4294967296^m*2^u:=Nat.mul_lt_mul_of_pos_right h2 (Nat.two_pow_pos u);have h4:(s m+1)*4294967296^m*2^u=(s m+1)*2^u*4294967296^m:=by rw[Nat.mul_assoc,Nat.mul_comm (4294967296^m),← Nat.mul_assoc]
 have h5:(s m+1)*2^u*4294967296^m<=4294967296*4294967296^m:=Nat.mul_le_mul_right _ hu
 omega
structure LongInv(w wr:World)(rb qb bb an1 bn m:Nat)(d:Nat->Nat)(X D i:Nat):Prop where
 below:Below w.heap.size w wr
 rb_ge:w.heap.size<=rb
 qb_ge:w.heap.size<=qb
 rb_lt:rb<wr.heap.size
 qb_lt:qb<wr.heap.size
 rq:rb≠qb
 rbb:bb≠rb
 qbb:bb≠qb
 freeR:Free wr rb
 freeQ:Free wr qb
 div:SlAt wr .u32 4294967296 (some ⟨bb,0,none⟩) bn bn d
 rows:∃r q,Cells wr .u32 rb 0 an1 r/\(∀j,j<an1->r j<4294967296)/\Cells wr .u32 qb 0 m q/\(∀j,j<m->q j<4294967296)/\val r an1<D*4294967296^(m-i)/\X=val r an1+D*seg q (m-i) m
theorem LongInv.part {w wr : World} {rb qb bb an1 bn m : Nat} {d : Nat -> Nat} {X D i : Nat} (h : LongInv w wr rb qb bb an1 bn m d X D i) (hi : i < m) (hm : m + bn = an1) (hD : D < 4294967296 ^ bn) (hn : an1 <= 1000000) :
    ∃f,SlAt wr .u32 4294967296 (some ⟨rb,m-1-i,none⟩) (bn+1) (an1-(m-1-i)) f/\val f (bn+1)<D*4294967296 /\
     ∀w2 q,q=val f (bn+1) / D->q<4294967296->RowIs rb (m-1-i) (bn+1) wr w2 (val f (bn+1)%D)->LongInv w (w2.setCell ⟨qb,m-1-i,none⟩ (.int .u32 q)) rb qb bb an1 bn m d X D (i+1):=by
 obtain⟨r,q0,hr1,hr2,hq1,hq2,hv,hX⟩:=h.rows;obtain⟨t,ht⟩:∃t,m-1-i=t:=⟨_,rfl⟩
 have e1:m-i=t+1:=by omega
 have e2:m-(i+1)=t:=by omega
 rw[e1]at hv hX;rw[ht]
 have hlow:val r an1=val r (t+(bn+1)):=val_low r (by omega) (by
  have:D*4294967296^(t+1)<=4294967296^bn*4294967296^(t+1):=Nat.mul_le_mul_right _ (by omega);rw[← pow_add32,show bn+(t+1)=t+(bn+1)by omega]at this
  omega)
 have hsplit:=val_shift r t (bn+1);obtain⟨V,hV⟩:∃V,val (fun j=>r (t+j)) (bn+1)=V:=⟨_,rfl⟩
 rw[hV]at hsplit
 have hVl:V<D*4294967296:=by
  rw[pow_succ32,hlow,hsplit]at hv
  have:4294967296^t*V<4294967296^t*(D*4294967296):=by
   have e:D*(4294967296*4294967296^t)=4294967296^t*(D*4294967296):=by rw[Nat.mul_comm (4294967296^t),Nat.mul_assoc]
   omega
  exact Nat.lt_of_mul_lt_mul_left this
 have hrt:=val_lt r t (fun j hj=>hr2 j (by omega));refine⟨fun j=>r (t+j),⟨by omega,by omega,fun j hj=>hr2 _ (by omega),.inr ⟨rb,t,rfl,h.rb_lt,fun j hj=>by have:=hr1 (t+j) (by omega);rw[Nat.zero_add]at this;exact this⟩⟩,by rw[hV];exact hVl,?_⟩;intro w2 q hq hql hrow;rw[hV]at hq hrow;obtain⟨hw,hf,d2,hd1,hd2,hd3⟩:=hrow;have hw2:Below w.heap.size w w2:=hw.below h.below h.rb_ge h.below.size;have hqb2:qb<w2.heap.size:=Nat.lt_of_lt_of_le h.qb_lt hw.size;have hfq:Free w2 qb:=h.freeQ.wrote hw h.qb_lt;have hcq:Cells w2 .u32 qb 0 m q0:=hq1.wrote hw h.qb_lt (fun e=>absurd e.symm h.rq);have hsc:Wrote qb t (t+1) w2 (w2.setCell ⟨qb,t,none⟩ (.int .u32 q)):=(Wrote.refl _ _ _ _).setCell (Nat.le_refl _) (by omega) _
 have hD0:0<D:=by
  rcases Nat.eq_zero_or_pos D with h0|h0
  · rw[h0]at hVl;omega
  · exact h0
 obtain⟨r2,ra,rn⟩:∃r2:Nat->Nat,(∀j,t<=j/\j<t+(bn+1)->r2 j=d2 (j-t))/\(∀j,¬(t<=j/\j<t+(bn+1))->r2 j=r j) :=
  ⟨fun j=>if t<=j/\j<t+(bn+1)then d2 (j-t)else r j,fun j hj=>if_pos hj,fun j hj=>if_neg hj⟩
 obtain⟨q2,hqs,qa,qn⟩:∃q2:Nat->Nat,q2=(fun j=>if j=t then q else q0 j)/\q2 t=q/\(∀j,j≠t->q2 j=q0 j):=⟨_,rfl,if_pos rfl,fun j hj=>if_neg hj⟩
 have hrc:Cells w2 .u32 rb 0 an1 r2:=by
  intro j hj
  by_cases e:t<=j/\j<t+(bn+1)
  · rw[ra j e];have:=hd1 (j-t) (by omega);rw[show t+(j-t)=j by omega]at this;rw[Nat.zero_add];exact this
  · rw[rn j e,Nat.zero_add,hw.cell j (by omega)];have:=hr1 j hj;rw[Nat.zero_add]at this;exact this
 have hv1:val r2 t=val r t:=val_congr t (fun j hj=>rn j (by omega))
 have hv2:val (fun j=>r2 (t+j)) (bn+1)=V%D:=by
  rw[← hd3];exact val_congr _ (fun j hj=>by rw[ra _ (by omega),Nat.add_sub_cancel_left])
 have hv3:=val_shift r2 t (bn+1);rw[hv1,hv2]at hv3;have hmd:=Nat.mod_lt V hD0
 have hlt2:val r t+4294967296^t*(V%D)<D*4294967296^t:=by
  have:4294967296^t*(V%D+1)<=4294967296^t*D:=Nat.mul_le_mul_left _ hmd;rw[Nat.mul_add,Nat.mul_comm _ D]at this
  omega
 have hv4:val r2 an1=val r2 (t+(bn+1)):=by
  obtain⟨k,hk⟩:∃k,an1=t+(bn+1)+k:=⟨an1-(t+(bn+1)),by omega⟩
  have z0:=val_shift r (t+(bn+1)) k;rw[← hk,hlow]at z0
  have z1:val (fun j=>r (t+(bn+1)+j)) k=0:=by
   rcases Nat.eq_zero_or_pos (val (fun j=>r (t+(bn+1)+j)) k)with z|z
   · exact z
   · have:=Nat.mul_le_mul (pow_pos32 (t+(bn+1))) z
     omega
  have z2:=val_shift r2 (t+(bn+1)) k
  have z3:val (fun j=>r2 (t+(bn+1)+j)) k=0:=by
   rw[← z1];exact val_congr k (fun j _=>rn _ (by omega))
  rw[z3,← hk]at z2;rw[z2];omega
 refine⟨?_,h.rb_ge,h.qb_ge,?_,?_,h.rq,h.rbb,h.qbb,?_,?_,?_,r2,q2,hrc.wrote hsc (Nat.lt_of_lt_of_le h.rb_lt hw.size) (fun e=>absurd e h.rq),?_,?_,?_,?_,?_⟩
 · exact hsc.below hw2 h.qb_ge hw2.size
 · simpa using Nat.lt_of_lt_of_le h.rb_lt hw.size
 · simpa using hqb2
 · exact hf.set _ _
 · exact hfq.set _ _
 · exact(h.div.wrote hw (fun x hx=>by cases hx;exact h.rbb)).wrote hsc (fun x hx=>by cases hx;exact h.qbb)
 · intro j hj
   by_cases e:t<=j/\j<t+(bn+1)
   · rw[ra j e];exact hd2 _ (by omega)
   · rw[rn j e];exact hr2 j hj
 · rw[hqs];have:=hcq.set (k:=t) (x:=q) (by omega);rw[Nat.zero_add]at this;exact this
 · intro j hj
   by_cases e:j=t
   · subst e;rw[qa];exact hql
   · rw[qn j e];exact hq2 j hj
 · rw[e2,hv4,hv3];exact hlt2
 · have s1:=seg_head q2 t m (by omega);have s2:seg q2 (t+1) m=seg q0 (t+1) m:=seg_congr _ _ (fun j hj _=>qn j (by omega));rw[s2,qa]at s1;rw[e2,hv4,hv3,s1,hX,hlow,hsplit,Nat.mul_add];have e:=Nat.div_add_mod V D;rw[← hq]at e;have:4294967296^t*(D*q+V%D)=4294967296^t*V:=by rw[e]
   rw[Nat.mul_add]at this;have e3:D*(q*4294967296^t)=4294967296^t*(D*q):=by rw[← Nat.mul_assoc,Nat.mul_comm]
   omega
theorem make_u32(m:Nat)(hm:m<=1000000):∃z:List Value,z.length=m/\(∀j,j<m->z[j]? = some (.int .u32 0)) /\
    ∀w:World,(Instr.makeSlice 47 (.int .i64 m) (.int .i64 m)).run Tryz.prog w=.ok (.slice (some ⟨w.heap.size,0,none⟩) m m) (w.alloc (.cells z.toArray 177)):=by
 obtain⟨i0,hi,hz0,hz1,hz2⟩:=info_parts infoU
 refine⟨(madeCells (Value.cells (.int .u32 0)) m).toList,by simp[size_madeCells],fun j hj => ?_,fun w => ?_⟩
 · have h3:(madeCells (Value.cells (.int .u32 0)) m)[j]? = some (.int .u32 0):=by simp[madeCells,hj,Value.cells,Nat.mod_one]
   rw[Array.getElem?_toList];exact h3
 · have hmk:=run_make (P:=Tryz.prog) w 47 177 i0 (.int .u32 0) Tryz.underlying47 hi hz0 .i64 .i64 m m (by omega) (by omega) (by rw[hz2];omega) (by omega);simp only[Int.toNat_natCast,hz1,Nat.mul_one]at hmk;rw[Array.toArray_toList];exact hmk
theorem lz_any(x:Nat)(h0:0<x)(h1:x<4294967296):∃u:Nat,u<32/\(x+1)*2^u<=4294967296/\∀w:World,Calls Tryz.prog 244 #[.int .u32 x] w fun e w'=>e=.returned (.int .i64 u)/\w=w':=by
 obtain⟨u,e,h2,h3⟩:=lz_spec h0 h1;refine⟨u,h2,h3,fun w=>(Tryz.bits_LeadingZeros32 x w (by omega) (by omega)).mono fun _ _ ⟨h4,h5⟩=>⟨?_,h5.symm⟩⟩;rw[h4,Int.toNat_natCast,e]
structure Own(w w':World)(b n:Nat)(N:Nat):Prop where
 ge:w.heap.size<=b
 lt:b<w'.heap.size
 free:Free w' b
 row:∃f,Cells w' .u32 b 0 n f/\(∀j,j<n->f j<4294967296)/\val f n=N
theorem Own.below{w w1 w2:World}{b n N:Nat}(h:Own w w1 b n N)(hb:Below w1.heap.size w1 w2):Own w w2 b n N:=by
 obtain⟨f,h1,h2,h3⟩:=h.row;exact⟨h.ge,Nat.lt_of_lt_of_le h.lt hb.size,h.free.below hb h.lt,f,h1.below hb h.lt,h2,h3⟩
theorem Own.wrote{w w1 w2:World}{b n N k lo hi:Nat}(h:Own w w1 b n N)(hb:Wrote k lo hi w1 w2)(hk:b≠k):Own w w2 b n N:=by
 obtain⟨f,h1,h2,h3⟩:=h.row;exact⟨h.ge,Nat.lt_of_lt_of_le h.lt hb.size,h.free.wrote hb h.lt,f,h1.wrote hb h.lt (fun e=>absurd e hk),h2,h3⟩
theorem Own.slAt{w w1:World}{b n N:Nat}(h:Own w w1 b n N)(hn:n<=1000000):∃f,SlAt w1 .u32 4294967296 (some ⟨b,0,none⟩) n n f/\val f n=N:=by
 obtain⟨f,h1,h2,h3⟩:=h.row;exact⟨f,⟨Nat.le_refl _,hn,h2,.inr ⟨b,0,rfl,h.lt,h1⟩⟩,h3⟩
theorem copied_own (a : Option Addr) (n c : Nat) (f : Nat -> Nat) (m : Nat) (w : World) (h : SlAt w .u32 4294967296 a n c f) (hnm : n <= m) (hm : m <= 1000000) :
    Calls Tryz.prog 141 #[.slice a n c,.int .i64 m] w fun e w'=>∃b,e=.returned (.slice (some ⟨b,0,none⟩) m m)/\Own w w' b m (val f n)/\Below w.heap.size w w':=by
 refine(copied_any a n c f m w h hnm hm).mono ?_;rintro e w' ⟨b,rfl,h1,h2,h3,h4,h5⟩
 refine⟨b,rfl,⟨h1,h2,h4,_,h3,fun j hj => ?_,?_⟩,h5⟩
 · split
   · exact h.2.2.1 j (by assumption)
   · omega
 · rw[val_pad,Nat.min_eq_right hnm]
theorem shiftUp_own (w0 : World) (b n cs : Nat) (N : Nat) (u : Nat) (w : World) (h : Own w0 w b n N) (hn : n <= 1000000) (hu : u < 32) (hfit : N * 2 ^ u < 4294967296 ^ n) :
    Calls Tryz.prog 245 #[.slice (some ⟨b,0,none⟩) n cs,.int .i64 u] w fun e w'=>e=.returned (.tuple #[])/\Own w0 w' b n (N*2^u)/\Wrote b 0 n w w':=by
 obtain⟨f,h1,h2,h3⟩:=h.row;refine(shiftUp_any b 0 n cs f u w h.free h1 h2 hn hu).mono ?_;rintro e w' ⟨rfl,c,_,hw,hf,d,hd,hb,_,hR⟩;rw[Nat.zero_add]at hw;refine⟨rfl,⟨h.ge,Nat.lt_of_lt_of_le h.lt hw.size,hf,d,hd,hb,?_⟩,hw⟩;rw[(up_fits hR (by rw[h3];exact hfit)).2,h3]
theorem shiftDown_own (w0 : World) (b n cs : Nat) (N : Nat) (u : Nat) (w : World) (h : Own w0 w b n N) (hnc : n <= cs) (hn : cs <= 1000000) (hu : u < 32) :
    Calls Tryz.prog 247 #[.slice (some ⟨b,0,none⟩) n cs,.int .i64 u] w fun e w'=>e=.returned (.tuple #[])/\Own w0 w' b n (N / 2^u)/\Wrote b 0 n w w':=by
 obtain⟨f,h1,h2,h3⟩:=h.row;refine(shiftDown_any b 0 n cs f u w h.lt hnc hn h.free h1 h2 hu).mono ?_;rintro e w' ⟨rfl,hw,hf,d,hd,hb,_,hR⟩;rw[Nat.zero_add]at hw;refine⟨rfl,⟨h.ge,Nat.lt_of_lt_of_le h.lt hw.size,hf,d,hd,hb,?_⟩,hw⟩;rw[down_div f d n u hu hR,h3]
theorem LongInv.start {w w4 : World} {rb bb an1 bn m X D : Nat} {z : List Value} (hr : Own w w4 rb an1 X) (hd : Own w w4 bb bn D) (hb : Below w.heap.size w w4) (hne : bb ≠ rb) (hz0 : ∀ j, j < m -> z[j]? = some (.int .u32 0))
    (hX:X<D*4294967296^m) (hbn:bn<=1000000):∃d,val d bn=D/\LongInv w (w4.alloc (.cells z.toArray 177)) rb w4.heap.size bb an1 bn m d X D 0:=by
 have hal:Below w4.heap.size w4 (w4.alloc (.cells z.toArray 177)):=(Below.refl _ _).alloc (Nat.le_refl _) _;have hnew:=heap_new w4 (.cells z.toArray 177);obtain⟨d,hd1,hd2⟩:=hd.slAt hbn;obtain⟨r,hr1,hr2,hr3⟩:=hr.row
 refine⟨d,hd2,hb.alloc hb.size _,hr.ge,hb.size,?_,?_,?_,hne,?_,hr.free.below hal hr.lt,Free.of_block hnew,hd1.below hal,r,fun _=>0,hr1.below hal hr.lt,hr2,Cells.of_block hnew hz0,fun _ _=>by show 0<_;omega,?_,?_⟩
 · have:=hr.lt;simp;omega
 · simp
 · have:=hr.lt;omega
 · have:=hd.lt;omega
 · rw[hr3];exact hX
 · rw[hr3,Nat.sub_zero,seg_self _ _ _ (Nat.le_refl _)];omega
theorem LongInv.last {w wr : World} {rb qb bb an1 bn m : Nat} {d : Nat -> Nat} {X D : Nat} (h : LongInv w wr rb qb bb an1 bn m d X D m) (hD : D < 4294967296 ^ bn) (hbn : bn <= an1) :
    Own w wr rb bn (X%D)/\Own w wr qb m (X / D):=by
 obtain⟨r,q,h1,h2,h3,h4,h5,h6⟩:=h.rows;rw[Nat.sub_self]at h5 h6;rw[seg_zero]at h6;rw[Nat.pow_zero,Nat.mul_one]at h5;have hv:=val_low r hbn (by omega);rw[hv]at h5 h6
 have e1:X / D=val q m:=by
  rw[h6,Nat.add_comm,Nat.mul_add_div (by omega),Nat.div_eq_of_lt h5,Nat.add_zero]
 have e2:X%D=val r bn:=by
  rw[h6,Nat.add_comm,Nat.mul_add_mod,Nat.mod_eq_of_lt h5]
 exact⟨⟨h.rb_ge,h.rb_lt,h.freeR,r,fun j hj=>h1 j (by omega),fun j hj=>h2 j (by omega),e2.symm⟩,⟨h.qb_ge,h.qb_lt,h.freeQ,q,h3,h4,e1.symm⟩⟩
def LongEnd(w w':World)(e:Ending)(m bn an1 A B:Nat):Prop:=∃qb rb,e=.returned (.tuple #[.slice (some ⟨qb,0,none⟩) m m,.slice (some ⟨rb,0,none⟩) bn an1])/\Own w w' qb m (A / B)/\Own w w' rb bn (A%B)/\Below w.heap.size w w'
theorem divideLong_any (aa : Option Addr) (an ac : Nat) (a : Nat -> Nat) (ba : Option Addr) (bn bc : Nat) (b : Nat -> Nat) (w : World) (ha : SlAt w .u32 4294967296 aa an ac a) (hb : SlAt w .u32 4294967296 ba bn bc b)
    (h2:2<=bn) (hba:bn<=an) (htop:0<b (bn-1)) (han:an+1<=1000000) :
    Calls Tryz.prog 217 #[.slice aa an ac,.slice ba bn bc] w fun e w'=>LongEnd w w' e (an+1-bn) bn (an+1) (val a an) (val b bn):=by
 obtain⟨b0,bo,rfl,_,_⟩:=hb.at (by omega)
 obtain⟨n1,hn1⟩:∃n1,bn-1=n1:=⟨_,rfl⟩
 obtain⟨m,hm⟩:∃m,an+1-bn=m:=⟨_,rfl⟩
 obtain⟨an1,han1⟩:∃x,an+1=x:=⟨_,rfl⟩
 rw[hm,han1];rw[hn1]at htop;obtain⟨hcl,hll⟩:=hb.cell (show n1<bn by omega);obtain⟨u,hu1,hu2,hlz⟩:=lz_any (b n1) htop hll;have hB:=up_room (s:=b) (n:=bn) (u:=u) (by omega) hb.2.2.1 (by rw[hn1];exact hu2)
 have hA:val a an*2^u<4294967296^an1:=by
  have h1:=val_lt a an ha.2.2.1;have h3:(2:Nat)^u<=2^32:=Nat.pow_le_pow_right (by omega) (by omega);have h4:val a an*2^u<4294967296^an*2^u:=Nat.mul_lt_mul_of_pos_right h1 (Nat.two_pow_pos u);have h5:4294967296^an*2^u<=4294967296^an*2^32:=Nat.mul_le_mul_left _ h3;rw[← han1,pow_succ32,Nat.mul_comm 4294967296]
  omega
 have hXD:val a an*2^u<val b bn*2^u*4294967296^m:=by
  have h1:=val_lt a an ha.2.2.1;have h3:=val_top b bn (by omega) (by rw[hn1];omega);rw[hn1]at h3;have h4:4294967296^n1*4294967296^m<=val b bn*4294967296^m:=Nat.mul_le_mul_right _ h3;rw[← pow_add32,show n1+m=an by omega]at h4;have h5:val b bn*2^u*4294967296^m=val b bn*4294967296^m*2^u:=by rw[Nat.mul_assoc,Nat.mul_comm (2^u),← Nat.mul_assoc]
  rw[h5];exact Nat.mul_lt_mul_of_pos_right (by omega) (Nat.two_pow_pos u)
 have hcb:=fun W (hW:SlAt W .u32 4294967296 (some ⟨b0,bo,none⟩) bn bc b)=>copied_own (some ⟨b0,bo,none⟩) bn bc b bn W hW (Nat.le_refl _) (by omega)
 have hca:=fun W (hW:SlAt W .u32 4294967296 aa an ac a)=>copied_own aa an ac a an1 W hW (by omega) (by omega)
 obtain⟨z,hz1,hz2,hmk⟩:=make_u32 m (by omega);obtain⟨A,hAe⟩:∃A,val a an=A:=⟨_,rfl⟩
 obtain⟨B,hBe⟩:∃B,val b bn=B:=⟨_,rfl⟩
 rw[hAe]at hA hXD hca ⊢;rw[hBe]at hB hXD hcb ⊢;have e1:(bn:Int)-1=(n1:Int):=by omega
 have e2:(an:Int)+1=(an1:Int):=by omega
 have e3:(an1:Int)-(bn:Int)=(m:Int):=by omega
 have i1:(n1:Int)<(bn:Int):=by omega
 have htp:4294967296^(bn-1)<=B*2^u:=by
  have h3:=val_top b bn (by omega) (by rw[hn1];omega);rw[hBe]at h3;exact Nat.le_trans h3 (Nat.le_mul_of_pos_right _ (Nat.two_pow_pos u))
 have HTP:=Lib.hid htp;have HCB:=Lib.hid hcb;have HCA:=Lib.hid hca;have HLZ:=Lib.hid hlz;have HSA:=Lib.hid ha;have HSB:=Lib.hid hb;have HB:=Lib.hid hB;have HA:=Lib.hid hA;have HXD:=Lib.hid hXD;have HZ1:=Lib.hid hz1;have HZ2:=Lib.hid hz2;have HU2:=Lib.hid hu2;have HM:Hid (m+bn=an1):=by show _=_;omega
 have hml:m<=1000000:=by omega
 have hbl:bn<=1000000:=by omega
 have hal:an1<=1000000:=by omega
 have hmb:bn<=an1:=by omega
 clear htp hcb hca hlz ha hb hB hA hXD hz1 hz2 hu2 hAe hBe hm han1 hn1 htop hll;go_enter Tryz.func217,Tryz.ntmps217
 go_wp2_with (go_at_call 244;refine(HLZ.out _).mono ?_;rintro e w1 ⟨rfl,rfl⟩)
 go_at_call 141;refine(HCB.out _ HSB.out).mono ?_;rintro e w1 ⟨bb,rfl,ho1,hb1⟩;have HO1:=Lib.hid ho1;have HB1:=Lib.hid hb1;clear ho1 hb1;go_wp2_with fail;go_at_call 245;refine(shiftUp_own w bb bn bn B u w1 HO1.out hbl hu1 HB.out).mono ?_;rintro e w2 ⟨rfl,ho2,hw2⟩;have HO2:=Lib.hid ho2;have HB2:=Lib.hid (hw2.below HB1.out HO1.out.ge HB1.out.size);clear ho2 hw2;go_wp2_with fail;go_at_call 141;refine(HCA.out w2 (HSA.out.below HB2.out)).mono ?_;rintro e w3 ⟨rb,rfl,ho3,hb3⟩;have hne:bb≠rb:=by have:=ho3.ge;have:=HO2.out.lt;omega
 have HNE:=Lib.hid hne;have HO3:Own w w3 rb an1 A:=⟨Nat.le_trans HB2.out.size ho3.ge,ho3.lt,ho3.free,ho3.row⟩
 have HO3':=Lib.hid HO3;have HO2':=Lib.hid (HO2.out.below hb3);have HB3:=Lib.hid (HB2.out.trans (hb3.mono HB2.out.size));clear ho3 hb3 hne HO3;go_wp2_with fail;go_at_call 245;refine(shiftUp_own w rb an1 an1 A u w3 HO3'.out hal hu1 HA.out).mono ?_;rintro e w4 ⟨rfl,ho4,hw4⟩;have HO4:=Lib.hid ho4;have HOD:=Lib.hid (HO2'.out.wrote hw4 HNE.out);have HB4:=Lib.hid (hw4.below HB3.out HO3'.out.ge HB3.out.size);clear ho4 hw4 HO2 HO2' HO1 HB1 HB2 HB3 HO3';obtain⟨d,hdv,hst⟩:=LongInv.start (z:=z) HO4.out HOD.out HB4.out HNE.out HZ2.out HXD.out hbl;obtain⟨qb,hqb⟩:∃qb,w4.heap.size=qb:=⟨_,rfl⟩
 rw[hqb]at hst;have HST:=Lib.hid hst;have HDV:=Lib.hid hdv
 have HDT:Hid (0<d (bn-1)):=by
  rcases Nat.eq_zero_or_pos (d (bn-1))with h|h
  · exfalso
    obtain⟨k,hk⟩:∃k,bn=k+1:=⟨bn-1,by omega⟩
    have h1:=hdv;rw[hk,val]at h1;rw[hk,Nat.add_sub_cancel]at h;rw[h,Nat.zero_mul,Nat.add_zero]at h1;have h3:=val_lt d k (fun j hj=>hst.div.2.2.1 j (by omega));have h4:=HTP.out;rw[hk,Nat.add_sub_cancel]at h4
    omega
  · exact h
 clear hst hdv HO4 HOD HB4;go_wp2_with fail
 go_loopw [42] (fun i wr=>∃k:Nat,k<=m/\i=.int .i64 k/\LongInv w wr rb qb bb an1 bn m d (A*2^u) (B*2^u) k)
  (fun i _=>m-(intOf i).toNat)
 case atStart=>exact⟨0,by omega,rfl,HST.out⟩
 case round =>
  obtain⟨k,hk,rfl,hr⟩:=hrel
  by_cases hlt:k<m
  · obtain⟨f,hf1,hf2,hf3⟩:=hr.part hlt HM.out HB.out hal;have hfr:=hr.freeR;have hfq:=hr.freeQ;have hdi:=hr.div;obtain⟨t,ht⟩:∃t,m-1-k=t:=⟨_,rfl⟩
    rw[ht]at hf1 hf3;have htd:=takeDigit_any rb t (an1-t) (some ⟨bb,0,none⟩) bn (bn-2) bn f d wr (by omega) hf1 hfr hdi (fun x hx=>by cases hx;exact hr.rbb) HDT.out (by rw[HDV.out];exact hf2);rw[HDV.out]at htd;have hqc:∃q0,Cells wr .u32 qb 0 m q0:=by obtain⟨r,q,_,_,h,_⟩:=hr.rows;exact⟨q,h⟩
    have t1:(m:Int)-1-(k:Int)=(t:Int):=by omega
    have t2:(t:Int)<(m:Int):=by omega
    have t0:(0:Int)<=(t:Int):=by omega
    have t3:t+(bn+1)<=an1:=by have:=HM.out;omega
    have HTD:=Lib.hid htd;have HF3:=Lib.hid hf3;have HRR:=Lib.hid hr;have HQC:=Lib.hid hqc;clear htd hf3 hr hqc ht hf1 hf2 hfr hfq hdi;go_wp2_with fail;rw[show t+bn+1-t=bn+1 by omega];go_at_call 246;refine HTD.out.mono ?_;rintro e w5 ⟨q,rfl,hq1,hq2,hrow⟩;have hnx:=HF3.out w5 q hq2 hq1 hrow;have hfz:w5.frozen? ⟨qb,t,none⟩=false:=(HRR.out.freeQ.wrote hrow.1 HRR.out.qb_lt) t;obtain⟨q0,hq0⟩:=HQC.out;have hcw:=(hq0.wrote hrow.1 HRR.out.qb_lt (fun e=>absurd e.symm HRR.out.rq)) t (by omega);rw[Nat.zero_add]at hcw;have HNX:=Lib.hid hnx;clear hnx hrow hq2 hq0;go_wp2
    go_roundw
    case rel=>exact⟨k+1,by omega,by go_num,HNX.out⟩
    case measure=>simp[intOf];omega
  · obtain rfl:k=m:=by omega
    obtain⟨hor,hoq⟩:=hr.last HB.out hmb;have HOR:=Lib.hid hor;have HOQ:=Lib.hid hoq;have HBL:=Lib.hid hr.below;have HRQ:=Lib.hid hr.rq;clear hor hoq hr;go_wp2_with fail;go_at_call 247;refine(shiftDown_own w rb bn an1 (A*2^u%(B*2^u)) u wr HOR.out hmb hal hu1).mono ?_;rintro e w6 ⟨rfl,ho6,hw6⟩
    have HE:LongEnd w w6 (.returned (.tuple #[.slice (some ⟨qb,0,none⟩) k k,.slice (some ⟨rb,0,none⟩) bn an1])) k bn an1 A B:=by
     refine⟨qb,rb,rfl,?_,?_,hw6.below HBL.out HOR.out.ge HBL.out.size⟩
     · have:=HOQ.out.wrote hw6 (Ne.symm HRQ.out);rw[Nat.mul_div_mul_right _ _ (Nat.two_pow_pos u)]at this;exact this
     · rw[Nat.mul_mod_mul_right,Nat.mul_div_cancel _ (Nat.two_pow_pos u)]at ho6;exact ho6
    clear ho6 hw6;go_wp2;go_ret2;exact HE
theorem below_alloc{w w':World}{o:Obj}(h:Below (w.alloc o).heap.size (w.alloc o) w'):Below w.heap.size w w' :=
 ((Below.refl _ _).alloc (Nat.le_refl _) o).trans (h.mono (by rw[World.size_alloc];omega))
theorem nat_zero{n:Nat}{f:Nat->Nat}{N:Nat}(hv:val f n=N)(ht:n=0∨f (n-1)≠0):N=0↔n=0:=by
 constructor
 · intro h
   rcases Nat.eq_zero_or_pos n with h0|h0
   · exact h0
   · have:=val_top f n h0 (ht.resolve_left (by omega));have:=pow_pos32 (n-1)
     omega
 · intro h;subst h;exact hv.symm
theorem nat_len_lt{na nb:Nat}{f g:Nat->Nat}(hf:∀j,j<na->f j<4294967296)(hb:nb=0∨g (nb-1)≠0)(h:na<nb):val f na<val g nb:=by
 have h1:=val_lt f na hf;have h2:=val_top g nb (by omega) (hb.resolve_left (by omega));have h3:=pow_mono32 (show na<=nb-1 by omega)
 omega
theorem val_lt_of{f g:Nat->Nat}{t n:Nat}(ht:t<n)(hf:∀j,j<n->f j<4294967296)(he:∀j,t<j->j<n->f j=g j)(h:f t<g t):val f n<val g n:=by
 rw[val_seg f (t+1) n (by omega),val_seg g (t+1) n (by omega),seg_congr (t+1) n (f:=f) (g:=g) (fun j h1 h2=>he j (by omega) h2),val,val];have h1:=val_lt f t (fun j hj=>hf j (by omega));have h2:(f t+1)*4294967296^t<=g t*4294967296^t:=Nat.mul_le_mul_right _ h;rw[Nat.add_mul]at h2
 omega
theorem zero_any(v:Value)(N:Nat)(w:World)(h:NatIs w v N):Calls Tryz.prog 114 #[v] w fun e w'=>e=.returned (.bool (decide (N=0)))/\Below w.heap.size w w':=by
 obtain⟨a,n,c,f,rfl,hs,hv,ht⟩:=h;have hz:=nat_zero hv ht;have e:decide (N=0)=decide (n=0):=by simp[hz]
 rw[e];have hb:=hs.1;have hb2:=hs.2.1;clear hs hv ht hz e;go_enter Tryz.func114,Tryz.ntmps114
 by_cases h0:n=0
 · subst h0;go_wp2;go_ret;exact⟨rfl,(Below.refl _ _).alloc (Nat.le_refl _) _⟩
 · have h1:((n:Int)==0)=false:=by simp;omega
   go_wp2;go_ret;exact⟨by simp[h0],(Below.refl _ _).alloc (Nat.le_refl _) _⟩
theorem one_any(v:Value)(N:Nat)(w:World)(h:NatIs w v N):Calls Tryz.prog 168 #[v] w fun e w'=>e=.returned (.bool (decide (N=1)))/\Below w.heap.size w w':=by
 obtain⟨a,n,c,f,rfl,hs,hv,ht⟩:=h
 by_cases h1:n=1
 · subst h1;obtain⟨b,off,rfl,hb,hc,hl⟩:=hs.limb (show 0<1 by omega);have e:N=f 0:=by rw[← hv];simp[val]
   subst e;rw[Nat.add_zero]at hc;clear hs hv ht;generalize f 0=x at *
   by_cases h2:x=1
   · subst h2;go_enter Tryz.func168,Tryz.ntmps168;go_wp2;go_ret;exact⟨rfl,(Below.refl _ _).alloc (Nat.le_refl _) _⟩
   · have h3:((x:Int)==1)=false:=by simp;omega
     go_enter Tryz.func168,Tryz.ntmps168;go_wp2;go_ret;exact⟨by simp[h2],(Below.refl _ _).alloc (Nat.le_refl _) _⟩
 · have h2:¬N=1:=by
     intro h3
     rcases Nat.eq_zero_or_pos n with h0|h0
     · have:=(nat_zero hv ht).2 h0;omega
     · have h4:=val_top f n h0 (ht.resolve_left (by omega));have h5:=pow_mono32 (show 1<=n-1 by omega);rw[Nat.pow_one]at h5
       omega
   have h3:((n:Int)==1)=false:=by simp;omega
   have h4:decide ((n:Int)=1)=false:=by simp;omega
   rw[show decide (N=1)=false by simp[h2]];have hb:n<=1000000:=by have:=hs.1;have:=hs.2.1;omega
   clear hs hv ht h1 h2;go_enter Tryz.func168,Tryz.ntmps168;go_wp2;go_ret;exact⟨by simp,(Below.refl _ _).alloc (Nat.le_refl _) _⟩
def cmpI(a b:Nat):Int:=if a<b then -1 else if a=b then 0 else 1
def ordI(t:Bool):Int:=if t then -1 else 1
theorem below_drewN{B:Nat}{w w':World}(h:Below B w w')(q:Nat):Below B w (w'.drewN q):=h.trans ⟨rfl,rfl,rfl,Nat.le_refl _,fun _ _=>rfl⟩
theorem order_any(t:Bool)(w:World):Calls Tryz.prog 219 #[.bool t] w fun e w'=>e=.returned (.int .i64 (ordI t))/\w=w':=by
 cases t
 · go_enter Tryz.func219,Tryz.ntmps219;go_wp2;go_ret;exact⟨rfl,rfl⟩
 · go_enter Tryz.func219,Tryz.ntmps219;go_wp2;go_ret;exact⟨rfl,rfl⟩
theorem cmp_any(v u:Value)(N M:Nat)(w:World)(h:NatIs w v N)(g:NatIs w u M):Calls Tryz.prog 175 #[v,u] w fun e w'=>e=.returned (.int .i64 (cmpI N M))/\Below w.heap.size w w':=by
 obtain⟨a,n,c,f,rfl,hs,hv,ht⟩:=h;obtain⟨a2,n2,c2,f2,rfl,hs2,hv2,ht2⟩:=g;have hb:n<=1000000:=by have:=hs.1;have:=hs.2.1;omega
 have hb2:n2<=1000000:=by have:=hs2.1;have:=hs2.2.1;omega
 by_cases hn:n=n2
 · subst hn; have HS := Lib.hid hs; have HS2 := Lib.hid hs2; have HV := Lib.hid hv; have HV2 := Lib.hid hv2; have hne : ((n : Int) != (n : Int)) = false := by simp
   clear hs hs2 hv hv2 ht ht2;go_enter Tryz.func175,Tryz.ntmps175;go_wp2
   go_loopw [24] (fun i wr=>∃k:Nat,k<=n/\i=.int .i64 k/\Hid (Below w.heap.size w wr/\wr.cell? ⟨w.heap.size,0,none⟩=some (.slice a n c)/\wr.cell? ⟨w.heap.size+1,0,none⟩=some (.slice a2 n c2)/\∀j,n-k<=j->j<n->f j=f2 j))
    (fun i _=>n-(intOf i).toNat)
   case atStart=>exact⟨0,by omega,rfl,((Below.refl _ _).alloc (Nat.le_refl _) _).alloc (by simp) _,by simp,by simp,fun j h1 h2=>by omega⟩
   case round =>
    obtain⟨k,hk,rfl,hr⟩:=hrel;obtain⟨hbl,hc1,hc2,heq⟩:=hr.out
    by_cases hlt:k<n
    · obtain ⟨t, ht⟩ : ∃ t, n - 1 - k = t := ⟨_, rfl⟩
      obtain⟨b,off,rfl,_,hd1,hl1⟩:=(HS.out.below hbl).limb (show t<n by omega);obtain⟨b2,off2,rfl,_,hd2,hl2⟩:=(HS2.out.below hbl).limb (show t<n by omega);have e1:(n:Int)-1-(k:Int)=(t:Int):=by omega
      have w1:IntKind.i64.wrap ((n:Int)-1)=(n:Int)-1:=IntWalk.i64_in _ (by omega);have w2:IntKind.i64.wrap ((t:Int))=(t:Int):=IntWalk.i64_in _ (by omega);have t2:(t:Int)<(n:Int):=by omega
      have t0:(0:Int)<=(t:Int):=by omega
      by_cases hft:f t=f2 t
      · have HB:=Lib.hid hbl
        have HEQ:Hid (∀j,n-(k+1)<=j->j<n->f j=f2 j):=fun j h1 h2=>by
         by_cases e:j=t
         · subst e;exact hft
         · exact heq j (by omega) h2
        rw[← hft]at hd2;have HR:=hr;clear hbl heq hft hl2 hr;generalize f t=x at *;have hxx:((x:Int) != (x:Int))=false:=by simp
        have HC1:=Lib.hid hc1;have HC2:=Lib.hid hc2;go_wp2
        go_quiet (fail)
        go_wp2
        go_roundw
        case rel=>exact⟨k+1,by omega,by go_num,below_drewN HR.out.1 _,HC1.out,HC2.out,HEQ.out⟩
        case measure=>simp[intOf];omega
      · have HRES:Hid (cmpI N M=ordI (decide (f t<f2 t))):=by
          rw[← HV.out,← HV2.out]
          show cmpI _ _=_
          unfold cmpI ordI
          rcases Nat.lt_or_ge (f t) (f2 t)with h1|h1
          · have:=val_lt_of (f:=f) (g:=f2) (t:=t) (n:=n) (by omega) HS.out.2.2.1 (fun j h3 h4=>heq j (by omega) h4) h1;rw[if_pos this];simp[h1]
          · have h1':f2 t<f t:=by omega
            have:=val_lt_of (f:=f2) (g:=f) (t:=t) (n:=n) (by omega) HS2.out.2.2.1 (fun j h3 h4=>(heq j (by omega) h4).symm) h1';rw[if_neg (by omega),if_neg (by omega)];simp[Nat.not_lt.2 h1]
        have HB:=Lib.hid hbl;clear hbl heq hr;generalize f t=x at *;generalize f2 t=y at *;have hxx:((x:Int) != (y:Int))=true:=by simp;omega
        go_wp2
        go_quiet (fail)
        go_wp2_with (go_at_call 219;refine(order_any _ _).mono ?_;rintro e w1 ⟨rfl,rfl⟩)
        go_ret;exact⟨ret_int HRES.out.symm,below_drewN HB.out _⟩
    · obtain rfl:k=n:=by omega
      have HB:=Lib.hid hbl
      have HRES:Hid (cmpI N M=0):=by
       rw[← HV.out,← HV2.out]
       show cmpI _ _=_
       unfold cmpI;rw[val_congr k (f:=f) (g:=f2) (fun j hj=>heq j (by omega) hj),if_neg (by omega),if_pos rfl]
      clear hbl heq hc1 hc2 hr;go_wp2;go_ret;exact⟨ret_int HRES.out.symm,HB.out⟩
 · have HRES:Hid (cmpI N M=ordI (decide (n<n2))):=by
     rw[← hv,← hv2]
     show cmpI _ _=_
     unfold cmpI ordI
     rcases Nat.lt_or_ge n n2 with h1|h1
     · rw[if_pos (nat_len_lt hs.2.2.1 ht2 h1)];simp[h1]
     · have:=nat_len_lt hs2.2.2.1 ht (show n2<n by omega);rw[if_neg (by omega),if_neg (by omega)];simp[Nat.not_lt.2 h1]
   have hne:((n:Int) != (n2:Int))=true:=by simp;omega
   clear hs hs2 hv hv2 ht ht2;go_enter Tryz.func175,Tryz.ntmps175
   go_wp2_with (go_at_call 219;refine(order_any _ _).mono ?_;rintro e w1 ⟨rfl,rfl⟩)
   go_ret;exact⟨ret_int HRES.out.symm,((Below.refl _ _).alloc (Nat.le_refl _) _).alloc (by simp) _⟩
theorem val_pad'{p:Nat->Nat}{pn n:Nat}(h:pn<=n):val (fun j=>if j<pn then p j else 0) n=val p pn:=by rw[val_pad,Nat.min_eq_right h]
theorem addTo_own (w0 : World) (b n cs N : Nat) (pa : Option Addr) (pn pc : Nat) (p : Nat -> Nat) (w : World) (h : Own w0 w b n N) (hn : n <= 1000000) (hp : SlAt w .u32 4294967296 pa pn pc p) (hne : ∀ x, pa = some x -> x.block < w0.heap.size) (hpn : pn <= n)
    (hfit:N+val p pn<4294967296^n) :
    Calls Tryz.prog 216 #[.slice (some ⟨b,0,none⟩) n cs,.slice pa pn pc] w fun e w'=>e=.returned (.tuple #[])/\Own w0 w' b n (N+val p pn)/\Wrote b 0 n w w':=by
 obtain⟨f,h1,h2,h3⟩:=h.row;refine(addTo_any b 0 n cs f pa pn pc p w h.free h1 h2 hn hp (fun x hx=>by have:=hne x hx;have:=h.ge;omega)).mono ?_;rintro e w' ⟨rfl,c,hw,hf,d,hd,hb,_,hc,hR⟩;rw[Nat.zero_add]at hw;rw[val_pad' hpn,h3]at hR;refine⟨rfl,⟨h.ge,Nat.lt_of_lt_of_le h.lt hw.size,hf,d,hd,hb,?_⟩,hw⟩
 rcases Nat.eq_zero_or_pos c with h0|h0
 · subst h0;omega
 · have:1*4294967296^n<=c*4294967296^n:=Nat.mul_le_mul_right _ h0
   omega
theorem NatIs.len{w:World}{a:Option Addr}{n c:Nat}{f:Nat->Nat}(hs:SlAt w .u32 4294967296 a n c f):n<=1000000:=by have:=hs.1;have:=hs.2.1;omega
theorem SlAt.old{w:World}{ki:IntKind}{m:Nat}{a:Option Addr}{n c:Nat}{f:Nat->Nat}(h:SlAt w ki m a n c f):∀x,a=some x->x.block<w.heap.size:=by
 intro x hx
 rcases h.2.2.2 with ⟨h4,_⟩|⟨b,off,h4,h5,_⟩
 · rw[h4]at hx;cases hx
 · rw[h4]at hx;cases hx;exact h5
def NatOut(w w':World)(e:Ending)(N:Nat):Prop:=∃v,e=.returned v/\NatIs w' v N/\Below w.heap.size w w'
structure Slot(w:World)(k:Nat)(v:Value):Prop where
 cell:w.cell? ⟨k,0,none⟩=some v
 free:w.frozen? ⟨k,0,none⟩=false
 lt:k<w.heap.size
theorem Slot.below{w w':World}{k:Nat}{v:Value}(h:Slot w k v)(hb:Below w.heap.size w w'):Slot w' k v :=
 ⟨(hb.cell (p:=⟨k,0,none⟩) h.lt).trans h.cell,(hb.frozen (p:=⟨k,0,none⟩) h.lt).trans h.free,Nat.lt_of_lt_of_le h.lt hb.size⟩
theorem Slot.wrote{w w':World}{k b lo hi:Nat}{v:Value}(h:Slot w k v)(hb:Wrote b lo hi w w')(hne:k≠b):Slot w' k v:=by
 have e:=hb.block k h.lt hne;exact⟨(World.cell?_of_block (w:=w) (w':=w') (a:=⟨k,0,none⟩) e).trans h.cell,(World.frozen?_of_block (w:=w) (w':=w') (a:=⟨k,0,none⟩) e).trans h.free,Nat.lt_of_lt_of_le h.lt hb.size⟩
theorem trimmed_pl (a : Option Addr) (n c : Nat) (f : Nat -> Nat) (w : World) (h : SlAt w .u32 4294967296 a n c f) :
    Calls Tryz.prog 143 #[.slice a n c] w fun e w'=>∃a' n' c' f',e=.returned (.agg #[.slice a' n' c'])/\SlAt w' .u32 4294967296 a' n' c' f'/\val f' n'=val f n/\(n'=0∨f' (n'-1)≠0)/\(a'=none∨a'=a)/\Below w.heap.size w w':=by
 refine(trimmed_any a n c f w h).mono ?_;rintro e w' ⟨rfl,hb⟩;unfold trimV
 by_cases h0:tl f n=0
 · rw[if_pos h0];exact⟨none,0,0,f,rfl,SlAt.nil _ _ _ _,by rw[← tl_val f n,h0],.inl rfl,.inl rfl,hb⟩
 · rw[if_neg h0];exact⟨a,tl f n,c,f,rfl,(h.take (tl_le f n)).below hb,tl_val f n,tl_last f n,.inr rfl,hb⟩
theorem natOut_store {w w3 : World} {k : Nat} {a : Option Addr} {n c : Nat} {f : Nat -> Nat} {N : Nat} (hb : Below w.heap.size w w3) (hk : w.heap.size <= k) (hs : SlAt w3 .u32 4294967296 a n c f) (hv : val f n = N) (ht : n = 0 ∨ f (n - 1) ≠ 0)
    (hd:∀x,a=some x->x.block≠k) (u:Value):NatOut w (w3.setCell ⟨k,0,none⟩ u) (.returned (.agg #[.slice a n c])) N :=
 ⟨_,rfl,⟨a,n,c,f,rfl,hs.wrote ((Wrote.refl k 0 1 w3).setCell (Nat.le_refl _) (by omega) u) hd,hv,ht⟩,hb.setCell hk u⟩
theorem Slot.new(w:World)(x:Value)(t:TypeId):Slot (w.alloc (.cells #[x] t)) w.heap.size x :=
 ⟨by rw[World.cell?_alloc_new];rfl,World.frozen?_alloc_new _ _ _ _,by rw[World.size_alloc];omega⟩
theorem Slot.alloc{w:World}{k:Nat}{v:Value}(h:Slot w k v)(o:Obj):Slot (w.alloc o) k v:=h.below ((Below.refl _ _).alloc (Nat.le_refl _) _)
theorem Slot.new1(w:World)(o:Obj)(x:Value)(t:TypeId):Slot ((w.alloc o).alloc (.cells #[x] t)) (w.heap.size+1) x:=by
 have:=Slot.new (w.alloc o) x t;rw[World.size_alloc]at this;exact this
theorem Slot.new2(w:World)(o o':Obj)(x:Value)(t:TypeId):Slot (((w.alloc o).alloc o').alloc (.cells #[x] t)) (w.heap.size+1+1) x:=by
 have:=Slot.new ((w.alloc o).alloc o') x t;rw[World.size_alloc,World.size_alloc]at this;exact this
theorem below2(w:World)(o o':Obj):Below w.heap.size w ((w.alloc o).alloc o'):=((Below.refl _ _).alloc (Nat.le_refl _) _).alloc (by rw[World.size_alloc];omega) _
theorem below3(w:World)(o o' o2:Obj):Below w.heap.size w (((w.alloc o).alloc o').alloc o2):=(below2 w o o').alloc (by rw[World.size_alloc,World.size_alloc];omega) _
theorem slot3(w:World)(x y z:Value)(t:TypeId):Slot (((w.alloc (.cells #[x] t)).alloc (.cells #[y] t)).alloc (.cells #[z] t)) w.heap.size x/\Slot (((w.alloc (.cells #[x] t)).alloc (.cells #[y] t)).alloc (.cells #[z] t)) (w.heap.size+1) y /\
    Slot (((w.alloc (.cells #[x] t)).alloc (.cells #[y] t)).alloc (.cells #[z] t)) (w.heap.size+1+1) z/\Below w.heap.size w (((w.alloc (.cells #[x] t)).alloc (.cells #[y] t)).alloc (.cells #[z] t)) :=
 ⟨((Slot.new w x t).alloc _).alloc _,(Slot.new1 w _ y t).alloc _,Slot.new2 w _ _ z t,below3 w _ _ _⟩
theorem NatIs.short{n:Nat}{f:Nat->Nat}{N k:Nat}(hv:val f n=N)(ht:n=0∨f (n-1)≠0)(hN:N<4294967296^k):n<=k:=by
 rcases Nat.lt_or_ge k n with h|h
 · have h1:=val_top f n (by omega) (ht.resolve_left (by omega));have h2:=pow_mono32 (show k<=n-1 by omega)
   omega
 · exact h
theorem add_core (a : Option Addr) (n c : Nat) (f : Nat -> Nat) (a2 : Option Addr) (n2 c2 : Nat) (f2 : Nat -> Nat) (w : World) (hs : SlAt w .u32 4294967296 a n c f) (hs2 : SlAt w .u32 4294967296 a2 n2 c2 f2) (hl : n + 1 <= 1000000) (hl2 : n2 + 1 <= 1000000) :
    Calls Tryz.prog 167 #[.agg #[.slice a n c],.agg #[.slice a2 n2 c2]] w fun e w'=>NatOut w w' e (val f n+val f2 n2):=by
 by_cases hlt:n<n2
 · obtain⟨m,hm⟩:∃m,n2+1=m:=⟨_,rfl⟩
   have e1:(n2:Int)+1=(m:Int):=by omega
   have hfit:val f2 n2+val f n<4294967296^m:=by
    have h1:=val_lt f n hs.2.2.1;have h2:=val_lt f2 n2 hs2.2.2.1;have h3:=pow_mono32 (show n<=n2 by omega);rw[← hm,pow_succ32];omega
   have hmm:m<=1000000/\n2<=m/\n<=m:=by omega
   have HS:=Lib.hid hs;have HS2:=Lib.hid hs2;have HF:=Lib.hid hfit;have HM:=Lib.hid hmm;clear hs hs2 hfit hm hmm;go_enter Tryz.func167,Tryz.ntmps167;go_wp2_with fail;go_at_call 141;obtain⟨s1,s2,s3,hB⟩:=slot3 w (.slice a2 n2 c2) (.slice a n c) (.slice none 0 0) 49;refine(copied_own a2 n2 c2 f2 m _ (HS2.out.below hB) HM.out.2.1 HM.out.1).mono ?_;rintro e w1 ⟨b,rfl,ho,hb⟩;have S2:=Lib.hid (s2.below hb);have S3:=Lib.hid (s3.below hb);have HB:=Lib.hid (hB.trans (hb.mono hB.size));have hbn:w.heap.size+3<=b:=by have:=ho.ge;simp at this;omega
   have HO:Hid (Own w w1 b m (val f2 n2)):=⟨by omega,ho.lt,ho.free,ho.row⟩
   have hc1:=S2.out.cell;clear ho hb s1 s2 s3 hB;go_wp2_with fail;go_at_call 216;refine(addTo_own w b m m (val f2 n2) a n c f w1 HO.out HM.out.1 (HS.out.below HB.out) HS.out.old HM.out.2.2 HF.out).mono ?_;rintro e w2 ⟨rfl,ho2,hw2⟩;obtain⟨g,hg,hgv⟩:=ho2.slAt HM.out.1;have HG:=Lib.hid hg;have HGV:=Lib.hid hgv;have T3:=Lib.hid (S3.out.wrote hw2 (by omega));have HB2:Hid (Below w.heap.size w w2):=hw2.below HB.out HO.out.ge HB.out.size;clear hg hgv ho2 hw2 hc1;go_wp2_with fail;go_at_call 143;refine(trimmed_pl _ m m g w2 HG.out).mono ?_;rintro e w3 ⟨a3,n3,c3,f3,rfl,hs3,hv3,ht3,hp3,hb3⟩;have U3:=T3.out.below hb3;have HEND:=natOut_store (u:=.slice a3 n3 c3) (k:=w.heap.size+1+1) (HB2.out.trans (hb3.mono HB2.out.size)) (by omega) hs3 (hv3.trans HGV.out) ht3 (by rintro x rfl;rcases hp3 with h|h<;>cases h;simp;omega);have hc4:=U3.cell;have hf4:=U3.free;rw[Nat.add_comm (val f2 n2)]at HEND;have HE:=Lib.hid HEND;clear hs3 hv3 ht3 hb3 hp3 U3 HEND;go_wp2;exact bodyPost_ret (v:=.agg #[.slice a3 n3 c3]) (by simp[results,Tryz.results167,go_sem,hc4]) rfl HE.out
 · obtain⟨m,hm⟩:∃m,n+1=m:=⟨_,rfl⟩
   have e1:(n:Int)+1=(m:Int):=by omega
   have hfit:val f n+val f2 n2<4294967296^m:=by
    have h1:=val_lt f n hs.2.2.1;have h2:=val_lt f2 n2 hs2.2.2.1;have h3:=pow_mono32 (show n2<=n by omega);rw[← hm,pow_succ32];omega
   have hmm:m<=1000000/\n<=m/\n2<=m:=by omega
   have HS:=Lib.hid hs;have HS2:=Lib.hid hs2;have HF:=Lib.hid hfit;have HM:=Lib.hid hmm;clear hs hs2 hfit hm hmm;go_enter Tryz.func167,Tryz.ntmps167;go_wp2_with fail;go_at_call 141;obtain⟨s1,s2,s3,hB⟩:=slot3 w (.slice a n c) (.slice a2 n2 c2) (.slice none 0 0) 49;refine(copied_own a n c f m _ (HS.out.below hB) HM.out.2.1 HM.out.1).mono ?_;rintro e w1 ⟨b,rfl,ho,hb⟩;have S2:=Lib.hid (s2.below hb);have S3:=Lib.hid (s3.below hb);have HB:=Lib.hid (hB.trans (hb.mono hB.size));have hbn:w.heap.size+3<=b:=by have:=ho.ge;simp at this;omega
   have HO:Hid (Own w w1 b m (val f n)):=⟨by omega,ho.lt,ho.free,ho.row⟩
   have hc1:=S2.out.cell;clear ho hb s1 s2 s3 hB;go_wp2_with fail;go_at_call 216;refine(addTo_own w b m m (val f n) a2 n2 c2 f2 w1 HO.out HM.out.1 (HS2.out.below HB.out) HS2.out.old HM.out.2.2 HF.out).mono ?_;rintro e w2 ⟨rfl,ho2,hw2⟩;obtain⟨g,hg,hgv⟩:=ho2.slAt HM.out.1;have HG:=Lib.hid hg;have HGV:=Lib.hid hgv;have T3:=Lib.hid (S3.out.wrote hw2 (by omega));have HB2:Hid (Below w.heap.size w w2):=hw2.below HB.out HO.out.ge HB.out.size;clear hg hgv ho2 hw2 hc1;go_wp2_with fail;go_at_call 143;refine(trimmed_pl _ m m g w2 HG.out).mono ?_;rintro e w3 ⟨a3,n3,c3,f3,rfl,hs3,hv3,ht3,hp3,hb3⟩;have U3:=T3.out.below hb3;have HEND:=natOut_store (u:=.slice a3 n3 c3) (k:=w.heap.size+1+1) (HB2.out.trans (hb3.mono HB2.out.size)) (by omega) hs3 (hv3.trans HGV.out) ht3 (by rintro x rfl;rcases hp3 with h|h<;>cases h;simp;omega);have hc4:=U3.cell;have hf4:=U3.free
   skip
   have HE:=Lib.hid HEND;clear hs3 hv3 ht3 hb3 hp3 U3 HEND;go_wp2;exact bodyPost_ret (v:=.agg #[.slice a3 n3 c3]) (by simp[results,Tryz.results167,go_sem,hc4]) rfl HE.out
theorem add_any(v u:Value)(N M:Nat)(w:World)(h:NatIs w v N)(g:NatIs w u M)(k:Nat)(hk:k<=900000)(hN:N<4294967296^k)(hM:M<4294967296^k):Calls Tryz.prog 167 #[v,u] w fun e w'=>NatOut w w' e (N+M):=by
 obtain⟨a,n,c,f,rfl,hs,hv,ht⟩:=h;obtain⟨a2,n2,c2,f2,rfl,hs2,hv2,ht2⟩:=g;have hl:=NatIs.short hv ht hN;have hl2:=NatIs.short hv2 ht2 hM;rw[← hv,← hv2];exact add_core a n c f a2 n2 c2 f2 w hs hs2 (by omega) (by omega)
theorem cmp_neg{N M:Nat}(h:N<M):cmpI N M = -1:=by unfold cmpI;rw[if_pos h]
theorem cmp_pos{N M:Nat}(h:M<=N):∃k:Nat,cmpI N M=(k:Int):=by
 unfold cmpI;rw[if_neg (by omega)];split
 · exact⟨0,rfl⟩
 · exact⟨1,rfl⟩
def OfOut(w w':World)(e:Ending)(x:Nat):Prop:=∃a n c f,e=.returned (.agg #[.slice a n c])/\SlAt w' .u32 4294967296 a n c f/\val f n=x/\(n=0∨f (n-1)≠0)/\(∀y,a=some y->w.heap.size<=y.block)/\Below w.heap.size w w'
theorem of_pl(x:Nat)(w:World)(hx:x<18446744073709551616):Calls Tryz.prog 146 #[.int .u64 x] w fun e w'=>OfOut w w' e x:=by
 obtain⟨lo,hlo⟩:∃lo,x%4294967296=lo:=⟨_,rfl⟩
 obtain⟨hi,hhi⟩:∃hi,x / 4294967296=hi:=⟨_,rfl⟩
 have e1:(x:Int)%4294967296=(lo:Int):=by omega
 have e2:(x:Int) / 4294967296=(hi:Int):=by omega
 have e3:(hi:Int)%4294967296=(hi:Int):=by omega
 have s0:=Slot.new w (.slice none 0 0) 49;have hn:=heap_new (w.alloc (.cells #[.slice none 0 0] 49)) (.cells #[.int .u32 lo,.int .u32 hi] 177);rw[World.size_alloc]at hn
 have hsl:SlAt ((w.alloc (.cells #[.slice none 0 0] 49)).alloc (.cells #[.int .u32 lo,.int .u32 hi] 177)) .u32 4294967296 (some ⟨w.heap.size+1,0,none⟩) 2 2 (fun j=>if j=0 then lo else hi):=by
  refine⟨Nat.le_refl _,by omega,fun j hj=>by show(if j=0 then lo else hi)<_;split<;>omega,.inr ⟨_,0,rfl,by rw[World.size_alloc,World.size_alloc];omega,Cells.of_block (cs := [.int .u32 lo,.int .u32 hi]) hn ?_⟩⟩;intro j hj
  match j,hj with
  | 0,_=>rfl
  | 1,_=>rfl
 have hv:val (fun j=>if j=0 then lo else hi) 2=x:=by simp[val];omega
 have HT:=Lib.hid (trimmed_pl _ 2 2 _ _ hsl);have HV:=Lib.hid hv;have S0:=Lib.hid (s0.alloc (.cells #[.int .u32 lo,.int .u32 hi] 177));have HB:=Lib.hid (below2 w (.cells #[.slice none 0 0] 49) (.cells #[.int .u32 lo,.int .u32 hi] 177));clear s0 hn hsl hv hlo hhi;go_enter Tryz.func146,Tryz.ntmps146;go_wp2_with fail;go_at_call 143;refine HT.out.mono ?_;rintro e w4 ⟨a3,n3,c3,f3,rfl,hs3,hv3,ht3,hp3,hb4⟩;have X3:=S0.out.below hb4
 have HEND:OfOut w (w4.setCell ⟨w.heap.size,0,none⟩ (.slice a3 n3 c3)) (.returned (.agg #[.slice a3 n3 c3])) x :=
  ⟨a3,n3,c3,f3,rfl,hs3.wrote ((Wrote.refl w.heap.size 0 1 w4).setCell (Nat.le_refl _) (by omega) _) (by rintro y rfl;rcases hp3 with h|h<;>cases h;simp),hv3.trans HV.out,ht3,by rintro y rfl;rcases hp3 with h|h<;>cases h;simp,(HB.out.trans (hb4.mono HB.out.size)).setCell (Nat.le_refl _) _⟩
 have hc4:=X3.cell;have hf4:=X3.free;have HE:=Lib.hid HEND;clear hs3 hv3 ht3 hb4 hp3 X3 HEND;go_wp2;exact bodyPost_ret (v:=.agg #[.slice a3 n3 c3]) (by simp[results,Tryz.results146,go_sem,hc4]) rfl HE.out
theorem of_any(x:Nat)(w:World)(hx:x<18446744073709551616):Calls Tryz.prog 146 #[.int .u64 x] w fun e w'=>NatOut w w' e x :=
 (of_pl x w hx).mono fun _ _ ⟨a,n,c,f,h1,h2,h3,h4,_,h6⟩=>⟨_,h1,⟨a,n,c,f,rfl,h2,h3,h4⟩,h6⟩
def modz(N M:Nat):Nat:=if M=0 then 0 else N%M
def DivOut(w w':World)(e:Ending)(N M:Nat):Prop:=∃v u,e=.returned (.tuple #[v,u,.bool (decide (M≠0))])/\NatIs w' v (N / M)/\NatIs w' u (modz N M)/\Below w.heap.size w w'
theorem divOut_store {w w5 : World} {k1 k2 : Nat} {a1 a2 : Option Addr} {n1 c1 n2 c2 : Nat} {f1 f2 : Nat -> Nat} {N M : Nat} (hM : M ≠ 0) (hb : Below w.heap.size w w5) (hk1 : w.heap.size <= k1) (hk2 : w.heap.size <= k2)
    (hs1:SlAt w5 .u32 4294967296 a1 n1 c1 f1) (hv1:val f1 n1=N / M) (ht1:n1=0∨f1 (n1-1)≠0) (hd1:∀x,a1=some x->x.block≠k1/\x.block≠k2)
    (hs2:SlAt w5 .u32 4294967296 a2 n2 c2 f2) (hv2:val f2 n2=N%M) (ht2:n2=0∨f2 (n2-1)≠0) (hd2:∀x,a2=some x->x.block≠k1/\x.block≠k2) (u1 u2:Value) :
    DivOut w ((w5.setCell ⟨k1,0,none⟩ u1).setCell ⟨k2,0,none⟩ u2) (.returned (.tuple #[.agg #[.slice a1 n1 c1],.agg #[.slice a2 n2 c2],.bool true])) N M:=by
 have q1:Wrote k1 0 1 w5 (w5.setCell ⟨k1,0,none⟩ u1):=(Wrote.refl k1 0 1 w5).setCell (Nat.le_refl _) (by omega) u1;have q2:Wrote k2 0 1 (w5.setCell ⟨k1,0,none⟩ u1) ((w5.setCell ⟨k1,0,none⟩ u1).setCell ⟨k2,0,none⟩ u2):=(Wrote.refl k2 0 1 _).setCell (Nat.le_refl _) (by omega) u2;refine⟨_,_,by rw[show decide (M≠0)=true by simp[hM]],⟨a1,n1,c1,f1,rfl,(hs1.wrote q1 (fun x hx=>(hd1 x hx).1)).wrote q2 (fun x hx=>(hd1 x hx).2),hv1,ht1⟩,⟨a2,n2,c2,f2,rfl,(hs2.wrote q1 (fun x hx=>(hd2 x hx).1)).wrote q2 (fun x hx=>(hd2 x hx).2),?_,ht2⟩,(hb.setCell hk1 u1).setCell hk2 u2⟩;unfold modz;rw[if_neg hM];exact hv2
theorem slot4 (w : World) (x y z z' : Value) (t : TypeId) : let W := ((((w.alloc (.cells #[x] t)).alloc (.cells #[y] t)).alloc (.cells #[z] t)).alloc (.cells #[z'] t))
    Slot W w.heap.size x/\Slot W (w.heap.size+1) y/\Slot W (w.heap.size+1+1) z/\Slot W (w.heap.size+1+1+1) z'/\Below w.heap.size w W:=by
 obtain⟨a,b,c,d⟩:=slot3 w x y z t;refine⟨a.alloc _,b.alloc _,c.alloc _,?_,d.alloc d.size _⟩;have:=Slot.new (((w.alloc (.cells #[x] t)).alloc (.cells #[y] t)).alloc (.cells #[z] t)) z' t;rw[World.size_alloc,World.size_alloc,World.size_alloc]at this;exact this
theorem divideBy_own (w0 : World) (b n cs N m : Nat) (w : World) (h : Own w0 w b n N) (hn : n <= 1000000) (hm : m < 4294967296) (hm0 : 0 < m) :
    Calls Tryz.prog 142 #[.slice (some ⟨b,0,none⟩) n cs,.int .u32 m] w fun e w'=>e=.returned (.int .u32 (N%m:Nat))/\Own w0 w' b n (N / m)/\Wrote b 0 n w w':=by
 obtain⟨f,h1,h2,h3⟩:=h.row;refine(divideBy_any b 0 n cs f m w h.free h1 h2 hn hm hm0).mono ?_;rintro e w' ⟨r,rfl,hr,hw,hf,d,hd,hb,_,hR⟩;rw[Nat.zero_add]at hw;unfold DivEnd at hR;rw[h3]at hR;have e1:N%m=r:=by rw[← hR,Nat.mul_add_mod,Nat.mod_eq_of_lt hr]
 have e2:N / m=val d n:=by rw[← hR,Nat.mul_add_div hm0,Nat.div_eq_of_lt hr,Nat.add_zero]
 exact⟨by rw[e1],⟨h.ge,Nat.lt_of_lt_of_le h.lt hw.size,hf,d,hd,hb,e2.symm⟩,hw⟩
theorem divMod_any(v u:Value)(N M:Nat)(w:World)(h:NatIs w v N)(g:NatIs w u M)(k:Nat)(hk:k<=900000)(hN:N<4294967296^k):Calls Tryz.prog 171 #[v,u] w fun e w'=>DivOut w w' e N M:=by
 have HZ:=Lib.hid (fun w1 (hb:Below w.heap.size w w1)=>zero_any u M w1 (g.below hb));have HC:=Lib.hid (fun w1 (hb:Below w.heap.size w w1)=>cmp_any v u N M w1 (h.below hb) (g.below hb));obtain⟨a,n,c,f,rfl,hs,hv,ht⟩:=h;obtain⟨a2,n2,c2,f2,rfl,hs2,hv2,ht2⟩:=g;have hn:n<=900000:=Nat.le_trans (NatIs.short hv ht hN) hk;obtain⟨s1,s2,s3,s4,hB⟩:=slot4 w (.slice a n c) (.slice a2 n2 c2) (.slice none 0 0) (.slice none 0 0) 49;have HB:=Lib.hid hB;have S1:=Lib.hid s1;have S2:=Lib.hid s2;have S3:=Lib.hid s3;have S4:=Lib.hid s4;have HS:=Lib.hid hs;have HS2:=Lib.hid hs2;have HV:=Lib.hid hv;have HV2:=Lib.hid hv2;have HT:=Lib.hid ht;have HT2:=Lib.hid ht2;clear s1 s2 s3 s4 hB hs hs2 hv hv2 ht ht2 hN hk
 by_cases h0:M=0
 · subst h0;go_enter Tryz.func171,Tryz.ntmps171;go_wp2_with fail;go_at_call 114;refine(HZ.out _ HB.out).mono ?_;rintro e w1 ⟨rfl,hb1⟩;have t3:=S3.out.below hb1;have t4:=S4.out.below hb1;have hc3:=t3.cell;have hf3:=t3.free;have hc4:=t4.cell;have hf4:=t4.free
   have HE:Hid (DivOut w ((w1.setCell ⟨w.heap.size+1+1,0,none⟩ (.slice none 0 0)).setCell ⟨w.heap.size+1+1+1,0,none⟩ (.slice none 0 0)) (.returned (.tuple #[.agg #[.slice none 0 0],.agg #[.slice none 0 0],.bool false])) N 0) :=
    ⟨_,_,rfl,by rw[Nat.div_zero];exact NatIs.zero _,NatIs.zero _,((HB.out.trans (hb1.mono HB.out.size)).setCell (by simp;omega) _).setCell (by simp;omega) _⟩
   clear hb1 t3 t4;go_wp2;exact bodyPost_ret (v:=.tuple #[.agg #[.slice none 0 0],.agg #[.slice none 0 0],.bool false]) (by simp[results,Tryz.results171,go_sem,hc3,hc4]) rfl HE.out
 · have hM : decide (M = 0) = false := by simp [h0]
   have HM0:=Lib.hid h0;rw[hM]at HZ;clear h0 hM
   by_cases hlt:N<M
   · rw[cmp_neg hlt]at HC;have HLT:=Lib.hid hlt;clear hlt;go_enter Tryz.func171,Tryz.ntmps171;go_wp2_with fail;go_at_call 114;refine(HZ.out _ HB.out).mono ?_;rintro e w1 ⟨rfl,hb1⟩;have T1:=Lib.hid (S1.out.below hb1);have T2:=Lib.hid (S2.out.below hb1);have T3:=Lib.hid (S3.out.below hb1);have T4:=Lib.hid (S4.out.below hb1);have HB1:=Lib.hid (HB.out.trans (hb1.mono HB.out.size));have hc1:=T1.out.cell;have hc2:=T2.out.cell;clear hb1;go_wp2_with fail;go_at_call 175;refine(HC.out _ HB1.out).mono ?_;rintro e w2 ⟨rfl,hb2⟩;have U1:=Lib.hid (T1.out.below hb2);have U3:=Lib.hid (T3.out.below hb2);have U4:=Lib.hid (T4.out.below hb2);have HB2:=Lib.hid (HB1.out.trans (hb2.mono HB1.out.size));clear hb2 hc1 hc2;have hc1:=U1.out.cell;go_wp2_with fail;go_at_call 141;refine(copied_own a n c f n w2 (HS.out.below HB2.out) (Nat.le_refl _) (by omega)).mono ?_;rintro e w3 ⟨b,rfl,ho,hb3⟩;obtain⟨q,hq,hqv⟩:=ho.slAt (by omega);have hbn:w.heap.size+4<=b:=by have:=ho.ge;have:=U4.out.lt;omega
     have HQ:=Lib.hid hq;have HQV:=Lib.hid hqv;have V3:=Lib.hid (U3.out.below hb3);have V4:=Lib.hid (U4.out.below hb3);have HB3:=Lib.hid (HB2.out.trans (hb3.mono HB2.out.size));clear hb3 ho hq hqv hc1;go_wp2_with fail;go_at_call 143;refine(trimmed_pl _ n n q w3 HQ.out).mono ?_;rintro e w4 ⟨a3,n3,c3,f3,rfl,hs3,hv3,ht3,hp3,hb4⟩;have t3:=V3.out.below hb4;have t4:=V4.out.below hb4;have hc3:=t3.cell;have hf3:=t3.free;have hc4:=t4.cell;have hf4:=t4.free
     have HE:=Lib.hid (divOut_store (N:=N) (M:=M) (k1:=w.heap.size+1+1) (k2:=w.heap.size+1+1+1) (u1:=.slice none 0 0) (u2:=.slice a3 n3 c3) HM0.out (HB3.out.trans (hb4.mono HB3.out.size)) (by omega) (by omega)
      (SlAt.nil w4 .u32 4294967296 (fun _=>0)) (by rw[Nat.div_eq_of_lt HLT.out];rfl) (.inl rfl) (fun x hx=>by cases hx)
      hs3 (by rw[Nat.mod_eq_of_lt HLT.out,hv3,HQV.out,HV.out]) ht3 (by rintro x rfl;rcases hp3 with h|h<;>cases h;simp;omega))
     clear hs3 hv3 ht3 hb4 hp3 t3 t4;go_wp2;exact bodyPost_ret (v:=.tuple #[.agg #[.slice none 0 0],.agg #[.slice a3 n3 c3],.bool true]) (by simp[results,Tryz.results171,go_sem,hc3,hc4]) rfl HE.out
   · obtain ⟨k, hk⟩ := cmp_pos (show M <= N by omega); rw [hk] at HC
     have hlen:n2<=n:=by
      rcases Nat.lt_or_ge n n2 with h|h
      · have:=nat_len_lt HS.out.2.2.1 HT2.out h;rw[HV.out,HV2.out]at this;omega
      · exact h
     have hn2:0<n2:=by
      rcases Nat.eq_zero_or_pos n2 with h|h
      · have h1:=HV2.out;subst h;exact absurd h1.symm HM0.out
      · exact h
     clear hk hlt
     by_cases h1:n2=1
     · subst h1;obtain⟨b2,off2,rfl,hb2l,hg0,hgl⟩:=HS2.out.limb (show 0<1 by omega);have e0:f2 0=M:=by have:=HV2.out;simpa[val]using this
       rw[e0]at hg0 hgl;rw[Nat.add_zero]at hg0;have HG0:=Lib.hid hg0;have hml:M<4294967296:=hgl;clear hg0 e0 hgl;go_enter Tryz.func171,Tryz.ntmps171;go_wp2_with fail;go_at_call 114;refine(HZ.out _ HB.out).mono ?_;rintro e w1 ⟨rfl,hb1⟩;have T1:=Lib.hid (S1.out.below hb1);have T2:=Lib.hid (S2.out.below hb1);have T3:=Lib.hid (S3.out.below hb1);have T4:=Lib.hid (S4.out.below hb1);have HB1:=Lib.hid (HB.out.trans (hb1.mono HB.out.size));have hc1:=T1.out.cell;have hc2:=T2.out.cell;clear hb1;go_wp2_with fail;go_at_call 175;refine(HC.out _ HB1.out).mono ?_;rintro e w2 ⟨rfl,hb2⟩;have U1:=Lib.hid (T1.out.below hb2);have U2:=Lib.hid (T2.out.below hb2);have U3:=Lib.hid (T3.out.below hb2);have U4:=Lib.hid (T4.out.below hb2);have HB2:=Lib.hid (HB1.out.trans (hb2.mono HB1.out.size));clear hb2 hc1 hc2;have hc1:=U1.out.cell;have hc2:=U2.out.cell;go_wp2_with fail;go_at_call 141;refine(copied_own a n c f n w2 (HS.out.below HB2.out) (Nat.le_refl _) (by omega)).mono ?_;rintro e w3 ⟨b,rfl,ho,hb3⟩;have hbn:w.heap.size+4<=b:=by have:=ho.ge;have:=U4.out.lt;omega
       have HO:Hid (Own w w3 b n N):=⟨by omega,ho.lt,ho.free,by rw[← HV.out];exact ho.row⟩
       have X2:=Lib.hid (U2.out.below hb3);have X3:=Lib.hid (U3.out.below hb3);have X4:=Lib.hid (U4.out.below hb3);have HB3:=Lib.hid (HB2.out.trans (hb3.mono HB2.out.size));clear hb3 ho hc1 hc2;have hc2:=X2.out.cell;have hg0:w3.cell? ⟨b2,off2,none⟩=some (.int .u32 M):=by have:=(HB3.out.cell (p:=⟨b2,off2,none⟩) hb2l).trans HG0.out;exact this
       go_wp2_with fail;go_at_call 142;refine(divideBy_own w b n n N M w3 HO.out (by omega) hml (by have:=HM0.out;omega)).mono ?_;rintro e w4 ⟨rfl,ho4,hw4⟩;obtain⟨q,hq,hqv⟩:=ho4.slAt (by omega);have HQ:=Lib.hid hq;have HQV:=Lib.hid hqv;have Y3:=Lib.hid (X3.out.wrote hw4 (by omega));have Y4:=Lib.hid (X4.out.wrote hw4 (by omega));have HB4:Hid (Below w.heap.size w w4):=hw4.below HB3.out HO.out.ge HB3.out.size;have hbl4:=ho4.lt;have hmod:N%M<4294967296:=by have:=Nat.mod_lt N (show 0<M by have:=HM0.out;omega);omega
       clear hq hqv ho4 hw4 hc2 hg0;obtain⟨R,hR⟩:∃R,N%M=R:=⟨_,rfl⟩
       rw[hR]at hmod ⊢;have HR:=Lib.hid hR;clear hR;go_wp2_with fail;go_at_call 143;refine(trimmed_pl _ n n q w4 HQ.out).mono ?_;rintro e w5 ⟨a3,n3,c3,f3,rfl,hs3,hv3,ht3,hp3,hb5⟩;have V3:=Lib.hid (Y3.out.below hb5);have V4:=Lib.hid (Y4.out.below hb5);have HB5:=Lib.hid (HB4.out.trans (hb5.mono HB4.out.size));have HS3:=Lib.hid hs3;have HV3:=Lib.hid hv3;have HT3:=Lib.hid ht3;have HP3:=Lib.hid hp3;clear hs3 hv3 ht3 hp3 hb5;go_wp2_with fail;go_at_call 146;refine(of_pl R w5 (by omega)).mono ?_;rintro e w6 ⟨a4,n4,c4,f4,rfl,hs4,hv4,ht4,HP4,hb6⟩;have hs3:=HS3.out;have hv3:=HV3.out;have ht3:=HT3.out;have hp3:=HP3.out;have t3:=V3.out.below hb6;have t4:=V4.out.below hb6;have hc3:=t3.cell;have hf3:=t3.free;have hc4:=t4.cell;have hf4:=t4.free;have hs3':=hs3.below hb6
       have HE:=Lib.hid (divOut_store (N:=N) (M:=M) (k1:=w.heap.size+1+1) (k2:=w.heap.size+1+1+1) (u1:=.slice a3 n3 c3) (u2:=.slice a4 n4 c4) HM0.out (HB5.out.trans (hb6.mono HB5.out.size)) (by omega) (by omega)
        hs3' (hv3.trans HQV.out) ht3 (by rintro x rfl;rcases hp3 with h|h<;>cases h;simp;omega)
        hs4 (by rw[HR.out];exact hv4) ht4 (fun x hx=>by have h1:=HP4 x hx;have h2:=V4.out.lt;constructor<;>omega))
       clear hs3 hs3' hv3 ht3 hs4 hv4 ht4 hb6 hp3 HP4 t3 t4;go_wp2;exact bodyPost_ret (v:=.tuple #[.agg #[.slice a3 n3 c3],.agg #[.slice a4 n4 c4],.bool true]) (by simp[results,Tryz.results171,go_sem,hc3,hc4]) rfl HE.out
     · have h2:2<=n2:=by omega
       have htp:0<f2 (n2-1):=by have:=HT2.out;omega
       have HTP:=Lib.hid htp;have h3:((n2:Int)==1)=false:=by simp;omega
       clear h1 htp;go_enter Tryz.func171,Tryz.ntmps171;go_wp2_with fail;go_at_call 114;refine(HZ.out _ HB.out).mono ?_;rintro e w1 ⟨rfl,hb1⟩;have T1:=Lib.hid (S1.out.below hb1);have T2:=Lib.hid (S2.out.below hb1);have T3:=Lib.hid (S3.out.below hb1);have T4:=Lib.hid (S4.out.below hb1);have HB1:=Lib.hid (HB.out.trans (hb1.mono HB.out.size));have hc1:=T1.out.cell;have hc2:=T2.out.cell;clear hb1;go_wp2_with fail;go_at_call 175;refine(HC.out _ HB1.out).mono ?_;rintro e w2 ⟨rfl,hb2⟩;have U1:=Lib.hid (T1.out.below hb2);have U2:=Lib.hid (T2.out.below hb2);have U3:=Lib.hid (T3.out.below hb2);have U4:=Lib.hid (T4.out.below hb2);have HB2:=Lib.hid (HB1.out.trans (hb2.mono HB1.out.size));clear hb2 hc1 hc2;have hc1:=U1.out.cell;have hc2:=U2.out.cell;go_wp2_with fail;go_at_call 217;refine(divideLong_any a n c f a2 n2 c2 f2 w2 (HS.out.below HB2.out) (HS2.out.below HB2.out) h2 hlen HTP.out (by omega)).mono ?_;rintro e w3 ⟨qb,rb,rfl,hq,hr,hb3⟩;rw[HV.out,HV2.out]at hq hr;obtain⟨q,hq1,hq2⟩:=hq.slAt (by omega);obtain⟨r,hr1,hr2⟩:=hr.row;have hr3:SlAt w3 .u32 4294967296 (some ⟨rb,0,none⟩) n2 (n+1) r:=⟨by omega,by omega,hr2.1,.inr ⟨rb,0,rfl,hr.lt,hr1⟩⟩
       have hqn:w.heap.size+4<=qb:=by have:=hq.ge;have:=U4.out.lt;omega
       have hrn:w.heap.size+4<=rb:=by have:=hr.ge;have:=U4.out.lt;omega
       have HQ:=Lib.hid hq1;have HQV:=Lib.hid hq2;have HR1:=Lib.hid hr3;have HRV:=Lib.hid hr2.2;have X3:=Lib.hid (U3.out.below hb3);have X4:=Lib.hid (U4.out.below hb3);have HB3:=Lib.hid (HB2.out.trans (hb3.mono HB2.out.size));clear hb3 hq hr hq1 hq2 hr1 hr2 hr3 hc1 hc2;go_wp2_with fail;go_at_call 143;refine(trimmed_pl _ _ _ q w3 HQ.out).mono ?_;rintro e w5 ⟨a3,n3,c3,f3,rfl,hs3,hv3,ht3,hp3,hb5⟩;have V3:=Lib.hid (X3.out.below hb5);have V4:=Lib.hid (X4.out.below hb5);have HB5:=Lib.hid (HB3.out.trans (hb5.mono HB3.out.size));have HR2:=Lib.hid (HR1.out.below hb5);have HS3:=Lib.hid hs3;have HV3:=Lib.hid hv3;have HT3:=Lib.hid ht3;have HP3:=Lib.hid hp3;clear hs3 hv3 ht3 hp3 hb5;go_wp2_with fail;go_at_call 143;refine(trimmed_pl _ n2 (n+1) r w5 HR2.out).mono ?_;rintro e w6 ⟨a4,n4,c4,f4,rfl,hs4,hv4,ht4,HP4,hb6⟩;have hs3:=HS3.out;have hv3:=HV3.out;have ht3:=HT3.out;have hp3:=HP3.out;have t3:=V3.out.below hb6;have t4:=V4.out.below hb6;have hc3:=t3.cell;have hf3:=t3.free;have hc4:=t4.cell;have hf4:=t4.free;have hs3':=hs3.below hb6
       have HE:=Lib.hid (divOut_store (N:=N) (M:=M) (k1:=w.heap.size+1+1) (k2:=w.heap.size+1+1+1) (u1:=.slice a3 n3 c3) (u2:=.slice a4 n4 c4) HM0.out (HB5.out.trans (hb6.mono HB5.out.size)) (by omega) (by omega)
        hs3' (hv3.trans HQV.out) ht3 (by rintro x rfl;rcases hp3 with h|h<;>cases h;simp;omega)
        hs4 (hv4.trans HRV.out) ht4 (by rintro x rfl;rcases HP4 with h|h<;>cases h;simp;omega))
       clear hs3 hs3' hv3 ht3 hs4 hv4 ht4 hb6 hp3 HP4 t3 t4;go_wp2;exact bodyPost_ret (v:=.tuple #[.agg #[.slice a3 n3 c3],.agg #[.slice a4 n4 c4],.bool true]) (by simp[results,Tryz.results171,go_sem,hc3,hc4]) rfl HE.out
def cl(ki:IntKind)(f:Nat->Nat)(n:Nat):List Value:=(List.range n).map fun j=>.int ki (f j)
theorem cl_length(ki:IntKind)(f:Nat->Nat)(n:Nat):(cl ki f n).length=n:=by simp[cl]
theorem cl_get{ki:IntKind}{f:Nat->Nat}{n j:Nat}(h:j<n):(cl ki f n)[j]? = some (.int ki (f j)):=by simp[cl,h]
theorem cl_set{ki:IntKind}{f:Nat->Nat}{n k x:Nat}:(cl ki f n).set k (.int ki x)=cl ki (fun j=>if j=k then x else f j) n:=by
 apply List.ext_getElem?
 intro j
 by_cases hj:j<n
 · rw[cl_get (f:=fun j=>if j=k then x else f j) hj,List.getElem?_set]
   by_cases e:k=j
   · subst e;rw[if_pos rfl,if_pos (by rw[cl_length];exact hj)]
     simp
   · rw[if_neg e,cl_get hj]
     simp[Ne.symm e]
 · rw[List.getElem?_eq_none (by simp[cl_length];omega),List.getElem?_eq_none (by simp[cl_length];omega)]
theorem cl_snoc{ki:IntKind}{f:Nat->Nat}{n x:Nat}:cl ki f n ++ [.int ki x]=cl ki (fun j=>if j=n then x else f j) (n+1):=by
 unfold cl;rw[List.range_succ,List.map_append]
 congr 1
 · apply List.map_congr_left
   intro j hj;have:=List.mem_range.1 hj
   simp[Nat.ne_of_lt this]
 · simp
theorem cl_congr{ki:IntKind}{f g:Nat->Nat}{n:Nat}(h:∀j,j<n->f j=g j):cl ki f n=cl ki g n:=by
 unfold cl
 apply List.map_congr_left
 intro j hj;rw[h j (List.mem_range.1 hj)]
def OwnL(w:World)(base:Nat)(e:TypeId)(ki:IntKind)(v:Value)(n:Nat)(f:Nat->Nat):Prop:=w.ownsRow base e 1 v n (cl ki f n)
theorem OwnL.cases {w : World} {base : Nat} {e : TypeId} {ki : IntKind} {v : Value} {n : Nat} {f : Nat -> Nat} (h : OwnL w base e ki v n f) :
    (v=.slice none 0 0/\n=0)∨∃g c,v=.slice (some ⟨g,0,none⟩) n c/\n<=c/\base<=g/\g<w.heap.size/\Cells w ki g 0 n f/\Free w g:=by
 rcases h.2 with h0|⟨g,cap,cur,hv,hb,hg,hnc,hcm,hcs,ht⟩
 · exact .inl h0
 · refine .inr ⟨g,cap,hv,hnc,hb,?_,?_,Free.of_block hg⟩
   · rcases Nat.lt_or_ge g w.heap.size with h1|h1
     · exact h1
     · rw[Array.getElem?_eq_none h1]at hg;cases hg
   · intro j hj;have h1:(cur.toList.take (n*1))[j]? = some (.int ki (f j)):=by rw[ht];exact cl_get hj
     rw[Nat.mul_one,List.getElem?_take,if_pos hj]at h1;simp only[World.cell?,hg,Nat.zero_add]
     simpa using h1
theorem OwnL.slAt{w:World}{base:Nat}{e:TypeId}{ki:IntKind}{v:Value}{n m:Nat}{f:Nat->Nat}(h:OwnL w base e ki v n f)(hf:∀j,j<n->f j<m)(hn:n<=1000000):∃a c,v=.slice a n c/\SlAt w ki m a n c f/\(∀x,a=some x->base<=x.block):=by
 rcases h.cases with ⟨rfl,rfl⟩|⟨g,c,rfl,h1,h2,h3,h4,_⟩
 · exact⟨none,0,rfl,SlAt.nil _ _ _ _,fun x hx=>by cases hx⟩
 · exact⟨_,c,rfl,⟨h1,hn,hf,.inr ⟨g,0,rfl,h3,h4⟩⟩,fun x hx=>by cases hx;exact h2⟩
theorem OwnL.store{w:World}{base:Nat}{e:TypeId}{ki:IntKind}{g n c:Nat}{f:Nat->Nat}(h:OwnL w base e ki (.slice (some ⟨g,0,none⟩) n c) n f)(k x:Nat):OwnL (w.setCell ⟨g,k,none⟩ (.int ki x)) base e ki (.slice (some ⟨g,0,none⟩) n c) n (fun j=>if j=k then x else f j):=by
 have:=(World.ownsRow.stored h k (.int ki x)).1;rw[cl_set]at this;exact this
def TimesR(s:Nat->Nat)(m p k c:Nat)(d:Nat->Nat):Prop:=val d k+c*4294967296^k=m*val s k+p
theorem timesR_step {s : Nat -> Nat} {m p k c c' lo : Nat} (hp : c + s k * m = c' * 4294967296 + lo) :
    ∀d d',TimesR s m p k c d->(∀j,j≠k->d' j=d j)->d' k=lo->TimesR s m p (k+1) c' d':=by
 intro d d' h h2 h3;unfold TimesR at *;rw[val,val,pow_succ32,val_congr k (f:=d') (g:=d) (fun j hj=>h2 j (by omega)),h3];generalize 4294967296^k=P at *;generalize val d k=vd at *;generalize val s k=vs at *;generalize s k=x at *;have a2:(c+x*m)*P=(c'*4294967296+lo)*P:=by rw[hp]
 have b1:m*(vs+x*P)=m*vs+x*m*P:=by rw[Nat.mul_add,← Nat.mul_assoc,Nat.mul_comm m x]
 rw[Nat.add_mul,Nat.add_mul,Nat.mul_assoc c']at a2;rw[b1]
 omega
def TimesI(w wr:World)(base:Nat)(v:Value)(n:Nat)(s:Nat->Nat)(m p k c:Nat):Prop :=
 Below base w wr/\∃d,OwnL wr base 177 .u32 v n d/\(∀j,j<n->d j<4294967296)/\(∀j,k<=j->j<n->d j=s j)/\TimesR s m p k c d
theorem timesPlus_any (base : Nat) (v : Value) (n : Nat) (s : Nat -> Nat) (m p : Nat) (w : World) (h : OwnL w base 177 .u32 v n s) (hs : ∀ j, j < n -> s j < 4294967296) (hn : n + 1 <= 1000000) (hm : m < 4294967296) (hp : p < 4294967296) (hb : base <= w.heap.size) :
    Calls Tryz.prog 214 #[v,.int .u32 m,.int .u32 p] w fun e w'=>∃v' n' d,e=.returned v'/\OwnL w' base 177 .u32 v' n' d/\(∀j,j<n'->d j<4294967296)/\val d n'=m*val s n+p/\n'<=n+1/\Below base w w':=by
 obtain⟨i0,hi,hz0,hz1,hz2⟩:=info_parts infoU;have H0:TimesI w w base v n s m p 0 p:=⟨Below.refl _ _,s,h,hs,fun _ _ _=>rfl,by simp[TimesR,val]⟩
 obtain⟨a,c0,rfl,_,_⟩:=h.slAt hs (by omega);have hpp:(p:Int)%18446744073709551616=(p:Int):=by omega
 clear hs h hpp;have HI:=Lib.hid hi;clear hi;go_enter Tryz.func214,Tryz.ntmps214;go_wp2
 go_loopw [7,13] (fun cy i wr=>∃k c:Nat,k<=n/\i=.int .i64 k/\c<4294967296/\cy=.int .u64 c/\TimesI w wr base (.slice a n c0) n s m p k c)
  (fun _ i _=>n-(intOf i).toNat)
 case atStart=>exact⟨0,p,by omega,rfl,hp,rfl,H0⟩
 case round =>
  obtain⟨k,c,hk,rfl,hc,rfl,hr⟩:=hrel
  by_cases hlt:k<n
  · obtain ⟨hbl, d, hd, hdb, hds, hR⟩ := hr; have hcs := hd.cases
    rcases hcs with ⟨_,h1⟩|⟨g,c1,h1,hnc,hgb,hgl,hgc,hgf⟩
    · omega
    · cases h1
      have hck:=hgc k hlt;rw[Nat.zero_add]at hck;have hfk:=hgf k;have hdk:=hds k (Nat.le_refl _) hlt;have hdl:=hdb k hlt;rw[hdk]at hck hdl;obtain⟨pr,hpr⟩:∃pr,c+s k*m=pr:=⟨_,rfl⟩
      have hprm:=mul_bound' hdl hm;obtain⟨lo,hlo⟩:∃lo,pr%4294967296=lo:=⟨_,rfl⟩
      obtain⟨c',hc'⟩:∃c',pr / 4294967296=c':=⟨_,rfl⟩
      have hst:=timesR_step (s:=s) (m:=m) (p:=p) (k:=k) (c:=c) (c':=c') (lo:=lo) (by rw[hpr];omega)
      have hrn:TimesI w (wr.setCell ⟨g,k,none⟩ (.int .u32 lo)) base (.slice (some ⟨g,0,none⟩) n c0) n s m p (k+1) c':=by
       refine⟨hbl.setCell hgb _,_,hd.store k lo,fun j hj => ?_,fun j h1 h2 => ?_,hst d _ hR (fun j hj=>if_neg hj) (if_pos rfl)⟩
       · show(if j=k then lo else d j)<_
         split
         · omega
         · exact hdb j hj
       · show(if j=k then lo else d j)=_
         rw[if_neg (by omega)];exact hds j (by omega) h2
      have hpl:pr<18446744073709551616:=by omega
      have hcl:c'<4294967296:=by omega
      have HRN:=Lib.hid hrn;generalize s k=x at *;have e1:(c:Int)+((x:Int)*(m:Int))=(pr:Int):=by rw[← hpr,Int.natCast_add,Int.natCast_mul]
      have e2:(pr:Int)%4294967296=(lo:Int):=by omega
      have e3:(pr:Int) / 4294967296=(c':Int):=by omega
      have i1:(x:Int)*(m:Int)<=18446744065119617025:=by rw[← Int.natCast_mul];omega
      have i0:0<=(x:Int)*(m:Int):=by rw[← Int.natCast_mul];omega
      have hk0:(0:Int)<=(k:Int):=by omega
      have hkn:(k:Int)<(n:Int):=by omega
      have hkt:((k:Int)).toNat=k:=by omega
      clear hrn hst hbl hd hdb hds hR hpr hlo hc' hprm hgc hgf hdk H0;go_wp2
      go_roundw
      case rel=>exact⟨k+1,c',by omega,by go_num,hcl,rfl,HRN.out⟩
      case measure=>simp[intOf];omega
  · obtain rfl : k = n := by omega
    obtain⟨hbl,d,hd,hdb,_,hR⟩:=hr;unfold TimesR at hR
    by_cases hc0:c=0
    · subst hc0;have hE:Hid (val d k=m*val s k+p):=by show _=_;omega
      have HBL:=Lib.hid hbl;have HD:=Lib.hid hd;have HDB:=Lib.hid hdb;clear hbl hd hdb hR H0;go_wp2;go_ret;exact⟨_,k,d,rfl,HD.out,HDB.out,hE.out,by omega,HBL.out⟩
    · have hE:Hid (val (fun j=>if j=k then c else d j) (k+1)=m*val s k+p):=by
        show val _ _=_
        rw[val,if_pos rfl,val_congr k (g:=d) (fun j hj=>if_neg (by omega))];exact hR
      have hcc:0<c:=by omega
      have e2:(c:Int)%4294967296=(c:Int):=by omega
      have HBL:=Lib.hid hbl;have HDB:=Lib.hid hdb;have HD:=Lib.hid hd;have hsz:base<=wr.heap.size:=Nat.le_trans hb hbl.size;clear hbl hdb hR H0 hd
      go_wp2_with (at_builtin;refine wpList_append_own _ rfl _ _ 47 rfl base 177 i0 (.int .u32 0) 1 4 Tryz.underlying47 HI.out hz0 hz1 hz2 rfl (by decide) _ _ _ rfl (World.ownsRow.alloc HD.out _) ⟨wr.heap.size,0,none⟩ 1 1 [.int .u32 c] rfl rfl ?c1 ?c2 ?c3 ?c4 ?c5 ?_)
      case c1 =>
       intro j u hj
       match j,hj with
       | 0,hj=>simp at hj;subst hj;simp[Addr.add]
      case c2=>intro u hu;simp at hu;subst hu;rfl
      case c3=>unfold maxLen;omega
      case c4=>omega
      case c5=>rw[World.size_alloc];omega
      · intro v' w1 hown' hgrow _;have hb1:Below base w w1:=(HBL.out.alloc hsz _).grown hgrow (by rw[World.size_alloc];omega) (fun q hq=>(World.ownsRow.lt HD.out q hq).1);rw[cl_snoc]at hown';have HO:=Lib.hid hown';have HB1:=Lib.hid hb1;clear hown' hgrow hb1;go_wp2;go_ret;refine⟨v',k+1,_,rfl,HO.out,fun j hj => ?_,hE.out,by omega,HB1.out⟩
        show(if j=k then c else d j)<_
        split
        · exact hc
        · exact HDB.out j (by omega)
def isDig(c:UInt8):Bool:=decide (48<=c.toNat)&&decide (c.toNat<=57)
def okB(l:List UInt8):Bool:=decide (0<l.length)&&(decide (l.length<=2000)&&l.all isDig)
theorem isDig_iff{c:UInt8}:isDig c=true↔48<=c.toNat/\c.toNat<=57:=by simp[isDig]
theorem okB_digs{l:List UInt8}(h:okB l=true):0<l.length/\l.length<=2000/\∀c ∈ l,48<=c.toNat/\c.toNat<=57:=by
 simp only[okB,Bool.and_eq_true,decide_eq_true_eq,List.all_eq_true]at h;exact⟨h.1,h.2.1,fun c hc=>isDig_iff.1 (h.2.2 c hc)⟩
theorem okB_mk{l:List UInt8}(h1:0<l.length)(h2:l.length<=2000)(h3:∀c ∈ l,48<=c.toNat/\c.toNat<=57):okB l=true:=by
 simp only[okB,Bool.and_eq_true,decide_eq_true_eq,List.all_eq_true];exact⟨h1,h2,fun c hc=>isDig_iff.2 (h3 c hc)⟩
theorem numOf_snoc(c:UInt8):∀l:List UInt8,numOf (l ++ [c])=10*numOf l+(c.toNat-48)
 | []=>by simp[numOf]
 | x::l=>by
  rw[List.cons_append,numOf,numOf_snoc c l,numOf,List.length_append,List.length_singleton,Nat.pow_succ,Nat.mul_add];have:(x.toNat-48)*(10^l.length*10)=10*((x.toNat-48)*10^l.length):=by rw[← Nat.mul_assoc,Nat.mul_comm]
  omega
theorem take_snoc(s:ByteArray)(k:Nat)(h:k<s.size):s.data.toList.take (k+1)=s.data.toList.take k ++ [s[k]]:=by
 rw[List.take_succ_eq_append_getElem (by simpa using h)];rfl
def ParseOut(w w':World)(e:Ending)(l:List UInt8):Prop:=∃a n c,e=.returned (.tuple #[.agg #[.slice a n c],.bool (okB l)])/\NatIs w' (.agg #[.slice a n c]) (if okB l then numOf l else 0)/\(∀x,a=some x->w.heap.size<=x.block)/\Below w.heap.size w w'
theorem parse_no{w w':World}{l:List UInt8}(h:okB l=false)(hb:Below w.heap.size w w'):ParseOut w w' (.returned (.tuple #[.agg #[.slice none 0 0],.bool false])) l :=
 ⟨_,_,_,by rw[h],by rw[h];exact NatIs.zero _,(fun x hx=>by cases hx),hb⟩
def ParI(w wr:World)(s:ByteArray)(v:Value)(k:Nat):Prop:=Below w.heap.size w wr/\Slot wr w.heap.size (.slice none 0 0)/\(∀c ∈ s.data.toList.take k,48<=c.toNat/\c.toNat<=57) /\
 ∃n d,OwnL wr (w.heap.size+1) 177 .u32 v n d/\(∀j,j<n->d j<4294967296)/\n<=k/\val d n=numOf (s.data.toList.take k)
theorem parse_any(s:ByteArray)(w:World)(hs:s.size<=maxLen):Calls Tryz.prog 165 #[.string s] w fun e w'=>ParseOut w w' e s.data.toList:=by
 have hsl:s.data.toList.length=s.size:=rfl;unfold maxLen at hs;have s0:=Slot.new w (.slice none 0 0) 49;have hB:Below w.heap.size w (w.alloc (.cells #[.slice none 0 0] 49)):=(Below.refl _ _).alloc (Nat.le_refl _) _
 by_cases h0:s.size=0
 · have hn:okB s.data.toList=false:=by simp[okB,hsl,h0]
   have HE:=Lib.hid (parse_no hn hB);have h1:((s.size:Int)==0)=true:=by simp[h0]
   have h2:s.data.toList = []:=List.eq_nil_of_length_eq_zero (by omega);clear s0 hB hn;go_enter Tryz.func165,Tryz.ntmps165;go_wp2;exact bodyPost_ret (v:=.tuple #[.agg #[.slice none 0 0],.bool false]) (by simp[results,Tryz.results165,go_sem]) rfl HE.out
 by_cases h1:2000<s.size
 · have hn:okB s.data.toList=false:=by simp only[okB,hsl];simp;omega
   have HE:=Lib.hid (parse_no hn hB);have h2:((s.size:Int)==0)=false:=by rw[beq_eq_false_iff_ne];omega
   have h3:decide ((2000:Int)<(s.size:Int))=true:=decide_eq_true (by omega);clear s0 hB hn;go_enter Tryz.func165,Tryz.ntmps165;go_wp2;exact bodyPost_ret (v:=.tuple #[.agg #[.slice none 0 0],.bool false]) (by simp[results,Tryz.results165,go_sem]) rfl HE.out
 have H0:ParI w (w.alloc (.cells #[.slice none 0 0] 49)) s (.slice none 0 0) 0:=⟨hB,s0,by simp,0,fun _=>0,World.ownsRow_nil _ _ _ _,fun _ _=>by omega,by omega,rfl⟩
 have h2:((s.size:Int)==0)=false:=by rw[beq_eq_false_iff_ne];omega
 have h3:decide ((2000:Int)<(s.size:Int))=false:=decide_eq_false (by omega);have h4:s.size<=2000:=by omega
 have h5:0<s.size:=by omega
 clear s0 hB h0 h1 hs;have HSL:=Lib.hid hsl;clear hsl;go_enter Tryz.func165,Tryz.ntmps165;go_wp2
 go_loopw [4,17] (fun u i wr=>∃(k:Nat) (v:Value),k<=s.size/\i=.int .i64 k/\v=u/\ParI w wr s v k)
  (fun _ i _=>s.size-(intOf i).toNat)
 case atStart=>exact⟨0,_,by omega,rfl,rfl,H0⟩
 case round =>
  obtain⟨k,v,hk,rfl,rfl,hr⟩:=hrel;obtain⟨hbl,hsl,hdg,n,d,hd,hdb,hnk,hval⟩:=hr
  by_cases hlt:k<s.size
  · have hsn := take_snoc s k hlt; obtain ⟨c, hc⟩ : ∃ c, s[k] = c := ⟨_, rfl⟩
    rw[hc]at hsn
    by_cases hdc:48<=c.toNat/\c.toNat<=57
    · obtain ⟨p, hp⟩ : ∃ p, c.toNat - 48 = p := ⟨_, rfl⟩
      have e1:(c.toNat:Int)-48=(p:Int):=by omega
      have e2:(p:Int)%256=(p:Int):=by omega
      have t1:decide ((c.toNat:Int)<48)=false:=decide_eq_false (by omega);have t2:decide ((57:Int)<(c.toNat:Int))=false:=decide_eq_false (by omega);have hcl:(48:Int)<=(c.toNat:Int):=by omega
      have hsz:w.heap.size+1<=wr.heap.size:=hsl.lt;have HT:=Lib.hid (timesPlus_any (w.heap.size+1) v n d 10 p wr hd hdb (by omega) (by omega) (by omega) hsz)
      have hnx:∀w1 v1 n1 d1,OwnL w1 (w.heap.size+1) 177 .u32 v1 n1 d1->(∀j,j<n1->d1 j<4294967296)->val d1 n1=10*val d n+p->n1<=n+1->Below (w.heap.size+1) wr w1->ParI w w1 s v1 (k+1):=by
       intro w1 v1 n1 d1 g1 g2 g3 g4 g5
       refine⟨hbl.trans (g5.mono (by omega)),⟨(g5.cell (p:=⟨w.heap.size,0,none⟩) (Nat.lt_succ_self _)).trans hsl.cell,(g5.frozen (p:=⟨w.heap.size,0,none⟩) (Nat.lt_succ_self _)).trans hsl.free,Nat.lt_of_lt_of_le hsl.lt g5.size⟩,?_,n1,d1,g1,g2,by omega,?_⟩
       · rw[hsn];intro x hx
         rcases List.mem_append.1 hx with h|h
         · exact hdg x h
         · rw[List.mem_singleton.1 h];exact hdc
       · rw[hsn,numOf_snoc,g3,hval,hp]
      have HNX:=Lib.hid hnx;clear hnx hsn hdg hd hdb hval hbl hsl hdc hp hsz
      go_wp2_with (go_at_call 214;refine HT.out.mono ?_;rintro e w1 ⟨v1,n1,d1,rfl,g1,g2,g3,g4,g5⟩)
      have HN:=Lib.hid (HNX.out w1 v1 n1 d1 g1 g2 g3 g4 g5);clear g1 g2 g3 g5
      go_roundw
      case rel=>exact⟨k+1,v1,by omega,by go_num,rfl,HN.out⟩
      case measure=>simp[intOf];omega
    · have hn:okB s.data.toList=false:=by
        cases hk:okB s.data.toList
        · rfl
        · exfalso
          have:=(okB_digs hk).2.2 c (List.mem_of_mem_take (by rw[hsn];exact List.mem_append_right _ List.mem_cons_self));exact hdc this
      have hc3:=hsl.cell;have hf3:=hsl.free;have HE:=Lib.hid (parse_no (w:=w) (w':=wr.setCell ⟨w.heap.size,0,none⟩ (.slice none 0 0)) hn (hbl.setCell (Nat.le_refl _) _))
      by_cases h48:c.toNat<48
      · have t1:decide ((c.toNat:Int)<48)=true:=decide_eq_true (by omega);clear hsn hdg hd hdb hval hbl hsl hdc hn;go_wp2;exact bodyPost_ret (v:=.tuple #[.agg #[.slice none 0 0],.bool false]) (by simp[results,Tryz.results165,go_sem,hc3]) rfl HE.out
      · have t1:decide ((c.toNat:Int)<48)=false:=decide_eq_false (by omega);have t2:decide ((57:Int)<(c.toNat:Int))=true:=decide_eq_true (by omega);clear hsn hdg hd hdb hval hbl hsl hdc hn;go_wp2;exact bodyPost_ret (v:=.tuple #[.agg #[.slice none 0 0],.bool false]) (by simp[results,Tryz.results165,go_sem,hc3]) rfl HE.out
  · obtain rfl:k=s.size:=by omega
    rw[List.take_of_length_le (by rw[HSL.out];omega)]at hdg hval;have hok:okB s.data.toList=true:=okB_mk (by rw[HSL.out];omega) (by rw[HSL.out];omega) hdg;obtain⟨a,c,rfl,hsa,hpl⟩:=hd.slAt hdb (by omega);have HT:=Lib.hid (trimmed_pl a n c d wr hsa);have S3:=Lib.hid hsl;have HB:=Lib.hid hbl;have HOK:=Lib.hid hok;have HV:=Lib.hid hval;clear hbl hsl hdg hd hdb hval hok hsa;go_wp2_with fail;go_at_call 143;refine HT.out.mono ?_;rintro e w4 ⟨a3,n3,c3,f3,rfl,hs3,hv3,ht3,hp3,hb4⟩;have X3:=S3.out.below hb4
    obtain⟨v',hv',hn',hbe⟩:=natOut_store (u:=.slice a3 n3 c3) (k:=w.heap.size) (HB.out.trans (hb4.mono HB.out.size)) (Nat.le_refl _) hs3 (hv3.trans HV.out) ht3 (by
     rintro x rfl
     rcases hp3 with h|h
     · cases h
     · have:=hpl x h.symm;omega)
    have hc4:=X3.cell;have hf4:=X3.free
    have HEND:ParseOut w (w4.setCell ⟨w.heap.size,0,none⟩ (.slice a3 n3 c3)) (.returned (.tuple #[.agg #[.slice a3 n3 c3],.bool true])) s.data.toList:=by
     cases hv'
     exact⟨a3,n3,c3,by rw[HOK.out],by rw[HOK.out,if_pos rfl];exact hn',(fun x hx=>by
      rcases hp3 with h|h
      · rw[h]at hx;cases hx
      · rw[h]at hx;have:=hpl x hx;omega),hbe⟩
    have HE:=Lib.hid HEND;clear hs3 hv3 ht3 hb4 hp3 X3 hv' hn' hbe HEND;go_wp2;exact bodyPost_ret (v:=.tuple #[.agg #[.slice a3 n3 c3],.bool true]) (by simp[results,Tryz.results165,go_sem,hc4]) rfl HE.out
def RevI(w wr:World)(g n:Nat)(f:Nat->Nat)(i:Nat):Prop:=Wrote g 0 n w wr/\Free wr g/\∃d,Cells wr .u8 g 0 n d/\(∀j,j<i->d j=f (n-1-j))/\(∀j,i<=j->j+i<n->d j=f j)/\(∀j,n<=j+i->j<n->d j=f (n-1-j))
theorem RevI.next {w wr wr' : World} {g n : Nat} {f : Nat -> Nat} {i j : Nat} (h : RevI w wr g n f i) (hij : i < j) (hj : j + i + 1 = n) (hw : Wrote g 0 n wr wr') (hf : Free wr' g)
    (hc:∀d,Cells wr .u8 g 0 n d->Cells wr' .u8 g 0 n (fun k=>if k=i then f j else if k=j then f i else d k)):RevI w wr' g n f (i+1):=by
 obtain⟨h1,h2,d,h3,h4,h5,h6⟩:=h
 refine⟨h1.trans hw,hf,_,hc d h3,fun k hk => ?_,fun k h7 h8 => ?_,fun k h7 h8 => ?_⟩
 · by_cases e:k=i
   · subst e;rw[if_pos rfl];congr 1;omega
   · rw[if_neg e,if_neg (by omega)];exact h4 k (by omega)
 · rw[if_neg (by omega),if_neg (by omega)];exact h5 k (by omega) (by omega)
 · by_cases e:k=j
   · subst e;rw[if_neg (by omega),if_pos rfl];congr 1;omega
   · rw[if_neg (by omega),if_neg e];exact h6 k (by omega) h8
theorem cells_swap {wr : World} {g n i j x y : Nat} {d : Nat -> Nat} (h : Cells wr .u8 g 0 n d) (hi : i < n) (hj : j < n) (hij : i ≠ j) :
    Cells ((wr.setCell ⟨g,i,none⟩ (.int .u8 x)).setCell ⟨g,j,none⟩ (.int .u8 y)) .u8 g 0 n (fun k=>if k=i then x else if k=j then y else d k) /\
    Cells ((wr.setCell ⟨g,j,none⟩ (.int .u8 y)).setCell ⟨g,i,none⟩ (.int .u8 x)) .u8 g 0 n (fun k=>if k=i then x else if k=j then y else d k):=by
 have a1:=(h.set (k:=i) (x:=x) hi).set (k:=j) (x:=y) hj;have a2:=(h.set (k:=j) (x:=y) hj).set (k:=i) (x:=x) hi;rw[Nat.zero_add,Nat.zero_add]at a1 a2
 refine⟨?_,?_⟩
 · intro k hk;rw[a1 k hk]
   by_cases e:k=i
   · subst e;simp[hij]
   · simp[e]
 · intro k hk;rw[a2 k hk]
theorem reverse_any (g n c : Nat) (f : Nat -> Nat) (w : World) (hc : Cells w .u8 g 0 n f) (hf : Free w g) (hn : n <= 10000000) :
    Calls Tryz.prog 144 #[.slice (some ⟨g,0,none⟩) n c] w fun e w'=>e=.returned (.tuple #[])/\Hid (Wrote g 0 n w w'/\Free w' g/\Cells w' .u8 g 0 n (fun j=>f (n-1-j))):=by
 have H0:RevI w w g n f 0:=⟨Wrote.refl _ _ _ _,hf,f,hc,fun _ h=>by omega,fun _ _ _=>rfl,fun _ h1 h2=>by omega⟩
 clear hc hf;go_enter Tryz.func144,Tryz.ntmps144;go_wp2
 go_loopw [2,3] (fun a b wr=>∃(i:Nat) (j:Int),a=.int .i64 i/\b=.int .i64 j/\j=(n:Int)-1-(i:Int)/\(i:Int)<=j+2/\RevI w wr g n f i)
  (fun a b _=>(intOf b+2-intOf a).toNat)
 case atStart=>exact⟨0,_,rfl,rfl,by omega,by omega,H0⟩
 case round =>
  obtain⟨i,jj,rfl,rfl,hj,hij,hr⟩:=hrel
  by_cases hlt:(i:Int)<jj
  · obtain⟨j,rfl⟩:∃j:Nat,jj=(j:Int):=⟨jj.toNat,by omega⟩
    have hlt':i<j:=by omega
    have hjn:j+i+1=n:=by omega
    obtain⟨h1,h2,d,h3,h4,h5,h6⟩:=hr;have hci:=h3 i (by omega);have hcj:=h3 j (by omega);rw[Nat.zero_add]at hci hcj;rw[h5 i (Nat.le_refl _) (by omega)]at hci;rw[h5 j (by omega) (by omega)]at hcj;have hfi:=h2 i;have hfj:=h2 j;have hr:RevI w wr g n f i:=⟨h1,h2,d,h3,h4,h5,h6⟩
    have sw:=fun d hd=>cells_swap (wr:=wr) (g:=g) (n:=n) (i:=i) (j:=j) (x:=f j) (y:=f i) (d:=d) hd (by omega) (by omega) (by omega)
    have hw1:Wrote g 0 n wr ((wr.setCell ⟨g,i,none⟩ (.int .u8 (f j))).setCell ⟨g,j,none⟩ (.int .u8 (f i))):=((Wrote.refl g 0 n wr).setCell (Nat.zero_le _) (by omega) _).setCell (Nat.zero_le _) (by omega) _;have hw2:Wrote g 0 n wr ((wr.setCell ⟨g,j,none⟩ (.int .u8 (f i))).setCell ⟨g,i,none⟩ (.int .u8 (f j))):=((Wrote.refl g 0 n wr).setCell (Nat.zero_le _) (by omega) _).setCell (Nat.zero_le _) (by omega) _;have N1:=Lib.hid (RevI.next hr hlt' hjn hw1.drew ((h2.set _ _).set _ _) (fun d hd=>(sw d hd).1));have N2:=Lib.hid (RevI.next hr hlt' hjn hw2.drew ((h2.set _ _).set _ _) (fun d hd=>(sw d hd).2));have n1:(⟨g,i,none⟩:Addr)≠⟨g,j,none⟩:=by intro e;simp only[Addr.mk.injEq]at e;omega
    have n2:(⟨g,j,none⟩:Addr)≠⟨g,i,none⟩:=by intro e;simp only[Addr.mk.injEq]at e;omega
    have g1:(wr.setCell ⟨g,i,none⟩ (.int .u8 (f j))).cell? ⟨g,j,none⟩=some (.int .u8 (f j)):=by rw[World.cell?_setCell_other _ _ _ _ n1];exact hcj
    have g2:(wr.setCell ⟨g,j,none⟩ (.int .u8 (f i))).cell? ⟨g,i,none⟩=some (.int .u8 (f i)):=by rw[World.cell?_setCell_other _ _ _ _ n2];exact hci
    clear sw hw1 hw2 hr h1 h2 h3 h4 h5 h6 n1 n2;generalize f i=x at *;generalize f j=y at *;have i0:(0:Int)<=(i:Int):=by omega
    have i1:(i:Int)<(n:Int):=by omega
    have j1:(j:Int)<(n:Int):=by omega
    have j0:(0:Int)<=(j:Int):=by omega
    have HJN:=Lib.hid hjn;clear hj hij hjn;go_wp2
    go_region
    all_goals
     go_wp2
     go_roundw
     case rel =>
      have hjn:=HJN.out;exact⟨i+1,(j:Int)-1,by go_num,rfl,by omega,by omega,by first|exact N1.out|exact N2.out⟩
     case measure=>simp[intOf];omega
  · have hE:Hid (Wrote g 0 n w wr/\Free wr g/\Cells wr .u8 g 0 n (fun j=>f (n-1-j))):=by
      obtain⟨h1,h2,d,h3,h4,h5,h6⟩:=hr;refine⟨h1,h2,fun k hk => ?_⟩;rw[h3 k hk]
      by_cases e1:k<i
      · rw[h4 k e1]
      · by_cases e2:n<=k+i
        · rw[h6 k e2 hk]
        · rw[h5 k (by omega) (by omega)]
          congr 4;omega
    clear hr;go_wp2
    go_end0
    exact⟨rfl,hE⟩
theorem infoB:(Tryz.prog.info? 5).map (fun i=>(i.zero,i.size,i.bytes))=some (some (.int .u8 0),1,1):=by kernel_rfl
def dg(N j:Nat):Nat:=48+N / 10^j%10
def lenOf:Value->Nat
 | .slice _ n _=>n
 | _=>0
theorem OwnL.len{w:World}{base:Nat}{e:TypeId}{ki:IntKind}{v:Value}{n:Nat}{f:Nat->Nat}(h:OwnL w base e ki v n f):lenOf v=n:=by
 rcases h.cases with ⟨rfl,rfl⟩|⟨g,c,rfl,_⟩<;>rfl
theorem OwnL.below{w w':World}{base:Nat}{e:TypeId}{ki:IntKind}{v:Value}{n:Nat}{f:Nat->Nat}(h:OwnL w base e ki v n f)(hb:Below w.heap.size w w'):OwnL w' base e ki v n f :=
 World.ownsRow.kept h (row:=none) ⟨hb.os,hb.tape,hb.output,hb.size,fun k hk _=>hb.block k hk⟩ (by
  rcases h.cases with ⟨rfl,_⟩|⟨g,c,rfl,_⟩
  · exact .inl rfl
  · exact .inr (by simp[Value.ownBlock]))
theorem OwnL.wrote{w w':World}{base:Nat}{e:TypeId}{ki:IntKind}{v:Value}{n b lo hi:Nat}{f:Nat->Nat}(h:OwnL w base e ki v n f)(hb:Wrote b lo hi w w')(hlt:b<base):OwnL w' base e ki v n f :=
 World.ownsRow.kept h (row:=some b) ⟨hb.os,hb.tape,hb.output,hb.size,fun k hk hne=>hb.block k hk (fun e=>hne (by rw[e]))⟩ (by
  rcases h.cases with ⟨rfl,_⟩|⟨g,c,rfl,_,hg,_⟩
  · exact .inl rfl
  · refine .inr ?_;intro e;simp only[Value.ownBlock,Option.some.injEq]at e
    omega)
theorem dig_group(X i:Nat)(h:i<9):X%1000000000 / 10^i%10=X / 10^i%10:=by
 have e:(1000000000:Nat)=10^i*10^(9-i):=by rw[← Nat.pow_add,show i+(9-i)=9 by omega]
 rw[e,Nat.mod_mul_right_div_self];exact Nat.mod_mod_of_dvd _ ⟨10^(8-i),by rw[← Nat.pow_succ'];congr 1;omega⟩
theorem pow9_bound{K L N:Nat}(h:0<N / 10^(9*K))(hN:N<4294967296^L):9*K<32*L+1:=by
 have h1:10^(9*K)<=N:=by
  rcases Nat.lt_or_ge N (10^(9*K))with h2|h2
  · rw[Nat.div_eq_of_lt h2]at h;omega
  · exact h2
 have h2:(2:Nat)^(9*K)<=10^(9*K):=Nat.pow_le_pow_left (by omega) _;have h3:(4294967296:Nat)^L=2^(32*L):=by rw[Nat.pow_mul]
 have h4:(2:Nat)^(9*K)<2^(32*L):=by omega
 have:=(Nat.pow_lt_pow_iff_right (show 1<2 by omega)).1 h4
 omega
structure TextI(w wr:World)(base b N L:Nat)(D:Value)(ra:Option Addr)(n c K:Nat):Prop where
 below:Below w.heap.size w wr
 size:base<=wr.heap.size
 own:OwnL wr base 5 .u8 D (9*K) (dg N)
 bge:w.heap.size<=b
 blt:b<base
 free:Free wr b
 rest:∃f,SlAt wr .u32 4294967296 ra n c f/\val f n=N / 10^(9*K)/\(n=0∨f (n-1)≠0)
 plc:ra=none∨ra=some ⟨b,0,none⟩
 kb:9*K<=32*L+10
structure GroupI(wo wr:World)(base N K G:Nat)(D:Value)(i:Nat):Prop where
 below:Below base wo wr
 own:OwnL wr base 5 .u8 D (9*K+i) (dg N)
theorem text_core (a : Option Addr) (n0 c0 : Nat) (f : Nat -> Nat) (w : World) (hs : SlAt w .u32 4294967296 a n0 c0 f) (ht : n0 = 0 ∨ f (n0 - 1) ≠ 0) (hpos : 0 < val f n0) (hlen : n0 <= 100000) :
    Calls Tryz.prog 73 #[.agg #[.slice a n0 c0]] w fun e w'=>e=.returned (.string (str (dec (val f n0))))/\Below w.heap.size w w':=by
 obtain⟨i0,hi,hz0,hz1,hz2⟩:=info_parts infoB;have hZ:=zero_any (.agg #[.slice a n0 c0]) (val f n0) (w.alloc (.cells #[.slice a n0 c0] 49)) ⟨a,n0,c0,f,rfl,hs.below ((Below.refl _ _).alloc (Nat.le_refl _) _),rfl,ht⟩;rw[show decide (val f n0=0)=false from decide_eq_false (by omega)]at hZ;have s0:=Slot.new w (.slice a n0 c0) 49;have hNB:=val_lt f n0 hs.2.2.1;obtain⟨N,hN⟩:∃N,val f n0=N:=⟨_,rfl⟩
 rw[hN]at hpos hNB ⊢;have HZ:=Lib.hid hZ;have S0:=Lib.hid s0;have HS:=Lib.hid hs;have HN:=Lib.hid hN;have HT:=Lib.hid ht;have HNB:=Lib.hid hNB;have HI:=Lib.hid hi;clear hZ s0 hs hN ht hNB hi;go_enter Tryz.func73,Tryz.ntmps73;go_wp2_with fail;go_at_call 114;refine HZ.out.mono ?_;rintro e w1 ⟨rfl,hb1⟩;have S1:=Lib.hid (S0.out.below hb1);have HB1:=Lib.hid (below_alloc hb1);have hc1:=S1.out.cell;clear hb1;go_wp2_with fail;go_at_call 141;refine(copied_own a n0 c0 f n0 w1 (HS.out.below HB1.out) (Nat.le_refl _) (by omega)).mono ?_;rintro e w2 ⟨b,rfl,ho,hb2⟩
 have H0:TextI w w2 w2.heap.size b N n0 (.slice none 0 0) (some ⟨b,0,none⟩) n0 n0 0:=by
  obtain⟨q,hq1,hq2,hq3⟩:=ho.row
  refine⟨HB1.out.trans (hb2.mono HB1.out.size),Nat.le_refl _,World.ownsRow_nil _ _ _ _,Nat.le_trans HB1.out.size ho.ge,ho.lt,ho.free,⟨q,⟨Nat.le_refl _,by omega,hq2,.inr ⟨b,0,rfl,ho.lt,hq1⟩⟩,?_,?_⟩,.inr rfl,by omega⟩
  · rw[hq3,HN.out];simp
  · rcases Nat.eq_zero_or_pos n0 with h|h
    · exact .inl h
    · refine .inr (fun h0 => ?_);have h1:=val_top f n0 h (HT.out.resolve_left (by omega));obtain⟨m,rfl⟩:∃m,n0=m+1:=⟨n0-1,by omega⟩
      rw[Nat.add_sub_cancel]at h0 h1;have h2:=val_lt q m (fun j hj=>hq2 j (by omega));rw[val,h0]at hq3
      omega
 obtain⟨base,hbase⟩:∃base,w2.heap.size=base:=⟨_,rfl⟩
 rw[hbase]at H0;have H0':=Lib.hid H0;clear hb2 ho hc1 H0 hbase;go_wp2_with fail
 go_loopw [3,4] (fun D R wr=>∃(ra:Option Addr) (n c K:Nat) (V:Value),R=.slice ra n c/\V=D/\TextI w wr base b N n0 V ra n c K)
  (fun D _ _=>32*n0+20-lenOf D)
 case atStart=>exact⟨_,_,_,0,_,rfl,rfl,H0'.out⟩
 case round =>
  obtain⟨ra,n,c,K,V,rfl,rfl,hr⟩:=hrel;obtain⟨wo,rfl⟩:∃wo:World,wo=wr:=⟨_,rfl⟩
  by_cases hn:0<n
  · obtain ⟨q, hq1, hq2, hq3⟩ := hr.rest; obtain ⟨b', off', hra, _, hqc⟩ := hq1.at hn
    have hra2:ra=some ⟨b,0,none⟩:=by
     rcases hr.plc with h|h
     · rw[h]at hra;cases hra
     · exact h
    rw[hra2]at hra;simp only[Option.some.injEq,Addr.mk.injEq,and_true]at hra;obtain⟨rfl,rfl⟩:=hra;subst hra2;have hnl:n<=1000000:=hq1.2.1
    have hMpos:0<N / 10^(9*K):=by
     rw[← hq2];have:=val_top q n hn (hq3.resolve_left (by omega));have:=pow_pos32 (n-1)
     omega
    have hpb:=pow9_bound hMpos HNB.out;obtain⟨M,hM⟩:∃M,N / 10^(9*K)=M:=⟨_,rfl⟩
    rw[hM]at hq2;have hown:Own w wo b n M:=⟨hr.bge,Nat.lt_of_lt_of_le hr.blt hr.size,hr.free,q,hqc,hq1.2.2.1,hq2⟩
    have HDV:=Lib.hid (divideBy_own w b n c M 1000000000 wo hown hnl (by omega) (by omega));have HR:=Lib.hid hr;have HM:=Lib.hid hM;clear hq1 hq2 hq3 hqc hM hown hr hMpos;go_wp2_with fail;go_at_call 142;refine HDV.out.mono ?_;rintro e w3 ⟨rfl,ho3,hw3⟩;obtain⟨G,hG⟩:∃G,M%1000000000=G:=⟨_,rfl⟩
    have hGl:G<1000000000:=by rw[← hG];exact Nat.mod_lt _ (by omega)
    have HG:=Lib.hid hG;rw[hG];obtain⟨q2,hr1,hr2,hr3⟩:=ho3.row;have HB3:=Lib.hid (hw3.below HR.out.below HR.out.bge HR.out.below.size);have HD3:=Lib.hid (HR.out.own.wrote hw3 HR.out.blt);have hz3:base<=w3.heap.size:=Nat.le_trans HR.out.size hw3.size;have HF3:=Lib.hid ho3.free;have HT3:=Lib.hid (trimmed_pl (some ⟨b,0,none⟩) n c q2 w3 ⟨HR.out.rest.choose_spec.1.1,hnl,hr2,.inr ⟨b,0,rfl,ho3.lt,hr1⟩⟩);have HV3:=Lib.hid hr3;have hb3:=ho3.lt;clear hG hr1 hr2 hr3 ho3 hw3;go_wp2_with fail;go_at_call 143;refine HT3.out.mono ?_;rintro e w4 ⟨a4,n4,c4,f4,rfl,hs4,hv4,ht4,hp4,hb4⟩;have hfd:∀wz:World,(Instr.field 49 (.agg #[.slice a4 n4 c4]) 0).run Tryz.prog wz=.ok (.slice a4 n4 c4) wz:=fun _=>by kernel_rfl
    have HB4:=Lib.hid (HB3.out.trans (hb4.mono HB3.out.size));have HD4:=Lib.hid (HD3.out.below hb4);have hz4:base<=w4.heap.size:=Nat.le_trans hz3 hb4.size;have HF4:=Lib.hid (HF3.out.below hb4 hb3);have HS4:=Lib.hid hs4;have HV4:=Lib.hid hv4;have HT4:=Lib.hid ht4;have HP4:=Lib.hid hp4;have hb4':b<w4.heap.size:=Nat.lt_of_lt_of_le hb3 hb4.size;have HI0:GroupI w4 w4 base N K G V 0:=⟨Below.refl _ _,HD4.out⟩
    have HI0':=Lib.hid HI0;have HLV:=Lib.hid HR.out.own.len;clear hs4 hv4 ht4 hp4 hb4 HI0;go_wp2_with fail
    go_loopw [3,5,22] (fun D g i wr=>∃(k gg:Nat) (U:Value),k<=9/\i=.int .i64 k/\gg<4294967296/\gg=G / 10^k/\g=.int .u32 gg/\U=D/\GroupI w4 wr base N K G U k)
     (fun _ _ i _=>9-(intOf i).toNat)
    case atStart=>exact⟨0,G,V,by omega,rfl,by omega,by simp,rfl,rfl,HI0'.out⟩
    case round =>
     obtain⟨k,gg,U,hk,rfl,hgl,hgg,rfl,rfl,hgr⟩:=hrel
     by_cases hk9:k<9
     · obtain ⟨x, hx⟩ : ∃ x, gg % 10 = x := ⟨_, rfl⟩
       obtain⟨y,hy⟩:∃y,48+x=y:=⟨_,rfl⟩
       obtain⟨g',hg'⟩:∃g',gg / 10=g':=⟨_,rfl⟩
       have e1:(gg:Int)%10=(x:Int):=by omega
       have e2:(48:Int)+(x:Int)=(y:Int):=by omega
       have e3:(y:Int)%256=(y:Int):=by omega
       have e4:(gg:Int) / 10=(g':Int):=by omega
       have hyd:y=dg N (9*K+k):=by
        unfold dg;rw[← hy,← hx,hgg,← HG.out,dig_group _ _ hk9,← HM.out,Nat.div_div_eq_div_mul,← Nat.pow_add]
       have hgn:g'=G / 10^(k+1):=by rw[← hg',hgg,Nat.div_div_eq_div_mul,← Nat.pow_succ]
       have HGR:=Lib.hid hgr;have HYD:=Lib.hid hyd;have HGN:=Lib.hid hgn;have hzr:base<=wr.heap.size:=Nat.le_trans hz4 hgr.below.size;have h64:9*K+k<=10000000:=by omega
       clear hx hy hg' hyd hgn hgr hgg
       go_wp2_with (at_builtin;refine wpList_append_own _ rfl _ _ 175 rfl base 5 i0 (.int .u8 0) 1 1 Tryz.underlying175 HI.out hz0 hz1 hz2 rfl (by decide) _ _ _ rfl (World.ownsRow.alloc HGR.out.own _) ⟨wr.heap.size,0,none⟩ 1 1 [.int .u8 y] rfl rfl ?c1 ?c2 ?c3 ?c4 ?c5 ?_)
       case c1 =>
        intro j u hj
        match j,hj with
        | 0,hj=>simp at hj;subst hj;simp[Addr.add]
       case c2=>intro u hu;simp at hu;subst hu;rfl
       case c3=>unfold maxLen;omega
       case c4=>omega
       case c5=>rw[World.size_alloc];omega
       · intro v' w5 hown' hgrow _;have hb5:Below base w4 w5:=(HGR.out.below.alloc hzr _).grown hgrow (by rw[World.size_alloc];omega) (fun q hq=>(World.ownsRow.lt HGR.out.own q hq).1)
         have hown2:OwnL w5 base 5 .u8 v' (9*K+(k+1)) (dg N):=by
          rw[cl_snoc,cl_congr (g:=dg N) (fun j hj=>by
           by_cases e:j=9*K+k
           · rw[if_pos e,HYD.out,e]
           · rw[if_neg e])]at hown'
          exact hown'
         have HG5:GroupI w4 w5 base N K G v' (k+1):=⟨hb5,hown2⟩
         have HG5':=Lib.hid HG5;clear hown' hgrow hb5 hown2 HG5;go_wp2
         go_roundw
         case rel=>exact⟨k+1,g',v',by omega,by go_num,by omega,HGN.out,rfl,rfl,HG5'.out⟩
         case measure=>simp[intOf];omega
     · obtain rfl : k = 9 := by omega
       have HNX:TextI w wr base b N n0 U a4 n4 c4 (K+1):=by
        have hw5:Below w.heap.size w wr:=HB4.out.trans (hgr.below.mono (by have:=HR.out.bge;have:=HR.out.blt;omega));have hbb:∀o,wr.cell? ⟨b,o,none⟩=w4.cell? ⟨b,o,none⟩:=fun o=>hgr.below.cell (p:=⟨b,o,none⟩) HR.out.blt
        refine⟨hw5,Nat.le_trans hz4 hgr.below.size,by have:=hgr.own;rw[show 9*K+9=9*(K+1)by omega]at this;exact this,HR.out.bge,HR.out.blt,fun o=>(hgr.below.frozen (p:=⟨b,o,none⟩) HR.out.blt).trans (HF4.out o),⟨f4,?_,?_,HT4.out⟩,HP4.out,by omega⟩
        · obtain ⟨z1, z2, z3, z4⟩ := HS4.out; refine ⟨z1, z2, z3, ?_⟩
          rcases z4 with z4|⟨b6,o6,z5,z6,z7⟩
          · exact .inl z4
          · have hb6:b6=b:=by
              rcases HP4.out with h|h
              · rw[h]at z5;cases z5
              · rw[h]at z5;cases z5;rfl
            subst hb6;exact .inr ⟨b6,o6,z5,Nat.lt_of_lt_of_le z6 hgr.below.size,fun j hj=>(hbb _).trans (z7 j hj)⟩
        · rw[HV4.out,HV3.out,← HM.out,Nat.div_div_eq_div_mul]
          congr 1
          rw[show 9*(K+1)=9*K+9 by omega,Nat.pow_add]
       have HNX':=Lib.hid HNX;have HLU:=Lib.hid HNX.own.len;clear hgr HNX;go_wp2
       go_roundw
       case rel=>exact⟨a4,n4,c4,K+1,U,rfl,rfl,HNX'.out⟩
       case measure =>
        have h1:=HLV.out;have h2:=HLU.out
        show 32*n0+20-lenOf U<32*n0+20-lenOf V
        rw[h1,h2]
        omega
  · obtain rfl:n=0:=by omega
    obtain⟨q,hq1,hq2,_⟩:=hr.rest
    have hlow:N<10^(9*K):=by
     rcases Nat.lt_or_ge N (10^(9*K))with h|h
     · exact h
     · have:=Nat.div_pos h (Nat.pow_pos (by omega));simp only[val]at hq2;omega
    have hK:0<9*K:=by
     rcases Nat.eq_zero_or_pos (9*K)with h|h
     · rw[h]at hlow;simp at hlow;omega
     · exact h
    rcases hr.own.cases with ⟨_,h⟩|⟨g,c2,rfl,hc2,hgb,hgl,hgc,hgf⟩
    · omega
    have hKb:9*K<=10000000:=by have:=hr.kb;omega
    have hbe:=hr.below;have hge:w.heap.size<=g:=Nat.le_trans hr.bge (by have:=hr.blt;omega);obtain⟨m,hm⟩:∃m,9*K=m:=⟨_,rfl⟩
    rw[hm]at hlow hK hKb hgc ⊢;have HRV:=Lib.hid (reverse_any g m c2 (dg N) wo hgc hgf hKb);have HBE:=Lib.hid hbe;have HLOW:=Lib.hid hlow;clear hr hq1 hq2 hlow hgc hgf hbe;go_wp2_with fail;go_at_call 144;refine HRV.out.mono ?_;rintro e w6 ⟨rfl,hrv⟩;obtain⟨hw6,hf6,hc6⟩:=hrv.out;have hcv:=run_convert_bytes_arg (P:=Tryz.prog) (w:=w6) 175 5 Tryz.underlying175 Tryz.underlying5 g 0 m c2 ((List.range m).map fun j=>((dg N (m-1-j):Nat):Int)) (by simp) (fun j hj=>by rw[hc6 j hj];simp[hj]) 9 Tryz.underlying9
    have hst:strOfNums ((List.range m).map fun j=>((dg N (m-1-j):Nat):Int))=str (sdig N m):=by
     refine str_of ?_;rw[strOfNums_data]
     apply List.ext_getElem?
     intro j
     by_cases hj:j<m
     · rw[sdig_get N m j hj,List.getElem?_map,List.getElem?_map,List.getElem?_range hj];simp only[Option.map_some];rw[Int.toNat_natCast];rfl
     · rw[List.getElem?_eq_none (by simp;omega),List.getElem?_eq_none (by rw[sdig_length];omega)]
    rw[hst]at hcv;have HTL:=Lib.hid (Tryz.strings_TrimLeft_one (str (sdig N m)) 48 (by decide) w6)
    have hdr:(⟨(Lib.trimLeftB (str (sdig N m)).data.toList 48).toArray⟩:ByteArray)=str (dec N):=by
     rw[str_toList];unfold Lib.trimLeftB;rw[drop_zeros N hpos m HLOW.out];rfl
    rw[hdr]at HTL;have HB6:=Lib.hid (hw6.below HBE.out hge HBE.out.size);have HCV:=Lib.hid hcv;clear hrv hw6 hf6 hc6 hst hdr hcv;have hcv:=HCV.out;go_wp2_with fail;go_at_call 145;refine HTL.out.mono ?_;rintro e w7 ⟨rfl,rfl⟩;clear hcv;go_wp2;go_ret;exact⟨rfl,HB6.out⟩
theorem text_any(v:Value)(N:Nat)(w:World)(h:NatIs w v N)(k:Nat)(hk:k<=100000)(hN:N<4294967296^k):Calls Tryz.prog 73 #[v] w fun e w'=>e=.returned (.string (str (dec N)))/\Below w.heap.size w w':=by
 rcases Nat.eq_zero_or_pos N with h0|h0
 · subst h0;have HZ:=Lib.hid (zero_any v 0);obtain⟨a,n,c,f,rfl,hs,hv,ht⟩:=h;have hz:=HZ.out (w.alloc (.cells #[.slice a n c] 49)) ⟨a,n,c,f,rfl,hs.below ((Below.refl _ _).alloc (Nat.le_refl _) _),hv,ht⟩;have HZ2:=Lib.hid hz;clear hz hs hv ht;go_enter Tryz.func73,Tryz.ntmps73
   go_wp2_with (go_at_call 114;refine HZ2.out.mono ?_;rintro e w1 ⟨rfl,hb1⟩)
   go_ret;exact⟨by rw[dec_zero];rfl,below_alloc hb1⟩
 · obtain⟨a,n,c,f,rfl,hs,hv,ht⟩:=h;have hl:=Nat.le_trans (NatIs.short hv ht hN) hk;rw[← hv]at h0 ⊢;exact text_core a n c f w hs ht h0 hl
def nbits(N:Nat):Nat:=if N=0 then 0 else N.log2+1
theorem nbits_eq{N b:Nat}(h1:2^b<=N)(h2:N<2^(b+1)):nbits N=b+1:=by
 have h0:N≠0:=by have:=Nat.two_pow_pos b;omega
 unfold nbits;rw[if_neg h0];have:=(Nat.le_log2 h0).2 h1;have:=(Nat.log2_lt h0).2 h2
 omega
theorem nbits_le{N b:Nat}:nbits N<=b↔N<2^b:=by
 unfold nbits
 split
 · rename_i h;subst h;simp[Nat.two_pow_pos]
 · rename_i h
   rw[← Nat.log2_lt h];omega
theorem bits_val{n:Nat}{f:Nat->Nat}(hn:0<n)(hf:∀j,j<n->f j<4294967296)(ht:f (n-1)≠0):nbits (val f n)=(n-1)*32+Lib.bitLen (f (n-1)):=by
 obtain⟨m,rfl⟩:∃m,n=m+1:=⟨n-1,by omega⟩
 rw[Nat.add_sub_cancel]at *;have hx:=hf m (by omega);obtain⟨a,b,c⟩:=Lib.bitLenAux_bounds 64 (f m) (by omega) ht;have hl:Lib.bitLen (f m)=Lib.bitLenAux 64 (f m):=rfl;rw[hl];generalize Lib.bitLenAux 64 (f m)=l at *;obtain⟨k,rfl⟩:∃k,l=k+1:=⟨l-1,by omega⟩
 rw[Nat.add_sub_cancel]at b;have hB:(4294967296:Nat)^m=2^(m*32):=by rw[Nat.mul_comm,Nat.pow_mul]
 have h1:=val_lt f m (fun j hj=>hf j (by omega));rw[show m*32+(k+1)=(m*32+k)+1 by omega]
 refine nbits_eq ?_ ?_
 · rw[Nat.pow_add,val,hB,Nat.mul_comm];have:=Nat.mul_le_mul_right (2^(m*32)) b
   omega
 · rw[show m*32+k+1=(k+1)+m*32 by omega,Nat.pow_add,val];have:=Nat.mul_le_mul_right (2^(m*32)) (show f m+1<=2^(k+1)from c);rw[Nat.add_mul]at this;rw[hB]at h1 ⊢
   omega
theorem len32_any(x:Nat)(w:World)(h:x<4294967296):Calls Tryz.prog 256 #[.int .u32 x] w fun e w'=>e=.returned (.int .i64 (Lib.bitLen x:Nat))/\w=w' :=
 (Tryz.bits_Len32 x w (by omega) (by omega)).mono fun _ _ ⟨h1,h2⟩=>⟨by rw[h1,Int.toNat_natCast],h2.symm⟩
theorem bits_any(v:Value)(N:Nat)(w:World)(h:NatIs w v N):Calls Tryz.prog 254 #[v] w fun e w'=>e=.returned (.int .i64 (nbits N))/\Below w.heap.size w w':=by
 have HZ:=Lib.hid (zero_any v N);obtain⟨a,n,c,f,rfl,hs,hv,ht⟩:=h;have hz:=nat_zero hv ht;have hzz:=HZ.out (w.alloc (.cells #[.slice a n c] 49)) ⟨a,n,c,f,rfl,hs.below ((Below.refl _ _).alloc (Nat.le_refl _) _),hv,ht⟩;have s0:=Slot.new w (.slice a n c) 49
 by_cases h0:n=0
 · have hN:N=0:=hz.2 h0;subst hN;have HZ2:=Lib.hid hzz;clear hs hv ht hz hzz s0 h0;go_enter Tryz.func254,Tryz.ntmps254
   go_wp2_with (go_at_call 114;refine HZ2.out.mono ?_;rintro e w1 ⟨rfl,hb1⟩)
   go_ret;exact⟨by simp[nbits],below_alloc hb1⟩
 · rw[show decide (N=0)=false from decide_eq_false (by omega)]at hzz;obtain⟨n1,hn1⟩:∃n1,n-1=n1:=⟨_,rfl⟩
   have hb:=bits_val (by omega) hs.2.2.1 (ht.resolve_left h0);rw[hv,hn1]at hb;obtain⟨b,off,rfl,hbl,hc,hl⟩:=hs.limb (show n1<n by omega);have hnl:=NatIs.len hs;have hL:=Lib.bitLen_le (f n1) 32 (by omega) (by omega);have HLN:=Lib.hid (len32_any (f n1));generalize f n1=x at *;obtain⟨l,hl2⟩:∃l,Lib.bitLen x=l:=⟨_,rfl⟩
   rw[hl2]at hb hL HLN;have e1:(n:Int)-1=(n1:Int):=by omega
   have HB:=Lib.hid hb;have HZ2:=Lib.hid hzz;have S0:=Lib.hid s0;have i1:(n1:Int)<(n:Int):=by omega
   clear hs hv ht hz hzz s0 hb hl2 hn1;go_enter Tryz.func254,Tryz.ntmps254;go_wp2_with fail;go_at_call 114;refine HZ2.out.mono ?_;rintro e w1 ⟨rfl,hb1⟩;have S1:=S0.out.below hb1;have hc1:=S1.cell;have HB1:=Lib.hid (below_alloc hb1);have hc2:w1.cell? ⟨b,off+n1,none⟩=some (.int .u32 x):=(HB1.out.cell (p:=⟨b,off+n1,none⟩) hbl).trans hc;clear hb1 S1
   go_wp2_with (go_at_call 256;refine(HLN.out _ hl).mono ?_;rintro e w2 ⟨rfl,rfl⟩)
   go_ret;refine⟨ret_int ?_,HB1.out⟩;rw[HB.out]
   show(n1:Int)*32+(l:Int)=_
   omega
theorem or0(x:Nat)(h:x<18446744073709551616):bits .or .u64 (0:Int) (x:Int)=(x:Int):=by
 have:=u64_or_nat 0 x (by omega) h;rw[Nat.zero_or]at this;exact this
def UintOut(w w':World)(e:Ending)(N:Nat):Prop:=e=.returned (.tuple #[.int .u64 ((if N<18446744073709551616 then N else 0:Nat):Int),.bool (decide (N<18446744073709551616))])/\Below w.heap.size w w'
theorem uint_any(v:Value)(N:Nat)(w:World)(h:NatIs w v N):Calls Tryz.prog 238 #[v] w fun e w'=>UintOut w w' e N:=by
 have HZ:=Lib.hid (bits_any v N);have hnb:nbits N<=64↔N<18446744073709551616:=nbits_le;obtain⟨a,n,c,f,rfl,hs,hv,ht⟩:=h;have hzz:=HZ.out (w.alloc (.cells #[.slice a n c] 49)) ⟨a,n,c,f,rfl,hs.below ((Below.refl _ _).alloc (Nat.le_refl _) _),hv,ht⟩;have s0:=Slot.new w (.slice a n c) 49;have HZ2:=Lib.hid hzz;obtain⟨B,hB⟩:∃B,nbits N=B:=⟨_,rfl⟩
 rw[hB]at HZ2 hnb
 by_cases hbig:64<B
 · have hE:∀w',Below w.heap.size w w'->UintOut w w' (.returned (.tuple #[.int .u64 0,.bool false])) N:=by
     intro w' hb;refine⟨?_,hb⟩;have:¬N<18446744073709551616:=by omega
     rw[if_neg this,decide_eq_false this];rfl
   have HE:=Lib.hid hE;clear hE hs hv ht hzz s0 hnb hB;go_enter Tryz.func238,Tryz.ntmps238
   go_wp2_with (go_at_call 254;refine HZ2.out.mono ?_;rintro e w1 ⟨rfl,hb1⟩)
   go_ret2;exact HE.out _ (below_alloc hb1)
 · have hNl : N < 18446744073709551616 := by omega
   have hn2:n<=2:=NatIs.short (k:=2) hv ht (by omega)
   have hE:∀w',Below w.heap.size w w'->UintOut w w' (.returned (.tuple #[.int .u64 N,.bool true])) N:=by
    intro w' hb;refine⟨?_,hb⟩;rw[if_pos hNl,decide_eq_true hNl]
   have HE:=Lib.hid hE;have HS:=Lib.hid hs;have HV:=Lib.hid hv;have S0:=Lib.hid s0;have HNL:=Lib.hid hNl;clear hE hs hv ht hzz s0 hnb hB hNl;go_enter Tryz.func238,Tryz.ntmps238;go_wp2_with fail;go_at_call 254;refine HZ2.out.mono ?_;rintro e w1 ⟨rfl,hb1⟩;have S1:=Lib.hid (S0.out.below hb1);have HB1:=Lib.hid (below_alloc hb1);have hc1:=S1.out.cell;clear hb1;go_wp2_with fail
   go_loop [4,12] (fun x i=>∃k acc:Nat,k<=n/\i=.int .i64 k/\x=.int .u64 acc/\Hid (acc=val f k))
    (fun _ i=>n-(intOf i).toNat)
   case atStart=>exact⟨0,0,by omega,rfl,rfl,rfl⟩
   case round =>
    obtain⟨k,acc,hk,rfl,rfl,hacc⟩:=hrel
    by_cases hlt:k<n
    · obtain ⟨b, off, rfl, hbl, hcc, hll⟩ := (HS.out.below HB1.out).limb hlt; have hkk : k = 0 ∨ k = 1 := by omega
      rcases hkk with rfl|rfl
      · have h0:acc=0:=hacc.out;subst h0;have HV1:Hid (f 0=val f 1):=by show _=_;simp[val]
        generalize f 0=x at *;rw[Nat.add_zero]at hcc;go_wp2
        go_round
        case rel=>exact⟨1,x,by omega,rfl,vint (or0 x (by omega)),HV1.out⟩
        case measure=>simp[intOf];omega
      · have hac0:=hacc.out;have hal:acc<4294967296:=by rw[hac0];have:=val_lt f 1 (fun j hj=>HS.out.2.2.1 j (by omega));omega
        have hor:bits .or .u64 (acc:Int) ((f 1:Int)*4294967296)=((acc+f 1*4294967296:Nat):Int):=by
         have:=u64_or_nat acc (f 1*4294967296) (by omega) (by omega);rw[Nat.or_comm,nat_join 32 _ _ (by simp) (by omega),Nat.add_comm]at this;rw[← this];simp
        have HV1:Hid (acc+f 1*4294967296=val f 2):=by show _=_;rw[hac0];simp[val]
        generalize f 1=x at *;clear hac0;go_wp2
        go_round
        case rel=>exact⟨2,acc+x*4294967296,by omega,rfl,by simp,HV1.out⟩
        case measure=>simp[intOf];omega
    · obtain rfl:k=n:=by omega
      have h0:acc=N:=by rw[hacc.out,HV.out]
      subst h0;go_wp2;go_ret2;exact HE.out _ HB1.out
end Go.Proofs.YtdmmenaejkpnjaaGreatDoor
