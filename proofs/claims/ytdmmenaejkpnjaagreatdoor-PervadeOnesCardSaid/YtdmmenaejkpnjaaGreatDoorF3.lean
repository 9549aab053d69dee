/-
  Texts of this seat, laid together.
-/
import Derived.Lib.ItoaNum
import Derived.IntWalk
import Derived.Test.YtdmmenaejkpnjaaGreatDoorShelf
import Derived.Test.YtdmmenaejkpnjaaGreatDoorF1
set_option maxHeartbeats 12800000
set_option maxRecDepth 100000
set_option linter.unusedSimpArgs false
set_option linter.unusedVariables false
namespace Go.Proofs.YtdmmenaejkpnjaaGreatDoor
open Go.RowKit
theorem pow_add32(a b:Nat):(4294967296:Nat)^(a+b)=4294967296^a*4294967296^b:=Nat.pow_add ..
theorem pow_pos32(a:Nat):0<(4294967296:Nat)^a:=Nat.pow_pos (by omega)
theorem pow_mono32{a b:Nat}(h:a<=b):(4294967296:Nat)^a<=4294967296^b:=Nat.pow_le_pow_right (by omega) h
theorem val_shift (f : Nat -> Nat) (a : Nat) : ∀ k, val f (a + k) = val f a + 4294967296 ^ a * val (fun j => f (a + j)) k
 | 0=>by simp[val]
 | k+1=>by
  rw[← Nat.add_assoc,val,val_shift f a k,val,pow_add32,Nat.mul_add]
  have:f (a+k)*(4294967296^a*4294967296^k)=4294967296^a*(f (a+k)*4294967296^k):=by
   rw[← Nat.mul_assoc,Nat.mul_comm (f (a+k)),Nat.mul_assoc]
  omega
theorem val_low(f:Nat->Nat){k n:Nat}(h:k<=n)(hv:val f n<4294967296^k):val f n=val f k:=by
 obtain⟨m,rfl⟩:∃m,n=k+m:=⟨n-k,by omega⟩
 rw[val_shift]at hv ⊢
 rcases Nat.eq_zero_or_pos (val (fun j=>f (k+j)) m)with h0|h0
 · rw[h0];rfl
 · have:4294967296^k*1<=4294967296^k*val (fun j=>f (k+j)) m:=Nat.mul_le_mul_left _ h0
   omega
theorem val_top(f:Nat->Nat)(n:Nat)(hn:0<n)(h:f (n-1)≠0):4294967296^(n-1)<=val f n:=by
 obtain⟨m,rfl⟩:∃m,n=m+1:=⟨n-1,by omega⟩
 rw[val,Nat.add_sub_cancel];rw[Nat.add_sub_cancel]at h;have:1*4294967296^m<=f m*4294967296^m:=Nat.mul_le_mul_right _ (by omega)
 omega
theorem down_term(x y u:Nat)(hu:u<32):(x / 2^u+y*2^(32-u)%4294967296)*2^u+x%2^u=x+y%2^u*4294967296:=by
 have h2:=two32 hu
 have e:y*2^(32-u)%4294967296=y%2^u*2^(32-u):=by
  have:=Nat.mul_mod_mul_right (2^(32-u)) y (2^u);rw[Nat.mul_comm (2^u),h2]at this;exact this
 rw[e,Nat.add_mul,Nat.mul_assoc (y%2^u),h2];have:=Nat.div_add_mod x (2^u);rw[Nat.mul_comm]at this
 omega
theorem down_val(s d:Nat->Nat)(n u:Nat)(hu:u<32)(h:DownR s n u n d):∀k,k<=n->0<k->2^u*val d k+s 0%2^u=val s k+(if k<n then s k%2^u*4294967296^k else 0):=by
 intro k
 induction k with
 | zero=>intro _ h;omega
 | succ k ih =>
  intro hk _;have hd:=h k (by omega);have ht:=down_term (s k) (nxt s n k) u hu;rw[val,val,hd]
  have hn:nxt s n k%2^u*4294967296*4294967296^k=if k+1<n then s (k+1)%2^u*4294967296^(k+1)else 0:=by
   unfold nxt
   split
   · rw[pow_succ32,Nat.mul_assoc]
   · simp
  rw[← hn];generalize s k / 2^u+nxt s n k*2^(32-u)%4294967296=D at *;have hm:(D*2^u+s k%2^u)*4294967296^k=(s k+nxt s n k%2^u*4294967296)*4294967296^k:=by rw[ht]
  rw[Nat.add_mul,Nat.add_mul]at hm;have hc:D*2^u*4294967296^k=2^u*(D*4294967296^k):=by rw[Nat.mul_comm D,Nat.mul_assoc]
  rw[Nat.mul_add]
  rcases Nat.eq_zero_or_pos k with h0|h0
  · subst h0;simp only[val,Nat.pow_zero,Nat.mul_one,Nat.mul_zero,Nat.zero_add]at *;omega
  · have:=ih (by omega) h0;rw[if_pos (by omega)]at this
    omega
theorem down_div(s d:Nat->Nat)(n u:Nat)(hu:u<32)(h:DownR s n u n d):val d n=val s n / 2^u:=by
 rcases Nat.eq_zero_or_pos n with h0|h0
 · subst h0;simp[val]
 · have:=down_val s d n u hu h n (Nat.le_refl _) h0;rw[if_neg (by omega)]at this;have hp:=Nat.mod_lt (s 0) (Nat.two_pow_pos u)
   refine(Nat.div_eq_of_lt_le ?_ ?_).symm
   · rw[Nat.mul_comm];omega
   · rw[Nat.mul_comm,Nat.mul_add];omega
theorem up_fits{s d:Nat->Nat}{n u c:Nat}(hd:UpR s u n c d)(hl:val s n*2^u<4294967296^n):c=0/\val d n=val s n*2^u:=by
 unfold UpR at hd
 rcases Nat.eq_zero_or_pos c with h|h
 · subst h;omega
 · have:1*4294967296^n<=c*4294967296^n:=Nat.mul_le_mul_right _ h
   omega
theorem lz_spec{x:Nat}(h0:0<x)(h1:x<4294967296):∃u,(32-(Lib.bitLen x:Int))=((u:Nat):Int)/\u<32/\(x+1)*2^u<=4294967296:=by
 obtain⟨a,b,c⟩:=Lib.bitLenAux_bounds 64 x (by omega) (by omega);have hle:Lib.bitLen x<=32:=Lib.bitLen_le x 32 (by omega) (by omega)
 refine⟨32-Lib.bitLen x,by omega,?_,?_⟩
 · unfold Lib.bitLen at *;omega
 · have:x+1<=2^Lib.bitLen x:=c;have h2:2^Lib.bitLen x*2^(32-Lib.bitLen x)=4294967296:=by rw[← Nat.pow_add,show Lib.bitLen x+(32-Lib.bitLen x)=32 by omega]
   rw[← h2];exact Nat.mul_le_mul_right _ this
theorem up_room{s:Nat->Nat}{n u:Nat}(hn:0<n)(hs:∀j,j<n->s j<4294967296)(hu:(s (n-1)+1)*2^u<=4294967296):val s n*2^u<4294967296^n:=by
 obtain⟨m,rfl⟩:∃m,n=m+1:=⟨n-1,by omega⟩
 rw[Nat.add_sub_cancel]at hu;have h1:=val_lt s m (fun j hj=>hs j (by omega));rw[val,pow_succ32];have h2:val s m+s m*4294967296^m<(s m+1)*4294967296^m:=by rw[Nat.add_mul];omega
 have h3:(val s m+s m*4294967296^m)*2^u<(s m+1)*4294967296^m*2^u:=Nat.mul_lt_mul_of_pos_right h2 (Nat.two_pow_pos u);have h4:(s m+1)*4294967296^m*2^u=(s m+1)*2^u*4294967296^m:=by rw[Nat.mul_assoc,Nat.mul_comm (4294967296^m),← Nat.mul_assoc]
 have h5:(s m+1)*2^u*4294967296^m<=4294967296*4294967296^m:=Nat.mul_le_mul_right _ hu
 omega
structure LongInv(w wr:World)(rb qb bb an1 bn m:Nat)(d:Nat->Nat)(X D i:Nat):Prop where
 below:Below w.heap.size w wr
 rb_ge:w.heap.size<=rb
 qb_ge:w.heap.size<=qb
 rb_lt:rb<wr.heap.size
 qb_lt:qb<wr.heap.size
 rq:rb≠qb
 rbb:bb≠rb
 qbb:bb≠qb
 freeR:Free wr rb
 freeQ:Free wr qb
 div:SlAt wr .u32 4294967296 (some ⟨bb,0,none⟩) bn bn d
 rows:∃r q,Cells wr .u32 rb 0 an1 r/\(∀j,j<an1->r j<4294967296)/\Cells wr .u32 qb 0 m q/\(∀j,j<m->q j<4294967296)/\val r an1<D*4294967296^(m-i)/\X=val r an1+D*seg q (m-i) m
theorem LongInv.part {w wr : World} {rb qb bb an1 bn m : Nat} {d : Nat -> Nat} {X D i : Nat} (h : LongInv w wr rb qb bb an1 bn m d X D i) (hi : i < m) (hm : m + bn = an1) (hD : D < 4294967296 ^ bn) (hn : an1 <= 1000000) :
    ∃f,SlAt wr .u32 4294967296 (some ⟨rb,m-1-i,none⟩) (bn+1) (an1-(m-1-i)) f/\val f (bn+1)<D*4294967296 /\
     ∀w2 q,q=val f (bn+1) / D->q<4294967296->RowIs rb (m-1-i) (bn+1) wr w2 (val f (bn+1)%D)->LongInv w (w2.setCell ⟨qb,m-1-i,none⟩ (.int .u32 q)) rb qb bb an1 bn m d X D (i+1):=by
 obtain⟨r,q0,hr1,hr2,hq1,hq2,hv,hX⟩:=h.rows;obtain⟨t,ht⟩:∃t,m-1-i=t:=⟨_,rfl⟩
 have e1:m-i=t+1:=by omega
 have e2:m-(i+1)=t:=by omega
 rw[e1]at hv hX;rw[ht]
 have hlow:val r an1=val r (t+(bn+1)):=val_low r (by omega) (by
  have:D*4294967296^(t+1)<=4294967296^bn*4294967296^(t+1):=Nat.mul_le_mul_right _ (by omega);rw[← pow_add32,show bn+(t+1)=t+(bn+1)by omega]at this
  omega)
 have hsplit:=val_shift r t (bn+1);obtain⟨V,hV⟩:∃V,val (fun j=>r (t+j)) (bn+1)=V:=⟨_,rfl⟩
 rw[hV]at hsplit
 have hVl:V<D*4294967296:=by
  rw[pow_succ32,hlow,hsplit]at hv
  have:4294967296^t*V<4294967296^t*(D*4294967296):=by
   have e:D*(4294967296*4294967296^t)=4294967296^t*(D*4294967296):=by rw[Nat.mul_comm (4294967296^t),Nat.mul_assoc]
   omega
  exact Nat.lt_of_mul_lt_mul_left this
 have hrt:=val_lt r t (fun j hj=>hr2 j (by omega));refine⟨fun j=>r (t+j),⟨by omega,by omega,fun j hj=>hr2 _ (by omega),.inr ⟨rb,t,rfl,h.rb_lt,fun j hj=>by have:=hr1 (t+j) (by omega);rw[Nat.zero_add]at this;exact this⟩⟩,by rw[hV];exact hVl,?_⟩;intro w2 q hq hql hrow;rw[hV]at hq hrow;obtain⟨hw,hf,d2,hd1,hd2,hd3⟩:=hrow;have hw2:Below w.heap.size w w2:=hw.below h.below h.rb_ge h.below.size;have hqb2:qb<w2.heap.size:=Nat.lt_of_lt_of_le h.qb_lt hw.size;have hfq:Free w2 qb:=h.freeQ.wrote hw h.qb_lt;have hcq:Cells w2 .u32 qb 0 m q0:=hq1.wrote hw h.qb_lt (fun e=>absurd e.symm h.rq);have hsc:Wrote qb t (t+1) w2 (w2.setCell ⟨qb,t,none⟩ (.int .u32 q)):=(Wrote.refl _ _ _ _).setCell (Nat.le_refl _) (by omega) _
 have hD0:0<D:=by
  rcases Nat.eq_zero_or_pos D with h0|h0
  · rw[h0]at hVl;omega
  · exact h0
 obtain⟨r2,ra,rn⟩:∃r2:Nat->Nat,(∀j,t<=j/\j<t+(bn+1)->r2 j=d2 (j-t))/\(∀j,¬(t<=j/\j<t+(bn+1))->r2 j=r j) :=
  ⟨fun j=>if t<=j/\j<t+(bn+1)then d2 (j-t)else r j,fun j hj=>if_pos hj,fun j hj=>if_neg hj⟩
 obtain⟨q2,hqs,qa,qn⟩:∃q2:Nat->Nat,q2=(fun j=>if j=t then q else q0 j)/\q2 t=q/\(∀j,j≠t->q2 j=q0 j):=⟨_,rfl,if_pos rfl,fun j hj=>if_neg hj⟩
 have hrc:Cells w2 .u32 rb 0 an1 r2:=by
  intro j hj
  by_cases e:t<=j/\j<t+(bn+1)
  · rw[ra j e];have:=hd1 (j-t) (by omega);rw[show t+(j-t)=j by omega]at this;rw[Nat.zero_add];exact this
  · rw[rn j e,Nat.zero_add,hw.cell j (by omega)];have:=hr1 j hj;rw[Nat.zero_add]at this;exact this
 have hv1:val r2 t=val r t:=val_congr t (fun j hj=>rn j (by omega))
 have hv2:val (fun j=>r2 (t+j)) (bn+1)=V%D:=by
  rw[← hd3];exact val_congr _ (fun j hj=>by rw[ra _ (by omega),Nat.add_sub_cancel_left])
 have hv3:=val_shift r2 t (bn+1);rw[hv1,hv2]at hv3;have hmd:=Nat.mod_lt V hD0
 have hlt2:val r t+4294967296^t*(V%D)<D*4294967296^t:=by
  have:4294967296^t*(V%D+1)<=4294967296^t*D:=Nat.mul_le_mul_left _ hmd;rw[Nat.mul_add,Nat.mul_comm _ D]at this
  omega
 have hv4:val r2 an1=val r2 (t+(bn+1)):=by
  obtain⟨k,hk⟩:∃k,an1=t+(bn+1)+k:=⟨an1-(t+(bn+1)),by omega⟩
  have z0:=val_shift r (t+(bn+1)) k;rw[← hk,hlow]at z0
  have z1:val (fun j=>r (t+(bn+1)+j)) k=0:=by
   rcases Nat.eq_zero_or_pos (val (fun j=>r (t+(bn+1)+j)) k)with z|z
   · exact z
   · have:=Nat.mul_le_mul (pow_pos32 (t+(bn+1))) z
     omega
  have z2:=val_shift r2 (t+(bn+1)) k
  have z3:val (fun j=>r2 (t+(bn+1)+j)) k=0:=by
   rw[← z1];exact val_congr k (fun j _=>rn _ (by omega))
  rw[z3,← hk]at z2;rw[z2];omega
 refine⟨?_,h.rb_ge,h.qb_ge,?_,?_,h.rq,h.rbb,h.qbb,?_,?_,?_,r2,q2,hrc.wrote hsc (Nat.lt_of_lt_of_le h.rb_lt hw.size) (fun e=>absurd e h.rq),?_,?_,?_,?_,?_⟩
 · exact hsc.below hw2 h.qb_ge hw2.size
 · simpa using Nat.lt_of_lt_of_le h.rb_lt hw.size
 · simpa using hqb2
 · exact hf.set _ _
 · exact hfq.set _ _
 · exact(h.div.wrote hw (fun x hx=>by cases hx;exact h.rbb)).wrote hsc (fun x hx=>by cases hx;exact h.qbb)
 · intro j hj
   by_cases e:t<=j/\j<t+(bn+1)
   · rw[ra j e];exact hd2 _ (by omega)
   · rw[rn j e];exact hr2 j hj
 · rw[hqs];have:=hcq.set (k:=t) (x:=q) (by omega);rw[Nat.zero_add]at this;exact this
 · intro j hj
   by_cases e:j=t
   · subst e;rw[qa];exact hql
   · rw[qn j e];exact hq2 j hj
 · rw[e2,hv4,hv3];exact hlt2
 · have s1:=seg_head q2 t m (by omega);have s2:seg q2 (t+1) m=seg q0 (t+1) m:=seg_congr _ _ (fun j hj _=>qn j (by omega));rw[s2,qa]at s1;rw[e2,hv4,hv3,s1,hX,hlow,hsplit,Nat.mul_add];have e:=Nat.div_add_mod V D;rw[← hq]at e;have:4294967296^t*(D*q+V%D)=4294967296^t*V:=by rw[e]
   rw[Nat.mul_add]at this;have e3:D*(q*4294967296^t)=4294967296^t*(D*q):=by rw[← Nat.mul_assoc,Nat.mul_comm]
   omega
theorem make_u32(m:Nat)(hm:m<=1000000):∃z:List Value,z.length=m/\(∀j,j<m->z[j]? = some (.int .u32 0)) /\
    ∀w:World,(Instr.makeSlice 47 (.int .i64 m) (.int .i64 m)).run Tryz.prog w=.ok (.slice (some ⟨w.heap.size,0,none⟩) m m) (w.alloc (.cells z.toArray 177)):=by
 obtain⟨i0,hi,hz0,hz1,hz2⟩:=info_parts infoU
 refine⟨(madeCells (Value.cells (.int .u32 0)) m).toList,by simp[size_madeCells],fun j hj => ?_,fun w => ?_⟩
 · have h3:(madeCells (Value.cells (.int .u32 0)) m)[j]? = some (.int .u32 0):=by simp[madeCells,hj,Value.cells,Nat.mod_one]
   rw[Array.getElem?_toList];exact h3
 · have hmk:=run_make (P:=Tryz.prog) w 47 177 i0 (.int .u32 0) Tryz.underlying47 hi hz0 .i64 .i64 m m (by omega) (by omega) (by rw[hz2];omega) (by omega);simp only[Int.toNat_natCast,hz1,Nat.mul_one]at hmk;rw[Array.toArray_toList];exact hmk
theorem lz_any(x:Nat)(h0:0<x)(h1:x<4294967296):∃u:Nat,u<32/\(x+1)*2^u<=4294967296/\∀w:World,Calls Tryz.prog 244 #[.int .u32 x] w fun e w'=>e=.returned (.int .i64 u)/\w=w':=by
 obtain⟨u,e,h2,h3⟩:=lz_spec h0 h1;refine⟨u,h2,h3,fun w=>(Tryz.bits_LeadingZeros32 x w (by omega) (by omega)).mono fun _ _ ⟨h4,h5⟩=>⟨?_,h5.symm⟩⟩;rw[h4,Int.toNat_natCast,e]
structure Own(w w':World)(b n:Nat)(N:Nat):Prop where
 ge:w.heap.size<=b
 lt:b<w'.heap.size
 free:Free w' b
 row:∃f,Cells w' .u32 b 0 n f/\(∀j,j<n->f j<4294967296)/\val f n=N
theorem Own.below{w w1 w2:World}{b n N:Nat}(h:Own w w1 b n N)(hb:Below w1.heap.size w1 w2):Own w w2 b n N:=by
 obtain⟨f,h1,h2,h3⟩:=h.row;exact⟨h.ge,Nat.lt_of_lt_of_le h.lt hb.size,h.free.below hb h.lt,f,h1.below hb h.lt,h2,h3⟩
theorem Own.wrote{w w1 w2:World}{b n N k lo hi:Nat}(h:Own w w1 b n N)(hb:Wrote k lo hi w1 w2)(hk:b≠k):Own w w2 b n N:=by
 obtain⟨f,h1,h2,h3⟩:=h.row;exact⟨h.ge,Nat.lt_of_lt_of_le h.lt hb.size,h.free.wrote hb h.lt,f,h1.wrote hb h.lt (fun e=>absurd e hk),h2,h3⟩
theorem Own.slAt{w w1:World}{b n N:Nat}(h:Own w w1 b n N)(hn:n<=1000000):∃f,SlAt w1 .u32 4294967296 (some ⟨b,0,none⟩) n n f/\val f n=N:=by
 obtain⟨f,h1,h2,h3⟩:=h.row;exact⟨f,⟨Nat.le_refl _,hn,h2,.inr ⟨b,0,rfl,h.lt,h1⟩⟩,h3⟩
theorem copied_own (a : Option Addr) (n c : Nat) (f : Nat -> Nat) (m : Nat) (w : World) (h : SlAt w .u32 4294967296 a n c f) (hnm : n <= m) (hm : m <= 1000000) :
    Calls Tryz.prog 141 #[.slice a n c,.int .i64 m] w fun e w'=>∃b,e=.returned (.slice (some ⟨b,0,none⟩) m m)/\Own w w' b m (val f n)/\Below w.heap.size w w':=by
 refine(copied_any a n c f m w h hnm hm).mono ?_;rintro e w' ⟨b,rfl,h1,h2,h3,h4,h5⟩
 refine⟨b,rfl,⟨h1,h2,h4,_,h3,fun j hj => ?_,?_⟩,h5⟩
 · split
   · exact h.2.2.1 j (by assumption)
   · omega
 · rw[val_pad,Nat.min_eq_right hnm]
theorem shiftUp_own (w0 : World) (b n cs : Nat) (N : Nat) (u : Nat) (w : World) (h : Own w0 w b n N) (hn : n <= 1000000) (hu : u < 32) (hfit : N * 2 ^ u < 4294967296 ^ n) :
    Calls Tryz.prog 245 #[.slice (some ⟨b,0,none⟩) n cs,.int .i64 u] w fun e w'=>e=.returned (.tuple #[])/\Own w0 w' b n (N*2^u)/\Wrote b 0 n w w':=by
 obtain⟨f,h1,h2,h3⟩:=h.row;refine(shiftUp_any b 0 n cs f u w h.free h1 h2 hn hu).mono ?_;rintro e w' ⟨rfl,c,_,hw,hf,d,hd,hb,_,hR⟩;rw[Nat.zero_add]at hw;refine⟨rfl,⟨h.ge,Nat.lt_of_lt_of_le h.lt hw.size,hf,d,hd,hb,?_⟩,hw⟩;rw[(up_fits hR (by rw[h3];exact hfit)).2,h3]
theorem shiftDown_own (w0 : World) (b n cs : Nat) (N : Nat) (u : Nat) (w : World) (h : Own w0 w b n N) (hnc : n <= cs) (hn : cs <= 1000000) (hu : u < 32) :
    Calls Tryz.prog 247 #[.slice (some ⟨b,0,none⟩) n cs,.int .i64 u] w fun e w'=>e=.returned (.tuple #[])/\Own w0 w' b n (N / 2^u)/\Wrote b 0 n w w':=by
 obtain⟨f,h1,h2,h3⟩:=h.row;refine(shiftDown_any b 0 n cs f u w h.lt hnc hn h.free h1 h2 hu).mono ?_;rintro e w' ⟨rfl,hw,hf,d,hd,hb,_,hR⟩;rw[Nat.zero_add]at hw;refine⟨rfl,⟨h.ge,Nat.lt_of_lt_of_le h.lt hw.size,hf,d,hd,hb,?_⟩,hw⟩;rw[down_div f d n u hu hR,h3]
theorem LongInv.start {w w4 : World} {rb bb an1 bn m X D : Nat} {z : List Value} (hr : Own w w4 rb an1 X) (hd : Own w w4 bb bn D) (hb : Below w.heap.size w w4) (hne : bb ≠ rb) (hz0 : ∀ j, j < m -> z[j]? = some (.int .u32 0))
    (hX:X<D*4294967296^m) (hbn:bn<=1000000):∃d,val d bn=D/\LongInv w (w4.alloc (.cells z.toArray 177)) rb w4.heap.size bb an1 bn m d X D 0:=by
 have hal:Below w4.heap.size w4 (w4.alloc (.cells z.toArray 177)):=(Below.refl _ _).alloc (Nat.le_refl _) _;have hnew:=heap_new w4 (.cells z.toArray 177);obtain⟨d,hd1,hd2⟩:=hd.slAt hbn;obtain⟨r,hr1,hr2,hr3⟩:=hr.row
 refine⟨d,hd2,hb.alloc hb.size _,hr.ge,hb.size,?_,?_,?_,hne,?_,hr.free.below hal hr.lt,Free.of_block hnew,hd1.below hal,r,fun _=>0,hr1.below hal hr.lt,hr2,Cells.of_block hnew hz0,fun _ _=>by show 0<_;omega,?_,?_⟩
 · have:=hr.lt;simp;omega
 · simp
 · have:=hr.lt;omega
 · have:=hd.lt;omega
 · rw[hr3];exact hX
 · rw[hr3,Nat.sub_zero,seg_self _ _ _ (Nat.le_refl _)];omega
theorem LongInv.last {w wr : World} {rb qb bb an1 bn m : Nat} {d : Nat -> Nat} {X D : Nat} (h : LongInv w wr rb qb bb an1 bn m d X D m) (hD : D < 4294967296 ^ bn) (hbn : bn <= an1) :
    Own w wr rb bn (X%D)/\Own w wr qb m (X / D):=by
 obtain⟨r,q,h1,h2,h3,h4,h5,h6⟩:=h.rows;rw[Nat.sub_self]at h5 h6;rw[seg_zero]at h6;rw[Nat.pow_zero,Nat.mul_one]at h5;have hv:=val_low r hbn (by omega);rw[hv]at h5 h6
 have e1:X / D=val q m:=by
  rw[h6,Nat.add_comm,Nat.mul_add_div (by omega),Nat.div_eq_of_lt h5,Nat.add_zero]
 have e2:X%D=val r bn:=by
  rw[h6,Nat.add_comm,Nat.mul_add_mod,Nat.mod_eq_of_lt h5]
 exact⟨⟨h.rb_ge,h.rb_lt,h.freeR,r,fun j hj=>h1 j (by omega),fun j hj=>h2 j (by omega),e2.symm⟩,⟨h.qb_ge,h.qb_lt,h.freeQ,q,h3,h4,e1.symm⟩⟩
def LongEnd(w w':World)(e:Ending)(m bn an1 A B:Nat):Prop:=∃qb rb,e=.returned (.tuple #[.slice (some ⟨qb,0,none⟩) m m,.slice (some ⟨rb,0,none⟩) bn an1])/\Own w w' qb m (A / B)/\Own w w' rb bn (A%B)/\Below w.heap.size w w'
theorem divideLong_any (aa : Option Addr) (an ac : Nat) (a : Nat -> Nat) (ba : Option Addr) (bn bc : Nat) (b : Nat -> Nat) (w : World) (ha : SlAt w .u32 4294967296 aa an ac a) (hb : SlAt w .u32 4294967296 ba bn bc b)
    (h2:2<=bn) (hba:bn<=an) (htop:0<b (bn-1)) (han:an+1<=1000000) :
    Calls Tryz.prog 217 #[.slice aa an ac,.slice ba bn bc] w fun e w'=>LongEnd w w' e (an+1-bn) bn (an+1) (val a an) (val b bn):=by
 obtain⟨b0,bo,rfl,_,_⟩:=hb.at (by omega)
 obtain⟨n1,hn1⟩:∃n1,bn-1=n1:=⟨_,rfl⟩
 obtain⟨m,hm⟩:∃m,an+1-bn=m:=⟨_,rfl⟩
 obtain⟨an1,han1⟩:∃x,an+1=x:=⟨_,rfl⟩
 rw[hm,han1];rw[hn1]at htop;obtain⟨hcl,hll⟩:=hb.cell (show n1<bn by omega);obtain⟨u,hu1,hu2,hlz⟩:=lz_any (b n1) htop hll;have hB:=up_room (s:=b) (n:=bn) (u:=u) (by omega) hb.2.2.1 (by rw[hn1];exact hu2)
 have hA:val a an*2^u<4294967296^an1:=by
  have h1:=val_lt a an ha.2.2.1;have h3:(2:Nat)^u<=2^32:=Nat.pow_le_pow_right (by omega) (by omega);have h4:val a an*2^u<4294967296^an*2^u:=Nat.mul_lt_mul_of_pos_right h1 (Nat.two_pow_pos u);have h5:4294967296^an*2^u<=4294967296^an*2^32:=Nat.mul_le_mul_left _ h3;rw[← han1,pow_succ32,Nat.mul_comm 4294967296]
  omega
 have hXD:val a an*2^u<val b bn*2^u*4294967296^m:=by
  have h1:=val_lt a an ha.2.2.1;have h3:=val_top b bn (by omega) (by rw[hn1];omega);rw[hn1]at h3;have h4:4294967296^n1*4294967296^m<=val b bn*4294967296^m:=Nat.mul_le_mul_right _ h3;rw[← pow_add32,show n1+m=an by omega]at h4;have h5:val b bn*2^u*4294967296^m=val b bn*4294967296^m*2^u:=by rw[Nat.mul_assoc,Nat.mul_comm (2^u),← Nat.mul_assoc]
  rw[h5];exact Nat.mul_lt_mul_of_pos_right (by omega) (Nat.two_pow_pos u)
 have hcb:=fun W (hW:SlAt W .u32 4294967296 (some ⟨b0,bo,none⟩) bn bc b)=>copied_own (some ⟨b0,bo,none⟩) bn bc b bn W hW (Nat.le_refl _) (by omega)
 have hca:=fun W (hW:SlAt W .u32 4294967296 aa an ac a)=>copied_own aa an ac a an1 W hW (by omega) (by omega)
 obtain⟨z,hz1,hz2,hmk⟩:=make_u32 m (by omega);obtain⟨A,hAe⟩:∃A,val a an=A:=⟨_,rfl⟩
 obtain⟨B,hBe⟩:∃B,val b bn=B:=⟨_,rfl⟩
 rw[hAe]at hA hXD hca ⊢;rw[hBe]at hB hXD hcb ⊢;have e1:(bn:Int)-1=(n1:Int):=by omega
 have e2:(an:Int)+1=(an1:Int):=by omega
 have e3:(an1:Int)-(bn:Int)=(m:Int):=by omega
 have i1:(n1:Int)<(bn:Int):=by omega
 have htp:4294967296^(bn-1)<=B*2^u:=by
  have h3:=val_top b bn (by omega) (by rw[hn1];omega);rw[hBe]at h3;exact Nat.le_trans h3 (Nat.le_mul_of_pos_right _ (Nat.two_pow_pos u))
 have HTP:=Lib.hid htp;have HCB:=Lib.hid hcb;have HCA:=Lib.hid hca;have HLZ:=Lib.hid hlz;have HSA:=Lib.hid ha;have HSB:=Lib.hid hb;have HB:=Lib.hid hB;have HA:=Lib.hid hA;have HXD:=Lib.hid hXD;have HZ1:=Lib.hid hz1;have HZ2:=Lib.hid hz2;have HU2:=Lib.hid hu2;have HM:Hid (m+bn=an1):=by show _=_;omega
 have hml:m<=1000000:=by omega
 have hbl:bn<=1000000:=by omega
 have hal:an1<=1000000:=by omega
 have hmb:bn<=an1:=by omega
 clear htp hcb hca hlz ha hb hB hA hXD hz1 hz2 hu2 hAe hBe hm han1 hn1 htop hll;go_enter Tryz.func217,Tryz.ntmps217
 go_wp2_with (go_at_call 244;refine(HLZ.out _).mono ?_;rintro e w1 ⟨rfl,rfl⟩)
 go_at_call 141;refine(HCB.out _ HSB.out).mono ?_;rintro e w1 ⟨bb,rfl,ho1,hb1⟩;have HO1:=Lib.hid ho1;have HB1:=Lib.hid hb1;clear ho1 hb1;go_wp2_with fail;go_at_call 245;refine(shiftUp_own w bb bn bn B u w1 HO1.out hbl hu1 HB.out).mono ?_;rintro e w2 ⟨rfl,ho2,hw2⟩;have HO2:=Lib.hid ho2;have HB2:=Lib.hid (hw2.below HB1.out HO1.out.ge HB1.out.size);clear ho2 hw2;go_wp2_with fail;go_at_call 141;refine(HCA.out w2 (HSA.out.below HB2.out)).mono ?_;rintro e w3 ⟨rb,rfl,ho3,hb3⟩;have hne:bb≠rb:=by have:=ho3.ge;have:=HO2.out.lt;omega
 have HNE:=Lib.hid hne;have HO3:Own w w3 rb an1 A:=⟨Nat.le_trans HB2.out.size ho3.ge,ho3.lt,ho3.free,ho3.row⟩
 have HO3':=Lib.hid HO3;have HO2':=Lib.hid (HO2.out.below hb3);have HB3:=Lib.hid (HB2.out.trans (hb3.mono HB2.out.size));clear ho3 hb3 hne HO3;go_wp2_with fail;go_at_call 245;refine(shiftUp_own w rb an1 an1 A u w3 HO3'.out hal hu1 HA.out).mono ?_;rintro e w4 ⟨rfl,ho4,hw4⟩;have HO4:=Lib.hid ho4;have HOD:=Lib.hid (HO2'.out.wrote hw4 HNE.out);have HB4:=Lib.hid (hw4.below HB3.out HO3'.out.ge HB3.out.size);clear ho4 hw4 HO2 HO2' HO1 HB1 HB2 HB3 HO3';obtain⟨d,hdv,hst⟩:=LongInv.start (z:=z) HO4.out HOD.out HB4.out HNE.out HZ2.out HXD.out hbl;obtain⟨qb,hqb⟩:∃qb,w4.heap.size=qb:=⟨_,rfl⟩
 rw[hqb]at hst;have HST:=Lib.hid hst;have HDV:=Lib.hid hdv
 have HDT:Hid (0<d (bn-1)):=by
  rcases Nat.eq_zero_or_pos (d (bn-1))with h|h
  · exfalso
    obtain⟨k,hk⟩:∃k,bn=k+1:=⟨bn-1,by omega⟩
    have h1:=hdv;rw[hk,val]at h1;rw[hk,Nat.add_sub_cancel]at h;rw[h,Nat.zero_mul,Nat.add_zero]at h1;have h3:=val_lt d k (fun j hj=>hst.div.2.2.1 j (by omega));have h4:=HTP.out;rw[hk,Nat.add_sub_cancel]at h4
    omega
  · exact h
 clear hst hdv HO4 HOD HB4;go_wp2_with fail
 go_loopw [42] (fun i wr=>∃k:Nat,k<=m/\i=.int .i64 k/\LongInv w wr rb qb bb an1 bn m d (A*2^u) (B*2^u) k)
  (fun i _=>m-(intOf i).toNat)
 case atStart=>exact⟨0,by omega,rfl,HST.out⟩
 case round =>
  obtain⟨k,hk,rfl,hr⟩:=hrel
  by_cases hlt:k<m
  · obtain⟨f,hf1,hf2,hf3⟩:=hr.part hlt HM.out HB.out hal;have hfr:=hr.freeR;have hfq:=hr.freeQ;have hdi:=hr.div;obtain⟨t,ht⟩:∃t,m-1-k=t:=⟨_,rfl⟩
    rw[ht]at hf1 hf3;have htd:=takeDigit_any rb t (an1-t) (some ⟨bb,0,none⟩) bn (bn-2) bn f d wr (by omega) hf1 hfr hdi (fun x hx=>by cases hx;exact hr.rbb) HDT.out (by rw[HDV.out];exact hf2);rw[HDV.out]at htd;have hqc:∃q0,Cells wr .u32 qb 0 m q0:=by obtain⟨r,q,_,_,h,_⟩:=hr.rows;exact⟨q,h⟩
    have t1:(m:Int)-1-(k:Int)=(t:Int):=by omega
    have t2:(t:Int)<(m:Int):=by omega
    have t0:(0:Int)<=(t:Int):=by omega
    have t3:t+(bn+1)<=an1:=by have:=HM.out;omega
    have HTD:=Lib.hid htd;have HF3:=Lib.hid hf3;have HRR:=Lib.hid hr;have HQC:=Lib.hid hqc;clear htd hf3 hr hqc ht hf1 hf2 hfr hfq hdi;go_wp2_with fail;rw[show t+bn+1-t=bn+1 by omega];go_at_call 246;refine HTD.out.mono ?_;rintro e w5 ⟨q,rfl,hq1,hq2,hrow⟩;have hnx:=HF3.out w5 q hq2 hq1 hrow;have hfz:w5.frozen? ⟨qb,t,none⟩=false:=(HRR.out.freeQ.wrote hrow.1 HRR.out.qb_lt) t;obtain⟨q0,hq0⟩:=HQC.out;have hcw:=(hq0.wrote hrow.1 HRR.out.qb_lt (fun e=>absurd e.symm HRR.out.rq)) t (by omega);rw[Nat.zero_add]at hcw;have HNX:=Lib.hid hnx;clear hnx hrow hq2 hq0;go_wp2
    go_roundw
    case rel=>exact⟨k+1,by omega,by go_num,HNX.out⟩
    case measure=>simp[intOf];omega
  · obtain rfl:k=m:=by omega
    obtain⟨hor,hoq⟩:=hr.last HB.out hmb;have HOR:=Lib.hid hor;have HOQ:=Lib.hid hoq;have HBL:=Lib.hid hr.below;have HRQ:=Lib.hid hr.rq;clear hor hoq hr;go_wp2_with fail;go_at_call 247;refine(shiftDown_own w rb bn an1 (A*2^u%(B*2^u)) u wr HOR.out hmb hal hu1).mono ?_;rintro e w6 ⟨rfl,ho6,hw6⟩
    have HE:LongEnd w w6 (.returned (.tuple #[.slice (some ⟨qb,0,none⟩) k k,.slice (some ⟨rb,0,none⟩) bn an1])) k bn an1 A B:=by
     refine⟨qb,rb,rfl,?_,?_,hw6.below HBL.out HOR.out.ge HBL.out.size⟩
     · have:=HOQ.out.wrote hw6 (Ne.symm HRQ.out);rw[Nat.mul_div_mul_right _ _ (Nat.two_pow_pos u)]at this;exact this
     · rw[Nat.mul_mod_mul_right,Nat.mul_div_cancel _ (Nat.two_pow_pos u)]at ho6;exact ho6
    clear ho6 hw6;go_wp2;go_ret2;exact HE
theorem below_alloc{w w':World}{o:Obj}(h:Below (w.alloc o).heap.size (w.alloc o) w'):Below w.heap.size w w' :=
 ((Below.refl _ _).alloc (Nat.le_refl _) o).trans (h.mono (by rw[World.size_alloc];omega))
theorem nat_zero{n:Nat}{f:Nat->Nat}{N:Nat}(hv:val f n=N)(ht:n=0∨f (n-1)≠0):N=0↔n=0:=by
 constructor
 · intro h
   rcases Nat.eq_zero_or_pos n with h0|h0
   · exact h0
   · have:=val_top f n h0 (ht.resolve_left (by omega));have:=pow_pos32 (n-1)
     omega
 · intro h;subst h;exact hv.symm
theorem nat_len_lt{na nb:Nat}{f g:Nat->Nat}(hf:∀j,j<na->f j<4294967296)(hb:nb=0∨g (nb-1)≠0)(h:na<nb):val f na<val g nb:=by
 have h1:=val_lt f na hf;have h2:=val_top g nb (by omega) (hb.resolve_left (by omega));have h3:=pow_mono32 (show na<=nb-1 by omega)
 omega
theorem val_lt_of{f g:Nat->Nat}{t n:Nat}(ht:t<n)(hf:∀j,j<n->f j<4294967296)(he:∀j,t<j->j<n->f j=g j)(h:f t<g t):val f n<val g n:=by
 rw[val_seg f (t+1) n (by omega),val_seg g (t+1) n (by omega),seg_congr (t+1) n (f:=f) (g:=g) (fun j h1 h2=>he j (by omega) h2),val,val];have h1:=val_lt f t (fun j hj=>hf j (by omega));have h2:(f t+1)*4294967296^t<=g t*4294967296^t:=Nat.mul_le_mul_right _ h;rw[Nat.add_mul]at h2
 omega
theorem zero_any(v:Value)(N:Nat)(w:World)(h:NatIs w v N):Calls Tryz.prog 114 #[v] w fun e w'=>e=.returned (.bool (decide (N=0)))/\Below w.heap.size w w':=by
 obtain⟨a,n,c,f,rfl,hs,hv,ht⟩:=h;have hz:=nat_zero hv ht;have e:decide (N=0)=decide (n=0):=by simp[hz]
 rw[e];have hb:=hs.1;have hb2:=hs.2.1;clear hs hv ht hz e;go_enter Tryz.func114,Tryz.ntmps114
 by_cases h0:n=0
 · subst h0;go_wp2;go_ret;exact⟨rfl,(Below.refl _ _).alloc (Nat.le_refl _) _⟩
 · have h1:((n:Int)==0)=false:=by simp;omega
   go_wp2;go_ret;exact⟨by simp[h0],(Below.refl _ _).alloc (Nat.le_refl _) _⟩
theorem limbs_any(v:Value)(N:Nat)(w:World)(h:NatIs w v N):Calls Tryz.prog 187 #[v] w fun e w'=>∃n:Nat,e=.returned (.int .i64 n)/\n<=1000000/\(n=0↔N=0)/\Hid (N<4294967296^n/\(0<n->4294967296^(n-1)<=N))/\Below w.heap.size w w':=by
 obtain⟨a,n,c,f,rfl,hs,hv,ht⟩:=h;have hz:=Lib.hid (nat_zero hv ht);have hp:Hid (N<4294967296^n/\(0<n->4294967296^(n-1)<=N)):=⟨by rw[← hv];exact val_lt f n hs.2.2.1,fun h0=>by rw[← hv];exact val_top f n h0 (ht.resolve_left (by omega))⟩
 have hb:n<=1000000:=by have:=hs.1;have:=hs.2.1;omega
 clear hs hv ht;go_enter Tryz.func187,Tryz.ntmps187;go_wp2;go_ret;exact⟨n,rfl,hb,hz.out.symm,hp,(Below.refl _ _).alloc (Nat.le_refl _) _⟩
theorem one_any(v:Value)(N:Nat)(w:World)(h:NatIs w v N):Calls Tryz.prog 168 #[v] w fun e w'=>e=.returned (.bool (decide (N=1)))/\Below w.heap.size w w':=by
 obtain⟨a,n,c,f,rfl,hs,hv,ht⟩:=h
 by_cases h1:n=1
 · subst h1;obtain⟨b,off,rfl,hb,hc,hl⟩:=hs.limb (show 0<1 by omega);have e:N=f 0:=by rw[← hv];simp[val]
   subst e;rw[Nat.add_zero]at hc;clear hs hv ht;generalize f 0=x at *
   by_cases h2:x=1
   · subst h2;go_enter Tryz.func168,Tryz.ntmps168;go_wp2;go_ret;exact⟨rfl,(Below.refl _ _).alloc (Nat.le_refl _) _⟩
   · have h3:((x:Int)==1)=false:=by simp;omega
     go_enter Tryz.func168,Tryz.ntmps168;go_wp2;go_ret;exact⟨by simp[h2],(Below.refl _ _).alloc (Nat.le_refl _) _⟩
 · have h2:¬N=1:=by
     intro h3
     rcases Nat.eq_zero_or_pos n with h0|h0
     · have:=(nat_zero hv ht).2 h0;omega
     · have h4:=val_top f n h0 (ht.resolve_left (by omega));have h5:=pow_mono32 (show 1<=n-1 by omega);rw[Nat.pow_one]at h5
       omega
   have h3:((n:Int)==1)=false:=by simp;omega
   have h4:decide ((n:Int)=1)=false:=by simp;omega
   rw[show decide (N=1)=false by simp[h2]];have hb:n<=1000000:=by have:=hs.1;have:=hs.2.1;omega
   clear hs hv ht h1 h2;go_enter Tryz.func168,Tryz.ntmps168;go_wp2;go_ret;exact⟨by simp,(Below.refl _ _).alloc (Nat.le_refl _) _⟩
def cmpI(a b:Nat):Int:=if a<b then -1 else if a=b then 0 else 1
def ordI(t:Bool):Int:=if t then -1 else 1
theorem below_drewN{B:Nat}{w w':World}(h:Below B w w')(q:Nat):Below B w (w'.drewN q):=h.trans ⟨rfl,rfl,rfl,Nat.le_refl _,fun _ _=>rfl⟩
theorem order_any(t:Bool)(w:World):Calls Tryz.prog 219 #[.bool t] w fun e w'=>e=.returned (.int .i64 (ordI t))/\w=w':=by
 cases t
 · go_enter Tryz.func219,Tryz.ntmps219;go_wp2;go_ret;exact⟨rfl,rfl⟩
 · go_enter Tryz.func219,Tryz.ntmps219;go_wp2;go_ret;exact⟨rfl,rfl⟩
theorem cmp_any(v u:Value)(N M:Nat)(w:World)(h:NatIs w v N)(g:NatIs w u M):Calls Tryz.prog 175 #[v,u] w fun e w'=>e=.returned (.int .i64 (cmpI N M))/\Below w.heap.size w w':=by
 obtain⟨a,n,c,f,rfl,hs,hv,ht⟩:=h;obtain⟨a2,n2,c2,f2,rfl,hs2,hv2,ht2⟩:=g;have hb:n<=1000000:=by have:=hs.1;have:=hs.2.1;omega
 have hb2:n2<=1000000:=by have:=hs2.1;have:=hs2.2.1;omega
 by_cases hn:n=n2
 · subst hn; have HS := Lib.hid hs; have HS2 := Lib.hid hs2; have HV := Lib.hid hv; have HV2 := Lib.hid hv2; have hne : ((n : Int) != (n : Int)) = false := by simp
   clear hs hs2 hv hv2 ht ht2;go_enter Tryz.func175,Tryz.ntmps175;go_wp2
   go_loopw [24] (fun i wr=>∃k:Nat,k<=n/\i=.int .i64 k/\Hid (Below w.heap.size w wr/\wr.cell? ⟨w.heap.size,0,none⟩=some (.slice a n c)/\wr.cell? ⟨w.heap.size+1,0,none⟩=some (.slice a2 n c2)/\∀j,n-k<=j->j<n->f j=f2 j))
    (fun i _=>n-(intOf i).toNat)
   case atStart=>exact⟨0,by omega,rfl,((Below.refl _ _).alloc (Nat.le_refl _) _).alloc (by simp) _,by simp,by simp,fun j h1 h2=>by omega⟩
   case round =>
    obtain⟨k,hk,rfl,hr⟩:=hrel;obtain⟨hbl,hc1,hc2,heq⟩:=hr.out
    by_cases hlt:k<n
    · obtain ⟨t, ht⟩ : ∃ t, n - 1 - k = t := ⟨_, rfl⟩
      obtain⟨b,off,rfl,_,hd1,hl1⟩:=(HS.out.below hbl).limb (show t<n by omega);obtain⟨b2,off2,rfl,_,hd2,hl2⟩:=(HS2.out.below hbl).limb (show t<n by omega);have e1:(n:Int)-1-(k:Int)=(t:Int):=by omega
      have w1:IntKind.i64.wrap ((n:Int)-1)=(n:Int)-1:=IntWalk.i64_in _ (by omega);have w2:IntKind.i64.wrap ((t:Int))=(t:Int):=IntWalk.i64_in _ (by omega);have t2:(t:Int)<(n:Int):=by omega
      have t0:(0:Int)<=(t:Int):=by omega
      by_cases hft:f t=f2 t
      · have HB:=Lib.hid hbl
        have HEQ:Hid (∀j,n-(k+1)<=j->j<n->f j=f2 j):=fun j h1 h2=>by
         by_cases e:j=t
         · subst e;exact hft
         · exact heq j (by omega) h2
        rw[← hft]at hd2;have HR:=hr;clear hbl heq hft hl2 hr;generalize f t=x at *;have hxx:((x:Int) != (x:Int))=false:=by simp
        have HC1:=Lib.hid hc1;have HC2:=Lib.hid hc2;go_wp2
        go_quiet (fail)
        go_wp2
        go_roundw
        case rel=>exact⟨k+1,by omega,by go_num,below_drewN HR.out.1 _,HC1.out,HC2.out,HEQ.out⟩
        case measure=>simp[intOf];omega
      · have HRES:Hid (cmpI N M=ordI (decide (f t<f2 t))):=by
          rw[← HV.out,← HV2.out]
          show cmpI _ _=_
          unfold cmpI ordI
          rcases Nat.lt_or_ge (f t) (f2 t)with h1|h1
          · have:=val_lt_of (f:=f) (g:=f2) (t:=t) (n:=n) (by omega) HS.out.2.2.1 (fun j h3 h4=>heq j (by omega) h4) h1;rw[if_pos this];simp[h1]
          · have h1':f2 t<f t:=by omega
            have:=val_lt_of (f:=f2) (g:=f) (t:=t) (n:=n) (by omega) HS2.out.2.2.1 (fun j h3 h4=>(heq j (by omega) h4).symm) h1';rw[if_neg (by omega),if_neg (by omega)];simp[Nat.not_lt.2 h1]
        have HB:=Lib.hid hbl;clear hbl heq hr;generalize f t=x at *;generalize f2 t=y at *;have hxx:((x:Int) != (y:Int))=true:=by simp;omega
        go_wp2
        go_quiet (fail)
        go_wp2_with (go_at_call 219;refine(order_any _ _).mono ?_;rintro e w1 ⟨rfl,rfl⟩)
        go_ret;exact⟨ret_int HRES.out.symm,below_drewN HB.out _⟩
    · obtain rfl:k=n:=by omega
      have HB:=Lib.hid hbl
      have HRES:Hid (cmpI N M=0):=by
       rw[← HV.out,← HV2.out]
       show cmpI _ _=_
       unfold cmpI;rw[val_congr k (f:=f) (g:=f2) (fun j hj=>heq j (by omega) hj),if_neg (by omega),if_pos rfl]
      clear hbl heq hc1 hc2 hr;go_wp2;go_ret;exact⟨ret_int HRES.out.symm,HB.out⟩
 · have HRES:Hid (cmpI N M=ordI (decide (n<n2))):=by
     rw[← hv,← hv2]
     show cmpI _ _=_
     unfold cmpI ordI
     rcases Nat.lt_or_ge n n2 with h1|h1
     · rw[if_pos (nat_len_lt hs.2.2.1 ht2 h1)];simp[h1]
     · have:=nat_len_lt hs2.2.2.1 ht (show n2<n by omega);rw[if_neg (by omega),if_neg (by omega)];simp[Nat.not_lt.2 h1]
   have hne:((n:Int) != (n2:Int))=true:=by simp;omega
   clear hs hs2 hv hv2 ht ht2;go_enter Tryz.func175,Tryz.ntmps175
   go_wp2_with (go_at_call 219;refine(order_any _ _).mono ?_;rintro e w1 ⟨rfl,rfl⟩)
   go_ret;exact⟨ret_int HRES.out.symm,((Below.refl _ _).alloc (Nat.le_refl _) _).alloc (by simp) _⟩
theorem val_pad'{p:Nat->Nat}{pn n:Nat}(h:pn<=n):val (fun j=>if j<pn then p j else 0) n=val p pn:=by rw[val_pad,Nat.min_eq_right h]
theorem addTo_own (w0 : World) (b n cs N : Nat) (pa : Option Addr) (pn pc : Nat) (p : Nat -> Nat) (w : World) (h : Own w0 w b n N) (hn : n <= 1000000) (hp : SlAt w .u32 4294967296 pa pn pc p) (hne : ∀ x, pa = some x -> x.block < w0.heap.size) (hpn : pn <= n)
    (hfit:N+val p pn<4294967296^n) :
    Calls Tryz.prog 216 #[.slice (some ⟨b,0,none⟩) n cs,.slice pa pn pc] w fun e w'=>e=.returned (.tuple #[])/\Own w0 w' b n (N+val p pn)/\Wrote b 0 n w w':=by
 obtain⟨f,h1,h2,h3⟩:=h.row;refine(addTo_any b 0 n cs f pa pn pc p w h.free h1 h2 hn hp (fun x hx=>by have:=hne x hx;have:=h.ge;omega)).mono ?_;rintro e w' ⟨rfl,c,hw,hf,d,hd,hb,_,hc,hR⟩;rw[Nat.zero_add]at hw;rw[val_pad' hpn,h3]at hR;refine⟨rfl,⟨h.ge,Nat.lt_of_lt_of_le h.lt hw.size,hf,d,hd,hb,?_⟩,hw⟩
 rcases Nat.eq_zero_or_pos c with h0|h0
 · subst h0;omega
 · have:1*4294967296^n<=c*4294967296^n:=Nat.mul_le_mul_right _ h0
   omega
theorem take_own (w0 : World) (b n cs N : Nat) (pa : Option Addr) (pn pc : Nat) (p : Nat -> Nat) (w : World) (h : Own w0 w b n N) (hn : n <= 1000000) (hp : SlAt w .u32 4294967296 pa pn pc p) (hne : ∀ x, pa = some x -> x.block < w0.heap.size) (hpn : pn <= n)
    (hfit:val p pn<=N) :
    Calls Tryz.prog 259 #[.slice (some ⟨b,0,none⟩) n cs,.slice pa pn pc,.int .u32 1] w fun e w'=>(∃t,e=.returned (.bool t))/\Own w0 w' b n (N-val p pn)/\Wrote b 0 n w w':=by
 obtain⟨f,h1,h2,h3⟩:=h.row;refine(takeTimes_any b 0 n cs f pa pn pc p 1 w h.free h1 h2 hn hp (fun x hx=>by have:=hne x hx;have:=h.ge;omega) (by omega)).mono ?_;rintro e w' ⟨c,hi,rfl,hw,hf,d,hd,hb,_,hc,hle,hR⟩;rw[Nat.zero_add]at hw;rw[val_pad' hpn,h3]at hR;have:=take_fits hR (val_lt d n hb) (by omega);exact⟨⟨_,rfl⟩,⟨h.ge,Nat.lt_of_lt_of_le h.lt hw.size,hf,d,hd,hb,by omega⟩,hw⟩
theorem NatIs.len{w:World}{a:Option Addr}{n c:Nat}{f:Nat->Nat}(hs:SlAt w .u32 4294967296 a n c f):n<=1000000:=by have:=hs.1;have:=hs.2.1;omega
theorem SlAt.old{w:World}{ki:IntKind}{m:Nat}{a:Option Addr}{n c:Nat}{f:Nat->Nat}(h:SlAt w ki m a n c f):∀x,a=some x->x.block<w.heap.size:=by
 intro x hx
 rcases h.2.2.2 with ⟨h4,_⟩|⟨b,off,h4,h5,_⟩
 · rw[h4]at hx;cases hx
 · rw[h4]at hx;cases hx;exact h5
def NatOut(w w':World)(e:Ending)(N:Nat):Prop:=∃v,e=.returned v/\NatIs w' v N/\Below w.heap.size w w'
structure Slot(w:World)(k:Nat)(v:Value):Prop where
 cell:w.cell? ⟨k,0,none⟩=some v
 free:w.frozen? ⟨k,0,none⟩=false
 lt:k<w.heap.size
theorem Slot.below{w w':World}{k:Nat}{v:Value}(h:Slot w k v)(hb:Below w.heap.size w w'):Slot w' k v :=
 ⟨(hb.cell (p:=⟨k,0,none⟩) h.lt).trans h.cell,(hb.frozen (p:=⟨k,0,none⟩) h.lt).trans h.free,Nat.lt_of_lt_of_le h.lt hb.size⟩
theorem Slot.wrote{w w':World}{k b lo hi:Nat}{v:Value}(h:Slot w k v)(hb:Wrote b lo hi w w')(hne:k≠b):Slot w' k v:=by
 have e:=hb.block k h.lt hne;exact⟨(World.cell?_of_block (w:=w) (w':=w') (a:=⟨k,0,none⟩) e).trans h.cell,(World.frozen?_of_block (w:=w) (w':=w') (a:=⟨k,0,none⟩) e).trans h.free,Nat.lt_of_lt_of_le h.lt hb.size⟩
theorem trimmed_pl (a : Option Addr) (n c : Nat) (f : Nat -> Nat) (w : World) (h : SlAt w .u32 4294967296 a n c f) :
    Calls Tryz.prog 143 #[.slice a n c] w fun e w'=>∃a' n' c' f',e=.returned (.agg #[.slice a' n' c'])/\SlAt w' .u32 4294967296 a' n' c' f'/\val f' n'=val f n/\(n'=0∨f' (n'-1)≠0)/\(a'=none∨a'=a)/\Below w.heap.size w w':=by
 refine(trimmed_any a n c f w h).mono ?_;rintro e w' ⟨rfl,hb⟩;unfold trimV
 by_cases h0:tl f n=0
 · rw[if_pos h0];exact⟨none,0,0,f,rfl,SlAt.nil _ _ _ _,by rw[← tl_val f n,h0],.inl rfl,.inl rfl,hb⟩
 · rw[if_neg h0];exact⟨a,tl f n,c,f,rfl,(h.take (tl_le f n)).below hb,tl_val f n,tl_last f n,.inr rfl,hb⟩
theorem natOut_store {w w3 : World} {k : Nat} {a : Option Addr} {n c : Nat} {f : Nat -> Nat} {N : Nat} (hb : Below w.heap.size w w3) (hk : w.heap.size <= k) (hs : SlAt w3 .u32 4294967296 a n c f) (hv : val f n = N) (ht : n = 0 ∨ f (n - 1) ≠ 0)
    (hd:∀x,a=some x->x.block≠k) (u:Value):NatOut w (w3.setCell ⟨k,0,none⟩ u) (.returned (.agg #[.slice a n c])) N :=
 ⟨_,rfl,⟨a,n,c,f,rfl,hs.wrote ((Wrote.refl k 0 1 w3).setCell (Nat.le_refl _) (by omega) u) hd,hv,ht⟩,hb.setCell hk u⟩
theorem Slot.new(w:World)(x:Value)(t:TypeId):Slot (w.alloc (.cells #[x] t)) w.heap.size x :=
 ⟨by rw[World.cell?_alloc_new];rfl,World.frozen?_alloc_new _ _ _ _,by rw[World.size_alloc];omega⟩
theorem Slot.alloc{w:World}{k:Nat}{v:Value}(h:Slot w k v)(o:Obj):Slot (w.alloc o) k v:=h.below ((Below.refl _ _).alloc (Nat.le_refl _) _)
theorem Slot.new1(w:World)(o:Obj)(x:Value)(t:TypeId):Slot ((w.alloc o).alloc (.cells #[x] t)) (w.heap.size+1) x:=by
 have:=Slot.new (w.alloc o) x t;rw[World.size_alloc]at this;exact this
theorem Slot.new2(w:World)(o o':Obj)(x:Value)(t:TypeId):Slot (((w.alloc o).alloc o').alloc (.cells #[x] t)) (w.heap.size+1+1) x:=by
 have:=Slot.new ((w.alloc o).alloc o') x t;rw[World.size_alloc,World.size_alloc]at this;exact this
theorem below2(w:World)(o o':Obj):Below w.heap.size w ((w.alloc o).alloc o'):=((Below.refl _ _).alloc (Nat.le_refl _) _).alloc (by rw[World.size_alloc];omega) _
theorem below3(w:World)(o o' o2:Obj):Below w.heap.size w (((w.alloc o).alloc o').alloc o2):=(below2 w o o').alloc (by rw[World.size_alloc,World.size_alloc];omega) _
theorem slot3(w:World)(x y z:Value)(t:TypeId):Slot (((w.alloc (.cells #[x] t)).alloc (.cells #[y] t)).alloc (.cells #[z] t)) w.heap.size x/\Slot (((w.alloc (.cells #[x] t)).alloc (.cells #[y] t)).alloc (.cells #[z] t)) (w.heap.size+1) y /\
    Slot (((w.alloc (.cells #[x] t)).alloc (.cells #[y] t)).alloc (.cells #[z] t)) (w.heap.size+1+1) z/\Below w.heap.size w (((w.alloc (.cells #[x] t)).alloc (.cells #[y] t)).alloc (.cells #[z] t)) :=
 ⟨((Slot.new w x t).alloc _).alloc _,(Slot.new1 w _ y t).alloc _,Slot.new2 w _ _ z t,below3 w _ _ _⟩
theorem NatIs.short{n:Nat}{f:Nat->Nat}{N k:Nat}(hv:val f n=N)(ht:n=0∨f (n-1)≠0)(hN:N<4294967296^k):n<=k:=by
 rcases Nat.lt_or_ge k n with h|h
 · have h1:=val_top f n (by omega) (ht.resolve_left (by omega));have h2:=pow_mono32 (show k<=n-1 by omega)
   omega
 · exact h
theorem add_core (a : Option Addr) (n c : Nat) (f : Nat -> Nat) (a2 : Option Addr) (n2 c2 : Nat) (f2 : Nat -> Nat) (w : World) (hs : SlAt w .u32 4294967296 a n c f) (hs2 : SlAt w .u32 4294967296 a2 n2 c2 f2) (hl : n + 1 <= 1000000) (hl2 : n2 + 1 <= 1000000) :
    Calls Tryz.prog 167 #[.agg #[.slice a n c],.agg #[.slice a2 n2 c2]] w fun e w'=>NatOut w w' e (val f n+val f2 n2):=by
 by_cases hlt:n<n2
 · obtain⟨m,hm⟩:∃m,n2+1=m:=⟨_,rfl⟩
   have e1:(n2:Int)+1=(m:Int):=by omega
   have hfit:val f2 n2+val f n<4294967296^m:=by
    have h1:=val_lt f n hs.2.2.1;have h2:=val_lt f2 n2 hs2.2.2.1;have h3:=pow_mono32 (show n<=n2 by omega);rw[← hm,pow_succ32];omega
   have hmm:m<=1000000/\n2<=m/\n<=m:=by omega
   have HS:=Lib.hid hs;have HS2:=Lib.hid hs2;have HF:=Lib.hid hfit;have HM:=Lib.hid hmm;clear hs hs2 hfit hm hmm;go_enter Tryz.func167,Tryz.ntmps167;go_wp2_with fail;go_at_call 141;obtain⟨s1,s2,s3,hB⟩:=slot3 w (.slice a2 n2 c2) (.slice a n c) (.slice none 0 0) 49;refine(copied_own a2 n2 c2 f2 m _ (HS2.out.below hB) HM.out.2.1 HM.out.1).mono ?_;rintro e w1 ⟨b,rfl,ho,hb⟩;have S2:=Lib.hid (s2.below hb);have S3:=Lib.hid (s3.below hb);have HB:=Lib.hid (hB.trans (hb.mono hB.size));have hbn:w.heap.size+3<=b:=by have:=ho.ge;simp at this;omega
   have HO:Hid (Own w w1 b m (val f2 n2)):=⟨by omega,ho.lt,ho.free,ho.row⟩
   have hc1:=S2.out.cell;clear ho hb s1 s2 s3 hB;go_wp2_with fail;go_at_call 216;refine(addTo_own w b m m (val f2 n2) a n c f w1 HO.out HM.out.1 (HS.out.below HB.out) HS.out.old HM.out.2.2 HF.out).mono ?_;rintro e w2 ⟨rfl,ho2,hw2⟩;obtain⟨g,hg,hgv⟩:=ho2.slAt HM.out.1;have HG:=Lib.hid hg;have HGV:=Lib.hid hgv;have T3:=Lib.hid (S3.out.wrote hw2 (by omega));have HB2:Hid (Below w.heap.size w w2):=hw2.below HB.out HO.out.ge HB.out.size;clear hg hgv ho2 hw2 hc1;go_wp2_with fail;go_at_call 143;refine(trimmed_pl _ m m g w2 HG.out).mono ?_;rintro e w3 ⟨a3,n3,c3,f3,rfl,hs3,hv3,ht3,hp3,hb3⟩;have U3:=T3.out.below hb3;have HEND:=natOut_store (u:=.slice a3 n3 c3) (k:=w.heap.size+1+1) (HB2.out.trans (hb3.mono HB2.out.size)) (by omega) hs3 (hv3.trans HGV.out) ht3 (by rintro x rfl;rcases hp3 with h|h<;>cases h;simp;omega);have hc4:=U3.cell;have hf4:=U3.free;rw[Nat.add_comm (val f2 n2)]at HEND;have HE:=Lib.hid HEND;clear hs3 hv3 ht3 hb3 hp3 U3 HEND;go_wp2;exact bodyPost_ret (v:=.agg #[.slice a3 n3 c3]) (by simp[results,Tryz.results167,go_sem,hc4]) rfl HE.out
 · obtain⟨m,hm⟩:∃m,n+1=m:=⟨_,rfl⟩
   have e1:(n:Int)+1=(m:Int):=by omega
   have hfit:val f n+val f2 n2<4294967296^m:=by
    have h1:=val_lt f n hs.2.2.1;have h2:=val_lt f2 n2 hs2.2.2.1;have h3:=pow_mono32 (show n2<=n by omega);rw[← hm,pow_succ32];omega
   have hmm:m<=1000000/\n<=m/\n2<=m:=by omega
   have HS:=Lib.hid hs;have HS2:=Lib.hid hs2;have HF:=Lib.hid hfit;have HM:=Lib.hid hmm;clear hs hs2 hfit hm hmm;go_enter Tryz.func167,Tryz.ntmps167;go_wp2_with fail;go_at_call 141;obtain⟨s1,s2,s3,hB⟩:=slot3 w (.slice a n c) (.slice a2 n2 c2) (.slice none 0 0) 49;refine(copied_own a n c f m _ (HS.out.below hB) HM.out.2.1 HM.out.1).mono ?_;rintro e w1 ⟨b,rfl,ho,hb⟩;have S2:=Lib.hid (s2.below hb);have S3:=Lib.hid (s3.below hb);have HB:=Lib.hid (hB.trans (hb.mono hB.size));have hbn:w.heap.size+3<=b:=by have:=ho.ge;simp at this;omega
   have HO:Hid (Own w w1 b m (val f n)):=⟨by omega,ho.lt,ho.free,ho.row⟩
   have hc1:=S2.out.cell;clear ho hb s1 s2 s3 hB;go_wp2_with fail;go_at_call 216;refine(addTo_own w b m m (val f n) a2 n2 c2 f2 w1 HO.out HM.out.1 (HS2.out.below HB.out) HS2.out.old HM.out.2.2 HF.out).mono ?_;rintro e w2 ⟨rfl,ho2,hw2⟩;obtain⟨g,hg,hgv⟩:=ho2.slAt HM.out.1;have HG:=Lib.hid hg;have HGV:=Lib.hid hgv;have T3:=Lib.hid (S3.out.wrote hw2 (by omega));have HB2:Hid (Below w.heap.size w w2):=hw2.below HB.out HO.out.ge HB.out.size;clear hg hgv ho2 hw2 hc1;go_wp2_with fail;go_at_call 143;refine(trimmed_pl _ m m g w2 HG.out).mono ?_;rintro e w3 ⟨a3,n3,c3,f3,rfl,hs3,hv3,ht3,hp3,hb3⟩;have U3:=T3.out.below hb3;have HEND:=natOut_store (u:=.slice a3 n3 c3) (k:=w.heap.size+1+1) (HB2.out.trans (hb3.mono HB2.out.size)) (by omega) hs3 (hv3.trans HGV.out) ht3 (by rintro x rfl;rcases hp3 with h|h<;>cases h;simp;omega);have hc4:=U3.cell;have hf4:=U3.free
   skip
   have HE:=Lib.hid HEND;clear hs3 hv3 ht3 hb3 hp3 U3 HEND;go_wp2;exact bodyPost_ret (v:=.agg #[.slice a3 n3 c3]) (by simp[results,Tryz.results167,go_sem,hc4]) rfl HE.out
theorem add_any(v u:Value)(N M:Nat)(w:World)(h:NatIs w v N)(g:NatIs w u M)(k:Nat)(hk:k<=900000)(hN:N<4294967296^k)(hM:M<4294967296^k):Calls Tryz.prog 167 #[v,u] w fun e w'=>NatOut w w' e (N+M):=by
 obtain⟨a,n,c,f,rfl,hs,hv,ht⟩:=h;obtain⟨a2,n2,c2,f2,rfl,hs2,hv2,ht2⟩:=g;have hl:=NatIs.short hv ht hN;have hl2:=NatIs.short hv2 ht2 hM;rw[← hv,← hv2];exact add_core a n c f a2 n2 c2 f2 w hs hs2 (by omega) (by omega)
def SubOut(w w':World)(e:Ending)(N M:Nat):Prop:=∃v,e=.returned (.tuple #[v,.bool (decide (M<=N))])/\NatIs w' v (N-M)/\Below w.heap.size w w'
theorem cmp_neg{N M:Nat}(h:N<M):cmpI N M = -1:=by unfold cmpI;rw[if_pos h]
theorem cmp_pos{N M:Nat}(h:M<=N):∃k:Nat,cmpI N M=(k:Int):=by
 unfold cmpI;rw[if_neg (by omega)];split
 · exact⟨0,rfl⟩
 · exact⟨1,rfl⟩
theorem sub_any(v u:Value)(N M:Nat)(w:World)(h:NatIs w v N)(g:NatIs w u M):Calls Tryz.prog 251 #[v,u] w fun e w'=>SubOut w w' e N M:=by
 have HC:=fun w1 (hb:Below w.heap.size w w1)=>cmp_any v u N M w1 (h.below hb) (g.below hb)
 obtain⟨a,n,c,f,rfl,hs,hv,ht⟩:=h;obtain⟨a2,n2,c2,f2,rfl,hs2,hv2,ht2⟩:=g;obtain⟨s1,s2,s3,hB⟩:=slot3 w (.slice a n c) (.slice a2 n2 c2) (.slice none 0 0) 49
 by_cases hlt:N<M
 · have hcm:=cmp_neg hlt;rw[hcm]at HC;have HC2:=Lib.hid HC;have HB:=Lib.hid hB;have S3:=Lib.hid s3;have HLT:=Lib.hid hlt;clear HC hcm hs hs2 hv hv2 ht ht2 s1 s2 s3 hB hlt;go_enter Tryz.func251,Tryz.ntmps251;go_wp2_with fail;go_at_call 175;refine(HC2.out _ HB.out).mono ?_;rintro e w1 ⟨rfl,hb1⟩;have t3:=S3.out.below hb1;have hc3:=t3.cell;have hf3:=t3.free
   have HEND:SubOut w (w1.setCell ⟨w.heap.size+1+1,0,none⟩ (.slice none 0 0)) (.returned (.tuple #[.agg #[.slice none 0 0],.bool false])) N M:=by
    have h0:N-M=0:=by have:=HLT.out;omega
    have h1:decide (M<=N)=false:=by have:=HLT.out;simp;omega
    refine⟨_,by rw[h1],by rw[h0];exact NatIs.zero _,(HB.out.trans (hb1.mono HB.out.size)).setCell (by simp;omega) _⟩
   have HE:=Lib.hid HEND;clear hb1 t3 HEND;go_wp2;exact bodyPost_ret (v:=.tuple #[.agg #[.slice none 0 0],.bool false]) (by simp[results,Tryz.results251,go_sem,hc3]) rfl HE.out
 · obtain⟨k,hk⟩:=cmp_pos (show M<=N by omega);rw[hk]at HC
   have hlen:n2<=n:=by
    rcases Nat.lt_or_ge n n2 with h|h
    · have:=nat_len_lt hs.2.2.1 ht2 h;omega
    · exact h
   have hnl:=NatIs.len hs;have HC2:=Lib.hid HC;have HB:=Lib.hid hB;have S1:=Lib.hid s1;have S2:=Lib.hid s2;have S3:=Lib.hid s3;have HLT:=Lib.hid hlt;have HS:=Lib.hid hs;have HS2:=Lib.hid hs2;have HV:=Lib.hid hv;have HV2:=Lib.hid hv2;clear HC hk hs hs2 hv hv2 ht ht2 s1 s2 s3 hB hlt;go_enter Tryz.func251,Tryz.ntmps251;go_wp2_with fail;go_at_call 175;refine(HC2.out _ HB.out).mono ?_;rintro e w1 ⟨rfl,hb1⟩;have HB1:=Lib.hid (HB.out.trans (hb1.mono HB.out.size));have T1:=Lib.hid (S1.out.below hb1);have T2:=Lib.hid (S2.out.below hb1);have T3:=Lib.hid (S3.out.below hb1);have hc1:=T1.out.cell;clear hb1;go_wp2_with fail;go_at_call 141;refine(copied_own a n c f n w1 (HS.out.below HB1.out) (Nat.le_refl _) hnl).mono ?_;rintro e w2 ⟨b,rfl,ho,hb2⟩;have U2:=Lib.hid (T2.out.below hb2);have U3:=Lib.hid (T3.out.below hb2);have HB2:=Lib.hid (HB1.out.trans (hb2.mono HB1.out.size));have hbn:w.heap.size+3<=b:=by have:=ho.ge;have:=T3.out.lt;omega
   have HO:Hid (Own w w2 b n N):=⟨by omega,ho.lt,ho.free,by rw[← HV.out];exact ho.row⟩
   have hc2:=U2.out.cell;clear hb2 ho hc1;go_wp2_with fail;go_at_call 259;refine(take_own w b n n N a2 n2 c2 f2 w2 HO.out hnl (HS2.out.below HB2.out) HS2.out.old hlen (by rw[HV2.out];have:=HLT.out;omega)).mono ?_;rintro e w3 ⟨⟨t,rfl⟩,ho3,hw3⟩;obtain⟨q,hq,hqv⟩:=ho3.slAt hnl;have HQ:=Lib.hid hq;have HQV:=Lib.hid hqv;have V3:=Lib.hid (U3.out.wrote hw3 (by omega));have HB3:Hid (Below w.heap.size w w3):=hw3.below HB2.out HO.out.ge HB2.out.size;clear hq hqv ho3 hw3 hc2;go_wp2_with fail;go_at_call 143;refine(trimmed_pl _ n n q w3 HQ.out).mono ?_;rintro e w4 ⟨a3,n3,c3,f3,rfl,hs3,hv3,ht3,hp3,hb4⟩;have X3:=V3.out.below hb4;obtain⟨v',hv',hn',hbe⟩:=natOut_store (u:=.slice a3 n3 c3) (k:=w.heap.size+1+1) (HB3.out.trans (hb4.mono HB3.out.size)) (by omega) hs3 (hv3.trans HQV.out) ht3 (by rintro x rfl;rcases hp3 with h|h<;>cases h;simp;omega);have hc4:=X3.cell;have hf4:=X3.free
   have HEND:SubOut w (w4.setCell ⟨w.heap.size+1+1,0,none⟩ (.slice a3 n3 c3)) (.returned (.tuple #[.agg #[.slice a3 n3 c3],.bool true])) N M:=by
    cases hv'
    have h1:decide (M<=N)=true:=by have:=HLT.out;simp;omega
    refine⟨_,by rw[h1],by rw[← HV2.out];exact hn',hbe⟩
   have HE:=Lib.hid HEND;clear hs3 hv3 ht3 hb4 hp3 X3 hv' hn' hbe HEND;go_wp2;exact bodyPost_ret (v:=.tuple #[.agg #[.slice a3 n3 c3],.bool true]) (by simp[results,Tryz.results251,go_sem,hc4]) rfl HE.out
structure MulInv(w wr:World)(x y:Value)(pb m na:Nat)(A:Nat)(g:Nat->Nat)(i:Nat):Prop where
 below:Below w.heap.size w wr
 s1:Slot wr w.heap.size x
 s2:Slot wr (w.heap.size+1) y
 s3:Slot wr (w.heap.size+1+1) (.slice none 0 0)
 lt:pb<wr.heap.size
 free:Free wr pb
 row:∃d,Cells wr .u32 pb 0 m d/\(∀j,j<m->d j<4294967296)/\val d (i+na)=A*val g i/\∀j,i+na<=j->d j=0
theorem MulInv.next {w wr w2 : World} {x y : Value} {pb m na A : Nat} {f g : Nat -> Nat} {i : Nat} {d : Nat -> Nat} (h : MulInv w wr x y pb m na A g i) (hpb : w.heap.size + 3 <= pb) (hA : val f na = A) (hm : i + (na + 1) <= m)
    (hd:Cells wr .u32 pb 0 m d) (hdv:val d (i+na)=A*val g i) (hd0:∀j,i+na<=j->d j=0) (hdb:∀j,j<m->d j<4294967296)
    (hr:RowU pb i (m-i) (fun j=>d (i+j)) wr w2 (fun j=>na<j) (MulEnd (fun j=>d (i+j)) f (g i) na)):MulInv w w2 x y pb m na A g (i+1):=by
 obtain⟨hw,hf,e,he,heb,heu,hev⟩:=hr;have hne:∀k,k<w.heap.size+3->k≠pb:=fun k hk=>by omega
 obtain⟨d2,hda,hdn⟩:∃d2:Nat->Nat,(∀j,i<=j/\j<m->d2 j=e (j-i))/\(∀j,¬(i<=j/\j<m)->d2 j=d j):=⟨fun j=>if i<=j/\j<m then e (j-i)else d j,fun j hj=>if_pos hj,fun j hj=>if_neg hj⟩
 refine⟨hw.below h.below (by omega) h.below.size,h.s1.wrote hw (hne _ (by omega)),h.s2.wrote hw (hne _ (by omega)),h.s3.wrote hw (hne _ (by omega)),Nat.lt_of_lt_of_le h.lt hw.size,hf,d2,?_,?_,?_,?_⟩
 · intro j hj;rw[Nat.zero_add]
   by_cases c:i<=j/\j<m
   · rw[hda j c];have:=he (j-i) (by omega);rw[show i+(j-i)=j by omega]at this;exact this
   · rw[hdn j c,hw.cell j (by omega)];have:=hd j hj;rw[Nat.zero_add]at this;exact this
 · intro j hj
   by_cases c:i<=j/\j<m
   · rw[hda j c];exact heb _ (by omega)
   · rw[hdn j c];exact hdb j hj
 · unfold MulEnd at hev
   rw[show i+1+na=i+(na+1)by omega,val_shift,val_congr i (f:=d2) (g:=d) (fun j hj=>hdn j (by omega)),
    val_congr (na+1) (f:=fun j=>d2 (i+j)) (g:=e) (fun j hj=>by show d2 (i+j)=_;rw[hda _ (by omega),Nat.add_sub_cancel_left]),hev,hA,val]
   rw[val_shift]at hdv;rw[Nat.mul_add,Nat.mul_add];have e1:A*(g i*4294967296^i)=4294967296^i*(g i*A):=by rw[Nat.mul_comm A,Nat.mul_comm (4294967296^i),Nat.mul_right_comm]
   omega
 · intro j hj
   by_cases c:i<=j/\j<m
   · rw[hda j c];have:=heu (j-i) (by omega);rw[this]
     show d (i+(j-i))=0
     exact hd0 _ (by omega)
   · rw[hdn j c];exact hd0 j (by omega)
theorem mul_core (a : Option Addr) (n c : Nat) (f : Nat -> Nat) (a2 : Option Addr) (n2 c2 : Nat) (g : Nat -> Nat) (w : World) (hs : SlAt w .u32 4294967296 a n c f) (hs2 : SlAt w .u32 4294967296 a2 n2 c2 g) (hl : n + n2 <= 1000000) :
    Calls Tryz.prog 176 #[.agg #[.slice a n c],.agg #[.slice a2 n2 c2]] w fun e w'=>NatOut w w' e (val f n*val g n2):=by
 obtain⟨m,hm⟩:∃m,n+n2=m:=⟨_,rfl⟩
 have e1:(n:Int)+(n2:Int)=(m:Int):=by omega
 obtain⟨z,hz1,hz2,hmk⟩:=make_u32 m (by omega);obtain⟨s1,s2,s3,hB⟩:=slot3 w (.slice a n c) (.slice a2 n2 c2) (.slice none 0 0) 49
 have hst:MulInv w ((((w.alloc (.cells #[.slice a n c] 49)).alloc (.cells #[.slice a2 n2 c2] 49)).alloc (.cells #[.slice none 0 0] 49)).alloc (.cells z.toArray 177)) (.slice a n c) (.slice a2 n2 c2) (w.heap.size+1+1+1) m n (val f n) g 0:=by
  have hn:=heap_new (((w.alloc (.cells #[.slice a n c] 49)).alloc (.cells #[.slice a2 n2 c2] 49)).alloc (.cells #[.slice none 0 0] 49)) (.cells z.toArray 177);rw[World.size_alloc,World.size_alloc,World.size_alloc]at hn;refine⟨hB.alloc hB.size _,s1.alloc _,s2.alloc _,s3.alloc _,by rw[World.size_alloc,World.size_alloc,World.size_alloc,World.size_alloc];omega,Free.of_block hn,fun _=>0,Cells.of_block hn hz2,fun _ _=>by show 0<_;omega,?_,fun _ _=>rfl⟩
  have:∀k,val (fun _=>0) k=0:=fun k=>by induction k with
   | zero=>rfl
   | succ k ih=>rw[val,ih];omega
  rw[this];simp[val]
 have hml:m<=1000000:=by omega
 have HST:=Lib.hid hst;have HS:=Lib.hid hs;have HS2:=Lib.hid hs2;have HM:=Lib.hid hm;clear hst hs hs2 hm hz1 hz2 s1 s2 s3 hB hl;obtain⟨A,hA⟩:∃A,val f n=A:=⟨_,rfl⟩
 rw[hA]at HST ⊢;have HA:=Lib.hid hA;clear hA;go_enter Tryz.func176,Tryz.ntmps176;go_wp2
 go_loopw [18] (fun i wr=>∃k:Nat,k<=n2/\i=.int .i64 k/\MulInv w wr (.slice a n c) (.slice a2 n2 c2) (w.heap.size+1+1+1) m n A g k)
  (fun i _=>n2-(intOf i).toNat)
 case atStart=>exact⟨0,by omega,rfl,HST.out⟩
 case round =>
  obtain⟨k,hk,rfl,hr⟩:=hrel
  by_cases hlt:k<n2
  · obtain⟨d,hd,hdb,hdv,hd0⟩:=hr.row;obtain⟨b2,off2,rfl,_,hg1,hgl⟩:=(HS2.out.below hr.below).limb hlt;have hc1:=hr.s1.cell;have hc2:=hr.s2.cell;have hmm:=HM.out
    have hcd:Cells wr.drew .u32 (w.heap.size+1+1+1) k (m-k) (fun j=>d (k+j)):=fun j hj=>by
     have:=hd (k+j) (by omega);rw[Nat.zero_add]at this;exact this
    have hcall:=addTimes_any (w.heap.size+1+1+1) k (m-k) (m-k) (fun j=>d (k+j)) a n c f (g k) wr.drew hr.free hcd (fun j hj=>hdb _ (by omega)) (by omega) (HS.out.below hr.below.drew) (fun x hx=>by have:=HS.out.old x hx;omega) hgl (by omega);have HCALL:=Lib.hid hcall
    have hnx:∀w2,RowU (w.heap.size+1+1+1) k (m-k) (fun j=>d (k+j)) wr.drew w2 (fun j=>n<j) (MulEnd (fun j=>d (k+j)) f (g k) n)->MulInv w w2 (.slice a n c) (.slice (some ⟨b2,off2,none⟩) n2 c2) (w.heap.size+1+1+1) m n A g (k+1):=fun w2 h =>
     MulInv.next (wr:=wr) (d:=d) hr (by omega) HA.out (by omega) hd hdv hd0 hdb ⟨(Wrote.refl _ _ _ _).drew.trans h.1,h.2⟩
    have HNX:=Lib.hid hnx;have t2:(k:Int)<=(m:Int):=by omega
    have t3:(k:Int)<(n2:Int):=by omega
    have t0:(0:Int)<=(k:Int):=by omega
    clear hcall hnx hcd hd hdb hdv hd0 hr;go_wp2_with fail;refine wp_region_still_tail 10 (by kernel_rfl) (by kernel_rfl) ?_;simp only[List.take_succ_cons,List.take_zero,List.drop_succ_cons,List.drop_zero]
    repeat still_step
    refine wpStill_nil ?_
    change wpList _ _ _ _ _ wr.drew
    go_wp2_with fail;go_at_call 220;refine HCALL.out.mono ?_;rintro e w2 ⟨rfl,hrow⟩;have HN2:=Lib.hid (HNX.out w2 hrow);clear hrow hc1 hc2 hg1;go_wp2
    go_roundw
    case rel=>exact⟨k+1,by omega,by go_num,HN2.out⟩
    case measure=>simp[intOf];omega
  · obtain rfl:k=n2:=by omega
    obtain⟨d,hd,hdb,hdv,_⟩:=hr.row;have hmm:=HM.out;rw[Nat.add_comm,hmm]at hdv;have HSL:Hid (SlAt wr .u32 4294967296 (some ⟨w.heap.size+1+1+1,0,none⟩) m m d):=⟨Nat.le_refl _,hml,hdb,.inr ⟨_,0,rfl,hr.lt,hd⟩⟩
    have HDV:=Lib.hid hdv;have HB:=Lib.hid hr.below;have S3:=Lib.hid hr.s3;clear hr hd hdb hdv hmm;go_wp2_with fail;go_at_call 143;refine(trimmed_pl _ m m d wr HSL.out).mono ?_;rintro e w4 ⟨a3,n3,c3,f3,rfl,hs3,hv3,ht3,hp3,hb4⟩;have X3:=S3.out.below hb4;have HEND:=natOut_store (u:=.slice a3 n3 c3) (k:=w.heap.size+1+1) (HB.out.trans (hb4.mono HB.out.size)) (by omega) hs3 (hv3.trans HDV.out) ht3 (by rintro x rfl;rcases hp3 with h|h<;>cases h;simp);have hc4:=X3.cell;have hf4:=X3.free;have HE:=Lib.hid HEND;clear hs3 hv3 ht3 hb4 hp3 X3 HEND;go_wp2;exact bodyPost_ret (v:=.agg #[.slice a3 n3 c3]) (by simp[results,Tryz.results176,go_sem,hc4]) rfl HE.out
theorem mul_any(v u:Value)(N M:Nat)(w:World)(h:NatIs w v N)(g:NatIs w u M)(k:Nat)(hk:k<=400000)(hN:N<4294967296^k)(hM:M<4294967296^k):Calls Tryz.prog 176 #[v,u] w fun e w'=>NatOut w w' e (N*M):=by
 obtain⟨a,n,c,f,rfl,hs,hv,ht⟩:=h;obtain⟨a2,n2,c2,f2,rfl,hs2,hv2,ht2⟩:=g;have hl:=NatIs.short hv ht hN;have hl2:=NatIs.short hv2 ht2 hM;rw[← hv,← hv2];exact mul_core a n c f a2 n2 c2 f2 w hs hs2 (by omega)
def OfOut(w w':World)(e:Ending)(x:Nat):Prop:=∃a n c f,e=.returned (.agg #[.slice a n c])/\SlAt w' .u32 4294967296 a n c f/\val f n=x/\(n=0∨f (n-1)≠0)/\(∀y,a=some y->w.heap.size<=y.block)/\Below w.heap.size w w'
theorem of_pl(x:Nat)(w:World)(hx:x<18446744073709551616):Calls Tryz.prog 146 #[.int .u64 x] w fun e w'=>OfOut w w' e x:=by
 obtain⟨lo,hlo⟩:∃lo,x%4294967296=lo:=⟨_,rfl⟩
 obtain⟨hi,hhi⟩:∃hi,x / 4294967296=hi:=⟨_,rfl⟩
 have e1:(x:Int)%4294967296=(lo:Int):=by omega
 have e2:(x:Int) / 4294967296=(hi:Int):=by omega
 have e3:(hi:Int)%4294967296=(hi:Int):=by omega
 have s0:=Slot.new w (.slice none 0 0) 49;have hn:=heap_new (w.alloc (.cells #[.slice none 0 0] 49)) (.cells #[.int .u32 lo,.int .u32 hi] 177);rw[World.size_alloc]at hn
 have hsl:SlAt ((w.alloc (.cells #[.slice none 0 0] 49)).alloc (.cells #[.int .u32 lo,.int .u32 hi] 177)) .u32 4294967296 (some ⟨w.heap.size+1,0,none⟩) 2 2 (fun j=>if j=0 then lo else hi):=by
  refine⟨Nat.le_refl _,by omega,fun j hj=>by show(if j=0 then lo else hi)<_;split<;>omega,.inr ⟨_,0,rfl,by rw[World.size_alloc,World.size_alloc];omega,Cells.of_block (cs := [.int .u32 lo,.int .u32 hi]) hn ?_⟩⟩;intro j hj
  match j,hj with
  | 0,_=>rfl
  | 1,_=>rfl
 have hv:val (fun j=>if j=0 then lo else hi) 2=x:=by simp[val];omega
 have HT:=Lib.hid (trimmed_pl _ 2 2 _ _ hsl);have HV:=Lib.hid hv;have S0:=Lib.hid (s0.alloc (.cells #[.int .u32 lo,.int .u32 hi] 177));have HB:=Lib.hid (below2 w (.cells #[.slice none 0 0] 49) (.cells #[.int .u32 lo,.int .u32 hi] 177));clear s0 hn hsl hv hlo hhi;go_enter Tryz.func146,Tryz.ntmps146;go_wp2_with fail;go_at_call 143;refine HT.out.mono ?_;rintro e w4 ⟨a3,n3,c3,f3,rfl,hs3,hv3,ht3,hp3,hb4⟩;have X3:=S0.out.below hb4
 have HEND:OfOut w (w4.setCell ⟨w.heap.size,0,none⟩ (.slice a3 n3 c3)) (.returned (.agg #[.slice a3 n3 c3])) x :=
  ⟨a3,n3,c3,f3,rfl,hs3.wrote ((Wrote.refl w.heap.size 0 1 w4).setCell (Nat.le_refl _) (by omega) _) (by rintro y rfl;rcases hp3 with h|h<;>cases h;simp),hv3.trans HV.out,ht3,by rintro y rfl;rcases hp3 with h|h<;>cases h;simp,(HB.out.trans (hb4.mono HB.out.size)).setCell (Nat.le_refl _) _⟩
 have hc4:=X3.cell;have hf4:=X3.free;have HE:=Lib.hid HEND;clear hs3 hv3 ht3 hb4 hp3 X3 HEND;go_wp2;exact bodyPost_ret (v:=.agg #[.slice a3 n3 c3]) (by simp[results,Tryz.results146,go_sem,hc4]) rfl HE.out
theorem of_any(x:Nat)(w:World)(hx:x<18446744073709551616):Calls Tryz.prog 146 #[.int .u64 x] w fun e w'=>NatOut w w' e x :=
 (of_pl x w hx).mono fun _ _ ⟨a,n,c,f,h1,h2,h3,h4,_,h6⟩=>⟨_,h1,⟨a,n,c,f,rfl,h2,h3,h4⟩,h6⟩
def modz(N M:Nat):Nat:=if M=0 then 0 else N%M
def DivOut(w w':World)(e:Ending)(N M:Nat):Prop:=∃v u,e=.returned (.tuple #[v,u,.bool (decide (M≠0))])/\NatIs w' v (N / M)/\NatIs w' u (modz N M)/\Below w.heap.size w w'
theorem divOut_store {w w5 : World} {k1 k2 : Nat} {a1 a2 : Option Addr} {n1 c1 n2 c2 : Nat} {f1 f2 : Nat -> Nat} {N M : Nat} (hM : M ≠ 0) (hb : Below w.heap.size w w5) (hk1 : w.heap.size <= k1) (hk2 : w.heap.size <= k2)
    (hs1:SlAt w5 .u32 4294967296 a1 n1 c1 f1) (hv1:val f1 n1=N / M) (ht1:n1=0∨f1 (n1-1)≠0) (hd1:∀x,a1=some x->x.block≠k1/\x.block≠k2)
    (hs2:SlAt w5 .u32 4294967296 a2 n2 c2 f2) (hv2:val f2 n2=N%M) (ht2:n2=0∨f2 (n2-1)≠0) (hd2:∀x,a2=some x->x.block≠k1/\x.block≠k2) (u1 u2:Value) :
    DivOut w ((w5.setCell ⟨k1,0,none⟩ u1).setCell ⟨k2,0,none⟩ u2) (.returned (.tuple #[.agg #[.slice a1 n1 c1],.agg #[.slice a2 n2 c2],.bool true])) N M:=by
 have q1:Wrote k1 0 1 w5 (w5.setCell ⟨k1,0,none⟩ u1):=(Wrote.refl k1 0 1 w5).setCell (Nat.le_refl _) (by omega) u1;have q2:Wrote k2 0 1 (w5.setCell ⟨k1,0,none⟩ u1) ((w5.setCell ⟨k1,0,none⟩ u1).setCell ⟨k2,0,none⟩ u2):=(Wrote.refl k2 0 1 _).setCell (Nat.le_refl _) (by omega) u2;refine⟨_,_,by rw[show decide (M≠0)=true by simp[hM]],⟨a1,n1,c1,f1,rfl,(hs1.wrote q1 (fun x hx=>(hd1 x hx).1)).wrote q2 (fun x hx=>(hd1 x hx).2),hv1,ht1⟩,⟨a2,n2,c2,f2,rfl,(hs2.wrote q1 (fun x hx=>(hd2 x hx).1)).wrote q2 (fun x hx=>(hd2 x hx).2),?_,ht2⟩,(hb.setCell hk1 u1).setCell hk2 u2⟩;unfold modz;rw[if_neg hM];exact hv2
theorem slot4 (w : World) (x y z z' : Value) (t : TypeId) : let W := ((((w.alloc (.cells #[x] t)).alloc (.cells #[y] t)).alloc (.cells #[z] t)).alloc (.cells #[z'] t))
    Slot W w.heap.size x/\Slot W (w.heap.size+1) y/\Slot W (w.heap.size+1+1) z/\Slot W (w.heap.size+1+1+1) z'/\Below w.heap.size w W:=by
 obtain⟨a,b,c,d⟩:=slot3 w x y z t;refine⟨a.alloc _,b.alloc _,c.alloc _,?_,d.alloc d.size _⟩;have:=Slot.new (((w.alloc (.cells #[x] t)).alloc (.cells #[y] t)).alloc (.cells #[z] t)) z' t;rw[World.size_alloc,World.size_alloc,World.size_alloc]at this;exact this
theorem divideBy_own (w0 : World) (b n cs N m : Nat) (w : World) (h : Own w0 w b n N) (hn : n <= 1000000) (hm : m < 4294967296) (hm0 : 0 < m) :
    Calls Tryz.prog 142 #[.slice (some ⟨b,0,none⟩) n cs,.int .u32 m] w fun e w'=>e=.returned (.int .u32 (N%m:Nat))/\Own w0 w' b n (N / m)/\Wrote b 0 n w w':=by
 obtain⟨f,h1,h2,h3⟩:=h.row;refine(divideBy_any b 0 n cs f m w h.free h1 h2 hn hm hm0).mono ?_;rintro e w' ⟨r,rfl,hr,hw,hf,d,hd,hb,_,hR⟩;rw[Nat.zero_add]at hw;unfold DivEnd at hR;rw[h3]at hR;have e1:N%m=r:=by rw[← hR,Nat.mul_add_mod,Nat.mod_eq_of_lt hr]
 have e2:N / m=val d n:=by rw[← hR,Nat.mul_add_div hm0,Nat.div_eq_of_lt hr,Nat.add_zero]
 exact⟨by rw[e1],⟨h.ge,Nat.lt_of_lt_of_le h.lt hw.size,hf,d,hd,hb,e2.symm⟩,hw⟩
theorem divMod_any(v u:Value)(N M:Nat)(w:World)(h:NatIs w v N)(g:NatIs w u M)(k:Nat)(hk:k<=900000)(hN:N<4294967296^k):Calls Tryz.prog 171 #[v,u] w fun e w'=>DivOut w w' e N M:=by
 have HZ:=Lib.hid (fun w1 (hb:Below w.heap.size w w1)=>zero_any u M w1 (g.below hb));have HC:=Lib.hid (fun w1 (hb:Below w.heap.size w w1)=>cmp_any v u N M w1 (h.below hb) (g.below hb));obtain⟨a,n,c,f,rfl,hs,hv,ht⟩:=h;obtain⟨a2,n2,c2,f2,rfl,hs2,hv2,ht2⟩:=g;have hn:n<=900000:=Nat.le_trans (NatIs.short hv ht hN) hk;obtain⟨s1,s2,s3,s4,hB⟩:=slot4 w (.slice a n c) (.slice a2 n2 c2) (.slice none 0 0) (.slice none 0 0) 49;have HB:=Lib.hid hB;have S1:=Lib.hid s1;have S2:=Lib.hid s2;have S3:=Lib.hid s3;have S4:=Lib.hid s4;have HS:=Lib.hid hs;have HS2:=Lib.hid hs2;have HV:=Lib.hid hv;have HV2:=Lib.hid hv2;have HT:=Lib.hid ht;have HT2:=Lib.hid ht2;clear s1 s2 s3 s4 hB hs hs2 hv hv2 ht ht2 hN hk
 by_cases h0:M=0
 · subst h0;go_enter Tryz.func171,Tryz.ntmps171;go_wp2_with fail;go_at_call 114;refine(HZ.out _ HB.out).mono ?_;rintro e w1 ⟨rfl,hb1⟩;have t3:=S3.out.below hb1;have t4:=S4.out.below hb1;have hc3:=t3.cell;have hf3:=t3.free;have hc4:=t4.cell;have hf4:=t4.free
   have HE:Hid (DivOut w ((w1.setCell ⟨w.heap.size+1+1,0,none⟩ (.slice none 0 0)).setCell ⟨w.heap.size+1+1+1,0,none⟩ (.slice none 0 0)) (.returned (.tuple #[.agg #[.slice none 0 0],.agg #[.slice none 0 0],.bool false])) N 0) :=
    ⟨_,_,rfl,by rw[Nat.div_zero];exact NatIs.zero _,NatIs.zero _,((HB.out.trans (hb1.mono HB.out.size)).setCell (by simp;omega) _).setCell (by simp;omega) _⟩
   clear hb1 t3 t4;go_wp2;exact bodyPost_ret (v:=.tuple #[.agg #[.slice none 0 0],.agg #[.slice none 0 0],.bool false]) (by simp[results,Tryz.results171,go_sem,hc3,hc4]) rfl HE.out
 · have hM : decide (M = 0) = false := by simp [h0]
   have HM0:=Lib.hid h0;rw[hM]at HZ;clear h0 hM
   by_cases hlt:N<M
   · rw[cmp_neg hlt]at HC;have HLT:=Lib.hid hlt;clear hlt;go_enter Tryz.func171,Tryz.ntmps171;go_wp2_with fail;go_at_call 114;refine(HZ.out _ HB.out).mono ?_;rintro e w1 ⟨rfl,hb1⟩;have T1:=Lib.hid (S1.out.below hb1);have T2:=Lib.hid (S2.out.below hb1);have T3:=Lib.hid (S3.out.below hb1);have T4:=Lib.hid (S4.out.below hb1);have HB1:=Lib.hid (HB.out.trans (hb1.mono HB.out.size));have hc1:=T1.out.cell;have hc2:=T2.out.cell;clear hb1;go_wp2_with fail;go_at_call 175;refine(HC.out _ HB1.out).mono ?_;rintro e w2 ⟨rfl,hb2⟩;have U1:=Lib.hid (T1.out.below hb2);have U3:=Lib.hid (T3.out.below hb2);have U4:=Lib.hid (T4.out.below hb2);have HB2:=Lib.hid (HB1.out.trans (hb2.mono HB1.out.size));clear hb2 hc1 hc2;have hc1:=U1.out.cell;go_wp2_with fail;go_at_call 141;refine(copied_own a n c f n w2 (HS.out.below HB2.out) (Nat.le_refl _) (by omega)).mono ?_;rintro e w3 ⟨b,rfl,ho,hb3⟩;obtain⟨q,hq,hqv⟩:=ho.slAt (by omega);have hbn:w.heap.size+4<=b:=by have:=ho.ge;have:=U4.out.lt;omega
     have HQ:=Lib.hid hq;have HQV:=Lib.hid hqv;have V3:=Lib.hid (U3.out.below hb3);have V4:=Lib.hid (U4.out.below hb3);have HB3:=Lib.hid (HB2.out.trans (hb3.mono HB2.out.size));clear hb3 ho hq hqv hc1;go_wp2_with fail;go_at_call 143;refine(trimmed_pl _ n n q w3 HQ.out).mono ?_;rintro e w4 ⟨a3,n3,c3,f3,rfl,hs3,hv3,ht3,hp3,hb4⟩;have t3:=V3.out.below hb4;have t4:=V4.out.below hb4;have hc3:=t3.cell;have hf3:=t3.free;have hc4:=t4.cell;have hf4:=t4.free
     have HE:=Lib.hid (divOut_store (N:=N) (M:=M) (k1:=w.heap.size+1+1) (k2:=w.heap.size+1+1+1) (u1:=.slice none 0 0) (u2:=.slice a3 n3 c3) HM0.out (HB3.out.trans (hb4.mono HB3.out.size)) (by omega) (by omega)
      (SlAt.nil w4 .u32 4294967296 (fun _=>0)) (by rw[Nat.div_eq_of_lt HLT.out];rfl) (.inl rfl) (fun x hx=>by cases hx)
      hs3 (by rw[Nat.mod_eq_of_lt HLT.out,hv3,HQV.out,HV.out]) ht3 (by rintro x rfl;rcases hp3 with h|h<;>cases h;simp;omega))
     clear hs3 hv3 ht3 hb4 hp3 t3 t4;go_wp2;exact bodyPost_ret (v:=.tuple #[.agg #[.slice none 0 0],.agg #[.slice a3 n3 c3],.bool true]) (by simp[results,Tryz.results171,go_sem,hc3,hc4]) rfl HE.out
   · obtain ⟨k, hk⟩ := cmp_pos (show M <= N by omega); rw [hk] at HC
     have hlen:n2<=n:=by
      rcases Nat.lt_or_ge n n2 with h|h
      · have:=nat_len_lt HS.out.2.2.1 HT2.out h;rw[HV.out,HV2.out]at this;omega
      · exact h
     have hn2:0<n2:=by
      rcases Nat.eq_zero_or_pos n2 with h|h
      · have h1:=HV2.out;subst h;exact absurd h1.symm HM0.out
      · exact h
     clear hk hlt
     by_cases h1:n2=1
     · subst h1;obtain⟨b2,off2,rfl,hb2l,hg0,hgl⟩:=HS2.out.limb (show 0<1 by omega);have e0:f2 0=M:=by have:=HV2.out;simpa[val]using this
       rw[e0]at hg0 hgl;rw[Nat.add_zero]at hg0;have HG0:=Lib.hid hg0;have hml:M<4294967296:=hgl;clear hg0 e0 hgl;go_enter Tryz.func171,Tryz.ntmps171;go_wp2_with fail;go_at_call 114;refine(HZ.out _ HB.out).mono ?_;rintro e w1 ⟨rfl,hb1⟩;have T1:=Lib.hid (S1.out.below hb1);have T2:=Lib.hid (S2.out.below hb1);have T3:=Lib.hid (S3.out.below hb1);have T4:=Lib.hid (S4.out.below hb1);have HB1:=Lib.hid (HB.out.trans (hb1.mono HB.out.size));have hc1:=T1.out.cell;have hc2:=T2.out.cell;clear hb1;go_wp2_with fail;go_at_call 175;refine(HC.out _ HB1.out).mono ?_;rintro e w2 ⟨rfl,hb2⟩;have U1:=Lib.hid (T1.out.below hb2);have U2:=Lib.hid (T2.out.below hb2);have U3:=Lib.hid (T3.out.below hb2);have U4:=Lib.hid (T4.out.below hb2);have HB2:=Lib.hid (HB1.out.trans (hb2.mono HB1.out.size));clear hb2 hc1 hc2;have hc1:=U1.out.cell;have hc2:=U2.out.cell;go_wp2_with fail;go_at_call 141;refine(copied_own a n c f n w2 (HS.out.below HB2.out) (Nat.le_refl _) (by omega)).mono ?_;rintro e w3 ⟨b,rfl,ho,hb3⟩;have hbn:w.heap.size+4<=b:=by have:=ho.ge;have:=U4.out.lt;omega
       have HO:Hid (Own w w3 b n N):=⟨by omega,ho.lt,ho.free,by rw[← HV.out];exact ho.row⟩
       have X2:=Lib.hid (U2.out.below hb3);have X3:=Lib.hid (U3.out.below hb3);have X4:=Lib.hid (U4.out.below hb3);have HB3:=Lib.hid (HB2.out.trans (hb3.mono HB2.out.size));clear hb3 ho hc1 hc2;have hc2:=X2.out.cell;have hg0:w3.cell? ⟨b2,off2,none⟩=some (.int .u32 M):=by have:=(HB3.out.cell (p:=⟨b2,off2,none⟩) hb2l).trans HG0.out;exact this
       go_wp2_with fail;go_at_call 142;refine(divideBy_own w b n n N M w3 HO.out (by omega) hml (by have:=HM0.out;omega)).mono ?_;rintro e w4 ⟨rfl,ho4,hw4⟩;obtain⟨q,hq,hqv⟩:=ho4.slAt (by omega);have HQ:=Lib.hid hq;have HQV:=Lib.hid hqv;have Y3:=Lib.hid (X3.out.wrote hw4 (by omega));have Y4:=Lib.hid (X4.out.wrote hw4 (by omega));have HB4:Hid (Below w.heap.size w w4):=hw4.below HB3.out HO.out.ge HB3.out.size;have hbl4:=ho4.lt;have hmod:N%M<4294967296:=by have:=Nat.mod_lt N (show 0<M by have:=HM0.out;omega);omega
       clear hq hqv ho4 hw4 hc2 hg0;obtain⟨R,hR⟩:∃R,N%M=R:=⟨_,rfl⟩
       rw[hR]at hmod ⊢;have HR:=Lib.hid hR;clear hR;go_wp2_with fail;go_at_call 143;refine(trimmed_pl _ n n q w4 HQ.out).mono ?_;rintro e w5 ⟨a3,n3,c3,f3,rfl,hs3,hv3,ht3,hp3,hb5⟩;have V3:=Lib.hid (Y3.out.below hb5);have V4:=Lib.hid (Y4.out.below hb5);have HB5:=Lib.hid (HB4.out.trans (hb5.mono HB4.out.size));have HS3:=Lib.hid hs3;have HV3:=Lib.hid hv3;have HT3:=Lib.hid ht3;have HP3:=Lib.hid hp3;clear hs3 hv3 ht3 hp3 hb5;go_wp2_with fail;go_at_call 146;refine(of_pl R w5 (by omega)).mono ?_;rintro e w6 ⟨a4,n4,c4,f4,rfl,hs4,hv4,ht4,HP4,hb6⟩;have hs3:=HS3.out;have hv3:=HV3.out;have ht3:=HT3.out;have hp3:=HP3.out;have t3:=V3.out.below hb6;have t4:=V4.out.below hb6;have hc3:=t3.cell;have hf3:=t3.free;have hc4:=t4.cell;have hf4:=t4.free;have hs3':=hs3.below hb6
       have HE:=Lib.hid (divOut_store (N:=N) (M:=M) (k1:=w.heap.size+1+1) (k2:=w.heap.size+1+1+1) (u1:=.slice a3 n3 c3) (u2:=.slice a4 n4 c4) HM0.out (HB5.out.trans (hb6.mono HB5.out.size)) (by omega) (by omega)
        hs3' (hv3.trans HQV.out) ht3 (by rintro x rfl;rcases hp3 with h|h<;>cases h;simp;omega)
        hs4 (by rw[HR.out];exact hv4) ht4 (fun x hx=>by have h1:=HP4 x hx;have h2:=V4.out.lt;constructor<;>omega))
       clear hs3 hs3' hv3 ht3 hs4 hv4 ht4 hb6 hp3 HP4 t3 t4;go_wp2;exact bodyPost_ret (v:=.tuple #[.agg #[.slice a3 n3 c3],.agg #[.slice a4 n4 c4],.bool true]) (by simp[results,Tryz.results171,go_sem,hc3,hc4]) rfl HE.out
     · have h2:2<=n2:=by omega
       have htp:0<f2 (n2-1):=by have:=HT2.out;omega
       have HTP:=Lib.hid htp;have h3:((n2:Int)==1)=false:=by simp;omega
       clear h1 htp;go_enter Tryz.func171,Tryz.ntmps171;go_wp2_with fail;go_at_call 114;refine(HZ.out _ HB.out).mono ?_;rintro e w1 ⟨rfl,hb1⟩;have T1:=Lib.hid (S1.out.below hb1);have T2:=Lib.hid (S2.out.below hb1);have T3:=Lib.hid (S3.out.below hb1);have T4:=Lib.hid (S4.out.below hb1);have HB1:=Lib.hid (HB.out.trans (hb1.mono HB.out.size));have hc1:=T1.out.cell;have hc2:=T2.out.cell;clear hb1;go_wp2_with fail;go_at_call 175;refine(HC.out _ HB1.out).mono ?_;rintro e w2 ⟨rfl,hb2⟩;have U1:=Lib.hid (T1.out.below hb2);have U2:=Lib.hid (T2.out.below hb2);have U3:=Lib.hid (T3.out.below hb2);have U4:=Lib.hid (T4.out.below hb2);have HB2:=Lib.hid (HB1.out.trans (hb2.mono HB1.out.size));clear hb2 hc1 hc2;have hc1:=U1.out.cell;have hc2:=U2.out.cell;go_wp2_with fail;go_at_call 217;refine(divideLong_any a n c f a2 n2 c2 f2 w2 (HS.out.below HB2.out) (HS2.out.below HB2.out) h2 hlen HTP.out (by omega)).mono ?_;rintro e w3 ⟨qb,rb,rfl,hq,hr,hb3⟩;rw[HV.out,HV2.out]at hq hr;obtain⟨q,hq1,hq2⟩:=hq.slAt (by omega);obtain⟨r,hr1,hr2⟩:=hr.row;have hr3:SlAt w3 .u32 4294967296 (some ⟨rb,0,none⟩) n2 (n+1) r:=⟨by omega,by omega,hr2.1,.inr ⟨rb,0,rfl,hr.lt,hr1⟩⟩
       have hqn:w.heap.size+4<=qb:=by have:=hq.ge;have:=U4.out.lt;omega
       have hrn:w.heap.size+4<=rb:=by have:=hr.ge;have:=U4.out.lt;omega
       have HQ:=Lib.hid hq1;have HQV:=Lib.hid hq2;have HR1:=Lib.hid hr3;have HRV:=Lib.hid hr2.2;have X3:=Lib.hid (U3.out.below hb3);have X4:=Lib.hid (U4.out.below hb3);have HB3:=Lib.hid (HB2.out.trans (hb3.mono HB2.out.size));clear hb3 hq hr hq1 hq2 hr1 hr2 hr3 hc1 hc2;go_wp2_with fail;go_at_call 143;refine(trimmed_pl _ _ _ q w3 HQ.out).mono ?_;rintro e w5 ⟨a3,n3,c3,f3,rfl,hs3,hv3,ht3,hp3,hb5⟩;have V3:=Lib.hid (X3.out.below hb5);have V4:=Lib.hid (X4.out.below hb5);have HB5:=Lib.hid (HB3.out.trans (hb5.mono HB3.out.size));have HR2:=Lib.hid (HR1.out.below hb5);have HS3:=Lib.hid hs3;have HV3:=Lib.hid hv3;have HT3:=Lib.hid ht3;have HP3:=Lib.hid hp3;clear hs3 hv3 ht3 hp3 hb5;go_wp2_with fail;go_at_call 143;refine(trimmed_pl _ n2 (n+1) r w5 HR2.out).mono ?_;rintro e w6 ⟨a4,n4,c4,f4,rfl,hs4,hv4,ht4,HP4,hb6⟩;have hs3:=HS3.out;have hv3:=HV3.out;have ht3:=HT3.out;have hp3:=HP3.out;have t3:=V3.out.below hb6;have t4:=V4.out.below hb6;have hc3:=t3.cell;have hf3:=t3.free;have hc4:=t4.cell;have hf4:=t4.free;have hs3':=hs3.below hb6
       have HE:=Lib.hid (divOut_store (N:=N) (M:=M) (k1:=w.heap.size+1+1) (k2:=w.heap.size+1+1+1) (u1:=.slice a3 n3 c3) (u2:=.slice a4 n4 c4) HM0.out (HB5.out.trans (hb6.mono HB5.out.size)) (by omega) (by omega)
        hs3' (hv3.trans HQV.out) ht3 (by rintro x rfl;rcases hp3 with h|h<;>cases h;simp;omega)
        hs4 (hv4.trans HRV.out) ht4 (by rintro x rfl;rcases HP4 with h|h<;>cases h;simp;omega))
       clear hs3 hs3' hv3 ht3 hs4 hv4 ht4 hb6 hp3 HP4 t3 t4;go_wp2;exact bodyPost_ret (v:=.tuple #[.agg #[.slice a3 n3 c3],.agg #[.slice a4 n4 c4],.bool true]) (by simp[results,Tryz.results171,go_sem,hc3,hc4]) rfl HE.out
end Go.Proofs.YtdmmenaejkpnjaaGreatDoor
