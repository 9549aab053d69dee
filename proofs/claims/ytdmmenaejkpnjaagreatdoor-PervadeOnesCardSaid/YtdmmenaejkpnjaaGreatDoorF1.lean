/-
  Texts of this seat, laid together.
-/
import Derived.WalkKit
import Derived.WalkSpells
import Derived.Deep.Draws
import Derived.Lib.Hide
import Derived.Lib.TrimByte
import Derived.WalkLawsBesides
import Derived.Laws.CopyOwn
import Derived.Deep.QuietTactic
import Derived.BigQuiet
import Derived.BigRegion
import Derived.RegionTactic
import Derived.Deep.RegionWith
import Derived.StillTailTactics
import Derived.IntWalk
import Derived.Test.YtdmmenaejkpnjaaGreatDoorRows
set_option maxHeartbeats 12800000
set_option maxRecDepth 100000
set_option linter.unusedSimpArgs false
set_option linter.unusedVariables false
namespace Go.Proofs.YtdmmenaejkpnjaaGreatDoor
theorem lsa{α:Type}(l:List α)(i:Nat)(a:α):l.toArray.setIfInBounds i a=(l.set i a).toArray:=List.setIfInBounds_toArray l i a
theorem lsz{α:Type}{x a:α}{l:List α}:(x::l).set 0 a=a::l:=List.set_cons_zero
theorem lsc{α:Type}{x a:α}{l:List α}{n:Nat}:(x::l).set (n+1) a=x::l.set n a:=List.set_cons_succ
end Go.Proofs.YtdmmenaejkpnjaaGreatDoor
namespace Go.Proofs.YtdmmenaejkpnjaaGreatDoor
open Go.RowKit
def val(f:Nat->Nat):Nat->Nat
 | 0=>0
 | n+1=>val f n+f n*4294967296^n
def tl(f:Nat->Nat):Nat->Nat
 | 0=>0
 | n+1=>if f n=0 then tl f n else n+1
theorem tl_le (f : Nat -> Nat) : ∀ n, tl f n <= n
 | 0=>Nat.le_refl _
 | n + 1 => by unfold tl; split; · exact Nat.le_succ_of_le (tl_le f n)
               · exact Nat.le_refl _
theorem tl_last(f:Nat->Nat):∀n,tl f n=0∨f (tl f n-1)≠0
 | 0=>.inl rfl
 | n+1=>by
  unfold tl;split
  · exact tl_last f n
  · exact .inr (by simpa)
theorem tl_val(f:Nat->Nat):∀n,val f (tl f n)=val f n
 | 0=>rfl
 | n+1=>by
  unfold tl;split
  · rename_i h;rw[tl_val f n,val,h];simp
  · rfl
theorem val_lt(f:Nat->Nat):∀n,(∀j,j<n->f j<4294967296)->val f n<4294967296^n
 | 0,_=>by simp[val]
 | n+1,h=>by
  have h1:=val_lt f n (fun j hj=>h j (by omega));have h2:=h n (by omega);rw[val,Nat.pow_succ];have h3:f n*4294967296^n<=4294967295*4294967296^n:=Nat.mul_le_mul_right _ (by omega)
  omega
theorem val_congr{f g:Nat->Nat}:∀n,(∀j,j<n->f j=g j)->val f n=val g n
 | 0,_=>rfl
 | n+1,h=>by rw[val,val,val_congr n (fun j hj=>h j (by omega)),h n (by omega)]
def Cells(w:World)(ki:IntKind)(b off n:Nat)(f:Nat->Nat):Prop:=∀j,j<n->w.cell? ⟨b,off+j,none⟩=some (.int ki (f j))
def SlAt(w:World)(ki:IntKind)(m:Nat)(a:Option Addr)(n c:Nat)(f:Nat->Nat):Prop :=
 n<=c/\n<=1000000/\(∀j,j<n->f j<m)/\((a=none/\c=0)∨∃b off,a=some ⟨b,off,none⟩/\b<w.heap.size/\Cells w ki b off n f)
theorem SlAt.nil(w:World)(ki:IntKind)(m:Nat)(f:Nat->Nat):SlAt w ki m none 0 0 f:=⟨Nat.le_refl _,by omega,fun j h=>by omega,.inl ⟨rfl,rfl⟩⟩
theorem SlAt.below{w w':World}{ki:IntKind}{m:Nat}{a:Option Addr}{n c:Nat}{f:Nat->Nat}(h:SlAt w ki m a n c f)(hb:Below w.heap.size w w'):SlAt w' ki m a n c f:=by
 obtain⟨h1,h2,h3,h4⟩:=h;refine⟨h1,h2,h3,?_⟩
 rcases h4 with h4|⟨b,off,h4,h5,h6⟩
 · exact .inl h4
 · exact .inr ⟨b,off,h4,Nat.lt_of_lt_of_le h5 hb.size,fun j hj=>(hb.cell (p:=⟨b,off+j,none⟩) h5).trans (h6 j hj)⟩
theorem SlAt.take{w:World}{ki:IntKind}{m:Nat}{a:Option Addr}{n c:Nat}{f:Nat->Nat}(h:SlAt w ki m a n c f){k:Nat}(hk:k<=n):SlAt w ki m a k c f:=by
 obtain⟨h1,h2,h3,h4⟩:=h;refine⟨by omega,by omega,fun j hj=>h3 j (by omega),?_⟩
 rcases h4 with h4|⟨b,off,h4,h5,h6⟩
 · exact .inl h4
 · exact .inr ⟨b,off,h4,h5,fun j hj=>h6 j (by omega)⟩
theorem SlAt.at{w:World}{ki:IntKind}{m:Nat}{a:Option Addr}{n c:Nat}{f:Nat->Nat}(h:SlAt w ki m a n c f)(hn:0<n):∃b off,a=some ⟨b,off,none⟩/\b<w.heap.size/\Cells w ki b off n f:=by
 obtain⟨h1,h2,h3,h4⟩:=h
 rcases h4 with ⟨_,h4⟩|h4
 · omega
 · exact h4
def NatIs(w:World)(v:Value)(N:Nat):Prop:=∃a n c f,v=.agg #[.slice a n c]/\SlAt w .u32 4294967296 a n c f/\val f n=N/\(n=0∨f (n-1)≠0)
theorem NatIs.below{w w':World}{v:Value}{N:Nat}(h:NatIs w v N)(hb:Below w.heap.size w w'):NatIs w' v N:=by
 obtain⟨a,n,c,f,h1,h2,h3,h4⟩:=h;exact⟨a,n,c,f,h1,h2.below hb,h3,h4⟩
theorem NatIs.zero(w:World):NatIs w (.agg #[.slice none 0 0]) 0:=⟨none,0,0,fun _=>0,rfl,SlAt.nil _ _ _ _,rfl,.inl rfl⟩
structure Wrote(k lo hi:Nat)(w w':World):Prop where
 os:w'.os=w.os
 tape:w'.tape=w.tape
 output:w'.output=w.output
 size:w.heap.size<=w'.heap.size
 block:∀j,j<w.heap.size->j≠k->w'.heap[j]? = w.heap[j]?
 cell:∀o,(o<lo∨hi<=o)->w'.cell? ⟨k,o,none⟩=w.cell? ⟨k,o,none⟩
 frozen:∀o,w'.frozen? ⟨k,o,none⟩=w.frozen? ⟨k,o,none⟩
theorem Wrote.refl(k lo hi:Nat)(w:World):Wrote k lo hi w w:=⟨rfl,rfl,rfl,Nat.le_refl _,fun _ _ _=>rfl,fun _ _=>rfl,fun _=>rfl⟩
theorem Wrote.trans{k lo hi:Nat}{a b c:World}(h:Wrote k lo hi a b)(g:Wrote k lo hi b c):Wrote k lo hi a c :=
 ⟨g.os.trans h.os,g.tape.trans h.tape,g.output.trans h.output,Nat.le_trans h.size g.size,fun j hj hk=>(g.block j (Nat.lt_of_lt_of_le hj h.size) hk).trans (h.block j hj hk),
   fun o ho=>(g.cell o ho).trans (h.cell o ho),fun o=>(g.frozen o).trans (h.frozen o)⟩
theorem Wrote.mono{k lo hi lo' hi':Nat}{a b:World}(h:Wrote k lo hi a b)(h1:lo'<=lo)(h2:hi<=hi'):Wrote k lo' hi' a b :=
 ⟨h.os,h.tape,h.output,h.size,h.block,fun o ho=>h.cell o (by omega),h.frozen⟩
theorem Wrote.drew{k lo hi:Nat}{a b:World}(h:Wrote k lo hi a b):Wrote k lo hi a b.drew:=⟨h.os,h.tape,h.output,h.size,h.block,h.cell,h.frozen⟩
theorem Wrote.drewN{k lo hi:Nat}{a b:World}(h:Wrote k lo hi a b)(n:Nat):Wrote k lo hi a (b.drewN n):=⟨h.os,h.tape,h.output,h.size,h.block,h.cell,h.frozen⟩
theorem Wrote.of_below{k lo hi:Nat}{a b:World}(h:Below a.heap.size a b)(hk:k<a.heap.size):Wrote k lo hi a b :=
 ⟨h.os,h.tape,h.output,h.size,fun j hj _=>h.block j hj,fun o _=>h.cell (p:=⟨k,o,none⟩) hk,fun o=>h.frozen (p:=⟨k,o,none⟩) hk⟩
theorem Wrote.below{k lo hi B:Nat}{w a b:World}(h:Wrote k lo hi a b)(hw:Below B w a)(hk:B<=k)(hB:B<=a.heap.size):Below B w b :=
 hw.trans ⟨h.os,h.tape,h.output,h.size,fun j hj=>h.block j (by omega) (by omega)⟩
theorem Wrote.setCell{k lo hi:Nat}{a b:World}(h:Wrote k lo hi a b){o:Nat}(h1:lo<=o)(h2:o<hi)(u:Value):Wrote k lo hi a (b.setCell ⟨k,o,none⟩ u):=by
 refine h.trans ⟨rfl,rfl,rfl,by simp[World.setCell],fun j hj hk=>Below.heap_setCell _ _ _ _ hk,fun o' ho => ?_,fun o'=>by simp⟩;exact World.cell?_setCell_other _ _ _ _ (fun e=>by cases e;omega)
def Free(w:World)(b:Nat):Prop:=∀o,w.frozen? ⟨b,o,none⟩=false
theorem Free.wrote{w w':World}{b k lo hi:Nat}(h:Free w b)(hw:Wrote k lo hi w w')(hb:b<w.heap.size):Free w' b:=by
 intro o
 by_cases hk:b=k
 · subst hk;rw[hw.frozen];exact h o
 · rw[World.frozen?_of_block (w:=w) (w':=w') (hw.block b hb hk)];exact h o
theorem Free.below{w w':World}{b:Nat}(h:Free w b)(hw:Below w.heap.size w w')(hb:b<w.heap.size):Free w' b:=fun o=>(hw.frozen (p:=⟨b,o,none⟩) hb).trans (h o)
theorem Free.of_block{w:World}{b:Nat}{cs:Array Value}{t:TypeId}(h:w.heap[b]? = some (.cells cs t (0,0))):Free w b:=by
 intro o;simp[World.frozen?,h]
theorem Cells.of_block{w:World}{ki:IntKind}{b n:Nat}{f:Nat->Nat}{cs:List Value}{t:TypeId}(h:w.heap[b]? = some (.cells cs.toArray t (0,0)))(hc:∀j,j<n->cs[j]? = some (.int ki (f j))):Cells w ki b 0 n f:=by
 intro j hj;simp[World.cell?,h];exact hc j hj
theorem Cells.wrote{w w':World}{ki:IntKind}{b off n k lo hi:Nat}{f:Nat->Nat}(h:Cells w ki b off n f)(hw:Wrote k lo hi w w')(hb:b<w.heap.size)(hd:b=k->∀j,j<n->off+j<lo∨hi<=off+j):Cells w' ki b off n f:=by
 intro j hj
 by_cases hk:b=k
 · subst hk;rw[hw.cell _ (hd rfl j hj)];exact h j hj
 · rw[World.cell?_of_block (w:=w) (w':=w') (hw.block b hb hk)];exact h j hj
theorem Cells.below{w w':World}{ki:IntKind}{b off n:Nat}{f:Nat->Nat}(h:Cells w ki b off n f)(hw:Below w.heap.size w w')(hb:b<w.heap.size):Cells w' ki b off n f :=
 fun j hj=>(hw.cell (p:=⟨b,off+j,none⟩) hb).trans (h j hj)
theorem SlAt.wrote{w w':World}{ki:IntKind}{m:Nat}{a:Option Addr}{n c k lo hi:Nat}{f:Nat->Nat}(h:SlAt w ki m a n c f)(hw:Wrote k lo hi w w')(hd:∀x,a=some x->x.block≠k):SlAt w' ki m a n c f:=by
 obtain⟨h1,h2,h3,h4⟩:=h;refine⟨h1,h2,h3,?_⟩
 rcases h4 with h4|⟨b,off,h4,h5,h6⟩
 · exact .inl h4
 · exact .inr ⟨b,off,h4,Nat.lt_of_lt_of_le h5 hw.size,h6.wrote hw h5 (fun e=>absurd e (hd _ h4))⟩
theorem Cells.set{w:World}{ki:IntKind}{b off n:Nat}{f:Nat->Nat}(h:Cells w ki b off n f){k x:Nat}(hk:k<n):Cells (w.setCell ⟨b,off+k,none⟩ (.int ki x)) ki b off n (fun j=>if j=k then x else f j):=by
 intro j hj
 by_cases e:j=k
 · subst e;simp only[if_true];exact World.cell?_setCell_same _ _ _ (h j hj)
 · simp only[e,if_false];rw[World.cell?_setCell_other _ _ _ _ (fun e'=>e (by simp only[Addr.mk.injEq]at e';omega))];exact h j hj
theorem Free.set{w:World}{b:Nat}(h:Free w b)(a:Addr)(u:Value):Free (w.setCell a u) b:=fun o=>by simp[h o]
theorem ret_int{k:IntKind}{a b:Int}(h:a=b):Ending.returned (.int k a)=.returned (.int k b):=by rw[h]
theorem ret_two{k k':IntKind}{a b a' b':Int}(h:a=b)(h':a'=b'):Ending.returned (.tuple #[.int k a,.int k' a'])=.returned (.tuple #[.int k b,.int k' b']):=by rw[h,h']
theorem pow_succ32(k:Nat):(4294967296:Nat)^(k+1)=4294967296*4294967296^k:=by rw[Nat.pow_succ,Nat.mul_comm]
end Go.Proofs.YtdmmenaejkpnjaaGreatDoor
namespace Go.Proofs.YtdmmenaejkpnjaaGreatDoor
def dgt(N j:Nat):UInt8:=UInt8.ofNat (48+N / 10^j%10)
def sdig(N:Nat):Nat->List UInt8
 | 0 => []
 | n+1=>dgt N n::sdig N n
def dl(N:Nat):Nat:=if h:N<10 then 1 else dl (N / 10)+1
termination_by N
decreasing_by omega
def dec(N:Nat):List UInt8:=sdig N (dl N)
theorem dgt_toNat(N j:Nat):(dgt N j).toNat=48+N / 10^j%10:=by
 unfold dgt;have:=Nat.mod_lt (N / 10^j) (show 0<10 by omega);rw[UInt8.toNat_ofNat']
 omega
theorem dgt_zero{N j:Nat}:dgt N j=48↔N / 10^j%10=0:=by
 rw[← UInt8.toNat_inj,dgt_toNat]
 show 48+_=48↔_
 omega
theorem sdig_length(N:Nat):∀n,(sdig N n).length=n
 | 0=>rfl
 | n+1=>by rw[sdig,List.length_cons,sdig_length N n]
theorem sdig_get(N:Nat):∀n i,i<n->(sdig N n)[i]? = some (dgt N (n-1-i))
 | 0,i,h=>by omega
 | n+1,0,_=>by rw[sdig];simp
 | n+1,i+1,h=>by
  rw[sdig,List.getElem?_cons_succ,sdig_get N n i (by omega)];rw[show n+1-1-(i+1)=n-1-i by omega]
theorem dl_pos(N:Nat):0<dl N:=by unfold dl;split<;>omega
theorem dl_lt:∀N,N<10^dl N:=by
 intro N
 induction N using Nat.strongRecOn with
 | _ N ih =>
  unfold dl
  split
  · omega
  · have:=ih (N / 10) (by omega);rw[Nat.pow_succ];omega
theorem dl_le:∀N n,0<n->N<10^n->dl N<=n:=by
 intro N
 induction N using Nat.strongRecOn with
 | _ N ih =>
  intro n hn h;unfold dl
  split
  · omega
  · rename_i h10
    obtain⟨m,rfl⟩:∃m,n=m+1:=⟨n-1,by omega⟩
    rw[Nat.pow_succ]at h
    have hm:0<m:=by
     rcases Nat.eq_zero_or_pos m with h0|h0
     · subst h0;simp at h;omega
     · exact h0
    have:=ih (N / 10) (by omega) m hm (by omega)
    omega
theorem dl_ge{N n:Nat}(h:10^n<=N):n<dl N:=by
 have h1:=dl_lt N
 rcases Nat.lt_or_ge n (dl N)with h2|h2
 · exact h2
 · have:=Nat.pow_le_pow_right (show 0<10 by omega) h2
   omega
theorem dl_low{N:Nat}(h:0<N):10^(dl N-1)<=N:=by
 rcases Nat.lt_or_ge N (10^(dl N-1))with h1|h1
 · rcases Nat.eq_zero_or_pos (dl N-1)with h2|h2
   · rw[h2]at h1;simp at h1;omega
   · have:=dl_le N _ h2 h1;omega
 · exact h1
theorem dec_zero:dec 0 = [48]:=by
 have:dl 0=1:=by unfold dl;rfl
 unfold dec;rw[this];rfl
theorem drop_zeros(N:Nat)(h:0<N):∀n,N<10^n->(sdig N n).dropWhile (· == 48)=dec N:=by
 intro n
 induction n with
 | zero=>intro h1;simp at h1;omega
 | succ n ih =>
  intro h1
  rcases Nat.lt_or_ge N (10^n)with h2|h2
  · have:dgt N n=48:=by rw[dgt_zero,Nat.div_eq_of_lt h2]
    rw[sdig,List.dropWhile_cons,this]
    simpa using ih h2
  · have hd:dl N=n+1:=Nat.le_antisymm (dl_le N _ (by omega) h1) (dl_ge h2)
    have h3:N / 10^n<10:=by
     rw[Nat.div_lt_iff_lt_mul (Nat.pow_pos (by omega))];rw[Nat.pow_succ]at h1;omega
    have h4:0<N / 10^n:=Nat.div_pos h2 (Nat.pow_pos (by omega));have:¬dgt N n=48:=by rw[dgt_zero];omega
    unfold dec;rw[hd,sdig,List.dropWhile_cons]
    simp[this]
def numOf:List UInt8->Nat
 | []=>0
 | c::l=>(c.toNat-48)*10^l.length+numOf l
theorem numOf_lt:∀l:List UInt8,(∀c ∈ l,48<=c.toNat/\c.toNat<=57)->numOf l<10^l.length
 | [],_=>by simp[numOf]
 | c::l,h=>by
  have h1:=numOf_lt l (fun x hx=>h x (List.mem_cons_of_mem _ hx));have h2:=h c List.mem_cons_self;rw[numOf,List.length_cons,Nat.pow_succ];have h3:(c.toNat-48)*10^l.length<=9*10^l.length:=Nat.mul_le_mul_right _ (by omega)
  omega
theorem sdig_add(N q:Nat):∀n k,k<=n->sdig (N+q*10^n) k=sdig N k:=by
 intro n k
 induction k with
 | zero=>intro _;rfl
 | succ k ih =>
  intro hk;rw[sdig,sdig,ih (by omega)]
  have:(N+q*10^n) / 10^k%10=N / 10^k%10:=by
   obtain⟨m,rfl⟩:∃m,n=k+(m+1):=⟨n-k-1,by omega⟩
   rw[Nat.pow_add,← Nat.mul_assoc,Nat.mul_right_comm,Nat.add_mul_div_right _ _ (Nat.pow_pos (by omega)),Nat.pow_succ,← Nat.mul_assoc]
   omega
  unfold dgt;rw[this]
theorem sdig_numOf : ∀ l : List UInt8, (∀ c ∈ l, 48 <= c.toNat /\ c.toNat <= 57) -> sdig (numOf l) l.length = l
 | [],_=>rfl
 | c::l,h=>by
  have h1:=numOf_lt l (fun x hx=>h x (List.mem_cons_of_mem _ hx));have h2:=h c List.mem_cons_self;rw[List.length_cons,sdig]
  have e1:sdig (numOf (c::l)) l.length=l:=by
   rw[numOf,Nat.add_comm,sdig_add _ _ _ _ (Nat.le_refl _)];exact sdig_numOf l (fun x hx=>h x (List.mem_cons_of_mem _ hx))
  have e2:dgt (numOf (c::l)) l.length=c:=by
   rw[← UInt8.toNat_inj,dgt_toNat,numOf,Nat.add_comm ((c.toNat-48)*_),Nat.add_mul_div_right _ _ (Nat.pow_pos (by omega)),Nat.div_eq_of_lt h1]
   omega
  rw[e1,e2]
def str(l:List UInt8):ByteArray:=⟨l.toArray⟩
theorem str_toList(l:List UInt8):(str l).data.toList=l:=rfl
theorem str_size(l:List UInt8):(str l).size=l.length:=by simp[str,ByteArray.size]
theorem str_of{s:ByteArray}{l:List UInt8}(h:s.data.toList=l):s=str l:=by
 subst h;rfl
end Go.Proofs.YtdmmenaejkpnjaaGreatDoor
namespace Go.Proofs.YtdmmenaejkpnjaaGreatDoor
open Go.RowKit
def trimV(a:Option Addr)(c k:Nat):Value:=.agg #[if k=0 then .slice none 0 0 else .slice a k c]
theorem trimmed_any (a : Option Addr) (n c : Nat) (f : Nat -> Nat) (w : World) (h : SlAt w .u32 4294967296 a n c f) :
    Calls Tryz.prog 143 #[.slice a n c] w fun e w'=>e=.returned (trimV a c (tl f n))/\Below w.heap.size w w':=by
 obtain⟨h1,h2,h3,h4⟩:=h;have ht:=tl_le f n;go_enter Tryz.func143,Tryz.ntmps143;go_wp2
 go_loop [3] (fun i=>∃k:Nat,k<=n/\i=.int .i64 k/\Hid (tl f k=tl f n)) (fun i=>(intOf i).toNat)
 case atStart=>exact⟨n,Nat.le_refl _,rfl,rfl⟩
 case round =>
  obtain⟨k,hk,rfl,hr⟩:=hrel
  rcases Nat.eq_zero_or_pos k with h0|h0
  · subst h0;have hr0:tl f n=0:=hr.out.symm;have hd:decide ((0:Int)<((0:Nat):Int))=false:=by decide
    go_wp2;exact bodyPost_ret (v:=.agg #[.slice none 0 0]) (by simp[results,Tryz.results143,go_sem]) rfl ⟨by simp[trimV],(Below.refl _ _).alloc (Nat.le_refl _) _⟩
  · obtain⟨m,rfl⟩:∃m,k=m+1:=⟨k-1,by omega⟩
    rcases h4 with ⟨_,rfl⟩|⟨b,off,rfl,hb,hc⟩
    · omega
    have hcm:=hc m (by omega);have hm:m<n:=by omega
    clear hc h3
    by_cases hz:f m=0
    · rw[hz]at hcm;go_wp2
      go_round
      case rel=>exact⟨m,by omega,by go_num,by have:=hr.out;simpa[tl,hz,Hid]using this⟩
      case measure=>simp[intOf]
    · have hr0:tl f n=m+1:=by have:=hr.out;simpa[tl,hz]using this.symm
      have hz':((f m:Int)==0)=false:=by simp[hz]
      go_wp2;exact bodyPost_ret (v:=.agg #[.slice (some ⟨b,off,none⟩) (m+1) c]) (by simp[results,Tryz.results143,go_sem]) rfl ⟨by simp[trimV],(Below.refl _ _).alloc (Nat.le_refl _) _⟩
theorem heap_new(w:World)(o:Obj):(w.alloc o).heap[w.heap.size]? = some o:=by
 show(w.heap.push o)[w.heap.size]? = _
 simp
theorem infoU:(Tryz.prog.info? 177).map (fun i=>(i.zero,i.size,i.bytes))=some (some (.int .u32 0),1,4):=by kernel_rfl
theorem copied_any (a : Option Addr) (n c : Nat) (f : Nat -> Nat) (m : Nat) (w : World) (h : SlAt w .u32 4294967296 a n c f) (hnm : n <= m) (hm : m <= 1000000) :
    Calls Tryz.prog 141 #[.slice a n c,.int .i64 m] w fun e w'=>∃b,e=.returned (.slice (some ⟨b,0,none⟩) m m)/\w.heap.size<=b/\b<w'.heap.size /\
     Cells w' .u32 b 0 m (fun j=>if j<n then f j else 0)/\Free w' b/\Below w.heap.size w w':=by
 obtain⟨i0,hi,hz0,hz1,hz2⟩:=info_parts infoU;have hmk:=run_make (P:=Tryz.prog) w 47 177 i0 (.int .u32 0) Tryz.underlying47 hi hz0 .i64 .i64 m m (by omega) (by omega) (by rw[hz2];omega) (by omega);simp only[Int.toNat_natCast,hz1,Nat.mul_one]at hmk;obtain⟨mc,hmc⟩:∃mc:List Value,madeCells (Value.cells (.int .u32 0)) m=mc.toArray:=⟨_,(Array.toArray_toList).symm⟩
 rw[hmc]at hmk;have hlen:mc.length=m:=by have:=congrArg Array.size hmc;simpa[size_madeCells]using this.symm
 have hmcj:∀j,j<m->mc[j]? = some (.int .u32 0):=by
  intro j hj;have h3:(madeCells (Value.cells (.int .u32 0)) m)[j]? = some (.int .u32 0):=by simp[madeCells,hj,Value.cells,Nat.mod_one]
  rw[hmc,List.getElem?_toArray]at h3;exact h3
 have HL:=Lib.hid hlen;have HC:=Lib.hid hmcj;have HM:=Lib.hid hm;have HS:=Lib.hid h;have HN:=Lib.hid hnm;clear hmc hm h hz0 hz1 hz2 hi hlen hmcj hnm;go_enter Tryz.func141,Tryz.ntmps141
 go_wp2_with (refine wpList_copy_splice rfl (.tmp 8) (.tmp 9) 47 47 rfl 177 Tryz.underlying47 (by kernel_rfl) _ _ _ _ _ _ rfl rfl w.heap.size 0 mc 177 ?hg ((List.range n).map fun j=>.int .u32 (f j)) ?hn ?hpos ?hfit ?h1 w.heap.size w ?hb (Nat.le_refl _) ?_)
 case hg=>exact heap_new _ _
 case hn=>rw[List.length_map,List.length_range];exact(Nat.min_eq_left HN.out).symm
 case hpos =>
  intro h0;have h0:0<n:=by simpa using h0
  obtain⟨b,off,rfl,hb,hc⟩:=HS.out.at (by omega)
  refine⟨_,rfl,fun j x hj => ?_⟩;simp only[List.getElem?_eq_some_iff,List.length_range,List.getElem_range]at hj;obtain⟨hj1,rfl⟩:=hj;have:=hc j hj1;rw[← this];rw[show(⟨b,off,none⟩:Addr).add j=⟨b,off+j,none⟩by simp[Addr.add]];exact World.cell?_alloc_lt w _ ⟨b,off+j,none⟩ hb
 case hfit=>have:=HN.out;have:=HL.out;simp;omega
 case h1 =>
  intro v hv
  simp at hv
  obtain⟨_,_,rfl⟩:=hv
  rfl
 case hb=>exact(Below.refl _ _).alloc (Nat.le_refl _) _
 · intro w1 hg1 hb1;have HB:=Lib.hid hb1;clear hb1;go_wp2;go_ret;have hlen:=HL.out;have hn:=HN.out
   have hsz:w.heap.size<w1.heap.size:=by
    have:=hg1.out
    rcases Nat.lt_or_ge w.heap.size w1.heap.size with h|h
    · exact h
    · rw[Array.getElem?_eq_none h]at this;cases this
   refine⟨w.heap.size,rfl,Nat.le_refl _,hsz,Cells.of_block hg1.out fun j hj => ?_,Free.of_block hg1.out,HB.out⟩;have hj0:=HC.out j hj
   by_cases hjn:j<n
   · simp[splice,hjn]
     rw[List.getElem?_append_left (by simpa using hjn)]
     simp[hjn]
   · simp[splice,hjn]
     rw[List.getElem?_append_right (by simp;omega)]
     simp
     rw[show n+(j-n)=j by omega];exact hj0
theorem SlAt.limb{w:World}{a:Option Addr}{n c:Nat}{f:Nat->Nat}(h:SlAt w .u32 4294967296 a n c f){k:Nat}(hk:k<n):∃b off,a=some ⟨b,off,none⟩/\b<w.heap.size/\w.cell? ⟨b,off+k,none⟩=some (.int .u32 (f k))/\f k<4294967296:=by
 obtain⟨b,off,h1,h2,h3⟩:=h.at (by omega)
 exact⟨b,off,h1,h2,h3 k hk,h.2.2.1 k hk⟩
theorem limbAt_any (a : Option Addr) (n c : Nat) (f : Nat -> Nat) (k : Nat) (w : World) (h : SlAt w .u32 4294967296 a n c f) :
    Calls Tryz.prog 243 #[.slice a n c,.int .i64 k] w fun e w'=>e=.returned (.int .u32 ((if k<n then f k else 0:Nat):Int))/\w=w':=by
 by_cases hk:k<n
 · obtain⟨b,off,rfl,hb,hc,hlt⟩:=h.limb hk;rw[if_pos hk];clear h hlt;go_enter Tryz.func243,Tryz.ntmps243;go_wp2;go_ret;exact⟨rfl,rfl⟩
 · rw[if_neg hk];clear h;go_enter Tryz.func243,Tryz.ntmps243;go_wp2;go_ret;exact⟨rfl,rfl⟩
theorem add32_any (x y c : Nat) (hx : x < 4294967296) (hy : y < 4294967296) (hc : c <= 1) (w : World) :
    Calls Tryz.prog 242 #[.int .u32 x,.int .u32 y,.int .u32 c] w fun e w'=>e=.returned (.tuple #[.int .u32 (((x+y+c)%4294967296:Nat):Int),.int .u32 (((x+y+c) / 4294967296:Nat):Int)])/\w=w':=by
 go_enter Tryz.func242,Tryz.ntmps242;go_wp2;go_ret2;exact⟨ret_two (by omega) (by omega),rfl⟩
theorem add_step (s p d : Nat -> Nat) (k c : Nat) (h : val d k + c * 4294967296 ^ k = val s k + val p k) (hd : d k = (s k + p k + c) % 4294967296) :
    val d (k+1)+((s k+p k+c) / 4294967296)*4294967296^(k+1)=val s (k+1)+val p (k+1):=by
 rw[val,val,val,hd,pow_succ32];have e:=Nat.div_add_mod (s k+p k+c) 4294967296;generalize (s k+p k+c) / 4294967296=q at e ⊢;generalize (s k+p k+c)%4294967296=r at e ⊢;generalize 4294967296^k=P at h ⊢;have e2:(4294967296*q+r)*P=(s k+p k+c)*P:=by rw[e]
 have e3:(4294967296*q+r)*P=q*(4294967296*P)+r*P:=by rw[Nat.add_mul,Nat.mul_comm 4294967296 q,Nat.mul_assoc]
 have e4:(s k+p k+c)*P=s k*P+p k*P+c*P:=by rw[Nat.add_mul,Nat.add_mul]
 omega
def RowRel(b off n:Nat)(s:Nat->Nat)(w wr:World)(k:Nat)(R:(Nat->Nat)->Prop):Prop :=
 Wrote b off (off+n) w wr/\Free wr b/\∃d,Cells wr .u32 b off n d/\(∀j,j<n->d j<4294967296)/\(∀j,k<=j->d j=s j)/\R d
theorem RowRel.start{b off n:Nat}{s:Nat->Nat}{w:World}{R:(Nat->Nat)->Prop}(hf:Free w b)(hc:Cells w .u32 b off n s)(hs:∀j,j<n->s j<4294967296)(hr:R s):RowRel b off n s w w 0 R :=
 ⟨Wrote.refl _ _ _ _,hf,s,hc,hs,fun _ _=>rfl,hr⟩
theorem RowRel.step {b off n : Nat} {s : Nat -> Nat} {w wr : World} {k r : Nat} {R R' : (Nat -> Nat) -> Prop} (h : RowRel b off n s w wr k R) (hk : k < n) (hr : r < 4294967296)
    (hR:∀d d',R d->(∀j,k<=j->d j=s j)->(∀j,j<k->d' j=d j)->d' k=r->R' d'):RowRel b off n s w (wr.setCell ⟨b,off+k,none⟩ (.int .u32 r)) (k+1) R':=by
 obtain⟨h1,h2,d,h3,h4,h5,h6⟩:=h
 refine⟨h1.setCell (by omega) (by omega) _,h2.set _ _,_,h3.set hk,fun j hj => ?_,fun j hj => ?_,hR d _ h6 h5 (fun j hj => ?_) (by simp)⟩
 · split;· exact hr
   · exact h4 j hj
 · rw[if_neg (by omega)];exact h5 j (by omega)
 · rw[if_neg (by omega)]
theorem RowRel.drew{b off n:Nat}{s:Nat->Nat}{w wr:World}{k:Nat}{R:(Nat->Nat)->Prop}(h:RowRel b off n s w wr k R):RowRel b off n s w wr.drew k R :=
 ⟨h.1.drew,h.2.1,h.2.2⟩
theorem RowRel.read {b off n : Nat} {s : Nat -> Nat} {w wr : World} {k : Nat} {R : (Nat -> Nat) -> Prop} (h : RowRel b off n s w wr k R) (hk : k < n) :
    wr.cell? ⟨b,off+k,none⟩=some (.int .u32 (s k))/\wr.frozen? ⟨b,off+k,none⟩=false/\s k<4294967296:=by
 obtain⟨h1,h2,d,h3,h4,h5,h6⟩:=h;have e:=h5 k (Nat.le_refl _);exact⟨by rw[← e];exact h3 k hk,h2 _,by rw[← e];exact h4 k hk⟩
def AddR(s p:Nat->Nat)(k c:Nat)(d:Nat->Nat):Prop:=c<=1/\val d k+c*4294967296^k=val s k+val p k
theorem addR_step{s p:Nat->Nat}{k c:Nat}(hs:s k<4294967296)(hp:p k<4294967296):∀d d',AddR s p k c d->(∀j,k<=j->d j=s j)->(∀j,j<k->d' j=d j)->d' k=(s k+p k+c)%4294967296->AddR s p (k+1) ((s k+p k+c) / 4294967296) d':=by
 intro d d' h _ h2 h3;refine⟨by have:=h.1;omega,add_step s p d' k c ?_ h3⟩;rw[val_congr k h2];exact h.2
theorem addTo_any (b off n cs : Nat) (s : Nat -> Nat) (pa : Option Addr) (pn pc : Nat) (p : Nat -> Nat) (w : World) (hf : Free w b) (hc : Cells w .u32 b off n s)
    (hsl:∀j,j<n->s j<4294967296) (hn:n<=1000000) (hp:SlAt w .u32 4294967296 pa pn pc p) (hne:∀x,pa=some x->x.block≠b) :
    Calls Tryz.prog 216 #[.slice (some ⟨b,off,none⟩) n cs,.slice pa pn pc] w fun e w'=>e=.returned (.tuple #[]) /\
     ∃c,RowRel b off n s w w' n (AddR s (fun j=>if j<pn then p j else 0) n c):=by
 have H0:=RowRel.start (R:=AddR s (fun j=>if j<pn then p j else 0) 0 0) hf hc hsl ⟨by omega,by simp[val]⟩;have HNE:=Lib.hid hne;have HP:=Lib.hid hp;clear hf hc hsl hne hp;go_enter Tryz.func216,Tryz.ntmps216;go_wp2
 go_loopw [4,8] (fun c i wr=>∃k cy:Nat,k<=n/\i=.int .i64 k/\cy<=1/\c=.int .u32 cy/\RowRel b off n s w wr k (AddR s (fun j=>if j<pn then p j else 0) k cy))
  (fun _ i _=>n-(intOf i).toNat)
 case atStart=>exact⟨0,0,by omega,rfl,by omega,rfl,H0⟩
 case round =>
  obtain⟨k,cy,hk,rfl,hcy,rfl,hr⟩:=hrel
  by_cases hlt:k<n
  · obtain⟨hck,hfk,hdl⟩:=hr.read hlt;have hpw:SlAt wr.drew .u32 4294967296 pa pn pc p:=HP.out.wrote hr.1.drew HNE.out
    have hyl:(if k<pn then p k else 0)<4294967296:=by
     split
     · exact hpw.2.2.1 k (by assumption)
     · omega
    have hla:=limbAt_any pa pn pc p k wr.drew hpw;have hst:=addR_step (s:=s) (p:=fun j=>if j<pn then p j else 0) (k:=k) (c:=cy) hdl hyl;obtain⟨r,hr1⟩:∃r,(s k+(if k<pn then p k else 0)+cy)%4294967296=r:=⟨_,rfl⟩
    obtain⟨q,hq1⟩:∃q,(s k+(if k<pn then p k else 0)+cy) / 4294967296=q:=⟨_,rfl⟩
    have had:=fun W=>add32_any (s k) (if k<pn then p k else 0) cy hdl hyl hcy W
    rw[hr1,hq1]at had;simp only[hr1,hq1]at hst;have hrn:RowRel b off n s w ((wr.setCell ⟨b,off+k,none⟩ (.int .u32 r)).drew) (k+1) (AddR s (fun j=>if j<pn then p j else 0) (k+1) q):=(hr.step hlt (by omega) hst).drew;have hq2:q<=1:=by omega
    generalize (if k<pn then p k else 0)=y at *;generalize s k=x at *;have HLA:=Lib.hid hla;have HAD:=Lib.hid had;have HRN:=Lib.hid hrn;clear hla had hrn hpw hst hr hr1 hq1;have hk0:(0:Int)<=(k:Int):=by omega
    have hkn:(k:Int)<(n:Int):=by omega
    have hkt:((k:Int)).toNat=k:=by omega
    go_wp2_with fail
    go_region_with (first|(go_at_call 243;refine HLA.out.mono ?_;rintro e w1 ⟨rfl,rfl⟩)|(go_at_call 242;refine(HAD.out _).mono ?_;rintro e w1 ⟨rfl,rfl⟩))
    all_goals
     go_wp2
     go_roundw
     case rel=>exact⟨k+1,q,by omega,by go_num,hq2,rfl,HRN.out⟩
     case measure=>simp[intOf];omega
  · obtain rfl:k=n:=by omega
    have HR:=Lib.hid hr;clear hr;go_wp2
    go_end0
    exact⟨rfl,cy,HR.out⟩
theorem borrow_bit (x y c d : Nat) (hx : x < 4294967296) (hy : y < 4294967296) (hc : c <= 1) (hd : d = (x + 8589934592 - y - c) % 4294967296) :
    (((4294967295 ^^^ x) &&& y) ||| ((4294967295 ^^^ (x ^^^ y)) &&& d)) / 2147483648=if x<y+c then 1 else 0:=by
 have h1:((4294967295 ^^^ x) &&& y)<2^32:=Nat.and_lt_two_pow _ (by omega);have h2:((4294967295 ^^^ (x ^^^ y)) &&& d)<2^32:=Nat.and_lt_two_pow _ (by omega);have h3:=Nat.or_lt_two_pow h1 h2
 have hb:(((4294967295 ^^^ x) &&& y) ||| ((4294967295 ^^^ (x ^^^ y)) &&& d)).testBit 31=decide (x<y+c):=by
  have t0:Nat.testBit 4294967295 31=true:=by decide
  simp only[Nat.testBit_or,Nat.testBit_and,Nat.testBit_xor,t0];have tx:x.testBit 31=decide (2147483648<=x):=by rw[Nat.testBit_eq_decide_div_mod_eq];congr 1;simp;omega
  have ty:y.testBit 31=decide (2147483648<=y):=by rw[Nat.testBit_eq_decide_div_mod_eq];congr 1;simp;omega
  have td:d.testBit 31=decide (2147483648<=d):=by rw[Nat.testBit_eq_decide_div_mod_eq];congr 1;simp;omega
  rw[tx,ty,td]
  by_cases a:2147483648<=x<;>by_cases b:2147483648<=y<;>by_cases e:2147483648<=d<;>simp[a,b,e]<;>omega
 rw[Nat.testBit_eq_decide_div_mod_eq]at hb;generalize (((4294967295 ^^^ x) &&& y) ||| ((4294967295 ^^^ (x ^^^ y)) &&& d))=n at *;have hb':(n / 2^31%2=1)↔x<y+c:=by simpa using hb
 split
 · have:=hb'.2 (by assumption);omega
 · have:¬(n / 2^31%2=1):=fun h=>by have:=hb'.1 h;omega
   omega
def subB(x y c:Nat):Nat:=if x<y+c then 1 else 0
def subD(x y c:Nat):Nat:=(x+8589934592-y-c)%4294967296
theorem sub_spec{x y c:Nat}(hx:x<4294967296)(hy:y<4294967296)(hc:c<=1):subD x y c<4294967296/\subB x y c<=1/\x+subB x y c*4294967296=subD x y c+y+c:=by
 unfold subB subD;split<;>omega
theorem sub32_any (x y c : Nat) (hx : x < 4294967296) (hy : y < 4294967296) (hc : c <= 1) (w : World) :
    Calls Tryz.prog 264 #[.int .u32 x,.int .u32 y,.int .u32 c] w fun e w'=>e=.returned (.tuple #[.int .u32 (subD x y c),.int .u32 (subB x y c)])/\w=w':=by
 go_enter Tryz.func264,Tryz.ntmps264;go_wp2;go_ret2;have e:((x:Int)-y-c)%4294967296=((subD x y c:Nat):Int):=by unfold subD;omega
 have hM:IntKind.u32.max=((4294967295:Nat):Int):=by decide
 have b1:=(sub_spec hx hy hc).1;refine⟨ret_two e ?_,rfl⟩
 show bits BinOp.or IntKind.u32 (bits BinOp.and IntKind.u32 (bits BinOp.xor IntKind.u32 IntKind.u32.max ↑x) ↑y)
       (bits BinOp.and IntKind.u32 (bits BinOp.xor IntKind.u32 IntKind.u32.max (bits BinOp.xor IntKind.u32 ↑x ↑y))
         (((x:Int)-y-c)%4294967296)) / 2147483648=_
 have p:(4294967296:Nat)=2^32:=by decide
 have c1:4294967295 ^^^ x<4294967296:=by rw[p];exact Nat.xor_lt_two_pow (by decide) (by omega)
 have c2:x ^^^ y<4294967296:=by rw[p];exact Nat.xor_lt_two_pow (by omega) (by omega)
 have c3:4294967295 ^^^ (x ^^^ y)<4294967296:=by rw[p];exact Nat.xor_lt_two_pow (by decide) (by omega)
 have c4:((4294967295 ^^^ x) &&& y)<4294967296:=by rw[p];exact Nat.and_lt_two_pow _ (by omega)
 have c5:((4294967295 ^^^ (x ^^^ y)) &&& subD x y c)<4294967296:=by rw[p];exact Nat.and_lt_two_pow _ (by omega)
 rw[e,hM,u32_xor_nat _ _ (by omega) hx,u32_and_nat _ _ c1 hy,u32_xor_nat _ _ hx hy,u32_xor_nat _ _ (by omega) c2,u32_and_nat _ _ c3 b1,u32_or_nat _ _ c4 c5];have h:=borrow_bit x y c (subD x y c) hx hy hc rfl;have h2:((((4294967295 ^^^ x) &&& y ||| (4294967295 ^^^ (x ^^^ y)) &&& subD x y c:Nat):Int) / 2147483648)=(((4294967295 ^^^ x) &&& y ||| (4294967295 ^^^ (x ^^^ y)) &&& subD x y c) / 2147483648:Nat):=by omega
 rw[h2,h];rfl
theorem div_lt_32{h l d:Nat}(hh:h<d)(hl:l<4294967296):(h*4294967296+l) / d<4294967296:=by
 rw[Nat.div_lt_iff_lt_mul (by omega)];have:(h+1)*4294967296<=d*4294967296:=Nat.mul_le_mul_right _ hh;rw[Nat.mul_comm 4294967296 d];omega
theorem div32_any (h l d : Nat) (hh : h < d) (hl : l < 4294967296) (hd : d < 4294967296) (w : World) :
    Calls Tryz.prog 199 #[.int .u32 h,.int .u32 l,.int .u32 d] w fun e w'=>e=.returned (.tuple #[.int .u32 (((h*4294967296+l) / d:Nat):Int),.int .u32 (((h*4294967296+l)%d:Nat):Int)])/\∃n,w'=w.drewN n:=by
 have h0':((d:Int) != 0)=true:=by simp;omega
 have h1:decide (d<=h)=false:=by simp;omega
 have h2:bits BinOp.or IntKind.u64 ((h:Int)*4294967296) l=((h*4294967296+l:Nat):Int):=by
  have:=u64_or_nat (h*4294967296) l (by omega) (by omega);rw[nat_join 32 _ _ (by simp) (by omega)]at this;rw[← this];simp
 obtain⟨z,hz⟩:∃z,h*4294967296+l=z:=⟨_,rfl⟩
 have hq:=div_lt_32 hh hl;have hr:=Nat.mod_lt (h*4294967296+l) (show 0<d by omega);rw[hz]at h2 hq hr ⊢;have HZ:=Lib.hid hz;clear hz hq hr;have hd0:0<d:=by omega
 go_enter Tryz.func199,Tryz.ntmps199;go_wp2
 go_quiet (fail)
 go_wp2;go_ret2;have hz:=HZ.out;have hq:=div_lt_32 hh hl;have hr:=Nat.mod_lt (h*4294967296+l) (show 0<d by omega);rw[hz]at hq hr;have t1:((z:Int)).tdiv d=((z / d:Nat):Int):=by simp[Int.tdiv]
 have t2:((z:Int)).tmod d=((z%d:Nat):Int):=by simp[Int.tmod]
 refine⟨ret_two ?_ ?_,_,rfl⟩
 · show IntKind.u64.wrap ((z:Int).tdiv d)%4294967296=_
   rw[t1,IntKind.wrap_u64];generalize z / d=q at hq ⊢
   omega
 · show(z:Int).tmod d%4294967296=_
   rw[t2];generalize z%d=q at hr ⊢
   omega
def TakeR(s p:Nat->Nat)(m:Nat)(k hi c:Nat)(d:Nat->Nat):Prop:=c<=1/\hi*4294967296^k<=m*val p k/\val d k+m*val p k=val s k+(hi+c)*4294967296^k
theorem takeR_step {s p : Nat -> Nat} {m k hi c lo hi' : Nat} (hs : s k < 4294967296) (hlo : lo < 4294967296) (hp : hi + p k * m = hi' * 4294967296 + lo) :
    ∀d d',TakeR s p m k hi c d->(∀j,k<=j->d j=s j)->(∀j,j<k->d' j=d j)->d' k=subD (s k) lo c->TakeR s p m (k+1) hi' (subB (s k) lo c) d':=by
 intro d d' h _ h2 h3;obtain⟨h0,hle,h1⟩:=h;obtain⟨e1,e2,e3⟩:=sub_spec hs hlo h0;refine⟨e2,?_⟩;rw[val,val,val,pow_succ32,val_congr k h2,h3];generalize subD (s k) lo c=D at *;generalize subB (s k) lo c=B at *;generalize 4294967296^k=P at *;generalize val d k=vd at *;generalize val p k=vp at *;generalize val s k=vs at *;generalize s k=x at *;generalize p k=y at *
 -- m * (vp + y*P) + vd + D*P = vs + x*P + (hi' + B) * (2^32 * P)
 have a1:(x+B*4294967296)*P=(D+lo+c)*P:=by rw[e3]
 have a2:(hi+y*m)*P=(hi'*4294967296+lo)*P:=by rw[hp]
 have b1:m*(vp+y*P)=m*vp+y*m*P:=by rw[Nat.mul_add,← Nat.mul_assoc,Nat.mul_comm m y]
 have b2:(hi'+B)*(4294967296*P)=hi'*4294967296*P+B*4294967296*P:=by rw[Nat.add_mul,← Nat.mul_assoc,← Nat.mul_assoc]
 rw[Nat.add_mul]at a1 a2;rw[Nat.add_mul,Nat.add_mul]at a1;rw[Nat.add_mul (hi'*4294967296)]at a2;rw[Nat.add_mul]at h1;rw[b1,b2];have b3:hi'*(4294967296*P)=hi'*4294967296*P:=by rw[Nat.mul_assoc]
 rw[b3]
 constructor<;>omega
theorem mul_bound{y m:Nat}(hy:y<4294967296)(hm:m<4294967296):y*m<=18446744065119617025:=Nat.mul_le_mul (show y<=4294967295 by omega) (show m<=4294967295 by omega)
theorem takeTimes_any (b off n cs : Nat) (s : Nat -> Nat) (pa : Option Addr) (pn pc : Nat) (p : Nat -> Nat) (m : Nat) (w : World) (hf : Free w b) (hc : Cells w .u32 b off n s)
    (hsl:∀j,j<n->s j<4294967296) (hn:n<=1000000) (hp:SlAt w .u32 4294967296 pa pn pc p) (hne:∀x,pa=some x->x.block≠b) (hm:m<4294967296) :
    Calls Tryz.prog 259 #[.slice (some ⟨b,off,none⟩) n cs,.slice pa pn pc,.int .u32 m] w fun e w'=>∃c hi,e=.returned (.bool (decide (0<c))) /\
     RowRel b off n s w w' n (TakeR s (fun j=>if j<pn then p j else 0) m n hi c):=by
 have H0:=RowRel.start (R:=TakeR s (fun j=>if j<pn then p j else 0) m 0 0 0) hf hc hsl ⟨by omega,by simp,by simp[val]⟩;have HNE:=Lib.hid hne;have HP:=Lib.hid hp;clear hf hc hsl hne hp;go_enter Tryz.func259,Tryz.ntmps259;go_wp2
 go_loopw [7,8,12] (fun pr c i wr=>∃k hi cy:Nat,k<=n/\i=.int .i64 k/\cy<=1/\c=.int .u32 cy/\hi<4294967296/\pr=.int .u64 hi/\RowRel b off n s w wr k (TakeR s (fun j=>if j<pn then p j else 0) m k hi cy))
  (fun _ _ i _=>n-(intOf i).toNat)
 case atStart=>exact⟨0,0,0,by omega,rfl,by omega,rfl,by omega,rfl,H0⟩
 case round =>
  obtain⟨k,hi,cy,hk,rfl,hcy,rfl,hhi,rfl,hr⟩:=hrel
  by_cases hlt:k<n
  · obtain⟨hck,hfk,hdl⟩:=hr.read hlt;have hpw:SlAt wr .u32 4294967296 pa pn pc p:=HP.out.wrote hr.1 HNE.out
    have hyl:(if k<pn then p k else 0)<4294967296:=by
     split
     · exact hpw.2.2.1 k (by assumption)
     · omega
    have hla:=limbAt_any pa pn pc p k wr hpw;obtain⟨pr,hpr⟩:∃pr,hi+(if k<pn then p k else 0)*m=pr:=⟨_,rfl⟩
    have hprm:=mul_bound hyl hm;obtain⟨lo,hlo⟩:∃lo,pr%4294967296=lo:=⟨_,rfl⟩
    obtain⟨hi',hhi'⟩:∃hi',pr / 4294967296=hi':=⟨_,rfl⟩
    have hst:=takeR_step (s:=s) (p:=fun j=>if j<pn then p j else 0) (m:=m) (k:=k) (hi:=hi) (c:=cy) (lo:=lo) (hi':=hi') hdl (by omega) (by show hi+(if k<pn then p k else 0)*m=_;rw[hpr];omega);have hsu:=fun W=>sub32_any (s k) lo cy hdl (by omega) hcy W
    obtain⟨hb1,hb2,hb3⟩:=sub_spec (x:=s k) (y:=lo) (c:=cy) hdl (by omega) hcy;generalize hD:subD (s k) lo cy=D at *;generalize hB:subB (s k) lo cy=B at *;have hrn:RowRel b off n s w (wr.setCell ⟨b,off+k,none⟩ (.int .u32 D)) (k+1) (TakeR s (fun j=>if j<pn then p j else 0) m (k+1) hi' B):=hr.step hlt hb1 hst;have hpl:pr<18446744073709551616:=by omega
    have hhl:hi'<4294967296:=by omega
    generalize (if k<pn then p k else 0)=y at *;generalize s k=x at *;have e1:(hi:Int)+(y:Int)*(m:Int)=(pr:Int):=by rw[← hpr,Int.natCast_add,Int.natCast_mul]
    have e2:(pr:Int)%4294967296=(lo:Int):=by omega
    have e3:(pr:Int) / 4294967296=(hi':Int):=by omega
    have i1:(y:Int)*(m:Int)<=18446744065119617025:=by rw[← Int.natCast_mul];omega
    have i0:0<=(y:Int)*(m:Int):=by rw[← Int.natCast_mul];omega
    have HLA:=Lib.hid hla;have HSU:=Lib.hid hsu;have HRN:=Lib.hid hrn;clear hla hsu hrn hpw hst hr hpr hlo hhi' hD hB hb3 hprm;have hk0:(0:Int)<=(k:Int):=by omega
    have hkn:(k:Int)<(n:Int):=by omega
    have hkt:((k:Int)).toNat=k:=by omega
    go_wp2_with (first|(go_at_call 243;refine HLA.out.mono ?_;rintro e w1 ⟨rfl,rfl⟩)|(go_at_call 264;refine(HSU.out _).mono ?_;rintro e w1 ⟨rfl,rfl⟩))
    go_roundw
    case rel=>exact⟨k+1,hi',B,by omega,by go_num,hb2,rfl,hhl,rfl,HRN.out⟩
    case measure=>simp[intOf];omega
  · obtain rfl:k=n:=by omega
    have HR:=Lib.hid hr;clear hr;go_wp2;go_ret;exact⟨cy,hi,by simp,HR.out⟩
def seg(f:Nat->Nat)(m:Nat):Nat->Nat
 | 0=>0
 | n+1=>if m<=n then seg f m n+f n*4294967296^n else 0
theorem seg_self(f:Nat->Nat)(m:Nat):∀n,n<=m->seg f m n=0
 | 0,_=>rfl
 | n+1,h=>by rw[seg,if_neg (by omega)]
theorem seg_zero(f:Nat->Nat):∀n,seg f 0 n=val f n
 | 0=>rfl
 | n+1=>by rw[seg,if_pos (by omega),seg_zero f n,val]
theorem seg_head(f:Nat->Nat)(m:Nat):∀n,m<n->seg f m n=f m*4294967296^m+seg f (m+1) n
 | 0,h=>by omega
 | n+1,h=>by
  by_cases e:m=n
  · subst e;rw[seg,if_pos (by omega),seg_self f m m (by omega),seg_self f (m+1) (m+1) (by omega)];omega
  · rw[seg,if_pos (by omega),seg_head f m n (by omega),seg,if_pos (by omega)];omega
theorem seg_congr{f g:Nat->Nat}(m:Nat):∀n,(∀j,m<=j->j<n->f j=g j)->seg f m n=seg g m n
 | 0,_=>rfl
 | n+1,h=>by
  rw[seg,seg]
  split
  · rw[seg_congr m n (fun j h1 h2=>h j h1 (by omega)),h n (by assumption) (by omega)]
  · rfl
theorem val_seg (f : Nat -> Nat) (m : Nat) : ∀ n, m <= n -> val f n = val f m + seg f m n
 | 0, h => by obtain rfl : m = 0 := by omega
              rfl
 | n+1,h=>by
  by_cases e:m=n+1
  · subst e;rw[seg_self f _ _ (Nat.le_refl _)];rfl
  · rw[val,val_seg f m n (by omega),seg,if_pos (by omega)];omega
def RowU(b off n:Nat)(s:Nat->Nat)(w wr:World)(U:Nat->Prop)(R:(Nat->Nat)->Prop):Prop :=
 Wrote b off (off+n) w wr/\Free wr b/\∃d,Cells wr .u32 b off n d/\(∀j,j<n->d j<4294967296)/\(∀j,U j->d j=s j)/\R d
theorem RowU.start{b off n:Nat}{s:Nat->Nat}{w:World}{U:Nat->Prop}{R:(Nat->Nat)->Prop}(hf:Free w b)(hc:Cells w .u32 b off n s)(hs:∀j,j<n->s j<4294967296)(hr:R s):RowU b off n s w w U R :=
 ⟨Wrote.refl _ _ _ _,hf,s,hc,hs,fun _ _=>rfl,hr⟩
theorem RowU.step {b off n : Nat} {s : Nat -> Nat} {w wr : World} {t r : Nat} {U U' : Nat -> Prop} {R R' : (Nat -> Nat) -> Prop} (h : RowU b off n s w wr U R) (ht : t < n) (hr : r < 4294967296) (hU : ∀ j, U' j -> U j /\ j ≠ t)
    (hR:∀d d',R d->(∀j,j≠t->d' j=d j)->d' t=r->R' d'):RowU b off n s w (wr.setCell ⟨b,off+t,none⟩ (.int .u32 r)) U' R':=by
 obtain⟨h1,h2,d,h3,h4,h5,h6⟩:=h
 refine⟨h1.setCell (by omega) (by omega) _,h2.set _ _,_,h3.set ht,fun j hj => ?_,fun j hj => ?_,hR d _ h6 (fun j hj => ?_) (by simp)⟩
 · split;· exact hr
   · exact h4 j hj
 · rw[if_neg (hU j hj).2];exact h5 j (hU j hj).1
 · rw[if_neg hj]
theorem RowU.drew{b off n:Nat}{s:Nat->Nat}{w wr:World}{U:Nat->Prop}{R:(Nat->Nat)->Prop}(h:RowU b off n s w wr U R):RowU b off n s w wr.drew U R :=
 ⟨h.1.drew,h.2.1,h.2.2⟩
theorem RowU.drewN{b off n:Nat}{s:Nat->Nat}{w wr:World}{U:Nat->Prop}{R:(Nat->Nat)->Prop}(h:RowU b off n s w wr U R)(q:Nat):RowU b off n s w (wr.drewN q) U R :=
 ⟨h.1.drewN q,h.2.1,h.2.2⟩
theorem RowU.read {b off n : Nat} {s : Nat -> Nat} {w wr : World} {t : Nat} {U : Nat -> Prop} {R : (Nat -> Nat) -> Prop} (h : RowU b off n s w wr U R) (ht : t < n) (hU : U t) :
    wr.cell? ⟨b,off+t,none⟩=some (.int .u32 (s t))/\wr.frozen? ⟨b,off+t,none⟩=false/\s t<4294967296:=by
 obtain⟨h1,h2,d,h3,h4,h5,h6⟩:=h;have e:=h5 t hU;exact⟨by rw[← e];exact h3 t ht,h2 _,by rw[← e];exact h4 t ht⟩
def DivR(s:Nat->Nat)(n m k rest:Nat)(d:Nat->Nat):Prop:=m*seg d (n-k) n+rest*4294967296^(n-k)=seg s (n-k) n
theorem divR_step{s:Nat->Nat}{n m k rest:Nat}(hk:k<n):∀d d',DivR s n m k rest d->(∀j,j≠n-1-k->d' j=d j)->d' (n-1-k)=(rest*4294967296+s (n-1-k)) / m ->
    DivR s n m (k+1) ((rest*4294967296+s (n-1-k))%m) d':=by
 intro d d' h h1 h2;unfold DivR at *;obtain⟨t,rfl⟩:∃t,n=t+1+k:=⟨n-1-k,by omega⟩
 have e1:t+1+k-k=t+1:=by omega
 have e2:t+1+k-(k+1)=t:=by omega
 have e3:t+1+k-1-k=t:=by omega
 rw[e3]at h1 h2 ⊢;rw[e1]at h;rw[e2,seg_head s t _ (by omega),seg_head d' t _ (by omega),h2,seg_congr (t+1) (t+1+k) (f:=d') (g:=d) (fun j hj _=>h1 j (by omega)),← h,pow_succ32];have e:=Nat.div_add_mod (rest*4294967296+s t) m;generalize (rest*4294967296+s t) / m=q at *;generalize (rest*4294967296+s t)%m=r at *;generalize 4294967296^t=P at *;generalize seg d (t+1) (t+1+k)=S at *;have a1:(m*q+r)*P=(rest*4294967296+s t)*P:=by rw[e]
 have a2:m*(q*P+S)=m*q*P+m*S:=by rw[Nat.mul_add,Nat.mul_assoc]
 have a3:rest*(4294967296*P)=rest*4294967296*P:=by rw[Nat.mul_assoc]
 rw[Nat.add_mul,Nat.add_mul]at a1;rw[a2,a3];omega
def DivEnd(s:Nat->Nat)(n m r:Nat)(d:Nat->Nat):Prop:=m*val d n+r=val s n
theorem divideBy_any (b off n cs : Nat) (s : Nat -> Nat) (m : Nat) (w : World) (hf : Free w b) (hc : Cells w .u32 b off n s) (hsl : ∀ j, j < n -> s j < 4294967296) (hn : n <= 1000000) (hm : m < 4294967296) (hm0 : 0 < m) :
    Calls Tryz.prog 142 #[.slice (some ⟨b,off,none⟩) n cs,.int .u32 m] w fun e w'=>∃r:Nat,e=.returned (.int .u32 r)/\r<m /\
     RowU b off n s w w' (fun _=>False) (DivEnd s n m r):=by
 have H0:=RowU.start (U:=fun j=>j<n-0) (R:=DivR s n m 0 0) hf hc hsl (by unfold DivR;simp[seg_self]);clear hf hc hsl;go_enter Tryz.func142,Tryz.ntmps142;go_wp2
 go_loopw [5,11] (fun r i wr=>∃k rest:Nat,k<=n/\i=.int .i64 k/\rest<m/\r=.int .u32 rest/\RowU b off n s w wr (fun j=>j<n-k) (DivR s n m k rest))
  (fun _ i _=>n-(intOf i).toNat)
 case atStart=>exact⟨0,0,by omega,rfl,by omega,rfl,H0⟩
 case round =>
  obtain⟨k,rest,hk,rfl,hrest,rfl,hr⟩:=hrel
  by_cases hlt:k<n
  · obtain⟨t,ht⟩:∃t,n-1-k=t:=⟨_,rfl⟩
    have htn:t<n:=by omega
    obtain⟨hck,hfk,hdl⟩:=hr.read htn (by omega);have hdv:=fun W=>div32_any rest (s t) m hrest hdl hm W
    have hst:=divR_step (s:=s) (m:=m) (rest:=rest) hlt;have hql:=div_lt_32 hrest hdl;have hrl:=Nat.mod_lt (rest*4294967296+s t) hm0;rw[ht]at hst;generalize hq:(rest*4294967296+s t) / m=q at *;generalize hrr:(rest*4294967296+s t)%m=r at *;have hrn:RowU b off n s w (wr.setCell ⟨b,off+t,none⟩ (.int .u32 q)) (fun j=>j<n-(k+1)) (DivR s n m (k+1) r):=hr.step htn hql (fun j hj=>by omega) hst;generalize s t=x at *;have HDV:=Lib.hid hdv;have HRN:=Lib.hid hrn;have e1:(n:Int)-1-(k:Int)=(t:Int):=by omega
    have ht0:(0:Int)<=(t:Int):=by omega
    have htn':(t:Int)<(n:Int):=by omega
    have htt:((t:Int)).toNat=t:=by omega
    clear hdv hrn hst hr hq hrr ht
    go_wp2_with (go_at_call 199;refine(HDV.out _).mono ?_;rintro e w1 ⟨rfl,nq,rfl⟩)
    go_roundw
    case rel=>exact⟨k+1,r,by omega,by go_num,hrl,rfl,HRN.out.drewN nq⟩
    case measure=>simp[intOf];omega
  · obtain rfl:k=n:=by omega
    have HR:RowU b off k s w wr (fun _=>False) (DivEnd s k m rest):=by
     obtain⟨a1,a2,d,a3,a4,a5,a6⟩:=hr;refine⟨a1,a2,d,a3,a4,fun _ h=>h.elim,?_⟩;unfold DivR at a6;unfold DivEnd
     simpa[seg_zero]using a6
    have HRH:=Lib.hid HR;clear hr HR;go_wp2;go_ret;exact⟨rest,rfl,hrest,HRH.out⟩
def MulR(s p:Nat->Nat)(m k c:Nat)(d:Nat->Nat):Prop:=val d k+c*4294967296^k=val s k+m*val p k
theorem mulR_step {s p : Nat -> Nat} {m k c c' lo : Nat} (hp : c + (p k * m + s k) = c' * 4294967296 + lo) :
    ∀d d',MulR s p m k c d->(∀j,j≠k->d' j=d j)->d' k=lo->MulR s p m (k+1) c' d':=by
 intro d d' h h2 h3;unfold MulR at *;rw[val,val,val,pow_succ32,val_congr k (f:=d') (g:=d) (fun j hj=>h2 j (by omega)),h3];generalize 4294967296^k=P at *;generalize val d k=vd at *;generalize val p k=vp at *;generalize val s k=vs at *;generalize s k=x at *;generalize p k=y at *;have a2:(c+(y*m+x))*P=(c'*4294967296+lo)*P:=by rw[hp]
 have b1:m*(vp+y*P)=m*vp+y*m*P:=by rw[Nat.mul_add,← Nat.mul_assoc,Nat.mul_comm m y]
 rw[Nat.add_mul,Nat.add_mul,Nat.add_mul,Nat.mul_assoc c']at a2;rw[b1]
 omega
def MulEnd(s p:Nat->Nat)(m k:Nat)(d:Nat->Nat):Prop:=val d (k+1)=val s k+m*val p k
theorem mul_bound'{y m:Nat}(hy:y<4294967296)(hm:m<4294967296):y*m<=18446744065119617025:=Nat.mul_le_mul (show y<=4294967295 by omega) (show m<=4294967295 by omega)
theorem addTimes_any (b off n cs : Nat) (s : Nat -> Nat) (pa : Option Addr) (pn pc : Nat) (p : Nat -> Nat) (m : Nat) (w : World) (hf : Free w b) (hc : Cells w .u32 b off n s)
    (hsl:∀j,j<n->s j<4294967296) (hn:n<=1000000) (hp:SlAt w .u32 4294967296 pa pn pc p) (hne:∀x,pa=some x->x.block≠b) (hm:m<4294967296) (hpn:pn<n) :
    Calls Tryz.prog 220 #[.slice (some ⟨b,off,none⟩) n cs,.slice pa pn pc,.int .u32 m] w fun e w'=>e=.returned (.tuple #[]) /\
     RowU b off n s w w' (fun j=>pn<j) (MulEnd s p m pn):=by
 have H0:=RowU.start (U:=fun j=>0<=j) (R:=MulR s p m 0 0) hf hc hsl (by simp[MulR,val]);have HNE:=Lib.hid hne;have HP:=Lib.hid hp;clear hf hc hsl hne hp;go_enter Tryz.func220,Tryz.ntmps220;go_wp2
 go_loopw [6,10] (fun pr i wr=>∃k c:Nat,k<=pn/\i=.int .i64 k/\c<4294967296/\pr=.int .u64 c/\RowU b off n s w wr (fun j=>k<=j) (MulR s p m k c))
  (fun _ i _=>pn-(intOf i).toNat)
 case atStart=>exact⟨0,0,by omega,rfl,by omega,rfl,H0⟩
 case round =>
  obtain⟨k,c,hk,rfl,hc,rfl,hr⟩:=hrel
  by_cases hlt:k<pn
  · obtain⟨hck,hfk,hdl⟩:=hr.read (show k<n by omega) (Nat.le_refl _);have hpw:SlAt wr .u32 4294967296 pa pn pc p:=HP.out.wrote hr.1 HNE.out;obtain⟨b2,o2,rfl,hb2,hcp,hyl⟩:=hpw.limb hlt;obtain⟨pr,hpr⟩:∃pr,c+(p k*m+s k)=pr:=⟨_,rfl⟩
    have hprm:=mul_bound' hyl hm;obtain⟨lo,hlo⟩:∃lo,pr%4294967296=lo:=⟨_,rfl⟩
    obtain⟨c',hc'⟩:∃c',pr / 4294967296=c':=⟨_,rfl⟩
    have hst:=mulR_step (s:=s) (p:=p) (m:=m) (k:=k) (c:=c) (c':=c') (lo:=lo) (by rw[hpr];omega);have hrn:RowU b off n s w (wr.setCell ⟨b,off+k,none⟩ (.int .u32 lo)) (fun j=>k+1<=j) (MulR s p m (k+1) c'):=hr.step (show k<n by omega) (by omega) (fun j hj=>by omega) hst;have hpl:pr<18446744073709551616:=by omega
    have hcl:c'<4294967296:=by omega
    generalize p k=y at *;generalize s k=x at *;have e0:(y:Int)*(m:Int)+(x:Int)=((y*m+x:Nat):Int):=by rw[Int.natCast_add,Int.natCast_mul]
    have e1:(c:Int)+((y:Int)*(m:Int)+(x:Int))=(pr:Int):=by rw[← hpr,Int.natCast_add,Int.natCast_add,Int.natCast_mul]
    have e2:(pr:Int)%4294967296=(lo:Int):=by omega
    have e3:(pr:Int) / 4294967296=(c':Int):=by omega
    have i1:(y:Int)*(m:Int)<=18446744065119617025:=by rw[← Int.natCast_mul];omega
    have i0:0<=(y:Int)*(m:Int):=by rw[← Int.natCast_mul];omega
    have HRN:=Lib.hid hrn;clear hrn hpw hst hr hpr hlo hc' hprm e0;have hk0:(0:Int)<=(k:Int):=by omega
    have hkn:(k:Int)<(n:Int):=by omega
    have hkp:(k:Int)<(pn:Int):=by omega
    have hkt:((k:Int)).toNat=k:=by omega
    go_wp2_with fail
    go_quiet (fail)
    go_wp2
    go_roundw
    case rel=>exact⟨k+1,c',by omega,by go_num,hcl,rfl,HRN.out.drewN _⟩
    case measure=>simp[intOf];omega
  · obtain rfl:k=pn:=by omega
    obtain⟨hck,hfk,hdl⟩:=hr.read (show k<n by omega) (Nat.le_refl _)
    have hrn:RowU b off n s w (wr.setCell ⟨b,off+k,none⟩ (.int .u32 c)) (fun j=>k<j) (MulEnd s p m k) :=
     hr.step (show k<n by omega) hc (fun j hj=>by omega) (fun d d' h h2 h3=>by
      unfold MulR at h;unfold MulEnd
      rw[val,val_congr k (f:=d') (g:=d) (fun j hj=>h2 j (by omega)),h3];exact h)
    have HR:=Lib.hid hrn;have e2:(c:Int)%4294967296=(c:Int):=by omega
    clear hr hrn hdl;go_wp2
    go_end0
    exact⟨rfl,HR.out⟩
def UpR(s:Nat->Nat)(by_ k c:Nat)(d:Nat->Nat):Prop:=val d k+c*4294967296^k=val s k*2^by_
theorem two32{u:Nat}(hu:u<32):2^(32-u)*2^u=4294967296:=by
 rw[← Nat.pow_add,show 32-u+u=32 by omega]
theorem up_limb {x c u : Nat} (hx : x < 4294967296) (hu : u < 32) (hc : c < 2 ^ u) :
    ((x:Int) / 2^(32-u)=((x / 2^(32-u):Nat):Int))/\x / 2^(32-u)<2^u/\bits .or .u32 ((x:Int)*2^u%4294967296) c=((x*2^u%4294967296+c:Nat):Int) /\
      x*2^u%4294967296+c<4294967296/\x*2^u+c=x / 2^(32-u)*4294967296+(x*2^u%4294967296+c):=by
 have h2:=two32 hu;have hp:0<2^u:=Nat.two_pow_pos u
 have hd:x*2^u / 4294967296=x / 2^(32-u):=by
  rw[← h2];exact Nat.mul_div_mul_right _ _ hp
 have hm:x*2^u%4294967296%2^u=0:=by
  rw[Nat.mod_mod_of_dvd _ ⟨2^(32-u),by rw[Nat.mul_comm];exact h2.symm⟩];exact Nat.mul_mod_left _ _
 have hl:x*2^u%4294967296<4294967296:=Nat.mod_lt _ (by omega);have hcl:c<4294967296:=Nat.lt_of_lt_of_le hc (by rw[← h2];exact Nat.le_mul_of_pos_left _ (Nat.two_pow_pos _))
 have hs:x*2^u%4294967296+c<4294967296:=by
  obtain⟨q,hq⟩:∃q,x*2^u%4294967296=q*2^u:=⟨_,(Nat.div_mul_cancel (Nat.dvd_of_mod_eq_zero hm)).symm⟩
  rw[hq]at hl ⊢;rw[← h2]at hl ⊢;have:q<2^(32-u):=Nat.lt_of_mul_lt_mul_right hl;have:(q+1)*2^u<=2^(32-u)*2^u:=Nat.mul_le_mul_right _ this;rw[Nat.add_mul]at this
  omega
 refine⟨?_,?_,?_,hs,?_⟩
 · simp
 · rw[Nat.div_lt_iff_lt_mul (Nat.two_pow_pos _),Nat.mul_comm,h2];exact hx
 · have e:(x:Int)*2^u%4294967296=((x*2^u%4294967296:Nat):Int):=by simp
   rw[e,u32_or_nat _ _ hl hcl,nat_join u _ _ hm hc]
 · rw[← hd];omega
theorem upR_step {s : Nat -> Nat} {u k c c' lo : Nat} (hp : s k * 2 ^ u + c = c' * 4294967296 + lo) :
    ∀d d',UpR s u k c d->(∀j,j≠k->d' j=d j)->d' k=lo->UpR s u (k+1) c' d':=by
 intro d d' h h2 h3;unfold UpR at *;rw[val,val,pow_succ32,val_congr k (f:=d') (g:=d) (fun j hj=>h2 j (by omega)),h3];generalize 4294967296^k=P at *;generalize 2^u=U at *;generalize s k=x at *;have a:(x*U+c)*P=(c'*4294967296+lo)*P:=by rw[hp]
 rw[Nat.add_mul,Nat.add_mul,Nat.mul_assoc c']at a;have b:(val s k+x*P)*U=val s k*U+x*U*P:=by rw[Nat.add_mul,Nat.mul_assoc,Nat.mul_comm P U,← Nat.mul_assoc]
 rw[b];omega
theorem shiftUp_any (b off n cs : Nat) (s : Nat -> Nat) (u : Nat) (w : World) (hf : Free w b) (hc : Cells w .u32 b off n s)
    (hsl:∀j,j<n->s j<4294967296) (hn:n<=1000000) (hu:u<32) :
    Calls Tryz.prog 245 #[.slice (some ⟨b,off,none⟩) n cs,.int .i64 u] w fun e w'=>e=.returned (.tuple #[]) /\
     ∃c,Hid (c<2^u)/\RowU b off n s w w' (fun j=>n<=j) (UpR s u n c):=by
 have H0:=RowU.start (U:=fun j=>0<=j) (R:=UpR s u 0 0) hf hc hsl (by simp[UpR,val]);clear hf hc hsl;have hu0:(0:Int)<=(u:Int):=by omega
 go_enter Tryz.func245,Tryz.ntmps245;go_wp2
 go_loopw [4,8] (fun pr i wr=>∃k c:Nat,k<=n/\i=.int .i64 k/\Hid (c<2^u)/\pr=.int .u32 c/\RowU b off n s w wr (fun j=>k<=j) (UpR s u k c))
  (fun _ i _=>n-(intOf i).toNat)
 case atStart=>exact⟨0,0,by omega,rfl,Nat.two_pow_pos u,rfl,H0⟩
 case round =>
  obtain⟨k,c,hk,rfl,hc,rfl,hr⟩:=hrel
  by_cases hlt:k<n
  · obtain⟨hck,hfk,hdl⟩:=hr.read hlt (Nat.le_refl _);obtain⟨u1,u2,u3,u4,u5⟩:=up_limb hdl hu hc.out;have hst:=upR_step (s:=s) (u:=u) (k:=k) (c:=c) u5;have hrn:=hr.step hlt u4 (U':=fun j=>k+1<=j) (fun j hj=>by omega) hst;have HU1:=Lib.hid u1;have HU2:=Lib.hid u2;have HU3:=Lib.hid u3;have HRN:=Lib.hid hrn;clear u1 u2 u3 u4 u5 hst hrn hr;generalize s k=x at *;have hk0:(0:Int)<=(k:Int):=by omega
    have hkn:(k:Int)<(n:Int):=by omega
    have hkt:((k:Int)).toNat=k:=by omega
    go_wp2_with fail
    go_region
    go_wp2
    go_roundw
    case rel =>
     rw[HU1.out,HU3.out];exact⟨k+1,_,by omega,by go_num,HU2.out,rfl,HRN.out.drew⟩
    case measure=>simp[intOf];omega
  · obtain rfl:k=n:=by omega
    have HR:=Lib.hid hr;clear hr;go_wp2
    go_end0
    exact⟨rfl,c,hc,HR.out⟩
def nxt(s:Nat->Nat)(n k:Nat):Nat:=if k+1<n then s (k+1)else 0
def DownR(s:Nat->Nat)(n u k:Nat)(d:Nat->Nat):Prop:=∀j,j<k->d j=s j / 2^u+nxt s n j*2^(32-u)%4294967296
theorem down_limb {x y u : Nat} (hx : x < 4294967296) (hu : u < 32) :
    ((x:Int) / 2^u=((x / 2^u:Nat):Int))/\bits .or .u32 ((x:Int) / 2^u) ((y:Int)*2^(32-u)%4294967296)=((x / 2^u+y*2^(32-u)%4294967296:Nat):Int) /\
      x / 2^u+y*2^(32-u)%4294967296<4294967296:=by
 have h2:=two32 hu;have hp:0<2^(32-u):=Nat.two_pow_pos _
 have hm:y*2^(32-u)%4294967296%2^(32-u)=0:=by
  rw[Nat.mod_mod_of_dvd _ ⟨2^u,h2.symm⟩];exact Nat.mul_mod_left _ _
 have hl:y*2^(32-u)%4294967296<4294967296:=Nat.mod_lt _ (by omega);have hx2:x / 2^u<2^(32-u):=by rw[Nat.div_lt_iff_lt_mul (Nat.two_pow_pos _),h2];exact hx
 have hxl:x / 2^u<4294967296:=Nat.lt_of_le_of_lt (Nat.div_le_self _ _) hx
 have hs:y*2^(32-u)%4294967296+x / 2^u<4294967296:=by
  obtain⟨q,hq⟩:∃q,y*2^(32-u)%4294967296=q*2^(32-u):=⟨_,(Nat.div_mul_cancel (Nat.dvd_of_mod_eq_zero hm)).symm⟩
  rw[hq]at hl ⊢;rw[← h2,Nat.mul_comm (2^(32-u))]at hl ⊢;have:q<2^u:=Nat.lt_of_mul_lt_mul_right hl;have:(q+1)*2^(32-u)<=2^u*2^(32-u):=Nat.mul_le_mul_right _ this;rw[Nat.add_mul]at this
  omega
 have e1:(x:Int) / 2^u=((x / 2^u:Nat):Int):=by simp
 refine⟨e1,?_,by omega⟩;have e:(y:Int)*2^(32-u)%4294967296=((y*2^(32-u)%4294967296:Nat):Int):=by simp
 rw[e1,e,u32_or_nat _ _ hxl hl,Nat.or_comm,nat_join (32-u) _ _ hm hx2,Nat.add_comm]
theorem shiftDown_any (b off n cs : Nat) (s : Nat -> Nat) (u : Nat) (w : World) (hb : b < w.heap.size) (hnc : n <= cs) (hcc : cs <= 1000000) (hf : Free w b) (hc : Cells w .u32 b off n s)
    (hsl:∀j,j<n->s j<4294967296) (hu:u<32) :
    Calls Tryz.prog 247 #[.slice (some ⟨b,off,none⟩) n cs,.int .i64 u] w fun e w'=>e=.returned (.tuple #[]) /\
     RowU b off n s w w' (fun j=>n<=j) (DownR s n u n):=by
 have H0:=RowU.start (U:=fun j=>0<=j) (R:=DownR s n u 0) hf hc hsl (fun j hj=>by omega);clear hf hc hsl;have hu0:(0:Int)<=(u:Int):=by omega
 go_enter Tryz.func247,Tryz.ntmps247;go_wp2
 go_loopw [7] (fun i wr=>∃k:Nat,k<=n/\i=.int .i64 k/\RowU b off n s w wr (fun j=>k<=j) (DownR s n u k))
  (fun i _=>n-(intOf i).toNat)
 case atStart=>exact⟨0,by omega,rfl,H0⟩
 case round =>
  obtain⟨k,hk,rfl,hr⟩:=hrel
  by_cases hlt:k<n
  · obtain⟨hck,hfk,hdl⟩:=hr.read hlt (Nat.le_refl _);obtain⟨u1,u2,u3⟩:=down_limb (y:=nxt s n k) hdl hu
    have hrn:=hr.step hlt u3 (U':=fun j=>k+1<=j) (R':=DownR s n u (k+1)) (fun j hj=>by omega) (fun d d' h h2 h3 j hj=>by
     by_cases e:j=k
     · subst e;exact h3
     · rw[h2 j e];exact h j (by omega))
    obtain⟨dd,hdc,hdl2,hdu⟩:∃dd,Cells wr .u32 b off n dd/\(∀j,j<n->dd j<4294967296)/\(∀j,k<=j->dd j=s j):=by
     obtain⟨a1,a2,d,a3,a4,a5,a6⟩:=hr;exact⟨d,a3,a4,a5⟩
    have hsl:SlAt wr.drew .u32 4294967296 (some ⟨b,off,none⟩) n cs dd:=⟨hnc,by omega,hdl2,.inr ⟨b,off,rfl,Nat.lt_of_lt_of_le hb hr.1.size,hdc⟩⟩
    have hla:=limbAt_any (some ⟨b,off,none⟩) n cs dd (k+1) wr.drew hsl;have hnx:(if k+1<n then dd (k+1)else 0)=nxt s n k:=by unfold nxt;rw[hdu (k+1) (by omega)]
    rw[hnx,Int.natCast_add,Int.natCast_one]at hla;generalize nxt s n k=y at *;have HLA:=Lib.hid hla;have HU2:=Lib.hid u2;have HRN:=Lib.hid hrn;clear u1 u2 u3 hrn hr hla hnx hsl hdc hdl2 hdu;generalize s k=x at *;have hk0:(0:Int)<=(k:Int):=by omega
    have hkn:(k:Int)<(n:Int):=by omega
    have hkt:((k:Int)).toNat=k:=by omega
    go_wp2_with fail;have hw1:IntKind.i64.wrap ((k:Int)+1)=(k:Int)+1:=IntWalk.i64_in _ (by omega);have hw2:IntKind.i64.wrap (32-(u:Int))=32-(u:Int):=IntWalk.i64_in _ (by omega);refine wp_region_still_tail 17 (by kernel_rfl) (by kernel_rfl) ?_;simp only[List.take_succ_cons,List.take_zero,List.drop_succ_cons,List.drop_zero]
    repeat still_step
    still_call (HLA.out.mono fun _ _ ⟨h1,h2⟩=>⟨h1,h2.symm⟩)
    repeat still_step
    refine wpStill_nil ?_
    change wpList _ _ _ _ _ wr.drew
    clear hw1 hw2;go_wp2
    go_roundw
    case rel =>
     rw[HU2.out];exact⟨k+1,by omega,by go_num,HRN.out.drew⟩
    case measure=>simp[intOf];omega
  · obtain rfl:k=n:=by omega
    have HR:=Lib.hid hr;clear hr;go_wp2
    go_end0
    exact⟨rfl,HR.out⟩
theorem guess_start {P rl dl A r2 b1 b2 q R D : Nat} (hrl : rl < P) (hr2 : r2 < 4294967296) (hR : R = rl + (A * 4294967296 + r2) * P) (hD : D = dl + (b1 * 4294967296 + b2) * P)
    (hq:q*D<=R):q*b1<=A:=by
 have h0:b1*(4294967296*P)<=D:=by
  rw[hD,Nat.add_mul,Nat.mul_assoc];omega
 have h1:(q*b1)*(4294967296*P)<=q*D:=by
  rw[Nat.mul_assoc];exact Nat.mul_le_mul_left _ h0
 have h2:R<(A+1)*(4294967296*P):=by
  have:(A*4294967296+r2+1)*P<=((A+1)*4294967296)*P:=Nat.mul_le_mul_right _ (by omega);rw[Nat.add_mul _ 1 P,Nat.mul_assoc (A+1)]at this
  omega
 have h3:(q*b1)*(4294967296*P)<(A+1)*(4294967296*P):=by omega
 have:=Nat.lt_of_mul_lt_mul_right h3
 omega
theorem guess_step {P rl dl A r2 b1 b2 q R D g left : Nat} (hrl : rl < P) (hR : R = rl + (A * 4294967296 + r2) * P) (hD : D = dl + (b1 * 4294967296 + b2) * P)
    (hq:q*D<=R) (hg:g*b1+left=A) (hc:left*4294967296+r2<g*b2):q+1<=g:=by
 rcases Nat.lt_or_ge q g with h|h
 · exact h
 · exfalso
   have h0:g*D<=R:=Nat.le_trans (Nat.mul_le_mul_right _ h) hq
   have h1:(g*(b1*4294967296+b2))*P<=g*D:=by
    rw[Nat.mul_assoc];exact Nat.mul_le_mul_left _ (by omega)
   have h2:R<(A*4294967296+r2+1)*P:=by rw[Nat.add_mul _ 1 P];omega
   have h3:=Nat.lt_of_mul_lt_mul_right (Nat.lt_of_le_of_lt (Nat.le_trans h1 h0) h2);rw[Nat.mul_add,← Nat.mul_assoc]at h3;generalize g*b1=u at *;generalize g*b2=v at *
   omega
theorem guess_end {P rl dl A r2 b1 b2 R D g left : Nat} (hdl : dl < P) (hR : R = rl + (A * 4294967296 + r2) * P) (hD : D = dl + (b1 * 4294967296 + b2) * P) (hb : 0 < b1) (hgB : g < 4294967296)
    (hg:g*b1+left=A) (hc:g*b2<=left*4294967296+r2):(g-1)*D<=R:=by
 cases g with
 | zero=>simp
 | succ h =>
  have e:h+1-1=h:=rfl;rw[e]
  have h1:(h+1)*D<=((h+1)*(b1*4294967296+b2)+(h+1))*P:=by
   rw[hD,Nat.add_mul ((h+1)*_),Nat.mul_add (h+1) dl,Nat.mul_assoc (h+1) _ P];have:(h+1)*dl<=(h+1)*P:=Nat.mul_le_mul_left _ (by omega)
   omega
  have h2:(h+1)*(b1*4294967296+b2)<=A*4294967296+r2:=by
   rw[Nat.mul_add,← Nat.mul_assoc];generalize (h+1)*b1=u at *;generalize (h+1)*b2=v at *
   omega
  have h3:(h+1)*D=h*D+D:=by rw[Nat.add_mul];omega
  have h4:((h+1)*(b1*4294967296+b2)+(h+1))*P<=(A*4294967296+r2+b1*4294967296)*P:=Nat.mul_le_mul_right _ (by omega);have h5:(A*4294967296+r2+b1*4294967296)*P=(A*4294967296+r2)*P+b1*4294967296*P:=by rw[Nat.add_mul _ (b1*_)]
  have h6:b1*4294967296*P<=D:=by rw[hD,Nat.add_mul _ b2];omega
  omega
theorem top_le {P rl dl rn r1 r2 b1 b2 R D : Nat} (hdl : dl < P) (hb2 : b2 < 4294967296) (hR : R = rl + ((rn * 4294967296 + r1) * 4294967296 + r2) * P) (hD : D = dl + (b1 * 4294967296 + b2) * P)
    (h:R<D*4294967296):rn<=b1:=by
 have h1:(rn*4294967296*4294967296)*P<=R:=by
  rw[hR,Nat.add_mul (rn*_),Nat.add_mul _ r2,Nat.add_mul (rn*_*_)];omega
 have h2:D<(b1+1)*4294967296*P:=by
  have:(b1*4294967296+b2+1)*P<=(b1+1)*4294967296*P:=Nat.mul_le_mul_right _ (by omega);rw[Nat.add_mul _ 1 P]at this;omega
 have h3:(rn*4294967296*4294967296)*P<((b1+1)*4294967296*4294967296)*P:=by
  rw[Nat.mul_assoc ((b1+1)*4294967296),Nat.mul_comm 4294967296 P,← Nat.mul_assoc];omega
 have:=Nat.lt_of_mul_lt_mul_right h3
 omega
theorem val_top3(f:Nat->Nat)(m:Nat):val f (m+3)=val f m+((f (m+2)*4294967296+f (m+1))*4294967296+f m)*4294967296^m:=by
 rw[val,val,val,pow_succ32 (m+1),pow_succ32 m,Nat.add_mul _ (f m),Nat.add_mul (f (m+2)*4294967296),Nat.add_mul (f (m+2)*4294967296*4294967296)];rw[Nat.mul_assoc (f (m+2)*4294967296),Nat.mul_assoc (f (m+2)),Nat.mul_assoc (f (m+1))]
 omega
theorem val_top2(f:Nat->Nat)(m:Nat):val f (m+2)=val f m+(f (m+1)*4294967296+f m)*4294967296^m:=by
 rw[val,val,pow_succ32,Nat.add_mul _ (f m),Nat.mul_assoc (f (m+1))]
 omega
theorem vint{k:IntKind}{a b:Int}(h:a=b):Value.int k a=Value.int k b:=by rw[h]
def GuessOk(R D g:Nat):Prop:=g<4294967296/\R / D<=g/\(g-1)*D<=R
def GInv(R D A b1 g left:Nat):Prop:=g*b1+left=A/\R / D<=g/\left<8589934592
theorem gEnd {R D P rl dl A r2 b1 b2 g left : Nat} (hdl : dl < P) (hR : R = rl + (A * 4294967296 + r2) * P) (hD : D = dl + (b1 * 4294967296 + b2) * P) (hb : 0 < b1) (hb2 : b2 < 4294967296) (hA : A < (b1 + 1) * 4294967296)
    (h:GInv R D A b1 g left) (hc:4294967296<=left∨(g<4294967296/\g*b2<=left*4294967296+r2)):GuessOk R D g:=by
 obtain⟨h1,h2,h3⟩:=h
 have hg:g<4294967296:=by
  rcases hc with hc|hc
  · have:g*b1<4294967296*b1:=by rw[Nat.add_mul]at hA;omega
    exact Nat.lt_of_mul_lt_mul_right this
  · exact hc.1
 refine⟨hg,h2,guess_end hdl hR hD hb hg h1 ?_⟩
 rcases hc with hc|hc
 · have:g*b2<=4294967296*4294967296:=Nat.mul_le_mul (by omega) (by omega)
   omega
 · exact hc.2
theorem SlAt.cell{w:World}{b off n c:Nat}{f:Nat->Nat}(h:SlAt w .u32 4294967296 (some ⟨b,off,none⟩) n c f){k:Nat}(hk:k<n):w.cell? ⟨b,off+k,none⟩=some (.int .u32 (f k))/\f k<4294967296:=by
 obtain⟨b',off',e,_,h3,h4⟩:=h.limb hk;simp only[Option.some.injEq,Addr.mk.injEq,and_true]at e;obtain⟨rfl,rfl⟩:=e;exact⟨h3,h4⟩
def Drawn(w w':World):Prop:=∃q,w'=w.drewN q
theorem Drawn.refl(w:World):Drawn w w:=⟨0,rfl⟩
theorem Drawn.more{w w':World}(h:Drawn w w')(q:Nat):Drawn w (w'.drewN q):=by
 obtain⟨a,rfl⟩:=h;exact⟨a+q,by rw[World.drewN_drewN]⟩
theorem Drawn.cell{w w':World}(h:Drawn w w')(a:Addr):w'.cell? a=w.cell? a:=by
 obtain⟨q,rfl⟩:=h;rfl
theorem guess_any (rb ro rc bb bo bc m n1 n : Nat) (r d : Nat -> Nat) (w : World) (hn1 : n1 = m + 1) (hn : n = m + 2) (hr : SlAt w .u32 4294967296 (some ⟨rb, ro, none⟩) (n + 1) rc r) (hd : SlAt w .u32 4294967296 (some ⟨bb, bo, none⟩) n bc d)
    (htop:0<d n1) (hlt:val r (n+1)<val d n*4294967296) :
    Calls Tryz.prog 258 #[.slice (some ⟨rb,ro,none⟩) (n+1) rc,.slice (some ⟨bb,bo,none⟩) n bc] w fun e w'=>∃g:Nat,e=.returned (.int .u32 g)/\GuessOk (val r (n+1)) (val d n) g/\Drawn w w':=by
 have hml:n<=1000000:=by have:=hr.1;have:=hr.2.1;omega
 obtain⟨c3,l3⟩:=hr.cell (show n<n+1 by omega);obtain⟨c2,l2⟩:=hr.cell (show n1<n+1 by omega);obtain⟨c1,l1⟩:=hr.cell (show m<n+1 by omega);obtain⟨k2,j2⟩:=hd.cell (show n1<n by omega);obtain⟨k1,j1⟩:=hd.cell (show m<n by omega);have hR:val r (n+1)=val r m+((r n*4294967296+r n1)*4294967296+r m)*4294967296^m:=by rw[hn,hn1];exact val_top3 r m
 have hD:val d n=val d m+(d n1*4294967296+d m)*4294967296^m:=by rw[hn,hn1];exact val_top2 d m
 have hrl:val r m<4294967296^m:=val_lt r m (fun j hj=>hr.2.2.1 j (by omega));have hdl:val d m<4294967296^m:=val_lt d m (fun j hj=>hd.2.2.1 j (by omega));have e1:(n:Int)-1=(n1:Int):=by omega
 have e2:(n:Int)-2=(m:Int):=by omega
 have i1:(n1:Int)<(n:Int):=by omega
 have i2:(m:Int)<(n:Int):=by omega
 have i3:(n:Int)<(n:Int)+1:=by omega
 have i4:(n1:Int)<(n:Int)+1:=by omega
 have i5:(m:Int)<(n:Int)+1:=by omega
 clear hr hd hn hn1;generalize val r (n+1)=R at *;generalize val d n=D at *;generalize val r m=rl at *;generalize val d m=dl at *;generalize 4294967296^m=P at *;generalize hrn:r n=x3 at *;generalize hrn1:r n1=x2 at *;generalize hrm:r m=x1 at *;generalize hdn1:d n1=y2 at *;generalize hdm:d m=y1 at *;clear hrn hrn1 hrm hdn1 hdm;have hx:x3<=y2:=top_le hdl j1 hR hD hlt;obtain⟨A,hA⟩:∃A,x3*4294967296+x2=A:=⟨_,rfl⟩
 rw[hA]at hR
 have hor:bits .or .u64 ((x3:Int)*4294967296) x2=(A:Int):=by
  rw[← hA];have:=u64_or_nat (x3*4294967296) x2 (by omega) (by omega);rw[nat_join 32 _ _ (by simp) (by omega)]at this;rw[← this];simp
 have hAl:A<(y2+1)*4294967296:=by omega
 have hAu:A<18446744073709551616:=by omega
 have h0:GInv R D A y2 (A / y2) (A%y2):=by
  refine⟨by rw[Nat.mul_comm];exact Nat.div_add_mod A y2,?_,by have:=Nat.mod_lt A htop;omega⟩;rw[Nat.le_div_iff_mul_le htop];exact guess_start hrl l1 hR hD (Nat.div_mul_le_self R D)
 have HR:=Lib.hid hR;have HD:=Lib.hid hD;have HRL:=Lib.hid hrl;have HDL:=Lib.hid hdl;have HT:=Lib.hid htop;have hlt':=Lib.hid hlt;have HAL:=Lib.hid hAl;have hy0:((y2:Int)==0)=false:=by simp;omega
 have hyne:¬(y2:Int)=0:=by omega
 have hdi:IntKind.u64.wrap ((A:Int).tdiv (y2:Int))=((A / y2:Nat):Int):=by
  have t1:(A:Int).tdiv y2=((A / y2:Nat):Int):=by simp[Int.tdiv]
  have:=Nat.div_le_self A y2;rw[t1,IntKind.wrap_u64];generalize A / y2=q at *
  omega
 have hmo:(A:Int).tmod (y2:Int)=((A%y2:Nat):Int):=by simp[Int.tmod]
 have hdi':IntKind.u64.wrap ((A:Int) / (y2:Int))=((A / y2:Nat):Int):=by
  have:=Nat.div_le_self A y2;rw[← Int.natCast_ediv,IntKind.wrap_u64];generalize A / y2=q at *
  omega
 have hmo':(A:Int)%(y2:Int)=((A%y2:Nat):Int):=by simp
 have hgA:A / y2*y2<=A:=Nat.div_mul_le_self A y2;generalize A / y2=g0 at *;generalize A%y2=t0 at *
 have hgl:g0<18446744073709551616:=by
  have:g0<=A:=Nat.le_trans (Nat.le_mul_of_pos_right _ htop) hgA
  omega
 clear hlt hR hD hrl hdl hA hAl htop;go_enter Tryz.func258,Tryz.ntmps258;go_wp2
 go_quiet (fail)
 clear hor;go_wp2
 go_quiet (fail)
 go_wp2
 go_loopw [7,8] (fun g t wr=>∃gn tn:Nat,g=.int .u64 gn/\t=.int .u64 tn/\gn<18446744073709551616/\GInv R D A y2 gn tn/\Drawn w wr)
  (fun g _ _=>(intOf g).toNat)
 case atStart=>exact⟨g0,t0,rfl,rfl,hgl,h0,((Drawn.refl w).more _).more _⟩
 case round =>
  obtain⟨g,t,rfl,rfl,hgl,hinv,hdr⟩:=hrel;have hq1:=hdr.cell ⟨rb,ro+m,none⟩;have hq2:=hdr.cell ⟨bb,bo+n1,none⟩;have hq3:=hdr.cell ⟨bb,bo+m,none⟩;rw[c1]at hq1;rw[k2]at hq2;rw[k1]at hq3;have htl:=hinv.2.2
  by_cases ht:t<4294967296
  · have d1 : decide ((t : Int) < 4294967296) = true := by simp; omega
    have hbl:R / D<4294967296:=Nat.div_lt_of_lt_mul hlt'.out
    have hj:1<=g->GInv R D A y2 (g-1) (t+y2)∨g<=R / D:=by
     intro h1
     rcases Nat.lt_or_ge (R / D) g with h|h
     · obtain⟨h2,h3,h4⟩:=hinv;refine .inl ⟨?_,by omega,by omega⟩;obtain⟨q,rfl⟩:∃q,g=q+1:=⟨g-1,by omega⟩
       rw[Nat.add_mul]at h2;simp only[Nat.add_sub_cancel]
       omega
     · exact .inr h
    by_cases hg:4294967296<=g
    · have hnx:GInv R D A y2 (g-1) (t+y2):=(hj (by omega)).resolve_right (by omega);have d2:decide ((4294967296:Int)<=(g:Int))=true:=by simp;omega
      have hg0:(4294967296:Int)<=(g:Int):=by omega
      have HNX:=Lib.hid hnx;have HDR:=Lib.hid hdr;clear hj hnx hinv hdr;go_wp2
      go_quiet (fail)
      go_wp2
      go_roundw
      case rel=>exact⟨g-1,t+y2,vint (by omega),vint (by omega),by omega,HNX.out,HDR.out.more _⟩
      case measure=>simp[intOf];omega
    · have hor:∃T,t*4294967296+x1=T/\bits .or .u64 ((t:Int)*4294967296) x1=(T:Int):=by
        refine⟨_,rfl,?_⟩;have:=u64_or_nat (t*4294967296) x1 (by omega) (by omega);rw[nat_join 32 _ _ (by simp) (by omega)]at this;rw[← this];simp
      obtain⟨T,hT,hor⟩:=hor
      have hG:∃G,g*y1=G/\IntKind.u64.wrap ((g:Int)*(y1:Int))=(G:Int):=by
       refine⟨_,rfl,?_⟩;have:g*y1<=18446744065119617025:=Nat.mul_le_mul (show g<=4294967295 by omega) (show y1<=4294967295 by omega);rw[← Int.natCast_mul,IntKind.wrap_u64]
       omega
      obtain⟨G,hG,hGw⟩:=hG;have d2:decide ((4294967296:Int)<=(g:Int))=false:=by simp;omega
      have hw3:IntKind.u64.wrap ((t:Int)*4294967296)=(t:Int)*4294967296:=IntWalk.u64_in _ (by omega)
      by_cases hTG:T<G
      · have hg1:1<=g:=by
          rcases Nat.eq_zero_or_pos g with h|h
          · subst h;rw[Nat.zero_mul]at hG;omega
          · exact h
        have hnx:GInv R D A y2 (g-1) (t+y2):=(hj hg1).resolve_right (fun h=>by
         have:=guess_step HRL.out HR.out HD.out (Nat.div_mul_le_self R D) hinv.1 (by rw[hT,hG];exact hTG)
         omega)
        have HNX:=Lib.hid hnx;have HDR:=Lib.hid hdr;have d3:decide (T<G)=true:=by simp;omega
        have hg0:(1:Int)<=(g:Int):=by omega
        clear hj hnx hinv hdr hT hG;go_wp2
        go_quiet (fail)
        clear hor hGw hw3;go_wp2
        go_roundw
        case rel=>exact⟨g-1,t+y2,vint (by omega),vint (by omega),by omega,HNX.out,HDR.out.more _⟩
        case measure=>simp[intOf];omega
      · have hend:GuessOk R D g:=gEnd HDL.out HR.out HD.out HT.out j1 HAL.out hinv (.inr ⟨by omega,by rw[hT,hG];omega⟩);have HE:=Lib.hid hend;have HDR:=Lib.hid hdr;have d3:decide (T<G)=false:=by simp;omega
        clear hj hinv hdr hT hG hend;go_wp2
        go_quiet (fail)
        clear hor hGw hw3;go_wp2;go_ret;exact⟨g,ret_int (by omega),HE.out,HDR.out.more _⟩
  · have hend:GuessOk R D g:=gEnd HDL.out HR.out HD.out HT.out j1 HAL.out hinv (.inl (by omega));have hgB:=hend.1;have d1:decide ((t:Int)<4294967296)=false:=by simp;omega
    have HE:=Lib.hid hend;have HDR:=Lib.hid hdr;clear hinv hdr hend;go_wp2
    go_quiet (fail)
    go_wp2;go_ret;exact⟨g,ret_int (by omega),HE.out,HDR.out.more _⟩
theorem val_pad(p:Nat->Nat)(n:Nat):∀k,val (fun j=>if j<n then p j else 0) k=val p (min k n)
 | 0=>by simp[val]
 | k+1=>by
  rw[val,val_pad p n k]
  by_cases h:k<n
  · rw[if_pos h,Nat.min_eq_left (by omega),Nat.min_eq_left (by omega),val]
  · rw[if_neg h,Nat.min_eq_right (by omega),Nat.min_eq_right (by omega)];omega
def RowIs(b off n:Nat)(w w':World)(N:Nat):Prop:=Wrote b off (off+n) w w'/\Free w' b/\∃d,Cells w' .u32 b off n d/\(∀j,j<n->d j<4294967296)/\val d n=N
theorem take_fits{R D g d hi c M:Nat}(h:d+g*D=R+(hi+c)*M)(hd:d<M)(hg:g*D<=R):c=0/\d=R-g*D:=by
 have:(hi+c)*M<1*M:=by omega
 have:=Nat.lt_of_mul_lt_mul_right this;obtain⟨rfl,rfl⟩:hi=0/\c=0:=by omega
 omega
theorem take_over{R D g d hi c M:Nat}(h:d+g*D=R+(hi+c)*M)(hc:c<=1)(hh:hi*M<=g*D)(hM:g*D<M)(hg:¬g*D<=R):c=1/\d=R+M-g*D:=by
 have:hi*M<1*M:=by omega
 have:=Nat.lt_of_mul_lt_mul_right this;obtain rfl:hi=0:=by omega
 rcases Nat.eq_zero_or_pos c with h0|h0
 · subst h0;omega
 · obtain rfl:c=1:=by omega
   omega
theorem digit_is{R D g:Nat}(hD:0<D)(h:GuessOk R D g):(g*D<=R->g=R / D/\R-g*D=R%D)/\(¬g*D<=R->1<=g/\g-1=R / D/\R-(g-1)*D=R%D):=by
 obtain⟨h1,h2,h3⟩:=h;have e:=Nat.div_add_mod R D;have hm:=Nat.mod_lt R hD
 constructor
 · intro h;have:g=R / D:=Nat.le_antisymm ((Nat.le_div_iff_mul_le hD).2 h) h2;subst this;rw[Nat.mul_comm]at e;exact⟨rfl,by omega⟩
 · intro h
   have hlt:R / D<g:=by
    rcases Nat.lt_or_ge (R / D) g with h'|h'
    · exact h'
    · exact absurd (Nat.le_trans (Nat.mul_le_mul_right D h') (Nat.div_mul_le_self R D)) h
   have:g-1=R / D:=Nat.le_antisymm ((Nat.le_div_iff_mul_le hD).2 h3) (by omega);rw[this];rw[Nat.mul_comm]at e;exact⟨by omega,rfl,by omega⟩
theorem RowRel.toIs{b off n:Nat}{s:Nat->Nat}{w wr:World}{k:Nat}{R:(Nat->Nat)->Prop}{N:Nat}(h:RowRel b off n s w wr k R)(hN:∀d,(∀j,j<n->d j<4294967296)->R d->val d n=N):RowIs b off n w wr N:=by
 obtain⟨h1,h2,d,h3,h4,_,h6⟩:=h;exact⟨h1,h2,d,h3,h4,hN d h4 h6⟩
theorem SlAt.drawn{w w':World}{ki:IntKind}{m:Nat}{a:Option Addr}{n c:Nat}{f:Nat->Nat}(h:SlAt w ki m a n c f)(hd:Drawn w w'):SlAt w' ki m a n c f:=by
 obtain⟨q,rfl⟩:=hd;exact h
theorem Wrote.of_drawn{k lo hi:Nat}{a b:World}(hd:Drawn a b):Wrote k lo hi a b:=by
 obtain⟨q,rfl⟩:=hd;exact(Wrote.refl _ _ _ _).drewN q
theorem takeDigit_any (rb ro rc : Nat) (ba : Option Addr) (bc m n : Nat) (r d : Nat -> Nat) (w : World) (hn : n = m + 2) (hr : SlAt w .u32 4294967296 (some ⟨rb, ro, none⟩) (n + 1) rc r) (hf : Free w rb)
    (hd:SlAt w .u32 4294967296 ba n bc d) (hne:∀x,ba=some x->x.block≠rb) (htop:0<d (n-1)) (hlt:val r (n+1)<val d n*4294967296) :
    Calls Tryz.prog 246 #[.slice (some ⟨rb,ro,none⟩) (n+1) rc,.slice ba n bc] w fun e w'=>∃q:Nat,e=.returned (.int .u32 q)/\q<4294967296/\q=val r (n+1) / val d n /\
     RowIs rb ro (n+1) w w' (val r (n+1)%val d n):=by
 obtain⟨bb,bo,rfl,_,_⟩:=hd.at (by omega)
 have hnl:n+1<=1000000:=by have:=hr.1;have:=hr.2.1;omega
 have hrc:Cells w .u32 rb ro (n+1) r:=fun j hj=>(hr.cell hj).1
 have hrs:∀j,j<n+1->r j<4294967296:=hr.2.2.1
 have hD0:0<val d n:=by
  rcases Nat.eq_zero_or_pos (val d n)with h|h
  · rw[h]at hlt;omega
  · exact h
 have hDl:val d n<4294967296^n:=val_lt d n hd.2.2.1;have hpad:val (fun j=>if j<n then d j else 0) (n+1)=val d n:=by rw[val_pad,Nat.min_eq_right (by omega)]
 have hgu:=guess_any rb ro rc bb bo bc m (m+1) n r d w rfl hn hr hd (by rw[show m+1=n-1 by omega];exact htop) hlt;obtain⟨R,hR⟩:∃R,val r (n+1)=R:=⟨_,rfl⟩
 obtain⟨D,hD⟩:∃D,val d n=D:=⟨_,rfl⟩
 rw[hR,hD]at hgu ⊢;rw[hD]at hpad hD0 hDl;obtain⟨DV,hDV⟩:∃q,R / D=q:=⟨_,rfl⟩
 obtain⟨MO,hMO⟩:∃q,R%D=q:=⟨_,rfl⟩
 rw[hDV,hMO]
 have hrb:rb<w.heap.size:=by
  obtain⟨b,o,e,h,_⟩:=hr.at (by omega)
  simp only[Option.some.injEq,Addr.mk.injEq,and_true]at e;rw[e.1];exact h
 have hbb:bb<w.heap.size:=by
  obtain⟨b,o,e,h,_⟩:=hd.at (by omega)
  simp only[Option.some.injEq,Addr.mk.injEq,and_true]at e;rw[e.1];exact h
 obtain⟨N1,hN1⟩:∃N1,n+1=N1:=⟨_,rfl⟩
 have hsz:val r N1=R:=by rw[← hN1];exact hR
 have hpow:4294967296*4294967296^n=4294967296^N1:=by rw[← hN1,pow_succ32]
 have HT1:∀(g:Nat) (w1:World),Drawn w w1->g<4294967296->Calls Tryz.prog 259 #[.slice (some ⟨rb,ro,none⟩) N1 rc,.slice (some ⟨bb,bo,none⟩) n bc,.int .u32 g] w1 fun e w' =>
     ∃c hi,e=.returned (.bool (decide (0<c)))/\RowRel rb ro N1 r w1 w' N1 (TakeR r (fun j=>if j<n then d j else 0) g N1 hi c):=by
  intro g w1 h1 hg;rw[← hN1];exact takeTimes_any rb ro (n+1) rc r (some ⟨bb,bo,none⟩) n bc d g w1 (hf.wrote (Wrote.of_drawn (k:=rb) (lo:=0) (hi:=0) h1) hrb) (hrc.wrote (Wrote.of_drawn (k:=rb) (lo:=0) (hi:=0) h1) hrb (fun _ j _=>.inr (by omega))) hrs (by omega) (hd.drawn h1) hne hg
 have hg1:∀g c hi dd,g*D<=R->(∀j,j<N1->dd j<4294967296)->TakeR r (fun j=>if j<n then d j else 0) g N1 hi c dd->c=0/\val dd N1=R-g*D:=by
  intro g c hi dd h1 h2 ⟨_,h3,h4⟩;rw[← hN1,hpad,hN1,hsz]at h4;exact take_fits h4 (val_lt dd N1 h2) h1
 have hg2:∀g c hi dd,g<4294967296->¬g*D<=R->TakeR r (fun j=>if j<n then d j else 0) g N1 hi c dd->c=1/\val dd N1=R+4294967296^N1-g*D:=by
  intro g c hi dd h0 h1 ⟨h2,h3,h4⟩;rw[← hN1,hpad,hN1]at h3;rw[← hN1,hpad,hN1,hsz]at h4;refine take_over h4 h2 h3 ?_ h1;rw[← hpow];exact Nat.lt_of_le_of_lt (Nat.mul_le_mul_right D (show g<=4294967295 by omega)) (by omega)
 have HA:∀(s2:Nat->Nat) (w2:World) (bnd:∀j,j<N1->s2 j<4294967296),Cells w2 .u32 rb ro N1 s2->Free w2 rb->Wrote rb ro (ro+N1) w w2->Calls Tryz.prog 216 #[.slice (some ⟨rb,ro,none⟩) N1 rc,.slice (some ⟨bb,bo,none⟩) n bc] w2 fun e w' =>
     e=.returned (.tuple #[])/\∃c,RowRel rb ro N1 s2 w2 w' N1 (AddR s2 (fun j=>if j<n then d j else 0) N1 c):=by
  intro s2 w2 bnd h1 h2 h3;refine addTo_any rb ro N1 rc s2 (some ⟨bb,bo,none⟩) n bc d w2 h2 h1 bnd (by omega) (hd.wrote h3 hne) hne
 have hM:D<4294967296^N1:=by rw[← hpow];omega
 have hdig:=fun g (h:GuessOk R D g)=>digit_is hD0 h
 rw[hDV,hMO]at hdig;have hRl:R<4294967296^N1:=by rw[← hsz,← hN1];exact val_lt r (n+1) hrs
 have HT1':=Lib.hid HT1;have hg1':=Lib.hid hg1;have hg2':=Lib.hid hg2;have HA':=Lib.hid HA;have hdig':=Lib.hid hdig;have hM':=Lib.hid hM;have hRl':=Lib.hid hRl;have hpad':=Lib.hid hpad;have hN1':=Lib.hid hN1;have hf':=Lib.hid hf;rw[hN1]at hgu;have HGU:=Lib.hid hgu;rw[hN1];clear HT1 hg1 hg2 HA hdig hM hRl hpad hN1 hf hgu hr hd hne htop hlt hrc hrs hD0 hDl hR hD hDV hMO hsz hpow hn hrb hbb;go_enter Tryz.func246,Tryz.ntmps246
 go_wp2_with (go_at_call 258;refine HGU.out.mono ?_;rintro e w1 ⟨g,rfl,hG,hdr⟩)
 have hgB:=hG.1
 by_cases hle:g*D<=R
 · obtain⟨e1,e2⟩:=(hdig'.out g hG).1 hle
   have HT:Calls Tryz.prog 259 #[.slice (some ⟨rb,ro,none⟩) N1 rc,.slice (some ⟨bb,bo,none⟩) n bc,.int .u32 g] w1 fun e w'=>e=.returned (.bool false)/\RowIs rb ro N1 w w' MO:=by
    refine(HT1'.out g w1 hdr hgB).mono ?_;rintro e w2 ⟨c,hi,rfl,hr2⟩;have hc:=fun dd hb hR=>(hg1'.out g c hi dd hle hb hR)
    have hc0:c=0:=by
     obtain⟨_,_,dd,_,hb,_,hR⟩:=hr2;exact(hc dd hb hR).1
    have h:=hr2.toIs (N:=R-g*D) (fun dd hb hR=>(hc dd hb hR).2);rw[e2]at h;exact⟨by rw[hc0];rfl,(Wrote.of_drawn hdr).trans h.1,h.2⟩
   have HT2:=Lib.hid HT;have e1':=Lib.hid e1;clear hG hdr hle e1 HT e2
   go_wp2_with (go_at_call 259;refine HT2.out.mono ?_;rintro e w2 ⟨rfl,hr2⟩)
   go_ret;exact⟨g,rfl,hgB,e1'.out,hr2⟩
 · obtain ⟨e0, e1, e2⟩ := (hdig'.out g hG).2 hle
   have HT:Calls Tryz.prog 259 #[.slice (some ⟨rb,ro,none⟩) N1 rc,.slice (some ⟨bb,bo,none⟩) n bc,.int .u32 g] w1 fun e w'=>e=.returned (.bool true)/\RowIs rb ro N1 w w' (R+4294967296^N1-g*D):=by
    refine(HT1'.out g w1 hdr hgB).mono ?_;rintro e w2 ⟨c,hi,rfl,hr2⟩;have hc:=fun dd hR=>(hg2'.out g c hi dd hgB hle hR)
    have hc0:c=1:=by
     obtain⟨_,_,dd,_,hb,_,hR⟩:=hr2;exact(hc dd hR).1
    have h:=hr2.toIs (N:=R+4294967296^N1-g*D) (fun dd hb hR=>(hc dd hR).2);exact⟨by rw[hc0];rfl,(Wrote.of_drawn hdr).trans h.1,h.2⟩
   have HT2:=Lib.hid HT;have hg0':=Lib.hid hG.2.2;have hle':=Lib.hid hle;have e1':=Lib.hid e1;have e2':=Lib.hid e2;clear hG hdr hle e1 HT e2
   go_wp2_with (go_at_call 259;refine HT2.out.mono ?_;rintro e w2 ⟨rfl,hr2⟩)
   obtain⟨hw2,hf2,dd,hcd,hbd,hval⟩:=hr2;have HAD:=HA'.out dd w2 hbd hcd hf2 hw2;have HAD':=Lib.hid HAD;have hval':=Lib.hid hval;have hww':=Lib.hid hw2;clear HAD hval hbd hcd hf2 hw2
   go_wp2_with (go_at_call 216;refine HAD'.out.mono ?_;rintro e w3 ⟨rfl,c2,hr3⟩)
   have HIS:RowIs rb ro N1 w w3 MO:=by
    have h:=hr3.toIs (N:=MO) (fun d3 hb3 hR3=>by
     obtain⟨hc2,h4⟩:=hR3;have hp:=hpad'.out;rw[hN1'.out]at hp;rw[hp,hval'.out]at h4;have hd3:=val_lt d3 N1 hb3
     have hgm:g*D=(g-1)*D+D:=by
      obtain⟨x,rfl⟩:∃x,g=x+1:=⟨g-1,by omega⟩
      rw[Nat.add_sub_cancel,Nat.add_mul,Nat.one_mul]
     have:=hg0'.out;have:=hle'.out;have:=hM'.out;have:=hRl'.out;rw[← e2'.out]
     rcases Nat.eq_zero_or_pos c2 with h0|h0
     · subst h0;omega
     · obtain rfl:c2=1:=by omega
       omega)
    exact⟨hww'.out.trans h.1,h.2⟩
   have HIS':=Lib.hid HIS;clear hr3 HIS;go_wp2;go_ret;have:=e1'.out;exact⟨g-1,ret_int (by omega),by omega,this,HIS'.out⟩
end Go.Proofs.YtdmmenaejkpnjaaGreatDoor
