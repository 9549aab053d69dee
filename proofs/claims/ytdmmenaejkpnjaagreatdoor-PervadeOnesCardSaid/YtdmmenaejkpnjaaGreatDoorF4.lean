/-
  Texts of this seat, laid together.
-/
import Derived.Laws.BytesArg
import Derived.Test.YtdmmenaejkpnjaaGreatDoorF3
set_option maxHeartbeats 12800000
set_option maxRecDepth 100000
set_option linter.unusedSimpArgs false
set_option linter.unusedVariables false
namespace Go.Proofs.YtdmmenaejkpnjaaGreatDoor
open Go.RowKit
def cl(ki:IntKind)(f:Nat->Nat)(n:Nat):List Value:=(List.range n).map fun j=>.int ki (f j)
theorem cl_length(ki:IntKind)(f:Nat->Nat)(n:Nat):(cl ki f n).length=n:=by simp[cl]
theorem cl_get{ki:IntKind}{f:Nat->Nat}{n j:Nat}(h:j<n):(cl ki f n)[j]? = some (.int ki (f j)):=by simp[cl,h]
theorem cl_set{ki:IntKind}{f:Nat->Nat}{n k x:Nat}:(cl ki f n).set k (.int ki x)=cl ki (fun j=>if j=k then x else f j) n:=by
 apply List.ext_getElem?
 intro j
 by_cases hj:j<n
 · rw[cl_get (f:=fun j=>if j=k then x else f j) hj,List.getElem?_set]
   by_cases e:k=j
   · subst e;rw[if_pos rfl,if_pos (by rw[cl_length];exact hj)]
     simp
   · rw[if_neg e,cl_get hj]
     simp[Ne.symm e]
 · rw[List.getElem?_eq_none (by simp[cl_length];omega),List.getElem?_eq_none (by simp[cl_length];omega)]
theorem cl_snoc{ki:IntKind}{f:Nat->Nat}{n x:Nat}:cl ki f n ++ [.int ki x]=cl ki (fun j=>if j=n then x else f j) (n+1):=by
 unfold cl;rw[List.range_succ,List.map_append]
 congr 1
 · apply List.map_congr_left
   intro j hj;have:=List.mem_range.1 hj
   simp[Nat.ne_of_lt this]
 · simp
theorem cl_congr{ki:IntKind}{f g:Nat->Nat}{n:Nat}(h:∀j,j<n->f j=g j):cl ki f n=cl ki g n:=by
 unfold cl
 apply List.map_congr_left
 intro j hj;rw[h j (List.mem_range.1 hj)]
def OwnL(w:World)(base:Nat)(e:TypeId)(ki:IntKind)(v:Value)(n:Nat)(f:Nat->Nat):Prop:=w.ownsRow base e 1 v n (cl ki f n)
theorem OwnL.cases {w : World} {base : Nat} {e : TypeId} {ki : IntKind} {v : Value} {n : Nat} {f : Nat -> Nat} (h : OwnL w base e ki v n f) :
    (v=.slice none 0 0/\n=0)∨∃g c,v=.slice (some ⟨g,0,none⟩) n c/\n<=c/\base<=g/\g<w.heap.size/\Cells w ki g 0 n f/\Free w g:=by
 rcases h.2 with h0|⟨g,cap,cur,hv,hb,hg,hnc,hcm,hcs,ht⟩
 · exact .inl h0
 · refine .inr ⟨g,cap,hv,hnc,hb,?_,?_,Free.of_block hg⟩
   · rcases Nat.lt_or_ge g w.heap.size with h1|h1
     · exact h1
     · rw[Array.getElem?_eq_none h1]at hg;cases hg
   · intro j hj;have h1:(cur.toList.take (n*1))[j]? = some (.int ki (f j)):=by rw[ht];exact cl_get hj
     rw[Nat.mul_one,List.getElem?_take,if_pos hj]at h1;simp only[World.cell?,hg,Nat.zero_add]
     simpa using h1
theorem OwnL.slAt{w:World}{base:Nat}{e:TypeId}{ki:IntKind}{v:Value}{n m:Nat}{f:Nat->Nat}(h:OwnL w base e ki v n f)(hf:∀j,j<n->f j<m)(hn:n<=1000000):∃a c,v=.slice a n c/\SlAt w ki m a n c f/\(∀x,a=some x->base<=x.block):=by
 rcases h.cases with ⟨rfl,rfl⟩|⟨g,c,rfl,h1,h2,h3,h4,_⟩
 · exact⟨none,0,rfl,SlAt.nil _ _ _ _,fun x hx=>by cases hx⟩
 · exact⟨_,c,rfl,⟨h1,hn,hf,.inr ⟨g,0,rfl,h3,h4⟩⟩,fun x hx=>by cases hx;exact h2⟩
theorem OwnL.store{w:World}{base:Nat}{e:TypeId}{ki:IntKind}{g n c:Nat}{f:Nat->Nat}(h:OwnL w base e ki (.slice (some ⟨g,0,none⟩) n c) n f)(k x:Nat):OwnL (w.setCell ⟨g,k,none⟩ (.int ki x)) base e ki (.slice (some ⟨g,0,none⟩) n c) n (fun j=>if j=k then x else f j):=by
 have:=(World.ownsRow.stored h k (.int ki x)).1;rw[cl_set]at this;exact this
def TimesR(s:Nat->Nat)(m p k c:Nat)(d:Nat->Nat):Prop:=val d k+c*4294967296^k=m*val s k+p
theorem timesR_step {s : Nat -> Nat} {m p k c c' lo : Nat} (hp : c + s k * m = c' * 4294967296 + lo) :
    ∀d d',TimesR s m p k c d->(∀j,j≠k->d' j=d j)->d' k=lo->TimesR s m p (k+1) c' d':=by
 intro d d' h h2 h3;unfold TimesR at *;rw[val,val,pow_succ32,val_congr k (f:=d') (g:=d) (fun j hj=>h2 j (by omega)),h3];generalize 4294967296^k=P at *;generalize val d k=vd at *;generalize val s k=vs at *;generalize s k=x at *;have a2:(c+x*m)*P=(c'*4294967296+lo)*P:=by rw[hp]
 have b1:m*(vs+x*P)=m*vs+x*m*P:=by rw[Nat.mul_add,← Nat.mul_assoc,Nat.mul_comm m x]
 rw[Nat.add_mul,Nat.add_mul,Nat.mul_assoc c']at a2;rw[b1]
 omega
def TimesI(w wr:World)(base:Nat)(v:Value)(n:Nat)(s:Nat->Nat)(m p k c:Nat):Prop :=
 Below base w wr/\∃d,OwnL wr base 177 .u32 v n d/\(∀j,j<n->d j<4294967296)/\(∀j,k<=j->j<n->d j=s j)/\TimesR s m p k c d
theorem timesPlus_any (base : Nat) (v : Value) (n : Nat) (s : Nat -> Nat) (m p : Nat) (w : World) (h : OwnL w base 177 .u32 v n s) (hs : ∀ j, j < n -> s j < 4294967296) (hn : n + 1 <= 1000000) (hm : m < 4294967296) (hp : p < 4294967296) (hb : base <= w.heap.size) :
    Calls Tryz.prog 214 #[v,.int .u32 m,.int .u32 p] w fun e w'=>∃v' n' d,e=.returned v'/\OwnL w' base 177 .u32 v' n' d/\(∀j,j<n'->d j<4294967296)/\val d n'=m*val s n+p/\n'<=n+1/\Below base w w':=by
 obtain⟨i0,hi,hz0,hz1,hz2⟩:=info_parts infoU;have H0:TimesI w w base v n s m p 0 p:=⟨Below.refl _ _,s,h,hs,fun _ _ _=>rfl,by simp[TimesR,val]⟩
 obtain⟨a,c0,rfl,_,_⟩:=h.slAt hs (by omega);have hpp:(p:Int)%18446744073709551616=(p:Int):=by omega
 clear hs h hpp;have HI:=Lib.hid hi;clear hi;go_enter Tryz.func214,Tryz.ntmps214;go_wp2
 go_loopw [7,13] (fun cy i wr=>∃k c:Nat,k<=n/\i=.int .i64 k/\c<4294967296/\cy=.int .u64 c/\TimesI w wr base (.slice a n c0) n s m p k c)
  (fun _ i _=>n-(intOf i).toNat)
 case atStart=>exact⟨0,p,by omega,rfl,hp,rfl,H0⟩
 case round =>
  obtain⟨k,c,hk,rfl,hc,rfl,hr⟩:=hrel
  by_cases hlt:k<n
  · obtain ⟨hbl, d, hd, hdb, hds, hR⟩ := hr; have hcs := hd.cases
    rcases hcs with ⟨_,h1⟩|⟨g,c1,h1,hnc,hgb,hgl,hgc,hgf⟩
    · omega
    · cases h1
      have hck:=hgc k hlt;rw[Nat.zero_add]at hck;have hfk:=hgf k;have hdk:=hds k (Nat.le_refl _) hlt;have hdl:=hdb k hlt;rw[hdk]at hck hdl;obtain⟨pr,hpr⟩:∃pr,c+s k*m=pr:=⟨_,rfl⟩
      have hprm:=mul_bound' hdl hm;obtain⟨lo,hlo⟩:∃lo,pr%4294967296=lo:=⟨_,rfl⟩
      obtain⟨c',hc'⟩:∃c',pr / 4294967296=c':=⟨_,rfl⟩
      have hst:=timesR_step (s:=s) (m:=m) (p:=p) (k:=k) (c:=c) (c':=c') (lo:=lo) (by rw[hpr];omega)
      have hrn:TimesI w (wr.setCell ⟨g,k,none⟩ (.int .u32 lo)) base (.slice (some ⟨g,0,none⟩) n c0) n s m p (k+1) c':=by
       refine⟨hbl.setCell hgb _,_,hd.store k lo,fun j hj => ?_,fun j h1 h2 => ?_,hst d _ hR (fun j hj=>if_neg hj) (if_pos rfl)⟩
       · show(if j=k then lo else d j)<_
         split
         · omega
         · exact hdb j hj
       · show(if j=k then lo else d j)=_
         rw[if_neg (by omega)];exact hds j (by omega) h2
      have hpl:pr<18446744073709551616:=by omega
      have hcl:c'<4294967296:=by omega
      have HRN:=Lib.hid hrn;generalize s k=x at *;have e1:(c:Int)+((x:Int)*(m:Int))=(pr:Int):=by rw[← hpr,Int.natCast_add,Int.natCast_mul]
      have e2:(pr:Int)%4294967296=(lo:Int):=by omega
      have e3:(pr:Int) / 4294967296=(c':Int):=by omega
      have i1:(x:Int)*(m:Int)<=18446744065119617025:=by rw[← Int.natCast_mul];omega
      have i0:0<=(x:Int)*(m:Int):=by rw[← Int.natCast_mul];omega
      have hk0:(0:Int)<=(k:Int):=by omega
      have hkn:(k:Int)<(n:Int):=by omega
      have hkt:((k:Int)).toNat=k:=by omega
      clear hrn hst hbl hd hdb hds hR hpr hlo hc' hprm hgc hgf hdk H0;go_wp2
      go_roundw
      case rel=>exact⟨k+1,c',by omega,by go_num,hcl,rfl,HRN.out⟩
      case measure=>simp[intOf];omega
  · obtain rfl : k = n := by omega
    obtain⟨hbl,d,hd,hdb,_,hR⟩:=hr;unfold TimesR at hR
    by_cases hc0:c=0
    · subst hc0;have hE:Hid (val d k=m*val s k+p):=by show _=_;omega
      have HBL:=Lib.hid hbl;have HD:=Lib.hid hd;have HDB:=Lib.hid hdb;clear hbl hd hdb hR H0;go_wp2;go_ret;exact⟨_,k,d,rfl,HD.out,HDB.out,hE.out,by omega,HBL.out⟩
    · have hE:Hid (val (fun j=>if j=k then c else d j) (k+1)=m*val s k+p):=by
        show val _ _=_
        rw[val,if_pos rfl,val_congr k (g:=d) (fun j hj=>if_neg (by omega))];exact hR
      have hcc:0<c:=by omega
      have e2:(c:Int)%4294967296=(c:Int):=by omega
      have HBL:=Lib.hid hbl;have HDB:=Lib.hid hdb;have HD:=Lib.hid hd;have hsz:base<=wr.heap.size:=Nat.le_trans hb hbl.size;clear hbl hdb hR H0 hd
      go_wp2_with (at_builtin;refine wpList_append_own _ rfl _ _ 47 rfl base 177 i0 (.int .u32 0) 1 4 Tryz.underlying47 HI.out hz0 hz1 hz2 rfl (by decide) _ _ _ rfl (World.ownsRow.alloc HD.out _) ⟨wr.heap.size,0,none⟩ 1 1 [.int .u32 c] rfl rfl ?c1 ?c2 ?c3 ?c4 ?c5 ?_)
      case c1 =>
       intro j u hj
       match j,hj with
       | 0,hj=>simp at hj;subst hj;simp[Addr.add]
      case c2=>intro u hu;simp at hu;subst hu;rfl
      case c3=>unfold maxLen;omega
      case c4=>omega
      case c5=>rw[World.size_alloc];omega
      · intro v' w1 hown' hgrow _;have hb1:Below base w w1:=(HBL.out.alloc hsz _).grown hgrow (by rw[World.size_alloc];omega) (fun q hq=>(World.ownsRow.lt HD.out q hq).1);rw[cl_snoc]at hown';have HO:=Lib.hid hown';have HB1:=Lib.hid hb1;clear hown' hgrow hb1;go_wp2;go_ret;refine⟨v',k+1,_,rfl,HO.out,fun j hj => ?_,hE.out,by omega,HB1.out⟩
        show(if j=k then c else d j)<_
        split
        · exact hc
        · exact HDB.out j (by omega)
def isDig(c:UInt8):Bool:=decide (48<=c.toNat)&&decide (c.toNat<=57)
def okB(l:List UInt8):Bool:=decide (0<l.length)&&(decide (l.length<=2000)&&l.all isDig)
theorem isDig_iff{c:UInt8}:isDig c=true↔48<=c.toNat/\c.toNat<=57:=by simp[isDig]
theorem okB_digs{l:List UInt8}(h:okB l=true):0<l.length/\l.length<=2000/\∀c ∈ l,48<=c.toNat/\c.toNat<=57:=by
 simp only[okB,Bool.and_eq_true,decide_eq_true_eq,List.all_eq_true]at h;exact⟨h.1,h.2.1,fun c hc=>isDig_iff.1 (h.2.2 c hc)⟩
theorem okB_mk{l:List UInt8}(h1:0<l.length)(h2:l.length<=2000)(h3:∀c ∈ l,48<=c.toNat/\c.toNat<=57):okB l=true:=by
 simp only[okB,Bool.and_eq_true,decide_eq_true_eq,List.all_eq_true];exact⟨h1,h2,fun c hc=>isDig_iff.2 (h3 c hc)⟩
theorem numOf_snoc(c:UInt8):∀l:List UInt8,numOf (l ++ [c])=10*numOf l+(c.toNat-48)
 | []=>by simp[numOf]
 | x::l=>by
  rw[List.cons_append,numOf,numOf_snoc c l,numOf,List.length_append,List.length_singleton,Nat.pow_succ,Nat.mul_add];have:(x.toNat-48)*(10^l.length*10)=10*((x.toNat-48)*10^l.length):=by rw[← Nat.mul_assoc,Nat.mul_comm]
  omega
theorem take_snoc(s:ByteArray)(k:Nat)(h:k<s.size):s.data.toList.take (k+1)=s.data.toList.take k ++ [s[k]]:=by
 rw[List.take_succ_eq_append_getElem (by simpa using h)];rfl
def ParseOut(w w':World)(e:Ending)(l:List UInt8):Prop:=∃a n c,e=.returned (.tuple #[.agg #[.slice a n c],.bool (okB l)])/\NatIs w' (.agg #[.slice a n c]) (if okB l then numOf l else 0)/\(∀x,a=some x->w.heap.size<=x.block)/\Below w.heap.size w w'
theorem parse_no{w w':World}{l:List UInt8}(h:okB l=false)(hb:Below w.heap.size w w'):ParseOut w w' (.returned (.tuple #[.agg #[.slice none 0 0],.bool false])) l :=
 ⟨_,_,_,by rw[h],by rw[h];exact NatIs.zero _,(fun x hx=>by cases hx),hb⟩
def ParI(w wr:World)(s:ByteArray)(v:Value)(k:Nat):Prop:=Below w.heap.size w wr/\Slot wr w.heap.size (.slice none 0 0)/\(∀c ∈ s.data.toList.take k,48<=c.toNat/\c.toNat<=57) /\
 ∃n d,OwnL wr (w.heap.size+1) 177 .u32 v n d/\(∀j,j<n->d j<4294967296)/\n<=k/\val d n=numOf (s.data.toList.take k)
theorem parse_any(s:ByteArray)(w:World)(hs:s.size<=maxLen):Calls Tryz.prog 165 #[.string s] w fun e w'=>ParseOut w w' e s.data.toList:=by
 have hsl:s.data.toList.length=s.size:=rfl;unfold maxLen at hs;have s0:=Slot.new w (.slice none 0 0) 49;have hB:Below w.heap.size w (w.alloc (.cells #[.slice none 0 0] 49)):=(Below.refl _ _).alloc (Nat.le_refl _) _
 by_cases h0:s.size=0
 · have hn:okB s.data.toList=false:=by simp[okB,hsl,h0]
   have HE:=Lib.hid (parse_no hn hB);have h1:((s.size:Int)==0)=true:=by simp[h0]
   have h2:s.data.toList = []:=List.eq_nil_of_length_eq_zero (by omega);clear s0 hB hn;go_enter Tryz.func165,Tryz.ntmps165;go_wp2;exact bodyPost_ret (v:=.tuple #[.agg #[.slice none 0 0],.bool false]) (by simp[results,Tryz.results165,go_sem]) rfl HE.out
 by_cases h1:2000<s.size
 · have hn:okB s.data.toList=false:=by simp only[okB,hsl];simp;omega
   have HE:=Lib.hid (parse_no hn hB);have h2:((s.size:Int)==0)=false:=by rw[beq_eq_false_iff_ne];omega
   have h3:decide ((2000:Int)<(s.size:Int))=true:=decide_eq_true (by omega);clear s0 hB hn;go_enter Tryz.func165,Tryz.ntmps165;go_wp2;exact bodyPost_ret (v:=.tuple #[.agg #[.slice none 0 0],.bool false]) (by simp[results,Tryz.results165,go_sem]) rfl HE.out
 have H0:ParI w (w.alloc (.cells #[.slice none 0 0] 49)) s (.slice none 0 0) 0:=⟨hB,s0,by simp,0,fun _=>0,World.ownsRow_nil _ _ _ _,fun _ _=>by omega,by omega,rfl⟩
 have h2:((s.size:Int)==0)=false:=by rw[beq_eq_false_iff_ne];omega
 have h3:decide ((2000:Int)<(s.size:Int))=false:=decide_eq_false (by omega);have h4:s.size<=2000:=by omega
 have h5:0<s.size:=by omega
 clear s0 hB h0 h1 hs;have HSL:=Lib.hid hsl;clear hsl;go_enter Tryz.func165,Tryz.ntmps165;go_wp2
 go_loopw [4,17] (fun u i wr=>∃(k:Nat) (v:Value),k<=s.size/\i=.int .i64 k/\v=u/\ParI w wr s v k)
  (fun _ i _=>s.size-(intOf i).toNat)
 case atStart=>exact⟨0,_,by omega,rfl,rfl,H0⟩
 case round =>
  obtain⟨k,v,hk,rfl,rfl,hr⟩:=hrel;obtain⟨hbl,hsl,hdg,n,d,hd,hdb,hnk,hval⟩:=hr
  by_cases hlt:k<s.size
  · have hsn := take_snoc s k hlt; obtain ⟨c, hc⟩ : ∃ c, s[k] = c := ⟨_, rfl⟩
    rw[hc]at hsn
    by_cases hdc:48<=c.toNat/\c.toNat<=57
    · obtain ⟨p, hp⟩ : ∃ p, c.toNat - 48 = p := ⟨_, rfl⟩
      have e1:(c.toNat:Int)-48=(p:Int):=by omega
      have e2:(p:Int)%256=(p:Int):=by omega
      have t1:decide ((c.toNat:Int)<48)=false:=decide_eq_false (by omega);have t2:decide ((57:Int)<(c.toNat:Int))=false:=decide_eq_false (by omega);have hcl:(48:Int)<=(c.toNat:Int):=by omega
      have hsz:w.heap.size+1<=wr.heap.size:=hsl.lt;have HT:=Lib.hid (timesPlus_any (w.heap.size+1) v n d 10 p wr hd hdb (by omega) (by omega) (by omega) hsz)
      have hnx:∀w1 v1 n1 d1,OwnL w1 (w.heap.size+1) 177 .u32 v1 n1 d1->(∀j,j<n1->d1 j<4294967296)->val d1 n1=10*val d n+p->n1<=n+1->Below (w.heap.size+1) wr w1->ParI w w1 s v1 (k+1):=by
       intro w1 v1 n1 d1 g1 g2 g3 g4 g5
       refine⟨hbl.trans (g5.mono (by omega)),⟨(g5.cell (p:=⟨w.heap.size,0,none⟩) (Nat.lt_succ_self _)).trans hsl.cell,(g5.frozen (p:=⟨w.heap.size,0,none⟩) (Nat.lt_succ_self _)).trans hsl.free,Nat.lt_of_lt_of_le hsl.lt g5.size⟩,?_,n1,d1,g1,g2,by omega,?_⟩
       · rw[hsn];intro x hx
         rcases List.mem_append.1 hx with h|h
         · exact hdg x h
         · rw[List.mem_singleton.1 h];exact hdc
       · rw[hsn,numOf_snoc,g3,hval,hp]
      have HNX:=Lib.hid hnx;clear hnx hsn hdg hd hdb hval hbl hsl hdc hp hsz
      go_wp2_with (go_at_call 214;refine HT.out.mono ?_;rintro e w1 ⟨v1,n1,d1,rfl,g1,g2,g3,g4,g5⟩)
      have HN:=Lib.hid (HNX.out w1 v1 n1 d1 g1 g2 g3 g4 g5);clear g1 g2 g3 g5
      go_roundw
      case rel=>exact⟨k+1,v1,by omega,by go_num,rfl,HN.out⟩
      case measure=>simp[intOf];omega
    · have hn:okB s.data.toList=false:=by
        cases hk:okB s.data.toList
        · rfl
        · exfalso
          have:=(okB_digs hk).2.2 c (List.mem_of_mem_take (by rw[hsn];exact List.mem_append_right _ List.mem_cons_self));exact hdc this
      have hc3:=hsl.cell;have hf3:=hsl.free;have HE:=Lib.hid (parse_no (w:=w) (w':=wr.setCell ⟨w.heap.size,0,none⟩ (.slice none 0 0)) hn (hbl.setCell (Nat.le_refl _) _))
      by_cases h48:c.toNat<48
      · have t1:decide ((c.toNat:Int)<48)=true:=decide_eq_true (by omega);clear hsn hdg hd hdb hval hbl hsl hdc hn;go_wp2;exact bodyPost_ret (v:=.tuple #[.agg #[.slice none 0 0],.bool false]) (by simp[results,Tryz.results165,go_sem,hc3]) rfl HE.out
      · have t1:decide ((c.toNat:Int)<48)=false:=decide_eq_false (by omega);have t2:decide ((57:Int)<(c.toNat:Int))=true:=decide_eq_true (by omega);clear hsn hdg hd hdb hval hbl hsl hdc hn;go_wp2;exact bodyPost_ret (v:=.tuple #[.agg #[.slice none 0 0],.bool false]) (by simp[results,Tryz.results165,go_sem,hc3]) rfl HE.out
  · obtain rfl:k=s.size:=by omega
    rw[List.take_of_length_le (by rw[HSL.out];omega)]at hdg hval;have hok:okB s.data.toList=true:=okB_mk (by rw[HSL.out];omega) (by rw[HSL.out];omega) hdg;obtain⟨a,c,rfl,hsa,hpl⟩:=hd.slAt hdb (by omega);have HT:=Lib.hid (trimmed_pl a n c d wr hsa);have S3:=Lib.hid hsl;have HB:=Lib.hid hbl;have HOK:=Lib.hid hok;have HV:=Lib.hid hval;clear hbl hsl hdg hd hdb hval hok hsa;go_wp2_with fail;go_at_call 143;refine HT.out.mono ?_;rintro e w4 ⟨a3,n3,c3,f3,rfl,hs3,hv3,ht3,hp3,hb4⟩;have X3:=S3.out.below hb4
    obtain⟨v',hv',hn',hbe⟩:=natOut_store (u:=.slice a3 n3 c3) (k:=w.heap.size) (HB.out.trans (hb4.mono HB.out.size)) (Nat.le_refl _) hs3 (hv3.trans HV.out) ht3 (by
     rintro x rfl
     rcases hp3 with h|h
     · cases h
     · have:=hpl x h.symm;omega)
    have hc4:=X3.cell;have hf4:=X3.free
    have HEND:ParseOut w (w4.setCell ⟨w.heap.size,0,none⟩ (.slice a3 n3 c3)) (.returned (.tuple #[.agg #[.slice a3 n3 c3],.bool true])) s.data.toList:=by
     cases hv'
     exact⟨a3,n3,c3,by rw[HOK.out],by rw[HOK.out,if_pos rfl];exact hn',(fun x hx=>by
      rcases hp3 with h|h
      · rw[h]at hx;cases hx
      · rw[h]at hx;have:=hpl x hx;omega),hbe⟩
    have HE:=Lib.hid HEND;clear hs3 hv3 ht3 hb4 hp3 X3 hv' hn' hbe HEND;go_wp2;exact bodyPost_ret (v:=.tuple #[.agg #[.slice a3 n3 c3],.bool true]) (by simp[results,Tryz.results165,go_sem,hc4]) rfl HE.out
def RevI(w wr:World)(g n:Nat)(f:Nat->Nat)(i:Nat):Prop:=Wrote g 0 n w wr/\Free wr g/\∃d,Cells wr .u8 g 0 n d/\(∀j,j<i->d j=f (n-1-j))/\(∀j,i<=j->j+i<n->d j=f j)/\(∀j,n<=j+i->j<n->d j=f (n-1-j))
theorem RevI.next {w wr wr' : World} {g n : Nat} {f : Nat -> Nat} {i j : Nat} (h : RevI w wr g n f i) (hij : i < j) (hj : j + i + 1 = n) (hw : Wrote g 0 n wr wr') (hf : Free wr' g)
    (hc:∀d,Cells wr .u8 g 0 n d->Cells wr' .u8 g 0 n (fun k=>if k=i then f j else if k=j then f i else d k)):RevI w wr' g n f (i+1):=by
 obtain⟨h1,h2,d,h3,h4,h5,h6⟩:=h
 refine⟨h1.trans hw,hf,_,hc d h3,fun k hk => ?_,fun k h7 h8 => ?_,fun k h7 h8 => ?_⟩
 · by_cases e:k=i
   · subst e;rw[if_pos rfl];congr 1;omega
   · rw[if_neg e,if_neg (by omega)];exact h4 k (by omega)
 · rw[if_neg (by omega),if_neg (by omega)];exact h5 k (by omega) (by omega)
 · by_cases e:k=j
   · subst e;rw[if_neg (by omega),if_pos rfl];congr 1;omega
   · rw[if_neg (by omega),if_neg e];exact h6 k (by omega) h8
theorem cells_swap {wr : World} {g n i j x y : Nat} {d : Nat -> Nat} (h : Cells wr .u8 g 0 n d) (hi : i < n) (hj : j < n) (hij : i ≠ j) :
    Cells ((wr.setCell ⟨g,i,none⟩ (.int .u8 x)).setCell ⟨g,j,none⟩ (.int .u8 y)) .u8 g 0 n (fun k=>if k=i then x else if k=j then y else d k) /\
    Cells ((wr.setCell ⟨g,j,none⟩ (.int .u8 y)).setCell ⟨g,i,none⟩ (.int .u8 x)) .u8 g 0 n (fun k=>if k=i then x else if k=j then y else d k):=by
 have a1:=(h.set (k:=i) (x:=x) hi).set (k:=j) (x:=y) hj;have a2:=(h.set (k:=j) (x:=y) hj).set (k:=i) (x:=x) hi;rw[Nat.zero_add,Nat.zero_add]at a1 a2
 refine⟨?_,?_⟩
 · intro k hk;rw[a1 k hk]
   by_cases e:k=i
   · subst e;simp[hij]
   · simp[e]
 · intro k hk;rw[a2 k hk]
theorem reverse_any (g n c : Nat) (f : Nat -> Nat) (w : World) (hc : Cells w .u8 g 0 n f) (hf : Free w g) (hn : n <= 10000000) :
    Calls Tryz.prog 144 #[.slice (some ⟨g,0,none⟩) n c] w fun e w'=>e=.returned (.tuple #[])/\Hid (Wrote g 0 n w w'/\Free w' g/\Cells w' .u8 g 0 n (fun j=>f (n-1-j))):=by
 have H0:RevI w w g n f 0:=⟨Wrote.refl _ _ _ _,hf,f,hc,fun _ h=>by omega,fun _ _ _=>rfl,fun _ h1 h2=>by omega⟩
 clear hc hf;go_enter Tryz.func144,Tryz.ntmps144;go_wp2
 go_loopw [2,3] (fun a b wr=>∃(i:Nat) (j:Int),a=.int .i64 i/\b=.int .i64 j/\j=(n:Int)-1-(i:Int)/\(i:Int)<=j+2/\RevI w wr g n f i)
  (fun a b _=>(intOf b+2-intOf a).toNat)
 case atStart=>exact⟨0,_,rfl,rfl,by omega,by omega,H0⟩
 case round =>
  obtain⟨i,jj,rfl,rfl,hj,hij,hr⟩:=hrel
  by_cases hlt:(i:Int)<jj
  · obtain⟨j,rfl⟩:∃j:Nat,jj=(j:Int):=⟨jj.toNat,by omega⟩
    have hlt':i<j:=by omega
    have hjn:j+i+1=n:=by omega
    obtain⟨h1,h2,d,h3,h4,h5,h6⟩:=hr;have hci:=h3 i (by omega);have hcj:=h3 j (by omega);rw[Nat.zero_add]at hci hcj;rw[h5 i (Nat.le_refl _) (by omega)]at hci;rw[h5 j (by omega) (by omega)]at hcj;have hfi:=h2 i;have hfj:=h2 j;have hr:RevI w wr g n f i:=⟨h1,h2,d,h3,h4,h5,h6⟩
    have sw:=fun d hd=>cells_swap (wr:=wr) (g:=g) (n:=n) (i:=i) (j:=j) (x:=f j) (y:=f i) (d:=d) hd (by omega) (by omega) (by omega)
    have hw1:Wrote g 0 n wr ((wr.setCell ⟨g,i,none⟩ (.int .u8 (f j))).setCell ⟨g,j,none⟩ (.int .u8 (f i))):=((Wrote.refl g 0 n wr).setCell (Nat.zero_le _) (by omega) _).setCell (Nat.zero_le _) (by omega) _;have hw2:Wrote g 0 n wr ((wr.setCell ⟨g,j,none⟩ (.int .u8 (f i))).setCell ⟨g,i,none⟩ (.int .u8 (f j))):=((Wrote.refl g 0 n wr).setCell (Nat.zero_le _) (by omega) _).setCell (Nat.zero_le _) (by omega) _;have N1:=Lib.hid (RevI.next hr hlt' hjn hw1.drew ((h2.set _ _).set _ _) (fun d hd=>(sw d hd).1));have N2:=Lib.hid (RevI.next hr hlt' hjn hw2.drew ((h2.set _ _).set _ _) (fun d hd=>(sw d hd).2));have n1:(⟨g,i,none⟩:Addr)≠⟨g,j,none⟩:=by intro e;simp only[Addr.mk.injEq]at e;omega
    have n2:(⟨g,j,none⟩:Addr)≠⟨g,i,none⟩:=by intro e;simp only[Addr.mk.injEq]at e;omega
    have g1:(wr.setCell ⟨g,i,none⟩ (.int .u8 (f j))).cell? ⟨g,j,none⟩=some (.int .u8 (f j)):=by rw[World.cell?_setCell_other _ _ _ _ n1];exact hcj
    have g2:(wr.setCell ⟨g,j,none⟩ (.int .u8 (f i))).cell? ⟨g,i,none⟩=some (.int .u8 (f i)):=by rw[World.cell?_setCell_other _ _ _ _ n2];exact hci
    clear sw hw1 hw2 hr h1 h2 h3 h4 h5 h6 n1 n2;generalize f i=x at *;generalize f j=y at *;have i0:(0:Int)<=(i:Int):=by omega
    have i1:(i:Int)<(n:Int):=by omega
    have j1:(j:Int)<(n:Int):=by omega
    have j0:(0:Int)<=(j:Int):=by omega
    have HJN:=Lib.hid hjn;clear hj hij hjn;go_wp2
    go_region
    all_goals
     go_wp2
     go_roundw
     case rel =>
      have hjn:=HJN.out;exact⟨i+1,(j:Int)-1,by go_num,rfl,by omega,by omega,by first|exact N1.out|exact N2.out⟩
     case measure=>simp[intOf];omega
  · have hE:Hid (Wrote g 0 n w wr/\Free wr g/\Cells wr .u8 g 0 n (fun j=>f (n-1-j))):=by
      obtain⟨h1,h2,d,h3,h4,h5,h6⟩:=hr;refine⟨h1,h2,fun k hk => ?_⟩;rw[h3 k hk]
      by_cases e1:k<i
      · rw[h4 k e1]
      · by_cases e2:n<=k+i
        · rw[h6 k e2 hk]
        · rw[h5 k (by omega) (by omega)]
          congr 4;omega
    clear hr;go_wp2
    go_end0
    exact⟨rfl,hE⟩
theorem infoB:(Tryz.prog.info? 5).map (fun i=>(i.zero,i.size,i.bytes))=some (some (.int .u8 0),1,1):=by kernel_rfl
def dg(N j:Nat):Nat:=48+N / 10^j%10
def lenOf:Value->Nat
 | .slice _ n _=>n
 | _=>0
theorem OwnL.len{w:World}{base:Nat}{e:TypeId}{ki:IntKind}{v:Value}{n:Nat}{f:Nat->Nat}(h:OwnL w base e ki v n f):lenOf v=n:=by
 rcases h.cases with ⟨rfl,rfl⟩|⟨g,c,rfl,_⟩<;>rfl
theorem OwnL.below{w w':World}{base:Nat}{e:TypeId}{ki:IntKind}{v:Value}{n:Nat}{f:Nat->Nat}(h:OwnL w base e ki v n f)(hb:Below w.heap.size w w'):OwnL w' base e ki v n f :=
 World.ownsRow.kept h (row:=none) ⟨hb.os,hb.tape,hb.output,hb.size,fun k hk _=>hb.block k hk⟩ (by
  rcases h.cases with ⟨rfl,_⟩|⟨g,c,rfl,_⟩
  · exact .inl rfl
  · exact .inr (by simp[Value.ownBlock]))
theorem OwnL.wrote{w w':World}{base:Nat}{e:TypeId}{ki:IntKind}{v:Value}{n b lo hi:Nat}{f:Nat->Nat}(h:OwnL w base e ki v n f)(hb:Wrote b lo hi w w')(hlt:b<base):OwnL w' base e ki v n f :=
 World.ownsRow.kept h (row:=some b) ⟨hb.os,hb.tape,hb.output,hb.size,fun k hk hne=>hb.block k hk (fun e=>hne (by rw[e]))⟩ (by
  rcases h.cases with ⟨rfl,_⟩|⟨g,c,rfl,_,hg,_⟩
  · exact .inl rfl
  · refine .inr ?_;intro e;simp only[Value.ownBlock,Option.some.injEq]at e
    omega)
theorem dig_group(X i:Nat)(h:i<9):X%1000000000 / 10^i%10=X / 10^i%10:=by
 have e:(1000000000:Nat)=10^i*10^(9-i):=by rw[← Nat.pow_add,show i+(9-i)=9 by omega]
 rw[e,Nat.mod_mul_right_div_self];exact Nat.mod_mod_of_dvd _ ⟨10^(8-i),by rw[← Nat.pow_succ'];congr 1;omega⟩
theorem pow9_bound{K L N:Nat}(h:0<N / 10^(9*K))(hN:N<4294967296^L):9*K<32*L+1:=by
 have h1:10^(9*K)<=N:=by
  rcases Nat.lt_or_ge N (10^(9*K))with h2|h2
  · rw[Nat.div_eq_of_lt h2]at h;omega
  · exact h2
 have h2:(2:Nat)^(9*K)<=10^(9*K):=Nat.pow_le_pow_left (by omega) _;have h3:(4294967296:Nat)^L=2^(32*L):=by rw[Nat.pow_mul]
 have h4:(2:Nat)^(9*K)<2^(32*L):=by omega
 have:=(Nat.pow_lt_pow_iff_right (show 1<2 by omega)).1 h4
 omega
structure TextI(w wr:World)(base b N L:Nat)(D:Value)(ra:Option Addr)(n c K:Nat):Prop where
 below:Below w.heap.size w wr
 size:base<=wr.heap.size
 own:OwnL wr base 5 .u8 D (9*K) (dg N)
 bge:w.heap.size<=b
 blt:b<base
 free:Free wr b
 rest:∃f,SlAt wr .u32 4294967296 ra n c f/\val f n=N / 10^(9*K)/\(n=0∨f (n-1)≠0)
 plc:ra=none∨ra=some ⟨b,0,none⟩
 kb:9*K<=32*L+10
structure GroupI(wo wr:World)(base N K G:Nat)(D:Value)(i:Nat):Prop where
 below:Below base wo wr
 own:OwnL wr base 5 .u8 D (9*K+i) (dg N)
theorem text_core (a : Option Addr) (n0 c0 : Nat) (f : Nat -> Nat) (w : World) (hs : SlAt w .u32 4294967296 a n0 c0 f) (ht : n0 = 0 ∨ f (n0 - 1) ≠ 0) (hpos : 0 < val f n0) (hlen : n0 <= 100000) :
    Calls Tryz.prog 73 #[.agg #[.slice a n0 c0]] w fun e w'=>e=.returned (.string (str (dec (val f n0))))/\Below w.heap.size w w':=by
 obtain⟨i0,hi,hz0,hz1,hz2⟩:=info_parts infoB;have hZ:=zero_any (.agg #[.slice a n0 c0]) (val f n0) (w.alloc (.cells #[.slice a n0 c0] 49)) ⟨a,n0,c0,f,rfl,hs.below ((Below.refl _ _).alloc (Nat.le_refl _) _),rfl,ht⟩;rw[show decide (val f n0=0)=false from decide_eq_false (by omega)]at hZ;have s0:=Slot.new w (.slice a n0 c0) 49;have hNB:=val_lt f n0 hs.2.2.1;obtain⟨N,hN⟩:∃N,val f n0=N:=⟨_,rfl⟩
 rw[hN]at hpos hNB ⊢;have HZ:=Lib.hid hZ;have S0:=Lib.hid s0;have HS:=Lib.hid hs;have HN:=Lib.hid hN;have HT:=Lib.hid ht;have HNB:=Lib.hid hNB;have HI:=Lib.hid hi;clear hZ s0 hs hN ht hNB hi;go_enter Tryz.func73,Tryz.ntmps73;go_wp2_with fail;go_at_call 114;refine HZ.out.mono ?_;rintro e w1 ⟨rfl,hb1⟩;have S1:=Lib.hid (S0.out.below hb1);have HB1:=Lib.hid (below_alloc hb1);have hc1:=S1.out.cell;clear hb1;go_wp2_with fail;go_at_call 141;refine(copied_own a n0 c0 f n0 w1 (HS.out.below HB1.out) (Nat.le_refl _) (by omega)).mono ?_;rintro e w2 ⟨b,rfl,ho,hb2⟩
 have H0:TextI w w2 w2.heap.size b N n0 (.slice none 0 0) (some ⟨b,0,none⟩) n0 n0 0:=by
  obtain⟨q,hq1,hq2,hq3⟩:=ho.row
  refine⟨HB1.out.trans (hb2.mono HB1.out.size),Nat.le_refl _,World.ownsRow_nil _ _ _ _,Nat.le_trans HB1.out.size ho.ge,ho.lt,ho.free,⟨q,⟨Nat.le_refl _,by omega,hq2,.inr ⟨b,0,rfl,ho.lt,hq1⟩⟩,?_,?_⟩,.inr rfl,by omega⟩
  · rw[hq3,HN.out];simp
  · rcases Nat.eq_zero_or_pos n0 with h|h
    · exact .inl h
    · refine .inr (fun h0 => ?_);have h1:=val_top f n0 h (HT.out.resolve_left (by omega));obtain⟨m,rfl⟩:∃m,n0=m+1:=⟨n0-1,by omega⟩
      rw[Nat.add_sub_cancel]at h0 h1;have h2:=val_lt q m (fun j hj=>hq2 j (by omega));rw[val,h0]at hq3
      omega
 obtain⟨base,hbase⟩:∃base,w2.heap.size=base:=⟨_,rfl⟩
 rw[hbase]at H0;have H0':=Lib.hid H0;clear hb2 ho hc1 H0 hbase;go_wp2_with fail
 go_loopw [3,4] (fun D R wr=>∃(ra:Option Addr) (n c K:Nat) (V:Value),R=.slice ra n c/\V=D/\TextI w wr base b N n0 V ra n c K)
  (fun D _ _=>32*n0+20-lenOf D)
 case atStart=>exact⟨_,_,_,0,_,rfl,rfl,H0'.out⟩
 case round =>
  obtain⟨ra,n,c,K,V,rfl,rfl,hr⟩:=hrel;obtain⟨wo,rfl⟩:∃wo:World,wo=wr:=⟨_,rfl⟩
  by_cases hn:0<n
  · obtain ⟨q, hq1, hq2, hq3⟩ := hr.rest; obtain ⟨b', off', hra, _, hqc⟩ := hq1.at hn
    have hra2:ra=some ⟨b,0,none⟩:=by
     rcases hr.plc with h|h
     · rw[h]at hra;cases hra
     · exact h
    rw[hra2]at hra;simp only[Option.some.injEq,Addr.mk.injEq,and_true]at hra;obtain⟨rfl,rfl⟩:=hra;subst hra2;have hnl:n<=1000000:=hq1.2.1
    have hMpos:0<N / 10^(9*K):=by
     rw[← hq2];have:=val_top q n hn (hq3.resolve_left (by omega));have:=pow_pos32 (n-1)
     omega
    have hpb:=pow9_bound hMpos HNB.out;obtain⟨M,hM⟩:∃M,N / 10^(9*K)=M:=⟨_,rfl⟩
    rw[hM]at hq2;have hown:Own w wo b n M:=⟨hr.bge,Nat.lt_of_lt_of_le hr.blt hr.size,hr.free,q,hqc,hq1.2.2.1,hq2⟩
    have HDV:=Lib.hid (divideBy_own w b n c M 1000000000 wo hown hnl (by omega) (by omega));have HR:=Lib.hid hr;have HM:=Lib.hid hM;clear hq1 hq2 hq3 hqc hM hown hr hMpos;go_wp2_with fail;go_at_call 142;refine HDV.out.mono ?_;rintro e w3 ⟨rfl,ho3,hw3⟩;obtain⟨G,hG⟩:∃G,M%1000000000=G:=⟨_,rfl⟩
    have hGl:G<1000000000:=by rw[← hG];exact Nat.mod_lt _ (by omega)
    have HG:=Lib.hid hG;rw[hG];obtain⟨q2,hr1,hr2,hr3⟩:=ho3.row;have HB3:=Lib.hid (hw3.below HR.out.below HR.out.bge HR.out.below.size);have HD3:=Lib.hid (HR.out.own.wrote hw3 HR.out.blt);have hz3:base<=w3.heap.size:=Nat.le_trans HR.out.size hw3.size;have HF3:=Lib.hid ho3.free;have HT3:=Lib.hid (trimmed_pl (some ⟨b,0,none⟩) n c q2 w3 ⟨HR.out.rest.choose_spec.1.1,hnl,hr2,.inr ⟨b,0,rfl,ho3.lt,hr1⟩⟩);have HV3:=Lib.hid hr3;have hb3:=ho3.lt;clear hG hr1 hr2 hr3 ho3 hw3;go_wp2_with fail;go_at_call 143;refine HT3.out.mono ?_;rintro e w4 ⟨a4,n4,c4,f4,rfl,hs4,hv4,ht4,hp4,hb4⟩;have hfd:∀wz:World,(Instr.field 49 (.agg #[.slice a4 n4 c4]) 0).run Tryz.prog wz=.ok (.slice a4 n4 c4) wz:=fun _=>by kernel_rfl
    have HB4:=Lib.hid (HB3.out.trans (hb4.mono HB3.out.size));have HD4:=Lib.hid (HD3.out.below hb4);have hz4:base<=w4.heap.size:=Nat.le_trans hz3 hb4.size;have HF4:=Lib.hid (HF3.out.below hb4 hb3);have HS4:=Lib.hid hs4;have HV4:=Lib.hid hv4;have HT4:=Lib.hid ht4;have HP4:=Lib.hid hp4;have hb4':b<w4.heap.size:=Nat.lt_of_lt_of_le hb3 hb4.size;have HI0:GroupI w4 w4 base N K G V 0:=⟨Below.refl _ _,HD4.out⟩
    have HI0':=Lib.hid HI0;have HLV:=Lib.hid HR.out.own.len;clear hs4 hv4 ht4 hp4 hb4 HI0;go_wp2_with fail
    go_loopw [3,5,22] (fun D g i wr=>∃(k gg:Nat) (U:Value),k<=9/\i=.int .i64 k/\gg<4294967296/\gg=G / 10^k/\g=.int .u32 gg/\U=D/\GroupI w4 wr base N K G U k)
     (fun _ _ i _=>9-(intOf i).toNat)
    case atStart=>exact⟨0,G,V,by omega,rfl,by omega,by simp,rfl,rfl,HI0'.out⟩
    case round =>
     obtain⟨k,gg,U,hk,rfl,hgl,hgg,rfl,rfl,hgr⟩:=hrel
     by_cases hk9:k<9
     · obtain ⟨x, hx⟩ : ∃ x, gg % 10 = x := ⟨_, rfl⟩
       obtain⟨y,hy⟩:∃y,48+x=y:=⟨_,rfl⟩
       obtain⟨g',hg'⟩:∃g',gg / 10=g':=⟨_,rfl⟩
       have e1:(gg:Int)%10=(x:Int):=by omega
       have e2:(48:Int)+(x:Int)=(y:Int):=by omega
       have e3:(y:Int)%256=(y:Int):=by omega
       have e4:(gg:Int) / 10=(g':Int):=by omega
       have hyd:y=dg N (9*K+k):=by
        unfold dg;rw[← hy,← hx,hgg,← HG.out,dig_group _ _ hk9,← HM.out,Nat.div_div_eq_div_mul,← Nat.pow_add]
       have hgn:g'=G / 10^(k+1):=by rw[← hg',hgg,Nat.div_div_eq_div_mul,← Nat.pow_succ]
       have HGR:=Lib.hid hgr;have HYD:=Lib.hid hyd;have HGN:=Lib.hid hgn;have hzr:base<=wr.heap.size:=Nat.le_trans hz4 hgr.below.size;have h64:9*K+k<=10000000:=by omega
       clear hx hy hg' hyd hgn hgr hgg
       go_wp2_with (at_builtin;refine wpList_append_own _ rfl _ _ 175 rfl base 5 i0 (.int .u8 0) 1 1 Tryz.underlying175 HI.out hz0 hz1 hz2 rfl (by decide) _ _ _ rfl (World.ownsRow.alloc HGR.out.own _) ⟨wr.heap.size,0,none⟩ 1 1 [.int .u8 y] rfl rfl ?c1 ?c2 ?c3 ?c4 ?c5 ?_)
       case c1 =>
        intro j u hj
        match j,hj with
        | 0,hj=>simp at hj;subst hj;simp[Addr.add]
       case c2=>intro u hu;simp at hu;subst hu;rfl
       case c3=>unfold maxLen;omega
       case c4=>omega
       case c5=>rw[World.size_alloc];omega
       · intro v' w5 hown' hgrow _;have hb5:Below base w4 w5:=(HGR.out.below.alloc hzr _).grown hgrow (by rw[World.size_alloc];omega) (fun q hq=>(World.ownsRow.lt HGR.out.own q hq).1)
         have hown2:OwnL w5 base 5 .u8 v' (9*K+(k+1)) (dg N):=by
          rw[cl_snoc,cl_congr (g:=dg N) (fun j hj=>by
           by_cases e:j=9*K+k
           · rw[if_pos e,HYD.out,e]
           · rw[if_neg e])]at hown'
          exact hown'
         have HG5:GroupI w4 w5 base N K G v' (k+1):=⟨hb5,hown2⟩
         have HG5':=Lib.hid HG5;clear hown' hgrow hb5 hown2 HG5;go_wp2
         go_roundw
         case rel=>exact⟨k+1,g',v',by omega,by go_num,by omega,HGN.out,rfl,rfl,HG5'.out⟩
         case measure=>simp[intOf];omega
     · obtain rfl : k = 9 := by omega
       have HNX:TextI w wr base b N n0 U a4 n4 c4 (K+1):=by
        have hw5:Below w.heap.size w wr:=HB4.out.trans (hgr.below.mono (by have:=HR.out.bge;have:=HR.out.blt;omega));have hbb:∀o,wr.cell? ⟨b,o,none⟩=w4.cell? ⟨b,o,none⟩:=fun o=>hgr.below.cell (p:=⟨b,o,none⟩) HR.out.blt
        refine⟨hw5,Nat.le_trans hz4 hgr.below.size,by have:=hgr.own;rw[show 9*K+9=9*(K+1)by omega]at this;exact this,HR.out.bge,HR.out.blt,fun o=>(hgr.below.frozen (p:=⟨b,o,none⟩) HR.out.blt).trans (HF4.out o),⟨f4,?_,?_,HT4.out⟩,HP4.out,by omega⟩
        · obtain ⟨z1, z2, z3, z4⟩ := HS4.out; refine ⟨z1, z2, z3, ?_⟩
          rcases z4 with z4|⟨b6,o6,z5,z6,z7⟩
          · exact .inl z4
          · have hb6:b6=b:=by
              rcases HP4.out with h|h
              · rw[h]at z5;cases z5
              · rw[h]at z5;cases z5;rfl
            subst hb6;exact .inr ⟨b6,o6,z5,Nat.lt_of_lt_of_le z6 hgr.below.size,fun j hj=>(hbb _).trans (z7 j hj)⟩
        · rw[HV4.out,HV3.out,← HM.out,Nat.div_div_eq_div_mul]
          congr 1
          rw[show 9*(K+1)=9*K+9 by omega,Nat.pow_add]
       have HNX':=Lib.hid HNX;have HLU:=Lib.hid HNX.own.len;clear hgr HNX;go_wp2
       go_roundw
       case rel=>exact⟨a4,n4,c4,K+1,U,rfl,rfl,HNX'.out⟩
       case measure =>
        have h1:=HLV.out;have h2:=HLU.out
        show 32*n0+20-lenOf U<32*n0+20-lenOf V
        rw[h1,h2]
        omega
  · obtain rfl:n=0:=by omega
    obtain⟨q,hq1,hq2,_⟩:=hr.rest
    have hlow:N<10^(9*K):=by
     rcases Nat.lt_or_ge N (10^(9*K))with h|h
     · exact h
     · have:=Nat.div_pos h (Nat.pow_pos (by omega));simp only[val]at hq2;omega
    have hK:0<9*K:=by
     rcases Nat.eq_zero_or_pos (9*K)with h|h
     · rw[h]at hlow;simp at hlow;omega
     · exact h
    rcases hr.own.cases with ⟨_,h⟩|⟨g,c2,rfl,hc2,hgb,hgl,hgc,hgf⟩
    · omega
    have hKb:9*K<=10000000:=by have:=hr.kb;omega
    have hbe:=hr.below;have hge:w.heap.size<=g:=Nat.le_trans hr.bge (by have:=hr.blt;omega);obtain⟨m,hm⟩:∃m,9*K=m:=⟨_,rfl⟩
    rw[hm]at hlow hK hKb hgc ⊢;have HRV:=Lib.hid (reverse_any g m c2 (dg N) wo hgc hgf hKb);have HBE:=Lib.hid hbe;have HLOW:=Lib.hid hlow;clear hr hq1 hq2 hlow hgc hgf hbe;go_wp2_with fail;go_at_call 144;refine HRV.out.mono ?_;rintro e w6 ⟨rfl,hrv⟩;obtain⟨hw6,hf6,hc6⟩:=hrv.out;have hcv:=run_convert_bytes_arg (P:=Tryz.prog) (w:=w6) 175 5 Tryz.underlying175 Tryz.underlying5 g 0 m c2 ((List.range m).map fun j=>((dg N (m-1-j):Nat):Int)) (by simp) (fun j hj=>by rw[hc6 j hj];simp[hj]) 9 Tryz.underlying9
    have hst:strOfNums ((List.range m).map fun j=>((dg N (m-1-j):Nat):Int))=str (sdig N m):=by
     refine str_of ?_;rw[strOfNums_data]
     apply List.ext_getElem?
     intro j
     by_cases hj:j<m
     · rw[sdig_get N m j hj,List.getElem?_map,List.getElem?_map,List.getElem?_range hj];simp only[Option.map_some];rw[Int.toNat_natCast];rfl
     · rw[List.getElem?_eq_none (by simp;omega),List.getElem?_eq_none (by rw[sdig_length];omega)]
    rw[hst]at hcv;have HTL:=Lib.hid (Tryz.strings_TrimLeft_one (str (sdig N m)) 48 (by decide) w6)
    have hdr:(⟨(Lib.trimLeftB (str (sdig N m)).data.toList 48).toArray⟩:ByteArray)=str (dec N):=by
     rw[str_toList];unfold Lib.trimLeftB;rw[drop_zeros N hpos m HLOW.out];rfl
    rw[hdr]at HTL;have HB6:=Lib.hid (hw6.below HBE.out hge HBE.out.size);have HCV:=Lib.hid hcv;clear hrv hw6 hf6 hc6 hst hdr hcv;have hcv:=HCV.out;go_wp2_with fail;go_at_call 145;refine HTL.out.mono ?_;rintro e w7 ⟨rfl,rfl⟩;clear hcv;go_wp2;go_ret;exact⟨rfl,HB6.out⟩
theorem text_any(v:Value)(N:Nat)(w:World)(h:NatIs w v N)(k:Nat)(hk:k<=100000)(hN:N<4294967296^k):Calls Tryz.prog 73 #[v] w fun e w'=>e=.returned (.string (str (dec N)))/\Below w.heap.size w w':=by
 rcases Nat.eq_zero_or_pos N with h0|h0
 · subst h0;have HZ:=Lib.hid (zero_any v 0);obtain⟨a,n,c,f,rfl,hs,hv,ht⟩:=h;have hz:=HZ.out (w.alloc (.cells #[.slice a n c] 49)) ⟨a,n,c,f,rfl,hs.below ((Below.refl _ _).alloc (Nat.le_refl _) _),hv,ht⟩;have HZ2:=Lib.hid hz;clear hz hs hv ht;go_enter Tryz.func73,Tryz.ntmps73
   go_wp2_with (go_at_call 114;refine HZ2.out.mono ?_;rintro e w1 ⟨rfl,hb1⟩)
   go_ret;exact⟨by rw[dec_zero];rfl,below_alloc hb1⟩
 · obtain⟨a,n,c,f,rfl,hs,hv,ht⟩:=h;have hl:=Nat.le_trans (NatIs.short hv ht hN) hk;rw[← hv]at h0 ⊢;exact text_core a n c f w hs ht h0 hl
def nbits(N:Nat):Nat:=if N=0 then 0 else N.log2+1
theorem nbits_le{N b:Nat}:nbits N<=b↔N<2^b:=by
 unfold nbits
 split
 · rename_i h;subst h;simp[Nat.two_pow_pos]
 · rename_i h
   rw[← Nat.log2_lt h];omega
theorem ret_str{s t:ByteArray}(h:s=t):Ending.returned (.string s)=.returned (.string t):=by rw[h]
theorem extract_cons(x:UInt8)(l:List UInt8):(str (x::l)).extract 1 (str (x::l)).size=str l:=by
 refine str_of ?_;rw[Lib.extract_data]
 simp[str,ByteArray.size]
theorem dec_of_top{N k:Nat}(h:N<10^k)(h2:k=1∨(1<=k/\¬dgt N (k-1)=48)):sdig N k=dec N:=by
 have:dl N=k:=by
  rcases h2 with rfl|⟨h1,h2⟩
  · have:=dl_le N 1 (by omega) h;have:=dl_pos N;omega
  · refine Nat.le_antisymm (dl_le N k h1 h) ?_
    have:10^(k-1)<=N:=by
     rcases Nat.lt_or_ge N (10^(k-1))with h3|h3
     · exact absurd (by rw[dgt_zero,Nat.div_eq_of_lt h3]) h2
     · exact h3
    have:=dl_ge this;omega
 unfold dec;rw[this]
theorem trim_any(N n:Nat)(w:World)(hn:0<n)(hN:N<10^n)(hl:n<=10000000):Calls Tryz.prog 111 #[.string (str (sdig N n))] w fun e w'=>e=.returned (.string (str (dec N)))/\w=w':=by
 have H0:Hid (str (sdig N n)=str (sdig N n)/\(str (sdig N n)).size=n/\N<10^n/\0<n/\n<=10000000):=⟨rfl,by rw[str_size,sdig_length],hN,hn,hl⟩
 obtain⟨s0,hs0⟩:∃s0,str (sdig N n)=s0:=⟨_,rfl⟩
 rw[hs0];have H0':Hid (s0=str (sdig N n)/\s0.size=n/\N<10^n/\0<n/\n<=10000000):=by rw[← hs0];exact H0
 clear H0 hs0 hn hN hl;go_enter Tryz.func111,Tryz.ntmps111;go_wp2
 go_loop [0] (fun s=>∃(k:Nat) (t:ByteArray),s=.string t/\Hid (t=str (sdig N k)/\t.size=k/\N<10^k/\0<k/\k<=10000000))
  (fun s=>match s with | .string t=>t.size|_=>0)
 case atStart=>exact⟨n,s0,rfl,H0'.out⟩
 case round =>
  obtain⟨k,t,rfl,hr⟩:=hrel;obtain⟨ht,hk,hNk,hk0,hkl⟩:=hr.out;have hz:0<t.size:=by omega
  obtain⟨c,hc⟩:∃c,t[0]=c:=⟨_,rfl⟩
  have hcd:c=dgt N (k-1):=by
   obtain⟨m,rfl⟩:∃m,k=m+1:=⟨k-1,by omega⟩
   subst ht;rw[← hc];rfl
  have HCD:=Lib.hid hcd;have HK:=Lib.hid hk
  by_cases h1:1<t.size
  · have d1 : decide ((1 : Int) < (t.size : Int)) = true := decide_eq_true (by omega)
    by_cases h2:c=48
    · have d2 : ((c.toNat : Int) == 48) = true := by rw [h2]; rfl
      obtain⟨t',htt⟩:∃t',t.extract 1 t.size=t':=⟨_,rfl⟩
      have hnx:Hid (t'=str (sdig N (k-1))/\t'.size=k-1/\N<10^(k-1)/\0<k-1/\k-1<=10000000):=by
       obtain⟨m,rfl⟩:∃m,k=m+1:=⟨k-1,by omega⟩
       have e:t'=str (sdig N m):=by rw[← htt,ht];exact extract_cons _ _
       have hlt:N<10^m:=by
        rw[hcd,Nat.add_sub_cancel,dgt_zero]at h2
        rcases Nat.lt_or_ge N (10^m)with h3|h3
        · exact h3
        · have h4:=Nat.div_pos h3 (Nat.pow_pos (by omega));have h5:N / 10^m<10:=by rw[Nat.div_lt_iff_lt_mul (Nat.pow_pos (by omega))];rw[Nat.pow_succ]at hNk;omega
          omega
       exact⟨e,by rw[e,str_size,sdig_length];rfl,hlt,by omega,by omega⟩
      have hsz:t'.size<t.size:=by have:=hnx.out.2.1;omega
      clear hr ht hk hNk hcd h2;go_wp2
      go_round
      case rel=>exact⟨k-1,t',rfl,hnx.out⟩
      case measure=>simpa using hsz
    · have d2:((c.toNat:Int)==48)=false:=by
        rw[beq_eq_false_iff_ne];intro h;apply h2;rw[← UInt8.toNat_inj]
        show c.toNat=48
        omega
      have hE:Hid (str (dec N)=t):=by show _=_;rw[ht,dec_of_top hNk (.inr ⟨hk0,by rw[← hcd];exact h2⟩)]
      clear hr ht hk hNk hcd h2;go_wp2;go_ret;exact⟨ret_str hE.out.symm,rfl⟩
  · have d1:decide ((1:Int)<(t.size:Int))=false:=decide_eq_false (by omega);have hE:Hid (str (dec N)=t):=by show _=_;rw[ht,dec_of_top hNk (.inl (by omega))]
    clear hr ht hk hNk hcd;go_wp2;go_ret;exact⟨ret_str hE.out.symm,rfl⟩
theorem infoI:(Tryz.prog.info? 3).map (fun i=>(i.zero,i.size,i.bytes))=some (some (.int .i64 0),1,8):=by kernel_rfl
theorem make_bytes(m:Nat)(hm:m<=10000000):∃z:Array Value,z.size=m /\
    ∀w:World,(Instr.makeSlice 175 (.int .i64 0) (.int .i64 m)).run Tryz.prog w=.ok (.slice (some ⟨w.heap.size,0,none⟩) 0 m) (w.alloc (.cells z 5)):=by
 obtain⟨i0,hi,hz0,hz1,hz2⟩:=info_parts infoB;refine⟨madeCells (Value.cells (.int .u8 0)) m,size_madeCells _ _,fun w => ?_⟩;have hmk:=run_make (P:=Tryz.prog) w 175 5 i0 (.int .u8 0) Tryz.underlying175 hi hz0 .i64 .i64 0 m (by omega) (by omega) (by rw[hz2];omega) (by omega);simp only[Int.toNat_natCast,hz1,Nat.mul_one,Int.toNat_zero]at hmk;exact hmk
def d10(N j:Nat):Nat:=N / 10^j%10
theorem dg_d10(N j:Nat):dg N j=48+d10 N j:=rfl
structure WrI(w wr:World)(base N n:Nat)(V:Value)(k:Nat):Prop where
 below:Below base w wr
 own:OwnL wr base 5 .u8 V k (fun j=>dg N (n-1-j))
theorem written_any (a : Option Addr) (n c : Nat) (f : Nat -> Nat) (N : Nat) (w : World) (hs : SlAt w .i64 10 a n c f) (hf : ∀ j, j < n -> f j = d10 N j) (hN : N < 10 ^ n) :
    Calls Tryz.prog 218 #[.slice a n c] w fun e w'=>e=.returned (.string (str (dec N)))/\Below w.heap.size w w':=by
 obtain⟨i0,hi,hz0,hz1,hz2⟩:=info_parts infoB;have hnl:n<=1000000:=hs.2.1;obtain⟨m,hm⟩:∃m,n+1=m:=⟨_,rfl⟩
 have em:(n:Int)+1=(m:Int):=by omega
 obtain⟨z,hz,hmk⟩:=make_bytes m (by omega)
 have H0:WrI w (w.alloc (.cells z 5)) w.heap.size N n (.slice (some ⟨w.heap.size,0,none⟩) 0 m) 0 :=
  ⟨(Below.refl _ _).alloc (Nat.le_refl _) _,World.ownsRow_made w z m (Nat.le_refl _) (by unfold maxLen;omega) (by omega)⟩
 have HS:=Lib.hid hs;have HF:=Lib.hid hf;have HN:=Lib.hid hN;have HI:=Lib.hid hi;have H0':=Lib.hid H0;clear hs hf hN hi H0 hz hm;go_enter Tryz.func218,Tryz.ntmps218;go_wp2
 go_loopw [3,4] (fun D i wr=>∃(k:Nat) (ii:Int) (V:Value),k<=n/\i=.int .i64 ii/\ii=(n:Int)-1-(k:Int)/\V=D/\WrI w wr w.heap.size N n V k)
  (fun _ i _=>(intOf i+1).toNat)
 case atStart=>exact⟨0,_,_,by omega,rfl,by omega,rfl,H0'.out⟩
 case round =>
  obtain⟨k,ii,V,hk,rfl,hii,rfl,hr⟩:=hrel
  by_cases hlt:k<n
  · obtain ⟨t, rfl⟩ : ∃ t : Nat, ii = (t : Int) := ⟨ii.toNat, by omega⟩
    have htn:n-1-k=t:=by omega
    obtain⟨b,off,rfl,hb,hcc⟩:=HS.out.at (show 0<n by omega)
    have hct:=(hr.below.cell (p:=⟨b,off+t,none⟩) hb).trans (hcc t (by omega));have hft:=HF.out t (by omega);rw[hft]at hct;have hxl:d10 N t<10:=Nat.mod_lt _ (by omega);obtain⟨x,hx⟩:∃x,d10 N t=x:=⟨_,rfl⟩
    rw[hx]at hct hxl;obtain⟨y,hy⟩:∃y,48+x=y:=⟨_,rfl⟩
    have e2:(48:Int)+(x:Int)=(y:Int):=by omega
    have e3:(y:Int)%256=(y:Int):=by omega
    have hyd:y=dg N (n-1-k):=by rw[htn,dg_d10,hx,hy]
    have HYD:=Lib.hid hyd;have HR:=Lib.hid hr;have HII:=Lib.hid hii;have ht0:(0:Int)<=(t:Int):=by omega
    have ht1:(t:Int)<(n:Int):=by omega
    have hzr:w.heap.size<=wr.heap.size:=hr.below.size;clear hr hcc hft hx hy hyd htn hii
    go_wp2_with (at_builtin;refine wpList_append_own _ rfl _ _ 175 rfl w.heap.size 5 i0 (.int .u8 0) 1 1 Tryz.underlying175 HI.out hz0 hz1 hz2 rfl (by decide) _ _ _ rfl (World.ownsRow.alloc HR.out.own _) ⟨wr.heap.size,0,none⟩ 1 1 [.int .u8 y] rfl rfl ?c1 ?c2 ?c3 ?c4 ?c5 ?_)
    case c1 =>
     intro j u hj
     match j,hj with
     | 0,hj=>simp at hj;subst hj;simp[Addr.add]
    case c2=>intro u hu;simp at hu;subst hu;rfl
    case c3=>unfold maxLen;omega
    case c4=>omega
    case c5=>rw[World.size_alloc];omega
    · intro v' w5 hown' hgrow _;have hb5:Below w.heap.size w w5:=(HR.out.below.alloc hzr _).grown hgrow (by rw[World.size_alloc];omega) (fun q hq=>(World.ownsRow.lt HR.out.own q hq).1)
      have hown2:OwnL w5 w.heap.size 5 .u8 v' (k+1) (fun j=>dg N (n-1-j)):=by
       rw[cl_snoc,cl_congr (g:=fun j=>dg N (n-1-j)) (fun j hj=>by
        by_cases e:j=k
        · rw[if_pos e,HYD.out,e]
        · rw[if_neg e])]at hown'
       exact hown'
      have HG5:=Lib.hid (show WrI w w5 w.heap.size N n v' (k+1)from⟨hb5,hown2⟩);clear hown' hgrow hb5 hown2;go_wp2
      go_roundw
      case rel =>
       have:=HII.out;exact⟨k+1,(t:Int)-1,v',by omega,rfl,by omega,rfl,HG5.out⟩
      case measure=>simp[intOf]
  · obtain rfl : k = n := by omega
    have d1:decide ((0:Int)<=ii)=false:=decide_eq_false (by omega);have hii2:¬(0:Int)<=ii:=by omega
    have hbl:=hr.below
    rcases hr.own.cases with ⟨hV,hk0⟩|⟨g,c2,rfl,hc2,hgb,hgl,hgc,hgf⟩
    · subst hk0;have h0:N=0:=by have:=HN.out;simp at this;omega
      subst h0;subst hV;have HB:=Lib.hid hbl;clear hr hbl hii;go_wp2;go_ret;exact⟨by rw[dec_zero];rfl,HB.out⟩
    · by_cases hk0 : k = 0
      · subst hk0;have h0:N=0:=by have:=HN.out;simp at this;omega
        subst h0;have HB:=Lib.hid hbl;clear hr hbl hii hgc hgf;go_wp2;go_ret;exact⟨by rw[dec_zero];rfl,HB.out⟩
      · have d2:((k:Int)==0)=false:=by rw[beq_eq_false_iff_ne];omega
        have hcv:=run_convert_bytes_arg (P:=Tryz.prog) (w:=wr) 175 5 Tryz.underlying175 Tryz.underlying5 g 0 k c2 ((List.range k).map fun j=>((dg N (k-1-j):Nat):Int)) (by simp) (fun j hj=>by rw[hgc j hj];simp[hj]) 9 Tryz.underlying9
        have hst:strOfNums ((List.range k).map fun j=>((dg N (k-1-j):Nat):Int))=str (sdig N k):=by
         refine str_of ?_;rw[strOfNums_data]
         apply List.ext_getElem?
         intro j
         by_cases hj:j<k
         · rw[sdig_get N k j hj,List.getElem?_map,List.getElem?_map,List.getElem?_range hj];simp only[Option.map_some];rw[Int.toNat_natCast];rfl
         · rw[List.getElem?_eq_none (by simp;omega),List.getElem?_eq_none (by rw[sdig_length];omega)]
        rw[hst]at hcv;have HT:=Lib.hid (trim_any N k wr (by omega) HN.out (by omega));have HB:=Lib.hid hbl;clear hr hbl hii hgc hgf hst;go_wp2_with fail;go_at_call 111;refine HT.out.mono ?_;rintro e w7 ⟨rfl,rfl⟩;clear hcv;go_wp2;go_ret;exact⟨rfl,HB.out⟩
structure OfI(w wr:World)(X:Nat)(V:Value)(k:Nat):Prop where
 below:Below w.heap.size w wr
 own:OwnL wr w.heap.size 3 .i64 V k (d10 X)
theorem rof_any(X:Nat)(w:World)(hX:X<18446744073709551616):Calls Tryz.prog 174 #[.int .u64 X] w fun e w'=>e=.returned (.string (str (dec X)))/\Below w.heap.size w w':=by
 obtain⟨i0,hi,hz0,hz1,hz2⟩:=info_parts infoI
 by_cases h0:X=0
 · subst h0;go_enter Tryz.func174,Tryz.ntmps174;go_wp2;go_ret;exact⟨by rw[dec_zero];rfl,Below.refl _ _⟩
 have HX:Hid (X<10^20):=by show _<_;omega
 have H0:OfI w w X (.slice none 0 0) 0:=⟨Below.refl _ _,World.ownsRow_nil _ _ _ _⟩
 have d0:((X:Int)==0)=false:=by rw[beq_eq_false_iff_ne];omega
 have HI:=Lib.hid hi;have HXL:=Lib.hid hX;clear hi;go_enter Tryz.func174,Tryz.ntmps174;go_wp2
 go_loopw [0,3,4] (fun x D i wr=>∃(k y:Nat) (V:Value),k<=20/\i=.int .i64 k/\x=.int .u64 y/\Hid (y=X / 10^k)/\y<18446744073709551616/\V=D/\OfI w wr X V k)
  (fun _ _ i _=>20-(intOf i).toNat)
 case atStart=>exact⟨0,X,_,by omega,rfl,rfl,(by show _=_;simp),hX,rfl,H0⟩
 case round =>
  obtain⟨k,y,V,hk,rfl,rfl,hy,hyl,rfl,hr⟩:=hrel
  by_cases hlt:k<20/\0<y
  · obtain ⟨hlt, hy0⟩ := hlt; obtain ⟨x, hx⟩ : ∃ x, y % 10 = x := ⟨_, rfl⟩
    obtain⟨y',hy'⟩:∃y',y / 10=y':=⟨_,rfl⟩
    have e1:(y:Int)%10=(x:Int):=by omega
    have e2:(y:Int) / 10=(y':Int):=by omega
    have hxd:x=d10 X k:=by unfold d10;rw[← hx,hy.out]
    have hyn:Hid (y'=X / 10^(k+1)):=by show _=_;rw[← hy',hy.out,Nat.div_div_eq_div_mul,← Nat.pow_succ]
    have HXD:=Lib.hid hxd;have HR:=Lib.hid hr;have hxl:x<10:=by omega
    have hyl':y'<18446744073709551616:=by omega
    have hzr:w.heap.size<=wr.heap.size:=hr.below.size;have d1:decide ((0:Int)<(y:Int))=true:=decide_eq_true (by omega);clear hr hx hy' hxd hy
    go_wp2_with (at_builtin;refine wpList_append_own _ rfl _ _ 22 rfl w.heap.size 3 i0 (.int .i64 0) 1 8 Tryz.underlying22 HI.out hz0 hz1 hz2 rfl (by decide) _ _ _ rfl (World.ownsRow.alloc HR.out.own _) ⟨wr.heap.size,0,none⟩ 1 1 [.int .i64 x] rfl rfl ?c1 ?c2 ?c3 ?c4 ?c5 ?_)
    case c1 =>
     intro j u hj
     match j,hj with
     | 0,hj=>simp at hj;subst hj;simp[Addr.add]
    case c2=>intro u hu;simp at hu;subst hu;rfl
    case c3=>unfold maxLen;omega
    case c4=>omega
    case c5=>rw[World.size_alloc];omega
    · intro v' w5 hown' hgrow _;have hb5:Below w.heap.size w w5:=(HR.out.below.alloc hzr _).grown hgrow (by rw[World.size_alloc];omega) (fun q hq=>(World.ownsRow.lt HR.out.own q hq).1)
      have hown2:OwnL w5 w.heap.size 3 .i64 v' (k+1) (d10 X):=by
       rw[cl_snoc,cl_congr (g:=d10 X) (fun j hj=>by
        by_cases e:j=k
        · rw[if_pos e,HXD.out,e]
        · rw[if_neg e])]at hown'
       exact hown'
      have HG5:=Lib.hid (show OfI w w5 X v' (k+1)from⟨hb5,hown2⟩);clear hown' hgrow hb5 hown2;go_wp2
      go_roundw
      case rel=>exact⟨k+1,y',v',by omega,by go_num,rfl,hyn,hyl',rfl,HG5.out⟩
      case measure=>simp[intOf];omega
  · have hlow:X<10^k:=by
      by_cases hk20:k=20
      · subst hk20;exact HX.out
      · have:X / 10^k=0:=by have:=hy.out;omega
        rcases Nat.lt_or_ge X (10^k)with h|h
        · exact h
        · have:=Nat.div_pos h (Nat.pow_pos (show 0<10 by omega));omega
    obtain⟨a,c,rfl,hsa,_⟩:=hr.own.slAt (m:=10) (fun j _=>Nat.mod_lt _ (by omega)) (by omega);have HW:=Lib.hid (written_any a k c (d10 X) X wr hsa (fun _ _=>rfl) hlow);have HB:=Lib.hid hr.below;clear hsa hr hlow hy
    by_cases hk20:k<20
    · have d1:decide ((0:Int)<(y:Int))=false:=decide_eq_false (by omega)
      go_wp2_with (go_at_call 218;refine HW.out.mono ?_;rintro e w7 ⟨rfl,hb7⟩)
      go_ret;exact⟨rfl,HB.out.trans (hb7.mono HB.out.size)⟩
    · go_wp2_with (go_at_call 218;refine HW.out.mono ?_;rintro e w7 ⟨rfl,hb7⟩)
      go_ret;exact⟨rfl,HB.out.trans (hb7.mono HB.out.size)⟩
theorem right_any(s:ByteArray)(w:World)(hs:s.size<=maxLen):Calls Tryz.prog 110 #[.string s] w fun e w'=>e=.returned (.bool (okB s.data.toList))/\w=w':=by
 have hsl:s.data.toList.length=s.size:=rfl;unfold maxLen at hs;obtain⟨b,hb⟩:∃b,okB s.data.toList=b:=⟨_,rfl⟩
 rw[hb];have HB:=Lib.hid hb;have HSL:=Lib.hid hsl;clear hb hsl;go_enter Tryz.func110,Tryz.ntmps110;go_wp2
 go_loop [3] (fun i=>∃k:Nat,k<=s.size/\k<=2001/\i=.int .i64 k/\Hid (∀c ∈ s.data.toList.take k,48<=c.toNat/\c.toNat<=57))
  (fun i=>s.size-(intOf i).toNat)
 case atStart=>exact⟨0,by omega,by omega,rfl,by show ∀c ∈ _,_;simp⟩
 case round =>
  obtain⟨k,hk,hk2,rfl,hdg⟩:=hrel
  by_cases hlt:k<s.size
  · have d0 : decide ((k : Int) < (s.size : Int)) = true := decide_eq_true (by omega)
    by_cases h2k:k<=2000
    · have d1 : decide ((k : Int) <= 2000) = true := decide_eq_true (by omega); have hsn := take_snoc s k hlt; obtain ⟨c, hc⟩ : ∃ c, s[k] = c := ⟨_, rfl⟩
      rw[hc]at hsn
      have hbad:¬(48<=c.toNat/\c.toNat<=57)->b=false:=by
       intro hdc;rw[← HB.out]
       cases hk:okB s.data.toList
       · rfl
       · exfalso
         have:=(okB_digs hk).2.2 c (List.mem_of_mem_take (by rw[hsn];exact List.mem_append_right _ List.mem_cons_self));exact hdc this
      by_cases hdc:48<=c.toNat/\c.toNat<=57
      · have t1:decide ((c.toNat:Int)<48)=false:=decide_eq_false (by omega);have t2:decide ((57:Int)<(c.toNat:Int))=false:=decide_eq_false (by omega)
        have hnx:Hid (∀c ∈ s.data.toList.take (k+1),48<=c.toNat/\c.toNat<=57):=by
         intro x hx;rw[hsn]at hx
         rcases List.mem_append.1 hx with h|h
         · exact hdg.out x h
         · rw[List.mem_singleton.1 h];exact hdc
        clear hsn hbad hdc;go_wp2
        go_round
        case rel=>exact⟨k+1,by omega,by omega,by go_num,hnx⟩
        case measure=>simp[intOf];omega
      · have hbf:=Lib.hid (hbad hdc);clear hsn hbad
        by_cases h48:c.toNat<48
        · have t1:decide ((c.toNat:Int)<48)=true:=decide_eq_true (by omega);clear hdc;go_wp2;go_ret;exact⟨by rw[hbf.out];rfl,rfl⟩
        · have t1:decide ((c.toNat:Int)<48)=false:=decide_eq_false (by omega);have t2:decide ((57:Int)<(c.toNat:Int))=true:=decide_eq_true (by omega);clear hdc;go_wp2;go_ret;exact⟨by rw[hbf.out];rfl,rfl⟩
    · have d1 : decide ((k : Int) <= 2000) = false := decide_eq_false (by omega)
      have hbf:Hid (b=false):=by
       show _=_
       rw[← HB.out]
       cases hk:okB s.data.toList
       · rfl
       · exfalso
         have:=(okB_digs hk).2.1;rw[HSL.out]at this;omega
      have d3:decide ((1:Int)<=(s.size:Int))=true:=decide_eq_true (by omega);have d4:decide ((s.size:Int)<=2000)=false:=decide_eq_false (by omega);go_wp2;go_ret;exact⟨by rw[hbf.out];rfl,rfl⟩
  · obtain rfl : k = s.size := by omega
    have d0:decide ((s.size:Int)<(s.size:Int))=false:=decide_eq_false (by omega)
    by_cases h1:1<=s.size
    · have d3 : decide ((1 : Int) <= (s.size : Int)) = true := decide_eq_true (by omega)
      by_cases h4:s.size<=2000
      · have d4:decide ((s.size:Int)<=2000)=true:=decide_eq_true (by omega)
        have hbf:Hid (b=true):=by
         show _=_
         rw[← HB.out];refine okB_mk (by rw[HSL.out];omega) (by rw[HSL.out];omega) ?_;have:=hdg.out;rw[List.take_of_length_le (by rw[HSL.out];omega)]at this;exact this
        go_wp2;go_ret;exact⟨by rw[hbf.out];rfl,rfl⟩
      · have d4 : decide ((s.size : Int) <= 2000) = false := decide_eq_false (by omega)
        have hbf:Hid (b=false):=by
         show _=_
         rw[← HB.out]
         cases hk:okB s.data.toList
         · rfl
         · exfalso
           have:=(okB_digs hk).2.1;rw[HSL.out]at this;omega
        go_wp2;go_ret;exact⟨by rw[hbf.out];rfl,rfl⟩
    · have d3 : decide ((1 : Int) <= (s.size : Int)) = false := decide_eq_false (by omega)
      have hbf:Hid (b=false):=by
       show _=_
       rw[← HB.out]
       cases hk:okB s.data.toList
       · rfl
       · exfalso
         have:=(okB_digs hk).1;rw[HSL.out]at this;omega
      go_wp2;go_ret;exact⟨by rw[hbf.out];rfl,rfl⟩
theorem digit_any(N n i:Nat)(w:World)(hN:N<10^n)(hn:n<=10000000)(hi:i<=100000000):Calls Tryz.prog 231 #[.string (str (sdig N n)),.int .i64 i] w fun e w'=>e=.returned (.int .i64 (d10 N i))/\w=w':=by
 obtain⟨s,hs⟩:∃s,str (sdig N n)=s:=⟨_,rfl⟩
 have hsz:s.size=n:=by rw[← hs,str_size,sdig_length]
 rw[hs]
 by_cases h:i<n
 · obtain ⟨k, hk⟩ : ∃ k, n - 1 - i = k := ⟨_, rfl⟩
   have hks:k<s.size:=by omega
   have hc:s[k].toNat=48+d10 N i:=by
    have h1:=sdig_get N n k (by omega);rw[show n-1-k=i by omega]at h1
    have h2:s[k]=dgt N i:=by
     subst hs
     have h3:(sdig N n)[k]? = some ((str (sdig N n))[k]):=by
      rw[List.getElem?_eq_getElem (by rw[sdig_length];omega)];rfl
     rw[h3]at h1;exact Option.some.inj h1
    rw[h2,dgt_toNat];rfl
   obtain⟨c,hcc⟩:∃c,s[k]=c:=⟨_,rfl⟩
   rw[hcc]at hc;obtain⟨x,hx⟩:∃x,d10 N i=x:=⟨_,rfl⟩
   have hxl:x<10:=by rw[← hx];exact Nat.mod_lt _ (by omega)
   rw[hx]at hc ⊢;have e1:(s.size:Int)-1-(i:Int)=(k:Int):=by omega
   have e2:(c.toNat:Int)-48=(x:Int):=by omega
   have e3:(x:Int)%256=(x:Int):=by omega
   have e4:(48:Int)<=(c.toNat:Int):=by omega
   have d0:decide ((s.size:Int)<=(i:Int))=false:=decide_eq_false (by omega);have i1:(k:Int)<(s.size:Int):=by omega
   have h':i<s.size:=by omega
   have hsb:s.size<=10000000:=by omega
   clear hs hx hc hk hsz hN;go_enter Tryz.func231,Tryz.ntmps231;go_wp2;go_ret;exact⟨rfl,rfl⟩
 · have hz:d10 N i=0:=by
     unfold d10;have:=Nat.pow_le_pow_right (show 0<10 by omega) (show n<=i by omega);rw[Nat.div_eq_of_lt (by omega)]
   rw[hz];have d0:decide ((s.size:Int)<=(i:Int))=true:=decide_eq_true (by omega);have h':s.size<=i:=by omega
   clear hs hsz hN hz;go_enter Tryz.func231,Tryz.ntmps231;go_wp2;go_ret;exact⟨rfl,rfl⟩
def carry(x y i:Nat):Nat:=(x%10^i+y%10^i) / 10^i
theorem carry_zero(x y:Nat):carry x y 0=0:=by simp[carry,Nat.mod_one]
theorem carry_step(x y i:Nat):(d10 x i+d10 y i+carry x y i)%10=d10 (x+y) i/\(d10 x i+d10 y i+carry x y i) / 10=carry x y (i+1):=by
 have hp:0<10^i:=Nat.pow_pos (by omega);have hx:x%10^(i+1)=x%10^i+10^i*d10 x i:=by unfold d10;rw[Nat.pow_succ,Nat.mod_mul]
 have hy:y%10^(i+1)=y%10^i+10^i*d10 y i:=by unfold d10;rw[Nat.pow_succ,Nat.mod_mul]
 have hs:(x%10^(i+1)+y%10^(i+1)) / 10^i=d10 x i+d10 y i+carry x y i:=by
  rw[hx,hy];unfold carry;rw[show x%10^i+10^i*d10 x i+(y%10^i+10^i*d10 y i)=(x%10^i+y%10^i)+10^i*(d10 x i+d10 y i)by rw[Nat.mul_add];omega,Nat.add_mul_div_left _ _ hp]
  omega
 constructor
 · rw[← hs];unfold d10;have e1:=Nat.div_add_mod x (10^(i+1));have e2:=Nat.div_add_mod y (10^(i+1))
   have:x+y=x%10^(i+1)+y%10^(i+1)+10^i*(10*(x / 10^(i+1)+y / 10^(i+1))):=by
    have e3:10^i*(10*(x / 10^(i+1)+y / 10^(i+1)))=10^(i+1)*(x / 10^(i+1))+10^(i+1)*(y / 10^(i+1)):=by rw[← Nat.mul_assoc,← Nat.pow_succ,Nat.mul_add]
    omega
   rw[this,Nat.add_mul_div_left _ _ hp]
   omega
 · rw[← hs,Nat.div_div_eq_div_mul,← Nat.pow_succ];rfl
structure SumI(w wr:World)(Z:Nat)(V:Value)(k:Nat):Prop where
 below:Below w.heap.size w wr
 own:OwnL wr w.heap.size 3 .i64 V k (d10 Z)
theorem cell_one_at(w:World)(x:Value)(t:TypeId):∀j u, [x][j]? = some u->(w.alloc (.cells #[x] t)).cell? ((⟨w.heap.size,0,none⟩:Addr).add j)=some u:=by
 intro j u hj
 match j,hj with
 | 0,hj=>simp at hj;subst hj;simp[Addr.add]
theorem one_cell_list(k:IntKind)(x:Int):∀u ∈ [Value.int k x],u.oneCell'=true:=by
 intro u hu;simp at hu;subst hu;rfl
theorem sum_next {w wr w5 : World} {Z : Nat} {V v' : Value} {k r : Nat} {o : Obj} (h : SumI w wr Z V k) (hown : w5.ownsRow w.heap.size 3 1 v' (k + 1) (cl .i64 (d10 Z) k ++ [.int .i64 r])) (hg : (wr.alloc o).grownBy w5 V.ownBlock)
    (hz:w.heap.size<=wr.heap.size) (hr:r=d10 Z k):SumI w w5 Z v' (k+1):=by
 refine⟨(h.below.alloc hz _).grown hg (by rw[World.size_alloc];omega) (fun q hq=>(World.ownsRow.lt h.own q hq).1),?_⟩
 rw[cl_snoc,cl_congr (g:=d10 Z) (fun j hj=>by
  by_cases e:j=k
  · rw[if_pos e,hr,e]
  · rw[if_neg e])]at hown
 exact hown
theorem numOf_sdig(N:Nat):∀n,numOf (sdig N n)=N%10^n
 | 0=>by simp[sdig,numOf,Nat.mod_one]
 | n+1=>by
  rw[sdig,numOf,numOf_sdig N n,sdig_length,dgt_toNat,Nat.pow_succ,Nat.mod_mul];rw[Nat.add_sub_cancel_left,Nat.mul_comm (N / 10^n%10)]
  omega
theorem sdig_inj{x y n:Nat}(hx:x<10^n)(hy:y<10^n)(h:sdig x n=sdig y n):x=y:=by
 have:=congrArg numOf h;rw[numOf_sdig,numOf_sdig,Nat.mod_eq_of_lt hx,Nat.mod_eq_of_lt hy]at this;exact this
theorem less_sdig (x y : Nat) : ∀ n, Op.bytesLess (sdig x n) (sdig y n) = decide (x % 10 ^ n < y % 10 ^ n)
 | 0=>by simp[sdig,Op.bytesLess,Nat.mod_one]
 | n+1=>by
  rw[sdig,sdig,Op.bytesLess,less_sdig x y n,Nat.pow_succ,Nat.mod_mul,Nat.mod_mul];have hp:0<10^n:=Nat.pow_pos (by omega);have hx:=Nat.mod_lt x hp;have hy:=Nat.mod_lt y hp
  have e1:(dgt x n<dgt y n)↔x / 10^n%10<y / 10^n%10:=by
   rw[UInt8.lt_iff_toNat_lt,dgt_toNat,dgt_toNat];omega
  have e2:(dgt x n=dgt y n)↔x / 10^n%10=y / 10^n%10:=by
   rw[← UInt8.toNat_inj,dgt_toNat,dgt_toNat];omega
  generalize x / 10^n%10=a at *;generalize y / 10^n%10=b at *;generalize x%10^n=u at *;generalize y%10^n=v at *;generalize 10^n=P at *;rw[Bool.eq_iff_iff];simp only[Bool.or_eq_true,decide_eq_true_eq,Bool.and_eq_true,beq_iff_eq,e1,e2]
  rcases Nat.lt_trichotomy a b with h|h|h
  · have h3:=Nat.mul_le_mul_left P (show a+1<=b from h);rw[Nat.mul_add]at h3
    constructor
    · intro _;omega
    · intro _;exact .inl h
  · subst h
    constructor
    · rintro(h|⟨_,h⟩)<;>omega
    · intro h;exact .inr ⟨rfl,by omega⟩
  · have h3:=Nat.mul_le_mul_left P (show b+1<=a from h);rw[Nat.mul_add]at h3
    constructor
    · rintro(h1|⟨h1,_⟩)<;>omega
    · intro h1;omega
theorem dl_mono_lt{x y:Nat}(h:dl x<dl y):x<y:=by
 have h1:=dl_lt x
 have hy:0<y:=by
  rcases Nat.eq_zero_or_pos y with h0|h0
  · subst h0;have e:dl 0=1:=by unfold dl;rfl
    have:=dl_pos x;omega
  · exact h0
 have h2:=dl_low hy;have:=Nat.pow_le_pow_right (show 0<10 by omega) (show dl x<=dl y-1 by omega)
 omega
theorem rcmp_any(x y:Nat)(w:World)(hx:dl x<=100000)(hy:dl y<=100000):Calls Tryz.prog 188 #[.string (str (dec x)),.string (str (dec y))] w fun e w'=>e=.returned (.int .i64 (cmpI x y))/\w=w':=by
 have hs1:(str (dec x)).size=dl x:=by rw[str_size];exact sdig_length _ _
 have hs2:(str (dec y)).size=dl y:=by rw[str_size];exact sdig_length _ _
 have ht1:(str (dec x)).toList=dec x:=by rw[ByteArray.toList_eq];rfl
 have ht2:(str (dec y)).toList=dec y:=by rw[ByteArray.toList_eq];rfl
 by_cases hl:dl x=dl y
 · have hle : dec y = sdig y (dl x) := by unfold dec; rw [hl]
   have hb:Op.bytesLess (str (dec x)).toList (str (dec y)).toList=decide (x<y):=by
    rw[ht1,ht2,hle];unfold dec;rw[less_sdig,Nat.mod_eq_of_lt (dl_lt x),Nat.mod_eq_of_lt (by rw[hl];exact dl_lt y)]
   have heq:((str (dec x)).toList==(str (dec y)).toList)=decide (x=y):=by
    rw[ht1,ht2,hle,Bool.eq_iff_iff,beq_iff_eq,decide_eq_true_eq];unfold dec;exact⟨fun h=>sdig_inj (dl_lt x) (by rw[hl];exact dl_lt y) h,fun h=>by rw[h]⟩
   have hn:(((str (dec x)).size:Int) != ((str (dec y)).size:Int))=false:=by rw[hs1,hs2,hl];simp
   have hss:(str (dec x)).size=(str (dec y)).size:=by omega
   have hsb:(str (dec x)).size<=100000:=by omega
   clear hs1 hs2 ht1 ht2 hle hl;generalize str (dec x)=s at *;generalize str (dec y)=t at *
   by_cases h1:x=y
   · have hr:Hid (cmpI x y=0):=by show _=_;unfold cmpI;rw[if_neg (by omega),if_pos h1]
     rw[decide_eq_true h1]at heq;clear hb hx hy h1;have HSS:=Lib.hid hss;clear hss;go_enter Tryz.func188,Tryz.ntmps188;go_wp2;go_ret;exact⟨ret_int hr.out.symm,rfl⟩
   · rw[decide_eq_false h1]at heq;have HSS:=Lib.hid hss;clear hss
     by_cases h2:x<y
     · have hr:Hid (cmpI x y = -1):=cmp_neg h2;rw[decide_eq_true h2]at hb;clear hx hy h1 h2;go_enter Tryz.func188,Tryz.ntmps188;go_wp2;go_ret;exact⟨ret_int hr.out.symm,rfl⟩
     · have hr:Hid (cmpI x y=1):=by show _=_;unfold cmpI;rw[if_neg h2,if_neg h1]
       rw[decide_eq_false h2]at hb;clear hx hy h1 h2;go_enter Tryz.func188,Tryz.ntmps188;go_wp2;go_ret;exact⟨ret_int hr.out.symm,rfl⟩
 · have hn:(((str (dec x)).size:Int) != ((str (dec y)).size:Int))=true:=by rw[hs1,hs2];simp;omega
   have hsb:(str (dec x)).size<=100000/\(str (dec y)).size<=100000:=by omega
   have hne:¬(str (dec x)).size=(str (dec y)).size:=by omega
   have hc:((str (dec x)).size<(str (dec y)).size->cmpI x y = -1)/\(¬(str (dec x)).size<(str (dec y)).size->cmpI x y=1):=by
    rw[hs1,hs2];refine⟨fun h=>cmp_neg (dl_mono_lt h),fun h => ?_⟩;have:=dl_mono_lt (show dl y<dl x by omega);unfold cmpI;rw[if_neg (by omega),if_neg (by omega)]
   clear hs1 hs2 ht1 ht2 hl hx hy;generalize str (dec x)=s at *;generalize str (dec y)=t at *;obtain⟨hb1,hb2⟩:=hsb
   by_cases h:s.size<t.size
   · have hr:=Lib.hid (hc.1 h);have d1:decide ((s.size:Int)<(t.size:Int))=true:=decide_eq_true (by omega);clear hc hne;go_enter Tryz.func188,Tryz.ntmps188;go_wp2;go_ret;exact⟨ret_int hr.out.symm,rfl⟩
   · have hr:=Lib.hid (hc.2 h);have d1:decide ((s.size:Int)<(t.size:Int))=false:=decide_eq_false (by omega);clear hc hne;go_enter Tryz.func188,Tryz.ntmps188;go_wp2;go_ret;exact⟨ret_int hr.out.symm,rfl⟩
theorem rsub_any (x n y m : Nat) (w : World) (hx : x < 10 ^ n) (hy : y < 10 ^ m) (hn : n <= 1000) (hm : m <= 1000) (hxy : y <= x) :
    Calls Tryz.prog 196 #[.string (str (sdig x n)),.string (str (sdig y m))] w fun e w'=>e=.returned (.string (str (dec (x-y))))/\Below w.heap.size w w':=by
 obtain⟨i0,hi,hz0,hz1,hz2⟩:=info_parts infoI;have DX:=Lib.hid (fun i (h:i<=100000000) wz=>digit_any x n i wz hx (by omega) h);have DY:=Lib.hid (fun i (h:i<=100000000) wz=>digit_any y m i wz hy (by omega) h);have hs1:(str (sdig x n)).size=n:=by rw[str_size,sdig_length]
 generalize str (sdig x n)=s at *;generalize str (sdig y m)=t at *;obtain⟨z,hz⟩:∃z,x-y=z:=⟨_,rfl⟩
 have hyz:y+z=x:=by omega
 have HZN:Hid (z<10^n):=by show _<_;omega
 rw[hz];have H0:SumI w w z (.slice none 0 0) 0:=⟨Below.refl _ _,World.ownsRow_nil _ _ _ _⟩
 have HI:=Lib.hid hi;have HC0:Hid (0=carry y z 0):=(carry_zero y z).symm;have hL:s.size<=1000:=by omega
 have HS1:=Lib.hid hs1;have HYZ:=Lib.hid hyz;clear hi hx hy hs1 hn hm hz hyz hxy;go_enter Tryz.func196,Tryz.ntmps196;go_wp2
 go_loopw [5,6,7] (fun D c i wr=>∃(k cy:Nat) (V:Value),k<=s.size/\i=.int .i64 k/\cy<=1/\c=.int .i64 cy/\Hid (cy=carry y z k)/\V=D/\SumI w wr z V k)
  (fun _ _ i _=>s.size-(intOf i).toNat)
 case atStart=>exact⟨0,0,_,by omega,rfl,by omega,rfl,HC0,rfl,H0⟩
 case round =>
  obtain⟨k,cy,V,hk,rfl,hcy,rfl,hcc,rfl,hr⟩:=hrel
  by_cases c1:k<s.size
  · obtain⟨dx,hdx⟩:∃dx,d10 x k=dx:=⟨_,rfl⟩
    obtain⟨dy,hdy⟩:∃dy,d10 y k=dy:=⟨_,rfl⟩
    obtain⟨dz,hdz⟩:∃dz,d10 z k=dz:=⟨_,rfl⟩
    have CX:=DX.out k (by omega);have CY:=DY.out k (by omega);rw[hdx]at CX;rw[hdy]at CY;have hdyl:dy<10:=by rw[← hdy];exact Nat.mod_lt _ (by omega)
    have hdzl:dz<10:=by rw[← hdz];exact Nat.mod_lt _ (by omega)
    obtain⟨q1,q2⟩:=carry_step y z k;rw[HYZ.out,hdy,hdz,← hcc.out,hdx]at q1;rw[hdy,hdz,← hcc.out]at q2;have CX':=Lib.hid CX;have CY':=Lib.hid CY;have Q1:=Lib.hid hdz.symm;have HR:=Lib.hid hr;have hzr:w.heap.size<=wr.heap.size:=hr.below.size;have d1:decide ((k:Int)<(s.size:Int))=true:=decide_eq_true (by omega)
    by_cases hsm:dy+dz+cy<10
    · have e1:(dx:Int)-(dy:Int)-(cy:Int)=(dz:Int):=by omega
      have HNX:Hid (0=carry y z (k+1)):=by show _=_;rw[← q2];omega
      have d2:decide ((dz:Int)<0)=false:=decide_eq_false (by omega);clear hr q1 q2 CX CY hdx hdy hdz hsm hcc;go_wp2_with fail;go_at_call 231;refine(CX'.out wr).mono ?_;rintro e w2 ⟨rfl,rfl⟩;go_wp2_with fail;go_at_call 231;refine(CY'.out wr).mono ?_;rintro e w2 ⟨rfl,rfl⟩
      go_wp2_with (at_builtin;refine wpList_append_own _ rfl _ _ 22 rfl w.heap.size 3 i0 (.int .i64 0) 1 8 Tryz.underlying22 HI.out hz0 hz1 hz2 rfl (by decide) _ _ _ rfl (World.ownsRow.alloc HR.out.own _) ⟨wr.heap.size,0,none⟩ 1 1 [.int .i64 dz] rfl rfl (cell_one_at _ _ _) (one_cell_list _ _) (by unfold maxLen;omega) (by omega) (by rw[World.size_alloc];omega) ?_;intro v' w5 hown' hgrow _)
      have HG5:=Lib.hid (sum_next HR.out hown' hgrow hzr Q1.out);clear hown' hgrow;go_wp2
      go_roundw
      case rel=>exact⟨k+1,0,v',by omega,by go_num,by omega,rfl,HNX,rfl,HG5.out⟩
      case measure=>simp[intOf];omega
    · have e1:(dx:Int)-(dy:Int)-(cy:Int)=(dz:Int)-10:=by omega
      have HNX:Hid (1=carry y z (k+1)):=by show _=_;rw[← q2];omega
      have d2:decide ((dz:Int)-10<0)=true:=decide_eq_true (by omega);have d3:(dz:Int)<10:=by omega
      have e2:(dz:Int)-10+10=(dz:Int):=by omega
      clear hr q1 q2 CX CY hdx hdy hdz hsm hcc;go_wp2_with fail;go_at_call 231;refine(CX'.out wr).mono ?_;rintro e w2 ⟨rfl,rfl⟩;go_wp2_with fail;go_at_call 231;refine(CY'.out wr).mono ?_;rintro e w2 ⟨rfl,rfl⟩
      go_wp2_with (at_builtin;refine wpList_append_own _ rfl _ _ 22 rfl w.heap.size 3 i0 (.int .i64 0) 1 8 Tryz.underlying22 HI.out hz0 hz1 hz2 rfl (by decide) _ _ _ rfl (World.ownsRow.alloc HR.out.own _) ⟨wr.heap.size,0,none⟩ 1 1 [.int .i64 dz] rfl rfl (cell_one_at _ _ _) (one_cell_list _ _) (by unfold maxLen;omega) (by omega) (by rw[World.size_alloc];omega) ?_;intro v' w5 hown' hgrow _)
      have HG5:=Lib.hid (sum_next HR.out hown' hgrow hzr Q1.out);clear hown' hgrow;go_wp2
      go_roundw
      case rel=>exact⟨k+1,1,v',by omega,by go_num,by omega,rfl,HNX,rfl,HG5.out⟩
      case measure=>simp[intOf];omega
  · obtain rfl:k=s.size:=by omega
    obtain⟨a,c,rfl,hsa,_⟩:=hr.own.slAt (m:=10) (fun j _=>Nat.mod_lt _ (by omega)) (by omega);have HW:=Lib.hid (written_any a s.size c (d10 z) z wr hsa (fun _ _=>rfl) (by rw[HS1.out];exact HZN.out));have HB:=Lib.hid hr.below;clear hsa hr
    go_wp2_with (go_at_call 218;refine HW.out.mono ?_;rintro e w7 ⟨rfl,hb7⟩)
    go_ret;exact⟨rfl,HB.out.trans (hb7.mono HB.out.size)⟩
theorem numOf_dec(N:Nat):numOf (dec N)=N:=by unfold dec;rw[numOf_sdig,Nat.mod_eq_of_lt (dl_lt N)]
def hor(g:Nat->Nat):Nat->Nat
 | 0=>0
 | k+1=>hor g k*1000000000+g k
theorem hor_congr{f g:Nat->Nat}:∀n,(∀j,j<n->f j=g j)->hor f n=hor g n
 | 0,_=>rfl
 | n+1,h=>by rw[hor,hor,hor_congr n (fun j hj=>h j (by omega)),h n (by omega)]
def GrpIs(wr:World)(base:Nat)(V:Value)(cnt X:Nat):Prop:=∃g,OwnL wr base 3 .i64 V cnt g/\(∀j,j<cnt->g j<1000000000)/\hor g cnt=X
theorem GrpIs.snoc{wr w5:World}{base:Nat}{V v':Value}{cnt X x:Nat}(h:GrpIs wr base V cnt X)(hx:x<1000000000)(hown:∀g,OwnL wr base 3 .i64 V cnt g->w5.ownsRow base 3 1 v' (cnt+1) (cl .i64 g cnt ++ [.int .i64 x])):GrpIs w5 base v' (cnt+1) (X*1000000000+x):=by
 obtain⟨g,h1,h2,h3⟩:=h;have:=hown g h1;rw[cl_snoc]at this
 refine⟨_,this,fun j hj => ?_,?_⟩
 · show(if j=cnt then x else g j)<_
   split
   · exact hx
   · exact h2 j (by omega)
 · rw[hor,if_pos rfl,hor_congr cnt (g:=g) (fun j hj=>if_neg (by omega)),h3]
theorem OwnL.mono{w:World}{base base':Nat}{e:TypeId}{ki:IntKind}{v:Value}{n:Nat}{f:Nat->Nat}(h:OwnL w base e ki v n f)(hb:base'<=base):OwnL w base' e ki v n f:=by
 refine⟨h.1,?_⟩
 rcases h.2 with h0|⟨g,cap,cur,h1,h2,h3⟩
 · exact .inl h0
 · exact .inr ⟨g,cap,cur,h1,by omega,h3⟩
theorem hor_succ(g:Nat->Nat)(k:Nat):hor g (k+1)=hor g k*1000000000+g k:=by rw[hor]
theorem hor_div(X x:Nat):(X%65536*1000000000+x)%65536=(X*1000000000+x)%65536/\X / 65536*1000000000+(X%65536*1000000000+x) / 65536=(X*1000000000+x) / 65536:=by
 constructor<;>omega
structure BitI(W0 wr:World)(g:Nat->Nat)(Q:Value)(c2 k:Nat):Prop where
 below:Below W0.heap.size W0 wr
 grp:GrpIs wr W0.heap.size Q c2 (hor g k / 65536)
 zero:c2=0↔hor g k / 65536=0
 len:c2<=k
theorem GrpIs.zero{wr:World}{base:Nat}{V:Value}{cnt X:Nat}(h:GrpIs wr base V cnt X)(h0:cnt=0):X=0:=by
 obtain⟨g,_,_,h3⟩:=h;subst h0;exact h3.symm
theorem BitI.next {W0 wr w5 : World} {g : Nat -> Nat} {Q v' : Value} {c2 k tt : Nat} (h : BitI W0 wr g Q c2 k) (htt : hor g k % 65536 * 1000000000 + g k = tt) (hq : tt / 65536 < 1000000000) (hb : Below W0.heap.size W0 w5)
    (hpos:0<c2∨0<tt / 65536)
    (hown:∀g',OwnL wr W0.heap.size 3 .i64 Q c2 g'->w5.ownsRow W0.heap.size 3 1 v' (c2+1) (cl .i64 g' c2 ++ [.int .i64 (tt / 65536:Nat)])):BitI W0 w5 g v' (c2+1) (k+1):=by
 have e:=(hor_div (hor g k) (g k)).2;rw[htt]at e;have hs:=h.grp.snoc (w5:=w5) (v':=v') hq hown;rw[e,← hor_succ]at hs;rw[← hor_succ]at e;refine⟨hb,hs,⟨fun h0=>by omega,fun h0 => ?_⟩,by have:=h.len;omega⟩
 exfalso
 have hz:hor g k / 65536*1000000000+tt / 65536=0:=by rw[e];exact h0
 rcases hpos with hp|hp
 · have:=h.zero.2 (by omega);omega
 · omega
theorem BitI.skip{W0 wr:World}{g:Nat->Nat}{Q:Value}{c2 k tt:Nat}(h:BitI W0 wr g Q c2 k)(htt:hor g k%65536*1000000000+g k=tt)(h0:c2=0)(h1:tt / 65536=0):BitI W0 wr g Q c2 (k+1):=by
 have e:=(hor_div (hor g k) (g k)).2;rw[htt,h1,h.zero.1 h0]at e
 have e2:hor g (k+1) / 65536=0:=by
  rw[hor_succ,← e,Nat.zero_mul]
 refine⟨h.below,?_,⟨fun _=>e2,fun _=>h0⟩,by have:=h.len;omega⟩;have:=h.grp;rw[h.zero.1 h0]at this;rw[e2];exact this
theorem GrpIs.fn {wr w5 : World} {base : Nat} {V : Value} {cnt : Nat} {v' : Value} {x : Nat} {g g' : Nat -> Nat} (h1 : OwnL wr base 3 .i64 V cnt g') (h2 : OwnL wr base 3 .i64 V cnt g)
    (hown':w5.ownsRow base 3 1 v' (cnt+1) (cl .i64 g cnt ++ [.int .i64 x])):w5.ownsRow base 3 1 v' (cnt+1) (cl .i64 g' cnt ++ [.int .i64 x]):=by
 have e:cl .i64 g' cnt=cl .i64 g cnt:=by
  rcases h1.2 with ⟨a1,a2⟩|⟨q1,c1,cu1,a1,_,a3,_,_,_,a4⟩
  · rw[a2];rfl
  · rcases h2.2 with ⟨b1,b2⟩|⟨q2,c2,cu2,b1,_,b3,_,_,_,b4⟩
    · rw[b2];rfl
    · rw[a1]at b1;simp only[Value.slice.injEq,Option.some.injEq,Addr.mk.injEq,and_true,true_and]at b1;obtain⟨rfl,_⟩:=b1;rw[a3]at b3;simp only[Option.some.injEq,Obj.cells.injEq,and_true]at b3;rw[← a4,← b4,b3]
 rw[e];exact hown'
end Go.Proofs.YtdmmenaejkpnjaaGreatDoor
