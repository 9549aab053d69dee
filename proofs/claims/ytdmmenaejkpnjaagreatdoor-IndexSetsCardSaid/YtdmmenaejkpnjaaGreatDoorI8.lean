/-
  Texts of this seat, laid together.
-/
import Derived.ProofKit
import Derived.Carry
import Derived.Deep.Strs
import Derived.OpenShut
import Derived.Deep.Slices
import Derived.Lib.SmallJoins
import Derived.Shelf.Abstract
import Derived.StillTailTactics
import Derived.Lib.AppendZeros
import Derived.Laws.EntriesVeiled
import Derived.Laws.OwnMore
import Derived.Deep.RegionHeld3
import Derived.Deep.QuietTactic
import Derived.BigQuiet
import Derived.Test.YtdmmenaejkpnjaaGreatDoorI7
set_option maxHeartbeats 12800000
set_option maxRecDepth 100000
set_option linter.unusedSimpArgs false
set_option linter.unusedVariables false
namespace Go.Proofs.YtdmmenaejkpnjaaGreatDoor
open Go.RowKit
attribute [local go_sem ↓] Go.wp_at_zero Go.wp_at_succ
theorem own_base{w:World}{b b':Nat}{e:TypeId}{size n:Nat}{v:Value}{xs:List Value}(h:w.ownsRow b e size v n xs)(hb:b'<=b):w.ownsRow b' e size v n xs:=by
 refine⟨h.1,h.2.imp id ?_⟩;rintro⟨g,cap,cur,e1,e2,e3⟩;exact⟨g,cap,cur,e1,by omega,e3⟩
def WhToldN(b:Bool)(n:Nat)(fP:Nat->Int)(w w':World)(e:Ending):Prop:=∃a m c,e=.returned (.tuple #[.slice a m c,.bool b])/\(if b then m=n/\OwnI w w' a n c fP else a=none/\m=0/\c=0)/\Below w.heap.size w w'
theorem r6WholeN_any (cs : Array Value) (S : Nat -> Int) (r : Nat) (ch : Bool) (g : Nat -> Int) (tn : Nat) (fB : Nat -> Bool) (fS fT : Nat -> ByteArray) (nn : Nat) (fP : Nat -> Int) (fQ : Nat -> Nat) (w : World) (h : PlnAt w cs S r ch g tn fB fS fT nn) (hN : NumOk fB fS fT fP fQ nn) (hn : nn <= 1000000) :
    Calls Tryz.prog 107 #[.agg cs] w fun e w'=>WhToldN (decide (tn=0)&&whB fP fQ nn) nn fP w w' e:=by
 obtain⟨sa,sc,ta,tc,na,nc,rfl,h1,h2,h3⟩:=h;have hl:=h3.len;have hl2:=h2.len;obtain⟨i0,hi,hz0,hz1,hz2⟩:=info_parts infoI;have BB:=Lib.hid (((Bag.start w).qrow h3).newRow (plC sa r sc ch ta tn tc na nn nc) 26)
 have IN:Hid (∀j,j<nn->∀wz,Calls Tryz.prog 131 #[.agg #[.bool (fB j),.string (fS j),.string (fT j)]] wz fun e w'=>e=.returned (.tuple #[.int .i64 (if fQ j=1 then fitI (fP j)else 0),.bool (decide (fQ j=1)&&fitB (fP j))])/\Below wz.heap.size wz w'):=fun j hj wz=>by
  obtain⟨e1,e2,e3,_,e4,e5⟩:=hN j hj;rw[e1,e2,e3];exact r3Int_any (fP j) (fQ j) wz (by omega)
 by_cases h0:tn=0
 · rw [decide_eq_true h0, Bool.true_and]; have d0 : ¬ ((0 : Int) < tn) := by omega
   unfold plC at BB;unfold plC;have H0:=Lib.hid BB.out.below;clear h1 h2 h3 hN h0;go_enter Tryz.func107,Tryz.ntmps107;go_wp2_with fail;generalize w.alloc (.cells #[.slice sa r sc,.bool ch,.slice ta tn tc,.slice na nn nc] 26)=y0 at *
   go_loopw [4,5] (fun v i wr=>∃(k:Nat) (a1:Option Addr) (c1:Nat),k<=nn/\i=.int .i64 k/\v=.slice a1 k c1/\Hid (Below y0.heap.size y0 wr/\wr.ownsRow y0.heap.size 3 1 (.slice a1 k c1) k (kcs .i64 fP k)/\whB fP fQ k=true)) (fun _ i _=>nn-(intOf i).toNat)
   case atStart=>exact⟨0,none,0,by omega,rfl,rfl,Below.refl _ _,World.ownsRow_nil _ _ _ _,rfl⟩
   case round =>
    obtain⟨k,a1,c1,hk,rfl,rfl,hrel⟩:=hrel;obtain⟨hbl,hown,hwh⟩:=hrel.out;have B4:=Lib.hid (BB.out.go hbl);obtain⟨x0,x1,x2,x3⟩:=pl_cells B4.out.now.1
    by_cases hlt:k<nn
    · obtain ⟨b, off, rfl, hb, c1', c2', c3'⟩ := B4.out.now.2.1.get hlt; have IK := Lib.hid (IN.out k hlt); have HBL := Lib.hid hbl; have HWH := Lib.hid hwh; have HOWN := Lib.hid hown; have hwr := hbl.size; clear hbl hown hwh
      by_cases hok:(decide (fQ k=1)&&fitB (fP k))=true
      · have hv:(if fQ k=1 then fitI (fP k)else 0)=fP k:=by
          rw[Bool.and_eq_true,decide_eq_true_eq]at hok;rw[if_pos hok.1];unfold fitI;rw[if_pos hok.2]
        have HW2:Hid (whB fP fQ (k+1)=true):=by show(whB fP fQ k&&_)=true;rw[HWH.out,hok];rfl
        have HMX:=Lib.hid (show k+1<=maxLen by unfold maxLen;omega);have HMY:=Lib.hid (show(k+1)*8<=140737488355328 by omega);have HK2:Hid (kcs .i64 fP (k+1)=kcs .i64 fP k ++ [.int .i64 (fP k)]):=rfl;rw[hok,hv]at IK;clear hok hv;generalize fB k=u1 at *;generalize fS k=u2 at *;generalize fT k=u3 at *;generalize hx:fP k=x at *;clear hx;go_wp2_with fail;go_at_call 131;refine(IK.out _).mono ?_;rintro e w4 ⟨rfl,hb4⟩;have HO2:=Lib.hid (own_below (own_below HOWN.out hb4) ((Below.refl _ _).alloc (Nat.le_refl _) (.cells #[.int .i64 x] 3)));have HNEW:=Lib.hid (World.news_of_block (Row.new w4 3 #[.int .i64 x]));have HBA:Hid (y0.heap.size<=(w4.alloc (.cells #[.int .i64 x] 3)).heap.size):=Lib.hid (by have:=HBL.out.size;have:=hb4.size;rw[World.size_alloc];omega);have HB2:=Lib.hid ((HBL.out.trans (hb4.mono hwr)).trans ((Below.refl _ _).alloc (by have:=HBL.out.size;have:=hb4.size;omega) (.cells #[.int .i64 x] 3)));clear hb4
        go_wp2_with (at_builtin;refine wpList_append_lies _ rfl (.tmp 30) (.tmp 32) 22 rfl y0.heap.size 3 i0 _ 1 8 Tryz.underlying22 hi hz0 hz1 hz2 rfl (by omega) (.slice a1 k c1) k _ rfl HO2.out ⟨w4.heap.size,0,none⟩ 1 1 [.int .i64 x] rfl rfl HNEW.out ?q1 (by omega) HMX.out HMY.out HBA.out _ rfl ?_)
        case q1=>intro u hu;simp at hu;subst hu;rfl
        intro g9 cap9 w5 hown5 hgrow _ _
        have HN2:Hid (Below y0.heap.size y0 w5/\w5.ownsRow y0.heap.size 3 1 (.slice (some ⟨g9,0,none⟩) (k+1) cap9) (k+1) (kcs .i64 fP (k+1))/\whB fP fQ (k+1)=true) :=
         Lib.hid ⟨HB2.out.trans ⟨hgrow.os,hgrow.tape,hgrow.output,hgrow.size,fun j hj=>hgrow.block j (Nat.lt_of_lt_of_le hj HB2.out.size) (fun e=>by have:=(HO2.out.lt j e.symm).1;omega)⟩,by rw[HK2.out];exact hown5,HW2.out⟩
        clear hown5 hgrow;go_wp2
        go_roundw
        case rel=>exact⟨k+1,_,cap9,by omega,by go_num,rfl,HN2.out⟩
        case measure=>simp[intOf];omega
      · rw[Bool.not_eq_true]at hok
        have hno:whB fP fQ nn=false:=by
         cases hx:whB fP fQ nn with
         | false=>rfl
         | true =>
          have:=whB_le (k:=k+1) (by omega) hx;unfold whB at this;rw[hok,Bool.and_false]at this;exact this.symm
        have HNO:=Lib.hid hno;rw[hok]at IK;clear hok hno;generalize (if fQ k=1 then fitI (fP k)else 0)=x at *;generalize fB k=u1 at *;generalize fS k=u2 at *;generalize fT k=u3 at *;go_wp2_with fail;go_at_call 131;refine(IK.out _).mono ?_;rintro e w4 ⟨rfl,hb4⟩
        have HE:Hid (WhToldN (whB fP fQ nn) nn fP w w4 (.returned (.tuple #[.slice none 0 0,.bool false]))):=Lib.hid (by
         rw[HNO.out]
         exact⟨_,_,_,rfl,by rw[if_neg (by decide)];exact⟨rfl,rfl,rfl⟩,(B4.out.go hb4).below⟩)
        clear hb4;go_wp2;go_ret2;exact HE.out
    · obtain rfl:k=nn:=by omega
      obtain⟨a9,c9,he,hq⟩:=KRow.of_own hown
      injection he with he1 _ he2
      subst he1 he2;have hbase:=BB.out.below.size
      have HE:Hid (WhToldN (whB fP fQ k) k fP w wr (.returned (.tuple #[.slice a1 k c1,.bool true]))):=Lib.hid (by
       rw[hwh]
       exact⟨_,_,_,rfl,by rw[if_pos rfl];exact⟨rfl,B4.out.below,own_base hown hbase⟩,B4.out.below⟩)
      clear hbl hown hwh hq;go_wp2;go_ret2;exact HE.out
 · rw[decide_eq_false h0,Bool.false_and];have d1:(0:Int)<tn:=by omega
   have HE:Hid (WhToldN false nn fP w (w.alloc (.cells (plC sa r sc ch ta tn tc na nn nc) 26)) (.returned (.tuple #[.slice none 0 0,.bool false]))):=Lib.hid
    ⟨_,_,_,rfl,by rw[if_neg (by decide)];exact⟨rfl,rfl,rfl⟩,BB.out.below⟩
   unfold plC at HE;unfold plC;clear h1 h2 h3 hN h0;go_enter Tryz.func107,Tryz.ntmps107;go_wp2;go_ret2;exact HE.out
def slv(A:Nat->Option Addr)(N C:Nat->Nat):Nat->List Value
 | 0 => []
 | k+1=>slv A N C k ++ [.slice (A k) (N k) (C k)]
theorem slv_length(A:Nat->Option Addr)(N C:Nat->Nat):∀k,(slv A N C k).length=k
 | 0=>rfl
 | k+1=>by unfold slv;rw[List.length_append,slv_length A N C k];rfl
theorem slv_get (A : Nat -> Option Addr) (N C : Nat -> Nat) : ∀ k j, j < k -> (slv A N C k)[j]? = some (.slice (A j) (N j) (C j))
 | 0,j,h=>absurd h (Nat.not_lt_zero _)
 | k+1,j,h=>by
  have hl:=slv_length A N C k;unfold slv
  rcases Nat.lt_or_ge j k with h1|h1
  · rw[List.getElem?_append_left (by omega)];exact slv_get A N C k j h1
  · obtain rfl:j=k:=by omega
    rw[List.getElem?_append_right (by omega),hl,Nat.sub_self]
    rfl
theorem slv_congr{A A':Nat->Option Addr}{N C C':Nat->Nat}:∀ {n:Nat},(∀j,j<n->A j=A' j/\C j=C' j)->slv A N C n=slv A' N C' n
 | 0,_=>rfl
 | n+1,h=>by unfold slv;rw[slv_congr (fun j hj=>h j (by omega)),(h n (by omega)).1,(h n (by omega)).2]
theorem own_kinds{w:World}{b1 b2:Nat}{e1 e2:TypeId}{s1 s2 n1 n2:Nat}{v1 v2:Value}{x1 x2:List Value}(h1:w.ownsRow b1 e1 s1 v1 n1 x1)(h2:w.ownsRow b2 e2 s2 v2 n2 x2)(he:e1≠e2):v1.ownBlock=none∨v1.ownBlock≠v2.ownBlock:=by
 rcases h1.2 with ⟨rfl,_⟩|⟨g,cap,cur,rfl,_,hh,_⟩
 · exact .inl rfl
 · refine .inr (fun e => ?_)
   rcases h2.2 with ⟨rfl,_⟩|⟨g',cap',cur',rfl,_,hh',_⟩
   · cases e
   · have e':g=g':=by simpa[Value.ownBlock]using e
     subst e';rw[hh]at hh'
     cases hh'
     exact he rfl
theorem own_ints_slices:3≠22:=by decide
theorem own_fresh{w w':World}{b:Nat}{v1 v2:Value}{n1 n2 s1 s2:Nat}{e1 e2:TypeId}{x1 x2:List Value}(h1:w.ownsRow b e1 s1 v1 n1 x1)(h2:w'.ownsRow w.heap.size e2 s2 v2 n2 x2):∀k,v2.ownBlock=some k->v1.ownBlock≠some k:=fun k hk e=>by
 have:=(h1.lt k e).2;have:=(h2.lt k hk).1
 omega
theorem run_append_zero{w:World}(base:Nat)(v:Value)(n:Nat)(xs:List Value)(ad:Addr)(c:Nat)(hown:w.ownsRow base 3 1 v n xs):(Builtin.append_ #[22,22] 22 #[v,.slice (some ad) 0 c]).run Tryz.prog w=.ok v w:=by
 obtain⟨i0,hi,hz0,hz1,hz2⟩:=info_parts infoI;have ht:=Tryz.underlying22
 rcases hown.2 with ⟨rfl,rfl⟩|⟨g,cap,cur,rfl,_,_,hnc,_⟩
 · simp[Builtin.append_,run_underlying ht,sizeOf,typeInfo,hi,Builtin.lenOf,Builtin.firstCells,loadCells,go_sem]
 · simp[Builtin.append_,run_underlying ht,sizeOf,typeInfo,hi,Builtin.lenOf,Builtin.firstCells,hnc,storeCells,loadCells,go_sem]
theorem own_moreK {y0 wr : World} {a a2 : Option Addr} {k c m c2 : Nat} {f g : Nat -> Int} (h : OwnI y0 wr a k c f) (h2 : KRow wr .i64 a2 m c2 g) (hm : k + m <= 1000000) :
    ∃a' c' y1,(Builtin.append_ #[22,22] 22 #[.slice a k c,.slice a2 m c2]).run Tryz.prog wr=.ok (.slice a' (k+m) c') y1/\OwnI y0 y1 a' (k+m) c' (app f k g)/\wr.grownBy y1 (Value.slice a k c).ownBlock/\((Value.slice a' (k+m) c').ownBlock=(Value.slice a k c).ownBlock∨(Value.slice a' (k+m) c').ownBlock=some wr.heap.size):=by
 have hs0:=h.1.size;have e1:∀j,j<k->app f k g j=f j:=fun j hj=>if_pos hj
 have e2:∀j,j<m->app f k g (k+j)=g j:=fun j _=>by
  unfold app;rw[if_neg (by omega),show k+j-k=j by omega]
 have ek:=kcs_app9 .i64 e1 e2;have hgb:∀(b:Option Nat),wr.grownBy wr b:=fun b=>⟨rfl,rfl,rfl,Nat.le_refl _,fun _ _ _=>rfl⟩
 rcases Nat.eq_zero_or_pos m with hm0|hm0
 · subst hm0;have ho:=h.2;rw[show kcs .i64 g 0 = []from rfl,List.append_nil]at ek;rw[ek]at ho
   cases a2 with
   | none=>exact⟨_,_,_,run_append_none9 y0.heap.size _ _ _ c2 ho,⟨h.1,ho⟩,hgb _,.inl rfl⟩
   | some ad =>
    exact⟨_,_,_,run_append_zero y0.heap.size _ _ _ ad c2 ho,⟨h.1,ho⟩,hgb _,.inl rfl⟩
 · obtain⟨b2,off,rfl,hb2,hc2⟩:=h2.get hm0;obtain⟨i0,hi,hz0,hz1,hz2⟩:=info_parts infoI;obtain⟨g1,cap1,y1,r1,o1',q1,hor1,hlt1⟩:=run_append_lies (P:=Tryz.prog) wr 22 22 y0.heap.size 3 i0 _ 1 8 Tryz.underlying22 hi hz0 hz1 hz2 rfl (by omega) (.slice a k c) k _ h.2 ⟨b2,off,none⟩ m c2 (kcs .i64 g m) (by rw[kcs_length];omega) (krow_news h2) (kcs_one _ _ _) hm0 (by unfold maxLen;omega) (by omega) hs0 _ rfl;rw[ek]at o1';refine⟨some ⟨g1,0,none⟩,cap1,y1,r1,⟨h.1.grown q1 (by omega) (fun q hq=>(h.2.lt q hq).1),o1'⟩,q1,?_⟩
   rcases hor1 with e|e
   · left;rw[e];rfl
   · right;rw[e];rfl
def AxSt(y0 wr:World)(N:Nat->Nat)(F:Nat->Nat->Int)(i:Nat)(v:Value)(ao:Option Addr)(k co:Nat)(T:Nat->Int):Prop :=
 Below y0.heap.size y0 wr/\OwnI y0 wr ao k co T/\∃A C,wr.ownsRow y0.heap.size 22 1 v i (slv A N C i)/\∀r,r<i->wr.ownsRow y0.heap.size 3 1 (.slice (A r) (N r) (C r)) (N r) (kcs .i64 (F r) (N r))/\∀b,(Value.slice (A r) (N r) (C r)).ownBlock=some b->(Value.slice ao k co).ownBlock≠some b
theorem AxSt.nil(y0:World)(N:Nat->Nat)(F:Nat->Nat->Int)(T:Nat->Int):AxSt y0 y0 N F 0 (.slice none 0 0) none 0 0 T :=
 ⟨Below.refl _ _,OwnI.nil _ _,fun _=>none,fun _=>0,World.ownsRow_nil _ _ _ _,fun _ h=>absurd h (Nat.not_lt_zero _)⟩
theorem ax_row {y0 wr y3 : World} {N : Nat -> Nat} {F : Nat -> Nat -> Int} {i : Nat} {v : Value} {ao : Option Addr} {k co : Nat} {T : Nat -> Int} {a : Option Addr} {c : Nat} (h : AxSt y0 wr N F i v ao k co T) (h7 : OwnI wr y3 a (N i) c (F i)) (hi5 : i <= 5000) :
    ∃v9 y5,(Builtin.append_ #[97,97] 97 #[v,.slice (some ⟨y3.heap.size,0,none⟩) 1 1]).run Tryz.prog (y3.alloc (.cells #[.slice a (N i) c] 22))=.ok v9 y5/\AxSt y0 y5 N F (i+1) v9 ao k co T/\∀z,wr.heap.size<=z->z<y3.heap.size->y5.heap[z]? = y3.heap[z]? := by
 obtain⟨hbl,h2,A,C,ho,hrows⟩:=h;have hwr:=hbl.size;have g3:=h7.1;have hs3:=g3.size;have g4:Below wr.heap.size wr (y3.alloc (.cells #[.slice a (N i) c] 22)):=g3.alloc g3.size _;have gy:Below y3.heap.size y3 (y3.alloc (.cells #[.slice a (N i) c] 22)):=(Below.refl _ _).alloc (Nat.le_refl _) _;have ho4:=own_below ho g4;have hn4:=own_below h7.2 gy;have h24:=own_below h2.2 g4;obtain⟨i0,hi,hz0,hz1,hz2⟩:=info_parts infoS;obtain⟨v9,y5,r3,o3,q3,_⟩:=run_append_own (P:=Tryz.prog) (y3.alloc (.cells #[.slice a (N i) c] 22)) y0.heap.size 97 97 22 i0 _ 1 24 Tryz.underlying97 hi hz0 hz1 hz2 rfl (by omega) v i _ ho4 ⟨y3.heap.size,0,none⟩ 1 1 [.slice a (N i) c] rfl (World.news_of_block (Row.new y3 22 #[.slice a (N i) c])) (by intro u hu;simp at hu;subst hu;rfl) (by unfold maxLen;omega) (by omega) (Nat.le_trans hwr g4.size);have hb5:Below y0.heap.size y0 y5:=(hbl.trans (g4.mono hwr)).grown q3 (Nat.le_trans hwr g4.size) (fun z hz=>(ho4.lt z hz).1)
 refine⟨v9,y5,r3,⟨hb5,⟨hb5,h24.kept q3 (own_kinds h24 ho4 own_ints_slices)⟩,(fun r=>if r=i then a else A r),(fun r=>if r=i then c else C r),?_,fun r hr => ?_⟩,fun z hz1 hz2 => ?_⟩
 · show y5.ownsRow _ _ _ _ _ (slv _ _ _ i ++ [_])
   simp only[if_true];rw[slv_congr (A':=A) (C':=C) (fun j hj=>⟨if_neg (by omega),if_neg (by omega)⟩)];exact o3
 · by_cases e:r=i
   · subst e;simp only[if_true];refine⟨own_base (hn4.kept q3 (own_kinds hn4 ho4 own_ints_slices)) hwr,own_fresh h2.2 h7.2⟩
   · simp only[if_neg e];have hr4:=own_below (hrows r (by omega)).1 g4;exact⟨hr4.kept q3 (own_kinds hr4 ho4 own_ints_slices),(hrows r (by omega)).2⟩
 · exact(q3.block z (Nat.lt_of_lt_of_le hz2 gy.size) (fun e=>by have:=(ho.lt z e.symm).2;omega)).trans (gy.block z hz2)
theorem Row.kept9{w w':World}{k:Nat}{t:TypeId}{cs:Array Value}(h:Row w k t cs)(e:w'.heap[k]? = w.heap[k]?):Row w' k t cs:=Eq.trans e h
theorem KRow.kept9{w w':World}{b off n c:Nat}{f:Nat->Int}(h:KRow w .i64 (some ⟨b,off,none⟩) n c f)(e:w'.heap[b]? = w.heap[b]?)(hl:b<w'.heap.size):KRow w' .i64 (some ⟨b,off,none⟩) n c f:=by
 refine⟨h.1,h.2.1,h.2.2.imp id ?_⟩;rintro⟨b',off',e2,_,hc⟩
 cases e2
 exact⟨b,off,rfl,hl,fun j hj=>(World.cell?_of_block (a:=⟨b,off+j,none⟩) e).trans (hc j hj)⟩
theorem ax_shape {y0 wr : World} {N : Nat -> Nat} {F : Nat -> Nat -> Int} {i : Nat} {v : Value} {ao : Option Addr} {k co : Nat} {T : Nat -> Int} {sa : Option Addr} {m sc : Nat} {g : Nat -> Int} (h : AxSt y0 wr N F i v ao k co T) (h2 : KRow wr .i64 sa m sc g) (hm : k + m <= 1000000) :
    ∃a' c' y1,(Builtin.append_ #[22,22] 22 #[.slice ao k co,.slice sa m sc]).run Tryz.prog wr=.ok (.slice a' (k+m) c') y1/\AxSt y0 y1 N F i v a' (k+m) c' (app T k g):=by
 obtain⟨hbl,ho,A,C,hv,hrows⟩:=h;obtain⟨a',c',y1,r1,o1,q1,hor⟩:=own_moreK ho h2 hm;refine⟨a',c',y1,r1,o1.1,o1,A,C,hv.kept q1 (own_kinds hv ho.2 (Ne.symm own_ints_slices)),fun r hr => ?_⟩;obtain⟨hr1,hr2⟩:=hrows r hr
 refine⟨hr1.kept q1 ?_,fun b hb e => ?_⟩
 · cases hx:(Value.slice (A r) (N r) (C r)).ownBlock with
   | none=>exact .inl rfl
   | some b=>exact .inr (fun e=>hr2 b hx e.symm)
 · rcases hor with e1|e1
   · rw[e1]at e;exact hr2 b hb e
   · rw[e1]at e
     cases e
     have:=(hr1.lt _ hb).2
     omega
theorem AxSt.done{y0 wr:World}{N:Nat->Nat}{F:Nat->Nat->Int}{i:Nat}{v:Value}{ao:Option Addr}{k co:Nat}{T:Nat->Int}(h:AxSt y0 wr N F i v ao k co T):∃la lc A C,v=.slice la i lc/\LRow wr la i lc A N C F:=by
 obtain⟨_,_,A,C,ho,hk⟩:=h
 rcases ho.2 with ⟨rfl,rfl⟩|⟨g,cap,cur,rfl,_,hh,h1,h2,_,_⟩
 · exact⟨none,0,A,C,rfl,Nat.le_refl _,Nat.zero_le _,.inl rfl⟩
 · refine ⟨some ⟨g, 0, none⟩, cap, A, C, rfl, h1, h2, .inr ⟨g, 0, rfl, Row.lt (t := 22) hh, fun j hj => ⟨?_, ?_, fun e => ?_⟩⟩⟩
   · have:=ho.cells (g:=g) rfl j _ (slv_get A N C i j hj)
     rwa [show(⟨g,0,none⟩:Addr).add j=⟨g,0+j,none⟩by unfold Addr.add;split<;>simp_all]at this
   · obtain⟨a',c',e,q⟩:=KRow.of_own (hk j hj).1
     cases e
     exact q
   · rcases(hk j hj).1.2 with ⟨e1,_⟩|⟨g',cap',cur',e1,_⟩
     · injection e1
     · rw[e]at e1
       cases e1
theorem r6IntsN_any (a : Option Addr) (n c : Nat) (g : Nat -> Int) (w : World) (h : KRow w .i64 a n c g) (hg : In64 g n) (hn : n <= 1000000) :
    Calls Tryz.prog 37 #[.slice a n c] w fun e w'=>(∃a1 c1,e=.returned (.agg (plC (some ⟨w.heap.size+1,0,none⟩) 1 1 false none 0 0 a1 n c1)))/\∀T,PlnTold (fun _=>(n:Int)) 1 false T 0 (fun j=>rB (g j)) (fun j=>rS (g j)) (fun _=>str (dec 1)) n w w' e:=by
 have hl:=h.len;obtain⟨i0,hi,hz0,hz1,hz2⟩:=info_parts infoN;have FR:=Lib.hid (fun X wz hx=>r3From_any X wz hx);unfold NumTold at FR;have HG:=Lib.hid hg;have KR:=KRow.one (w.alloc (.cells plZer 26)) n 3;have BB:=Lib.hid ((((((Bag.start w).krow h).newRow plZer 26).alloc (.cells #[.int .i64 n] 3)).krow KR).newRow (plC (some ⟨w.heap.size+1,0,none⟩) 1 1 false none 0 0 none 0 0) 26);simp only[World.size_alloc]at BB;clear h hg KR;unfold plZer plC at BB;go_enter Tryz.func37,Tryz.ntmps37;go_wp2_with fail;generalize ((w.alloc (.cells #[.slice none 0 0,.bool false,.slice none 0 0,.slice none 0 0] 26)).alloc (.cells #[.int .i64 n] 3)).alloc (.cells #[.slice (some ⟨w.heap.size+1,0,none⟩) 1 1,.bool false,.slice none 0 0,.slice none 0 0] 26)=y0 at *
 go_loopw [4] (fun i wr=>∃(k:Nat) (a1:Option Addr) (c1:Nat),k<=n/\i=.int .i64 k/\Hid (Below w.heap.size w wr/\Far (w.heap.size+1+1) y0 wr/\Row wr (w.heap.size+1+1) 26 (plC (some ⟨w.heap.size+1,0,none⟩) 1 1 false none 0 0 a1 k c1)/\wr.ownsRow y0.heap.size 46 3 (.slice a1 k c1) k (qcs (fun j=>rB (g j)) (fun j=>rS (g j)) (fun _=>str (dec 1)) k))) (fun i _=>n-(intOf i).toNat)
 case atStart=>exact⟨0,none,0,by omega,rfl,BB.out.below,Far.refl _ _,BB.out.now.1,World.ownsRow_nil _ _ _ _⟩
 case round =>
  obtain⟨k,a1,c1,hk,rfl,hrel⟩:=hrel;obtain⟨hbl,hfar,hrp,hown⟩:=hrel.out;have hni:=noInt_pl (some ⟨w.heap.size+1,0,none⟩) 1 1 false none 0 0 none 0 0;have hsz:=BB.out.now.1.lt
  by_cases hlt:k<n
  · have hkr := BB.out.now.2.2.2.1.away (BB.out.now.2.2.2.1.apart BB.out.now.1 hni) hfar; obtain ⟨b, off, rfl, hb, hc⟩ := hkr.get hlt; have HX := Lib.hid (HG.out k hlt); have B1 := Lib.hid (((Bag.start wr).own hown).row hrp); have HBL := Lib.hid hbl; have HF := Lib.hid hfar; have qp : wr.cell? ⟨w.heap.size + 1 + 1, 3, none⟩ = some (.slice a1 k c1) := hrp.cell 3; have HMX := Lib.hid (show k + 1 <= maxLen by unfold maxLen; omega); have HMY := Lib.hid (show (k + 1) * 40 <= 140737488355328 by omega); have HONE := Lib.hid (show ∀ u ∈ ([.bool (rB (g k)), .string (rS (g k)), .string (str (dec 1))] : List Value), u.oneCell' = true by intro u hu; simp at hu; rcases hu with rfl | rfl | rfl <;> rfl); have hk0 : (0 : Int) <= k := by omega
    have hk1:(k:Int)<n:=by omega
    have hk2:(k:Int)<=n:=by omega
    clear hbl hfar hrp hown hkr hni;go_wp2_with fail
    go_region_law (first
     | (go_simp; go_at_call 57; (with_reducible refine (FR.out _ _ HX.out).mono ?_); rintro e w2 ⟨rfl, hb2⟩;
         have B2:=Lib.hid ((B1.out.drew.go hb2).newRow #[.bool (rB (g k)),.string (rS (g k)),.string (str (dec 1))] 46);
         have qp2:w2.cell? ⟨w.heap.size+1+1,3,none⟩=some (.slice a1 k c1):=(B1.out.drew.go hb2).now.1.cell 3;
         have qp3:(w2.alloc (.cells #[.bool (rB (g k)),.string (rS (g k)),.string (str (dec 1))] 46)).cell? ⟨w.heap.size+1+1,3,none⟩=some (.slice a1 k c1):=B2.out.now.2.1.cell 3;
         have HROW:=Lib.hid B2.out.now.2.1;
         have HOWN:=Lib.hid B2.out.now.2.2.1;
         have HNEW:=Lib.hid (World.news_of_block B2.out.now.1);
         have HBA:=Lib.hid (Nat.le_trans HF.out.size B2.out.below.size);
         have HNX:=Lib.hid (pl_step HBL.out HF.out B2.out.below HROW.out HOWN.out (by decide) (by omega) BB.out.below.size);
         clear hb2)
     | (refine step_append_lies _ rfl (.tmp 16) (.tmp 22) 24 rfl y0.heap.size 46 i0 _ 3 40 Tryz.underlying24 hi hz0 hz1 hz2 rfl (by omega) (.slice a1 k c1) k _ rfl HOWN.out ⟨w2.heap.size, 0, none⟩ 1 1 [.bool (rB (g k)), .string (rS (g k)), .string (str (dec 1))] rfl rfl HNEW.out HONE.out (by omega) HMX.out HMY.out HBA.out _ rfl ?_; intro g9 cap9 w3 hown3 hgrow hor hlt3;
         have hr3:=HROW.out.grown hgrow (HROW.out.apart HOWN.out (by decide));have qp:w3.cell? ⟨w.heap.size+1+1,3,none⟩=some (.slice a1 k c1):=hr3.cell 3;have fp:=hr3.free 3;have HN:=Lib.hid (HNX.out g9 cap9 w3 hown3 hgrow);clear hown3 hgrow hor hlt3 hr3))
    all_goals
     go_wp2
     go_roundw
     case rel=>exact⟨k+1,_,cap9,by omega,by go_num,HN.out⟩
     case measure=>simp[intOf];omega
  · obtain rfl:k=n:=by omega
    have hr0:Row wr w.heap.size 26 plZer:=(hfar.block _ (by omega) BB.out.now.2.2.1.lt).trans BB.out.now.2.2.1;have hks:=BB.out.now.2.1.away (BB.out.now.2.1.apart BB.out.now.1 hni) hfar;obtain⟨a9,c9,he,hq⟩:=QRow.of_own hown
    injection he with he1 _ he2
    subst he1 he2
    have HE:Hid (∀T,PlnTold (fun _=>(k:Int)) 1 false T 0 (fun j=>rB (g j)) (fun j=>rS (g j)) (fun _=>str (dec 1)) k w (wr.setRow w.heap.size (plC (some ⟨w.heap.size+1,0,none⟩) 1 1 false none 0 0 a1 k c1)) (.returned (.agg (plC (some ⟨w.heap.size+1,0,none⟩) 1 1 false none 0 0 a1 k c1)))) :=
     Lib.hid fun T=>ans_pln ⟨_,_,_,_,_,_,rfl,hks,KRow.nought _ _ _ _ (Nat.zero_le _) _,hq⟩ hbl hr0 (Nat.le_refl _)
    have HR0:=Lib.hid hr0;have HRP:=Lib.hid hrp;clear hbl hfar hrp hown hks hq hr0 hni
    go_wp2_with (first
     | (refine ld_pln rfl (.tmp 3) rfl (w.heap.size+1+1) rfl HRP.out ?_)
     | (refine st_pln rfl (.tmp 2) (.tmp 25) rfl w.heap.size rfl _ _ _ _ _ _ _ _ _ _ rfl HR0.out rfl ?_))
    exact bodyPost_ret (res_pln Tryz.results37 rfl (HR0.out.put _) rfl) rfl ⟨⟨_,_,rfl⟩,HE.out⟩
theorem rwhole11_any (s o : Int) (w : World) (hs : 0 <= s /\ s <= 4096) (ho : 0 <= o /\ o <= 1) :
    Calls Tryz.prog 106 #[.int .i64 s,.int .i64 o] w fun e w'=>∃z a1 c1,e=.returned (.agg (plC (some ⟨z,0,none⟩) 1 1 false none 0 0 a1 s.toNat c1))/\w.heap.size<=z/\z<w'.heap.size/\(∀T,Pln w' (plC (some ⟨z,0,none⟩) 1 1 false none 0 0 a1 s.toNat c1) (fun _=>s) 1 false s.toNat T (fun j=>rB ((j:Int)+o)) (fun j=>rS ((j:Int)+o)) (fun _=>str (dec 1)))/\Below w.heap.size w w':=by
 obtain⟨n,rfl⟩:∃n:Nat,s=n:=⟨s.toNat,by omega⟩
 rw[Int.toNat_natCast]
 have IN:Hid (∀a c wz,KRow wz .i64 a n c (fun j=>(j:Int)+o)->Calls Tryz.prog 37 #[.slice a n c] wz fun e w'=>∃a1 c1,e=.returned (.agg (plC (some ⟨wz.heap.size+1,0,none⟩) 1 1 false none 0 0 a1 n c1))/\(∀T,Pln w' (plC (some ⟨wz.heap.size+1,0,none⟩) 1 1 false none 0 0 a1 n c1) (fun _=>(n:Int)) 1 false n T (fun j=>rB ((j:Int)+o)) (fun j=>rS ((j:Int)+o)) (fun _=>str (dec 1)))/\Below wz.heap.size wz w'):=Lib.hid (fun a c wz h=>by
  refine(r6IntsN_any a n c (fun j=>(j:Int)+o) wz h (fun j hj=>by dsimp only;omega) (by omega)).mono ?_;rintro e w' ⟨⟨a1,c1,rfl⟩,hq⟩;obtain⟨_,_,_,hb⟩:=hq (fun _=>0);refine⟨a1,c1,rfl,fun T => ?_,hb⟩;obtain⟨cs,e1,h1,_⟩:=hq T
  cases e1
  exact h1)
 have BB:=Lib.hid ((Bag.start w).newRow plZer 26);go_enter Tryz.func106,Tryz.ntmps106;go_wp2_with fail;unfold plZer plC at BB;obtain⟨Y0,hY0⟩:∃Y0,w.alloc (.cells #[.slice none 0 0,.bool false,.slice none 0 0,.slice none 0 0] 26)=Y0:=⟨_,rfl⟩
 rw[hY0]at BB;simp only[hY0];clear hY0
 go_loopw [5,6] (fun l i wr=>∃(k:Nat) (a:Option Addr) (c:Nat),k<=n/\l=.slice a k c/\i=.int .i64 k/\Hid (OwnI Y0 wr a k c (fun j=>(j:Int)+o))) (fun _ i _=>n-(intOf i).toNat)
 case atStart=>exact⟨0,none,0,by omega,rfl,rfl,OwnI.nil _ _⟩
 case round =>
  obtain⟨k,a,c,hk,rfl,rfl,ho2⟩:=hrel
  by_cases hlt:k<n
  · have hk0:(0:Int)<=k:=by omega
    have hk1:(k:Int)<n:=by omega
    have hw1:=IntWalk.i64_in (o+(k:Int)) (by omega);obtain⟨a',c',y3,hr3,ho'⟩:=app1_step ho2.out (x:=o+(k:Int)) (Int.add_comm _ _) (by omega);have HO':=Lib.hid ho';clear ho' ho2
    go_wp2_with (at_builtin;refine Lib.wpList_append_run _ rfl _ _ _ _ rfl _ _ rfl rfl _ _ hr3 ?_)
    go_roundw
    case rel=>exact⟨k+1,a',c',by omega,rfl,by go_num,HO'⟩
    case measure=>simp[intOf];omega
  · have hkr:k=n:=by omega
    subst k;have BW:=Lib.hid (BB.out.go ho2.out.1);have HKK:=Lib.hid ho2.out.krow;clear hk hlt ho2;go_wp2_with fail;go_at_call 37
    (refine(IN.out _ _ _ HKK.out).mono ?_)
    rintro e w9 ⟨a1,c1,rfl,hq,hb9⟩;have hz0:=BW.out.now.1.lt
    have hz1:wr.heap.size+1<w9.heap.size:=by
     obtain⟨sq,scq,tq,tcq,nq,ncq,e1,k1,_⟩:=hq (fun _=>0)
     have e2:some (⟨wr.heap.size+1,0,none⟩:Addr)=sq:=by
      simp[plC]at e1
      exact e1.1.1
     obtain⟨bb,oo,e3,hl,_⟩:=k1.get (show 0<1 by omega);rw[← e2]at e3
     cases e3
     exact hl
    have BW:=Lib.hid (BW.out.go hb9);have HZ:=Lib.hid BW.out.now.1;obtain⟨Z,hZ⟩:∃Z,wr.heap.size+1=Z:=⟨_,rfl⟩
    rw[hZ]at hq hz1;have HE:Hid (w.heap.size<=Z/\Z<(w9.setRow w.heap.size (plC (some ⟨Z,0,none⟩) 1 1 false none 0 0 a1 n c1)).heap.size/\(∀T,Pln (w9.setRow w.heap.size (plC (some ⟨Z,0,none⟩) 1 1 false none 0 0 a1 n c1)) (plC (some ⟨Z,0,none⟩) 1 1 false none 0 0 a1 n c1) (fun _=>(n:Int)) 1 false n T (fun j=>rB ((j:Int)+o)) (fun j=>rS ((j:Int)+o)) (fun _=>str (dec 1)))/\Below w.heap.size w (w9.setRow w.heap.size (plC (some ⟨Z,0,none⟩) 1 1 false none 0 0 a1 n c1))):=Lib.hid ⟨by omega,by simpa[World.setRow]using hz1,fun T=>(hq T).put HZ.out _,below_put BW.out.below (Nat.le_refl _) _⟩;clear hq hb9 hz0 hz1;rw[hZ];clear hZ
    go_wp2_with (refine st_pln rfl (.tmp 4) (.tmp 19) rfl w.heap.size rfl _ _ _ _ _ _ _ _ _ _ rfl HZ.out rfl ?_)
    exact bodyPost_ret (res_pln Tryz.results106 rfl (HZ.out.put _) rfl) rfl ⟨_,_,_,rfl,HE.out⟩
set_option linter.unusedVariables false
set_option linter.unusedSimpArgs false
theorem ixR_le{D:Nat->Sb}:∀ {n:Nat},(∀j,j<n->(D j).k<=8)->ixR D n<=8*n
 | 0,_=>Nat.le_refl _
 | n+1,h=>by
  have:=ixR_le (n:=n) (fun j hj=>h j (by omega));have:=h n (by omega)
  show ixR D n+(D n).k<=8*(n+1)
  omega
theorem Sr.k8{d:Sr}(h:d.good):d.sb.k<=8:=by
 obtain⟨_,_,h3,_⟩:=h;have:=h3.rank
 show(if d.al=true then 1 else d.r)<=8
 split<;>omega
theorem whB_idx{o:Int}(ho:0<=o/\o<=1):∀ {n:Nat},n<=4096->whB (fun j=>(j:Int)+o) (fun _=>1) n=true
 | 0,_=>rfl
 | n+1,h=>by
  unfold whB;rw[whB_idx ho (by omega)];unfold fitB;rw[decide_eq_true rfl,decide_eq_true (by omega)]
  rfl
theorem idx_num{o:Int}(ho:0<=o/\o<=1){n:Nat}(h:n<=4096):NumOk (fun j=>rB ((j:Int)+o)) (fun j=>rS ((j:Int)+o)) (fun _=>str (dec 1)) (fun j=>(j:Int)+o) (fun _=>1) n:=fun j hj=>by
 refine⟨rfl,rfl,rfl,Nat.one_pos,Nat.le_trans (dl_le ((j:Int)+o).natAbs 4 (by omega) (by omega)) (by omega),Nat.le_trans (dl_le 1 1 (by omega) (by omega)) (by omega)⟩
theorem OwnI.same{y0 w:World}{a:Option Addr}{k c:Nat}{f g:Nat->Int}(h:OwnI y0 w a k c f)(e:∀j,j<k->g j=f j):OwnI y0 w a k c g:=⟨h.1,by rw[kcs_congr e];exact h.2⟩
theorem OwnI.up{y0 w w':World}{a:Option Addr}{k c:Nat}{f:Nat->Int}(h:OwnI w w' a k c f)(hb:Below y0.heap.size y0 w):OwnI y0 w' a k c f:=⟨hb.trans (h.1.mono hb.size),own_base h.2 hb.size⟩
theorem whole_idx (s o : Int) (hs : 0 <= s /\ s <= 4096) (ho : 0 <= o /\ o <= 1) (F : Nat -> Int) (hF : ∀ j, j < s.toNat -> F j = (j : Int) + o) (p : Array Value) (wz : World) (h : ∀ T, Pln wz p (fun _ => s) 1 false s.toNat T (fun j => rB ((j : Int) + o)) (fun j => rS ((j : Int) + o)) (fun _ => str (dec 1))) :
    Calls Tryz.prog 107 #[.agg p] wz fun e w'=>∃a c,e=.returned (.tuple #[.slice a s.toNat c,.bool true])/\OwnI wz w' a s.toNat c F/\Below wz.heap.size wz w':=by
 have hn:s.toNat<=4096:=by omega
 refine(r6WholeN_any p (fun _=>s) 1 false (fun _=>0) (tnO false s.toNat) _ _ _ (nnO false s.toNat) (fun j=>(j:Int)+o) (fun _=>1) wz (h _) (idx_num ho hn) (by have:=(nnO_le false s.toNat).1;omega)).mono ?_;rintro e w' ⟨a,m,c,he,h2,hb⟩;rw[show nnO false s.toNat=s.toNat from rfl,whB_idx ho hn]at he h2;rw[show(decide (tnO false s.toNat=0)&&true)=true from rfl]at he h2;rw[if_pos rfl]at h2;obtain⟨rfl,h3⟩:=h2;exact⟨a,c,he,h3.same hF,hb⟩
theorem whole_arr (d : Sr) (hg : d.good) (F : Nat -> Int) (hF : ∀ j, j < d.L -> F j = gP d.B d.U d.V j) (p : Array Value) (wz : World) (h : PlnAt wz p d.S d.r d.ch d.g d.tn d.B d.U d.V d.nn) :
    Calls Tryz.prog 107 #[.agg p] wz fun e w'=>∃a m c,e=.returned (.tuple #[.slice a m c,.bool (whC d.ch d.L (gP d.B d.U d.V) (gQ d.B d.U d.V))])/\(whC d.ch d.L (gP d.B d.U d.V) (gQ d.B d.U d.V)=true->m=d.L/\OwnI wz w' a d.L c F)/\(whC d.ch d.L (gP d.B d.U d.V) (gQ d.B d.U d.V)=false->a=none/\m=0/\c=0)/\Below wz.heap.size wz w':=by
 obtain⟨g1,g2,g3,g4⟩:=hg;rw[g1,g2]at h;refine(r6WholeN_any p d.S d.r d.ch d.g (tnO d.ch d.L) d.B d.U d.V (nnO d.ch d.L) (gP d.B d.U d.V) (gQ d.B d.U d.V) wz h g3.num (by have:=(nnO_le d.ch d.L).1;omega)).mono ?_;rintro e w' ⟨a,m,c,he,h2,hb⟩;rw[wh_eq]at he h2
 refine⟨a,m,c,he,fun hw => ?_,fun hw => ?_,hb⟩
 · rw[if_pos hw,wh_nn hw]at h2;exact⟨h2.1,h2.2.same hF⟩
 · rw[hw,if_neg (by decide)]at h2;exact h2
theorem heap_lt{w y:World}{z:Nat}(e:y.heap[z]? = w.heap[z]?)(h:z<w.heap.size):z<y.heap.size:=by
 by_cases hh:z<y.heap.size
 · exact hh
 · rw[Array.getElem?_eq_none (by omega),Array.getElem?_eq_getElem h]at e
   cases e
theorem PlnAt.shape{y:World}{va:Option Addr}{r vc:Nat}{ch ch':Bool}{ta:Option Addr}{tn tn' tc:Nat}{na:Option Addr}{nn nn' nc:Nat}{S:Nat->Int}{g:Nat->Int}{fB:Nat->Bool}{fS fT:Nat->ByteArray}(h:PlnAt y (plC va r vc ch ta tn tc na nn nc) S r ch' g tn' fB fS fT nn'):KRow y .i64 va r vc S:=by
 obtain⟨sa,sc,ta',tc',na',nc',e,k0,_⟩:=h
 simp[plC]at e
 obtain⟨⟨rfl,rfl⟩,_⟩:=e;exact k0
theorem is_in{d:Sb}{o s:Int}(hs:0<=s)(F:Nat->Int)(hF:∀q,F q=d.F o q+o):d.is o s=inAll o s F (d.n s):=by
 cases ha:d.al with
 | true =>
  have h1:d.is o s=true:=by unfold Sb.is;rw[ha];rfl
  rw[h1];refine(inAll_iff.2 (fun q hq => ?_)).symm;unfold Sb.n at hq;rw[ha,if_pos rfl]at hq;have:=hF q;unfold Sb.F at this;rw[ha,if_pos rfl]at this
  omega
 | false =>
  have e:F=d.P:=funext (fun q=>by
   rw[hF];unfold Sb.F;rw[ha,if_neg (by decide)]
   omega)
  unfold Sb.is Sb.n;rw[ha,if_neg (by decide),e,Bool.false_or]
theorem fit_in{d:Sb}{o s:Int}(hs:0<=s/\s<=4096)(ho:0<=o/\o<=1)(hw:d.wh=true){q:Nat}(hq:q<d.n s) : -9223372036854775808<=d.F o q+o/\d.F o q+o<=9223372036854775807:=by
 unfold Sb.wh at hw;unfold Sb.n at hq;unfold Sb.F
 cases ha:d.al with
 | true =>
  rw[ha,if_pos rfl]at hq;rw[if_pos rfl]
  omega
 | false =>
  rw[ha,if_neg (by decide)]at hq;rw[if_neg (by decide)];rw[ha,Bool.false_or]at hw;unfold whC at hw
  split at hw
  · have:=of_decide_eq_true hw
    omega
  · have h1:=(whB_at hw q hq).2;unfold fitB at h1;have h2:=of_decide_eq_true h1
    omega
theorem ixT_bd{S:Nat->Int}{D:Nat->Sb}:∀ {n:Nat},(∀j,j<n->In64 ((D j).T (S j)) (D j).k)->In64 (ixT S D n) (ixR D n)
 | 0,_=>fun q hq=>absurd hq (Nat.not_lt_zero _)
 | n+1,h=>fun q hq=>by
  have e2:ixR D (n+1)=ixR D n+(D n).k:=rfl
  show _<=app (ixT S D n) (ixR D n) ((D n).T (S n)) q/\app (ixT S D n) (ixR D n) ((D n).T (S n)) q<=_
  unfold app
  split
  · exact ixT_bd (n:=n) (fun j hj=>h j (by omega)) q (by omega)
  · exact h n (by omega) _ (by omega)
theorem Sr.t64{d:Sr}(h:d.good){s:Int}(hs:0<=s/\s<=4096):In64 (d.sb.T s) d.sb.k:=by
 obtain⟨_,_,h3,_⟩:=h
 show In64 (if d.al=true then fun _=>s else d.S) (if d.al=true then 1 else d.r)
 split
 · exact fun q _=>by dsimp only;omega
 · exact h3.in64
def AxsTold(o:Int)(S:Nat->Int)(n:Nat)(D:Nat->Sb)(m:Nat)(w w':World)(e:Ending):Prop :=
 (ixE o S n D m≠0->e=.returned (.tuple #[.slice none 0 0,.slice none 0 0,.int .i64 (ixE o S n D m)]))/\(ixE o S n D m=0->∃a c la lc A C,e=.returned (.tuple #[.slice a (ixR D n) c,.slice la n lc,.int .i64 0])/\KRow w' .i64 a (ixR D n) c (ixT S D n)/\LRow w' la n lc A (ixN S D) C (fun j q=>ixF o D j q+o))/\Below w.heap.size w w'
theorem AxsTold.no{o:Int}{S:Nat->Int}{n:Nat}{D:Nat->Sb}{m:Nat}{w w':World}{E:Int}(hE:ixE o S n D m=E)(h0:E≠0)(hb:Below w.heap.size w w'):AxsTold o S n D m w w' (.returned (.tuple #[.slice none 0 0,.slice none 0 0,.int .i64 E])) :=
 ⟨fun _=>by rw[hE],fun h=>absurd (hE.symm.trans h) h0,hb⟩
theorem raxes_any (a : Option Addr) (n c : Nat) (S : Nat -> Int) (o : Int) (al : Option Addr) (m cl : Nat) (E : Nat -> Sr) (w : World) (h : KRow w .i64 a n c S) (hd : DRow w al m cl E) (hg : ∀ j, j < m -> (E j).good) (hS : ∀ j, j < n -> 0 <= S j /\ S j <= 4096) (ho : 0 <= o /\ o <= 1) (hm : m <= 20) :
    Calls Tryz.prog 49 #[.slice a n c,.int .i64 o,.slice al m cl] w fun e w'=>AxsTold o S n (fun j=>(E j).sb) m w w' e:=by
 obtain⟨D,hD⟩:∃D:Nat->Sb,(fun j=>(E j).sb)=D:=⟨_,rfl⟩
 have hDj:∀j,(E j).sb=D j:=fun j=>by rw[← hD]
 rw[hD];have hl:=h.len;have hll:=hd.len;have HK:=Lib.hid h;have HD:=Lib.hid hd;have HGD:=Lib.hid hg;have HS:=Lib.hid hS;have HDJ:=Lib.hid hDj;have HRL:Hid (∀i,i<=m->ixR D i<=8*i):=Lib.hid (fun i hi=>ixR_le (fun j hj=>by rw[← hDj];exact Sr.k8 (hg j (by omega))));clear h hd hg hS hD hDj
 by_cases hmn:m=n
 case neg =>
  have hE:ixE o S n D m=23:=by unfold ixE;rw[if_pos hmn]
  have HE:=Lib.hid (AxsTold.no (w:=w) (w':=w) hE (by decide) (Below.refl _ _));have d1:((n:Int) != (m:Int))=true:=bne_iff_ne.2 (by omega);clear hE hmn HK HD HGD HS HDJ HRL;go_enter Tryz.func49,Tryz.ntmps49;go_wp2;exact bodyPost_ret (v:=.tuple #[.slice none 0 0,.slice none 0 0,.int .i64 23]) (by simp[results,Tryz.results49,go_sem]) rfl HE.out
 case pos =>
 subst hmn;have d1:((m:Int) != (m:Int))=false:=bne_self_eq_false _;obtain⟨N,hN⟩:∃N,ixN S D=N:=⟨_,rfl⟩
 obtain⟨F,hF⟩:∃F:Nat->Nat->Int,(fun j q=>ixF o D j q+o)=F:=⟨_,rfl⟩
 have HNF:=Lib.hid (And.intro hN hF)
 have HE22:Hid (allB (fun j=>(D j).wh) m=false->ixE o S m D m=22):=Lib.hid (fun hx=>by
  unfold ixE
  rw[if_neg (fun e=>e rfl),if_pos hx])
 clear hN hF;go_enter Tryz.func49,Tryz.ntmps49;go_wp2_with fail
 go_loopw [9,10,11] (fun ov vv ii wr=>∃(i:Nat) (ao:Option Addr) (co:Nat) (v5:Value),i<=m/\ov=.slice ao (ixR D i) co/\v5=vv/\ii=.int .i64 i/\Hid (AxSt w wr N F i v5 ao (ixR D i) co (ixT S D i)/\allB (fun j=>(D j).wh) i=true)) (fun _ _ ii _=>m-(intOf ii).toNat)
 case atStart=>exact⟨0,none,0,_,by omega,rfl,rfl,rfl,AxSt.nil w N F (ixT S D 0),rfl⟩
 case round =>
  obtain⟨i,ao,co,v5,hi,rfl,hv5,rfl,hst⟩:=hrel;subst hv5
  by_cases hlt:i<m
  case pos =>
   have hk0:(0:Int)<=i:=by omega
   have hk1:(i:Int)<m:=by omega
   have HST:=Lib.hid hst.out.1;have HWH:=Lib.hid hst.out.2;clear hst;obtain⟨b,off,va,vc,ta,tc,na,nc,rfl,hlb,hrg,hpl⟩:=HD.out.get hlt;obtain⟨bs,os,rfl,hbs,hcs⟩:=HK.out.get hlt;have hs0:=HS.out i hlt;have HG:=Lib.hid (HGD.out i hlt);have hrl:=HRL.out i (by omega);have hwr:=HST.out.1.size;have HRG:=Lib.hid hrg;have HPL:=Lib.hid hpl;have HCS:=Lib.hid hcs;have HX:Hid (allB (fun j=>(D j).wh) (i+1)=(D i).wh):=Lib.hid (by show(allB (fun j=>(D j).wh) i&&(D i).wh)=_;rw[HWH.out];rfl);have HT1:Hid (ixR D (i+1)=ixR D i+(D i).k/\ixT S D (i+1)=app (ixT S D i) (ixR D i) ((D i).T (S i))):=Lib.hid ⟨rfl,rfl⟩
   have HNi:Hid (N i=(D i).n (S i)/\∀q,F i q=(D i).F o q+o):=Lib.hid (by
    rw[← HNF.out.1,← HNF.out.2]
    exact⟨rfl,fun _=>rfl⟩)
   have k8:(D i).k<=8:=by rw[← HDJ.out];exact Sr.k8 HG.out
   have HK8:=Lib.hid k8;have WA:=Lib.hid (fun Fx hF p wz q=>whole_arr (E i) HG.out Fx hF p wz q);have HDI:=Lib.hid (HDJ.out i);obtain⟨d,hdd⟩:∃d,E i=d:=⟨_,rfl⟩
   rw[hdd]at HRG HPL WA HDI HG;obtain⟨sv,hsv⟩:∃z,S i=z:=⟨_,rfl⟩
   rw[hsv]at HCS HT1 HNi hs0;clear hrg hpl hcs hsv hdd k8;obtain⟨dd,hdi⟩:∃z,D i=z:=⟨_,rfl⟩
   have WHI:=Lib.hid (congrArg Sb.wh hdi);rw[hdi]at HX HT1 HNi HDI HK8;clear hdi;obtain⟨RI,hRI⟩:∃z,ixR D i=z:=⟨_,rfl⟩
   obtain⟨TI,hTI⟩:∃z,ixT S D i=z:=⟨_,rfl⟩
   rw[hRI]at HT1 HST hrl ⊢;rw[hTI]at HT1 HST;clear hRI hTI;have e_al:d.sb.al=d.al:=rfl;obtain⟨dal,hal⟩:∃z,d.al=z:=⟨_,rfl⟩
   obtain⟨dr,hdr⟩:∃z,d.r=z:=⟨_,rfl⟩
   obtain⟨dch,hdch⟩:∃z,d.ch=z:=⟨_,rfl⟩
   obtain⟨dtn,hdtn⟩:∃z,d.tn=z:=⟨_,rfl⟩
   obtain⟨dnn,hdnn⟩:∃z,d.nn=z:=⟨_,rfl⟩
   have HAL:=Lib.hid hal;have HDR:=Lib.hid hdr
   have HRGw:Hid (∀y,Below wr.heap.size wr y->y.rangeAt b (off+i*5) (.bool dal::(plC va dr vc dch ta dtn tc na dnn nc).toList)):=Lib.hid (fun y hb=>by
    have q:=range_below (range_below HRG.out HST.out.1 hlb) hb (Nat.lt_of_lt_of_le hlb hwr);rw[hal,hdr,hdch,hdtn,hdnn]at q
    exact q)
   have HPLw:Hid (∀y,Below wr.heap.size wr y->PlnAt y (plC va dr vc dch ta dtn tc na dnn nc) d.S d.r d.ch d.g d.tn d.B d.U d.V d.nn):=Lib.hid (fun y hb=>by
    have q:=(HPL.out.below HST.out.1).below hb;rw[hdr,hdch,hdtn,hdnn]at q;rw[hdr,hdch,hdtn,hdnn]
    exact q)
   have HKS:Hid (∀y,Below w.heap.size w y->KRow y .i64 va dr vc d.S):=Lib.hid (fun y hb=>by
    have q:=HPL.out.below hb;rw[← hdr]
    exact q.shape)
   clear hal hdr hdch hdtn hdnn e_al HRG HPL;have HZ0:=Lib.hid (Row.new wr 26 plZer);have HBZ:Hid (∀cs,Below wr.heap.size wr ((wr.alloc (.cells plZer 26)).setRow wr.heap.size cs)/\Row ((wr.alloc (.cells plZer 26)).setRow wr.heap.size (plC va dr vc dch ta dtn tc na dnn nc)) wr.heap.size 26 (plC va dr vc dch ta dtn tc na dnn nc)):=Lib.hid (fun cs=>⟨below_put ((Below.refl _ _).alloc (Nat.le_refl _) _) (Nat.le_refl _) _,(Row.new wr 26 plZer).put _⟩);have QS:Hid (∀y,Below wr.heap.size wr y->y.cell? ⟨bs,os+i,none⟩=some (.int .i64 sv)):=Lib.hid (fun y hb=>(hb.cell (p:=⟨bs,os+i,none⟩) (Nat.lt_of_lt_of_le hbs hwr)).trans ((HST.out.1.cell (p:=⟨bs,os+i,none⟩) hbs).trans HCS.out));have QAL:Hid (∀y,Below wr.heap.size wr y->y.cell? ⟨b,off+i*5,none⟩=some (.bool dal)):=Lib.hid (fun y hb=>HRGw.out y hb 0 _ rfl);have RWx:Hid (∀y,Below wr.heap.size wr y->y.rangeAt b (off+i*5) (.bool dal::(plC va dr vc dch ta dtn tc na dnn nc).toList)):=HRGw;unfold plZer at HZ0 HBZ;unfold plC at HZ0
   cases dal with
   | true =>
    have hal2:dd.al=true:=by rw[← HDI.out];exact HAL.out
    have HNI:Hid (N i=sv.toNat/\∀q,F i q=(q:Int)+o):=Lib.hid (by
     rw[HNi.out.1];unfold Sb.n;rw[hal2,if_pos rfl];refine⟨rfl,fun q => ?_⟩;rw[HNi.out.2];unfold Sb.F
     rw[hal2,if_pos rfl])
    have HDK:Hid (dd.k=1/\dd.T sv=(fun _=>sv)/\dd.wh=true):=Lib.hid (by
     unfold Sb.k Sb.T Sb.wh;rw[hal2,if_pos rfl,if_pos rfl]
     exact⟨rfl,rfl,rfl⟩)
    have RW5:=Lib.hid (fun wz=>rwhole11_any sv o wz hs0 ho);have WI:=Lib.hid (fun p wz q=>whole_idx sv o hs0 ho (F i) (fun j _=>HNI.out.2 j) p wz q);clear hal2 WA HNi HKS HPLw
    go_wp2_with (first
     | (refine ld_plM rfl (.tmp 33) rfl b (off+i*5) rfl (HRGw.out _ (Below.refl _ _)) ?_)
     | (refine st_pln rfl (.tmp 12) (.tmp 34) rfl wr.heap.size rfl _ _ _ _ _ _ _ _ _ _ rfl HZ0.out rfl ?_;generalize hW1:World.setRow _ _ _=W1;have HB1:Hid (Below wr.heap.size wr W1):=Lib.hid (by rw[← hW1];exact(HBZ.out _).1);have HR1:Hid (Row W1 wr.heap.size 26 (plC va dr vc dch ta dtn tc na dnn nc)):=Lib.hid (by rw[← hW1];exact(HBZ.out #[]).2);have qal:=QAL.out W1 HB1.out;have qs:=QS.out W1 HB1.out;clear hW1))
    go_at_call 106
    (refine(RW5.out _).mono ?_)
    rintro e w5 ⟨z,a1,c1,rfl,hz1,hz2,hq,hb5⟩;have HZ9:=Lib.hid (And.intro (Nat.le_trans HB1.out.size hz1) hz2);have HB5:=Lib.hid (HB1.out.trans (hb5.mono HB1.out.size));have HR5:=Lib.hid (HR1.out.below hb5);have HQ5:=Lib.hid hq;clear hq hb5 hz1 hz2 RW5 qal qs HB1 HR1
    go_wp2_with (first
     | (refine st_pln rfl (.tmp 12) (.tmp 45) rfl wr.heap.size rfl _ _ _ _ _ _ _ _ _ _ rfl HR5.out rfl ?_;generalize hW2:World.setRow _ _ _=W2;have HB2:Hid (Below wr.heap.size wr W2):=Lib.hid (by rw[← hW2];exact below_put HB5.out (Nat.le_refl _) _);have HR2:Hid (Row W2 wr.heap.size 26 (plC (some ⟨z,0,none⟩) 1 1 false none 0 0 a1 sv.toNat c1)):=Lib.hid (by rw[← hW2];exact HR5.out.put _);have HQ2:Hid (∀T,Pln W2 (plC (some ⟨z,0,none⟩) 1 1 false none 0 0 a1 sv.toNat c1) (fun _=>sv) 1 false sv.toNat T (fun j=>rB ((j:Int)+o)) (fun j=>rS ((j:Int)+o)) (fun _=>str (dec 1))):=Lib.hid (fun T=>by rw[← hW2];exact PlnAt.away (HQ5.out T) HR5.out (noInt_pl _ _ _ _ _ _ _ _ _ _) (noStr_pl _ _ _ _ _ _ _ _ _ _) (Far.setRow _ _ _));have HZ2:Hid (wr.heap.size<=z/\z<W2.heap.size):=Lib.hid (by rw[← hW2];exact⟨HZ9.out.1,by simpa[World.setRow]using HZ9.out.2⟩);clear hW2)
     | refine ld_pln rfl (.tmp 12) rfl wr.heap.size rfl HR2.out ?_)
    go_at_call 107
    (refine(WI.out _ _ HQ2.out).mono ?_)
    rintro e w7 ⟨a13,c13,rfl,ho7,hb7⟩;have HOW:Hid (OwnI wr w7 a13 (N i) c13 (F i)):=Lib.hid (by rw[HNI.out.1];exact ho7.up HB2.out);have HR7:=Lib.hid (HR2.out.below hb7);have HKZ:=Lib.hid ((PlnAt.shape (HQ2.out (fun _=>0))).below hb7);have HZ7:=Lib.hid (And.intro HZ2.out.1 (Nat.lt_of_lt_of_le HZ2.out.2 hb7.size));rw[← HNI.out.1];clear ho7 hb7;obtain⟨v9,y5,hr3,hst9,hkp⟩:=ax_row HST.out HOW.out (by omega);have HR9:=Lib.hid (Row.kept9 HR7.out (hkp _ (Nat.le_refl _) HR7.out.lt));have hks9:KRow y5 .i64 (some ⟨z,0,none⟩) 1 1 (fun _=>sv):=KRow.kept9 HKZ.out (hkp _ HZ7.out.1 HZ7.out.2) (heap_lt (hkp _ HZ7.out.1 HZ7.out.2) HZ7.out.2);obtain⟨a',c',y1,hr4,hst10⟩:=ax_shape hst9 hks9 (by have:=HK8.out;have:=HDK.out.1;omega)
    have HFIN:Hid (AxSt w y1 N F (i+1) v9 a' (ixR D (i+1)) c' (ixT S D (i+1))/\allB (fun j=>(D j).wh) (i+1)=true):=Lib.hid (by
     rw[HT1.out.1,HT1.out.2,HX.out,HDK.out.1,HDK.out.2.1,HDK.out.2.2]
     exact⟨hst10,rfl⟩)
    have hki:RI+1=ixR D (i+1):=by rw[HT1.out.1,HDK.out.1]
    have HKI:=Lib.hid hki;have q59:y5.cell? ⟨wr.heap.size,0,none⟩=some (.slice (some ⟨z,0,none⟩) 1 1):=HR9.out.cell 0;clear hst9 hst10 hkp hks9 hki
    go_wp2_with (first
     | (at_builtin;refine Lib.wpList_append_run _ rfl (.tmp 53) (.tmp 55) 97 97 rfl _ _ rfl rfl _ _ hr3 ?_)
     | (at_builtin;refine Lib.wpList_append_run _ rfl (.tmp 57) (.tmp 59) 22 22 rfl _ _ rfl rfl _ _ hr4 ?_))
    go_roundw
    case rel=>exact⟨i+1,a',c',v9,by omega,by rw[HKI.out],rfl,by go_num,HFIN.out⟩
    case measure=>simp[intOf];omega
   | false =>
    have hal2:dd.al=false:=by rw[← HDI.out];exact HAL.out
    have HNI:Hid (N i=d.L/\∀q,F i q=gP d.B d.U d.V q):=Lib.hid (by
     rw[HNi.out.1];unfold Sb.n;rw[hal2,if_neg (by decide)];refine⟨by rw[← HDI.out];rfl,fun q => ?_⟩;rw[HNi.out.2];unfold Sb.F;rw[hal2,if_neg (by decide),← HDI.out]
     show gP d.B d.U d.V q-o+o=_
     omega)
    have WA:=Lib.hid (fun p wz q=>WA.out (F i) (fun j _=>HNI.out.2 j) p wz q);obtain⟨wb,hwb⟩:∃z,whC d.ch d.L (gP d.B d.U d.V) (gQ d.B d.U d.V)=z:=⟨_,rfl⟩
    have HDK:Hid (dd.k=dr/\dd.T sv=d.S/\dd.wh=wb):=Lib.hid (by
     unfold Sb.k Sb.T Sb.wh;rw[hal2,if_neg (by decide),if_neg (by decide),← HDI.out]
     exact⟨HDR.out,rfl,hwb⟩)
    rw[hwb]at WA;clear hal2 HNi hwb
    go_wp2_with (first
     | (refine ld_pln rfl (.tmp 12) rfl wr.heap.size rfl HR1.out ?_)
     | (refine ld_plM rfl (.tmp 33) rfl b (off+i*5) rfl (HRGw.out _ (Below.refl _ _)) ?_)
     | (refine st_pln rfl (.tmp 12) (.tmp 34) rfl wr.heap.size rfl _ _ _ _ _ _ _ _ _ _ rfl HZ0.out rfl ?_;generalize hW1:World.setRow _ _ _=W1;have HB1:Hid (Below wr.heap.size wr W1):=Lib.hid (by rw[← hW1];exact(HBZ.out _).1);have HR1:Hid (Row W1 wr.heap.size 26 (plC va dr vc dch ta dtn tc na dnn nc)):=Lib.hid (by rw[← hW1];exact(HBZ.out #[]).2);have qal:=QAL.out W1 HB1.out;have qs:=QS.out W1 HB1.out;clear hW1))
    go_at_call 107
    (refine(WA.out _ _ (HPLw.out _ HB1.out)).mono ?_)
    rintro e w7 ⟨a13,m13,c13,rfl,hyes,hno,hb7⟩;have HB7:=Lib.hid (HB1.out.trans (hb7.mono HB1.out.size));have HR7:=Lib.hid (HR1.out.below hb7)
    cases wb with
    | false =>
     obtain⟨rfl,rfl,rfl⟩:=hno rfl;have HE:=Lib.hid (AxsTold.no (w:=w) (w':=w7) (HE22.out (allB_no hlt (by have q:=HX.out;rw[HDK.out.2.2]at q;exact WHI.out.trans HDK.out.2.2))) (by decide) (HST.out.1.trans (HB7.out.mono HST.out.1.size)));clear hyes hno hb7 qal qs;go_wp2;exact bodyPost_ret (v:=.tuple #[.slice none 0 0,.slice none 0 0,.int .i64 22]) (by simp[results,Tryz.results49,go_sem]) rfl HE.out
    | true =>
     obtain⟨rfl,ho7⟩:=hyes rfl;have HOW:Hid (OwnI wr w7 a13 (N i) c13 (F i)):=Lib.hid (by rw[HNI.out.1];exact ho7.up HB1.out);rw[← HNI.out.1];clear ho7 hb7 hno hyes qal qs;obtain⟨v9,y5,hr3,hst9,hkp⟩:=ax_row HST.out HOW.out (by omega);have HR9:=Lib.hid (Row.kept9 HR7.out (hkp _ (Nat.le_refl _) HR7.out.lt));have hks9:KRow y5 .i64 (va) dr vc d.S:=HKS.out _ hst9.1;obtain⟨a',c',y1,hr4,hst10⟩:=ax_shape hst9 hks9 (by have:=HK8.out;have:=HDK.out.1;omega)
     have HFIN:Hid (AxSt w y1 N F (i+1) v9 a' (ixR D (i+1)) c' (ixT S D (i+1))/\allB (fun j=>(D j).wh) (i+1)=true):=Lib.hid (by
      rw[HT1.out.1,HT1.out.2,HX.out,HDK.out.1,HDK.out.2.1,HDK.out.2.2]
      exact⟨hst10,rfl⟩)
     have hki:RI+dr=ixR D (i+1):=by rw[HT1.out.1,HDK.out.1]
     have HKI:=Lib.hid hki;have q59:y5.cell? ⟨wr.heap.size,0,none⟩=some (.slice (va) dr vc):=HR9.out.cell 0;clear hst9 hst10 hkp hks9 hki
     go_wp2_with (first
      | (at_builtin;refine Lib.wpList_append_run _ rfl (.tmp 53) (.tmp 55) 97 97 rfl _ _ rfl rfl _ _ hr3 ?_)
      | (at_builtin;refine Lib.wpList_append_run _ rfl (.tmp 57) (.tmp 59) 22 22 rfl _ _ rfl rfl _ _ hr4 ?_))
     go_roundw
     case rel=>exact⟨i+1,a',c',v9,by omega,by rw[HKI.out],rfl,by go_num,HFIN.out⟩
     case measure=>simp[intOf];omega
  case neg =>
   have him:i=m:=by omega
   subst him;have HST:=Lib.hid hst.out.1;have HWH:=Lib.hid hst.out.2;obtain⟨la,lc,A,C,hv,hL⟩:=HST.out.done;subst hv;have HL:=Lib.hid hL;have HKO:=Lib.hid HST.out.2.1.krow;have HB:=Lib.hid HST.out.1
   have HIS:Hid (∀j,j<i->(D j).is o (S j)=inAll o (S j) (F j) (N j)):=Lib.hid (fun j hj=>by
    rw[← HNF.out.1,← HNF.out.2]
    exact is_in (HS.out j hj).1 _ (fun _=>rfl))
   have HFT:Hid (∀j,j<i->∀q,q<N j -> -9223372036854775808<=F j q/\F j q<=9223372036854775807):=Lib.hid (fun j hj q hq=>by
    rw[← HNF.out.1]at hq;rw[← HNF.out.2]
    exact fit_in (HS.out j hj) ho (allB_iff.1 HWH.out j hj) hq)
   have HT64:Hid (In64 (ixT S D i) (ixR D i)):=Lib.hid (ixT_bd (fun j hj=>by rw[← HDJ.out];exact Sr.t64 (HGD.out j hj) (HS.out j hj)))
   have HE25:Hid (allB (fun j=>(D j).is o (S j)) i=false->ixE o S i D i=25):=Lib.hid (fun hx=>by
    unfold ixE
    rw[if_neg (fun e=>e rfl),HWH.out,if_neg (by decide),if_pos hx])
   have HE0:Hid (allB (fun j=>(D j).is o (S j)) i=true->ixE o S i D i=if 8<ixR D i then 23 else pkE (ixT S D i) (ixR D i)):=Lib.hid (fun hx=>by
    unfold ixE
    rw[if_neg (fun e=>e rfl),HWH.out,if_neg (by decide),hx,if_neg (by decide)])
   have hlc:=hL.1;have hlc2:=hL.2.1;have hrl:=HRL.out i (Nat.le_refl _);have hml:lc<=9223372036854775807:=by unfold maxLen at hlc2;omega
   clear hst hL hi hlt HST HE22 HD HRL HDJ HGD hlc2;obtain⟨y0,hy0⟩:∃y0,y0=wr:=⟨_,rfl⟩
   subst hy0;go_wp2_with fail
   go_loopw [15] (fun jj wk=>∃j:Nat,j<=i/\jj=.int .i64 j/\Hid (Below y0.heap.size y0 wk/\allB (fun j=>(D j).is o (S j)) j=true)) (fun jj _=>i-(intOf jj).toNat)
   case atStart=>exact⟨0,by omega,rfl,Below.refl _ _,rfl⟩
   case round =>
    obtain⟨j,hj,rfl,hst⟩:=hrel
    by_cases hjl:j<i
    case pos =>
     have hj0:(0:Int)<=j:=by omega
     have hj1:(j:Int)<i:=by omega
     have HB1:=Lib.hid hst.out.1;have HA1:=Lib.hid hst.out.2;clear hst;obtain⟨bL,oL,rfl,hbL,hcL,hkL,_⟩:=HL.out.get hjl;obtain⟨bs,os,rfl,hbs,hcs⟩:=HK.out.get hjl;have hs0:=HS.out j hjl;have hlk:=hkL.len;have HIJ:=Lib.hid (HIS.out j hjl);have HFJ:=Lib.hid (HFT.out j hjl);have HCS:Hid (∀y,Below y0.heap.size y0 y->y.cell? ⟨bs,os+j,none⟩=some (.int .i64 (S j))):=Lib.hid (fun y hb=>(hb.cell (p:=⟨bs,os+j,none⟩) (Nat.lt_of_lt_of_le hbs HB.out.size)).trans ((HB.out.cell (p:=⟨bs,os+j,none⟩) hbs).trans hcs));have HCL:Hid (∀y,Below y0.heap.size y0 y->y.cell? ⟨bL,oL+j,none⟩=some (.slice (A j) (N j) (C j))):=Lib.hid (fun y hb=>(hb.cell (p:=⟨bL,oL+j,none⟩) hbL).trans hcL);have HKL:=Lib.hid hkL;have HAN:Hid (allB (fun j=>(D j).is o (S j)) (j+1)=(D j).is o (S j)):=Lib.hid (by show(allB (fun j=>(D j).is o (S j)) j&&(D j).is o (S j))=_;rw[HA1.out];rfl);have HNO:Hid ((D j).is o (S j)=false->allB (fun j=>(D j).is o (S j)) i=false):=Lib.hid (fun hx=>allB_no (p:=fun j=>(D j).is o (S j)) hjl hx);obtain⟨sv,hsv⟩:∃z,S j=z:=⟨_,rfl⟩
     obtain⟨G,hG⟩:∃z,N j=z:=⟨_,rfl⟩
     obtain⟨f,hf⟩:∃z,F j=z:=⟨_,rfl⟩
     obtain⟨aj,haj⟩:∃z,A j=z:=⟨_,rfl⟩
     obtain⟨cj,hcj⟩:∃z,C j=z:=⟨_,rfl⟩
     rw[hsv]at HCS HIJ hs0;rw[hG]at HCL HKL HIJ HFJ hlk;rw[hf]at HKL HIJ HFJ;rw[haj]at HCL HKL;rw[hcj]at HCL HKL hlk;clear hcs hcL hkL hG hf haj hcj HA1;go_wp2_with fail;obtain⟨y2,hy2⟩:∃y2,y2=wr:=⟨_,rfl⟩
     subst hy2
     go_loopw [16] (fun kk wk=>∃k:Nat,k<=G/\kk=.int .i64 k/\Hid (Below y0.heap.size y0 wk/\inAll o sv f k=true)) (fun kk _=>G-(intOf kk).toNat)
     case atStart=>exact⟨0,by omega,rfl,HB1.out,rfl⟩
     case round =>
      obtain⟨k,hk,rfl,hst⟩:=hrel;have HB2:=Lib.hid hst.out.1;have HI2:=Lib.hid hst.out.2;clear hst;have x1:=HCL.out _ HB2.out;have x2:=HCS.out _ HB2.out
      by_cases hkG:k<G
      case pos =>
       have hk0:(0:Int)<=k:=by omega
       have hk1:(k:Int)<G:=by omega
       obtain⟨bm,om,rfl,hbm,hcm⟩:=HKL.out.get hkG;have x3:=(HB2.out.cell (p:=⟨bm,om+k,none⟩) hbm).trans hcm;have hx:=HFJ.out k hkG;have HIN:Hid (inAll o sv f (k+1)=(decide (o<=f k)&&decide (f k-o<sv))):=Lib.hid (by show(inAll o sv f k&&_)=_;rw[HI2.out];rfl)
       have HBAD:Hid ((decide (o<=f k)&&decide (f k-o<sv))=false->inAll o sv f G=false):=Lib.hid (fun hx=>by
        cases hy:inAll o sv f G with
        | false=>rfl
        | true =>
         have:=inAll_iff.1 hy k hkG;rw[decide_eq_true this.1,decide_eq_true this.2]at hx
         cases hx)
       obtain⟨x,hxx⟩:∃z,f k=z:=⟨_,rfl⟩
       rw[hxx]at x3 hx HIN HBAD;clear hcm hxx
       by_cases hlo:x<o
       case pos =>
        have hE:=HE25.out (HNO.out (by rw[hsv,HIJ.out];exact HBAD.out (by rw[decide_eq_false (by omega)];rfl)));have HE:=Lib.hid hE;clear hE HIN HBAD HIJ HAN HNO HE25 HE0 HKO HT64 HFJ HIS HFT;go_wp2_with fail
        go_quiet (fail)
        have HE:=Lib.hid (AxsTold.no (w:=w) (w':=wr.drewN nq) HE.out (by decide) (below_drewN (HB.out.trans (HB2.out.mono HB.out.size)) nq));go_wp2;exact bodyPost_ret (v:=.tuple #[.slice none 0 0,.slice none 0 0,.int .i64 25]) (by simp[results,Tryz.results49,go_sem]) rfl HE.out
       case neg =>
        have hw1:=IntWalk.i64_in (x-o) (by omega)
        by_cases hhi:sv<=x-o
        case pos =>
         have hE:=HE25.out (HNO.out (by rw[hsv,HIJ.out];exact HBAD.out (by rw[decide_eq_false (show ¬x-o<sv by omega),Bool.and_false])));have HE:=Lib.hid hE;clear hE HIN HBAD HIJ HAN HNO HE25 HE0 HKO HT64 HFJ HIS HFT;go_wp2_with fail
         go_quiet (fail)
         have HE:=Lib.hid (AxsTold.no (w:=w) (w':=wr.drewN nq) HE.out (by decide) (below_drewN (HB.out.trans (HB2.out.mono HB.out.size)) nq));go_wp2;exact bodyPost_ret (v:=.tuple #[.slice none 0 0,.slice none 0 0,.int .i64 25]) (by simp[results,Tryz.results49,go_sem]) rfl HE.out
        case neg =>
         have HIN2:Hid (inAll o sv f (k+1)=true):=Lib.hid (by rw[HIN.out,decide_eq_true (by omega),decide_eq_true (by omega)];rfl);clear HIN HBAD;go_wp2_with fail
         go_quiet (fail)
         have HBN:=Lib.hid (below_drewN HB2.out nq);go_wp2_with fail
         go_roundw
         case rel=>exact⟨k+1,by omega,by go_num,HBN.out,HIN2.out⟩
         case measure=>simp[intOf];omega
      case neg =>
       have hkk:k=G:=by omega
       subst hkk;have HAT:Hid (allB (fun j=>(D j).is o (S j)) (j+1)=true):=Lib.hid (by rw[HAN.out,hsv,HIJ.out];exact HI2.out);clear HIJ HAN HNO HE25 HE0 HKO HT64 HFJ HIS HFT hk;go_wp2_with fail
       go_roundw
       case rel=>exact⟨j+1,by omega,by go_num,HB2.out,HAT.out⟩
       case measure=>simp[intOf];omega
    case neg =>
     have hji:j=i:=by omega
     subst hji;have hE:=HE0.out hst.out.2;have HBF:=Lib.hid (HB.out.trans (hst.out.1.mono HB.out.size));have HKF:=Lib.hid (HKO.out.below hst.out.1);have HLF:=Lib.hid (HL.out.below hst.out.1);clear hst HE0 HE25 HIS HFT HK HS hj hjl HB HKO HL
     by_cases h8:8<ixR D j
     case pos =>
      rw[if_pos h8]at hE;have HE:=Lib.hid (AxsTold.no (w:=w) hE (by decide) HBF.out);have h8':(8:Int)<(ixR D j:Nat):=by omega
      clear hE h8;go_wp2;exact bodyPost_ret (v:=.tuple #[.slice none 0 0,.slice none 0 0,.int .i64 23]) (by simp[results,Tryz.results49,go_sem]) rfl HE.out
     case neg =>
      rw[if_neg h8]at hE;have h8':¬(8:Int)<(ixR D j:Nat):=by omega
      have CN:=Lib.hid (fun wz q=>r6Count_any ao (ixR D j) co (ixT S D j) wz q HT64.out);unfold CntTold at CN;have HFIN:Hid (ixE o S j D j=0->AxsTold o S j D j w wr (.returned (.tuple #[.slice ao (ixR D j) co,.slice la j lc,.int .i64 0]))):=Lib.hid (fun h0=>⟨fun h=>absurd h0 h,fun _=>⟨_,_,_,_,_,_,rfl,HKF.out,by rw[HNF.out.1,HNF.out.2];exact HLF.out⟩,HBF.out⟩);unfold pkE at hE
      cases hsb:shB (ixT S D j) (ixR D j)with
      | false =>
       rw[hsb,if_neg (by decide)]at hE;have HE:=Lib.hid (AxsTold.no (w:=w) hE (by decide) HBF.out);rw[hsb]at CN;clear hE h8 hsb HFIN;go_wp2_with fail;go_at_call 88
       (refine(CN.out _ HKF.out).mono ?_)
       rintro e w9 ⟨rfl,rfl⟩;go_wp2;exact bodyPost_ret (v:=.tuple #[.slice none 0 0,.slice none 0 0,.int .i64 26]) (by simp[results,Tryz.results49,go_sem]) rfl HE.out
      | true =>
       rw[hsb,if_pos rfl]at hE;have HE:=Lib.hid (HFIN.out hE);rw[hsb]at CN;clear hE h8 hsb HFIN;go_wp2_with fail;go_at_call 88
       (refine(CN.out _ HKF.out).mono ?_)
       rintro e w9 ⟨rfl,rfl⟩;go_wp2;exact bodyPost_ret (v:=.tuple #[.slice ao (ixR D j) co,.slice la j lc,.int .i64 0]) (by simp[results,Tryz.results49,go_sem]) rfl HE.out
theorem ix_le {S : Nat -> Int} {D : Nat -> Sb} : ∀ {n : Nat}, (∀ j, j < n -> (D j).ok /\ 0 <= S j /\ S j <= 4096) -> ∀ j, j < ixR D n -> 0 <= ixT S D n j /\ ixT S D n j <= 4096
 | 0,_,j,hj=>absurd hj (Nat.not_lt_zero _)
 | n+1,h,j,hj=>by
  have e:ixT S D (n+1)=app (ixT S D n) (ixR D n) ((D n).T (S n)):=rfl;have e2:ixR D (n+1)=ixR D n+(D n).k:=rfl;rw[e2]at hj;rw[e];unfold app
  split
  · exact ix_le (n:=n) (fun j hj=>h j (by omega)) j (by assumption)
  · obtain⟨h1,h2,h3⟩:=h n (by omega);have h4:j-ixR D n<(D n).k:=by omega
    unfold Sb.T;unfold Sb.k at h4
    cases hx:(D n).al with
    | true=>exact⟨h2,h3⟩
    | false =>
     rw[hx,if_neg (by decide)]at h4;rw[if_neg (by decide)];exact ax_le4 h1.1 h4
def SeTold(E:Int)(R:Nat)(T:Nat->Int)(M:Nat)(G:Nat->Int)(w w':World)(e:Ending):Prop :=
 ∃a m c a2 m2 c2,e=.returned (.tuple #[.slice a m c,.slice a2 m2 c2,.int .i64 E])/\(E=0->m=R/\KRow w' .i64 a R c T/\m2=M/\KRow w' .i64 a2 M c2 G)/\Below w.heap.size w w'
theorem SeTold.no{E:Int}(hE:E≠0){R:Nat}{T:Nat->Int}{M:Nat}{G:Nat->Int}{w w':World}(hb:Below w.heap.size w w'):SeTold E R T M G w w' (.returned (.tuple #[.slice none 0 0,.slice none 0 0,.int .i64 E])) :=
 ⟨_,_,_,_,_,_,rfl,fun e=>absurd e hE,hb⟩
theorem NRow.get{w:World}{a:Option Addr}{n c:Nat}{D:Nat->Sb}(h:NRow w a n c D){j:Nat}(hj:j<n):∃g A m C,a=some ⟨g,0,none⟩/\g<w.heap.size/\w.cell? ⟨g,j,none⟩=some (.slice A m C)/\((D j).al=false->m=(D j).L/\KRow w .i64 A m C (D j).P):=by
 obtain⟨g,rfl,h1,h2,h3,h4,h5⟩:=h;obtain⟨A,m,C,e1,e2⟩:=h5 j hj;exact⟨g,A,m,C,rfl,h3,e1,e2 hj⟩
theorem iselected_any (a1 : Option Addr) (n c1 : Nat) (S : Nat -> Int) (o : Int) (sa : Option Addr) (m c : Nat) (D : Nat -> Sb) (w : World) (h1 : KRow w .i64 a1 n c1 S) (h : SRow w sa m c D) (hsh : shB S n = true) (hok : ∀ j, j < m -> (D j).ok) (hm : m <= 1000) (ho : 0 <= o /\ o <= 1) :
    Calls Tryz.prog 38 #[.slice a1 n c1,.int .i64 o,.slice sa m c] w fun e w'=>SeTold (ixE o S n D m) (ixR D n) (ixT S D n) (itm (lnF (ixN S D)) n).toNat (pkG S (lnF (ixN S D)) n (ixF o D)) w w' e:=by
 have hl:=h.len;have hl1:=h1.len;have hn8:=(sh_ax hsh).1;have hS4:∀j,j<n->0<=S j/\S j<=4096:=fun j hj=>ax_le4 hsh hj
 have HK:=Lib.hid h1;have HS:=Lib.hid h;have HOK:=Lib.hid hok;have RD:=Lib.hid (fun wz q=>iread_any sa m c D wz q hok hm);obtain⟨R,hR⟩:∃x,ixR D n=x:=⟨_,rfl⟩
 obtain⟨T,hT⟩:∃x,ixT S D n=x:=⟨_,rfl⟩
 obtain⟨M,hM⟩:∃x,(itm (lnF (ixN S D)) n).toNat=x:=⟨_,rfl⟩
 obtain⟨G,hG⟩:∃x,pkG S (lnF (ixN S D)) n (ixF o D)=x:=⟨_,rfl⟩
 obtain⟨E,hE⟩:∃x,ixE o S n D m=x:=⟨_,rfl⟩
 rw[hR,hT,hM,hG,hE];unfold ixE at hE;have hEn:=hE
 by_cases hmn:m=n
 · subst hmn; have hne : ((m : Int) != (m : Int)) = false := bne_self_eq_false _; rw [if_neg (by omega)] at hE; have HIN : Hid (allB (fun j => (D j).is o (S j)) m = true -> InAx S (ixN S D) (ixF o D) m) := Lib.hid ix_in
   have T64:In64 T R:=fun j hj=>by
    have:=ix_le (S:=S) (D:=D) (n:=m) (fun j hj=>⟨hok j hj,hS4 j hj⟩) j (by rw[hR];exact hj);rw[hT]at this
    omega
   have JN:=Lib.hid (fun wz q q2=>ijoined_any a1 m c1 S sa c D wz q q2 hok hn8);rw[hR,hT]at JN;have CN:=Lib.hid (fun a c wz (q:KRow wz .i64 a R c T)=>count_any a R c T wz q T64);unfold CntTold at CN;have ST:=Lib.hid (fun wz q=>strides_any a1 m c1 S wz q (fun j hj=>by have:=hS4 j hj;omega));unfold StTold at ST;rw[hsh]at ST
   have HAX:Hid (shB T R=true->axB (lnF (ixN S D)) m=true/\itm (lnF (ixN S D)) m=(M:Nat)):=Lib.hid (fun hs=>by
    rw[← hT,← hR]at hs;obtain⟨q1,q2⟩:=ix_ax (fun j hj=>⟨hok j hj,(hS4 j hj).1⟩) hs;have:=(ax_bd q1).2.2.1
    exact⟨q1,by omega⟩)
   have CB:Hid (shB T R=true->allB (fun j=>(D j).is o (S j)) m=true->∀ax mx cx aL cL A C wz,mx=m->KRow wz .i64 ax m cx (stF S m)->LRow wz aL m cL A (ixN S D) C (ixF o D)->Calls Tryz.prog 98 #[.slice ax mx cx,.slice aL m cL] wz fun e w'=>∃a' c',e=.returned (.slice a' M c')/\KRow w' .i64 a' M c' G/\Below wz.heap.size wz w'):=Lib.hid (fun hs hi ax mx cx aL cL A C wz hmx k1 k2=>by
    subst hmx;obtain⟨q1,q2⟩:=HAX.out hs;have q3:=HIN.out hi
    have hst:∀j,j<mx->0<=stF S mx j/\stF S mx j<=4096:=fun j hj=>by
     have:=ax_bd (ax_shf (j+1) (sh_ax hsh).2 (mx-(j+1)) (by omega))
     show 0<=itm (shf S (j+1)) (mx-(j+1))/\itm (shf S (j+1)) (mx-(j+1))<=4096
     omega
    refine(combined_any ax mx cx (stF S mx) aL cL A (ixN S D) C (ixF o D) M wz k1 k2 q1 q2 hn8 hst (fun j hj q hq=>by have:=q3 j hj q hq;have:=hS4 j hj;omega)).mono ?_;rintro e w' ⟨a',c',he,hk,hb⟩;refine⟨a',c',he,hk.congr (fun j hj => ?_),hb⟩;rw[← hG]
    exact cb_pk q3 q1 (by omega))
   obtain⟨i0,hi,hz0,hz1,hz2⟩:=info_parts infoL;have hmk:=fun wz=>run_make (P:=Tryz.prog) wz 97 22 i0 _ Tryz.underlying97 hi hz0 .i64 .i64 m m (by omega) (by omega) (by rw[hz2];omega) (by omega)
   simp only[Int.toNat_natCast,hz1,Nat.mul_one]at hmk;have hnn:(0:Int)<=m:=by omega
   rw[hR,hT]at hE;clear hi hz0 hz1 hz2 h h1 hok hR hT hM hG HIN hEn
   cases hw:allB (fun j=>(D j).wh) m with
   | false =>
    rw[if_pos hw]at hE;subst hE;rw[hw]at RD;clear hmk hS4 T64;go_enter Tryz.func38,Tryz.ntmps38;go_wp2_with fail;go_at_call 94;(with_reducible refine(RD.out _ HS.out).mono ?_);rintro e w2 ⟨a,k,c2,rfl,_,hb2⟩;have HE:=Lib.hid (SeTold.no (E:=22) (R:=R) (T:=T) (M:=M) (G:=G) (by decide) hb2);clear hb2;go_wp2_with fail;exact bodyPost_ret (by simp[results,Tryz.results38,go_sem]) rfl HE.out
   | true =>
    rw[if_neg (by rw[hw];decide)]at hE;have HWA:=Lib.hid hw;rw[hw]at RD;have HE25:Hid (allB (fun j=>(D j).is o (S j)) m=false->E=25):=Lib.hid (fun e=>by rw[← hE,if_pos e]);have HE0:Hid (allB (fun j=>(D j).is o (S j)) m=true->E=if 8<R then 23 else pkE T R):=Lib.hid (fun e=>by rw[← hE,if_neg (by rw[e];decide)]);clear hE;go_enter Tryz.func38,Tryz.ntmps38;go_wp2_with fail;go_at_call 94;(with_reducible refine(RD.out _ HS.out).mono ?_);rintro e w2 ⟨a,k,c2,rfl,h2,hb2⟩;rw[if_pos rfl]at h2;obtain⟨rfl,hnr⟩:=h2;have HB2:=Lib.hid hb2;have HNR:=Lib.hid hnr
    have H0:Hid (Below w2.heap.size w2 (w2.alloc (.cells (madeCells (Value.cells (.slice none 0 0)) k) 22))/\LTo (w2.alloc (.cells (madeCells (Value.cells (.slice none 0 0)) k) 22)) w2.heap.size k 0 (ixN S D) (ixF o D)) :=
     Lib.hid ⟨(Below.refl _ _).alloc (Nat.le_refl _) _,LTo.made w2 k 22 _ _ rfl⟩
    obtain⟨gN,rfl,hN1,hN2,hN3,_⟩:=hnr;have HN3:=Lib.hid hN3;clear hb2 hw RD hN3;go_wp2_with fail
    go_loopw [10,34] (fun v i wr=>∃j:Nat,j<=k/\i=.int .i64 j/\v=.bool true/\Hid (Below w2.heap.size w2 wr/\LTo wr w2.heap.size k j (ixN S D) (ixF o D)/\allB (fun j=>(D j).is o (S j)) j=true)) (fun _ i _=>k-(intOf i).toNat)
    case atStart=>exact⟨0,by omega,rfl,rfl,H0.out.1,H0.out.2,rfl⟩
    case round =>
     obtain⟨j,hj,rfl,rfl,hrel⟩:=hrel;obtain⟨hbl,hto,his⟩:=hrel.out
     by_cases hlt:j<k
     · have hj0 : (0 : Int) <= j := by omega
       have hj1:(j:Int)<k:=by omega
       have hbw:=HB2.out.trans (hbl.mono HB2.out.size);obtain⟨b,off,na,nn,nc,ta,tn,tc,rfl,hlb,hrg,harr⟩:=(HS.out.below hbw).get hlt;obtain⟨b1,o1,rfl,hb1,hc1⟩:=(HK.out.below hbw).get hlt;obtain⟨gn,A9,m9,C9,hgn,hlg,hc9,hnum⟩:=(HNR.out.below hbl).get hlt
       cases hgn
       have hS:=hS4 j hlt;have HNM:=Lib.hid hnum;have hokj:=HOK.out j hlt
       have PS:Hid (∀y,Below wr.heap.size wr y->Calls Tryz.prog 95 #[.agg (subC (D j).al (D j).ch (((D j).r:Nat)-1) (dm (D j).S (D j).r) na nn nc ta tn tc),.slice A9 m9 C9,.int .i64 o,.int .i64 (S j)] y fun e w'=>PsTold ((D j).is o (S j)) (ixN S D j) (ixF o D j) y w' e):=Lib.hid (fun y hb=>by
        unfold Sb.is ixN Sb.n ixF Sb.F
        cases hal:(D j).al with
        | true =>
         rw[Bool.true_or,if_pos rfl];obtain⟨Mj,hMj⟩:∃q:Nat,S j=(q:Nat):=⟨(S j).toNat,by omega⟩
         rw[hMj,Int.toNat_natCast];simp only[if_true];exact positionsA_any _ _ _ na nn nc ta tn tc A9 m9 C9 o Mj y (by omega)
        | false =>
         obtain⟨rfl,hk9⟩:=HNM.out hal;rw[Bool.false_or,if_neg (by decide)];simp only[Bool.false_eq_true,if_false];have hwj:(D j).wh=true:=allB_iff.1 HWA.out j hlt;unfold Sb.wh at hwj;rw[hal,Bool.false_or]at hwj
         exact positionsN_any _ _ _ na nn nc ta tn tc A9 _ C9 (D j).P o (S j) y (hk9.below hb) (whC_in hwj) (by have:=hokj.2.2.1;omega) ho hS)
       have HRG:=Lib.hid hrg;have HBL:=Lib.hid hbl;have HTO:=Lib.hid hto;have HIS:=Lib.hid his;have hsz:=hto.1;obtain⟨⟨z9,x1,x2⟩,y1⟩:=hto.place hlt;obtain⟨al,hal⟩:∃x,(D j).al=x:=⟨_,rfl⟩
       obtain⟨ch,hch⟩:∃x,(D j).ch=x:=⟨_,rfl⟩
       obtain⟨more,hmore⟩:∃x,(((D j).r:Nat):Int)-1=x:=⟨_,rfl⟩
       obtain⟨d,hd⟩:∃x,dm (D j).S (D j).r=x:=⟨_,rfl⟩
       rw[hal,hch,hmore,hd]at PS HRG
       have HSF:Hid (∀y,Below wr.heap.size wr y->y.cell? ⟨b,off+j*13,none⟩=some (.bool al)/\y.cell? ⟨b,off+j*13+1,none⟩=some (.bool ch)/\y.cell? ⟨b,off+j*13+2,none⟩=some (.int .i64 more)/\y.cell? ⟨b,off+j*13+3,none⟩=some (.int .i64 (d 0))/\y.cell? ⟨b,off+j*13+4,none⟩=some (.int .i64 (d 1))/\y.cell? ⟨b,off+j*13+5,none⟩=some (.int .i64 (d 2))/\y.cell? ⟨b,off+j*13+6,none⟩=some (.int .i64 (d 3))/\y.cell? ⟨b,off+j*13+7,none⟩=some (.int .i64 (d 4))/\y.cell? ⟨b,off+j*13+8,none⟩=some (.int .i64 (d 5))/\y.cell? ⟨b,off+j*13+9,none⟩=some (.int .i64 (d 6))/\y.cell? ⟨b,off+j*13+10,none⟩=some (.int .i64 (d 7))/\y.cell? ⟨b,off+j*13+11,none⟩=some (.slice na nn nc)/\y.cell? ⟨b,off+j*13+12,none⟩=some (.slice ta tn tc)/\y.cell? ⟨gN,j,none⟩=some (.slice A9 m9 C9)):=Lib.hid (fun y hb=>by
        have q:=range_below HRG.out hb hlb
        exact⟨q 0 _ rfl,q 1 _ rfl,q 2 _ rfl,q 3 _ rfl,q 4 _ rfl,q 5 _ rfl,q 6 _ rfl,q 7 _ rfl,q 8 _ rfl,q 9 _ rfl,q 10 _ rfl,q 11 _ rfl,q 12 _ rfl,(hb.cell (p:=⟨gN,j,none⟩) hlg).trans hc9⟩)
       have hbq:b<w2.heap.size:=by
        obtain⟨b',off',_,_,_,_,_,_,e,hl',_⟩:=(HS.out.below HB2.out).get hlt
        cases e
        exact hl'
       have HN3:=HN3.out
       have HSP:Hid (∀y v,Below wr.heap.size wr y->(y.setCell ⟨w2.heap.size,j,none⟩ v).cell? ⟨b,off+j*13,none⟩=some (.bool al)/\(y.setCell ⟨w2.heap.size,j,none⟩ v).cell? ⟨b,off+j*13+1,none⟩=some (.bool ch)/\(y.setCell ⟨w2.heap.size,j,none⟩ v).cell? ⟨b,off+j*13+2,none⟩=some (.int .i64 more)/\(y.setCell ⟨w2.heap.size,j,none⟩ v).cell? ⟨b,off+j*13+3,none⟩=some (.int .i64 (d 0))/\(y.setCell ⟨w2.heap.size,j,none⟩ v).cell? ⟨b,off+j*13+4,none⟩=some (.int .i64 (d 1))/\(y.setCell ⟨w2.heap.size,j,none⟩ v).cell? ⟨b,off+j*13+5,none⟩=some (.int .i64 (d 2))/\(y.setCell ⟨w2.heap.size,j,none⟩ v).cell? ⟨b,off+j*13+6,none⟩=some (.int .i64 (d 3))/\(y.setCell ⟨w2.heap.size,j,none⟩ v).cell? ⟨b,off+j*13+7,none⟩=some (.int .i64 (d 4))/\(y.setCell ⟨w2.heap.size,j,none⟩ v).cell? ⟨b,off+j*13+8,none⟩=some (.int .i64 (d 5))/\(y.setCell ⟨w2.heap.size,j,none⟩ v).cell? ⟨b,off+j*13+9,none⟩=some (.int .i64 (d 6))/\(y.setCell ⟨w2.heap.size,j,none⟩ v).cell? ⟨b,off+j*13+10,none⟩=some (.int .i64 (d 7))/\(y.setCell ⟨w2.heap.size,j,none⟩ v).cell? ⟨b,off+j*13+11,none⟩=some (.slice na nn nc)/\(y.setCell ⟨w2.heap.size,j,none⟩ v).cell? ⟨b,off+j*13+12,none⟩=some (.slice ta tn tc)/\(y.setCell ⟨w2.heap.size,j,none⟩ v).cell? ⟨gN,j,none⟩=some (.slice A9 m9 C9)):=Lib.hid (fun y v hb=>by
        obtain⟨q0,q1,q2,q3,q4,q5,q6,q7,q8,q9,q10,q11,q12,q13⟩:=HSF.out y hb;have e:∀i,(y.setCell ⟨w2.heap.size,j,none⟩ v).cell? ⟨b,i,none⟩=y.cell? ⟨b,i,none⟩:=fun i=>World.cell?_setCell_other _ _ _ _ (fun h=>by injection h with h _;omega)
        have e2:(y.setCell ⟨w2.heap.size,j,none⟩ v).cell? ⟨gN,j,none⟩=y.cell? ⟨gN,j,none⟩:=World.cell?_setCell_other _ _ _ _ (fun h=>by injection h with h _;omega)
        exact⟨(e _).trans q0,(e _).trans q1,(e _).trans q2,(e _).trans q3,(e _).trans q4,(e _).trans q5,(e _).trans q6,(e _).trans q7,(e _).trans q8,(e _).trans q9,(e _).trans q10,(e _).trans q11,(e _).trans q12,e2.trans q13⟩)
       unfold subC at PS;clear hal hch hmore hd
       cases hps:(D j).is o (S j)with
       | true =>
        rw[hps]at PS
        have HIS2:Hid (allB (fun j=>(D j).is o (S j)) (j+1)=true):=Lib.hid (by
         show(allB (fun j=>(D j).is o (S j)) j&&(D j).is o (S j))=true
         rw[his,hps];rfl)
        generalize hSj:S j=sj at *;clear hrel hbl hto his hrg harr hnum hokj;go_wp2_with fail;have BD0:Hid (Below wr.heap.size wr wr.drew):=Lib.hid (Below.refl _ wr).drew
        go_region_held3 (fun y => y.cell? ⟨b, off + j * 13, none⟩ = some (.bool al) /\ y.cell? ⟨b, off + j * 13 + 1, none⟩ = some (.bool ch) /\ y.cell? ⟨b, off + j * 13 + 2, none⟩ = some (.int .i64 more) /\ y.cell? ⟨b, off + j * 13 + 3, none⟩ = some (.int .i64 (d 0)) /\ y.cell? ⟨b, off + j * 13 + 4, none⟩ = some (.int .i64 (d 1)) /\ y.cell? ⟨b, off + j * 13 + 5, none⟩ = some (.int .i64 (d 2)) /\ y.cell? ⟨b, off + j * 13 + 6, none⟩ = some (.int .i64 (d 3)) /\ y.cell? ⟨b, off + j * 13 + 7, none⟩ = some (.int .i64 (d 4)) /\ y.cell? ⟨b, off + j * 13 + 8, none⟩ = some (.int .i64 (d 5)) /\ y.cell? ⟨b, off + j * 13 + 9, none⟩ = some (.int .i64 (d 6)) /\ y.cell? ⟨b, off + j * 13 + 10, none⟩ = some (.int .i64 (d 7)) /\ y.cell? ⟨b, off + j * 13 + 11, none⟩ = some (.slice na nn nc) /\ y.cell? ⟨b, off + j * 13 + 12, none⟩ = some (.slice ta tn tc) /\ y.cell? ⟨gN, j, none⟩ = some (.slice A9 m9 C9))
         (first
           | exact HSF.out _ BD0.out
           | (have hq:=HB6.out;exact HSF.out _ hq)
           | (have hq:=HB6.out;exact HSP.out _ _ hq))
         ((go_at_call 95;(refine(PS.out _ BD0.out).mono ?_);rintro e w5 ⟨a5,m5,c5,rfl,h5,hb5⟩;(have HB6:=Lib.hid (BD0.out.trans (hb5.mono BD0.out.size)));(rw[if_pos rfl]at h5);(obtain⟨rfl,hk5,⟨p5,rfl⟩⟩:=h5);(have hto5:=HTO.out.below HB6.out);(obtain⟨⟨z5,x5,_⟩,y5⟩:=hto5.place hlt);(have HN:=Lib.hid (And.intro ((HBL.out.trans (HB6.out.mono HBL.out.size)).setCell (p:=⟨w2.heap.size,j,none⟩) (Nat.le_refl _) (.slice (some p5) (ixN S D j) c5)) (And.intro (hto5.step hlt hk5) HIS2.out)));(clear hto5 hk5 hb5)))
        go_wp2_with fail
        go_roundw
        case rel=>exact⟨j+1,by omega,by go_num,rfl,HN.out⟩
        case measure=>simp[intOf];omega
       | false =>
        rw[hps]at PS;obtain rfl:=HE25.out (allB_no hlt hps);generalize hSj:S j=sj at *;clear hrel hbl hto his hrg harr hnum hokj;go_wp2_with fail;have BD0:Hid (Below wr.heap.size wr wr.drew):=Lib.hid (Below.refl _ wr).drew
        go_region_held3 (fun y => y.cell? ⟨b, off + j * 13, none⟩ = some (.bool al) /\ y.cell? ⟨b, off + j * 13 + 1, none⟩ = some (.bool ch) /\ y.cell? ⟨b, off + j * 13 + 2, none⟩ = some (.int .i64 more) /\ y.cell? ⟨b, off + j * 13 + 3, none⟩ = some (.int .i64 (d 0)) /\ y.cell? ⟨b, off + j * 13 + 4, none⟩ = some (.int .i64 (d 1)) /\ y.cell? ⟨b, off + j * 13 + 5, none⟩ = some (.int .i64 (d 2)) /\ y.cell? ⟨b, off + j * 13 + 6, none⟩ = some (.int .i64 (d 3)) /\ y.cell? ⟨b, off + j * 13 + 7, none⟩ = some (.int .i64 (d 4)) /\ y.cell? ⟨b, off + j * 13 + 8, none⟩ = some (.int .i64 (d 5)) /\ y.cell? ⟨b, off + j * 13 + 9, none⟩ = some (.int .i64 (d 6)) /\ y.cell? ⟨b, off + j * 13 + 10, none⟩ = some (.int .i64 (d 7)) /\ y.cell? ⟨b, off + j * 13 + 11, none⟩ = some (.slice na nn nc) /\ y.cell? ⟨b, off + j * 13 + 12, none⟩ = some (.slice ta tn tc) /\ y.cell? ⟨gN, j, none⟩ = some (.slice A9 m9 C9))
         (first
           | exact HSF.out _ BD0.out
           | (have hq:=HB6.out;exact HSF.out _ hq)
           | (have hq:=HB6.out;exact HSP.out _ _ hq))
         ((go_at_call 95;(refine(PS.out _ BD0.out).mono ?_);rintro e w5 ⟨a5,m5,c5,rfl,h5,hb5⟩;(have HB6:=Lib.hid (BD0.out.trans (hb5.mono BD0.out.size)));(rw[if_neg (by decide)]at h5);(obtain⟨rfl,rfl,rfl⟩:=h5);(have hto5:=HTO.out.below HB6.out);(obtain⟨⟨z5,x5,_⟩,y5⟩:=hto5.place hlt);(have HE:=Lib.hid (SeTold.no (E:=25) (R:=R) (T:=T) (M:=M) (G:=G) (by decide) (HB2.out.trans (((HBL.out.trans (HB6.out.mono HBL.out.size)).setCell (p:=⟨w2.heap.size,j,none⟩) (Nat.le_refl _) (.slice none 0 0)).mono HB2.out.size))));(clear hto5 hb5)))
        go_wp2_with fail;exact bodyPost_ret (by simp[results,Tryz.results38,go_sem]) rfl HE.out
     · obtain rfl : j = k := by omega
       have hE0:=HE0.out his;obtain⟨A,C,hL⟩:=hto.done (by unfold maxLen;omega);have HL:=Lib.hid hL;have HBW:=Lib.hid (HB2.out.trans (hbl.mono HB2.out.size));have HIS:=Lib.hid his;clear hrel hbl hto his hL HE25 HE0
       by_cases h8:8<R
       · rw[if_pos h8]at hE0;subst hE0;have h9:(8:Int)<R:=by omega
         go_wp2_with fail;go_at_call 96;(with_reducible refine(JN.out _ (HK.out.below HBW.out) (HS.out.below HBW.out)).mono ?_);rintro e w3 ⟨a3,c3,rfl,hk3,hb3⟩;have hl3:=hk3.len;have HE:=Lib.hid (SeTold.no (E:=23) (R:=R) (T:=T) (M:=M) (G:=G) (by decide) (HBW.out.trans (hb3.mono HBW.out.size)));clear hk3 hb3;go_wp2_with fail;exact bodyPost_ret (by simp[results,Tryz.results38,go_sem]) rfl HE.out
       · rw[if_neg h8]at hE0;have h9:¬(8:Int)<R:=by omega
         have h10:(R:Int)<=8:=by omega
         unfold pkE at hE0
         cases hsT:shB T R with
         | false =>
          rw[hsT,if_neg (by decide)]at hE0;subst hE0;rw[hsT]at CN;generalize cntI T R=ci at *;go_wp2_with fail;go_at_call 96;(with_reducible refine(JN.out _ (HK.out.below HBW.out) (HS.out.below HBW.out)).mono ?_);rintro e w3 ⟨a3,c3,rfl,hk3,hb3⟩;have hl3:=hk3.len;have HK3:=Lib.hid hk3;have HE:=Lib.hid (SeTold.no (E:=26) (R:=R) (T:=T) (M:=M) (G:=G) (by decide) (HBW.out.trans (hb3.mono HBW.out.size)));clear hk3 hb3;go_wp2_with fail;go_at_call 97;(with_reducible refine(CN.out _ _ _ HK3.out).mono ?_);rintro e w4 ⟨rfl,rfl⟩;go_wp2_with fail;exact bodyPost_ret (by simp[results,Tryz.results38,go_sem]) rfl HE.out
         | true =>
          rw[hsT,if_pos rfl]at hE0;subst hE0;rw[hsT]at CN;have CB2:=Lib.hid (CB.out hsT HIS.out);generalize cntI T R=ci at *;go_wp2_with fail;go_at_call 96;(with_reducible refine(JN.out _ (HK.out.below HBW.out) (HS.out.below HBW.out)).mono ?_);rintro e w3 ⟨a3,c3,rfl,hk3,hb3⟩;have hl3:=hk3.len;have HK3:=Lib.hid hk3;have HB3:=Lib.hid hb3;clear hk3 hb3;go_wp2_with fail;go_at_call 97;(with_reducible refine(CN.out _ _ _ HK3.out).mono ?_);rintro e w4 ⟨rfl,rfl⟩;go_wp2_with fail;go_at_call 99;(with_reducible refine(ST.out _ ((HK.out.below HBW.out).below HB3.out)).mono ?_);rintro e w4 ⟨a4,m4,c4,rfl,h4,hb4⟩;have h4:m4=j/\KRow w4 .i64 a4 j c4 (stF S j):=by simpa using h4
          obtain⟨hm4,hk4⟩:=h4;have HK4:=Lib.hid hk4;have HB4:=Lib.hid hb4;have HM4:=Lib.hid hm4;clear hb4 hk4 hm4;go_wp2_with fail;go_at_call 98
          (refine(CB2.out a4 m4 c4 _ _ _ _ _ HM4.out HK4.out ((HL.out.below HB3.out).below HB4.out)).mono ?_)
          rintro e w5 ⟨a5,c5,rfl,hk5,hb5⟩;have HE:Hid (SeTold 0 R T M G w w5 (.returned (.tuple #[.slice a3 R c3,.slice a5 M c5,.int .i64 0]))):=Lib.hid ⟨_,_,_,_,_,_,rfl,fun _=>⟨rfl,(HK3.out.below HB4.out).below hb5,rfl,hk5⟩,((HBW.out.trans (HB3.out.mono HBW.out.size)).trans (HB4.out.mono (HBW.out.trans (HB3.out.mono HBW.out.size)).size)).trans (hb5.mono ((HBW.out.trans (HB3.out.mono HBW.out.size)).trans (HB4.out.mono (HBW.out.trans (HB3.out.mono HBW.out.size)).size)).size)⟩;clear hk5 hb5;go_wp2_with fail;exact bodyPost_ret (by simp[results,Tryz.results38,go_sem]) rfl HE.out
 · rw[if_pos hmn]at hE;subst hE;have hne:((m:Int) != (n:Int))=true:=bne_iff_ne.2 (by omega);have HE:=Lib.hid (SeTold.no (E:=23) (R:=R) (T:=T) (M:=M) (G:=G) (by decide) (Below.refl w.heap.size w));clear h h1 hok hR hT hM hG hEn RD;go_enter Tryz.func38,Tryz.ntmps38;go_wp2_with fail;exact bodyPost_ret (by simp[results,Tryz.results38,go_sem]) rfl HE.out
theorem stA {ops : Array Oper} {rest : List Oper} {o : Oper} {a : Act} {w : World} {Q : Exit -> Act -> World -> Prop} (hgd : o.guard = none) (x y : Operand) (ho : o.op = .store 36 x y) (g : Nat) (hx : a.eval x = .pointer (some ⟨g, 0, none⟩))
    (cs:Array Value) (hy:a.eval y=.agg cs) (hc:IsA cs) {old:Array Value} (hg:Row w g 36 old) (hz:IsA old)
    (h:wpList Tryz.prog ops Q rest (a.put o.dst undef) (w.setRow g cs)):wpList Tryz.prog ops Q (o::rest) a w :=
 wpList_store_row hgd _ x y ho g _ hx hy _ old hg (by rw[arr12,hc.size]) (by rw[hz.size,hc.size]) hc.one h
theorem st_arrN {ops : Array Oper} {rest : List Oper} {o : Oper} {a : Act} {w : World} {Q : Exit -> Act -> World -> Prop} (hgd : o.guard = none) (x y : Operand) (ho : o.op = .store 36 x y) (hx : a.eval x = .pointer (some ⟨w.heap.size, 0, none⟩))
    (cs:Array Value) (hy:a.eval y=.agg cs) (hc:IsA cs) {old:Array Value} (ho2:old.size=12)
    (h:∀Y,Row Y w.heap.size 36 cs->Below w.heap.size w Y->wpList Tryz.prog ops Q rest (a.put o.dst undef) Y):wpList Tryz.prog ops Q (o::rest) a (w.alloc (.cells old 36)) :=
 wpList_store_row hgd _ x y ho w.heap.size _ hx hy _ old (Row.new w _ old) (by rw[arr12,hc.size]) (by rw[ho2,hc.size]) hc.one (h _ ((Row.new w _ old).put _) (below_put ((Below.refl _ _).alloc (Nat.le_refl _) _) (Nat.le_refl _) _))
theorem ix_zero{o:Int}{S:Nat->Int}{r:Nat}{D:Nat->Sb}{m:Nat}(h:ixE o S r D m=0):m=r/\allB (fun j=>(D j).wh) r=true/\allB (fun j=>(D j).is o (S j)) r=true/\shB (ixT S D r) (ixR D r)=true:=by
 unfold ixE at h
 by_cases h1:m=r
 · subst h1; rw [if_neg (by omega)] at h
   cases h2:allB (fun j=>(D j).wh) m with
   | false=>rw[if_pos h2]at h;cases h
   | true =>
    rw[if_neg (by rw[h2];decide)]at h
    cases h3:allB (fun j=>(D j).is o (S j)) m with
    | false=>rw[if_pos h3]at h;cases h
    | true =>
     rw[if_neg (by rw[h3];decide)]at h
     split at h
     · cases h
     · unfold pkE at h
       split at h
       · exact⟨rfl,rfl,rfl,by assumption⟩
       · cases h
 · rw[if_pos h1]at h;cases h
theorem iindex_any (x : Array Value) (S : Nat -> Int) (r : Nat) (ch : Bool) (L : Nat) (g P : Nat -> Int) (Q : Nat -> Nat) (o : Int) (sa : Option Addr) (m c : Nat) (D : Nat -> Sb) (w : World) (h : Arr w x S r ch L g P Q) (hsh : shB S r = true) (hs : SRow w sa m c D) (hok : ∀ j, j < m -> (D j).ok) (hm : m <= 1000) (ho : 0 <= o /\ o <= 1) :
    Calls Tryz.prog 35 #[.agg x,.int .i64 o,.slice sa m c] w fun e w'=>MoTold (ixE o S r D m) (ixT S D r) (ixR D r) ch (itm (lnF (ixN S D)) r).toNat (fun j=>elC L g 32 (pkG S (lnF (ixN S D)) r (ixF o D) j)) (fun j=>elP L P (pkG S (lnF (ixN S D)) r (ixF o D) j)) (fun j=>elQ L Q (pkG S (lnF (ixN S D)) r (ixF o D) j)) w w' e:=by
 obtain⟨na,nn,nc,ta,tn,tc,hx,_⟩:=h.form;subst hx;have H:=Lib.hid h;have hr8:=(sh_ax hsh).1;have SHP:=Lib.hid (fun wz q=>shape_new (arrC ch ((r:Int)-1) (dm S r) na nn nc ta tn tc) S r ch L g P Q wz q hr8);have SE:=Lib.hid (fun a c1 wz q q2=>iselected_any a r c1 S o sa m c D wz q q2 hsh hok hm ho);have HS:=Lib.hid hs;obtain⟨R,hR⟩:∃x,ixR D r=x:=⟨_,rfl⟩
 obtain⟨T,hT⟩:∃x,ixT S D r=x:=⟨_,rfl⟩
 obtain⟨M,hM⟩:∃x,(itm (lnF (ixN S D)) r).toNat=x:=⟨_,rfl⟩
 obtain⟨G,hG⟩:∃x,pkG S (lnF (ixN S D)) r (ixF o D)=x:=⟨_,rfl⟩
 obtain⟨E,hE⟩:∃x,ixE o S r D m=x:=⟨_,rfl⟩
 rw[hR,hT,hM,hG,hE]at SE;rw[hR,hT,hM,hG,hE];unfold SeTold at SE
 have HZ:Hid (E=0->shB T R=true/\itm T R=(M:Nat)/\M<=4096):=Lib.hid (fun e=>by
  rw[← hE]at e;obtain⟨rfl,_,_,q⟩:=ix_zero e;obtain⟨q1,q2⟩:=ix_ax (fun j hj=>⟨hok j hj,(ax_le4 hsh hj).1⟩) q;have:=ax_bd q1;rw[hT,hR]at q q2
  exact⟨q,by omega,by omega⟩)
 have PK:=Lib.hid (fun(e:E=0) a1 d1 a2 d2 wz q (k1:KRow wz .i64 a1 R d1 T) (k2:KRow wz .i64 a2 M d2 G)=>pick8_any (arrC ch ((r:Int)-1) (dm S r) na nn nc ta tn tc) S r ch L g P Q a1 R d1 T a2 M d2 G wz q k1 (fun j hj=>by have:=ax_le4 (HZ.out e).1 hj;omega) k2 (fun j hj=>by rw[← hG];have:=pkG_bd (T:=lnF (ixN S D)) (F:=ixF o D) hsh j;omega) (by have:=(HZ.out e).2.2;omega));unfold ArrTold at PK;obtain⟨eC,heC⟩:∃f:Nat->Int,(fun j=>elC L g 32 (G j))=f:=⟨_,rfl⟩
 obtain⟨eP,heP⟩:∃f:Nat->Int,(fun j=>elP L P (G j))=f:=⟨_,rfl⟩
 obtain⟨eQ,heQ⟩:∃f:Nat->Nat,(fun j=>elQ L Q (G j))=f:=⟨_,rfl⟩
 rw[heC,heP,heQ]at PK;rw[heC,heP,heQ];have BB:=Lib.hid (((Bag.start w).newRow (arrC ch ((r:Int)-1) (dm S r) na nn nc ta tn tc) 36).newRow zerC 36);simp only[World.size_alloc]at BB;have HR:=Lib.hid BB.out.now.2.1;clear h hsh hs hok hR hT hM hG hE heC heP heQ;unfold arrC;go_enter Tryz.func35,Tryz.ntmps35
 go_wp2_with (refine ld_arr rfl (.tmp 3) rfl w.heap.size rfl HR.out ?_)
 go_at_call 39
 (refine(SHP.out _ (H.out.below BB.out.below)).mono ?_)
 rintro e w2 ⟨g2,c2,rfl,_,_,hk2,hb2⟩;have BB:=bgo BB hb2;have HK2:=Lib.hid hk2;clear hk2 hb2 HR;go_wp2_with fail;go_at_call 38;(with_reducible refine(SE.out _ _ _ HK2.out (HS.out.below BB.out.below)).mono ?_);rintro e w3 ⟨a3,m3,c3,a4,m4,c4,rfl,h3,hb3⟩;have BB:=bgo BB hb3;clear hb3
 by_cases h0:E=0
 · obtain⟨rfl,k3,rfl,k4⟩:=h3 h0;subst h0;have HK3:=Lib.hid k3;have HK4:=Lib.hid k4;have HR:=Lib.hid BB.out.now.2.1;have PK2:=Lib.hid (PK.out rfl);rw[(HZ.out rfl).1,decide_eq_true (HZ.out rfl).2.1]at PK2;clear h3 k3 k4 PK HZ SE
   go_wp2_with (refine ld_arr rfl (.tmp 3) rfl w.heap.size rfl HR.out ?_)
   go_at_call 92;(with_reducible refine(PK2.out _ _ _ _ _ (H.out.below BB.out.below) HK3.out HK4.out).mono ?_);rintro e w4 ⟨cs,rfl,h4,hb4⟩;have h4:Arr w4 cs T m3 ch m4 eC eP eQ:=by simpa using h4
   have BB:=bgo BB hb4;have HA:=Lib.hid h4;have HIA:=Lib.hid h4.isA;clear hb4 h4 HR
   go_wp2_with (first
    | (refine st_arrN rfl (.tmp 11) (.tmp 31) rfl rfl cs rfl HIA.out rfl ?_;intro Y hY hbY;have HY:=Lib.hid hY;have BB:=Lib.hid (BB.out.go hbY);have HA:=Lib.hid (HA.out.below hbY);have HR:=Lib.hid BB.out.now.1;clear hY hbY)
    | (refine ld8G (by rfl) 11 rfl _ cs (by rfl) HY.out HIA.out.size ?_)
    | (refine stA rfl (.tmp 6) (.tmp 33) rfl (w.heap.size+1) rfl cs rfl HIA.out HR.out IsA.zer ?_))
   have HE:=Lib.hid (MoTold.yes (HA.out.store HR.out IsA.zer cs) (below_put BB.out.below (show w.heap.size<=w.heap.size+1 by omega) cs));exact bodyPost_ret (res_arr2 Tryz.results35 rfl rfl (HR.out.put _) HIA.out.size) rfl HE.out
 · have dE:(E != 0)=true:=bne_iff_ne.2 h0;have HR:=Lib.hid BB.out.now.1;have HE:=Lib.hid (MoTold.no (S:=T) (r:=R) (ch:=ch) (L:=M) (g:=eC) (fP:=eP) (fQ:=eQ) h0 (below_put BB.out.below (show w.heap.size<=w.heap.size+1 by omega) zerC));clear h3 PK HZ SE h0
   go_wp2_with (refine st_arr rfl (.tmp 6) (.tmp 24) rfl (w.heap.size+1) rfl false 0 (fun _=>0) none 0 0 none 0 0 rfl HR.out rfl ?_)
   exact bodyPost_ret (res_arr2 Tryz.results35 rfl rfl (HR.out.put _) rfl) rfl HE.out
def fiE(r:Nat)(S:Nat->Int)(R:Nat)(T:Nat->Int):Int:=if r=0 then 0 else if r≠R then 23 else if sameB S T r=true then 0 else 24
theorem ifits_any (x : Array Value) (S : Nat -> Int) (r : Nat) (ch : Bool) (L : Nat) (g P : Nat -> Int) (Q : Nat -> Nat) (a1 : Option Addr) (R c1 : Nat) (T : Nat -> Int) (w : World) (h : Arr w x S r ch L g P Q) (hr : r <= 8) (hT : KRow w .i64 a1 R c1 T) :
    Calls Tryz.prog 40 #[.agg x,.slice a1 R c1] w fun e w'=>e=.returned (.int .i64 (fiE r S R T))/\Below w.heap.size w w':=by
 obtain⟨na,nn,nc,ta,tn,tc,hx,_⟩:=h.form;subst hx;have H:=Lib.hid h;have HT:=Lib.hid hT;have hl:=hT.len;have SHP:=Lib.hid (fun wz q=>shape_new (arrC ch ((r:Int)-1) (dm S r) na nn nc ta tn tc) S r ch L g P Q wz q hr);have RK:=Lib.hid (fun wz q=>rank8_any (arrC ch ((r:Int)-1) (dm S r) na nn nc ta tn tc) S r ch L g P Q wz q (by omega));have SM:=Lib.hid (fun a c wz (k:KRow wz .i64 a r c S) (k2:KRow wz .i64 a1 R c1 T)=>same_any a r c S a1 R c1 T wz k k2);unfold SameTold at SM;have BB:=Lib.hid ((Bag.start w).newRow (arrC ch ((r:Int)-1) (dm S r) na nn nc ta tn tc) 36);have HR:=Lib.hid BB.out.now.1;have WB:Hid (∀y e,Below w.heap.size w y->fiE r S R T=e->((Ending.returned (.int .i64 e))=.returned (.int .i64 (fiE r S R T))/\Below w.heap.size w y)):=Lib.hid (fun y e hb he=>⟨by rw[he],hb⟩);clear h hT;unfold arrC
 by_cases h0:r=0
 · have dz:((r:Int)==0)=true:=beq_iff_eq.2 (by omega);have hE:fiE r S R T=0:=by unfold fiE;rw[if_pos h0]
   have HEE:=Lib.hid hE;clear h0 hE;go_enter Tryz.func40,Tryz.ntmps40
   go_wp2_with (refine ld_arr rfl (.tmp 2) rfl w.heap.size rfl HR.out ?_)
   go_at_call 101
   (refine(RK.out _ (H.out.below BB.out.below)).mono ?_)
   rintro e w2 ⟨rfl,hb2⟩;have HE:=Lib.hid (WB.out _ _ (BB.out.go hb2).below HEE.out);clear hb2;go_wp2_with fail;go_ret;exact HE.out
 · have dz : ((r : Int) == 0) = false := beq_eq_false_iff_ne.2 (by omega)
   by_cases h1:r=R
   · have d1:((r:Int) != (R:Int))=false:=by rw[h1];exact bne_self_eq_false _
     cases hsb:sameB S T r with
     | true =>
      have HEE:Hid (fiE r S R T=0):=Lib.hid (by unfold fiE;rw[if_neg h0,if_neg (by omega),if_pos hsb]);rw[hsb,decide_eq_true h1]at SM;clear h0 hsb h1;go_enter Tryz.func40,Tryz.ntmps40
      go_wp2_with (refine ld_arr rfl (.tmp 2) rfl w.heap.size rfl HR.out ?_)
      go_at_call 101
      (refine(RK.out _ (H.out.below BB.out.below)).mono ?_)
      rintro e w2 ⟨rfl,hb2⟩;have BB:=bgo BB hb2;have HR:=Lib.hid BB.out.now.1;clear hb2
      go_wp2_with (refine ld_arr rfl (.tmp 2) rfl w.heap.size rfl HR.out ?_)
      go_at_call 101
      (refine(RK.out _ (H.out.below BB.out.below)).mono ?_)
      rintro e w2 ⟨rfl,hb2⟩;have BB:=bgo BB hb2;have HR:=Lib.hid BB.out.now.1;clear hb2
      go_wp2_with (refine ld_arr rfl (.tmp 2) rfl w.heap.size rfl HR.out ?_)
      go_at_call 39
      (refine(SHP.out _ (H.out.below BB.out.below)).mono ?_)
      rintro e w3 ⟨g2,c2,rfl,_,_,hk2,hb2⟩;have BB:=bgo BB hb2;have HK2:=Lib.hid hk2;clear hk2 hb2 HR;go_wp2_with fail;go_at_call 91
      (refine(SM.out _ _ _ HK2.out (HT.out.below BB.out.below)).mono ?_)
      rintro e w4 ⟨rfl,hb2⟩;have HE:=Lib.hid (WB.out _ _ (BB.out.go hb2).below HEE.out);clear hb2;go_wp2_with fail;go_ret;exact HE.out
     | false =>
      have HEE:Hid (fiE r S R T=24):=Lib.hid (by unfold fiE;rw[if_neg h0,if_neg (by omega),if_neg (by rw[hsb];decide)]);rw[hsb,Bool.and_false]at SM;clear h0 hsb h1;go_enter Tryz.func40,Tryz.ntmps40
      go_wp2_with (refine ld_arr rfl (.tmp 2) rfl w.heap.size rfl HR.out ?_)
      go_at_call 101
      (refine(RK.out _ (H.out.below BB.out.below)).mono ?_)
      rintro e w2 ⟨rfl,hb2⟩;have BB:=bgo BB hb2;have HR:=Lib.hid BB.out.now.1;clear hb2
      go_wp2_with (refine ld_arr rfl (.tmp 2) rfl w.heap.size rfl HR.out ?_)
      go_at_call 101
      (refine(RK.out _ (H.out.below BB.out.below)).mono ?_)
      rintro e w2 ⟨rfl,hb2⟩;have BB:=bgo BB hb2;have HR:=Lib.hid BB.out.now.1;clear hb2
      go_wp2_with (refine ld_arr rfl (.tmp 2) rfl w.heap.size rfl HR.out ?_)
      go_at_call 39
      (refine(SHP.out _ (H.out.below BB.out.below)).mono ?_)
      rintro e w3 ⟨g2,c2,rfl,_,_,hk2,hb2⟩;have BB:=bgo BB hb2;have HK2:=Lib.hid hk2;clear hk2 hb2 HR;go_wp2_with fail;go_at_call 91
      (refine(SM.out _ _ _ HK2.out (HT.out.below BB.out.below)).mono ?_)
      rintro e w4 ⟨rfl,hb2⟩;have HE:=Lib.hid (WB.out _ _ (BB.out.go hb2).below HEE.out);clear hb2;go_wp2_with fail;go_ret;exact HE.out
   · have d1:((r:Int) != (R:Int))=true:=bne_iff_ne.2 (by omega);have HEE:Hid (fiE r S R T=23):=Lib.hid (by unfold fiE;rw[if_neg h0,if_pos h1]);clear h0 h1;go_enter Tryz.func40,Tryz.ntmps40
     go_wp2_with (refine ld_arr rfl (.tmp 2) rfl w.heap.size rfl HR.out ?_)
     go_at_call 101
     (refine(RK.out _ (H.out.below BB.out.below)).mono ?_)
     rintro e w2 ⟨rfl,hb2⟩;have BB:=bgo BB hb2;have HR:=Lib.hid BB.out.now.1;clear hb2
     go_wp2_with (refine ld_arr rfl (.tmp 2) rfl w.heap.size rfl HR.out ?_)
     go_at_call 101
     (refine(RK.out _ (H.out.below BB.out.below)).mono ?_)
     rintro e w2 ⟨rfl,hb2⟩;have HE:=Lib.hid (WB.out _ _ (BB.out.go hb2).below HEE.out);clear hb2;go_wp2_with fail;go_ret;exact HE.out
def puF{α:Type}(G:Nat->Int)(V:Nat->α):Nat->(Nat->α)->Nat->α
 | 0,f=>f
 | k+1,f=>fun p=>if (p:Int)=G k then V k else puF G V k f p
def CBox(w:World)(g n:Nat)(f:Nat->Int):Prop:=g<w.heap.size/\Free w g/\∀j,j<n->w.cell? ⟨g,j,none⟩=some (.int .i32 (f j))
theorem CBox.below{w w':World}{g n:Nat}{f:Nat->Int}(h:CBox w g n f)(hb:Below w.heap.size w w'):CBox w' g n f :=
 ⟨Nat.lt_of_lt_of_le h.1 hb.size,h.2.1.below hb h.1,fun j hj=>(hb.cell (p:=⟨g,j,none⟩) h.1).trans (h.2.2 j hj)⟩
theorem CBox.put{w:World}{g n p:Nat}{f:Nat->Int}(h:CBox w g n f)(hp:p<n)(x:Int):CBox (w.setCell ⟨g,p,none⟩ (.int .i32 x)) g n (fun j=>if j=p then x else f j):=by
 obtain⟨h1,h2,h3⟩:=h;refine⟨by simpa using h1,h2.set _ _,fun j hj => ?_⟩
 by_cases e:j=p
 · subst e;simp only[if_true];exact World.cell?_setCell_same w ⟨g,j,none⟩ _ (h3 j hj)
 · simp only[if_neg e];exact(World.cell?_setCell_other _ _ _ _ (fun h=>by injection h with _ h;omega)).trans (h3 j hj)
theorem CBox.krow{w:World}{g n c:Nat}{f:Nat->Int}(h:CBox w g n f)(h1:n<=c)(h2:c<=maxLen):KRow w .i32 (some ⟨g,0,none⟩) n c f:=⟨h1,h2,.inr ⟨g,0,rfl,h.1,fun j hj=>by rw[Nat.zero_add];exact h.2.2 j hj⟩⟩
theorem CBox.congr{w:World}{g n:Nat}{f f':Nat->Int}(h:CBox w g n f)(e:∀j,j<n->f j=f' j):CBox w g n f':=⟨h.1,h.2.1,fun j hj=>by rw[← e j hj];exact h.2.2 j hj⟩
theorem cloneC_new (a : Option Addr) (n c : Nat) (f : Nat -> Int) (w : World) (h : KRow w .i32 a n c f) (h0 : 0 < n) (hn : n <= 1000000) :
    Calls Tryz.prog 103 #[.slice a n c] w fun e w'=>∃g c',e=.returned (.slice (some ⟨g,0,none⟩) n c')/\w.heap.size<=g/\CBox w' g n f/\n<=c'/\c'<=maxLen/\Below w.heap.size w w':=by
 obtain⟨i0,hi,hz0,hz1,hz2⟩:=info_parts infoC;have q22:∀(w:World) (a:Option Addr) (n c n' c':Nat),(binOp .eql 23 (.slice a n c) (.slice none n' c')).run Tryz.prog w=.ok (.bool a.isNone) w:=fun w a n c n' c'=>Lib.run_eql_slice_nil w _ _ a n c n' c' Tryz.underlying23
 obtain⟨b,off,rfl,hb,_⟩:=h.get h0
 have hc:∀j,j<n->w.cell? ⟨b,off+j,none⟩=some (.int .i32 (f j)):=fun j hj=>by
  obtain⟨b',off',e,_,q⟩:=h.get hj
  cases e
  exact q
 have hg:∀j,j<n->((List.range n).map fun j=>Value.int .i32 (f j))[j]? = some (.int .i32 (f j)):=fun j hj=>by rw[List.getElem?_map,List.getElem?_range hj];rfl
 obtain⟨news,hl,hcell,hone,hrat⟩:∃news:List Value,news.length=n*1/\(∀j u,news[j]? = some u->w.cell? ((⟨b,off,none⟩:Addr).add j)=some u)/\(∀u ∈ news,u.oneCell'=true)/\∀j,j<n->news[j]? = some (.int .i32 (f j)):=by
  refine⟨(List.range n).map fun j=>.int .i32 (f j),by simp,fun j u hu => ?_,fun u hu => ?_,hg⟩
  · have hj:j<n:=by
      have:=(List.getElem?_eq_some_iff.1 hu).1
      simpa using this
    rw[hg j hj]at hu;obtain rfl:=Option.some.inj hu;rw[show(⟨b,off,none⟩:Addr).add j=⟨b,off+j,none⟩by simp[Addr.add]];exact hc j hj
  · obtain⟨j,_,rfl⟩:=List.mem_map.1 hu
    rfl
 have HC:=Lib.hid hcell;have HO:=Lib.hid hone;have HR:=Lib.hid hrat
 have HL:=Lib.hid hl;have HN:=Lib.hid hn;have H0:=Lib.hid h0;clear hcell hone hrat hl h hn hg hc h0;go_enter Tryz.func103,Tryz.ntmps103
 go_wp2_with (at_builtin;refine wpList_append_own _ rfl _ _ 23 rfl w.heap.size 21 i0 _ 1 4 Tryz.underlying23 hi hz0 hz1 hz2 rfl (by omega) _ _ _ rfl (World.ownsRow_made w #[] 0 (Nat.le_refl _) (Nat.zero_le _) (by simp)) ⟨b,off,none⟩ n c news rfl ?qc1 ?qc2 ?qc3 ?qc4 ?qc5 ?qc6 ?_)
 case qc1=>exact HL.out
 case qc2=>exact fun j u hj=>Lib.cell?_alloc_some _ (HC.out j u hj)
 case qc3=>exact HO.out
 case qc4=>have:=HN.out;unfold maxLen;omega
 case qc5=>have:=HN.out;omega
 case qc6=>simp
 intro v' w1 hown hgrow hnil;have hb:Below w.heap.size w w1:=((Below.refl _ w).alloc (Nat.le_refl _) _).grown hgrow (by simp) (by intro k hk;simp[Value.ownBlock]at hk;omega)
 have HE:Hid (∃g c',v'=.slice (some ⟨g,0,none⟩) n c'/\w.heap.size<=g/\CBox w1 g n f/\n<=c'/\c'<=maxLen):=by
  rcases hown.2 with ⟨rfl,h0⟩|⟨g,cap,cur,rfl,hge,hh,h1,h2,_,hcs⟩
  · have:=H0.out;omega
  · refine⟨g,cap,rfl,hge,⟨Row.lt (t:=21) hh,fun o=>Row.free (t:=21) hh o,fun j hj => ?_⟩,h1,h2⟩;have:=hown.cells (g:=g) rfl j _ (HR.out j hj)
    rwa [show(⟨g,0,none⟩:Addr).add j=⟨g,j,none⟩by unfold Addr.add;split<;>simp_all]at this
 have HB:=Lib.hid hb;clear hown hgrow hnil hb;go_wp2;go_ret;obtain⟨a',c',rfl,h⟩:=HE.out;exact⟨a',c',rfl,h.1,h.2.1,h.2.2.1,h.2.2.2,HB.out⟩
theorem cloneR_new (a : Option Addr) (n c : Nat) (fP : Nat -> Int) (fQ : Nat -> Nat) (w : World) (h : RRow w a n c fP fQ) (h0 : 0 < n) (hn : n <= 1000000) :
    Calls Tryz.prog 104 #[.slice a n c] w fun e w'=>∃g c',e=.returned (.slice (some ⟨g,0,none⟩) n c')/\w.heap.size<=g/\RatsTo w' g n n fP fQ/\n<=c'/\c'<=maxLen/\Below w.heap.size w w':=by
 obtain⟨i0,hi,hz0,hz1,hz2⟩:=info_parts infoR;have q22:∀(w:World) (a:Option Addr) (n c n' c':Nat),(binOp .eql 34 (.slice a n c) (.slice none n' c')).run Tryz.prog w=.ok (.bool a.isNone) w:=fun w a n c n' c'=>Lib.run_eql_slice_nil w _ _ a n c n' c' Tryz.underlying34
 obtain⟨b,off,_,_,_,_,_,_,_,rfl,hb,_⟩:=h.get h0
 have hc:∀j,j<n->∃a' n' c' m' a2' n2' c2',w.cell? ⟨b,off+j*3,none⟩=some (.slice a' n' c')/\w.cell? ⟨b,off+j*3+1,none⟩=some (.bool m')/\w.cell? ⟨b,off+j*3+2,none⟩=some (.slice a2' n2' c2')/\RatAt w a' n' c' m' a2' n2' c2' (fP j) (fQ j):=fun j hj=>by
  obtain⟨b',off',a',n',c',m',a2',n2',c2',e,_,q⟩:=h.get hj
  cases e
  exact⟨a',n',c',m',a2',n2',c2',q⟩
 obtain⟨news,hl,hcell,hone,hrat⟩:∃news:List Value,news.length=n*3/\(∀j u,news[j]? = some u->w.cell? ((⟨b,off,none⟩:Addr).add j)=some u)/\(∀u ∈ news,u.oneCell'=true) /\
     ∀j,j<n->∃a' n' c' m' a2' n2' c2',news[j*3]? = some (.slice a' n' c')/\news[j*3+1]? = some (.bool m')/\news[j*3+2]? = some (.slice a2' n2' c2')/\RatAt w a' n' c' m' a2' n2' c2' (fP j) (fQ j):=by
  have hs:∀i,i<n*3->∃u,w.cell? ⟨b,off+i,none⟩=some u/\u.oneCell'=true:=three (p:=fun i=>∃u,w.cell? ⟨b,off+i,none⟩=some u/\u.oneCell'=true) fun j hj=>by
   obtain⟨a',n',c',m',a2',n2',c2',e1,e2,e3,_⟩:=hc j hj;exact⟨⟨_,e1,rfl⟩,⟨_,e2,rfl⟩,⟨_,e3,rfl⟩⟩
  have hs':∀i,i<n*3->(w.cell? ⟨b,off+i,none⟩).isSome=true:=fun i hi=>by obtain⟨u,hu,_⟩:=hs i hi;rw[hu];rfl
  refine⟨lies w b off (n*3),lies_length _ _ _ _,fun j u hu => ?_,fun u hu => ?_,fun j hj => ?_⟩
  · rw[show(⟨b,off,none⟩:Addr).add j=⟨b,off+j,none⟩by simp[Addr.add]];exact lies_get hu hs'
  · obtain⟨j,hj⟩:=List.getElem?_of_mem hu;have hl:=(List.getElem?_eq_some_iff.1 hj).1;rw[lies_length]at hl;obtain⟨v,hv,h1⟩:=hs j hl;have:=lies_get hj hs';rw[hv]at this;obtain rfl:=Option.some.inj this;exact h1
  · obtain⟨a',n',c',m',a2',n2',c2',e1,e2,e3,hr⟩:=hc j hj;exact⟨a',n',c',m',a2',n2',c2',lies_at (by omega) e1,lies_at (by omega) e2,lies_at (by omega) e3,hr⟩
 have HC:=Lib.hid hcell;have HO:=Lib.hid hone;have HR:=Lib.hid hrat
 have HL:=Lib.hid hl;have HN:=Lib.hid hn;have H0:=Lib.hid h0;clear hcell hone hrat hl h hn hc h0;go_enter Tryz.func104,Tryz.ntmps104
 go_wp2_with (at_builtin;refine wpList_append_own _ rfl _ _ 34 rfl w.heap.size 53 i0 _ 3 56 Tryz.underlying34 hi hz0 hz1 hz2 rfl (by omega) _ _ _ rfl (World.ownsRow_made w #[] 0 (Nat.le_refl _) (Nat.zero_le _) (by simp)) ⟨b,off,none⟩ n c news rfl ?qc1 ?qc2 ?qc3 ?qc4 ?qc5 ?qc6 ?_)
 case qc1=>exact HL.out
 case qc2=>exact fun j u hj=>Lib.cell?_alloc_some _ (HC.out j u hj)
 case qc3=>exact HO.out
 case qc4=>have:=HN.out;unfold maxLen;omega
 case qc5=>have:=HN.out;omega
 case qc6=>simp
 intro v' w1 hown hgrow hnil;have hb:Below w.heap.size w w1:=((Below.refl _ w).alloc (Nat.le_refl _) _).grown hgrow (by simp) (by intro k hk;simp[Value.ownBlock]at hk;omega)
 have HE:Hid (∃g c',v'=.slice (some ⟨g,0,none⟩) n c'/\w.heap.size<=g/\RatsTo w1 g n n fP fQ/\n<=c'/\c'<=maxLen):=by
  rcases hown.2 with ⟨rfl,h0⟩|⟨g,cap,cur,rfl,hge,hh,h1,h2,_,hcs⟩
  · have:=H0.out;omega
  · refine⟨g,cap,rfl,hge,⟨Row.lt (t:=53) hh,fun o=>Row.free (t:=53) hh o,fun j hj => ?_⟩,h1,h2⟩;obtain⟨a',n',c',m',a2',n2',c2',e1,e2,e3,hr⟩:=HR.out j hj;have hc:=hown.cells (g:=g) rfl
    have hc':∀i u,news[i]? = some u->w1.cell? ⟨g,i,none⟩=some u:=fun i u hu=>by
     have:=hc i u hu
     rwa [show(⟨g,0,none⟩:Addr).add i=⟨g,i,none⟩by unfold Addr.add;split<;>simp_all]at this
    exact⟨a',n',c',m',a2',n2',c2',hc' _ _ e1,hc' _ _ e2,hc' _ _ e3,fun _=>hr.below hb⟩
 have HB:=Lib.hid hb;clear hown hgrow hnil hb;go_wp2;go_ret;obtain⟨a',c',rfl,h⟩:=HE.out;exact⟨a',c',rfl,h.1,h.2.1,h.2.2.1,h.2.2.2,HB.out⟩
theorem runes_new (more : Int) (d : Nat -> Int) (na : Option Addr) (nn nc : Nat) (ta : Option Addr) (tn tc : Nat) (g : Nat -> Int) (w : World) (h : KRow w .i32 ta tn tc g) (h0 : 0 < tn) (ht : tn <= 1000000) :
    Calls Tryz.prog 44 #[.agg (arrC true more d na nn nc ta tn tc)] w fun e w'=>∃b c,e=.returned (.slice (some ⟨b,0,none⟩) tn c)/\w.heap.size<=b/\CBox w' b tn g/\tn<=c/\c<=maxLen/\Below w.heap.size w w':=by
 have CL:=Lib.hid (fun wz h=>cloneC_new ta tn tc g wz h h0 ht);have BB:=Lib.hid (((Bag.start w).krow h).newRow (arrC true more d na nn nc ta tn tc) 36);clear h h0;unfold arrC at BB;unfold arrC;go_enter Tryz.func44,Tryz.ntmps44;go_wp2_with fail;go_at_call 103;refine(CL.out _ BB.out.now.2.1).mono ?_;rintro e w3 ⟨b3,c3,rfl,hg3,hk3,hc3,hc4,hb3⟩;have HE:=Lib.hid (And.intro (show w.heap.size<=b3 by have:=BB.out.below.size;omega) (And.intro hk3 (BB.out.go hb3).below));clear hk3 hb3 hg3;go_wp2;go_ret;exact⟨b3,c3,rfl,HE.out.1,HE.out.2.1,hc3,hc4,HE.out.2.2⟩
theorem rats_new (more : Int) (d : Nat -> Int) (na : Option Addr) (nn nc : Nat) (ta : Option Addr) (tn tc : Nat) (fP : Nat -> Int) (fQ : Nat -> Nat) (w : World) (h : RRow w na nn nc fP fQ) (h0 : 0 < nn) (hn : nn <= 1000000) :
    Calls Tryz.prog 47 #[.agg (arrC false more d na nn nc ta tn tc)] w fun e w'=>∃b c,e=.returned (.slice (some ⟨b,0,none⟩) nn c)/\w.heap.size<=b/\RatsTo w' b nn nn fP fQ/\nn<=c/\c<=maxLen/\Below w.heap.size w w':=by
 have CL:=Lib.hid (fun wz h=>cloneR_new na nn nc fP fQ wz h h0 hn);have BB:=Lib.hid (((Bag.start w).rrow h).newRow (arrC false more d na nn nc ta tn tc) 36);clear h h0;unfold arrC at BB;unfold arrC;go_enter Tryz.func47,Tryz.ntmps47;go_wp2_with fail;go_at_call 104;refine(CL.out _ BB.out.now.2.1).mono ?_;rintro e w3 ⟨b3,c3,rfl,hg3,hk3,hc3,hc4,hb3⟩;have HE:=Lib.hid (And.intro (show w.heap.size<=b3 by have:=BB.out.below.size;omega) (And.intro hk3 (BB.out.go hb3).below));clear hk3 hb3 hg3;go_wp2;go_ret;exact⟨b3,c3,rfl,HE.out.1,HE.out.2.1,hc3,hc4,HE.out.2.2⟩
def Own1(g:Nat)(w w':World):Prop:=Far g w w'/\∀w0:World,Below w0.heap.size w0 w->w0.heap.size<=g->Below w0.heap.size w0 w'
theorem Own1.refl(g:Nat)(w:World):Own1 g w w:=⟨Far.refl _ _,fun _ h _=>h⟩
theorem Own1.set{g:Nat}{w w1:World}(h:Own1 g w w1)(o:Nat)(v:Value):Own1 g w (w1.setCell ⟨g,o,none⟩ v):=⟨h.1.trans (Far.setCell _ _ _ _),fun w0 hb hg=>(h.2 w0 hb hg).setCell (p:=⟨g,o,none⟩) hg _⟩
theorem putC_any (g n c : Nat) (f : Nat -> Int) (a2 : Option Addr) (m c2 : Nat) (G : Nat -> Int) (a3 : Option Addr) (k c3 : Nat) (V : Nat -> Int) (w : World) (hb : CBox w g n f) (hc : n <= c /\ c <= maxLen) (h2 : KRow w .i64 a2 m c2 G) (h3 : KRow w .i32 a3 k c3 V)
    (hne2:∀x,a2=some x->x.block≠g) (hne3:∀x,a3=some x->x.block≠g) (hk:0<k) (hG:∀j,j<m->0<=G j/\G j<n) :
    Calls Tryz.prog 43 #[.slice (some ⟨g,0,none⟩) n c,.slice a2 m c2,.slice a3 k c3] w fun e w'=>e=.returned (.slice (some ⟨g,0,none⟩) n c)/\CBox w' g n (puF G (fun j=>V (j%k)) m f)/\Own1 g w w':=by
 have hl2:=h2.len;have hl3:=h3.len;have hcm:=hc.2;unfold maxLen at hcm;have H2:=Lib.hid h2;have H3:=Lib.hid h3;have HN2:=Lib.hid hne2;have HN3:=Lib.hid hne3;have HG:=Lib.hid hG;have H0:=Lib.hid hb;have hk0:(0:Int)<k:=by omega
 clear h2 h3 hne2 hne3 hG hb;go_enter Tryz.func43,Tryz.ntmps43;go_wp2_with fail
 go_loopw [11] (fun i wr=>∃j:Nat,j<=m/\i=.int .i64 j/\Hid (CBox wr g n (puF G (fun j=>V (j%k)) j f)/\Own1 g w wr)) (fun i _=>m-(intOf i).toNat)
 case atStart=>exact⟨0,by omega,rfl,H0.out,Own1.refl _ _⟩
 case round =>
  obtain⟨j,hj,rfl,hrel⟩:=hrel;obtain⟨hbx,hfar⟩:=hrel.out
  by_cases hlt:j<m
  · have hj0:(0:Int)<=j:=by omega
    have hj1:(j:Int)<m:=by omega
    obtain⟨b,off,rfl,hlb,hcg⟩:=(H2.out.away (.inr HN2.out) hfar.1).get hlt;have hlt3:j%k<k:=Nat.mod_lt _ hk;obtain⟨b3,off3,rfl,hlb3,hcv⟩:=(H3.out.away (.inr HN3.out) hfar.1).get hlt3;have hGj:=HG.out j hlt;have e9:(j:Int).tmod (k:Int)=((j%k:Nat):Int):=by rw[Int.tmod_eq_emod_of_nonneg (by omega)];rfl
    have e0:((j%k:Nat):Int)<(k:Int):=by omega
    have e8:(j:Int)%(k:Int)=((j%k:Nat):Int):=rfl;obtain⟨p,hp⟩:∃p:Nat,G j=(p:Int):=⟨(G j).toNat,by omega⟩
    have hpn:p<n:=by omega
    have hpn2:(p:Int)<n:=by omega
    have x1:=hbx.2.2 p hpn;have y1:=hbx.2.1 p
    have HN:Hid (CBox (wr.setCell ⟨g,p,none⟩ (.int .i32 (V (j%k)))) g n (puF G (fun j=>V (j%k)) (j+1) f)/\Own1 g w (wr.setCell ⟨g,p,none⟩ (.int .i32 (V (j%k))))):=Lib.hid ⟨(hbx.put hpn (V (j%k))).congr (fun q _=>by
     show(if q=p then V (j%k)else puF G (fun j=>V (j%k)) j f q)=if (q:Int)=G j then V (j%k)else puF G (fun j=>V (j%k)) j f q
     by_cases e:q=p
     · rw[if_pos e,if_pos (by omega)]
     · rw[if_neg e,if_neg (by omega)]),hfar.set _ _⟩
    rw[hp]at hcg;clear hrel hbx hfar hp hGj;generalize V (j%k)=vv at *;generalize hjk:j%k=jk at *;go_wp2_with fail
    go_roundw
    case rel=>exact⟨j+1,by omega,by go_num,HN.out⟩
    case measure=>simp[intOf];omega
  · obtain rfl:j=m:=by omega
    have HE:=Lib.hid (And.intro hbx hfar);clear hrel hbx hfar;go_wp2;go_ret;exact⟨rfl,HE.out⟩
theorem NatIs.put3 {w : World} {g o : Nat} {x0 x1 x2 : Value} {v : Value} {N : Nat} (h : NatIs w v N) (q0 : w.cell? ⟨g, o, none⟩ = some x0) (q1 : w.cell? ⟨g, o + 1, none⟩ = some x1) (q2 : w.cell? ⟨g, o + 2, none⟩ = some x2)
    (n0:∀ki z,x0 ≠ .int ki z) (n1:∀ki z,x1 ≠ .int ki z) (n2:∀ki z,x2 ≠ .int ki z) (u0 u1 u2:Value):NatIs (((w.setCell ⟨g,o,none⟩ u0).setCell ⟨g,o+1,none⟩ u1).setCell ⟨g,o+2,none⟩ u2) v N:=by
 refine((h.storeAt q0 n0 _).storeAt (x:=x1) ?_ n1 _).storeAt (x:=x2) ?_ n2 _
 · rw[World.cell?_setCell_other _ _ _ _ (fun e=>by injection e with _ e;omega)];exact q1
 · rw[World.cell?_setCell_other _ _ _ _ (fun e=>by injection e with _ e;omega),World.cell?_setCell_other _ _ _ _ (fun e=>by injection e with _ e;omega)];exact q2
theorem RatsTo.put {w : World} {g n : Nat} {fP : Nat -> Int} {fQ : Nat -> Nat} (h : RatsTo w g n n fP fQ) {k : Nat} (hk : k < n) {a : Option Addr} {n' c : Nat} {m : Bool} {a2 : Option Addr} {n2 c2 : Nat} {P : Int} {Q : Nat} (hr : RatAt w a n' c m a2 n2 c2 P Q) :
    RatsTo (((w.setCell ⟨g,k*3,none⟩ (.slice a n' c)).setCell ⟨g,k*3+1,none⟩ (.bool m)).setCell ⟨g,k*3+2,none⟩ (.slice a2 n2 c2)) g n n (fun j=>if j=k then P else fP j) (fun j=>if j=k then Q else fQ j):=by
 obtain⟨h1,h2,h3⟩:=h;obtain⟨b,l,d,v,b2,l2,d2,x1,x2,x3,_⟩:=h3 k hk
 have keepR:∀a5 n5 c5 m5 a6 n6 c6 P Q,RatAt w a5 n5 c5 m5 a6 n6 c6 P Q->RatAt (((w.setCell ⟨g,k*3,none⟩ (.slice a n' c)).setCell ⟨g,k*3+1,none⟩ (.bool m)).setCell ⟨g,k*3+2,none⟩ (.slice a2 n2 c2)) a5 n5 c5 m5 a6 n6 c6 P Q:=fun _ _ _ _ _ _ _ _ _ hq =>
  ⟨⟨hq.1.1,hq.1.2.put3 x1 x2 x3 (fun _ _ h=>by cases h) (fun _ _ h=>by cases h) (fun _ _ h=>by cases h) _ _ _⟩,hq.2.put3 x1 x2 x3 (fun _ _ h=>by cases h) (fun _ _ h=>by cases h) (fun _ _ h=>by cases h) _ _ _⟩
 refine⟨by simpa using h1,((h2.set _ _).set _ _).set _ _,fun j hj => ?_⟩
 by_cases e:j=k
 · subst e
   refine⟨a,n',c,m,a2,n2,c2,?_,?_,?_,fun _ => ?_⟩
   · rw[World.cell?_setCell_other _ _ _ _ (fun e=>by injection e with _ e;omega),World.cell?_setCell_other _ _ _ _ (fun e=>by injection e with _ e;omega)];exact World.cell?_setCell_same _ _ _ x1
   · rw[World.cell?_setCell_other _ _ _ _ (fun e=>by injection e with _ e;omega)];refine World.cell?_setCell_same (u:=.bool v) _ _ _ ?_;rw[World.cell?_setCell_other _ _ _ _ (fun e=>by injection e with _ e;omega)];exact x2
   · refine World.cell?_setCell_same (u:=.slice b2 l2 d2) _ _ _ ?_;rw[World.cell?_setCell_other _ _ _ _ (fun e=>by injection e with _ e;omega),World.cell?_setCell_other _ _ _ _ (fun e=>by injection e with _ e;omega)];exact x3
   · simp only[if_true];exact keepR _ _ _ _ _ _ _ _ _ hr
 · obtain⟨a',n9,c',m',a2',n2',c2',e1,e2,e3,e4⟩:=h3 j hj
   have far:∀o,(o=j*3∨o=j*3+1∨o=j*3+2)->(((w.setCell ⟨g,k*3,none⟩ (.slice a n' c)).setCell ⟨g,k*3+1,none⟩ (.bool m)).setCell ⟨g,k*3+2,none⟩ (.slice a2 n2 c2)).cell? ⟨g,o,none⟩=w.cell? ⟨g,o,none⟩:=by
    intro o ho;rw[World.cell?_setCell_other _ _ _ _ (fun e=>by injection e with _ e;omega),World.cell?_setCell_other _ _ _ _ (fun e=>by injection e with _ e;omega),World.cell?_setCell_other _ _ _ _ (fun e=>by injection e with _ e;omega)]
   refine⟨a',n9,c',m',a2',n2',c2',(far _ (.inl rfl)).trans e1,(far _ (.inr (.inl rfl))).trans e2,(far _ (.inr (.inr rfl))).trans e3,fun _ => ?_⟩;simp only[if_neg e];exact keepR _ _ _ _ _ _ _ _ _ (e4 hj)
theorem RatsTo.congr{w:World}{g n:Nat}{fP fP':Nat->Int}{fQ fQ':Nat->Nat}(h:RatsTo w g n n fP fQ)(e:∀j,j<n->fP j=fP' j/\fQ j=fQ' j):RatsTo w g n n fP' fQ':=by
 refine⟨h.1,h.2.1,fun j hj => ?_⟩;obtain⟨a,n',c,m,a2,n2,c2,e1,e2,e3,e4⟩:=h.2.2 j hj;rw[← (e j hj).1,← (e j hj).2];exact⟨a,n',c,m,a2,n2,c2,e1,e2,e3,e4⟩
theorem RatsTo.rrow{w:World}{g n c:Nat}{fP:Nat->Int}{fQ:Nat->Nat}(h:RatsTo w g n n fP fQ)(h1:n<=c)(h2:c<=maxLen):RRow w (some ⟨g,0,none⟩) n c fP fQ:=by
 obtain⟨_,_,q⟩:=h.done (by omega);exact⟨h1,h2,q⟩
theorem RatAt.put3 {w : World} {g o : Nat} {x0 x1 x2 : Value} {a5 : Option Addr} {n5 c5 : Nat} {m5 : Bool} {a6 : Option Addr} {n6 c6 : Nat} {P : Int} {Q : Nat} (h : RatAt w a5 n5 c5 m5 a6 n6 c6 P Q) (q0 : w.cell? ⟨g, o, none⟩ = some x0) (q1 : w.cell? ⟨g, o + 1, none⟩ = some x1) (q2 : w.cell? ⟨g, o + 2, none⟩ = some x2)
    (n0:∀ki z,x0 ≠ .int ki z) (n1:∀ki z,x1 ≠ .int ki z) (n2:∀ki z,x2 ≠ .int ki z) (u0 u1 u2:Value):RatAt (((w.setCell ⟨g,o,none⟩ u0).setCell ⟨g,o+1,none⟩ u1).setCell ⟨g,o+2,none⟩ u2) a5 n5 c5 m5 a6 n6 c6 P Q :=
 ⟨⟨h.1.1,h.1.2.put3 q0 q1 q2 n0 n1 n2 _ _ _⟩,h.2.put3 q0 q1 q2 n0 n1 n2 _ _ _⟩
theorem RRow.put3 {w : World} {g o : Nat} {x0 x1 x2 : Value} {a3 : Option Addr} {k c3 : Nat} {VP : Nat -> Int} {VQ : Nat -> Nat} (h : RRow w a3 k c3 VP VQ) (hne : ∀ x, a3 = some x -> x.block ≠ g) (q0 : w.cell? ⟨g, o, none⟩ = some x0) (q1 : w.cell? ⟨g, o + 1, none⟩ = some x1) (q2 : w.cell? ⟨g, o + 2, none⟩ = some x2)
    (n0:∀ki z,x0 ≠ .int ki z) (n1:∀ki z,x1 ≠ .int ki z) (n2:∀ki z,x2 ≠ .int ki z) (u0 u1 u2:Value):RRow (((w.setCell ⟨g,o,none⟩ u0).setCell ⟨g,o+1,none⟩ u1).setCell ⟨g,o+2,none⟩ u2) a3 k c3 VP VQ:=by
 refine⟨h.1,h.2.1,h.2.2.imp id ?_⟩;rintro⟨b,off,rfl,hl,hcc⟩;have hbg:b≠g:=hne _ rfl;refine⟨b,off,rfl,by simpa using hl,fun j hj => ?_⟩;obtain⟨a',n',c',m',a2',n2',c2',e1,e2,e3,hq⟩:=hcc j hj
 have far:∀q,(((w.setCell ⟨g,o,none⟩ u0).setCell ⟨g,o+1,none⟩ u1).setCell ⟨g,o+2,none⟩ u2).cell? ⟨b,q,none⟩=w.cell? ⟨b,q,none⟩:=fun q=>by
  rw[World.cell?_setCell_other _ _ _ _ (fun e=>by injection e with e _;exact hbg e.symm),World.cell?_setCell_other _ _ _ _ (fun e=>by injection e with e _;exact hbg e.symm),World.cell?_setCell_other _ _ _ _ (fun e=>by injection e with e _;exact hbg e.symm)]
 exact⟨a',n',c',m',a2',n2',c2',(far _).trans e1,(far _).trans e2,(far _).trans e3,hq.put3 q0 q1 q2 n0 n1 n2 _ _ _⟩
theorem putR_any (g n c : Nat) (fP : Nat -> Int) (fQ : Nat -> Nat) (a2 : Option Addr) (m c2 : Nat) (G : Nat -> Int) (a3 : Option Addr) (k c3 : Nat) (VP : Nat -> Int) (VQ : Nat -> Nat) (w : World) (hb : RatsTo w g n n fP fQ) (hc : n <= c /\ c <= maxLen) (h2 : KRow w .i64 a2 m c2 G) (h3 : RRow w a3 k c3 VP VQ)
    (hne2:∀x,a2=some x->x.block≠g) (hne3:∀x,a3=some x->x.block≠g) (hk:0<k) (hG:∀j,j<m->0<=G j/\G j<n) :
    Calls Tryz.prog 46 #[.slice (some ⟨g,0,none⟩) n c,.slice a2 m c2,.slice a3 k c3] w fun e w'=>e=.returned (.slice (some ⟨g,0,none⟩) n c)/\RatsTo w' g n n (puF G (fun j=>VP (j%k)) m fP) (puF G (fun j=>VQ (j%k)) m fQ)/\Own1 g w w':=by
 have hl2:=h2.len
 have hl3:k<=c3/\c3<=9223372036854775807:=by
  have q1:=h3.1;have q2:=h3.2.1;unfold maxLen at q2
  omega
 have hcm:=hc.2;unfold maxLen at hcm;have H2:=Lib.hid h2;have H3:=Lib.hid h3;have HN2:=Lib.hid hne2;have HN3:=Lib.hid hne3;have HG:=Lib.hid hG;have H0:=Lib.hid hb;have hk0:(0:Int)<k:=by omega
 clear h2 h3 hne2 hne3 hG hb;go_enter Tryz.func46,Tryz.ntmps46;go_wp2_with fail
 go_loopw [11] (fun i wr=>∃j:Nat,j<=m/\i=.int .i64 j/\Hid (RatsTo wr g n n (puF G (fun j=>VP (j%k)) j fP) (puF G (fun j=>VQ (j%k)) j fQ)/\Own1 g w wr/\RRow wr a3 k c3 VP VQ)) (fun i _=>m-(intOf i).toNat)
 case atStart=>exact⟨0,by omega,rfl,H0.out,Own1.refl _ _,H3.out⟩
 case round =>
  obtain⟨j,hj,rfl,hrel⟩:=hrel;obtain⟨hbx,hfar,hr3⟩:=hrel.out
  by_cases hlt:j<m
  · have hj0 : (0 : Int) <= j := by omega
    have hj1:(j:Int)<m:=by omega
    obtain⟨b,off,rfl,hlb,hcg⟩:=(H2.out.away (.inr HN2.out) hfar.1).get hlt;have hlt3:j%k<k:=Nat.mod_lt _ hk;obtain⟨b3,off3,a9,n9,c9,m9,a8,n8,c8,rfl,hlb3,v1,v2,v3,hrat⟩:=hr3.get hlt3;have hGj:=HG.out j hlt;have e9:(j:Int).tmod (k:Int)=((j%k:Nat):Int):=by rw[Int.tmod_eq_emod_of_nonneg (by omega)];rfl
    have e0:((j%k:Nat):Int)<(k:Int):=by omega
    have e8:(j:Int)%(k:Int)=((j%k:Nat):Int):=rfl;obtain⟨p,hp⟩:∃p:Nat,G j=(p:Int):=⟨(G j).toNat,by omega⟩
    have hpn:p<n:=by omega
    have hpn2:(p:Int)<n:=by omega
    obtain⟨⟨b1,l1,d1,u1,b2,l2,d2,x1,x2,x3⟩,y1,y2,y3⟩:=hbx.place hpn
    have HN:Hid (RatsTo (((wr.setCell ⟨g,p*3,none⟩ (.slice a9 n9 c9)).setCell ⟨g,p*3+1,none⟩ (.bool m9)).setCell ⟨g,p*3+2,none⟩ (.slice a8 n8 c8)) g n n (puF G (fun j=>VP (j%k)) (j+1) fP) (puF G (fun j=>VQ (j%k)) (j+1) fQ)/\Own1 g w (((wr.setCell ⟨g,p*3,none⟩ (.slice a9 n9 c9)).setCell ⟨g,p*3+1,none⟩ (.bool m9)).setCell ⟨g,p*3+2,none⟩ (.slice a8 n8 c8))/\RRow (((wr.setCell ⟨g,p*3,none⟩ (.slice a9 n9 c9)).setCell ⟨g,p*3+1,none⟩ (.bool m9)).setCell ⟨g,p*3+2,none⟩ (.slice a8 n8 c8)) (some ⟨b3,off3,none⟩) k c3 VP VQ):=Lib.hid ⟨(hbx.put hpn hrat).congr (fun q _=>by
     constructor
     · show(if q=p then VP (j%k)else puF G (fun j=>VP (j%k)) j fP q)=if (q:Int)=G j then VP (j%k)else puF G (fun j=>VP (j%k)) j fP q
       by_cases e:q=p
       · rw[if_pos e,if_pos (by omega)]
       · rw[if_neg e,if_neg (by omega)]
     · show(if q=p then VQ (j%k)else puF G (fun j=>VQ (j%k)) j fQ q)=if (q:Int)=G j then VQ (j%k)else puF G (fun j=>VQ (j%k)) j fQ q
       by_cases e:q=p
       · rw[if_pos e,if_pos (by omega)]
       · rw[if_neg e,if_neg (by omega)]),((hfar.set _ _).set _ _).set _ _,hr3.put3 HN3.out x1 x2 x3 (fun _ _ h=>by cases h) (fun _ _ h=>by cases h) (fun _ _ h=>by cases h) _ _ _⟩
    rw[hp]at hcg;clear hrel hbx hfar hp hGj hrat hr3;generalize hjk:j%k=jk at *;go_wp2_with fail
    go_roundw
    case rel=>exact⟨j+1,by omega,by go_num,HN.out⟩
    case measure=>simp[intOf];omega
  · obtain rfl:j=m:=by omega
    have HE:=Lib.hid (And.intro hbx hfar);clear hrel hbx hfar hr3;go_wp2;go_ret;exact⟨rfl,HE.out⟩
end Go.Proofs.YtdmmenaejkpnjaaGreatDoor
