/-
  Texts of this seat, laid together.
-/
import Derived.Laws.OwnMore
import Derived.Deep.RegionHeld3
import Derived.StillTailTactics
import Derived.Laws.StructEq
import Derived.Deep.MidRow
import Derived.Deep.AppendLies
import Derived.Deep.RegionLaw
import Derived.Lib.AppendZeros
import Derived.Laws.AppendOwnNone
import Derived.Below
import Derived.Shelf.Abstract
import Derived.WalkKit
import Derived.WalkSpells
import Derived.Deep.Draws
import Derived.Lib.Hide
import Derived.Lib.TrimByte
import Derived.WalkLawsBesides
import Derived.Laws.CopyOwn
import Derived.Deep.QuietTactic
import Derived.BigQuiet
import Derived.BigRegion
import Derived.RegionTactic
import Derived.Deep.RegionWith
import Derived.IntWalk
import Derived.Lib.SliceRun
import Derived.Lib.Walk
import Derived.Laws.EntriesVeiled
import Derived.ChangeKeysEq
import Derived.Lib.ItoaNum
import Derived.Test.YtdmmenaejkpnjaaGreatDoorO5
set_option maxHeartbeats 12800000
set_option maxRecDepth 100000
set_option linter.unusedSimpArgs false
set_option linter.unusedVariables false
namespace Go.Proofs.YtdmmenaejkpnjaaGreatDoor
open Go.RowKit
attribute [local go_sem ↓] Go.wp_at_zero Go.wp_at_succ
theorem PoTold.of{E E':Int}{S:Nat->Int}{r:Nat}{ch:Bool}{L:Nat}{g:Nat->Int}{fB:Nat->Bool}{fS fT:Nat->ByteArray}{w w':World}{e:Ending}(h:E'=E)(q:PoTold E S r ch L g fB fS fT w w' e):PoTold E' S r ch L g fB fS fT w w' e:=by rw[h];exact q
theorem rpone_any (c0 l : Int) (cs : Array Value) (S : Nat -> Int) (r : Nat) (ch : Bool) (L : Nat) (g g' : Nat -> Int) (fB : Nat -> Bool) (fS fT : Nat -> ByteArray) (fP : Nat -> Int) (fQ : Nat -> Nat) (w : World) (h : Pln w cs S r ch L g fB fS fT) (hok : ∀ j, j < nnO ch L -> fB j = rB (fP j) /\ fS j = rS (fP j) /\ fT j = str (dec (fQ j)) /\ 0 < fQ j /\ dl (fP j).natAbs <= 60 /\ dl (fQ j) <= 60) (hl : l <= 64) (hL : L <= 100000) :
    Calls Tryz.prog 25 #[.int .i32 c0,.agg cs,.int .i64 l] w fun e w'=>PoTold (onE c0 ch L fP fQ l) S r false L g' (fun k=>rB (oP c0 (fP k) (fQ k) l)) (fun k=>rS (oP c0 (fP k) (fQ k) l)) (fun k=>str (dec (oQ c0 (fP k) (fQ k) l))) w w' e:=by
 obtain⟨sa,sc,ta,tc,na,nc,rfl,hk,ht,hn⟩:=h;obtain⟨i0,hi,hz0,hz1,hz2⟩:=info_parts infoN;have HA:=Lib.hid (fun wz=>rhas12_any c0 wz)
 have hcc:(ch&&decide (0<L))=false->nnO ch L=L/\tnO ch L=0:=fun e=>by
  cases ch with
  | false=>exact⟨rfl,rfl⟩
  | true =>
   have:¬0<L:=of_decide_eq_false (by simpa using e);exact⟨by show(0:Nat)=L;omega,by show L=0;omega⟩
 have hcd:(ch&&decide (0<L))=true->0<tnO ch L:=fun e=>by
  cases ch with
  | false=>cases e
  | true =>
   have h9:0<L:=of_decide_eq_true (by simpa using e);exact h9
 have hn8:nnO ch L<=L:=(nnO_le ch L).1;obtain⟨uE,hEE⟩:∃f,(fun k=>oE c0 (fP k) (fQ k) l)=f:=⟨_,rfl⟩
 obtain⟨gB,hgB⟩:∃f,(fun k=>rB (oP c0 (fP k) (fQ k) l))=f:=⟨_,rfl⟩
 obtain⟨gS,hgS⟩:∃f,(fun k=>rS (oP c0 (fP k) (fQ k) l))=f:=⟨_,rfl⟩
 obtain⟨gT,hgT⟩:∃f,(fun k=>str (dec (oQ c0 (fP k) (fQ k) l)))=f:=⟨_,rfl⟩
 have RO:=Lib.hid (fun k (hk:k<nnO ch L) wz=>(show Calls Tryz.prog 84 #[.int .i32 c0,.agg #[.bool (fB k),.string (fS k),.string (fT k)],.int .i64 l] wz fun e w'=>e=.returned (.tuple #[.agg #[.bool (gB k),.string (gS k),.string (gT k)],.int .i64 (uE k)])/\Below wz.heap.size wz w' from by
  obtain⟨e1,e2,e3,q1,q2,q3⟩:=hok k hk;rw[e1,e2,e3,← hEE,← hgB,← hgS,← hgT]
  exact rone_any c0 (fP k) (fQ k) l wz q1 q2 q3 hl))
 have hON:onE c0 ch L fP fQ l=if hasO c0=false then 20 else if (ch&&decide (0<L))=true then 22 else feE uE L:=by rw[← hEE];rfl
 rw[hON,hgB,hgS,hgT];obtain⟨EX,hEX⟩:∃z,(if hasO c0=false then(20:Int)else if (ch&&decide (0<L))=true then 22 else feE uE L)=z:=⟨_,rfl⟩
 rw[hEX];have HXX:=Lib.hid hEX;have KS:=Lib.hid hk;have NS:=Lib.hid hn;have HCC:=Lib.hid (And.intro hcc hcd);obtain⟨n,hnn⟩:∃n,nnO ch L=n:=⟨_,rfl⟩
 rw[hnn]at NS RO hn8;have HNN:=Lib.hid hnn;have hl1:=hn.len;rw[hnn]at hl1;have BB:=Lib.hid (((Bag.start w).newRow (plC sa r sc ch ta (tnO ch L) tc na n nc) 26).newRow plZer 26);simp only[World.size_alloc]at BB;rw[hnn];clear hk ht hn hok hcc hcd hEE hgB hgS hgT hON hEX hnn;unfold plC;go_enter Tryz.func25,Tryz.ntmps25;go_wp2_with fail;go_at_call 83
 (refine(HA.out _).mono ?_)
 rintro e w2 ⟨rfl,hb2⟩;have BB:=bgo BB hb2;clear hb2 HA
 cases hb:hasO c0 with
 | false =>
  have HEX:Hid (EX=20):=Lib.hid (by rw[← HXX.out,hb];rfl);have HNE:Hid ((20:Int)≠0):=Lib.hid (by decide);clear hb;have HR:=Lib.hid BB.out.now.1;have HE:=Lib.hid (PoTold.of HEX.out (PoTold.no (E:=20) (S:=S) (r:=r) (ch:=false) (L:=L) (g:=g') (fB:=gB) (fS:=gS) (fT:=gT) HNE.out (below_put BB.out.below (show w.heap.size<=w.heap.size+1 by omega) plZer)))
  go_wp2_with (refine st_pln rfl (.tmp 6) (.tmp 15) rfl (w.heap.size+1) rfl none 0 0 false none 0 0 none 0 0 rfl HR.out rfl ?_)
  exact bodyPost_ret (res_pln2 Tryz.results25 rfl rfl (HR.out.put _) rfl) rfl HE.out
 | true =>
  have x2:w2.cell? ⟨w.heap.size,2,none⟩=some (.slice ta (tnO ch L) tc):=BB.out.now.2.1.cell 2;have x0:w2.cell? ⟨w.heap.size,0,none⟩=some (.slice sa r sc):=BB.out.now.2.1.cell 0
  cases hd:(ch&&decide (0<L))with
  | true =>
   have HEX:Hid (EX=22):=Lib.hid (by rw[← HXX.out,hb,hd];rfl);have HNE:Hid ((22:Int)≠0):=Lib.hid (by decide);have d0:(0:Int)<((tnO ch L:Nat):Int):=by have:=HCC.out.2 hd;omega
   clear hb hd;have HR:=Lib.hid BB.out.now.1;have HE:=Lib.hid (PoTold.of HEX.out (PoTold.no (E:=22) (S:=S) (r:=r) (ch:=false) (L:=L) (g:=g') (fB:=gB) (fS:=gS) (fT:=gT) HNE.out (below_put BB.out.below (show w.heap.size<=w.heap.size+1 by omega) plZer)))
   go_wp2_with (refine st_pln rfl (.tmp 6) (.tmp 20) rfl (w.heap.size+1) rfl none 0 0 false none 0 0 none 0 0 rfl HR.out rfl ?_)
   exact bodyPost_ret (res_pln2 Tryz.results25 rfl rfl (HR.out.put _) rfl) rfl HE.out
  | false =>
   obtain⟨h1,h2⟩:=HCC.out.1 hd;rw[HNN.out]at h1;have HEX:Hid (EX=feE uE n):=Lib.hid (by rw[← HXX.out,hb,hd,h1];rfl);clear HCC;generalize tnO ch L=tt at *;subst h2;have d0:¬(0:Int)<((0:Nat):Int):=by omega
   have HFIN:Hid (∀(y:World) (a9:Option Addr) (c9:Nat),EX=0->KRow y .i64 sa r sc S->QRow y a9 n c9 gB gS gT->Below w.heap.size w y->Row y (w.heap.size+1) 26 plZer->PoTold EX S r false L g' gB gS gT w (y.setRow (w.heap.size+1) (plC sa r sc false none 0 0 a9 n c9)) (.returned (.tuple #[.agg (plC sa r sc false none 0 0 a9 n c9),.int .i64 0]))):=Lib.hid (fun y a9 c9 h9 k9 q9 b9 r9=>by
    subst h1;rw[h9];have hp:Pln y (plC sa r sc false none 0 0 a9 n c9) S r false n g' gB gS gT:=⟨sa,sc,none,0,a9,c9,rfl,k9,KRow.nought _ _ _ _ (Nat.zero_le _) _,q9⟩
    exact PoTold.yes (hp.put r9 _) (below_put b9 (show w.heap.size<=w.heap.size+1 by omega) _))
   clear hb hd h1 HXX HNN;have hz1s:w.heap.size+1<w2.heap.size:=BB.out.now.1.lt;have BC:=Lib.hid ((((BB.out.krow (KS.out.below BB.out.below)).add (fun _ _ hb q=>QRow.below q hb) (NS.out.below BB.out.below))).newRow (plC sa r sc false none 0 0 none 0 0) 26);clear BB KS NS;have BC:=Lib.hid BC.out;unfold plC at BC;go_wp2_with fail;generalize w2.alloc (.cells #[.slice sa r sc,.bool false,.slice none 0 0,.slice none 0 0] 26)=y0 at *;clear x0 x2 d0;have HY:=Lib.hid (show w2.heap.size<y0.heap.size from BC.out.now.1.lt)
   go_loopw [9] (fun i wr=>∃(k:Nat) (a1:Option Addr) (c1:Nat),k<=n/\i=.int .i64 k/\Hid (Below w.heap.size w wr/\Far w2.heap.size y0 wr/\Row wr w2.heap.size 26 (plC sa r sc false none 0 0 a1 k c1)/\wr.ownsRow y0.heap.size 46 3 (.slice a1 k c1) k (qcs gB gS gT k)/\feE uE k=0)) (fun i _=>n-(intOf i).toNat)
   case atStart=>exact⟨0,none,0,by omega,rfl,BC.out.below,Far.refl _ _,BC.out.now.1,World.ownsRow_nil _ _ _ _,rfl⟩
   case round =>
    obtain⟨k,a1,c1,hk,rfl,hrel⟩:=hrel;obtain⟨hbl,hfar,hrp,hown,hz⟩:=hrel.out;have hr1:Row wr (w.heap.size+1) 26 plZer:=(hfar.block _ (by omega) BC.out.now.2.2.2.1.lt).trans BC.out.now.2.2.2.1
    by_cases hlt:k<n
    · have hq:=BC.out.now.2.1.away (BC.out.now.2.1.apart BC.out.now.1 (noStr_pl _ _ _ _ _ _ _ _ _ _)) hfar;have hr0:=(hfar.block _ (show w.heap.size≠w2.heap.size by omega) BC.out.now.2.2.2.2.1.lt).trans BC.out.now.2.2.2.2.1;obtain⟨b,off,rfl,hb,n1,n2,n3⟩:=hq.get hlt;have x3:wr.cell? ⟨w.heap.size,3,none⟩=some (.slice (some ⟨b,off,none⟩) n nc):=Row.cell hr0 3;have B1:=Lib.hid ((((Bag.start wr).row hr1).own hown).row hrp);have HBL:=Lib.hid hbl;have HF:=Lib.hid hfar;have HLT:=Lib.hid hlt;have HZ:=Lib.hid hz;have HMX:=Lib.hid (show k+1<=maxLen by unfold maxLen;omega);have HMY:=Lib.hid (show(k+1)*40<=140737488355328 by omega);have HONE:=Lib.hid (show ∀u ∈ ([.bool (gB k),.string (gS k),.string (gT k)]:List Value),u.oneCell'=true by intro u hu;simp at hu;rcases hu with rfl|rfl|rfl<;>rfl);have hk0:(0:Int)<=k:=by omega
      have hk1:(k:Int)<n:=by omega
      clear hbl hfar hrp hown hq hr0 hr1 hz hrel;go_wp2_with fail;go_at_call 84
      (refine(RO.out k HLT.out _).mono ?_)
      rintro e w4 ⟨rfl,hb4⟩;clear x3 n1 n2 n3;have B4:=Lib.hid ((B1.out.go hb4).newRow #[.bool (gB k),.string (gS k),.string (gT k)] 46);clear hb4
      by_cases hE:uE k=0
      · have dE:(uE k != 0)=false:=by rw[hE];rfl
        have HZ1:=Lib.hid (feE_step HZ.out hE);clear hE;have u0:(w4.alloc (.cells #[.bool (gB k),.string (gS k),.string (gT k)] 46)).cell? ⟨w4.heap.size,0,none⟩=some (.bool (gB k)):=B4.out.now.1.cell 0;have u1:(w4.alloc (.cells #[.bool (gB k),.string (gS k),.string (gT k)] 46)).cell? ⟨w4.heap.size,1,none⟩=some (.string (gS k)):=B4.out.now.1.cell 1;have u2:(w4.alloc (.cells #[.bool (gB k),.string (gS k),.string (gT k)] 46)).cell? ⟨w4.heap.size,2,none⟩=some (.string (gT k)):=B4.out.now.1.cell 2;have qp:(w4.alloc (.cells #[.bool (gB k),.string (gS k),.string (gT k)] 46)).cell? ⟨w2.heap.size,3,none⟩=some (.slice a1 k c1):=B4.out.now.2.1.cell 3;have B5:=Lib.hid (B4.out.newRow #[.bool (gB k),.string (gS k),.string (gT k)] 46);have HROW:=Lib.hid B5.out.now.2.2.1;have HOWN:=Lib.hid B5.out.now.2.2.2.1;have HNEW:=Lib.hid (World.news_of_block B5.out.now.1);rw[World.size_alloc]at HNEW;have HBA:=Lib.hid (Nat.le_trans HF.out.size B5.out.below.size);have HNX:=Lib.hid (pl_step HBL.out HF.out B5.out.below HROW.out HOWN.out (by decide) (by omega) BC.out.below.size);clear B4;generalize uE k=ee at *
        go_wp2_with (at_builtin;refine wpList_append_lies _ rfl (.tmp 47) (.tmp 49) 24 rfl y0.heap.size 46 i0 _ 3 40 Tryz.underlying24 hi hz0 hz1 hz2 rfl (by omega) (.slice a1 k c1) k _ rfl HOWN.out ⟨w4.heap.size+1,0,none⟩ 1 1 [.bool (gB k),.string (gS k),.string (gT k)] rfl rfl HNEW.out HONE.out (by omega) HMX.out HMY.out HBA.out _ rfl ?_)
        intro g9 cap9 w5 hown5 hgrow _ _;have hr5:=HROW.out.grown hgrow (HROW.out.apart HOWN.out (by decide));have qp:w5.cell? ⟨w2.heap.size,3,none⟩=some (.slice a1 k c1):=hr5.cell 3;have fp:=hr5.free 3;have HN:=Lib.hid (HNX.out g9 cap9 w5 hown5 hgrow);clear hown5 hgrow hr5;go_wp2
        go_roundw
        case rel=>exact⟨k+1,_,cap9,by omega,by go_num,HN.out.1,HN.out.2.1,HN.out.2.2.1,HN.out.2.2.2,HZ1.out⟩
        case measure=>simp[intOf];omega
      · have dE:(uE k != 0)=true:=bne_iff_ne.2 hE;have HEX:=Lib.hid (HEX.out.trans (feE_stop HLT.out HZ.out hE));have HNE:=Lib.hid hE;have HB4:=Lib.hid (HBL.out.trans (B4.out.below.mono HBL.out.size));clear hE;generalize uE k=ee at *;have HR:=Lib.hid B4.out.now.2.2.2.1;have HE:=Lib.hid (PoTold.of HEX.out (PoTold.no (E:=ee) (S:=S) (r:=r) (ch:=false) (L:=L) (g:=g') (fB:=gB) (fS:=gS) (fT:=gT) HNE.out (below_put HB4.out (show w.heap.size<=w.heap.size+1 by omega) plZer)))
        go_wp2_with (refine st_pln rfl (.tmp 6) (.tmp 44) rfl (w.heap.size+1) rfl none 0 0 false none 0 0 none 0 0 rfl HR.out rfl ?_)
        exact bodyPost_ret (res_pln2 Tryz.results25 rfl rfl (HR.out.put _) rfl) rfl HE.out
    · obtain rfl:k=n:=by omega
      have hks:=BC.out.now.2.2.1.away (BC.out.now.2.2.1.apart BC.out.now.1 (noInt_pl _ _ _ _ _ _ _ _ _ _)) hfar;obtain⟨a9,c9,he,hq⟩:=QRow.of_own hown
      injection he with he1 _ he2
      subst he1 he2;have HE:=Lib.hid (HFIN.out wr a1 c1 (HEX.out.trans hz) hks hq hbl hr1);have HR0:=Lib.hid hr1;have HRP:=Lib.hid hrp;have hr0:=(hfar.block _ (show w.heap.size≠w2.heap.size by omega) BC.out.now.2.2.2.2.1.lt).trans BC.out.now.2.2.2.2.1;have x3:wr.cell? ⟨w.heap.size,3,none⟩=some (.slice na k nc):=Row.cell hr0 3;clear hbl hfar hrp hown hks hq hr0 hr1 hz hrel
      go_wp2_with (first
       | (refine ld_pln rfl (.tmp 8) rfl w2.heap.size rfl HRP.out ?_)
       | (refine st_pln rfl (.tmp 6) (.tmp 52) rfl (w.heap.size+1) rfl _ _ _ _ _ _ _ _ _ _ rfl HR0.out rfl ?_))
      exact bodyPost_ret (res_pln2 Tryz.results25 rfl rfl (HR0.out.put _) rfl) rfl HE.out
end Go.Proofs.YtdmmenaejkpnjaaGreatDoor
namespace Go.Proofs.YtdmmenaejkpnjaaGreatDoor
open Go.RowKit
theorem moneP_bd{c0 P:Int}{Q:Nat}{l:Int}(hQ:0<Q)(h1:dl P.natAbs<=60)(h2:dl Q<=60)(hl:l<=64):0<oQ c0 P Q l/\(oP c0 P Q l).natAbs<4294967296^64/\oQ c0 P Q l<4294967296^64:=by
 have one:0<(1:Nat)/\(0:Int).natAbs<4294967296^64/\(1:Nat)<4294967296^64:=⟨by omega,Nat.pow_pos (by omega),Nat.one_lt_pow (by omega) (by omega)⟩
 unfold oP oQ
 by_cases hE:oE c0 P Q l=0
 · rw [if_pos hE, if_pos hE]; unfold oE at hE
   by_cases hc:hasO c0=false
   · rw[if_pos hc]at hE
     omega
   rw[if_neg hc]at hE
   by_cases h126:c0=126
   · rw[if_pos h126]at hE;rw[if_pos h126,if_pos h126]
     by_cases hq:Q=1/\(P=0∨P=1)
     · have:(1-P).natAbs<=1:=by omega
       exact⟨one.1,Nat.lt_of_le_of_lt this one.2.2,one.2.2⟩
     · rw[if_neg hq]at hE
       omega
   · rw [if_neg h126] at hE; rw [if_neg h126, if_neg h126]
     by_cases ha:aN c0 P Q=false
     · rw[if_pos ha]at hE
       omega
     rw[if_neg ha]at hE
     by_cases hlt:l<limZ (aP c0 P Q) (aQ c0 P Q)
     · rw[if_pos hlt]at hE
       omega
     · unfold limZ at hlt;refine⟨?_,lbs_le32.1 (by omega),lbs_le32.1 (by omega)⟩;have ha2:aN c0 P Q=true:=by simpa using ha
       unfold aN at ha2;unfold aQ
       repeat' split
       all_goals first
        | exact hQ
        | omega
        | (simp_all<;>omega)
 · rw[if_neg hE,if_neg hE];exact one
def cP(ch:Bool)(f:Nat->Int):Nat->Int:=if ch then fun _=>0 else f
def cQ(ch:Bool)(f:Nat->Nat):Nat->Nat:=if ch then fun _=>1 else f
theorem Arr.asC{w:World}{x:Array Value}{S:Nat->Int}{r:Nat}{ch:Bool}{L:Nat}{g P:Nat->Int}{Q:Nat->Nat}(h:Arr w x S r ch L g P Q):Arr w x S r ch L g (cP ch P) (cQ ch Q):=by
 cases ch with
 | false=>exact h
 | true=>exact⟨fun _=>h.1 rfl,fun e=>by cases e⟩
theorem Good.few{S:Nat->Int}{r:Nat}{ch:Bool}{L:Nat}{fB:Nat->Bool}{fS fT:Nat->ByteArray}(h:Good S r ch L fB fS fT):FewN (cP ch (gP fB fS fT)) (cQ ch (gQ fB fS fT)) L:=by
 cases ch with
 | true=>exact fun j _=>⟨(show 0<1 by omega),(show Nat.gcd (0:Int).natAbs 1=1 from rfl),(show(0:Int).natAbs<4294967296^7 by decide),(show 1<4294967296^7 by decide)⟩
 | false =>
  intro j hj;obtain⟨q1,q2,q3⟩:=h.small rfl j hj;obtain⟨_,_,_,_,e5⟩:=ofO_facts ((ofB_true h.of).2.2.2.2 j hj);exact⟨q1,e5,q2,q3⟩
theorem Good.numC{S:Nat->Int}{r:Nat}{ch:Bool}{L:Nat}{fB:Nat->Bool}{fS fT:Nat->ByteArray}(h:Good S r ch L fB fS fT):NumOk fB fS fT (cP ch (gP fB fS fT)) (cQ ch (gQ fB fS fT)) (nnO ch L):=by
 cases ch with
 | true=>exact fun j hj=>absurd hj (Nat.not_lt_zero _)
 | false=>exact h.num
theorem Good.dlC{S:Nat->Int}{r:Nat}{ch:Bool}{L:Nat}{fB:Nat->Bool}{fS fT:Nat->ByteArray}(h:Good S r ch L fB fS fT):∀j,j<L->dl (cP ch (gP fB fS fT) j).natAbs<=60/\dl (cQ ch (gQ fB fS fT) j)<=60:=by
 cases ch with
 | true=>exact fun j _=>⟨(show dl (0:Int).natAbs<=60 by decide +kernel),(show dl 1<=60 by decide +kernel)⟩
 | false =>
  intro j hj;obtain⟨_,_,_,_,e5,e6⟩:=h.num j hj;exact⟨e5,e6⟩
theorem st_plnQ {ops : Array Oper} {rest : List Oper} {o : Oper} {a : Act} {w : World} {Q : Exit -> Act -> World -> Prop} (hgd : o.guard = none) (x y : Operand) (ho : o.op = .store 26 x y) (hx : a.eval x = .pointer (some ⟨w.heap.size, 0, none⟩))
    (cs:Array Value) (hy:a.eval y=.agg cs) (hc:IsP cs) {old:Array Value} (ho2:old.size=4)
    (h:∀Y,Row Y w.heap.size 26 cs->Below w.heap.size w Y->wpList Tryz.prog ops Q rest (a.put o.dst undef) Y):wpList Tryz.prog ops Q (o::rest) a (w.alloc (.cells old 26)):=by
 obtain⟨sa,sn,sc,ch,ta,tn,tc,na,nn,nc,rfl⟩:=hc;exact st_pln hgd x y ho w.heap.size hx sa sn sc ch ta tn tc na nn nc hy (Row.new w _ old) ho2 (h _ ((Row.new w _ old).put _) (below_put ((Below.refl _ _).alloc (Nat.le_refl _) _) (Nat.le_refl _) _))
end Go.Proofs.YtdmmenaejkpnjaaGreatDoor
