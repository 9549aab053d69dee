/-
  Texts of this seat, laid together.
-/
import Derived.Laws.StructEq
import Derived.Test.YtdmmenaejkpnjaaGreatDoorF7
set_option maxHeartbeats 12800000
set_option maxRecDepth 100000
set_option linter.unusedSimpArgs false
set_option linter.unusedVariables false
namespace Go.Proofs.YtdmmenaejkpnjaaGreatDoor
open Go.RowKit
theorem r5Runes_any (a : Option Addr) (n c : Nat) (f : Nat -> Int) (a2 : Option Addr) (n2 c2 : Nat) (g : Nat -> Int) (w : World) (h : KRow w .i32 a n c f) (h2 : KRow w .i32 a2 n2 c2 g) :
    Calls Tryz.prog 109 #[.slice a n c,.slice a2 n2 c2] w fun e w'=>SameTold (decide (n=n2)&&sameB f g n) w w' e:=by
 have hl:=h.len;have hl2:=h2.len;have H1:=Lib.hid h;have H2:=Lib.hid h2;clear h h2
 by_cases hn:n=n2
 · subst hn; rw [decide_eq_true rfl, Bool.true_and]; have dn : ((n : Int) != n) = false := bne_self_eq_false _; go_enter Tryz.func109, Tryz.ntmps109; go_wp2
   go_loopw [5] (fun i wr=>∃k:Nat,k<=n/\i=.int .i64 k/\Hid (Below w.heap.size w wr/\sameB f g k=true)) (fun i _=>n-(intOf i).toNat)
   case atStart=>exact⟨0,by omega,rfl,Below.refl _ _,rfl⟩
   case round =>
    obtain⟨k,hk,rfl,hrel⟩:=hrel;obtain⟨hbl,hsm⟩:=hrel.out
    by_cases hlt:k<n
    · obtain ⟨b, off, rfl, hb, hc⟩ := (H1.out.below hbl).get hlt; obtain ⟨b2, off2, rfl, hb2, hc2⟩ := (H2.out.below hbl).get hlt; have HBL := Lib.hid hbl; have hk0 : (0 : Int) <= k := by omega
      have hk1:(k:Int)<n:=by omega
      have hk2:(k:Int)<=n:=by omega
      by_cases hq:f k=g k
      · have hsm2:Hid (sameB f g (k+1)=true):=by show(sameB f g k&&_)=true;rw[hsm,decide_eq_true hq];rfl
        have hne:(f k != g k)=false:=by rw[hq];exact bne_self_eq_false _
        clear hbl hsm;rw[← hq]at hc2;have hne:(f k != f k)=false:=bne_self_eq_false _;generalize f k=x at *;clear hq;go_wp2_with fail
        go_quiet (fail)
        have HBE:Hid (Below w.heap.size w (wr.drewN nq)/\sameB f g (k+1)=true):=⟨below_drewN HBL.out nq,hsm2.out⟩
        go_wp2
        go_roundw
        case rel=>exact⟨k+1,by omega,by go_num,HBE.out⟩
        case measure=>simp[intOf];omega
      · have hno:sameB f g n=false:=by
          cases hx:sameB f g n with
          | false=>rfl
          | true=>exact absurd ((sameB_iff.1 hx) k hlt) hq
        have HN:=Lib.hid hno;have hne:(f k != g k)=true:=bne_iff_ne.2 hq;clear hbl hsm hno;generalize f k=x at *;generalize g k=y at *;clear hq;go_wp2_with fail
        go_quiet (fail)
        have HBE:Hid (SameTold (sameB f g n) w (wr.drewN nq) (.returned (.bool false))):=⟨by rw[HN.out],below_drewN HBL.out nq⟩
        go_wp2;go_ret;exact HBE.out
    · obtain rfl:k=n:=by omega
      have HE:Hid (SameTold (sameB f g k) w wr (.returned (.bool true))):=⟨by rw[hsm],hbl⟩
      clear hbl hsm;go_wp2;go_ret;exact HE.out
 · rw[decide_eq_false hn,Bool.false_and];have dn:((n:Int) != n2)=true:=bne_iff_ne.2 (by omega);have HE:Hid (SameTold false w w (.returned (.bool false))):=⟨rfl,Below.refl _ _⟩
   clear hn;go_enter Tryz.func109,Tryz.ntmps109;go_wp2;go_ret;exact HE.out
def nsB(fB:Nat->Bool)(fS fT:Nat->ByteArray)(gB:Nat->Bool)(gS gT:Nat->ByteArray):Nat->Bool
 | 0=>true
 | k+1=>nsB fB fS fT gB gS gT k&&(decide (fB k=gB k)&&(decide (fS k=gS k)&&decide (fT k=gT k)))
theorem nsB_iff{fB:Nat->Bool}{fS fT:Nat->ByteArray}{gB:Nat->Bool}{gS gT:Nat->ByteArray}{n:Nat}:nsB fB fS fT gB gS gT n=true↔∀j,j<n->fB j=gB j/\fS j=gS j/\fT j=gT j:=by
 induction n with
 | zero=>exact⟨fun _ j h=>absurd h (Nat.not_lt_zero _),fun _=>rfl⟩
 | succ n ih =>
  show(nsB fB fS fT gB gS gT n&&_)=true↔_
  rw[Bool.and_eq_true,Bool.and_eq_true,Bool.and_eq_true,decide_eq_true_eq,decide_eq_true_eq,decide_eq_true_eq,ih]
  constructor
  · rintro⟨h1,h2,h3,h4⟩ j hj
    rcases Nat.lt_or_ge j n with h|h
    · exact h1 j h
    · obtain rfl:j=n:=by omega
      exact⟨h2,h3,h4⟩
  · intro h;exact⟨fun j hj=>h j (by omega),h n (by omega)⟩
def plB(ch ch':Bool)(r r':Nat)(S S':Nat->Int)(tn tn':Nat)(g g':Nat->Int)(nn nn':Nat)(fB:Nat->Bool)(fS fT:Nat->ByteArray)(gB:Nat->Bool)(gS gT:Nat->ByteArray):Bool :=
 decide (ch=ch')&&((decide (r=r')&&sameB S S' r)&&((decide (tn=tn')&&sameB g g' tn)&&(decide (nn=nn')&&nsB fB fS fT gB gS gT nn)))
theorem toList_ne{a b:ByteArray}(h:a≠b):¬a.toList=b.toList:=fun e=>h (by rw[ByteArray.toList_eq,ByteArray.toList_eq]at e;exact ByteArray.ext (Array.toList_inj.1 e))
theorem ne3{u1 v1:Bool}{u2 v2 u3 v3:ByteArray}(h:¬(u1=v1/\u2=v2/\u3=v3)):(u1=true/\v1=false)∨(u1=false/\v1=true)∨(u1=v1/\¬u2.toList=v2.toList)∨(u1=v1/\u2=v2/\¬u3.toList=v3.toList):=by
 cases u1<;>cases v1
 · by_cases h2:u2=v2
   · exact .inr (.inr (.inr ⟨rfl,h2,toList_ne fun h3=>h ⟨rfl,h2,h3⟩⟩))
   · exact .inr (.inr (.inl ⟨rfl,toList_ne h2⟩))
 · exact .inr (.inl ⟨rfl,rfl⟩)
 · exact .inl ⟨rfl,rfl⟩
 · by_cases h2:u2=v2
   · exact .inr (.inr (.inr ⟨rfl,h2,toList_ne fun h3=>h ⟨rfl,h2,h3⟩⟩))
   · exact .inr (.inr (.inl ⟨rfl,toList_ne h2⟩))
theorem pl_cells {w : World} {k : Nat} {t : TypeId} {sa : Option Addr} {sn sc : Nat} {ch : Bool} {ta : Option Addr} {tn tc : Nat} {na : Option Addr} {nn nc : Nat} (h : Row w k t #[.slice sa sn sc, .bool ch, .slice ta tn tc, .slice na nn nc]) :
    w.cell? ⟨k,0,none⟩=some (.slice sa sn sc)/\w.cell? ⟨k,1,none⟩=some (.bool ch)/\w.cell? ⟨k,2,none⟩=some (.slice ta tn tc)/\w.cell? ⟨k,3,none⟩=some (.slice na nn nc):=⟨h.cell 0,h.cell 1,h.cell 2,h.cell 3⟩
theorem r6PSame_any (cs cs' : Array Value) (S : Nat -> Int) (r : Nat) (ch : Bool) (g : Nat -> Int) (tn : Nat) (fB : Nat -> Bool) (fS fT : Nat -> ByteArray) (nn : Nat) (S' : Nat -> Int) (r' : Nat) (ch' : Bool) (g' : Nat -> Int) (tn' : Nat) (gB : Nat -> Bool) (gS gT : Nat -> ByteArray) (nn' : Nat)
    (w:World) (h:PlnAt w cs S r ch g tn fB fS fT nn) (h':PlnAt w cs' S' r' ch' g' tn' gB gS gT nn') :
    Calls Tryz.prog 52 #[.agg cs,.agg cs'] w fun e w'=>SameTold (plB ch ch' r r' S S' tn tn' g g' nn nn' fB fS fT gB gS gT) w w' e:=by
 obtain⟨sa,sc,ta,tc,na,nc,rfl,h1,h2,h3⟩:=h;obtain⟨sa',sc',ta',tc',na',nc',rfl,h1',h2',h3'⟩:=h';have IS:=Lib.hid (fun wz p q=>r6Same_any sa r sc S sa' r' sc' S' wz p q);have RS:=Lib.hid (fun wz p q=>r5Runes_any ta tn tc g ta' tn' tc' g' wz p q);have BB:=Lib.hid (((((((((Bag.start w).krow h1).krow h2).qrow h3).krow h1').krow h2').qrow h3').newRow (plC sa r sc ch ta tn tc na nn nc) 26).newRow (plC sa' r' sc' ch' ta' tn' tc' na' nn' nc') 26);simp only[World.size_alloc]at BB;have hl:=h3.len;have hl':=h3'.len;unfold SameTold at IS RS;unfold plC at BB;unfold plC;clear h1 h2 h3 h1' h2' h3'
 by_cases hc:ch=ch'
 · subst hc; have hp1 : plB ch ch r r' S S' tn tn' g g' nn nn' fB fS fT gB gS gT = ((decide (r = r') && sameB S S' r) && ((decide (tn = tn') && sameB g g' tn) && (decide (nn = nn') && nsB fB fS fT gB gS gT nn))) := by unfold plB; rw [decide_eq_true rfl, Bool.true_and]
   rw[hp1];clear hp1
   cases hx:(decide (r=r')&&sameB S S' r)with
   | false =>
    rw[hx]at IS;rw[Bool.false_and];clear hx;go_enter Tryz.func52,Tryz.ntmps52;go_wp2_with fail;go_at_call 31;refine(IS.out _ BB.out.now.2.2.2.2.2.2.2.1 BB.out.now.2.2.2.2.1).mono ?_;rintro e w2 ⟨rfl,hb2⟩;have HE:=Lib.hid (BB.out.go hb2).below;clear hb2;go_wp2;go_ret;exact⟨rfl,HE.out⟩
   | true =>
    rw[hx]at IS;rw[Bool.true_and];clear hx
    cases hx:(decide (tn=tn')&&sameB g g' tn)with
    | false =>
     rw[hx]at RS;rw[Bool.false_and];clear hx;go_enter Tryz.func52,Tryz.ntmps52;go_wp2_with fail;go_at_call 31;refine(IS.out _ BB.out.now.2.2.2.2.2.2.2.1 BB.out.now.2.2.2.2.1).mono ?_;rintro e w2 ⟨rfl,hb2⟩;have BB:=bgo BB hb2;clear hb2;obtain⟨x0,x1,x2,x3⟩:=pl_cells BB.out.now.2.1;obtain⟨y0,y1,y2,y3⟩:=pl_cells BB.out.now.1;go_wp2_with fail;go_at_call 109;refine(RS.out _ BB.out.now.2.2.2.2.2.2.1 BB.out.now.2.2.2.1).mono ?_;rintro e w3 ⟨rfl,hb3⟩;have HE:=Lib.hid (BB.out.go hb3).below;clear hb3;go_wp2;go_ret;exact⟨rfl,HE.out⟩
    | true =>
     rw[hx]at RS;rw[Bool.true_and];clear hx
     by_cases hn:nn=nn'
     · subst hn; rw [decide_eq_true rfl, Bool.true_and]; have dn : ((nn : Int) != nn) = false := bne_self_eq_false _; go_enter Tryz.func52, Tryz.ntmps52; go_wp2_with fail; go_at_call 31; refine (IS.out _ BB.out.now.2.2.2.2.2.2.2.1 BB.out.now.2.2.2.2.1).mono ?_; rintro e w2 ⟨rfl, hb2⟩; have BB := bgo BB hb2; clear hb2; obtain ⟨x0, x1, x2, x3⟩ := pl_cells BB.out.now.2.1; obtain ⟨y0, y1, y2, y3⟩ := pl_cells BB.out.now.1; go_wp2_with fail; go_at_call 109; refine (RS.out _ BB.out.now.2.2.2.2.2.2.1 BB.out.now.2.2.2.1).mono ?_; rintro e w3 ⟨rfl, hb3⟩; have BB := bgo BB hb3; clear hb3; obtain ⟨x0, x1, x2, x3⟩ := pl_cells BB.out.now.2.1; obtain ⟨y0, y1, y2, y3⟩ := pl_cells BB.out.now.1; have H0 := Lib.hid BB.out.below; go_wp2_with fail
       go_loopw [5] (fun i wr=>∃k:Nat,k<=nn/\i=.int .i64 k/\Hid (Below w3.heap.size w3 wr/\nsB fB fS fT gB gS gT k=true)) (fun i _=>nn-(intOf i).toNat)
       case atStart=>exact⟨0,by omega,rfl,Below.refl _ _,rfl⟩
       case round =>
        obtain⟨k,hk,rfl,hrel⟩:=hrel;obtain⟨hbl,hsm⟩:=hrel.out;have B4:=Lib.hid (BB.out.go hbl);clear x0 x1 x2 x3 y0 y1 y2 y3;obtain⟨x0,x1,x2,x3⟩:=pl_cells B4.out.now.2.1;obtain⟨y0,y1,y2,y3⟩:=pl_cells B4.out.now.1
        by_cases hlt:k<nn
        · obtain ⟨b, off, rfl, hb, c1, c2, c3⟩ := B4.out.now.2.2.2.2.2.1.get hlt; obtain ⟨b2, off2, rfl, hb2, d1, d2, d3⟩ := B4.out.now.2.2.1.get hlt; have HBL := Lib.hid hbl
          by_cases hq:fB k=gB k/\fS k=gS k/\fT k=gT k
          · have hsm2:Hid (nsB fB fS fT gB gS gT (k+1)=true):=by show(nsB fB fS fT gB gS gT k&&_)=true;rw[hsm,decide_eq_true hq.1,decide_eq_true hq.2.1,decide_eq_true hq.2.2];rfl
            rw[← hq.1]at d1;rw[← hq.2.1]at d2;rw[← hq.2.2]at d3;clear hq hbl hsm;generalize fB k=u1 at *;generalize fS k=u2 at *;generalize fT k=u3 at *;go_wp2_with fail
            go_quiet (fail)
            have HBE:Hid (Below w3.heap.size w3 (wr.drewN nq)/\nsB fB fS fT gB gS gT (k+1)=true):=⟨below_drewN HBL.out nq,hsm2.out⟩
            go_wp2
            go_roundw
            case rel=>exact⟨k+1,by omega,by go_num,HBE.out⟩
            case measure=>simp[intOf];omega
          · have hno:nsB fB fS fT gB gS gT nn=false:=by
              cases hx:nsB fB fS fT gB gS gT nn with
              | false=>rfl
              | true=>exact absurd ((nsB_iff.1 hx) k hlt) hq
            have HN:=Lib.hid hno;clear hbl hsm hno;generalize fB k=u1 at *;generalize fS k=u2 at *;generalize fT k=u3 at *;generalize gB k=v1 at *;generalize gS k=v2 at *;generalize gT k=v3 at *
            rcases ne3 hq with ⟨rfl,rfl⟩|⟨rfl,rfl⟩|⟨rfl,hd⟩|⟨rfl,rfl,hd⟩
            all_goals
             clear hq;go_wp2_with fail
             go_quiet (fail)
             have HBE:Hid (SameTold (nsB fB fS fT gB gS gT nn) w (wr.drewN nq) (.returned (.bool false))):=⟨by rw[HN.out],below_drewN B4.out.below nq⟩
             go_wp2;go_ret;exact HBE.out
        · obtain rfl:k=nn:=by omega
          have HE:Hid (SameTold (nsB fB fS fT gB gS gT k) w wr (.returned (.bool true))):=⟨by rw[hsm],B4.out.below⟩
          clear hbl hsm;go_wp2;go_ret;exact HE.out
     · rw[decide_eq_false hn,Bool.false_and];have dn:((nn:Int) != nn')=true:=bne_iff_ne.2 (by omega);clear hn;go_enter Tryz.func52,Tryz.ntmps52;go_wp2_with fail;go_at_call 31;refine(IS.out _ BB.out.now.2.2.2.2.2.2.2.1 BB.out.now.2.2.2.2.1).mono ?_;rintro e w2 ⟨rfl,hb2⟩;have BB:=bgo BB hb2;clear hb2;obtain⟨x0,x1,x2,x3⟩:=pl_cells BB.out.now.2.1;obtain⟨y0,y1,y2,y3⟩:=pl_cells BB.out.now.1;go_wp2_with fail;go_at_call 109;refine(RS.out _ BB.out.now.2.2.2.2.2.2.1 BB.out.now.2.2.2.1).mono ?_;rintro e w3 ⟨rfl,hb3⟩;have BB:=bgo BB hb3;clear hb3;obtain⟨x0,x1,x2,x3⟩:=pl_cells BB.out.now.2.1;obtain⟨y0,y1,y2,y3⟩:=pl_cells BB.out.now.1;have HE:=Lib.hid BB.out.below;go_wp2;go_ret;exact⟨rfl,HE.out⟩
 · have hb:plB ch ch' r r' S S' tn tn' g g' nn nn' fB fS fT gB gS gT=false:=by unfold plB;rw[decide_eq_false hc,Bool.false_and]
   rw[hb];have HE:=Lib.hid BB.out.below;clear hb
   cases ch<;>cases ch'
   · exact absurd rfl hc
   · clear hc;go_enter Tryz.func52,Tryz.ntmps52;go_wp2;go_ret;exact⟨rfl,HE.out⟩
   · clear hc;go_enter Tryz.func52,Tryz.ntmps52;go_wp2;go_ret;exact⟨rfl,HE.out⟩
   · exact absurd rfl hc
theorem wp_capture{P:Program}{c:Code}{Q:Exit->Act->World->Prop}{a:Act}{w:World}(h:∀R:Exit->Act->World->Prop,(∀e a w,R e a w=Q e a w)->Code.wp P c R a w):Code.wp P c Q a w:=h Q (fun _ _ _=>rfl)
end Go.Proofs.YtdmmenaejkpnjaaGreatDoor
namespace Go.Proofs.YtdmmenaejkpnjaaGreatDoor
open Go.RowKit
attribute [local go_sem ↓] Go.wp_at_zero Go.wp_at_succ
def plP(P:Int)(Q:Nat)(P':Int)(Q':Nat):Int:=loP (P*Q'+P'*Q) (Q*Q')
def plQ(P:Int)(Q:Nat)(P':Int)(Q':Nat):Nat:=loQ (P*Q'+P'*Q) (Q*Q')
theorem plP_one(P P':Int):plP P 1 P' 1=P+P'/\plQ P 1 P' 1=1:=by
 unfold plP plQ;have:=lo_one (P:=P*((1:Nat):Int)+P'*((1:Nat):Int)) (Q:=1*1) (Nat.gcd_one_right _);rw[this.1,this.2,show((1:Nat):Int)=1 from rfl,Int.mul_one,Int.mul_one];exact⟨rfl,rfl⟩
theorem ratPlusOne_whole (a : Option Addr) (n c : Nat) (m : Bool) (a2 : Option Addr) (n2 c2 : Nat) (P : Int) (b : Option Addr) (k l : Nat) (v : Bool) (b2 : Option Addr) (k2 l2 : Nat) (P' : Int) (w : World)
    (h:RatAt w a n c m a2 n2 c2 P 1) (g:RatAt w b k l v b2 k2 l2 P' 1) (K:Nat) (hK:K<=200000) (h1:P.natAbs<4294967296^K) (h3:P'.natAbs<4294967296^K) :
    Calls Tryz.prog 221 #[.agg #[.slice a n c,.bool m,.slice a2 n2 c2],.agg #[.slice b k l,.bool v,.slice b2 k2 l2]] w fun e w'=>RatTold w w' e (plP P 1 P' 1) (plQ P 1 P' 1):=by
 rw[(plP_one P P').1,(plP_one P P').2];have B0:=(((((Bag.start w).rat h).rat g).box3 (.slice a n c) (.bool m) (.slice a2 n2 c2) 53).box3 (.slice b k l) (.bool v) (.slice b2 k2 l2) 53).box3 (.slice none 0 0) (.bool false) (.slice none 0 0) 53;simp only[World.size_alloc]at B0;have BB:=Lib.hid B0;have IW:=Lib.hid (fun wz hz=>isWhole_any a n c m a2 n2 c2 P 1 wz hz (by omega));have IW':=Lib.hid (fun wz hz=>isWhole_any b k l v b2 k2 l2 P' 1 wz hz (by omega));rw[decide_eq_true rfl]at IW IW';have hs:P.natAbs+P'.natAbs<4294967296^(K+1):=by rw[Nat.pow_succ];omega
 have PL:=Lib.hid (fun sa wz (h:IntAt wz a n c m P) (g:IntsAt wz sa 1 1 (fun _=>P'))=>plus1_any a n c m P sa P' wz h g (K+1) (by omega) hs);have WH:=Lib.hid (fun a n c m wz (h:IntAt wz a n c m (P+P'))=>whole_any a n c m (P+P') wz h);have⟨q0,q1,q2,r0,r1,r2⟩:=bq0 BB;clear h g B0 h1 h3 hs;go_enter Tryz.func221,Tryz.ntmps221
 go_wp2_with (first
  | (go_at_call 120;(with_reducible refine(IW.out _ BB.out.now.2.2.2.2.1).mono ?_);rintro e w2 ⟨rfl,hb2⟩;have BB:=Lib.hid (BB.out.go hb2);clear hb2;have q0:=BB.out.now.2.2.1.cell;have q1:=BB.out.now.2.2.1.cell1;have r0:=BB.out.now.2.1.cell;have r1:=BB.out.now.2.1.cell1;have r2:=BB.out.now.2.1.cell2)
  | (go_at_call 120;(with_reducible refine(IW'.out _ BB.out.now.2.2.2.1).mono ?_);rintro e w3 ⟨rfl,hb3⟩;have BB:=Lib.hid (BB.out.go hb3);clear hb3;have q0:=BB.out.now.2.2.1.cell;have q1:=BB.out.now.2.2.1.cell1;have r0:=BB.out.now.2.1.cell;have r1:=BB.out.now.2.1.cell1))
 go_at_call 228
 (with_reducible refine(PL.out _ _ ?_ ?_).mono ?_)
 · exact(BB.out.alloc _).now.2.2.2.2.1.int
 · exact IntsAt.mk1 rfl (BB.out.alloc _).now.2.2.2.1.int
 rintro e w4 ⟨a4,n4,c4,m4,rfl,hi4,hb4⟩;have BB:=Lib.hid ((BB.out.alloc _).go hb4);go_wp2_with fail;go_at_call 117;(with_reducible refine(WH.out _ _ _ _ _ hi4).mono ?_);rintro e w5 ⟨a5,n5,c5,m5,a6,n6,c6,rfl,hr,hb5⟩;have BB:=bgo BB hb5;have hs:=BB.out.now.1;have⟨u0,u1,u2,g0,g1,g2⟩:=hs.s6;have HS:=hs.set (.slice a5 n5 c5) (.bool m5) (.slice a6 n6 c6);have HE:=Lib.hid (RatTold.done BB.out.below (by omega) hs hr);clear hs hr;go_wp2;exact bodyPost_ret (by simp[results,Tryz.results221,go_sem,HS]) rfl HE.out
theorem IntAt.set2b {w : World} {k : Nat} {a0 : Option Addr} {n0 c0 : Nat} {m0 : Bool} {a : Option Addr} {n c : Nat} {m : Bool} {Z : Int} (q : IntAt w a n c m Z) (h : Slot2 w k (.slice a0 n0 c0) (.bool m0)) (u v : Value) :
    IntAt ((w.setCell ⟨k,0,none⟩ u).setCell ⟨k,1,none⟩ v) a n c m Z :=
 ⟨q.1,q.2.set2b h (fun _ _ h=>by cases h) (fun _ _ h=>by cases h) _ _⟩
theorem ratPlusOne_some (a : Option Addr) (n c : Nat) (m : Bool) (a2 : Option Addr) (n2 c2 : Nat) (P : Int) (Q : Nat) (b : Option Addr) (k l : Nat) (v : Bool) (b2 : Option Addr) (k2 l2 : Nat) (P' : Int) (Q' : Nat) (w : World)
    (h:RatAt w a n c m a2 n2 c2 P Q) (g:RatAt w b k l v b2 k2 l2 P' Q') (hQ:0<Q) (hQ':0<Q') (K:Nat) (hK:K<=200000) (h1:P.natAbs<4294967296^K) (h2:Q<4294967296^K) (h3:P'.natAbs<4294967296^K) (h4:Q'<4294967296^K) (hw:¬(Q=1/\Q'=1)) :
    Calls Tryz.prog 221 #[.agg #[.slice a n c,.bool m,.slice a2 n2 c2],.agg #[.slice b k l,.bool v,.slice b2 k2 l2]] w fun e w'=>RatTold w w' e (plP P Q P' Q') (plQ P Q P' Q'):=by
 have B0:=(((((Bag.start w).rat h).rat g).box3 (.slice a n c) (.bool m) (.slice a2 n2 c2) 53).box3 (.slice b k l) (.bool v) (.slice b2 k2 l2) 53).box3 (.slice none 0 0) (.bool false) (.slice none 0 0) 53;simp only[World.size_alloc]at B0;have BB:=Lib.hid B0;have IW:=Lib.hid (fun wz hz=>isWhole_any a n c m a2 n2 c2 P Q wz hz hQ);have IW':=Lib.hid (fun wz hz=>isWhole_any b k l v b2 k2 l2 P' Q' wz hz hQ');have BL:=Lib.hid (fun wz (h:RatAt wz a n c m a2 n2 c2 P Q)=>below_any a n c m a2 n2 c2 P Q wz h hQ);have BL':=Lib.hid (fun wz (h:RatAt wz b k l v b2 k2 l2 P' Q')=>below_any b k l v b2 k2 l2 P' Q' wz h hQ');have T1:=Lib.hid (fun sa wz (h:IntAt wz a n c m P) (g:IntsAt wz sa 1 1 (fun _=>(Q':Int)))=>times1_any a n c m P sa Q' wz h g K (by omega) h1 (by rw[Int.natAbs_natCast];exact h4));have T2:=Lib.hid (fun sa wz (h:IntAt wz b k l v P') (g:IntsAt wz sa 1 1 (fun _=>(Q:Int)))=>times1_any b k l v P' sa Q wz h g K (by omega) h3 (by rw[Int.natAbs_natCast];exact h2));have hX:=mulZ_lt32 h1 h4;have hY:=mulZ_lt32 h3 h2;have hD:=mul_lt32 h2 h4;have hs:(P*Q').natAbs+(P'*Q).natAbs<4294967296^(K+K+1):=by rw[Nat.pow_succ];omega
 have hs2:(P*Q'+P'*Q).natAbs<4294967296^(K+K+1):=Nat.lt_of_le_of_lt (Int.natAbs_add_le _ _) hs;have hD2:Q*Q'<4294967296^(K+K+1):=by rw[Nat.pow_succ];omega
 have hD0:0<Q*Q':=Nat.mul_pos hQ hQ';have PL:=Lib.hid (fun a n c m sa wz (h:IntAt wz a n c m (P*Q')) (g:IntsAt wz sa 1 1 (fun _=>P'*Q))=>plus1_any a n c m (P*Q') sa (P'*Q) wz h g (K+K+1) (by omega) hs);have BT:=Lib.hid (fun wz (h:RatAt wz a n c m a2 n2 c2 P Q)=>bot_any a n c m a2 n2 c2 P Q wz h hQ);have BT':=Lib.hid (fun wz (h:RatAt wz b k l v b2 k2 l2 P' Q')=>bot_any b k l v b2 k2 l2 P' Q' wz h hQ');have ML:Hid (∀a n c b k l wz,NatIs wz (.agg #[.slice a n c]) Q->NatIs wz (.agg #[.slice b k l]) Q'->Calls Tryz.prog 176 #[.agg #[.slice a n c],.agg #[.slice b k l]] wz fun e w'=>NatTold wz w' e (Q*Q')):=fun a n c b k l wz h g=>(mul_any _ _ Q Q' wz h g K (by omega) h2 h4).mono fun _ _ h=>h.told
 have LW:=Lib.hid (fun a n c m a2 n2 c2 wz (h:IntAt wz a n c m (P*Q'+P'*Q)) (g:NatIs wz (.agg #[.slice a2 n2 c2]) (Q*Q'))=>lowest_any a n c m (P*Q'+P'*Q) a2 n2 c2 (Q*Q') wz h g hD0 (K+K+1) (by omega) hs2 hD2);rw[show loP (P*Q'+P'*Q) (Q*Q')=plP P Q P' Q' from rfl,show loQ (P*Q'+P'*Q) (Q*Q')=plQ P Q P' Q' from rfl]at LW;generalize plP P Q P' Q'=P1 at *;generalize plQ P Q P' Q'=Q1 at *;generalize P*(Q':Int)+P'*(Q:Int)=S at *;generalize P*(Q':Int)=X at *;generalize P'*(Q:Int)=Y at *;generalize Q*Q'=D at *
 have hx:∃x y:Bool,decide (Q=1)=x/\decide (Q'=1)=y/\(x&&y)=false:=⟨_,_,rfl,rfl,by
  by_cases e1:Q=1
  · rw[decide_eq_false (fun e2=>hw ⟨e1,e2⟩)];simp
  · rw[decide_eq_false e1];rfl⟩
 obtain⟨x,y,hx1,hx2,hxy⟩:=hx;rw[hx1]at IW;rw[hx2]at IW';have he:w.heap.size≠w.heap.size+1+1/\w.heap.size+1≠w.heap.size+1+1:=by omega
 have⟨q0,q1,q2,r0,r1,r2⟩:=bq0 BB;clear h g B0 h1 h2 h3 h4 hQ hQ' hx1 hx2 hw hX hY hD hs hs2 hD2 hD0;have HC:Hid (∀y,(fun y=>Slot3 y (w.heap.size+1+1) (.slice none 0 0) (.bool false) (.slice none 0 0)/\Slot3 y (w.heap.size+1) (.slice b k l) (.bool v) (.slice b2 k2 l2)/\Slot3 y w.heap.size (.slice a n c) (.bool m) (.slice a2 n2 c2)/\RatAt y b k l v b2 k2 l2 P' Q'/\RatAt y a n c m a2 n2 c2 P Q/\True) y->((y.cell? ⟨w.heap.size,0,none⟩=some (.slice a n c)/\y.cell? ⟨w.heap.size,1,none⟩=some (.bool m)/\y.cell? ⟨w.heap.size,2,none⟩=some (.slice a2 n2 c2))/\y.cell? ⟨w.heap.size+1,0,none⟩=some (.slice b k l)/\y.cell? ⟨w.heap.size+1,1,none⟩=some (.bool v)/\y.cell? ⟨w.heap.size+1,2,none⟩=some (.slice b2 k2 l2))):=fun y h=>⟨⟨h.2.2.1.cell,h.2.2.1.cell1,h.2.2.1.cell2⟩,h.2.1.cell,h.2.1.cell1,h.2.1.cell2⟩
 have HP:Hid (∀(y:World) (k5:Nat),Slot2 y k5 (.slice none 0 0) (.bool false)->w.heap.size+1+1<k5->Bag w (fun y=>Slot3 y (w.heap.size+1+1) (.slice none 0 0) (.bool false) (.slice none 0 0)/\Slot3 y (w.heap.size+1) (.slice b k l) (.bool v) (.slice b2 k2 l2)/\Slot3 y w.heap.size (.slice a n c) (.bool m) (.slice a2 n2 c2)/\RatAt y b k l v b2 k2 l2 P' Q'/\RatAt y a n c m a2 n2 c2 P Q/\True) y->∀(a9:Option Addr) (n9 c9:Nat) (m9:Bool),Bag w (fun y=>Slot3 y (w.heap.size+1+1) (.slice none 0 0) (.bool false) (.slice none 0 0)/\Slot3 y (w.heap.size+1) (.slice b k l) (.bool v) (.slice b2 k2 l2)/\Slot3 y w.heap.size (.slice a n c) (.bool m) (.slice a2 n2 c2)/\RatAt y b k l v b2 k2 l2 P' Q'/\RatAt y a n c m a2 n2 c2 P Q/\True) ((y.setCell ⟨k5,0,none⟩ (.slice a9 n9 c9)).setCell ⟨k5,1,none⟩ (.bool m9))):=by
  intro y k5 s hk B a9 n9 c9 m9;have hx:∀(x:Option Addr) (y z:Nat) (ki:IntKind) (i:Int),(Value.slice x y z) ≠ .int ki i:=fun _ _ _ _ _ h=>by cases h
  have hb:∀(x:Bool) (ki:IntKind) (i:Int),(Value.bool x) ≠ .int ki i:=fun _ _ _ h=>by cases h
  have q:=B.now
  exact⟨(B.below.setCell (p:=⟨k5,0,none⟩) (show w.heap.size<=k5 by omega) _).setCell (p:=⟨k5,1,none⟩) (show w.heap.size<=k5 by omega) _,B.stay,q.1.set2o (by omega) _ _,q.2.1.set2o (by omega) _ _,q.2.2.1.set2o (by omega) _ _,
   ⟨⟨q.2.2.2.1.int.1,q.2.2.2.1.int.nt.set2b s (hx _ _ _) (hb _) _ _⟩,q.2.2.2.1.low.set2b s (hx _ _ _) (hb _) _ _⟩,⟨⟨q.2.2.2.2.1.int.1,q.2.2.2.2.1.int.nt.set2b s (hx _ _ _) (hb _) _ _⟩,q.2.2.2.2.1.low.set2b s (hx _ _ _) (hb _) _ _⟩,trivial⟩
 cases x<;>cases y
 all_goals
  first
   | (exact absurd hxy (by decide))
   | skip
 all_goals
  clear hxy;go_enter Tryz.func221,Tryz.ntmps221
  go_wp2_with (first
   | (go_at_call 120;(with_reducible refine(IW.out _ BB.out.now.2.2.2.2.1).mono ?_);rintro e w2 ⟨rfl,hb2⟩;have BB:=Lib.hid (BB.out.go hb2);clear hb2;have q0:=BB.out.now.2.2.1.cell;have q1:=BB.out.now.2.2.1.cell1;have r0:=BB.out.now.2.1.cell;have r1:=BB.out.now.2.1.cell1;have r2:=BB.out.now.2.1.cell2)
   | (go_at_call 120;(with_reducible refine(IW'.out _ BB.out.now.2.2.2.1).mono ?_);rintro e w2 ⟨rfl,hb2⟩;have BB:=Lib.hid (BB.out.go hb2);clear hb2;have q0:=BB.out.now.2.2.1.cell;have q1:=BB.out.now.2.2.1.cell1;have r0:=BB.out.now.2.1.cell;have r1:=BB.out.now.2.1.cell1))
  refine wp_capture (fun R hR => ?_)
  have TL:∀(t7 t8 t9 t10 t11:Value) (p4 p10 p12 k5:Nat) (a5:Option Addr) (n5 c5:Nat) (m5:Bool) (a6:Option Addr) (n6 c6:Nat) (m6:Bool) (a7:Option Addr) (n7 c7:Nat) (m7:Bool) (a8:Option Addr) (n8 c8:Nat) (m8:Bool) (a9:Option Addr) (n9 c9:Nat) (m9:Bool) (wy:World),Bag w (fun y=>Slot3 y (w.heap.size+1+1) (.slice none 0 0) (.bool false) (.slice none 0 0)/\Slot3 y (w.heap.size+1) (.slice b k l) (.bool v) (.slice b2 k2 l2)/\Slot3 y w.heap.size (.slice a n c) (.bool m) (.slice a2 n2 c2)/\RatAt y b k l v b2 k2 l2 P' Q'/\RatAt y a n c m a2 n2 c2 P Q/\True) wy->Slot2 wy k5 (.slice a9 n9 c9) (.bool m9)->IntAt wy a9 n9 c9 m9 S->w.heap.size+1+1<k5->R .normal { tmps:=#[Value.agg #[Value.slice a n c,Value.bool m,Value.slice a2 n2 c2],Value.agg #[Value.slice b k l,Value.bool v,Value.slice b2 k2 l2],Value.pointer (some { block:=w.heap.size,off:=0 }),Value.pointer (some { block:=w.heap.size+1,off:=0 }),Value.pointer (some { block:=w.heap.size+1+1,off:=0 }),Value.pointer (some { block:=k5,off:=0 }),Value.agg #[Value.slice a n c,Value.bool m,Value.slice a2 n2 c2],t7,t8,t9,t10,t11,undef,undef,undef,undef,undef,undef,undef,Value.pointer (some { block:=w.heap.size,off:=0 }),Value.agg #[Value.slice a n c,Value.bool m],Value.agg #[Value.slice b k l,Value.bool v,Value.slice b2 k2 l2],Value.agg #[Value.slice a5 n5 c5,Value.bool m5],Value.slice (some { block:=p4,off:=0 }) 1 1,Value.agg #[Value.slice a6 n6 c6,Value.bool m6],Value.pointer (some { block:=w.heap.size+1,off:=0 }),Value.agg #[Value.slice b k l,Value.bool v],Value.agg #[Value.slice a n c,Value.bool m,Value.slice a2 n2 c2],Value.agg #[Value.slice a7 n7 c7,Value.bool m7],Value.slice (some { block:=p10,off:=0 }) 1 1,Value.agg #[Value.slice a8 n8 c8,Value.bool m8],Value.slice (some { block:=p12,off:=0 }) 1 1,Value.agg #[Value.slice a9 n9 c9,Value.bool m9],undef,undef,undef,undef,undef,undef,undef],defers := [] } wy:=by
   intro t7 t8 t9 t10 t11 p4 p10 p12 k5 a5 n5 c5 m5 a6 n6 c6 m6 a7 n7 c7 m7 a8 n8 c8 m8 a9 n9 c9 m9 wy B1 sT hi9 hk5;rw[hR];have BB:=Lib.hid ((B1.slot2 sT).int hi9);clear B1 sT hi9;have he3:k5≠w.heap.size+1+1:=by omega
   go_wp2_with fail;have BB:=Lib.hid BB.out.drew
   go_region_held3 (fun y => ((y.cell? ⟨w.heap.size, 0, none⟩ = some (.slice a n c) /\ y.cell? ⟨w.heap.size, 1, none⟩ = some (.bool m) /\ y.cell? ⟨w.heap.size, 2, none⟩ = some (.slice a2 n2 c2)) /\ y.cell? ⟨w.heap.size + 1, 0, none⟩ = some (.slice b k l) /\ y.cell? ⟨w.heap.size + 1, 1, none⟩ = some (.bool v) /\ y.cell? ⟨w.heap.size + 1, 2, none⟩ = some (.slice b2 k2 l2)) /\ y.cell? ⟨k5, 0, none⟩ = some (.slice a9 n9 c9) /\ y.cell? ⟨k5, 1, none⟩ = some (.bool m9))
    (first
      | (exact⟨⟨⟨z0.cell,z0.cell1,z0.cell2⟩,z1.cell,z1.cell1,z1.cell2⟩,z2.cell,z2.cell1⟩)
      | (exact⟨⟨⟨BB.out.now.2.2.2.2.1.cell,BB.out.now.2.2.2.2.1.cell1,BB.out.now.2.2.2.2.1.cell2⟩,BB.out.now.2.2.2.1.cell,BB.out.now.2.2.2.1.cell1,BB.out.now.2.2.2.1.cell2⟩,BB.out.now.2.1.cell,BB.out.now.2.1.cell1⟩))
    (first
      | (go_at_call 74;(with_reducible refine(BT.out _ BB.out.now.2.2.2.2.2.2.1).mono ?_);rintro e w11 ⟨a11,n11,c11,rfl,hn11,hb11⟩;have BB:=Lib.hid (BB.out.go hb11))
      | (go_at_call 74;(with_reducible refine(BT'.out _ BB.out.now.2.2.2.2.2.1).mono ?_);rintro e w12 ⟨a12,n12,c12,rfl,hn12,hb12⟩;have BB:=Lib.hid (BB.out.go hb12))
      | (go_at_call 176;(with_reducible refine(ML.out _ _ _ _ _ _ _ (hn11.below hb12) hn12).mono ?_);rintro e w13 ⟨a13,n13,c13,rfl,hn13,hb13⟩;have BB:=Lib.hid (BB.out.go hb13))
      | (go_at_call 115;(with_reducible refine(LW.out _ _ _ _ _ _ _ _ BB.out.now.1 hn13).mono ?_);rintro e w14 ⟨a14,n14,c14,m14,a15,n15,c15,rfl,hr,hb14⟩;have BB:=Lib.hid (BB.out.go hb14);have hs:=BB.out.now.2.2.1;have r0:=hs.cell;have r1:=hs.cell1;have r2:=hs.cell2;have g0:=hs.free;have g1:=hs.free1;have g2:=hs.free2;have HS:=hs.set (.slice a14 n14 c14) (.bool m14) (.slice a15 n15 c15);have z0:=BB.out.now.2.2.2.2.1.set3o he.1 (.slice a14 n14 c14) (.bool m14) (.slice a15 n15 c15);have z1:=BB.out.now.2.2.2.1.set3o he.2 (.slice a14 n14 c14) (.bool m14) (.slice a15 n15 c15);have z2:=BB.out.now.2.1.set3o he3 (.slice a14 n14 c14) (.bool m14) (.slice a15 n15 c15);have HE:=Lib.hid (RatTold.done BB.out.below (by omega) hs hr)))
   go_wp2;exact bodyPost_ret (v:=.agg #[.slice a14 n14 c14,.bool m14,.slice a15 n15 c15]) (by simp[results,Tryz.results221,go_sem,HS]) rfl HE.out
  refine wp_region_noPanic ?_
  refine wp_region_held_drew (S:=(fun y=>((y.cell? ⟨w.heap.size,0,none⟩=some (.slice a n c)/\y.cell? ⟨w.heap.size,1,none⟩=some (.bool m)/\y.cell? ⟨w.heap.size,2,none⟩=some (.slice a2 n2 c2))/\y.cell? ⟨w.heap.size+1,0,none⟩=some (.slice b k l)/\y.cell? ⟨w.heap.size+1,1,none⟩=some (.bool v)/\y.cell? ⟨w.heap.size+1,2,none⟩=some (.slice b2 k2 l2))/\Bag w (fun y=>Slot3 y (w.heap.size+1+1) (.slice none 0 0) (.bool false) (.slice none 0 0)/\Slot3 y (w.heap.size+1) (.slice b k l) (.bool v) (.slice b2 k2 l2)/\Slot3 y w.heap.size (.slice a n c) (.bool m) (.slice a2 n2 c2)/\RatAt y b k l v b2 k2 l2 P' Q'/\RatAt y a n c m a2 n2 c2 P Q/\True) y)) (by kernel_rfl) ?_ (fun hH => ?_)
  · exact(have B9:=BB.out.drew;⟨HC.out _ B9.now,B9⟩)
  refine wpAnyH_take (i:=0) (oi:=⟨some 19,Op.fieldAddr 53 (Operand.tmp 2) 0,0,_,_,none⟩) (v := ?v1) rfl (by kernel_rfl) (by kernel_rfl) (by kernel_rfl) (fun _ _ _ h=>h) (Or.inl ⟨by rfl,?hy1⟩) hH ?_
  case hy1 =>
   intro y hy
   (try dsimp only at hy)
   go_simp
   try with_reducible rfl
  try simp only[Act.put,lsa,lsz,lsc]
  refine wpAnyH_take (i:=1) (oi:=⟨some 20,Op.load 51 (Operand.tmp 19),51,_,_,none⟩) (v := ?v2) rfl (by kernel_rfl) (by kernel_rfl) (by kernel_rfl) (fun _ _ _ h=>h) (Or.inl ⟨by rfl,?hy2⟩) hH ?_
  case hy2 =>
   intro y hy
   (try dsimp only at hy)
   go_simp
   try with_reducible rfl
  try simp only[Act.put,lsa,lsz,lsc]
  refine wpAnyH_take (i:=2) (oi:=⟨some 21,Op.load 53 (Operand.tmp 3),53,_,_,none⟩) (v := ?v3) rfl (by kernel_rfl) (by kernel_rfl) (by kernel_rfl) (fun _ _ _ h=>h) (Or.inl ⟨by rfl,?hy3⟩) hH ?_
  case hy3 =>
   intro y hy
   (try dsimp only at hy)
   go_simp
   try with_reducible rfl
  try simp only[Act.put,lsa,lsz,lsc]
  refine wpAnyH_take (i:=6) (oi:=⟨some 25,Op.fieldAddr 53 (Operand.tmp 3) 0,0,_,_,none⟩) (v := ?v4) rfl (by kernel_rfl) (by kernel_rfl) (by kernel_rfl) (fun _ _ _ h=>h) (Or.inl ⟨by rfl,?hy4⟩) hH ?_
  case hy4 =>
   intro y hy
   (try dsimp only at hy)
   go_simp
   try with_reducible rfl
  try simp only[Act.put,lsa,lsz,lsc]
  refine wpAnyH_take (i:=7) (oi:=⟨some 26,Op.load 51 (Operand.tmp 25),51,_,_,none⟩) (v := ?v5) rfl (by kernel_rfl) (by kernel_rfl) (by kernel_rfl) (fun _ _ _ h=>h) (Or.inl ⟨by rfl,?hy5⟩) hH ?_
  case hy5 =>
   intro y hy
   (try dsimp only at hy)
   go_simp
   try with_reducible rfl
  try simp only[Act.put,lsa,lsz,lsc]
  refine wpAnyH_take (i:=8) (oi:=⟨some 27,Op.load 53 (Operand.tmp 2),53,_,_,none⟩) (v := ?v6) rfl (by kernel_rfl) (by kernel_rfl) (by kernel_rfl) (fun _ _ _ h=>h) (Or.inl ⟨by rfl,?hy6⟩) hH ?_
  case hy6 =>
   intro y hy
   (try dsimp only at hy)
   go_simp
   try with_reducible rfl
  try simp only[Act.put,lsa,lsz,lsc]
  refine wpAnyH_ready (rs := [3,14]) (by kernel_rfl) (by simp) ?_
  refine AllReadyH.cons rfl (fun K hK => ?_) ?_
  · go_simp
    (go_at_call 123;(with_reducible refine(BL'.out _ ?_).mono ?_);exact hH.2.now.2.2.2.1;rintro e wy5 ⟨a5,n5,c5,m5,rfl,hi5,hbz⟩)
    refine hK.out _ _ ?_ (fun hH => ?_)
    · exact(have B9:=Bag.go hH.2 hbz;⟨HC.out _ B9.now,B9⟩)
    clear hK K
    try simp only[Act.put,lsa,lsz,lsc]
    refine wpAnyH_ready (rs := [4,14]) (by kernel_rfl) (by simp) ?_
    refine AllReadyH.cons rfl (fun K hK => ?_) ?_
    · go_simp
      refine hK.out _ _ ?_ (fun hH => ?_)
      · exact(have B9:=Bag.alloc hH.2 _;⟨HC.out _ B9.now,B9⟩)
      clear hK K
      try simp only[Act.put,lsa,lsz,lsc]
      refine wpAnyH_ready (rs := [5,14]) (by kernel_rfl) (by simp) ?_
      refine AllReadyH.cons rfl (fun K hK => ?_) ?_
      · go_simp
        (go_at_call 122;(with_reducible refine(T1.out _ _ ?_ ?_).mono ?_);exact hH.2.now.2.2.2.2.1.int;(apply IntsAt.old1;(exact Below.refl _ _);(first|rfl|focus (simp;done));exact(IntAt.below hi5 (by refine Below.more ?_ _;exact Below.refl _ _)));rintro e wy6 ⟨a6,n6,c6,m6,rfl,hi6,hbz⟩)
        refine hK.out _ _ ?_ (fun hH => ?_)
        · exact(have B9:=Bag.go hH.2 hbz;⟨HC.out _ B9.now,B9⟩)
        clear hK K
        try simp only[Act.put,lsa,lsz,lsc]
        refine wpAnyH_ready (rs := [9,14]) (by kernel_rfl) (by simp) ?_
        refine AllReadyH.cons rfl (fun K hK => ?_) ?_
        · go_simp
          (go_at_call 123;(with_reducible refine(BL.out _ ?_).mono ?_);exact hH.2.now.2.2.2.2.1;rintro e wy7 ⟨a7,n7,c7,m7,rfl,hi7,hbz⟩)
          refine hK.out _ _ ?_ (fun hH => ?_)
          · exact(have B9:=Bag.go hH.2 hbz;⟨HC.out _ B9.now,B9⟩)
          clear hK K
          try simp only[Act.put,lsa,lsz,lsc]
          refine wpAnyH_ready (rs := [10,14]) (by kernel_rfl) (by simp) ?_
          refine AllReadyH.cons rfl (fun K hK => ?_) ?_
          · go_simp
            refine hK.out _ _ ?_ (fun hH => ?_)
            · exact(have B9:=Bag.alloc hH.2 _;⟨HC.out _ B9.now,B9⟩)
            clear hK K
            try simp only[Act.put,lsa,lsz,lsc]
            refine wpAnyH_ready (rs := [11,14]) (by kernel_rfl) (by simp) ?_
            refine AllReadyH.cons rfl (fun K hK => ?_) ?_
            · go_simp
              (go_at_call 122;(with_reducible refine(T2.out _ _ ?_ ?_).mono ?_);exact hH.2.now.2.2.2.1.int;(apply IntsAt.old1;(exact Below.refl _ _);(first|rfl|focus (simp;done));exact(IntAt.below hi7 (by refine Below.more ?_ _;exact Below.refl _ _)));rintro e wy8 ⟨a8,n8,c8,m8,rfl,hi8,hbz⟩)
              refine hK.out _ _ ?_ (fun hH => ?_)
              · exact(have B9:=Bag.go hH.2 hbz;⟨HC.out _ B9.now,B9⟩)
              clear hK K
              try simp only[Act.put,lsa,lsz,lsc]
              refine wpAnyH_ready (rs := [12,14]) (by kernel_rfl) (by simp) ?_
              refine AllReadyH.cons rfl (fun K hK => ?_) ?_
              · go_simp
                refine hK.out _ _ ?_ (fun hH => ?_)
                · exact(have B9:=Bag.alloc hH.2 _;⟨HC.out _ B9.now,B9⟩)
                clear hK K
                try simp only[Act.put,lsa,lsz,lsc]
                refine wpAnyH_ready (rs := [13,14]) (by kernel_rfl) (by simp) ?_
                refine AllReadyH.cons rfl (fun K hK => ?_) ?_
                · go_simp
                  (go_at_call 228;(with_reducible refine(PL.out a6 n6 c6 m6 _ _ ?_ ?_).mono ?_);exact(IntAt.below hi6 (by refine Below.more ?_ _;refine Below.step (by assumption) ?_;refine Below.more ?_ _;refine Below.step (by assumption) ?_;exact Below.refl _ _));(apply IntsAt.old1;(exact Below.refl _ _);(first|rfl|focus (simp;done));exact(IntAt.below hi8 (by refine Below.more ?_ _;exact Below.refl _ _)));rintro e wy9 ⟨a9,n9,c9,m9,rfl,hi9,hbz⟩)
                  refine hK.out _ _ ?_ (fun hH => ?_)
                  · exact(have B9:=Bag.go hH.2 hbz;⟨HC.out _ B9.now,B9⟩)
                  clear hK K
                  try simp only[Act.put,lsa,lsz,lsc]
                  refine wpAnyH_ready (rs := [14]) (by kernel_rfl) (by simp) ?_;refine AllReadyH.cons rfl (fun K hK => ?_) AllReadyH.nil;have hk5:=hH.2.now.1.lt;have BW:=hH.2;have sT:=Slot2.new wy9 (.slice none 0 0) (.bool false) 51;go_simp
                  refine hK.out _ _ ?_ (fun hH => ?_)
                  · exact(have B9:=Bag.alloc hH.2 _;⟨HC.out _ B9.now,B9⟩)
                  clear hK K
                  try simp only[Act.put,lsa,lsz,lsc]
                  refine wpAnyH_ready (rs := [15]) (by kernel_rfl) (by simp) ?_;refine AllReadyH.cons (o:=⟨none,Op.store 51 (Operand.tmp 5) (Operand.tmp 32),0,_,_,none⟩) rfl (fun K hK => ?_) AllReadyH.nil;have sT:=sT;have hc:=sT.cell;have hc1:=sT.cell1;have hf:=sT.free;have hf1:=sT.free1;go_simp;have sT2:=Slot2.new wy9 (.slice a9 n9 c9) (.bool m9) 51;have hi9s:=IntAt.below hi9 (Below.more (Below.refl _ _) (.cells #[.slice a9 n9 c9,.bool m9] 51));have B9s:=Bag.alloc BW (.cells #[.slice a9 n9 c9,.bool m9] 51)
                  refine hK.out _ _ ?_ (fun hH => ?_)
                  · exact⟨HC.out _ B9s.now,B9s⟩
                  clear hK K
                  try simp only[Act.put,lsa,lsz,lsc]
                  refine wpAnyH_done (by kernel_rfl) ?_ _;refine NoPanic.normal ?_;exact TL _ _ _ _ _ _ _ _ _ _ _ _ _ _ _ _ _ _ _ _ _ _ _ _ _ _ _ _ _ _ hH.2 sT2 hi9s (by omega)
                refine AllReadyH.cons rfl (fun K hK => ?_) ?_
                · have hk5:=hH.2.now.1.lt;have BW:=hH.2;have sT:=Slot2.new (World.alloc wy8 (.cells #[.slice a8 n8 c8,.bool m8] 51)) (.slice none 0 0) (.bool false) 51;simp only[World.size_alloc]at sT hk5;go_simp
                  refine hK.out _ _ ?_ (fun hH => ?_)
                  · exact(have B9:=Bag.alloc hH.2 _;⟨HC.out _ B9.now,B9⟩)
                  clear hK K
                  try simp only[Act.put,lsa,lsz,lsc]
                  refine wpAnyH_ready (rs := [13]) (by kernel_rfl) (by simp) ?_;refine AllReadyH.cons rfl (fun K hK => ?_) AllReadyH.nil;go_simp
                  (go_at_call 228;(with_reducible refine(PL.out a6 n6 c6 m6 _ _ ?_ ?_).mono ?_);exact(IntAt.below hi6 (by refine Below.more ?_ _;refine Below.more ?_ _;refine Below.step (by assumption) ?_;refine Below.more ?_ _;refine Below.step (by assumption) ?_;exact Below.refl _ _));(apply IntsAt.old1;(refine Below.more ?_ _;exact Below.refl _ _);(first|rfl|focus (simp;done));exact(IntAt.below hi8 (by refine Below.more ?_ _;refine Below.more ?_ _;exact Below.refl _ _)));rintro e wy9 ⟨a9,n9,c9,m9,rfl,hi9,hbz⟩;have sT:=sT.below hbz)
                  refine hK.out _ _ ?_ (fun hH => ?_)
                  · exact(have B9:=Bag.go hH.2 hbz;⟨HC.out _ B9.now,B9⟩)
                  clear hK K
                  try simp only[Act.put,lsa,lsz,lsc]
                  refine wpAnyH_ready (rs := [15]) (by kernel_rfl) (by simp) ?_;refine AllReadyH.cons (o:=⟨none,Op.store 51 (Operand.tmp 5) (Operand.tmp 32),0,_,_,none⟩) rfl (fun K hK => ?_) AllReadyH.nil;have sT:=sT;have hc:=sT.cell;have hc1:=sT.cell1;have hf:=sT.free;have hf1:=sT.free1;go_simp;have sT2:=sT.set2 (.slice a9 n9 c9) (.bool m9);have hi9s:IntAt _ a9 n9 c9 m9 S:=IntAt.set2b (IntAt.below hi9 (by exact Below.refl _ _)) sT (.slice a9 n9 c9) (.bool m9);have B9s:=HP.out _ _ sT (by omega) hH.2 a9 n9 c9 m9
                  refine hK.out _ _ ?_ (fun hH => ?_)
                  · exact⟨HC.out _ B9s.now,B9s⟩
                  clear hK K
                  try simp only[Act.put,lsa,lsz,lsc]
                  refine wpAnyH_done (by kernel_rfl) ?_ _;refine NoPanic.normal ?_;exact TL _ _ _ _ _ _ _ _ _ _ _ _ _ _ _ _ _ _ _ _ _ _ _ _ _ _ _ _ _ _ hH.2 sT2 hi9s (by omega)
                exact AllReadyH.nil
              refine AllReadyH.cons rfl (fun K hK => ?_) ?_
              · have hk5:=hH.2.now.1.lt;have BW:=hH.2;have sT:=Slot2.new wy8 (.slice none 0 0) (.bool false) 51;go_simp
                refine hK.out _ _ ?_ (fun hH => ?_)
                · exact(have B9:=Bag.alloc hH.2 _;⟨HC.out _ B9.now,B9⟩)
                clear hK K
                try simp only[Act.put,lsa,lsz,lsc]
                refine wpAnyH_ready (rs := [12]) (by kernel_rfl) (by simp) ?_;refine AllReadyH.cons rfl (fun K hK => ?_) AllReadyH.nil;go_simp
                refine hK.out _ _ ?_ (fun hH => ?_)
                · exact(have B9:=Bag.alloc hH.2 _;⟨HC.out _ B9.now,B9⟩)
                clear hK K
                try simp only[Act.put,lsa,lsz,lsc]
                have sT:=sT.below (Below.more (Below.refl _ _) (.cells #[.slice a8 n8 c8,.bool m8] 51));refine wpAnyH_ready (rs := [13]) (by kernel_rfl) (by simp) ?_;refine AllReadyH.cons rfl (fun K hK => ?_) AllReadyH.nil;go_simp
                (go_at_call 228;(with_reducible refine(PL.out a6 n6 c6 m6 _ _ ?_ ?_).mono ?_);exact(IntAt.below hi6 (by refine Below.more ?_ _;refine Below.more ?_ _;refine Below.step (by assumption) ?_;refine Below.more ?_ _;refine Below.step (by assumption) ?_;exact Below.refl _ _));(apply IntsAt.old1;(exact Below.refl _ _);(first|rfl|focus (simp;done));exact(IntAt.below hi8 (by refine Below.more ?_ _;refine Below.more ?_ _;exact Below.refl _ _)));rintro e wy9 ⟨a9,n9,c9,m9,rfl,hi9,hbz⟩;have sT:=sT.below hbz)
                refine hK.out _ _ ?_ (fun hH => ?_)
                · exact(have B9:=Bag.go hH.2 hbz;⟨HC.out _ B9.now,B9⟩)
                clear hK K
                try simp only[Act.put,lsa,lsz,lsc]
                refine wpAnyH_ready (rs := [15]) (by kernel_rfl) (by simp) ?_;refine AllReadyH.cons (o:=⟨none,Op.store 51 (Operand.tmp 5) (Operand.tmp 32),0,_,_,none⟩) rfl (fun K hK => ?_) AllReadyH.nil;have sT:=sT;have hc:=sT.cell;have hc1:=sT.cell1;have hf:=sT.free;have hf1:=sT.free1;go_simp;have sT2:=sT.set2 (.slice a9 n9 c9) (.bool m9);have hi9s:IntAt _ a9 n9 c9 m9 S:=IntAt.set2b (IntAt.below hi9 (by exact Below.refl _ _)) sT (.slice a9 n9 c9) (.bool m9);have B9s:=HP.out _ _ sT (by omega) hH.2 a9 n9 c9 m9
                refine hK.out _ _ ?_ (fun hH => ?_)
                · exact⟨HC.out _ B9s.now,B9s⟩
                clear hK K
                try simp only[Act.put,lsa,lsz,lsc]
                refine wpAnyH_done (by kernel_rfl) ?_ _;refine NoPanic.normal ?_;exact TL _ _ _ _ _ _ _ _ _ _ _ _ _ _ _ _ _ _ _ _ _ _ _ _ _ _ _ _ _ _ hH.2 sT2 hi9s (by omega)
              exact AllReadyH.nil
            refine AllReadyH.cons rfl (fun K hK => ?_) ?_
            · have hk5:=hH.2.now.1.lt;have BW:=hH.2;have sT:=Slot2.new (World.alloc wy7 (.cells #[.slice a7 n7 c7,.bool m7] 51)) (.slice none 0 0) (.bool false) 51;simp only[World.size_alloc]at sT hk5;go_simp
              refine hK.out _ _ ?_ (fun hH => ?_)
              · exact(have B9:=Bag.alloc hH.2 _;⟨HC.out _ B9.now,B9⟩)
              clear hK K
              try simp only[Act.put,lsa,lsz,lsc]
              refine wpAnyH_ready (rs := [11]) (by kernel_rfl) (by simp) ?_;refine AllReadyH.cons rfl (fun K hK => ?_) AllReadyH.nil;go_simp
              (go_at_call 122;(with_reducible refine(T2.out _ _ ?_ ?_).mono ?_);exact hH.2.now.2.2.2.1.int;(apply IntsAt.old1;(refine Below.more ?_ _;exact Below.refl _ _);(first|rfl|focus (simp;done));exact(IntAt.below hi7 (by refine Below.more ?_ _;refine Below.more ?_ _;exact Below.refl _ _)));rintro e wy8 ⟨a8,n8,c8,m8,rfl,hi8,hbz⟩;have sT:=sT.below hbz)
              refine hK.out _ _ ?_ (fun hH => ?_)
              · exact(have B9:=Bag.go hH.2 hbz;⟨HC.out _ B9.now,B9⟩)
              clear hK K
              try simp only[Act.put,lsa,lsz,lsc]
              refine wpAnyH_ready (rs := [12]) (by kernel_rfl) (by simp) ?_;refine AllReadyH.cons rfl (fun K hK => ?_) AllReadyH.nil;go_simp
              refine hK.out _ _ ?_ (fun hH => ?_)
              · exact(have B9:=Bag.alloc hH.2 _;⟨HC.out _ B9.now,B9⟩)
              clear hK K
              try simp only[Act.put,lsa,lsz,lsc]
              have sT:=sT.below (Below.more (Below.refl _ _) (.cells #[.slice a8 n8 c8,.bool m8] 51));refine wpAnyH_ready (rs := [13]) (by kernel_rfl) (by simp) ?_;refine AllReadyH.cons rfl (fun K hK => ?_) AllReadyH.nil;go_simp
              (go_at_call 228;(with_reducible refine(PL.out a6 n6 c6 m6 _ _ ?_ ?_).mono ?_);exact(IntAt.below hi6 (by refine Below.more ?_ _;refine Below.step (by assumption) ?_;refine Below.more ?_ _;refine Below.more ?_ _;refine Below.step (by assumption) ?_;exact Below.refl _ _));(apply IntsAt.old1;(exact Below.refl _ _);(first|rfl|focus (simp;done));exact(IntAt.below hi8 (by refine Below.more ?_ _;exact Below.refl _ _)));rintro e wy9 ⟨a9,n9,c9,m9,rfl,hi9,hbz⟩;have sT:=sT.below hbz)
              refine hK.out _ _ ?_ (fun hH => ?_)
              · exact(have B9:=Bag.go hH.2 hbz;⟨HC.out _ B9.now,B9⟩)
              clear hK K
              try simp only[Act.put,lsa,lsz,lsc]
              refine wpAnyH_ready (rs := [15]) (by kernel_rfl) (by simp) ?_;refine AllReadyH.cons (o:=⟨none,Op.store 51 (Operand.tmp 5) (Operand.tmp 32),0,_,_,none⟩) rfl (fun K hK => ?_) AllReadyH.nil;have sT:=sT;have hc:=sT.cell;have hc1:=sT.cell1;have hf:=sT.free;have hf1:=sT.free1;go_simp;have sT2:=sT.set2 (.slice a9 n9 c9) (.bool m9);have hi9s:IntAt _ a9 n9 c9 m9 S:=IntAt.set2b (IntAt.below hi9 (by exact Below.refl _ _)) sT (.slice a9 n9 c9) (.bool m9);have B9s:=HP.out _ _ sT (by omega) hH.2 a9 n9 c9 m9
              refine hK.out _ _ ?_ (fun hH => ?_)
              · exact⟨HC.out _ B9s.now,B9s⟩
              clear hK K
              try simp only[Act.put,lsa,lsz,lsc]
              refine wpAnyH_done (by kernel_rfl) ?_ _;refine NoPanic.normal ?_;exact TL _ _ _ _ _ _ _ _ _ _ _ _ _ _ _ _ _ _ _ _ _ _ _ _ _ _ _ _ _ _ hH.2 sT2 hi9s (by omega)
            exact AllReadyH.nil
          refine AllReadyH.cons rfl (fun K hK => ?_) ?_
          · have hk5:=hH.2.now.1.lt;have BW:=hH.2;have sT:=Slot2.new wy7 (.slice none 0 0) (.bool false) 51;go_simp
            refine hK.out _ _ ?_ (fun hH => ?_)
            · exact(have B9:=Bag.alloc hH.2 _;⟨HC.out _ B9.now,B9⟩)
            clear hK K
            try simp only[Act.put,lsa,lsz,lsc]
            refine wpAnyH_ready (rs := [10]) (by kernel_rfl) (by simp) ?_;refine AllReadyH.cons rfl (fun K hK => ?_) AllReadyH.nil;go_simp
            refine hK.out _ _ ?_ (fun hH => ?_)
            · exact(have B9:=Bag.alloc hH.2 _;⟨HC.out _ B9.now,B9⟩)
            clear hK K
            try simp only[Act.put,lsa,lsz,lsc]
            have sT:=sT.below (Below.more (Below.refl _ _) (.cells #[.slice a7 n7 c7,.bool m7] 51));refine wpAnyH_ready (rs := [11]) (by kernel_rfl) (by simp) ?_;refine AllReadyH.cons rfl (fun K hK => ?_) AllReadyH.nil;go_simp
            (go_at_call 122;(with_reducible refine(T2.out _ _ ?_ ?_).mono ?_);exact hH.2.now.2.2.2.1.int;(apply IntsAt.old1;(exact Below.refl _ _);(first|rfl|focus (simp;done));exact(IntAt.below hi7 (by refine Below.more ?_ _;refine Below.more ?_ _;exact Below.refl _ _)));rintro e wy8 ⟨a8,n8,c8,m8,rfl,hi8,hbz⟩;have sT:=sT.below hbz)
            refine hK.out _ _ ?_ (fun hH => ?_)
            · exact(have B9:=Bag.go hH.2 hbz;⟨HC.out _ B9.now,B9⟩)
            clear hK K
            try simp only[Act.put,lsa,lsz,lsc]
            refine wpAnyH_ready (rs := [12]) (by kernel_rfl) (by simp) ?_;refine AllReadyH.cons rfl (fun K hK => ?_) AllReadyH.nil;go_simp
            refine hK.out _ _ ?_ (fun hH => ?_)
            · exact(have B9:=Bag.alloc hH.2 _;⟨HC.out _ B9.now,B9⟩)
            clear hK K
            try simp only[Act.put,lsa,lsz,lsc]
            have sT:=sT.below (Below.more (Below.refl _ _) (.cells #[.slice a8 n8 c8,.bool m8] 51));refine wpAnyH_ready (rs := [13]) (by kernel_rfl) (by simp) ?_;refine AllReadyH.cons rfl (fun K hK => ?_) AllReadyH.nil;go_simp
            (go_at_call 228;(with_reducible refine(PL.out a6 n6 c6 m6 _ _ ?_ ?_).mono ?_);exact(IntAt.below hi6 (by refine Below.more ?_ _;refine Below.step (by assumption) ?_;refine Below.more ?_ _;refine Below.more ?_ _;refine Below.step (by assumption) ?_;exact Below.refl _ _));(apply IntsAt.old1;(exact Below.refl _ _);(first|rfl|focus (simp;done));exact(IntAt.below hi8 (by refine Below.more ?_ _;exact Below.refl _ _)));rintro e wy9 ⟨a9,n9,c9,m9,rfl,hi9,hbz⟩;have sT:=sT.below hbz)
            refine hK.out _ _ ?_ (fun hH => ?_)
            · exact(have B9:=Bag.go hH.2 hbz;⟨HC.out _ B9.now,B9⟩)
            clear hK K
            try simp only[Act.put,lsa,lsz,lsc]
            refine wpAnyH_ready (rs := [15]) (by kernel_rfl) (by simp) ?_;refine AllReadyH.cons (o:=⟨none,Op.store 51 (Operand.tmp 5) (Operand.tmp 32),0,_,_,none⟩) rfl (fun K hK => ?_) AllReadyH.nil;have sT:=sT;have hc:=sT.cell;have hc1:=sT.cell1;have hf:=sT.free;have hf1:=sT.free1;go_simp;have sT2:=sT.set2 (.slice a9 n9 c9) (.bool m9);have hi9s:IntAt _ a9 n9 c9 m9 S:=IntAt.set2b (IntAt.below hi9 (by exact Below.refl _ _)) sT (.slice a9 n9 c9) (.bool m9);have B9s:=HP.out _ _ sT (by omega) hH.2 a9 n9 c9 m9
            refine hK.out _ _ ?_ (fun hH => ?_)
            · exact⟨HC.out _ B9s.now,B9s⟩
            clear hK K
            try simp only[Act.put,lsa,lsz,lsc]
            refine wpAnyH_done (by kernel_rfl) ?_ _;refine NoPanic.normal ?_;exact TL _ _ _ _ _ _ _ _ _ _ _ _ _ _ _ _ _ _ _ _ _ _ _ _ _ _ _ _ _ _ hH.2 sT2 hi9s (by omega)
          exact AllReadyH.nil
        refine AllReadyH.cons rfl (fun K hK => ?_) ?_
        · have hk5:=hH.2.now.1.lt;have BW:=hH.2;have sT:=Slot2.new wy6 (.slice none 0 0) (.bool false) 51;go_simp
          refine hK.out _ _ ?_ (fun hH => ?_)
          · exact(have B9:=Bag.alloc hH.2 _;⟨HC.out _ B9.now,B9⟩)
          clear hK K
          try simp only[Act.put,lsa,lsz,lsc]
          refine wpAnyH_ready (rs := [9]) (by kernel_rfl) (by simp) ?_;refine AllReadyH.cons rfl (fun K hK => ?_) AllReadyH.nil;go_simp
          (go_at_call 123;(with_reducible refine(BL.out _ ?_).mono ?_);exact hH.2.now.2.2.2.2.1;rintro e wy7 ⟨a7,n7,c7,m7,rfl,hi7,hbz⟩;have sT:=sT.below hbz)
          refine hK.out _ _ ?_ (fun hH => ?_)
          · exact(have B9:=Bag.go hH.2 hbz;⟨HC.out _ B9.now,B9⟩)
          clear hK K
          try simp only[Act.put,lsa,lsz,lsc]
          refine wpAnyH_ready (rs := [10]) (by kernel_rfl) (by simp) ?_;refine AllReadyH.cons rfl (fun K hK => ?_) AllReadyH.nil;go_simp
          refine hK.out _ _ ?_ (fun hH => ?_)
          · exact(have B9:=Bag.alloc hH.2 _;⟨HC.out _ B9.now,B9⟩)
          clear hK K
          try simp only[Act.put,lsa,lsz,lsc]
          have sT:=sT.below (Below.more (Below.refl _ _) (.cells #[.slice a7 n7 c7,.bool m7] 51));refine wpAnyH_ready (rs := [11]) (by kernel_rfl) (by simp) ?_;refine AllReadyH.cons rfl (fun K hK => ?_) AllReadyH.nil;go_simp
          (go_at_call 122;(with_reducible refine(T2.out _ _ ?_ ?_).mono ?_);exact hH.2.now.2.2.2.1.int;(apply IntsAt.old1;(exact Below.refl _ _);(first|rfl|focus (simp;done));exact(IntAt.below hi7 (by refine Below.more ?_ _;exact Below.refl _ _)));rintro e wy8 ⟨a8,n8,c8,m8,rfl,hi8,hbz⟩;have sT:=sT.below hbz)
          refine hK.out _ _ ?_ (fun hH => ?_)
          · exact(have B9:=Bag.go hH.2 hbz;⟨HC.out _ B9.now,B9⟩)
          clear hK K
          try simp only[Act.put,lsa,lsz,lsc]
          refine wpAnyH_ready (rs := [12]) (by kernel_rfl) (by simp) ?_;refine AllReadyH.cons rfl (fun K hK => ?_) AllReadyH.nil;go_simp
          refine hK.out _ _ ?_ (fun hH => ?_)
          · exact(have B9:=Bag.alloc hH.2 _;⟨HC.out _ B9.now,B9⟩)
          clear hK K
          try simp only[Act.put,lsa,lsz,lsc]
          have sT:=sT.below (Below.more (Below.refl _ _) (.cells #[.slice a8 n8 c8,.bool m8] 51));refine wpAnyH_ready (rs := [13]) (by kernel_rfl) (by simp) ?_;refine AllReadyH.cons rfl (fun K hK => ?_) AllReadyH.nil;go_simp
          (go_at_call 228;(with_reducible refine(PL.out a6 n6 c6 m6 _ _ ?_ ?_).mono ?_);exact(IntAt.below hi6 (by refine Below.more ?_ _;refine Below.step (by assumption) ?_;refine Below.more ?_ _;refine Below.step (by assumption) ?_;refine Below.more ?_ _;exact Below.refl _ _));(apply IntsAt.old1;(exact Below.refl _ _);(first|rfl|focus (simp;done));exact(IntAt.below hi8 (by refine Below.more ?_ _;exact Below.refl _ _)));rintro e wy9 ⟨a9,n9,c9,m9,rfl,hi9,hbz⟩;have sT:=sT.below hbz)
          refine hK.out _ _ ?_ (fun hH => ?_)
          · exact(have B9:=Bag.go hH.2 hbz;⟨HC.out _ B9.now,B9⟩)
          clear hK K
          try simp only[Act.put,lsa,lsz,lsc]
          refine wpAnyH_ready (rs := [15]) (by kernel_rfl) (by simp) ?_;refine AllReadyH.cons (o:=⟨none,Op.store 51 (Operand.tmp 5) (Operand.tmp 32),0,_,_,none⟩) rfl (fun K hK => ?_) AllReadyH.nil;have sT:=sT;have hc:=sT.cell;have hc1:=sT.cell1;have hf:=sT.free;have hf1:=sT.free1;go_simp;have sT2:=sT.set2 (.slice a9 n9 c9) (.bool m9);have hi9s:IntAt _ a9 n9 c9 m9 S:=IntAt.set2b (IntAt.below hi9 (by exact Below.refl _ _)) sT (.slice a9 n9 c9) (.bool m9);have B9s:=HP.out _ _ sT (by omega) hH.2 a9 n9 c9 m9
          refine hK.out _ _ ?_ (fun hH => ?_)
          · exact⟨HC.out _ B9s.now,B9s⟩
          clear hK K
          try simp only[Act.put,lsa,lsz,lsc]
          refine wpAnyH_done (by kernel_rfl) ?_ _;refine NoPanic.normal ?_;exact TL _ _ _ _ _ _ _ _ _ _ _ _ _ _ _ _ _ _ _ _ _ _ _ _ _ _ _ _ _ _ hH.2 sT2 hi9s (by omega)
        exact AllReadyH.nil
      refine AllReadyH.cons rfl (fun K hK => ?_) ?_
      · have hk5:=hH.2.now.1.lt;have BW:=hH.2;have sT:=Slot2.new (World.alloc wy5 (.cells #[.slice a5 n5 c5,.bool m5] 51)) (.slice none 0 0) (.bool false) 51;simp only[World.size_alloc]at sT hk5;go_simp
        refine hK.out _ _ ?_ (fun hH => ?_)
        · exact(have B9:=Bag.alloc hH.2 _;⟨HC.out _ B9.now,B9⟩)
        clear hK K
        try simp only[Act.put,lsa,lsz,lsc]
        refine wpAnyH_ready (rs := [5]) (by kernel_rfl) (by simp) ?_;refine AllReadyH.cons rfl (fun K hK => ?_) AllReadyH.nil;go_simp
        (go_at_call 122;(with_reducible refine(T1.out _ _ ?_ ?_).mono ?_);exact hH.2.now.2.2.2.2.1.int;(apply IntsAt.old1;(refine Below.more ?_ _;exact Below.refl _ _);(first|rfl|focus (simp;done));exact(IntAt.below hi5 (by refine Below.more ?_ _;refine Below.more ?_ _;exact Below.refl _ _)));rintro e wy6 ⟨a6,n6,c6,m6,rfl,hi6,hbz⟩;have sT:=sT.below hbz)
        refine hK.out _ _ ?_ (fun hH => ?_)
        · exact(have B9:=Bag.go hH.2 hbz;⟨HC.out _ B9.now,B9⟩)
        clear hK K
        try simp only[Act.put,lsa,lsz,lsc]
        refine wpAnyH_ready (rs := [9]) (by kernel_rfl) (by simp) ?_;refine AllReadyH.cons rfl (fun K hK => ?_) AllReadyH.nil;go_simp
        (go_at_call 123;(with_reducible refine(BL.out _ ?_).mono ?_);exact hH.2.now.2.2.2.2.1;rintro e wy7 ⟨a7,n7,c7,m7,rfl,hi7,hbz⟩;have sT:=sT.below hbz)
        refine hK.out _ _ ?_ (fun hH => ?_)
        · exact(have B9:=Bag.go hH.2 hbz;⟨HC.out _ B9.now,B9⟩)
        clear hK K
        try simp only[Act.put,lsa,lsz,lsc]
        refine wpAnyH_ready (rs := [10]) (by kernel_rfl) (by simp) ?_;refine AllReadyH.cons rfl (fun K hK => ?_) AllReadyH.nil;go_simp
        refine hK.out _ _ ?_ (fun hH => ?_)
        · exact(have B9:=Bag.alloc hH.2 _;⟨HC.out _ B9.now,B9⟩)
        clear hK K
        try simp only[Act.put,lsa,lsz,lsc]
        have sT:=sT.below (Below.more (Below.refl _ _) (.cells #[.slice a7 n7 c7,.bool m7] 51));refine wpAnyH_ready (rs := [11]) (by kernel_rfl) (by simp) ?_;refine AllReadyH.cons rfl (fun K hK => ?_) AllReadyH.nil;go_simp
        (go_at_call 122;(with_reducible refine(T2.out _ _ ?_ ?_).mono ?_);exact hH.2.now.2.2.2.1.int;(apply IntsAt.old1;(exact Below.refl _ _);(first|rfl|focus (simp;done));exact(IntAt.below hi7 (by refine Below.more ?_ _;exact Below.refl _ _)));rintro e wy8 ⟨a8,n8,c8,m8,rfl,hi8,hbz⟩;have sT:=sT.below hbz)
        refine hK.out _ _ ?_ (fun hH => ?_)
        · exact(have B9:=Bag.go hH.2 hbz;⟨HC.out _ B9.now,B9⟩)
        clear hK K
        try simp only[Act.put,lsa,lsz,lsc]
        refine wpAnyH_ready (rs := [12]) (by kernel_rfl) (by simp) ?_;refine AllReadyH.cons rfl (fun K hK => ?_) AllReadyH.nil;go_simp
        refine hK.out _ _ ?_ (fun hH => ?_)
        · exact(have B9:=Bag.alloc hH.2 _;⟨HC.out _ B9.now,B9⟩)
        clear hK K
        try simp only[Act.put,lsa,lsz,lsc]
        have sT:=sT.below (Below.more (Below.refl _ _) (.cells #[.slice a8 n8 c8,.bool m8] 51));refine wpAnyH_ready (rs := [13]) (by kernel_rfl) (by simp) ?_;refine AllReadyH.cons rfl (fun K hK => ?_) AllReadyH.nil;go_simp
        (go_at_call 228;(with_reducible refine(PL.out a6 n6 c6 m6 _ _ ?_ ?_).mono ?_);exact(IntAt.below hi6 (by refine Below.more ?_ _;refine Below.step (by assumption) ?_;refine Below.more ?_ _;refine Below.step (by assumption) ?_;exact Below.refl _ _));(apply IntsAt.old1;(exact Below.refl _ _);(first|rfl|focus (simp;done));exact(IntAt.below hi8 (by refine Below.more ?_ _;exact Below.refl _ _)));rintro e wy9 ⟨a9,n9,c9,m9,rfl,hi9,hbz⟩;have sT:=sT.below hbz)
        refine hK.out _ _ ?_ (fun hH => ?_)
        · exact(have B9:=Bag.go hH.2 hbz;⟨HC.out _ B9.now,B9⟩)
        clear hK K
        try simp only[Act.put,lsa,lsz,lsc]
        refine wpAnyH_ready (rs := [15]) (by kernel_rfl) (by simp) ?_;refine AllReadyH.cons (o:=⟨none,Op.store 51 (Operand.tmp 5) (Operand.tmp 32),0,_,_,none⟩) rfl (fun K hK => ?_) AllReadyH.nil;have sT:=sT;have hc:=sT.cell;have hc1:=sT.cell1;have hf:=sT.free;have hf1:=sT.free1;go_simp;have sT2:=sT.set2 (.slice a9 n9 c9) (.bool m9);have hi9s:IntAt _ a9 n9 c9 m9 S:=IntAt.set2b (IntAt.below hi9 (by exact Below.refl _ _)) sT (.slice a9 n9 c9) (.bool m9);have B9s:=HP.out _ _ sT (by omega) hH.2 a9 n9 c9 m9
        refine hK.out _ _ ?_ (fun hH => ?_)
        · exact⟨HC.out _ B9s.now,B9s⟩
        clear hK K
        try simp only[Act.put,lsa,lsz,lsc]
        refine wpAnyH_done (by kernel_rfl) ?_ _;refine NoPanic.normal ?_;exact TL _ _ _ _ _ _ _ _ _ _ _ _ _ _ _ _ _ _ _ _ _ _ _ _ _ _ _ _ _ _ hH.2 sT2 hi9s (by omega)
      exact AllReadyH.nil
    refine AllReadyH.cons rfl (fun K hK => ?_) ?_
    · have hk5:=hH.2.now.1.lt;have BW:=hH.2;have sT:=Slot2.new wy5 (.slice none 0 0) (.bool false) 51;go_simp
      refine hK.out _ _ ?_ (fun hH => ?_)
      · exact(have B9:=Bag.alloc hH.2 _;⟨HC.out _ B9.now,B9⟩)
      clear hK K
      try simp only[Act.put,lsa,lsz,lsc]
      refine wpAnyH_ready (rs := [4]) (by kernel_rfl) (by simp) ?_;refine AllReadyH.cons rfl (fun K hK => ?_) AllReadyH.nil;go_simp
      refine hK.out _ _ ?_ (fun hH => ?_)
      · exact(have B9:=Bag.alloc hH.2 _;⟨HC.out _ B9.now,B9⟩)
      clear hK K
      try simp only[Act.put,lsa,lsz,lsc]
      have sT:=sT.below (Below.more (Below.refl _ _) (.cells #[.slice a5 n5 c5,.bool m5] 51));refine wpAnyH_ready (rs := [5]) (by kernel_rfl) (by simp) ?_;refine AllReadyH.cons rfl (fun K hK => ?_) AllReadyH.nil;go_simp
      (go_at_call 122;(with_reducible refine(T1.out _ _ ?_ ?_).mono ?_);exact hH.2.now.2.2.2.2.1.int;(apply IntsAt.old1;(exact Below.refl _ _);(first|rfl|focus (simp;done));exact(IntAt.below hi5 (by refine Below.more ?_ _;refine Below.more ?_ _;exact Below.refl _ _)));rintro e wy6 ⟨a6,n6,c6,m6,rfl,hi6,hbz⟩;have sT:=sT.below hbz)
      refine hK.out _ _ ?_ (fun hH => ?_)
      · exact(have B9:=Bag.go hH.2 hbz;⟨HC.out _ B9.now,B9⟩)
      clear hK K
      try simp only[Act.put,lsa,lsz,lsc]
      refine wpAnyH_ready (rs := [9]) (by kernel_rfl) (by simp) ?_;refine AllReadyH.cons rfl (fun K hK => ?_) AllReadyH.nil;go_simp
      (go_at_call 123;(with_reducible refine(BL.out _ ?_).mono ?_);exact hH.2.now.2.2.2.2.1;rintro e wy7 ⟨a7,n7,c7,m7,rfl,hi7,hbz⟩;have sT:=sT.below hbz)
      refine hK.out _ _ ?_ (fun hH => ?_)
      · exact(have B9:=Bag.go hH.2 hbz;⟨HC.out _ B9.now,B9⟩)
      clear hK K
      try simp only[Act.put,lsa,lsz,lsc]
      refine wpAnyH_ready (rs := [10]) (by kernel_rfl) (by simp) ?_;refine AllReadyH.cons rfl (fun K hK => ?_) AllReadyH.nil;go_simp
      refine hK.out _ _ ?_ (fun hH => ?_)
      · exact(have B9:=Bag.alloc hH.2 _;⟨HC.out _ B9.now,B9⟩)
      clear hK K
      try simp only[Act.put,lsa,lsz,lsc]
      have sT:=sT.below (Below.more (Below.refl _ _) (.cells #[.slice a7 n7 c7,.bool m7] 51));refine wpAnyH_ready (rs := [11]) (by kernel_rfl) (by simp) ?_;refine AllReadyH.cons rfl (fun K hK => ?_) AllReadyH.nil;go_simp
      (go_at_call 122;(with_reducible refine(T2.out _ _ ?_ ?_).mono ?_);exact hH.2.now.2.2.2.1.int;(apply IntsAt.old1;(exact Below.refl _ _);(first|rfl|focus (simp;done));exact(IntAt.below hi7 (by refine Below.more ?_ _;exact Below.refl _ _)));rintro e wy8 ⟨a8,n8,c8,m8,rfl,hi8,hbz⟩;have sT:=sT.below hbz)
      refine hK.out _ _ ?_ (fun hH => ?_)
      · exact(have B9:=Bag.go hH.2 hbz;⟨HC.out _ B9.now,B9⟩)
      clear hK K
      try simp only[Act.put,lsa,lsz,lsc]
      refine wpAnyH_ready (rs := [12]) (by kernel_rfl) (by simp) ?_;refine AllReadyH.cons rfl (fun K hK => ?_) AllReadyH.nil;go_simp
      refine hK.out _ _ ?_ (fun hH => ?_)
      · exact(have B9:=Bag.alloc hH.2 _;⟨HC.out _ B9.now,B9⟩)
      clear hK K
      try simp only[Act.put,lsa,lsz,lsc]
      have sT:=sT.below (Below.more (Below.refl _ _) (.cells #[.slice a8 n8 c8,.bool m8] 51));refine wpAnyH_ready (rs := [13]) (by kernel_rfl) (by simp) ?_;refine AllReadyH.cons rfl (fun K hK => ?_) AllReadyH.nil;go_simp
      (go_at_call 228;(with_reducible refine(PL.out a6 n6 c6 m6 _ _ ?_ ?_).mono ?_);exact(IntAt.below hi6 (by refine Below.more ?_ _;refine Below.step (by assumption) ?_;refine Below.more ?_ _;refine Below.step (by assumption) ?_;exact Below.refl _ _));(apply IntsAt.old1;(exact Below.refl _ _);(first|rfl|focus (simp;done));exact(IntAt.below hi8 (by refine Below.more ?_ _;exact Below.refl _ _)));rintro e wy9 ⟨a9,n9,c9,m9,rfl,hi9,hbz⟩;have sT:=sT.below hbz)
      refine hK.out _ _ ?_ (fun hH => ?_)
      · exact(have B9:=Bag.go hH.2 hbz;⟨HC.out _ B9.now,B9⟩)
      clear hK K
      try simp only[Act.put,lsa,lsz,lsc]
      refine wpAnyH_ready (rs := [15]) (by kernel_rfl) (by simp) ?_;refine AllReadyH.cons (o:=⟨none,Op.store 51 (Operand.tmp 5) (Operand.tmp 32),0,_,_,none⟩) rfl (fun K hK => ?_) AllReadyH.nil;have sT:=sT;have hc:=sT.cell;have hc1:=sT.cell1;have hf:=sT.free;have hf1:=sT.free1;go_simp;have sT2:=sT.set2 (.slice a9 n9 c9) (.bool m9);have hi9s:IntAt _ a9 n9 c9 m9 S:=IntAt.set2b (IntAt.below hi9 (by exact Below.refl _ _)) sT (.slice a9 n9 c9) (.bool m9);have B9s:=HP.out _ _ sT (by omega) hH.2 a9 n9 c9 m9
      refine hK.out _ _ ?_ (fun hH => ?_)
      · exact⟨HC.out _ B9s.now,B9s⟩
      clear hK K
      try simp only[Act.put,lsa,lsz,lsc]
      refine wpAnyH_done (by kernel_rfl) ?_ _;refine NoPanic.normal ?_;exact TL _ _ _ _ _ _ _ _ _ _ _ _ _ _ _ _ _ _ _ _ _ _ _ _ _ _ _ _ _ _ hH.2 sT2 hi9s (by omega)
    exact AllReadyH.nil
  refine AllReadyH.cons rfl (fun K hK => ?_) ?_
  · have hk5:w.heap.size+1+1<w2.heap.size:=hH.2.now.1.lt;have sT:Slot2 (World.alloc w2.drew (.cells #[.slice none 0 0,.bool false] 51)) w2.heap.size (.slice none 0 0) (.bool false):=Slot2.new _ _ _ _;go_simp
    refine hK.out _ _ ?_ (fun hH => ?_)
    · exact(have B9:=Bag.alloc hH.2 _;⟨HC.out _ B9.now,B9⟩)
    clear hK K
    try simp only[Act.put,lsa,lsz,lsc]
    refine wpAnyH_ready (rs := [3]) (by kernel_rfl) (by simp) ?_;refine AllReadyH.cons rfl (fun K hK => ?_) AllReadyH.nil;go_simp
    (go_at_call 123;(with_reducible refine(BL'.out _ ?_).mono ?_);exact hH.2.now.2.2.2.1;rintro e wy5 ⟨a5,n5,c5,m5,rfl,hi5,hbz⟩;have sT:=sT.below hbz)
    refine hK.out _ _ ?_ (fun hH => ?_)
    · exact(have B9:=Bag.go hH.2 hbz;⟨HC.out _ B9.now,B9⟩)
    clear hK K
    try simp only[Act.put,lsa,lsz,lsc]
    refine wpAnyH_ready (rs := [4]) (by kernel_rfl) (by simp) ?_;refine AllReadyH.cons rfl (fun K hK => ?_) AllReadyH.nil;go_simp
    refine hK.out _ _ ?_ (fun hH => ?_)
    · exact(have B9:=Bag.alloc hH.2 _;⟨HC.out _ B9.now,B9⟩)
    clear hK K
    try simp only[Act.put,lsa,lsz,lsc]
    have sT:=sT.below (Below.more (Below.refl _ _) (.cells #[.slice a5 n5 c5,.bool m5] 51));refine wpAnyH_ready (rs := [5]) (by kernel_rfl) (by simp) ?_;refine AllReadyH.cons rfl (fun K hK => ?_) AllReadyH.nil;go_simp
    (go_at_call 122;(with_reducible refine(T1.out _ _ ?_ ?_).mono ?_);exact hH.2.now.2.2.2.2.1.int;(apply IntsAt.old1;(exact Below.refl _ _);(first|rfl|focus (simp;done));exact(IntAt.below hi5 (by refine Below.more ?_ _;exact Below.refl _ _)));rintro e wy6 ⟨a6,n6,c6,m6,rfl,hi6,hbz⟩;have sT:=sT.below hbz)
    refine hK.out _ _ ?_ (fun hH => ?_)
    · exact(have B9:=Bag.go hH.2 hbz;⟨HC.out _ B9.now,B9⟩)
    clear hK K
    try simp only[Act.put,lsa,lsz,lsc]
    refine wpAnyH_ready (rs := [9]) (by kernel_rfl) (by simp) ?_;refine AllReadyH.cons rfl (fun K hK => ?_) AllReadyH.nil;go_simp
    (go_at_call 123;(with_reducible refine(BL.out _ ?_).mono ?_);exact hH.2.now.2.2.2.2.1;rintro e wy7 ⟨a7,n7,c7,m7,rfl,hi7,hbz⟩;have sT:=sT.below hbz)
    refine hK.out _ _ ?_ (fun hH => ?_)
    · exact(have B9:=Bag.go hH.2 hbz;⟨HC.out _ B9.now,B9⟩)
    clear hK K
    try simp only[Act.put,lsa,lsz,lsc]
    refine wpAnyH_ready (rs := [10]) (by kernel_rfl) (by simp) ?_;refine AllReadyH.cons rfl (fun K hK => ?_) AllReadyH.nil;go_simp
    refine hK.out _ _ ?_ (fun hH => ?_)
    · exact(have B9:=Bag.alloc hH.2 _;⟨HC.out _ B9.now,B9⟩)
    clear hK K
    try simp only[Act.put,lsa,lsz,lsc]
    have sT:=sT.below (Below.more (Below.refl _ _) (.cells #[.slice a7 n7 c7,.bool m7] 51));refine wpAnyH_ready (rs := [11]) (by kernel_rfl) (by simp) ?_;refine AllReadyH.cons rfl (fun K hK => ?_) AllReadyH.nil;go_simp
    (go_at_call 122;(with_reducible refine(T2.out _ _ ?_ ?_).mono ?_);exact hH.2.now.2.2.2.1.int;(apply IntsAt.old1;(exact Below.refl _ _);(first|rfl|focus (simp;done));exact(IntAt.below hi7 (by refine Below.more ?_ _;exact Below.refl _ _)));rintro e wy8 ⟨a8,n8,c8,m8,rfl,hi8,hbz⟩;have sT:=sT.below hbz)
    refine hK.out _ _ ?_ (fun hH => ?_)
    · exact(have B9:=Bag.go hH.2 hbz;⟨HC.out _ B9.now,B9⟩)
    clear hK K
    try simp only[Act.put,lsa,lsz,lsc]
    refine wpAnyH_ready (rs := [12]) (by kernel_rfl) (by simp) ?_;refine AllReadyH.cons rfl (fun K hK => ?_) AllReadyH.nil;go_simp
    refine hK.out _ _ ?_ (fun hH => ?_)
    · exact(have B9:=Bag.alloc hH.2 _;⟨HC.out _ B9.now,B9⟩)
    clear hK K
    try simp only[Act.put,lsa,lsz,lsc]
    have sT:=sT.below (Below.more (Below.refl _ _) (.cells #[.slice a8 n8 c8,.bool m8] 51));refine wpAnyH_ready (rs := [13]) (by kernel_rfl) (by simp) ?_;refine AllReadyH.cons rfl (fun K hK => ?_) AllReadyH.nil;go_simp
    (go_at_call 228;(with_reducible refine(PL.out a6 n6 c6 m6 _ _ ?_ ?_).mono ?_);exact(IntAt.below hi6 (by refine Below.more ?_ _;refine Below.step (by assumption) ?_;refine Below.more ?_ _;refine Below.step (by assumption) ?_;exact Below.refl _ _));(apply IntsAt.old1;(exact Below.refl _ _);(first|rfl|focus (simp;done));exact(IntAt.below hi8 (by refine Below.more ?_ _;exact Below.refl _ _)));rintro e wy9 ⟨a9,n9,c9,m9,rfl,hi9,hbz⟩;have sT:=sT.below hbz)
    refine hK.out _ _ ?_ (fun hH => ?_)
    · exact(have B9:=Bag.go hH.2 hbz;⟨HC.out _ B9.now,B9⟩)
    clear hK K
    try simp only[Act.put,lsa,lsz,lsc]
    refine wpAnyH_ready (rs := [15]) (by kernel_rfl) (by simp) ?_;refine AllReadyH.cons (o:=⟨none,Op.store 51 (Operand.tmp 5) (Operand.tmp 32),0,_,_,none⟩) rfl (fun K hK => ?_) AllReadyH.nil;have sT:=sT;have hc:=sT.cell;have hc1:=sT.cell1;have hf:=sT.free;have hf1:=sT.free1;go_simp;have sT2:=sT.set2 (.slice a9 n9 c9) (.bool m9);have hi9s:IntAt _ a9 n9 c9 m9 S:=IntAt.set2b (IntAt.below hi9 (by exact Below.refl _ _)) sT (.slice a9 n9 c9) (.bool m9);have B9s:=HP.out _ _ sT (by omega) hH.2 a9 n9 c9 m9
    refine hK.out _ _ ?_ (fun hH => ?_)
    · exact⟨HC.out _ B9s.now,B9s⟩
    clear hK K
    try simp only[Act.put,lsa,lsz,lsc]
    refine wpAnyH_done (by kernel_rfl) ?_ _;refine NoPanic.normal ?_;exact TL _ _ _ _ _ _ _ _ _ _ _ _ _ _ _ _ _ _ _ _ _ _ _ _ _ _ _ _ _ _ hH.2 sT2 hi9s (by omega)
  exact AllReadyH.nil
theorem ratPlusOne_any (a : Option Addr) (n c : Nat) (m : Bool) (a2 : Option Addr) (n2 c2 : Nat) (P : Int) (Q : Nat) (b : Option Addr) (k l : Nat) (v : Bool) (b2 : Option Addr) (k2 l2 : Nat) (P' : Int) (Q' : Nat) (w : World)
    (h:RatAt w a n c m a2 n2 c2 P Q) (g:RatAt w b k l v b2 k2 l2 P' Q') (hQ:0<Q) (hQ':0<Q') (K:Nat) (hK:K<=200000) (h1:P.natAbs<4294967296^K) (h2:Q<4294967296^K) (h3:P'.natAbs<4294967296^K) (h4:Q'<4294967296^K) :
    Calls Tryz.prog 221 #[.agg #[.slice a n c,.bool m,.slice a2 n2 c2],.agg #[.slice b k l,.bool v,.slice b2 k2 l2]] w fun e w'=>RatTold w w' e (plP P Q P' Q') (plQ P Q P' Q'):=by
 by_cases hw:Q=1/\Q'=1
 · obtain⟨rfl,rfl⟩:=hw;exact ratPlusOne_whole a n c m a2 n2 c2 P b k l v b2 k2 l2 P' w h g K hK h1 h3
 · exact ratPlusOne_some a n c m a2 n2 c2 P Q b k l v b2 k2 l2 P' Q' w h g hQ hQ' K hK h1 h2 h3 h4 hw
def RatsAt(w:World)(sa:Option Addr)(n c:Nat)(fP:Nat->Int)(fQ:Nat->Nat):Prop:=n<=c/\n<=1000/\(n=0∨∃b off,sa=some ⟨b,off,none⟩/\b<w.heap.size /\
 ∀j,j<n->∃a' n' c' m' a2' n2' c2',w.cell? ⟨b,off+j*3,none⟩=some (.slice a' n' c')/\w.cell? ⟨b,off+j*3+1,none⟩=some (.bool m')/\w.cell? ⟨b,off+j*3+2,none⟩=some (.slice a2' n2' c2')/\RatAt w a' n' c' m' a2' n2' c2' (fP j) (fQ j))
theorem RatsAt.below{w w':World}{sa:Option Addr}{n c:Nat}{fP:Nat->Int}{fQ:Nat->Nat}(h:RatsAt w sa n c fP fQ)(hb:Below w.heap.size w w'):RatsAt w' sa n c fP fQ:=by
 obtain⟨h0,h1,h2⟩:=h;refine⟨h0,h1,?_⟩
 rcases h2 with h2|⟨b,off,rfl,hl,hc⟩
 · exact .inl h2
 · refine .inr ⟨b,off,rfl,Nat.lt_of_lt_of_le hl hb.size,fun j hj => ?_⟩;obtain⟨a',n',c',m',a2',n2',c2',e1,e2,e3,hr⟩:=hc j hj;exact⟨a',n',c',m',a2',n2',c2',(hb.cell (p:=⟨b,_,none⟩) hl).trans e1,(hb.cell (p:=⟨b,_,none⟩) hl).trans e2,(hb.cell (p:=⟨b,_,none⟩) hl).trans e3,hr.below hb⟩
theorem RatsAt.get {w : World} {sa : Option Addr} {n c : Nat} {fP : Nat -> Int} {fQ : Nat -> Nat} (h : RatsAt w sa n c fP fQ) {j : Nat} (hj : j < n) :
    ∃b off a' n' c' m' a2' n2' c2',sa=some ⟨b,off,none⟩/\b<w.heap.size/\w.cell? ⟨b,off+j*3,none⟩=some (.slice a' n' c')/\w.cell? ⟨b,off+j*3+1,none⟩=some (.bool m')/\w.cell? ⟨b,off+j*3+2,none⟩=some (.slice a2' n2' c2')/\RatAt w a' n' c' m' a2' n2' c2' (fP j) (fQ j):=by
 obtain⟨h0,h1,h2⟩:=h
 rcases h2 with h2|⟨b,off,rfl,hl,hc⟩
 · omega
 · obtain⟨a',n',c',m',a2',n2',c2',e⟩:=hc j hj;exact⟨b,off,a',n',c',m',a2',n2',c2',rfl,hl,e⟩
theorem RatsAt.nought(w:World)(fP:Nat->Int)(fQ:Nat->Nat):RatsAt w none 0 0 fP fQ:=⟨Nat.le_refl _,by omega,.inl rfl⟩
theorem RatsAt.old1 {wk w : World} {k : Nat} {a : Option Addr} {n c : Nat} {m : Bool} {a2 : Option Addr} {n2 c2 : Nat} {P : Int} {Q : Nat} {t : TypeId}
    (hb:Below (wk.alloc (.cells #[.slice a n c,.bool m,.slice a2 n2 c2] t)).heap.size (wk.alloc (.cells #[.slice a n c,.bool m,.slice a2 n2 c2] t)) w)
    (hk:wk.heap.size=k) (h:RatAt w a n c m a2 n2 c2 P Q):RatsAt w (some ⟨k,0,none⟩) 1 1 (fun _=>P) (fun _=>Q):=by
 subst hk;have hs:=(Slot3.new wk (.slice a n c) (.bool m) (.slice a2 n2 c2) t).below hb;refine⟨Nat.le_refl _,by omega,.inr ⟨_,0,rfl,hs.lt,fun j hj => ?_⟩⟩;obtain rfl:j=0:=by omega
 exact⟨a,n,c,m,a2,n2,c2,hs.cell,hs.cell1,hs.cell2,h⟩
def sumS(P:Int)(Q:Nat)(fP:Nat->Int)(fQ:Nat->Nat):Nat->Int × Nat
 | 0=>(P,Q)
 | k+1=>(plP (sumS P Q fP fQ k).1 (sumS P Q fP fQ k).2 (fP k) (fQ k),plQ (sumS P Q fP fQ k).1 (sumS P Q fP fQ k).2 (fP k) (fQ k))
theorem sumS_pos{P:Int}{Q:Nat}{fP:Nat->Int}{fQ:Nat->Nat}(hQ:0<Q):∀k,(∀j,j<k->0<fQ j)->0<(sumS P Q fP fQ k).2
 | 0,_=>hQ
 | k+1,h=>loQ_pos _ (Nat.mul_pos (sumS_pos hQ k fun j hj=>h j (by omega)) (h k (by omega)))
def RPL(w wr:World)(V:Int × Nat):Prop:=Below w.heap.size w wr/\Slot3 wr (w.heap.size+1) (.slice none 0 0) (.bool false) (.slice none 0 0)/\∃a n c m a2 n2 c2,Slot3 wr (w.heap.size+1+1) (.slice a n c) (.bool m) (.slice a2 n2 c2)/\RatAt wr a n c m a2 n2 c2 V.1 V.2
theorem ratPlus_any (a : Option Addr) (n c : Nat) (m : Bool) (a2 : Option Addr) (n2 c2 : Nat) (P : Int) (Q : Nat) (sa : Option Addr) (ln lc : Nat) (fP : Nat -> Int) (fQ : Nat -> Nat) (w : World) (h : RatAt w a n c m a2 n2 c2 P Q) (g : RatsAt w sa ln lc fP fQ)
    (hQ:0<Q) (hfQ:∀j,j<ln->0<fQ j) (K:Nat) (hK:K<=200000)
    (hb:∀k,k<ln->(sumS P Q fP fQ k).1.natAbs<4294967296^K/\(sumS P Q fP fQ k).2<4294967296^K/\(fP k).natAbs<4294967296^K/\fQ k<4294967296^K) :
    Calls Tryz.prog 178 #[.agg #[.slice a n c,.bool m,.slice a2 n2 c2],.slice sa ln lc] w fun e w'=>RatTold w w' e (sumS P Q fP fQ ln).1 (sumS P Q fP fQ ln).2:=by
 have B0:=(((((Bag.start w).rat h).box3 (.slice a n c) (.bool m) (.slice a2 n2 c2) 53).box3 (.slice none 0 0) (.bool false) (.slice none 0 0) 53)).box3 (.slice a n c) (.bool m) (.slice a2 n2 c2) 53;simp only[World.size_alloc]at B0;have H0:Hid (RPL w _ (sumS P Q fP fQ 0)):=⟨B0.below,B0.now.2.1,a,n,c,m,a2,n2,c2,B0.now.1,B0.now.2.2.2.1⟩
 have⟨q0,q1,q2⟩:=B0.now.2.2.1.c3;have HG:=Lib.hid g;have hln:ln<=1000/\ln<=lc:=⟨g.2.1,g.1⟩
 have HB:=Lib.hid hb;have HP:Hid (∀k,k<=ln->0<(sumS P Q fP fQ k).2):=fun k hk=>sumS_pos hQ k fun j hj=>hfQ j (by omega)
 have HF:=Lib.hid hfQ;clear B0 h g hb hQ hfQ;go_enter Tryz.func178,Tryz.ntmps178;go_wp2
 go_loopw [11] (fun i wr=>∃k:Nat,k<=ln/\i=.int .i64 k/\RPL w wr (sumS P Q fP fQ k)) (fun i _=>ln-(intOf i).toNat)
 case atStart=>exact⟨0,by omega,rfl,H0.out⟩
 case round =>
  obtain⟨k,hk,rfl,hr⟩:=hrel
  by_cases hlt:k<ln
  · obtain⟨hbl,hrs,a3,n3,c3,m3,a4,n4,c4,hs3,hi3⟩:=hr;obtain⟨b,off,a',n',c',m',a2',n2',c2',rfl,hlb,e1,e2,e3,hi'⟩:=(HG.out.below hbl).get hlt;have B1:=(((((Bag.start wr).rat hi3).rat hi').slot3 hrs).slot3 hs3).box3 (.slice a' n' c') (.bool m') (.slice a2' n2' c2') 53;have HBK:=HB.out k hlt;have PO1:=Lib.hid (ratPlusOne_any a3 n3 c3 m3 a4 n4 c4 (sumS P Q fP fQ k).1 (sumS P Q fP fQ k).2 a' n' c' m' a2' n2' c2' (fP k) (fQ k) _ B1.now.2.2.2.2.1 B1.now.2.2.2.1 (HP.out k (by omega)) (HF.out k hlt) K hK HBK.1 HBK.2.1 HBK.2.2.1 HBK.2.2.2);have HBL:=Lib.hid hbl;have⟨p0,p1,p2⟩:=B1.now.2.1.c3;have BB:=Lib.hid B1;have hwr:w.heap.size<=wr.heap.size:=hbl.size;clear hbl hrs hi3 hi' B1 HBK hs3 q0 q1 q2;go_wp2_with fail;go_at_call 221;(with_reducible refine PO1.out.mono ?_);rintro e w4 ⟨a5,n5,c5,m5,a6,n6,c6,rfl,hi5,hb5⟩;have B5:=BB.out.go hb5;have hs5:=B5.now.2.1;have⟨hc1,hc2,hc3,hf1,hf2,hf3⟩:=hs5.s6;have hb6:=HBL.out.trans (B5.below.mono hwr)
    have HN:Hid (RPL w (((w4.setCell ⟨w.heap.size+1+1,0,none⟩ (.slice a5 n5 c5)).setCell ⟨w.heap.size+1+1,1,none⟩ (.bool m5)).setCell ⟨w.heap.size+1+1,2,none⟩ (.slice a6 n6 c6)) (sumS P Q fP fQ (k+1))):=by
     have hd:=RatTold.done (w:=w) (k:=w.heap.size+1+1) hb6 (by omega) hs5 hi5;obtain⟨x1,x2,x3,x4,x5,x6,x7,he,hr,hbx⟩:=hd
     cases he
     exact⟨hbx,B5.now.2.2.1.set3o (by omega) _ _ _,a5,n5,c5,m5,a6,n6,c6,(hs5.set2 (.slice a5 n5 c5) (.bool m5)).set1 (.slice a6 n6 c6),hr⟩
    clear hb5 hi5 B5 hs5 hb6 p0 p1 p2;go_wp2
    go_roundw
    case rel=>exact⟨k+1,by omega,by go_num,HN.out⟩
    case measure=>simp[intOf];omega
  · obtain rfl:k=ln:=by omega
    obtain⟨hbl,hrs,a3,n3,c3,m3,a4,n4,c4,hs3,hi3⟩:=hr;have⟨p0,p1,p2⟩:=hs3.c3;have⟨r0,r1,r2,g0,g1,g2⟩:=hrs.s6;have HS:=hrs.set (.slice a3 n3 c3) (.bool m3) (.slice a4 n4 c4);have HE:=Lib.hid (RatTold.done hbl (by omega) hrs hi3);clear hbl hrs hi3 hs3 q0 q1 q2;go_wp2;exact bodyPost_ret (by simp[results,Tryz.results178,go_sem,HS]) rfl HE.out
def tmP(P:Int)(Q:Nat)(P':Int)(Q':Nat):Int:=loP (P*P') (Q*Q')
def tmQ(P:Int)(Q:Nat)(P':Int)(Q':Nat):Nat:=loQ (P*P') (Q*Q')
end Go.Proofs.YtdmmenaejkpnjaaGreatDoor
