/-
  Texts of this seat, laid together.
-/
import Derived.Deep.AppendLies
import Derived.StillTailTactics
import Derived.Laws.OwnMore
import Derived.Deep.RegionHeld3
import Derived.Test.YtdmmenaejkpnjaaGreatDoorF11
set_option maxHeartbeats 12800000
set_option maxRecDepth 100000
set_option linter.unusedSimpArgs false
set_option linter.unusedVariables false
namespace Go.Proofs.YtdmmenaejkpnjaaGreatDoor
open Go.RowKit
theorem KRow.part{w:World}{ki:IntKind}{a:Option Addr}{n c:Nat}{f:Nat->Int}(h:KRow w ki a n c f){l m:Nat}(hm:l+m<=n):KRow w ki (if c=l then a else a.map (·.add (l*1))) m (c-l) (shf f l):=by
 have h1:=h.1;have h2:=h.2.1
 rcases Nat.eq_zero_or_pos m with h0|h0
 · subst h0;exact⟨Nat.zero_le _,by omega,.inl rfl⟩
 · rw[if_neg (by omega)]
   rcases h.2.2 with h3|⟨b,off,rfl,hb,hc⟩
   · omega
   · refine⟨by omega,by omega,.inr ⟨b,off+l,by simp[Addr.add],hb,fun j hj => ?_⟩⟩;rw[show off+l+j=off+(l+j)by omega];exact hc (l+j) (by omega)
theorem RRow.part{w:World}{a:Option Addr}{n c:Nat}{fP:Nat->Int}{fQ:Nat->Nat}(h:RRow w a n c fP fQ){l m:Nat}(hm:l+m<=n):RRow w (if c=l then a else a.map (·.add (l*3))) m (c-l) (shf fP l) (fun j=>fQ (l+j)):=by
 have h1:=h.1;have h2:=h.2.1
 rcases Nat.eq_zero_or_pos m with h0|h0
 · subst h0;exact⟨Nat.zero_le _,by omega,.inl rfl⟩
 · rw[if_neg (by omega)]
   rcases h.2.2 with h3|⟨b,off,rfl,hb,hc⟩
   · omega
   · refine⟨by omega,by omega,.inr ⟨b,off+l*3,by simp[Addr.add],hb,fun j hj => ?_⟩⟩;obtain⟨a',n',c',m',a2',n2',c2',e1,e2,e3,e4⟩:=hc (l+j) (by omega)
     refine⟨a',n',c',m',a2',n2',c2',?_,?_,?_,e4⟩
     · rw[show off+l*3+j*3=off+(l+j)*3 by omega];exact e1
     · rw[show off+l*3+j*3+1=off+(l+j)*3+1 by omega];exact e2
     · rw[show off+l*3+j*3+2=off+(l+j)*3+2 by omega];exact e3
def OwnC(y0 w:World)(a:Option Addr)(k c:Nat)(f:Nat->Int):Prop:=Below y0.heap.size y0 w/\w.ownsRow y0.heap.size 21 1 (.slice a k c) k (kcs .i32 f k)
theorem OwnC.krow{y0 w:World}{a:Option Addr}{k c:Nat}{f:Nat->Int}(h:OwnC y0 w a k c f):KRow w .i32 a k c f:=by
 obtain⟨a',c',e,q⟩:=KRow.of_own h.2
 cases e
 exact q
theorem OwnC.go{y0 w w':World}{a:Option Addr}{k c:Nat}{f:Nat->Int}(h:OwnC y0 w a k c f)(hb:Below w.heap.size w w'):OwnC y0 w' a k c f:=⟨h.1.trans (hb.mono h.1.size),own_below h.2 hb⟩
def OwnR(y0 w:World)(a:Option Addr)(k c:Nat)(fP:Nat->Int)(fQ:Nat->Nat):Prop:=Below y0.heap.size y0 w/\∃xs,w.ownsRow y0.heap.size 53 3 (.slice a k c) k xs /\
 ∀j,j<k->∃a' n' c' m' a2' n2' c2',xs[j*3]? = some (.slice a' n' c')/\xs[j*3+1]? = some (.bool m')/\xs[j*3+2]? = some (.slice a2' n2' c2')/\RatAt y0 a' n' c' m' a2' n2' c2' (fP j) (fQ j)
theorem OwnR.go{y0 w w':World}{a:Option Addr}{k c:Nat}{fP:Nat->Int}{fQ:Nat->Nat}(h:OwnR y0 w a k c fP fQ)(hb:Below w.heap.size w w'):OwnR y0 w' a k c fP fQ:=by
 obtain⟨h1,xs,h2,h3⟩:=h;exact⟨h1.trans (hb.mono h1.size),xs,own_below h2 hb,h3⟩
theorem OwnR.rrow{y0 w:World}{a:Option Addr}{k c:Nat}{fP:Nat->Int}{fQ:Nat->Nat}(h:OwnR y0 w a k c fP fQ):RRow w a k c fP fQ:=by
 obtain⟨hb,xs,h1,h3⟩:=h
 rcases h1.2 with ⟨e,h0⟩|⟨g,cap,cur,e,_,hh,l1,l2,_,_⟩
 · cases e
   exact RRow.nought _ _ _ (Nat.zero_le _) _ _
 · cases e
   refine⟨l1,l2,.inr ⟨g,0,rfl,Row.lt (t:=53) hh,fun j hj => ?_⟩⟩
   have hc:∀i u,xs[i]? = some u->w.cell? ⟨g,0+i,none⟩=some u:=fun i u hu=>by
    have:=h1.cells (g:=g) rfl i u hu
    rwa [show(⟨g,0,none⟩:Addr).add i=⟨g,0+i,none⟩by unfold Addr.add;split<;>simp_all]at this
   obtain⟨a',n',c',m',a2',n2',c2',e1,e2,e3,e4⟩:=h3 j hj;exact⟨a',n',c',m',a2',n2',c2',hc _ _ e1,by rw[show 0+j*3+1=0+(j*3+1)by omega];exact hc _ _ e2,by rw[show 0+j*3+2=0+(j*3+2)by omega];exact hc _ _ e3,e4.below hb⟩
end Go.Proofs.YtdmmenaejkpnjaaGreatDoor
namespace Go.Proofs.YtdmmenaejkpnjaaGreatDoor
open Go.RowKit
attribute [local go_sem ↓] Go.wp_at_zero Go.wp_at_succ
theorem NewAt.nil{w w':World}{a:Option Addr}{n c:Nat}(h:NewAt w w' a n c):a=none->c=0:=fun e=>by
 rcases h with ⟨_,_,h⟩|⟨g,h,_⟩
 · exact h
 · rw[h]at e;cases e
end Go.Proofs.YtdmmenaejkpnjaaGreatDoor
namespace Go.Proofs.YtdmmenaejkpnjaaGreatDoor
open Go.RowKit
def bnd(b x:Int):Int:=min (max x (0-b)) b
def Scr(gb nb:Nat)(w0 w:World):Prop:=Wrote gb 0 nb w0 w/\∃h,IBox w gb nb h
theorem Scr.next{gb nb:Nat}{a b c:World}(h:Scr gb nb a b)(q:Scr gb nb b c):Scr gb nb a c:=⟨h.1.trans q.1,q.2⟩
theorem Scr.cell{gb nb:Nat}{w wz:World}(h:Scr gb nb w wz){p:Addr}(hl:p.block<w.heap.size)(hne:p.block≠gb):wz.cell? p=w.cell? p:=World.cell?_of_block (h.1.block _ hl hne)
theorem Scr.krow{gb nb g n c:Nat}{f:Nat->Int}{w wz:World}(h:Scr gb nb w wz)(q:KRow w .i64 (some ⟨g,0,none⟩) n c f)(hne:g≠gb):KRow wz .i64 (some ⟨g,0,none⟩) n c f:=by
 refine⟨q.1,q.2.1,q.2.2.imp id ?_⟩;rintro⟨b,off,e,hl,hc⟩
 cases e
 exact⟨_,_,rfl,Nat.lt_of_lt_of_le hl h.1.size,fun j hj=>(h.cell (p:=⟨g,0+j,none⟩) hl hne).trans (hc j hj)⟩
end Go.Proofs.YtdmmenaejkpnjaaGreatDoor
namespace Go.Proofs.YtdmmenaejkpnjaaGreatDoor
open Go.RowKit
attribute [local go_sem ↓] Go.wp_at_zero Go.wp_at_succ
theorem IsA.of(ch:Bool)(more:Int)(d:Nat->Int)(na:Option Addr)(nn nc:Nat)(ta:Option Addr)(tn tc:Nat):IsA (arrC ch more d na nn nc ta tn tc):=⟨_,_,_,_,_,_,_,_,_,rfl⟩
theorem Arr.zero{w:World}{x:Array Value}{S:Nat->Int}{r:Nat}{ch:Bool}{g P:Nat->Int}{Q:Nat->Nat}(h:Arr w x S r ch 0 g P Q)(g' P':Nat->Int)(Q':Nat->Nat):Arr w x S r ch 0 g' P' Q':=by
 refine⟨fun e => ?_,fun e => ?_⟩
 · obtain⟨a,c,h1,h2⟩:=h.1 e;exact⟨a,c,h1,h2.zero _⟩
 · obtain⟨a,c,h1,h2⟩:=h.2 e;exact⟨a,c,h1,h2.1,h2.2.1,.inl rfl⟩
def Keeps(K:World->Prop):Prop:=(∀a b,Below a.heap.size a b->K a->K b)/\∀(y:World) (k:Nat) (z cs:Array Value),Row y k 36 z->IsA z->K y->K (y.setRow k cs)
def AlkP(k1 k2 k3 k4:Nat)(c1 c2:Array Value)(K:World->Prop)(y:World):Prop:=Row y k1 36 c1/\Row y k2 36 c2/\(∃z,Row y k3 36 z/\IsA z)/\(∃z,Row y k4 36 z/\IsA z)/\K y
theorem AlkP.stay{k1 k2 k3 k4:Nat}{c1 c2:Array Value}{K:World->Prop}(hK:Keeps K):∀a b,Below a.heap.size a b->AlkP k1 k2 k3 k4 c1 c2 K a->AlkP k1 k2 k3 k4 c1 c2 K b:=by
 rintro a b hb ⟨h1,h2,⟨z3,h3,i3⟩,⟨z4,h4,i4⟩,h5⟩;exact⟨h1.below hb,h2.below hb,⟨z3,h3.below hb,i3⟩,⟨z4,h4.below hb,i4⟩,hK.1 _ _ hb h5⟩
theorem AlkP.put3{w y:World}{k1 k2 k3 k4:Nat}{c1 c2:Array Value}{K:World->Prop}(hK:Keeps K)(h:Bag w (AlkP k1 k2 k3 k4 c1 c2 K) y)(n1:k1≠k3)(n2:k2≠k3)(n4:k4≠k3)(hw:w.heap.size<=k3)(cs:Array Value)(hc:IsA cs):Bag w (AlkP k1 k2 k3 k4 c1 c2 K) (y.setRow k3 cs):=by
 obtain⟨h1,h2,⟨z3,h3,i3⟩,⟨z4,h4,i4⟩,h5⟩:=h.now;exact⟨below_put h.below hw _,AlkP.stay hK,h1.puto n1 _,h2.puto n2 _,⟨_,h3.put _,hc⟩,⟨z4,h4.puto n4 _,i4⟩,hK.2 _ _ _ _ h3 i3 h5⟩
theorem AlkP.put4{w y:World}{k1 k2 k3 k4:Nat}{c1 c2:Array Value}{K:World->Prop}(hK:Keeps K)(h:Bag w (AlkP k1 k2 k3 k4 c1 c2 K) y)(n1:k1≠k4)(n2:k2≠k4)(n3:k3≠k4)(hw:w.heap.size<=k4)(cs:Array Value)(hc:IsA cs):Bag w (AlkP k1 k2 k3 k4 c1 c2 K) (y.setRow k4 cs):=by
 obtain⟨h1,h2,⟨z3,h3,i3⟩,⟨z4,h4,i4⟩,h5⟩:=h.now;exact⟨below_put h.below hw _,AlkP.stay hK,h1.puto n1 _,h2.puto n2 _,⟨z3,h3.puto n3 _,i3⟩,⟨_,h4.put _,hc⟩,hK.2 _ _ _ _ h4 i4 h5⟩
def AlkB(f:Bool)(k1 k2 k3 k4:Nat)(c1 c2:Array Value)(y:World):Prop:=(f=false->Row y k2 36 c2)/\Row y k1 36 c1/\(∃z,Row y k2 36 z/\IsA z)/\(∃z,Row y k3 36 z/\IsA z)/\∃z,Row y k4 36 z/\IsA z
theorem AlkB.stay{f:Bool}{k1 k2 k3 k4:Nat}{c1 c2:Array Value}:∀a b,Below a.heap.size a b->AlkB f k1 k2 k3 k4 c1 c2 a->AlkB f k1 k2 k3 k4 c1 c2 b:=by
 rintro a b hb ⟨h0,h1,⟨z2,h2,i2⟩,⟨z3,h3,i3⟩,z4,h4,i4⟩;exact⟨fun e=>(h0 e).below hb,h1.below hb,⟨z2,h2.below hb,i2⟩,⟨z3,h3.below hb,i3⟩,z4,h4.below hb,i4⟩
theorem AlkB.put{w y:World}{f:Bool}{k1 k2 k3 k4:Nat}{c1 c2:Array Value}(h:Bag w (AlkB f k1 k2 k3 k4 c1 c2) y)(n1:k1≠k2)(n34:k3≠k2/\k4≠k2)(hw:w.heap.size<=k2)(cs:Array Value)(hc:IsA cs):Bag w (AlkB true k1 k2 k3 k4 c1 c2) (y.setRow k2 cs):=by
 obtain⟨h0,h1,⟨z2,h2,i2⟩,⟨z3,h3,i3⟩,z4,h4,i4⟩:=h.now;exact⟨below_put h.below hw _,AlkB.stay,(fun e=>by cases e),h1.puto n1 _,⟨_,h2.put _,hc⟩,⟨z3,h3.puto n34.1 _,i3⟩,z4,h4.puto n34.2 _,i4⟩
end Go.Proofs.YtdmmenaejkpnjaaGreatDoor
namespace Go.Proofs.YtdmmenaejkpnjaaGreatDoor
open Go.RowKit
def OwnI(y0 w:World)(a:Option Addr)(k c:Nat)(f:Nat->Int):Prop:=Below y0.heap.size y0 w/\w.ownsRow y0.heap.size 3 1 (.slice a k c) k (kcs .i64 f k)
theorem OwnI.nil(y0:World)(f:Nat->Int):OwnI y0 y0 none 0 0 f:=⟨Below.refl _ _,World.ownsRow_nil _ _ _ _⟩
theorem OwnI.go{y0 w w':World}{a:Option Addr}{k c:Nat}{f:Nat->Int}(h:OwnI y0 w a k c f)(hb:Below w.heap.size w w'):OwnI y0 w' a k c f:=⟨h.1.trans (hb.mono h.1.size),own_below h.2 hb⟩
theorem OwnI.krow{y0 w:World}{a:Option Addr}{k c:Nat}{f:Nat->Int}(h:OwnI y0 w a k c f):KRow w .i64 a k c f:=by
 obtain⟨a',c',e,q⟩:=KRow.of_own h.2
 cases e
 exact q
theorem nnO_le(ch:Bool)(L:Nat):nnO ch L<=L/\tnO ch L<=L:=by unfold nnO tnO;cases ch<;>simp
theorem Pln.put{w:World}{cs:Array Value}{S:Nat->Int}{r:Nat}{ch:Bool}{L:Nat}{g:Nat->Int}{fB:Nat->Bool}{fS fT:Nat->ByteArray}(h:Pln w cs S r ch L g fB fS fT){k:Nat}{t:TypeId}(hr:Row w k t plZer)(cs':Array Value):Pln (w.setRow k cs') cs S r ch L g fB fS fT:=PlnAt.away h hr (noInt_pl _ _ _ _ _ _ _ _ _ _) (noStr_pl _ _ _ _ _ _ _ _ _ _) (Far.setRow _ _ _)
def PoTold(E:Int)(S:Nat->Int)(r:Nat)(ch:Bool)(L:Nat)(g:Nat->Int)(fB:Nat->Bool)(fS fT:Nat->ByteArray)(w w':World)(e:Ending):Prop :=
 ∃cs,e=.returned (.tuple #[.agg cs,.int .i64 E])/\(E=0->Pln w' cs S r ch L g fB fS fT)/\(E≠0->cs=plZer)/\Below w.heap.size w w'
theorem PoTold.no{E:Int}(hE:E≠0){S:Nat->Int}{r:Nat}{ch:Bool}{L:Nat}{g:Nat->Int}{fB:Nat->Bool}{fS fT:Nat->ByteArray}{w w':World}(hb:Below w.heap.size w w'):PoTold E S r ch L g fB fS fT w w' (.returned (.tuple #[.agg plZer,.int .i64 E])) :=
 ⟨plZer,rfl,fun e=>absurd e hE,fun _=>rfl,hb⟩
theorem PoTold.yes{S:Nat->Int}{r:Nat}{ch:Bool}{L:Nat}{g:Nat->Int}{fB:Nat->Bool}{fS fT:Nat->ByteArray}{w w':World}{cs:Array Value}(h:Pln w' cs S r ch L g fB fS fT)(hb:Below w.heap.size w w'):PoTold 0 S r ch L g fB fS fT w w' (.returned (.tuple #[.agg cs,.int .i64 0])) :=
 ⟨cs,rfl,fun _=>h,fun e=>absurd rfl e,hb⟩
theorem Pln.form{w:World}{cs:Array Value}{S:Nat->Int}{r:Nat}{ch:Bool}{L:Nat}{g:Nat->Int}{fB:Nat->Bool}{fS fT:Nat->ByteArray}(h:Pln w cs S r ch L g fB fS fT):∃sa sc ta tc na nc,cs=plC sa r sc ch ta (tnO ch L) tc na (nnO ch L) nc/\KRow w .i64 sa r sc S:=by
 obtain⟨sa,sc,ta,tc,na,nc,e,h1,_⟩:=h;exact⟨sa,sc,ta,tc,na,nc,e,h1⟩
end Go.Proofs.YtdmmenaejkpnjaaGreatDoor
namespace Go.Proofs.YtdmmenaejkpnjaaGreatDoor
open Go.RowKit
attribute [local go_sem ↓] Go.wp_at_zero Go.wp_at_succ
def GiveA(w:World)(fv:FuncId)(cap:Array Value)(L:Nat):Prop:=∀M,M<=1000000->Gives fv cap (arG L) M w
theorem GiveA.below{w w':World}{fv:FuncId}{cap:Array Value}{L:Nat}(h:GiveA w fv cap L)(hb:Below w.heap.size w w'):GiveA w' fv cap L:=fun M hM=>(h M hM).below hb
theorem MoTold.ok{E:Int}{S:Nat->Int}{r:Nat}{ch:Bool}{L:Nat}{g fP:Nat->Int}{fQ:Nat->Nat}{w w':World}{e:Ending}(h:MoTold E S r ch L g fP fQ w w' e)(hE:E=0):∃cs,e=.returned (.tuple #[.agg cs,.int .i64 0])/\Arr w' cs S r ch L g fP fQ/\Below w.heap.size w w':=by
 obtain⟨cs,he,h1,_,hb⟩:=h;rw[hE]at he;exact⟨cs,he,h1 hE,hb⟩
theorem Bag.fresh{w y:World}(hb:Below w.heap.size w y):Bag w (fun _=>True) y:=⟨hb,fun _ _ _ _=>trivial,trivial⟩
def PlJ(w:World)(p:Array Value)(l:List Int)(n:Nat):Prop:=∀T,Pln w p (fun _=>(n:Int)) 1 false n T (fun j=>rB (lt l j)) (fun j=>rS (lt l j)) (fun _=>str (dec 1))
theorem PlJ.below{w w':World}{p:Array Value}{l:List Int}{n:Nat}(h:PlJ w p l n)(hb:Below w.heap.size w w'):PlJ w' p l n:=fun T=>(h T).below hb
theorem shownJ{w:World}{cs p:Array Value}{S:Nat->Int}{L:Nat}{g fP:Nat->Int}{fQ:Nat->Nat}{l:List Int}(h:Arr w cs S 1 false L g fP fQ)(hp:PlJ w p l L)(hL:L<=10)(hS:S 0=(L:Int))(hP:∀j,j<L->fP j=lt l j/\fQ j=1/\(fP j).natAbs<=100):Shown w cs p:=by
 refine⟨S,1,false,L,g,fP,fQ,fun _=>(L:Int),g,_,_,_,h,hp g,by omega,by omega,fun _ j hj => ?_,fun j hj => ?_,fun _ _=>rfl,fun j hj => ?_⟩
 · obtain⟨e1,e2,e3⟩:=hP j hj;rw[e2];refine⟨by omega,?_,by decide⟩;have:(100:Nat)<4294967296^7:=by decide
   omega
 · obtain rfl:j=0:=by omega
   exact hS
 · obtain⟨e1,e2,e3⟩:=hP j hj;rw[e1,e2];exact⟨rfl,rfl,rfl⟩
def ArrA(w:World)(cs:Array Value)(S:Nat->Int)(r:Nat)(ch:Bool)(L:Nat)(fP:Nat->Int)(fQ:Nat->Nat):Prop:=∀g,Arr w cs S r ch L g fP fQ
theorem ArrA.below{w w':World}{cs:Array Value}{S:Nat->Int}{r:Nat}{ch:Bool}{L:Nat}{fP:Nat->Int}{fQ:Nat->Nat}(h:ArrA w cs S r ch L fP fQ)(hb:Below w.heap.size w w'):ArrA w' cs S r ch L fP fQ:=fun g=>(h g).below hb
theorem ArrA.store{w:World}{cs:Array Value}{S:Nat->Int}{r:Nat}{ch:Bool}{L:Nat}{fP:Nat->Int}{fQ:Nat->Nat}(h:ArrA w cs S r ch L fP fQ){k:Nat}{t:TypeId}{z:Array Value}(hr:Row w k t z)(hz:IsA z)(cs':Array Value):ArrA (w.setRow k cs') cs S r ch L fP fQ:=fun g=>(h g).store hr hz cs'
theorem less2{p:Nat->Prop}(h0:p 0)(h1:p 1):∀j,j<2->p j
 | 0,_=>h0
 | 1,_=>h1
 | n+2,h=>absurd h (by omega)
end Go.Proofs.YtdmmenaejkpnjaaGreatDoor
namespace Go.Proofs.YtdmmenaejkpnjaaGreatDoor
open Go.RowKit
def MoR(w:World)(x:Array Value)(E:Int)(S:Nat->Int)(r:Nat)(ch:Bool)(L:Nat)(g fP:Nat->Int)(fQ:Nat->Nat):Prop:=IsA x/\(E=0->Arr w x S r ch L g fP fQ)/\(E≠0->x=zerC)
theorem MoR.below{w w':World}{x:Array Value}{E:Int}{S:Nat->Int}{r:Nat}{ch:Bool}{L:Nat}{g fP:Nat->Int}{fQ:Nat->Nat}(h:MoR w x E S r ch L g fP fQ)(hb:Below w.heap.size w w'):MoR w' x E S r ch L g fP fQ:=⟨h.1,fun e=>(h.2.1 e).below hb,h.2.2⟩
theorem MoR.store{w:World}{x:Array Value}{E:Int}{S:Nat->Int}{r:Nat}{ch:Bool}{L:Nat}{g fP:Nat->Int}{fQ:Nat->Nat}(h:MoR w x E S r ch L g fP fQ){k:Nat}{t:TypeId}{z:Array Value}(hr:Row w k t z)(hz:IsA z)(cs':Array Value):MoR (w.setRow k cs') x E S r ch L g fP fQ:=⟨h.1,fun e=>(h.2.1 e).store hr hz cs',h.2.2⟩
theorem MoTold.res {E : Int} {S : Nat -> Int} {r : Nat} {ch : Bool} {L : Nat} {g fP : Nat -> Int} {fQ : Nat -> Nat} {w w' : World} {e : Ending} (h : MoTold E S r ch L g fP fQ w w' e) :
    ∃x,e=.returned (.tuple #[.agg x,.int .i64 E])/\MoR w' x E S r ch L g fP fQ/\Below w.heap.size w w':=by
 obtain⟨x,he,h1,h2,hb⟩:=h;refine⟨x,he,⟨?_,h1,h2⟩,hb⟩
 by_cases hE:E=0
 · exact(h1 hE).isA
 · rw[h2 hE];exact IsA.zer
def IsP(p:Array Value):Prop:=∃sa sn sc ch ta tn tc na nn nc,p=plC sa sn sc ch ta tn tc na nn nc
theorem IsP.size{p:Array Value}(h:IsP p):p.size=4:=by
 obtain⟨_,_,_,_,_,_,_,_,_,_,rfl⟩:=h
 rfl
def PoR(w:World)(p:Array Value)(E:Int)(S:Nat->Int)(r:Nat)(ch:Bool)(L:Nat)(g:Nat->Int)(fB:Nat->Bool)(fS fT:Nat->ByteArray):Prop:=IsP p/\(E=0->Pln w p S r ch L g fB fS fT)
theorem PoR.below{w w':World}{p:Array Value}{E:Int}{S:Nat->Int}{r:Nat}{ch:Bool}{L:Nat}{g:Nat->Int}{fB:Nat->Bool}{fS fT:Nat->ByteArray}(h:PoR w p E S r ch L g fB fS fT)(hb:Below w.heap.size w w'):PoR w' p E S r ch L g fB fS fT:=⟨h.1,fun e=>(h.2 e).below hb⟩
theorem PoR.put{w:World}{p:Array Value}{E:Int}{S:Nat->Int}{r:Nat}{ch:Bool}{L:Nat}{g:Nat->Int}{fB:Nat->Bool}{fS fT:Nat->ByteArray}(h:PoR w p E S r ch L g fB fS fT){k:Nat}{t:TypeId}(hr:Row w k t plZer)(cs':Array Value):PoR (w.setRow k cs') p E S r ch L g fB fS fT:=⟨h.1,fun e=>(h.2 e).put hr cs'⟩
theorem PoTold.res {E : Int} {S : Nat -> Int} {r : Nat} {ch : Bool} {L : Nat} {g : Nat -> Int} {fB : Nat -> Bool} {fS fT : Nat -> ByteArray} {w w' : World} {e : Ending} (h : PoTold E S r ch L g fB fS fT w w' e) :
    ∃x,e=.returned (.tuple #[.agg x,.int .i64 E])/\PoR w' x E S r ch L g fB fS fT/\Below w.heap.size w w':=by
 obtain⟨x,he,h1,h2,hb⟩:=h;refine⟨x,he,⟨?_,h1⟩,hb⟩
 by_cases hE:E=0
 · obtain⟨_,_,_,_,_,_,e,_⟩:=(h1 hE).form;exact⟨_,_,_,_,_,_,_,_,_,_,e⟩
 · rw[h2 hE];exact⟨_,_,_,_,_,_,_,_,_,_,rfl⟩
end Go.Proofs.YtdmmenaejkpnjaaGreatDoor
namespace Go.Proofs.YtdmmenaejkpnjaaGreatDoor
open Go.RowKit
attribute [local go_sem ↓] Go.wp_at_zero Go.wp_at_succ
theorem IBox.setAt{w:World}{g n:Nat}{f:Nat->Int}{p:Addr}{x:Value}(h:IBox w g n f)(hp:w.cell? p=some x)(hx:∀z,x ≠ .int .i64 z)(v:Value):IBox (w.setCell p v) g n f:=by
 refine⟨by simpa using h.1,h.2.1.set _ _,fun j hj => ?_⟩;rw[World.cell?_setCell_other _ _ _ _ (fun e=>by subst e;rw[h.2.2 j hj]at hp;exact hx _ (Option.some.inj hp).symm)];exact h.2.2 j hj
def BhP(fl:Bool)(k1 k2 k3 k4:Nat)(c1 c2:Array Value)(aT:Option Addr)(r cT:Nat)(T:Nat->Int)(y:World):Prop:=Row y k1 36 c1/\Row y k2 36 c2/\Row y k3 36 zerC/\(∃z,Row y k4 36 z/\IsA z)/\(fl=false->KRow y .i64 aT r cT T)
theorem BhP.stay{fl:Bool}{k1 k2 k3 k4:Nat}{c1 c2:Array Value}{aT:Option Addr}{r cT:Nat}{T:Nat->Int}:∀a b,Below a.heap.size a b->BhP fl k1 k2 k3 k4 c1 c2 aT r cT T a->BhP fl k1 k2 k3 k4 c1 c2 aT r cT T b:=by
 rintro a b hb ⟨h1,h2,h3,⟨z4,h4,i4⟩,h5⟩;exact⟨h1.below hb,h2.below hb,h3.below hb,⟨z4,h4.below hb,i4⟩,fun e=>(h5 e).below hb⟩
theorem BhP.put{w y:World}{fl:Bool}{k1 k2 k3 k4:Nat}{c1 c2:Array Value}{aT:Option Addr}{r cT:Nat}{T:Nat->Int}(h:Bag w (BhP fl k1 k2 k3 k4 c1 c2 aT r cT T) y)(n1:k1≠k4)(n2:k2≠k4)(n3:k3≠k4)(hw:w.heap.size<=k4)(cs:Array Value)(hc:IsA cs):Bag w (BhP true k1 k2 k3 k4 c1 c2 aT r cT T) (y.setRow k4 cs):=by
 obtain⟨h1,h2,h3,⟨z4,h4,i4⟩,_⟩:=h.now;exact⟨below_put h.below hw _,BhP.stay,h1.puto n1 _,h2.puto n2 _,h3.puto n3 _,⟨_,h4.put _,hc⟩,fun e=>by cases e⟩
theorem stA {ops : Array Oper} {rest : List Oper} {o : Oper} {a : Act} {w : World} {Q : Exit -> Act -> World -> Prop} (hgd : o.guard = none) (x y : Operand) (ho : o.op = .store 36 x y) (g : Nat) (hx : a.eval x = .pointer (some ⟨g, 0, none⟩))
    (cs:Array Value) (hy:a.eval y=.agg cs) (hc:IsA cs) {old:Array Value} (hg:Row w g 36 old) (hz:IsA old)
    (h:wpList Tryz.prog ops Q rest (a.put o.dst undef) (w.setRow g cs)):wpList Tryz.prog ops Q (o::rest) a w :=
 wpList_store_row hgd _ x y ho g _ hx hy _ old hg (by rw[arr12,hc.size]) (by rw[hz.size,hc.size]) hc.one h
theorem MoR.told{w w':World}{x:Array Value}{E:Int}{S:Nat->Int}{r:Nat}{ch:Bool}{L:Nat}{g fP:Nat->Int}{fQ:Nat->Nat}(h:MoR w' x E S r ch L g fP fQ)(hb:Below w.heap.size w w'):MoTold E S r ch L g fP fQ w w' (.returned (.tuple #[.agg x,.int .i64 E])):=⟨x,rfl,h.2.1,h.2.2,hb⟩
theorem at_op(n:Nat){P:Program}{ops:Array Oper}{Q:Exit->Act->World->Prop}{x:Op}{t:TypeId}{p:String}{af:Array Edge}{g:Option (Nat × Bool)}{rest:List Oper}{a:Act}{w:World}(h:wpList P ops Q (⟨some n,x,t,p,af,g⟩::rest) a w):wpList P ops Q (⟨some n,x,t,p,af,g⟩::rest) a w:=h
theorem st_arrQ {ops : Array Oper} {rest : List Oper} {o : Oper} {a : Act} {w : World} {Q : Exit -> Act -> World -> Prop} (hgd : o.guard = none) (x y : Operand) (ho : o.op = .store 36 x y) (hx : a.eval x = .pointer (some ⟨w.heap.size, 0, none⟩))
    (cs:Array Value) (hy:a.eval y=.agg cs) (hc:IsA cs) {old:Array Value} (ho2:old.size=12)
    (h:∀Y,Row Y w.heap.size 36 cs->Below w.heap.size w Y->wpList Tryz.prog ops Q rest (a.put o.dst undef) Y):wpList Tryz.prog ops Q (o::rest) a (w.alloc (.cells old 36)) :=
 wpList_store_row hgd _ x y ho w.heap.size _ hx hy _ old (Row.new w _ old) (by rw[arr12,hc.size]) (by rw[ho2,hc.size]) hc.one (h _ ((Row.new w _ old).put _) (below_put ((Below.refl _ _).alloc (Nat.le_refl _) _) (Nat.le_refl _) _))
theorem MoTold.of{E E':Int}{S:Nat->Int}{r:Nat}{ch:Bool}{L:Nat}{g fP:Nat->Int}{fQ:Nat->Nat}{w w':World}{e:Ending}(h:E'=E)(q:MoTold E S r ch L g fP fQ w w' e):MoTold E' S r ch L g fP fQ w w' e:=by rw[h];exact q
def FGives(fv:FuncId)(cap:Array Value)(fP:Nat->Int)(fQ:Nat->Nat)(fE:Nat->Int)(M:Nat)(w:World):Prop :=
 ∀wz,Below w.heap.size w wz->∀k:Nat,k<M->Calls Tryz.prog fv (#[.int .i64 (k:Nat)]++cap) wz fun e w'=>RatTold4 wz w' e (fP k) (fQ k) (fE k)
theorem FGives.below{fv:FuncId}{cap:Array Value}{fP:Nat->Int}{fQ:Nat->Nat}{fE:Nat->Int}{M:Nat}{w w':World}(h:FGives fv cap fP fQ fE M w)(hb:Below w.heap.size w w'):FGives fv cap fP fQ fE M w':=fun wz hz=>h wz (hb.trans (hz.mono hb.size))
theorem filled_any (fv : FuncId) (cap : Array Value) (he : Enters Tryz.prog fv) (sa : Option Addr) (r sc : Nat) (S : Nat -> Int) (M : Nat) (fP : Nat -> Int) (fQ : Nat -> Nat) (fE : Nat -> Int) (g : Nat -> Int) (w : World)
    (hs:KRow w .i64 sa r sc S) (hT:In64 S r) (hsh:shB S r=true) (hM:itm S r=(M:Nat)) (CL:FGives fv cap fP fQ fE M w) :
    Calls Tryz.prog 79 #[.slice sa r sc,.func (.func fv) #[] cap] w fun e w'=>MoTold (feE fE M) S r false M g fP fQ w w' e:=by
 obtain⟨i0,hi,hz0,hz1,hz2⟩:=info_parts infoR;have hbd:=ax_bd (sh_ax hsh).2;have hM4:M<=4096:=by omega
 have hmk:=fun wz=>run_make (P:=Tryz.prog) wz 34 53 i0 _ Tryz.underlying34 hi hz0 .i64 .i64 M M (by omega) (by omega) (by rw[hz2];omega) (by omega)
 simp only[Int.toNat_natCast,hz1]at hmk;have HS:=Lib.hid hs;have HC:=Lib.hid CL;have he':=he;unfold Enters at he';have CN:=Lib.hid (fun wz (h:KRow wz .i64 sa r sc S)=>count_any sa r sc S wz h hT);unfold CntTold at CN;have hx:cntI S r=(M:Nat):=by unfold cntI;rw[hsh,if_pos rfl,hM]
 rw[hsh,hx]at CN;have NM:=Lib.hid (fun wz la lc (k:KRow wz .i64 sa r sc S) (l:RRow wz la M lc fP fQ)=>nums_any sa r sc S la M lc fP fQ wz k hT l (by omega));rw[hsh,hM,decide_eq_true rfl,Bool.true_and]at NM;unfold NumsTold at NM;have BB:=Lib.hid ((Bag.start w).newRow zerC 36)
 have K0:RatsTo ((w.alloc (.cells zerC 36)).alloc (.cells (madeCells (Value.cells (.agg #[.slice none 0 0,.bool false,.slice none 0 0])) (M*3)) 53)) (w.heap.size+1) M 0 fP fQ:=by
  have:=RatsTo.made (w.alloc (.cells zerC 36)) M 53 fP fQ rfl
  simpa only[World.size_alloc]using this
 have B0:=BB.out.alloc (.cells (madeCells (Value.cells (.agg #[.slice none 0 0,.bool false,.slice none 0 0])) (M*3)) 53)
 have H0:Hid (Below w.heap.size w ((w.alloc (.cells zerC 36)).alloc (.cells (madeCells (Value.cells (.agg #[.slice none 0 0,.bool false,.slice none 0 0])) (M*3)) 53))/\Row ((w.alloc (.cells zerC 36)).alloc (.cells (madeCells (Value.cells (.agg #[.slice none 0 0,.bool false,.slice none 0 0])) (M*3)) 53)) w.heap.size 36 zerC/\RatsTo ((w.alloc (.cells zerC 36)).alloc (.cells (madeCells (Value.cells (.agg #[.slice none 0 0,.bool false,.slice none 0 0])) (M*3)) 53)) (w.heap.size+1) M 0 fP fQ/\feE fE 0=0) :=
  Lib.hid ⟨B0.below,B0.now.1,K0,rfl⟩
 have HS1:=Lib.hid (HS.out.below BB.out.below);obtain⟨EX,hEX⟩:∃z,feE fE M=z:=⟨_,rfl⟩
 have HMO:=Lib.hid (fun k (hk:k<M) (h0:feE fE k=0) (he:fE k≠0)=>hEX.symm.trans (feE_stop hk h0 he));have HXE:=Lib.hid hEX;rw[hEX];clear hs hT hsh hM CL hi hz0 hz1 hz2 hx hbd B0 K0 he hEX;unfold zerC at H0;unfold zerC at BB;unfold zerC at HS1;unfold arrC at H0;unfold arrC at BB;unfold arrC at HS1;go_enter Tryz.func79,Tryz.ntmps79;go_wp2_with fail;go_at_call 97
 (with_reducible refine(CN.out _ ?_).mono ?_)
 · exact HS1.out
 rintro e w1 ⟨rfl,rfl⟩;go_wp2_with fail
 go_loopw [23] (fun i wr=>∃k:Nat,k<=M/\i=.int .i64 k/\Hid (Below w.heap.size w wr/\Row wr w.heap.size 36 zerC/\RatsTo wr (w.heap.size+1) M k fP fQ/\feE fE k=0)) (fun i _=>M-(intOf i).toNat)
 case atStart=>exact⟨0,by omega,rfl,H0.out⟩
 case round =>
  obtain⟨k,hk,rfl,hrel⟩:=hrel;obtain⟨hbl,hr0,hto,hz⟩:=hrel.out;have hwr:=hbl.size
  by_cases hlt:k<M
  · have BB := Lib.hid (((Bag.start wr).row hr0).add (fun _ _ hb q => RatsTo.below q hb) hto); have HBL := Lib.hid hbl; have hk0 : (0 : Int) <= k := by omega
    have hk1:(k:Int)<M:=by omega
    have HSO:=Lib.hid (HMO.out k hlt hz);have HZ:=Lib.hid hz;clear hrel hbl hr0 hto hz HMO H0;go_wp2_with fail
    go_at_fn fv
    (refine(HC.out _ HBL.out k hlt).mono ?_)
    rintro e w2 ⟨a2,n2,c2,m2,a3,n3,c3,rfl,hr2,hb2⟩;have B2:=(BB.out.go hb2).box3 (.slice a2 n2 c2) (.bool m2) (.slice a3 n3 c3) 53;have BL2:=Lib.hid (HBL.out.trans ((B2.below).mono hwr));have hr3:=hr2.below ((Below.refl _ _).alloc (Nat.le_refl _) (.cells #[.slice a2 n2 c2,.bool m2,.slice a3 n3 c3] 53))
    by_cases hE:fE k=0
    · have hto := B2.now.2.1; have hrow := B2.now.2.2.1; have ⟨u0, u1, u2⟩ := B2.now.1.c3; obtain ⟨⟨b1, l1, d1, v1, b2, l2, d2, x1, x2, x3⟩, y1, y2, y3⟩ := hto.place hlt
      have HN:Hid (Below w.heap.size w ((((w2.alloc (.cells #[.slice a2 n2 c2,.bool m2,.slice a3 n3 c3] 53)).setCell ⟨w.heap.size+1,k*3,none⟩ (.slice a2 n2 c2)).setCell ⟨w.heap.size+1,k*3+1,none⟩ (.bool m2)).setCell ⟨w.heap.size+1,k*3+2,none⟩ (.slice a3 n3 c3)) /\
          Row ((((w2.alloc (.cells #[.slice a2 n2 c2,.bool m2,.slice a3 n3 c3] 53)).setCell ⟨w.heap.size+1,k*3,none⟩ (.slice a2 n2 c2)).setCell ⟨w.heap.size+1,k*3+1,none⟩ (.bool m2)).setCell ⟨w.heap.size+1,k*3+2,none⟩ (.slice a3 n3 c3)) w.heap.size 36 zerC /\
          RatsTo ((((w2.alloc (.cells #[.slice a2 n2 c2,.bool m2,.slice a3 n3 c3] 53)).setCell ⟨w.heap.size+1,k*3,none⟩ (.slice a2 n2 c2)).setCell ⟨w.heap.size+1,k*3+1,none⟩ (.bool m2)).setCell ⟨w.heap.size+1,k*3+2,none⟩ (.slice a3 n3 c3)) (w.heap.size+1) M (k+1) fP fQ/\feE fE (k+1)=0) :=
       Lib.hid ⟨((BL2.out.setCell (p:=⟨w.heap.size+1,_,none⟩) (Nat.le_succ _) _).setCell (p:=⟨w.heap.size+1,_,none⟩) (Nat.le_succ _) _).setCell (p:=⟨w.heap.size+1,_,none⟩) (Nat.le_succ _) _,
        ((hrow.far (a:=⟨w.heap.size+1,_,none⟩) (show w.heap.size≠w.heap.size+1 by omega) _).far (a:=⟨w.heap.size+1,_,none⟩) (show w.heap.size≠w.heap.size+1 by omega) _).far (a:=⟨w.heap.size+1,_,none⟩) (show w.heap.size≠w.heap.size+1 by omega) _,
        hto.step hlt hr3,feE_step HZ.out hE⟩
      have dE:(fE k != 0)=false:=by rw[hE];rfl
      clear hto hrow hr2 hr3 hb2 B2 hE HSO;generalize fE k=ee at *;go_wp2
      go_roundw
      case rel=>exact⟨k+1,by omega,by go_num,HN.out⟩
      case measure=>simp[intOf];omega
    · have dE:(fE k != 0)=true:=bne_iff_ne.2 hE;have HR:=Lib.hid B2.now.2.2.1;have HE:=Lib.hid (MoTold.of (HSO.out hE) (MoTold.no (S:=S) (r:=r) (ch:=false) (L:=M) (g:=g) (fP:=fP) (fQ:=fQ) hE (below_put BL2.out (Nat.le_refl _) zerC)));clear hr2 hr3 hb2 B2 hE HSO;generalize fE k=ee at *
      go_wp2_with (refine st_arr rfl (.tmp 4) (.tmp 34) rfl w.heap.size rfl false 0 (fun _=>0) none 0 0 none 0 0 rfl HR.out rfl ?_)
      exact bodyPost_ret (res_arr2 Tryz.results79 rfl rfl (HR.out.put _) rfl) rfl HE.out
  · obtain rfl:k=M:=by omega
    have BB:=Lib.hid ((((Bag.start wr).row hr0).krow (HS.out.below hbl)).rrow (hto.done (by unfold maxLen;omega)));have HBL:=Lib.hid hbl;have HZ:=Lib.hid (HXE.out.symm.trans hz);clear hrel hbl hr0 hto hz HMO H0;go_wp2_with fail;go_at_call 45
    (refine(NM.out _ _ _ BB.out.now.2.1 BB.out.now.1).mono ?_)
    rintro e w3 ⟨cs,rfl,h4,hb3⟩;rw[if_pos trivial]at h4;have h4:Arr w3 cs S r false k g fP fQ:=⟨fun e=>(by cases e),fun _=>h4⟩
    have HBL:=Lib.hid (HBL.out.trans (hb3.mono hwr));have HR:=Lib.hid (BB.out.go hb3).now.2.2.1;have HA:=Lib.hid h4;have HIA:=Lib.hid h4.isA;clear hb3 h4 BB
    go_wp2_with (first
     | (refine st_arrQ rfl (.tmp 12) (.tmp 45) rfl rfl cs rfl HIA.out rfl ?_;intro Y hY hbY;have HY:=Lib.hid hY;have HR:=Lib.hid (HR.out.below hbY);have HBL:=Lib.hid (HBL.out.trans (hbY.mono HBL.out.size));have HA:=Lib.hid (HA.out.below hbY);clear hY hbY)
     | (refine ld8G (by rfl) 12 rfl _ cs (by rfl) HY.out HIA.out.size ?_)
     | (refine stA rfl (.tmp 4) (.tmp 47) rfl w.heap.size rfl cs rfl HIA.out HR.out IsA.zer ?_))
    have HE:=Lib.hid (MoTold.of HZ.out (MoTold.yes (HA.out.store HR.out IsA.zer cs) (below_put HBL.out (Nat.le_refl _) cs)));exact bodyPost_ret (res_arr2 Tryz.results79 rfl rfl (HR.out.put _) HIA.out.size) rfl HE.out
end Go.Proofs.YtdmmenaejkpnjaaGreatDoor
namespace Go.Proofs.YtdmmenaejkpnjaaGreatDoor
open Go.RowKit
def Sb:Type:=Bool × (Nat->Int) × Nat × Bool × Nat × (Nat->Int) × (Nat->Int) × (Nat->Nat)
def Sb.al(d:Sb):Bool:=d.1
def Sb.S(d:Sb):Nat->Int:=d.2.1
def Sb.r(d:Sb):Nat:=d.2.2.1
def Sb.ch(d:Sb):Bool:=d.2.2.2.1
def Sb.L(d:Sb):Nat:=d.2.2.2.2.1
def Sb.g(d:Sb):Nat->Int:=d.2.2.2.2.2.1
def Sb.P(d:Sb):Nat->Int:=d.2.2.2.2.2.2.1
def Sb.Q(d:Sb):Nat->Nat:=d.2.2.2.2.2.2.2
def Sb.ok(d:Sb):Prop:=shB d.S d.r=true/\itm d.S d.r=(d.L:Nat)/\d.L<=4096/\(d.ch=false->∀j,j<d.L->0<d.Q j)
def Sb.n(d:Sb)(s:Int):Nat:=if d.al then s.toNat else d.L
def Sb.F(d:Sb)(o:Int)(q:Nat):Int:=if d.al then(q:Int)else d.P q-o
def Sb.k(d:Sb):Nat:=if d.al then 1 else d.r
def Sb.T(d:Sb)(s:Int):Nat->Int:=if d.al then fun _=>s else d.S
end Go.Proofs.YtdmmenaejkpnjaaGreatDoor
namespace Go.Proofs.YtdmmenaejkpnjaaGreatDoor
open Go.RowKit
attribute [local go_sem ↓] Go.wp_at_zero Go.wp_at_succ
def subC(al ch:Bool)(more:Int)(d:Nat->Int)(na:Option Addr)(nn nc:Nat)(ta:Option Addr)(tn tc:Nat):Array Value :=
 #[.bool al, .bool ch, .int .i64 more, .int .i64 (d 0), .int .i64 (d 1), .int .i64 (d 2), .int .i64 (d 3), .int .i64 (d 4), .int .i64 (d 5), .int .i64 (d 6), .int .i64 (d 7), .slice na nn nc, .slice ta tn tc]
end Go.Proofs.YtdmmenaejkpnjaaGreatDoor
namespace Go.Proofs.YtdmmenaejkpnjaaGreatDoor
open Go.RowKit
def sls(A:Nat->Option Addr)(C:Nat->Nat)(L:Nat):Nat->List Value
 | 0 => []
 | k+1=>sls A C L k ++ [.slice (A k) L (C k)]
theorem sls_length(A:Nat->Option Addr)(C:Nat->Nat)(L:Nat):∀k,(sls A C L k).length=k
 | 0=>rfl
 | k+1=>by unfold sls;rw[List.length_append,sls_length A C L k];rfl
theorem sls_get (A : Nat -> Option Addr) (C : Nat -> Nat) (L : Nat) : ∀ k j, j < k -> (sls A C L k)[j]? = some (.slice (A j) L (C j))
 | 0,j,h=>absurd h (Nat.not_lt_zero _)
 | k+1,j,h=>by
  have hl:=sls_length A C L k;unfold sls
  rcases Nat.lt_or_ge j k with h1|h1
  · rw[List.getElem?_append_left (by omega)];exact sls_get A C L k j h1
  · obtain rfl:j=k:=by omega
    rw[List.getElem?_append_right (by omega),hl,Nat.sub_self]
    rfl
def AllSt(y0 wr:World)(f:Nat->Int)(i cnt:Nat)(v:Value):Prop :=
 Below y0.heap.size y0 wr/\∃A C,wr.ownsRow y0.heap.size 22 1 v cnt (sls A C (i+1) cnt)/\∀r,r<cnt->KRow wr .i64 (A r) (i+1) (C r) (dgs f (i+1) (r:Nat))/\∃g,A r=some ⟨g,0,none⟩
theorem AllSt.nought(y0:World)(f:Nat->Int)(i:Nat):AllSt y0 y0 f i 0 (.slice none 0 0):=⟨Below.refl _ _,fun _=>none,fun _=>0,World.ownsRow_nil _ _ _ _,fun _ h=>absurd h (Nat.not_lt_zero _)⟩
theorem AllSt.done{y0 wr:World}{f:Nat->Int}{i cnt:Nat}{v:Value}(h:AllSt y0 wr f i cnt v):∃la lc A C,v=.slice la cnt lc/\LRow wr la cnt lc A (fun _=>i+1) C (fun r=>dgs f (i+1) (r:Nat)):=by
 obtain⟨_,A,C,ho,hk⟩:=h
 have hA:∀r,r<cnt->A r≠none:=fun r hr e=>by
  obtain⟨g,e2⟩:=(hk r hr).2;rw[e]at e2
  cases e2
 rcases ho.2 with ⟨rfl,rfl⟩|⟨g,cap,cur,rfl,_,hh,h1,h2,_,_⟩
 · exact⟨none,0,A,C,rfl,Nat.le_refl _,Nat.zero_le _,.inl rfl⟩
 · refine⟨some ⟨g,0,none⟩,cap,A,C,rfl,h1,h2,.inr ⟨g,0,rfl,Row.lt (t:=22) hh,fun j hj=>⟨?_,(hk j hj).1,fun e=>absurd e (hA j hj)⟩⟩⟩;have:=ho.cells (g:=g) rfl j _ (sls_get A C (i+1) cnt j hj)
   rwa [show(⟨g,0,none⟩:Addr).add j=⟨g,0+j,none⟩by unfold Addr.add;split<;>simp_all]at this
end Go.Proofs.YtdmmenaejkpnjaaGreatDoor
namespace Go.Proofs.YtdmmenaejkpnjaaGreatDoor
open Go.RowKit
attribute [local go_sem ↓] Go.wp_at_zero Go.wp_at_succ
def LTo(w:World)(g n k:Nat)(N:Nat->Nat)(F:Nat->Nat->Int):Prop :=
 g<w.heap.size/\Free w g/\∃(A:Nat->Option Addr) (C:Nat->Nat),∀j,j<n->(∃z,w.cell? ⟨g,j,none⟩=some z/\∀ki x,z ≠ .int ki x)/\(j<k->w.cell? ⟨g,j,none⟩=some (.slice (A j) (N j) (C j))/\KRow w .i64 (A j) (N j) (C j) (F j)/\(A j=none->C j=0))
theorem LTo.below{w w':World}{g n k:Nat}{N:Nat->Nat}{F:Nat->Nat->Int}(h:LTo w g n k N F)(hb:Below w.heap.size w w'):LTo w' g n k N F:=by
 obtain⟨h1,h2,A,C,h3⟩:=h;refine⟨Nat.lt_of_lt_of_le h1 hb.size,h2.below hb h1,A,C,fun j hj => ?_⟩;obtain⟨⟨z,e1,e2⟩,e3⟩:=h3 j hj;exact⟨⟨z,(hb.cell (p:=⟨g,j,none⟩) h1).trans e1,e2⟩,fun hk=>⟨(hb.cell (p:=⟨g,j,none⟩) h1).trans (e3 hk).1,(e3 hk).2.1.below hb,(e3 hk).2.2⟩⟩
theorem LTo.place{w:World}{g n k:Nat}{N:Nat->Nat}{F:Nat->Nat->Int}(h:LTo w g n k N F){j:Nat}(hj:j<n):(∃z,w.cell? ⟨g,j,none⟩=some z/\∀ki x,z ≠ .int ki x)/\w.frozen? ⟨g,j,none⟩=false:=by
 obtain⟨h1,h2,A,C,h3⟩:=h;exact⟨(h3 j hj).1,h2 j⟩
theorem LTo.put{w:World}{g n k:Nat}{N N':Nat->Nat}{F F':Nat->Nat->Int}(h:LTo w g n k N F){i:Nat}(hi:i<n){a:Option Addr}{c:Nat}(hr:KRow w .i64 a (N' i) c (F' i))(ha:a=none->c=0):∀k',(∀j,j<k'->j≠i->j<k/\N' j=N j/\F' j=F j)->LTo (w.setCell ⟨g,i,none⟩ (.slice a (N' i) c)) g n k' N' F':=by
 intro k' hk';obtain⟨h1,h2,A,C,h3⟩:=h;obtain⟨⟨z0,q1,q2⟩,_⟩:=h3 i hi;refine⟨by simpa using h1,h2.set _ _,(fun j=>if j=i then a else A j),(fun j=>if j=i then c else C j),fun j hj => ?_⟩;obtain⟨⟨z,e1,e2⟩,e3⟩:=h3 j hj
 by_cases e:j=i
 · subst e;have hs:=World.cell?_setCell_same w ⟨g,j,none⟩ (.slice a (N' j) c) e1;refine⟨⟨_,hs,fun _ _ h=>by cases h⟩,fun _ => ?_⟩;simp only[if_true];exact⟨hs,hr.setAt q1 (fun z=>q2 _ z) _,ha⟩
 · have hs:(w.setCell ⟨g,i,none⟩ (.slice a (N' i) c)).cell? ⟨g,j,none⟩=w.cell? ⟨g,j,none⟩:=World.cell?_setCell_other _ _ _ _ (fun h=>by injection h with _ h;omega);refine⟨⟨z,hs.trans e1,e2⟩,fun hk => ?_⟩;simp only[if_neg e];obtain⟨h4,h5,h6⟩:=hk' j hk e;obtain⟨q3,q4,q5⟩:=e3 h4;rw[h5,h6];exact⟨hs.trans q3,q4.setAt q1 (fun z=>q2 _ z) _,q5⟩
theorem LTo.step{w:World}{g n k:Nat}{N:Nat->Nat}{F:Nat->Nat->Int}(h:LTo w g n k N F)(hk:k<n){a:Addr}{c:Nat}(hr:KRow w .i64 (some a) (N k) c (F k)):LTo (w.setCell ⟨g,k,none⟩ (.slice (some a) (N k) c)) g n (k+1) N F :=
 h.put hk hr (fun e=>by cases e) (k+1) (fun j hj hne=>⟨by omega,rfl,rfl⟩)
theorem LTo.done{w:World}{g n:Nat}{N:Nat->Nat}{F:Nat->Nat->Int}(h:LTo w g n n N F)(hn:n<=maxLen):∃A C,LRow w (some ⟨g,0,none⟩) n n A N C F:=by
 obtain⟨h1,h2,A,C,h3⟩:=h;refine⟨A,C,Nat.le_refl _,hn,.inr ⟨g,0,rfl,h1,fun j hj => ?_⟩⟩;obtain⟨_,e3⟩:=h3 j hj;obtain⟨e4,e5,e6⟩:=e3 hj;rw[Nat.zero_add];exact⟨e4,e5,e6⟩
theorem LTo.made(w:World)(n:Nat)(t:TypeId)(N:Nat->Nat)(F:Nat->Nat->Int){mc:Array Value}(hmc:mc=madeCells (Value.cells (.slice none 0 0)) n):LTo (w.alloc (.cells mc t)) w.heap.size n 0 N F:=by
 subst hmc;have hR:=Row.new w t (madeCells (Value.cells (.slice none 0 0)) n);refine⟨hR.lt,fun o=>hR.free o,fun _=>none,fun _=>0,fun j hj=>⟨⟨.slice none 0 0,?_,fun _ _ h=>by cases h⟩,fun h=>absurd h (Nat.not_lt_zero _)⟩⟩;rw[hR.cell];unfold madeCells;rw[Array.getElem?_map,Array.getElem?_range,if_pos (by omega),Option.map_some]
 simp[Value.cells,Nat.mod_one]
def SRow(w:World)(sa:Option Addr)(n c:Nat)(D:Nat->Sb):Prop:=n<=c/\c<=maxLen/\(n=0∨∃b off,sa=some ⟨b,off,none⟩/\b<w.heap.size /\
 ∀j,j<n->∃na nn nc ta tn tc,w.rangeAt b (off+j*13) (subC (D j).al (D j).ch (((D j).r:Nat)-1) (dm (D j).S (D j).r) na nn nc ta tn tc).toList/\Arr w (arrC (D j).ch (((D j).r:Nat)-1) (dm (D j).S (D j).r) na nn nc ta tn tc) (D j).S (D j).r (D j).ch (D j).L (D j).g (D j).P (D j).Q)
theorem range_below{w w':World}{b o:Nat}{cs:List Value}(h:w.rangeAt b o cs)(hb:Below w.heap.size w w')(hl:b<w.heap.size):w'.rangeAt b o cs:=fun j v hj=>(hb.cell (p:=⟨b,o+j,none⟩) hl).trans (h j v hj)
theorem SRow.below{w w':World}{sa:Option Addr}{n c:Nat}{D:Nat->Sb}(h:SRow w sa n c D)(hb:Below w.heap.size w w'):SRow w' sa n c D:=by
 obtain⟨h0,h1,h2⟩:=h;refine⟨h0,h1,h2.imp id ?_⟩;rintro⟨b,off,rfl,hl,hc⟩;refine⟨b,off,rfl,Nat.lt_of_lt_of_le hl hb.size,fun j hj => ?_⟩;obtain⟨na,nn,nc,ta,tn,tc,e1,e2⟩:=hc j hj;exact⟨na,nn,nc,ta,tn,tc,range_below e1 hb hl,e2.below hb⟩
theorem SRow.get {w : World} {sa : Option Addr} {n c : Nat} {D : Nat -> Sb} (h : SRow w sa n c D) {j : Nat} (hj : j < n) :
    ∃b off na nn nc ta tn tc,sa=some ⟨b,off,none⟩/\b<w.heap.size/\w.rangeAt b (off+j*13) (subC (D j).al (D j).ch (((D j).r:Nat)-1) (dm (D j).S (D j).r) na nn nc ta tn tc).toList/\Arr w (arrC (D j).ch (((D j).r:Nat)-1) (dm (D j).S (D j).r) na nn nc ta tn tc) (D j).S (D j).r (D j).ch (D j).L (D j).g (D j).P (D j).Q:=by
 obtain⟨h0,h1,h2⟩:=h
 rcases h2 with h2|⟨b,off,rfl,hl,hc⟩
 · omega
 · obtain⟨na,nn,nc,ta,tn,tc,e⟩:=hc j hj;exact⟨b,off,na,nn,nc,ta,tn,tc,rfl,hl,e⟩
theorem SRow.len{w:World}{sa:Option Addr}{n c:Nat}{D:Nat->Sb}(h:SRow w sa n c D):n<=c/\c<=9223372036854775807:=by
 have h1:=h.1;have h2:=h.2.1;unfold maxLen at h2;exact⟨h1,by omega⟩
theorem Row.range{w:World}{g o:Nat}{t:TypeId}{cs:Array Value}{l:List Value}(h:Row w g t cs)(e:∀j v,l[j]? = some v->cs[o+j]? = some v):w.rangeAt g o l:=fun j v hj=>(h.cell (o+j)).trans (e j v hj)
def NTo(w:World)(g n k:Nat)(D:Nat->Sb):Prop:=g<w.heap.size/\Free w g/\∀j,j<n->∃A m C,w.cell? ⟨g,j,none⟩=some (.slice A m C)/\(j<k->(D j).al=false->m=(D j).L/\KRow w .i64 A m C (D j).P)
theorem NTo.below{w w':World}{g n k:Nat}{D:Nat->Sb}(h:NTo w g n k D)(hb:Below w.heap.size w w'):NTo w' g n k D:=by
 obtain⟨h1,h2,h3⟩:=h;refine⟨Nat.lt_of_lt_of_le h1 hb.size,h2.below hb h1,fun j hj => ?_⟩;obtain⟨A,m,C,e1,e2⟩:=h3 j hj;exact⟨A,m,C,(hb.cell (p:=⟨g,j,none⟩) h1).trans e1,fun hk ha=>⟨(e2 hk ha).1,(e2 hk ha).2.below hb⟩⟩
theorem NTo.place{w:World}{g n k:Nat}{D:Nat->Sb}(h:NTo w g n k D){j:Nat}(hj:j<n):(∃A m C,w.cell? ⟨g,j,none⟩=some (.slice A m C))/\w.frozen? ⟨g,j,none⟩=false:=by
 obtain⟨h1,h2,h3⟩:=h;obtain⟨A,m,C,e1,_⟩:=h3 j hj;exact⟨⟨A,m,C,e1⟩,h2 j⟩
theorem NTo.skip{w:World}{g n k:Nat}{D:Nat->Sb}(h:NTo w g n k D)(ha:(D k).al=true):NTo w g n (k+1) D:=by
 obtain⟨h1,h2,h3⟩:=h;refine⟨h1,h2,fun j hj => ?_⟩;obtain⟨A,m,C,e1,e2⟩:=h3 j hj;refine⟨A,m,C,e1,fun hk hf=>e2 ?_ hf⟩;have:j≠k:=fun e=>by rw[e,ha]at hf;cases hf
 omega
theorem NTo.step{w:World}{g n k:Nat}{D:Nat->Sb}(h:NTo w g n k D)(hk:k<n){a:Option Addr}{m c:Nat}(hm:m=(D k).L)(hr:KRow w .i64 a m c (D k).P):NTo (w.setCell ⟨g,k,none⟩ (.slice a m c)) g n (k+1) D:=by
 obtain⟨h1,h2,h3⟩:=h;obtain⟨A0,m0,C0,q1,_⟩:=h3 k hk;refine⟨by simpa using h1,h2.set _ _,fun j hj => ?_⟩;obtain⟨A,m',C,e1,e2⟩:=h3 j hj
 by_cases e:j=k
 · subst e;exact⟨a,m,c,World.cell?_setCell_same w ⟨g,j,none⟩ _ e1,fun _ _=>⟨hm,hr.setAt q1 (fun _ h=>by cases h) _⟩⟩
 · exact⟨A,m',C,(World.cell?_setCell_other _ _ _ _ (fun h=>by injection h with _ h;omega)).trans e1,fun hk2 ha=>⟨(e2 (by omega) ha).1,(e2 (by omega) ha).2.setAt q1 (fun _ h=>by cases h) _⟩⟩
theorem NTo.made(w:World)(n:Nat)(t:TypeId)(D:Nat->Sb){mc:Array Value}(hmc:mc=madeCells (Value.cells (.slice none 0 0)) n):NTo (w.alloc (.cells mc t)) w.heap.size n 0 D:=by
 obtain⟨h1,h2,A,C,h3⟩:=LTo.made w n t (fun _=>0) (fun _ _=>0) hmc;subst hmc;have hR:=Row.new w t (madeCells (Value.cells (.slice none 0 0)) n);refine⟨h1,h2,fun j hj=>⟨none,0,0,?_,fun h=>absurd h (Nat.not_lt_zero _)⟩⟩;rw[hR.cell];unfold madeCells;rw[Array.getElem?_map,Array.getElem?_range,if_pos (by omega),Option.map_some]
 simp[Value.cells,Nat.mod_one]
def NRow(w:World)(a:Option Addr)(n c:Nat)(D:Nat->Sb):Prop:=∃g,a=some ⟨g,0,none⟩/\n<=c/\c<=1000000/\NTo w g n n D
theorem NRow.below{w w':World}{a:Option Addr}{n c:Nat}{D:Nat->Sb}(h:NRow w a n c D)(hb:Below w.heap.size w w'):NRow w' a n c D:=by
 obtain⟨g,h1,h2,h3,h4⟩:=h;exact⟨g,h1,h2,h3,h4.below hb⟩
def SeTold(E:Int)(R:Nat)(T:Nat->Int)(M:Nat)(G:Nat->Int)(w w':World)(e:Ending):Prop :=
 ∃a m c a2 m2 c2,e=.returned (.tuple #[.slice a m c,.slice a2 m2 c2,.int .i64 E])/\(E=0->m=R/\KRow w' .i64 a R c T/\m2=M/\KRow w' .i64 a2 M c2 G)/\Below w.heap.size w w'
theorem SeTold.no{E:Int}(hE:E≠0){R:Nat}{T:Nat->Int}{M:Nat}{G:Nat->Int}{w w':World}(hb:Below w.heap.size w w'):SeTold E R T M G w w' (.returned (.tuple #[.slice none 0 0,.slice none 0 0,.int .i64 E])) :=
 ⟨_,_,_,_,_,_,rfl,fun e=>absurd e hE,hb⟩
theorem NRow.get{w:World}{a:Option Addr}{n c:Nat}{D:Nat->Sb}(h:NRow w a n c D){j:Nat}(hj:j<n):∃g A m C,a=some ⟨g,0,none⟩/\g<w.heap.size/\w.cell? ⟨g,j,none⟩=some (.slice A m C)/\((D j).al=false->m=(D j).L/\KRow w .i64 A m C (D j).P):=by
 obtain⟨g,rfl,h1,h2,h3,h4,h5⟩:=h;obtain⟨A,m,C,e1,e2⟩:=h5 j hj;exact⟨g,A,m,C,rfl,h3,e1,e2 hj⟩
def CBox(w:World)(g n:Nat)(f:Nat->Int):Prop:=g<w.heap.size/\Free w g/\∀j,j<n->w.cell? ⟨g,j,none⟩=some (.int .i32 (f j))
theorem CBox.below{w w':World}{g n:Nat}{f:Nat->Int}(h:CBox w g n f)(hb:Below w.heap.size w w'):CBox w' g n f :=
 ⟨Nat.lt_of_lt_of_le h.1 hb.size,h.2.1.below hb h.1,fun j hj=>(hb.cell (p:=⟨g,j,none⟩) h.1).trans (h.2.2 j hj)⟩
theorem CBox.put{w:World}{g n p:Nat}{f:Nat->Int}(h:CBox w g n f)(hp:p<n)(x:Int):CBox (w.setCell ⟨g,p,none⟩ (.int .i32 x)) g n (fun j=>if j=p then x else f j):=by
 obtain⟨h1,h2,h3⟩:=h;refine⟨by simpa using h1,h2.set _ _,fun j hj => ?_⟩
 by_cases e:j=p
 · subst e;simp only[if_true];exact World.cell?_setCell_same w ⟨g,j,none⟩ _ (h3 j hj)
 · simp only[if_neg e];exact(World.cell?_setCell_other _ _ _ _ (fun h=>by injection h with _ h;omega)).trans (h3 j hj)
theorem CBox.krow{w:World}{g n c:Nat}{f:Nat->Int}(h:CBox w g n f)(h1:n<=c)(h2:c<=maxLen):KRow w .i32 (some ⟨g,0,none⟩) n c f:=⟨h1,h2,.inr ⟨g,0,rfl,h.1,fun j hj=>by rw[Nat.zero_add];exact h.2.2 j hj⟩⟩
theorem CBox.congr{w:World}{g n:Nat}{f f':Nat->Int}(h:CBox w g n f)(e:∀j,j<n->f j=f' j):CBox w g n f':=⟨h.1,h.2.1,fun j hj=>by rw[← e j hj];exact h.2.2 j hj⟩
def Own1(g:Nat)(w w':World):Prop:=Far g w w'/\∀w0:World,Below w0.heap.size w0 w->w0.heap.size<=g->Below w0.heap.size w0 w'
theorem Own1.refl(g:Nat)(w:World):Own1 g w w:=⟨Far.refl _ _,fun _ h _=>h⟩
theorem Own1.set{g:Nat}{w w1:World}(h:Own1 g w w1)(o:Nat)(v:Value):Own1 g w (w1.setCell ⟨g,o,none⟩ v):=⟨h.1.trans (Far.setCell _ _ _ _),fun w0 hb hg=>(h.2 w0 hb hg).setCell (p:=⟨g,o,none⟩) hg _⟩
theorem NatIs.put3 {w : World} {g o : Nat} {x0 x1 x2 : Value} {v : Value} {N : Nat} (h : NatIs w v N) (q0 : w.cell? ⟨g, o, none⟩ = some x0) (q1 : w.cell? ⟨g, o + 1, none⟩ = some x1) (q2 : w.cell? ⟨g, o + 2, none⟩ = some x2)
    (n0:∀ki z,x0 ≠ .int ki z) (n1:∀ki z,x1 ≠ .int ki z) (n2:∀ki z,x2 ≠ .int ki z) (u0 u1 u2:Value):NatIs (((w.setCell ⟨g,o,none⟩ u0).setCell ⟨g,o+1,none⟩ u1).setCell ⟨g,o+2,none⟩ u2) v N:=by
 refine((h.storeAt q0 n0 _).storeAt (x:=x1) ?_ n1 _).storeAt (x:=x2) ?_ n2 _
 · rw[World.cell?_setCell_other _ _ _ _ (fun e=>by injection e with _ e;omega)];exact q1
 · rw[World.cell?_setCell_other _ _ _ _ (fun e=>by injection e with _ e;omega),World.cell?_setCell_other _ _ _ _ (fun e=>by injection e with _ e;omega)];exact q2
theorem RatsTo.put {w : World} {g n : Nat} {fP : Nat -> Int} {fQ : Nat -> Nat} (h : RatsTo w g n n fP fQ) {k : Nat} (hk : k < n) {a : Option Addr} {n' c : Nat} {m : Bool} {a2 : Option Addr} {n2 c2 : Nat} {P : Int} {Q : Nat} (hr : RatAt w a n' c m a2 n2 c2 P Q) :
    RatsTo (((w.setCell ⟨g,k*3,none⟩ (.slice a n' c)).setCell ⟨g,k*3+1,none⟩ (.bool m)).setCell ⟨g,k*3+2,none⟩ (.slice a2 n2 c2)) g n n (fun j=>if j=k then P else fP j) (fun j=>if j=k then Q else fQ j):=by
 obtain⟨h1,h2,h3⟩:=h;obtain⟨b,l,d,v,b2,l2,d2,x1,x2,x3,_⟩:=h3 k hk
 have keepR:∀a5 n5 c5 m5 a6 n6 c6 P Q,RatAt w a5 n5 c5 m5 a6 n6 c6 P Q->RatAt (((w.setCell ⟨g,k*3,none⟩ (.slice a n' c)).setCell ⟨g,k*3+1,none⟩ (.bool m)).setCell ⟨g,k*3+2,none⟩ (.slice a2 n2 c2)) a5 n5 c5 m5 a6 n6 c6 P Q:=fun _ _ _ _ _ _ _ _ _ hq =>
  ⟨⟨hq.1.1,hq.1.2.put3 x1 x2 x3 (fun _ _ h=>by cases h) (fun _ _ h=>by cases h) (fun _ _ h=>by cases h) _ _ _⟩,hq.2.put3 x1 x2 x3 (fun _ _ h=>by cases h) (fun _ _ h=>by cases h) (fun _ _ h=>by cases h) _ _ _⟩
 refine⟨by simpa using h1,((h2.set _ _).set _ _).set _ _,fun j hj => ?_⟩
 by_cases e:j=k
 · subst e
   refine⟨a,n',c,m,a2,n2,c2,?_,?_,?_,fun _ => ?_⟩
   · rw[World.cell?_setCell_other _ _ _ _ (fun e=>by injection e with _ e;omega),World.cell?_setCell_other _ _ _ _ (fun e=>by injection e with _ e;omega)];exact World.cell?_setCell_same _ _ _ x1
   · rw[World.cell?_setCell_other _ _ _ _ (fun e=>by injection e with _ e;omega)];refine World.cell?_setCell_same (u:=.bool v) _ _ _ ?_;rw[World.cell?_setCell_other _ _ _ _ (fun e=>by injection e with _ e;omega)];exact x2
   · refine World.cell?_setCell_same (u:=.slice b2 l2 d2) _ _ _ ?_;rw[World.cell?_setCell_other _ _ _ _ (fun e=>by injection e with _ e;omega),World.cell?_setCell_other _ _ _ _ (fun e=>by injection e with _ e;omega)];exact x3
   · simp only[if_true];exact keepR _ _ _ _ _ _ _ _ _ hr
 · obtain⟨a',n9,c',m',a2',n2',c2',e1,e2,e3,e4⟩:=h3 j hj
   have far:∀o,(o=j*3∨o=j*3+1∨o=j*3+2)->(((w.setCell ⟨g,k*3,none⟩ (.slice a n' c)).setCell ⟨g,k*3+1,none⟩ (.bool m)).setCell ⟨g,k*3+2,none⟩ (.slice a2 n2 c2)).cell? ⟨g,o,none⟩=w.cell? ⟨g,o,none⟩:=by
    intro o ho;rw[World.cell?_setCell_other _ _ _ _ (fun e=>by injection e with _ e;omega),World.cell?_setCell_other _ _ _ _ (fun e=>by injection e with _ e;omega),World.cell?_setCell_other _ _ _ _ (fun e=>by injection e with _ e;omega)]
   refine⟨a',n9,c',m',a2',n2',c2',(far _ (.inl rfl)).trans e1,(far _ (.inr (.inl rfl))).trans e2,(far _ (.inr (.inr rfl))).trans e3,fun _ => ?_⟩;simp only[if_neg e];exact keepR _ _ _ _ _ _ _ _ _ (e4 hj)
theorem RatsTo.congr{w:World}{g n:Nat}{fP fP':Nat->Int}{fQ fQ':Nat->Nat}(h:RatsTo w g n n fP fQ)(e:∀j,j<n->fP j=fP' j/\fQ j=fQ' j):RatsTo w g n n fP' fQ':=by
 refine⟨h.1,h.2.1,fun j hj => ?_⟩;obtain⟨a,n',c,m,a2,n2,c2,e1,e2,e3,e4⟩:=h.2.2 j hj;rw[← (e j hj).1,← (e j hj).2];exact⟨a,n',c,m,a2,n2,c2,e1,e2,e3,e4⟩
theorem RatsTo.rrow{w:World}{g n c:Nat}{fP:Nat->Int}{fQ:Nat->Nat}(h:RatsTo w g n n fP fQ)(h1:n<=c)(h2:c<=maxLen):RRow w (some ⟨g,0,none⟩) n c fP fQ:=by
 obtain⟨_,_,q⟩:=h.done (by omega);exact⟨h1,h2,q⟩
theorem RatAt.put3 {w : World} {g o : Nat} {x0 x1 x2 : Value} {a5 : Option Addr} {n5 c5 : Nat} {m5 : Bool} {a6 : Option Addr} {n6 c6 : Nat} {P : Int} {Q : Nat} (h : RatAt w a5 n5 c5 m5 a6 n6 c6 P Q) (q0 : w.cell? ⟨g, o, none⟩ = some x0) (q1 : w.cell? ⟨g, o + 1, none⟩ = some x1) (q2 : w.cell? ⟨g, o + 2, none⟩ = some x2)
    (n0:∀ki z,x0 ≠ .int ki z) (n1:∀ki z,x1 ≠ .int ki z) (n2:∀ki z,x2 ≠ .int ki z) (u0 u1 u2:Value):RatAt (((w.setCell ⟨g,o,none⟩ u0).setCell ⟨g,o+1,none⟩ u1).setCell ⟨g,o+2,none⟩ u2) a5 n5 c5 m5 a6 n6 c6 P Q :=
 ⟨⟨h.1.1,h.1.2.put3 q0 q1 q2 n0 n1 n2 _ _ _⟩,h.2.put3 q0 q1 q2 n0 n1 n2 _ _ _⟩
theorem RRow.put3 {w : World} {g o : Nat} {x0 x1 x2 : Value} {a3 : Option Addr} {k c3 : Nat} {VP : Nat -> Int} {VQ : Nat -> Nat} (h : RRow w a3 k c3 VP VQ) (hne : ∀ x, a3 = some x -> x.block ≠ g) (q0 : w.cell? ⟨g, o, none⟩ = some x0) (q1 : w.cell? ⟨g, o + 1, none⟩ = some x1) (q2 : w.cell? ⟨g, o + 2, none⟩ = some x2)
    (n0:∀ki z,x0 ≠ .int ki z) (n1:∀ki z,x1 ≠ .int ki z) (n2:∀ki z,x2 ≠ .int ki z) (u0 u1 u2:Value):RRow (((w.setCell ⟨g,o,none⟩ u0).setCell ⟨g,o+1,none⟩ u1).setCell ⟨g,o+2,none⟩ u2) a3 k c3 VP VQ:=by
 refine⟨h.1,h.2.1,h.2.2.imp id ?_⟩;rintro⟨b,off,rfl,hl,hcc⟩;have hbg:b≠g:=hne _ rfl;refine⟨b,off,rfl,by simpa using hl,fun j hj => ?_⟩;obtain⟨a',n',c',m',a2',n2',c2',e1,e2,e3,hq⟩:=hcc j hj
 have far:∀q,(((w.setCell ⟨g,o,none⟩ u0).setCell ⟨g,o+1,none⟩ u1).setCell ⟨g,o+2,none⟩ u2).cell? ⟨b,q,none⟩=w.cell? ⟨b,q,none⟩:=fun q=>by
  rw[World.cell?_setCell_other _ _ _ _ (fun e=>by injection e with e _;exact hbg e.symm),World.cell?_setCell_other _ _ _ _ (fun e=>by injection e with e _;exact hbg e.symm),World.cell?_setCell_other _ _ _ _ (fun e=>by injection e with e _;exact hbg e.symm)]
 exact⟨a',n',c',m',a2',n2',c2',(far _).trans e1,(far _).trans e2,(far _).trans e3,hq.put3 q0 q1 q2 n0 n1 n2 _ _ _⟩
end Go.Proofs.YtdmmenaejkpnjaaGreatDoor
namespace Go.Proofs.YtdmmenaejkpnjaaGreatDoor
open Go.RowKit
theorem rune8_any {w : World} {x : Array Value} {S : Nat -> Int} {r L : Nat} {g P : Nat -> Int} {Q : Nat -> Nat} (h : Arr w x S r true L g P Q) {i : Nat} (hi : i < L) :
    Calls Tryz.prog 211 #[.agg x,.int .i64 i] w fun e w'=>e=.returned (.int .i32 (g i))/\Below w.heap.size w w':=by
 obtain⟨ta,tc,rfl,k⟩:=h.1 rfl;have:=rune_any true ((r:Int)-1) (dm S r) none 0 0 ta L tc g (i:Int) w k;rw[show elC L g 0 (i:Int)=g i from(if_pos ⟨by omega,by omega⟩).trans (by rw[Int.toNat_natCast])]at this;exact this
theorem rat8_any {w : World} {x : Array Value} {S : Nat -> Int} {r L : Nat} {g P : Nat -> Int} {Q : Nat -> Nat} (h : Arr w x S r false L g P Q) {i : Nat} (hi : i < L) :
    Calls Tryz.prog 82 #[.agg x,.int .i64 i] w fun e w'=>RatTold w w' e (P i) (Q i):=by
 obtain⟨na,nc,rfl,k⟩:=h.2 rfl;have:=elemG_any false ((r:Int)-1) (dm S r) na L nc none 0 0 P Q (i:Int) w k;rw[show elP L P (i:Int)=P i from(if_pos ⟨by omega,by omega⟩).trans (by rw[Int.toNat_natCast]),show elQ L Q (i:Int)=Q i from(if_pos ⟨by omega,by omega⟩).trans (by rw[Int.toNat_natCast])]at this;exact this
end Go.Proofs.YtdmmenaejkpnjaaGreatDoor
namespace Go.Proofs.YtdmmenaejkpnjaaGreatDoor
open Go.RowKit
attribute [local go_sem ↓] Go.wp_at_zero Go.wp_at_succ
theorem ratPlus1_any (a : Option Addr) (n c : Nat) (m : Bool) (a2 : Option Addr) (n2 c2 : Nat) (P : Int) (Q : Nat) (sa : Option Addr) (F : Int) (G : Nat) (w : World) (h : RatAt w a n c m a2 n2 c2 P Q) (g : RatsAt w sa 1 1 (fun _ => F) (fun _ => G))
    (hQ:0<Q) (hG:0<G) (K:Nat) (hK:K<=200000) (h1:P.natAbs<4294967296^K) (h2:Q<4294967296^K) (h3:F.natAbs<4294967296^K) (h4:G<4294967296^K) :
    Calls Tryz.prog 178 #[.agg #[.slice a n c,.bool m,.slice a2 n2 c2],.slice sa 1 1] w fun e w'=>RatTold w w' e (plP P Q F G) (plQ P Q F G) :=
 ratPlus_any a n c m a2 n2 c2 P Q sa 1 1 (fun _=>F) (fun _=>G) w h g hQ (fun _ _=>hG) K hK (fun k hk=>by have e:k=0:=(by omega);subst e;exact⟨h1,h2,h3,h4⟩)
def reF(P:Int)(Q:Nat)(P':Int)(Q':Nat):Int:=flQ (nwP (P'*Q) (P*Q')) (nwQ (P'*Q) (P*Q'))
def reP(P:Int)(Q:Nat)(P':Int)(Q':Nat):Int:=if P=0 then P' else plP P' Q' (-(tmP P Q (reF P Q P' Q') 1)) (tmQ P Q (reF P Q P' Q') 1)
def reQ(P:Int)(Q:Nat)(P':Int)(Q':Nat):Nat:=if P=0 then Q' else plQ P' Q' (-(tmP P Q (reF P Q P' Q') 1)) (tmQ P Q (reF P Q P' Q') 1)
def raO(P:Int)(Q:Nat)(n most:Int):Bool:=(powN P.natAbs n most).2&&(powN Q n most).2
def raS(P:Int)(n:Int):Bool:=decide (P<0)&&decide (n%2=1)
def raP(P:Int)(Q:Nat)(n most:Int):Int:=if raO P Q n most then sgn (raS P n) (powN P.natAbs n most).1 else 0
def raQ(P:Int)(Q:Nat)(n most:Int):Nat:=if raO P Q n most then(powN Q n most).1 else 1
def inP(P:Int)(Q:Nat):Int:=nwP (1*(Q:Int)) (P*((1:Nat):Int))
def inQ(P:Int)(Q:Nat):Nat:=nwQ (1*(Q:Int)) (P*((1:Nat):Int))
def sqP(P:Int)(Q:Nat):Int:=tmP P Q P Q
def sqQ(P:Int)(Q:Nat):Nat:=tmQ P Q P Q
def poP(P:Int)(Q:Nat)(n most:Int):Int:=if 0<=n then raP P Q n most else if P=0 then 0 else if n = -9223372036854775808 then raP (sqP (inP P Q) (inQ P Q)) (sqQ (inP P Q) (inQ P Q)) 4611686018427387904 most else raP (inP P Q) (inQ P Q) (-n) most
def poQ(P:Int)(Q:Nat)(n most:Int):Nat:=if 0<=n then raQ P Q n most else if P=0 then 1 else if n = -9223372036854775808 then raQ (sqP (inP P Q) (inQ P Q)) (sqQ (inP P Q) (inQ P Q)) 4611686018427387904 most else raQ (inP P Q) (inQ P Q) (-n) most
def poO(P:Int)(Q:Nat)(n most:Int):Bool:=if 0<=n then raO P Q n most else if P=0 then false else if n = -9223372036854775808 then raO (sqP (inP P Q) (inQ P Q)) (sqQ (inP P Q) (inQ P Q)) 4611686018427387904 most else raO (inP P Q) (inQ P Q) (-n) most
end Go.Proofs.YtdmmenaejkpnjaaGreatDoor
namespace Go.Proofs.YtdmmenaejkpnjaaGreatDoor
open Go.RowKit
def cmpK(c:Int):Bool:=decide (c=60∨c=8804∨c=61∨c=8805∨c=62∨c=8800)
def logK(c:Int):Bool:=decide (c=8743∨c=8744∨c=9074∨c=9073)
def numK(c:Int):Bool:=decide (c=43∨c=45∨c=215∨c=247∨c=8968∨c=8970∨c=124∨c=42∨c=33∨c=9055∨c=9675)
def kindZ(c:Int):Int:=if cmpK c then 1 else if logK c then 2 else if numK c then 3 else 0
def hasD(c:Int):Bool:=cmpK c||(logK c||numK c)
theorem hasD_kind(c:Int):(kindZ c != 0)=hasD c:=by
 unfold kindZ hasD
 cases cmpK c<;>cases logK c<;>cases numK c<;>rfl
def cmpB(c n:Int):Bool:=if c=60 then decide (n<0)else if c=8804 then decide (n<=0)else if c=61 then decide (n=0)else if c=8805 then decide (0<=n)else if c=62 then decide (0<n)else !decide (n=0)
def truB(P:Int)(Q:Nat):Bool:=decide (Q=1)&&(decide (P=0)||decide (P=1))
def logB(c P P':Int):Bool:=if c=8743 then decide (P=1)&&decide (P'=1)else if c=8744 then decide (P=1)||decide (P'=1)else if c=9074 then !(decide (P=1)&&decide (P'=1))else !(decide (P=1)||decide (P'=1))
def b1(b:Bool):Int:=if b then 1 else 0
def wy(r:Nat):Nat->Nat
 | 0=>1
 | i+1=>wy r i*(r+(i+1)) / (i+1)
def wyF(r:Nat)(l:Int):Nat->Bool
 | 0=>decide ((lbs 1:Int)<=l)
 | k+1=>wyF r l k&&decide ((lbs (wy r (k+1)):Int)<=l)
abbrev Ans:=Int × Nat × Int
def lim3(l:Int)(t:Ans):Ans:=if t.2.2≠0 then(0,1,t.2.2)else if l<limZ t.1 t.2.1 then(0,1,26)else t
def fewK(P P':Int):Nat:=min P.toNat (P'-P).toNat
def waysT(P:Int)(Q:Nat)(P':Int)(Q':Nat)(l:Int):Ans :=
 if Q≠1∨Q'≠1∨P<0∨P'<0 then(0,1,22)else if P'<P then(0,1,0)else if wyF (P'.toNat-fewK P P') l (fewK P P')then(((wy (P'.toNat-fewK P P') (fewK P P'):Nat):Int),1,0)else(0,1,26)
def limB(P:Int)(Q:Nat):Bool:=decide (Q=1)&&(decide (P.natAbs=0)||decide (P.natAbs=1))
def powT(P:Int)(Q:Nat)(P':Int)(Q':Nat)(l:Int):Ans :=
 if Q'≠1∨(P=0/\P'<0)then(0,1,22)else if P'=0 then(1,1,0)else if limB P Q then(if P'%2=0 then P*P else P,1,0)else if fitB P'=false then(0,1,26)else if poO P Q P' l then(poP P Q P' l,poQ P Q P' l,0)else(0,1,26)
def numT(c P:Int)(Q:Nat)(P':Int)(Q':Nat)(l:Int):Ans :=
 if c=43 then(plP P Q P' Q',plQ P Q P' Q',0)else if c=45 then(plP P Q (-P') Q',plQ P Q (-P') Q',0)else if c=215 then(tmP P Q P' Q',tmQ P Q P' Q',0)else
 if c=247 then(if P'=0 then(if P=0 then(1,1,0)else(0,1,22))else(nwP (P*Q') (P'*Q),nwQ (P*Q') (P'*Q),0))else
 if c=8968 then(if cmpZ (P*Q') (P'*Q)<0 then(P',Q',0)else(P,Q,0))else if c=8970 then(if 0<cmpZ (P*Q') (P'*Q)then(P',Q',0)else(P,Q,0))else
 if c=124 then(reP P Q P' Q',reQ P Q P' Q',0)else if c=42 then powT P Q P' Q' l else if c=33 then waysT P Q P' Q' l else(0,1,22)
def twoT(c P:Int)(Q:Nat)(P':Int)(Q':Nat)(l:Int):Ans :=
 if cmpK c then(b1 (cmpB c (cmpZ (P*Q') (P'*Q))),1,0)else if logK c then(if truB P Q&&truB P' Q' then(b1 (logB c P P'),1,0)else(0,1,22))else if numK c then lim3 l (numT c P Q P' Q' l)else(0,1,20)
theorem lim3_no{l:Int}{p:Int}{q:Nat}{e:Int}(h:e≠0):lim3 l (p,q,e)=(0,1,e):=by
 unfold lim3;rw[if_pos h]
theorem lim3_yes{l:Int}{p:Int}{q:Nat}:lim3 l (p,q,0)=if l<limZ p q then(0,1,26)else(p,q,0):=by
 unfold lim3;rw[if_neg (fun h=>h rfl)]
def Good3(l:Int)(t s:Ans):Prop:=0<t.2.1/\lim3 l t=lim3 l s
theorem plQ_pos(P P':Int){Q Q':Nat}(h:0<Q)(h':0<Q'):0<plQ P Q P' Q':=loQ_pos _ (Nat.mul_pos h h')
end Go.Proofs.YtdmmenaejkpnjaaGreatDoor
