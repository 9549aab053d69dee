/-
  Texts of this seat, laid together.
-/
import Derived.Lib.ItoaNum
import Derived.IntWalk
import Derived.Test.YtdmmenaejkpnjaaGreatDoorShelf
import Derived.Laws.BytesArg
import Derived.Deep.QuietTactic
import Derived.BigQuiet
import Derived.WalkKit
import Derived.WalkSpells
import Derived.Deep.Draws
import Derived.Lib.Hide
import Derived.Lib.TrimByte
import Derived.WalkLawsBesides
import Derived.Laws.CopyOwn
import Derived.BigRegion
import Derived.RegionTactic
import Derived.Deep.RegionWith
import Derived.StillTailTactics
import Derived.Test.YtdmmenaejkpnjaaGreatDoorRows
import Derived.Deep.RegionHeld3
import Derived.Deep.DrawnRows
import Derived.Laws.BitsLemmas
import Derived.Shelf.Abstract
import Derived.Below
import Derived.Laws.StructEq
import Derived.ChangeKeysEq
import Derived.Lib.SliceRun
import Derived.Lib.Walk
import Derived.Deep.AppendLies
import Derived.Deep.RegionLaw
import Derived.Laws.EntriesVeiled
import Derived.Deep.MidRow
import Derived.Lib.AppendZeros
import Derived.Laws.AppendOwnNone
import Derived.ProofKit
import Derived.Carry
import Derived.Deep.Strs
import Derived.OpenShut
import Derived.Deep.Slices
import Derived.Lib.SmallJoins
import Derived.Laws.OwnMore
import Derived.Test.YtdmmenaejkpnjaaGreatDoorI1
import Derived.Test.YtdmmenaejkpnjaaGreatDoorI2
import Derived.Test.YtdmmenaejkpnjaaGreatDoorI3
import Derived.Test.YtdmmenaejkpnjaaGreatDoorI4
import Derived.Test.YtdmmenaejkpnjaaGreatDoorI5
import Derived.Test.YtdmmenaejkpnjaaGreatDoorI6
import Derived.Test.YtdmmenaejkpnjaaGreatDoorI7
import Derived.Test.YtdmmenaejkpnjaaGreatDoorI8
import Derived.Test.YtdmmenaejkpnjaaGreatDoorI9
import Derived.Test.YtdmmenaejkpnjaaGreatDoorI10
import Derived.Test.YtdmmenaejkpnjaaGreatDoorI11
set_option maxHeartbeats 12800000
set_option maxRecDepth 100000
set_option linter.unusedSimpArgs false
set_option linter.unusedVariables false
namespace Go.Proofs.YtdmmenaejkpnjaaGreatDoor
open Go.RowKit
attribute [local go_sem ↓] Go.wp_at_zero Go.wp_at_succ
def LP(k0 k5 k7:Nat)(b:Bool)(d:ByteArray)(a:Option Addr)(n c N:Nat)(y:World):Prop:=RS y k0/\RT y (k0+1)/\Slot2 y k5 (.bool b) (.string d)/\Slot y k7 (.slice a n c)/\NatIs y (.agg #[.slice a n c]) N
end Go.Proofs.YtdmmenaejkpnjaaGreatDoor
namespace Go.Proofs.YtdmmenaejkpnjaaGreatDoor
open Go.RowKit
theorem ldPG {ops : Array Oper} {rest : List Oper} {o : Oper} {a : Act} {w : World} {Q : Exit -> Act -> World -> Prop} (hw : Region.wanted o (yielded ops a.tmps) = true) (d : Nat) (ho : o.op = .load 26 (.tmp d)) (g : Nat) (cs : Array Value) (hx : a.eval (.tmp d) = .pointer (some ⟨g, 0, none⟩)) (hr : Row w g 26 cs) (hs : cs.size = 4)
    (h:wpList Tryz.prog ops Q rest (a.put o.dst (.agg cs)) w):wpList Tryz.prog ops Q (o::rest) a w:=by
 show if Region.wanted o (yielded ops a.tmps)=true then _ else _
 rw[if_pos hw];exact Or.inl (wp_load_row 26 (.tmp d) ho g hx 26 cs (0,0) _ hr Tryz.underlying26 rfl (by rw[pln4,hs]) h)
theorem MoR.below{w w':World}{x:Array Value}{E:Int}{S:Nat->Int}{r:Nat}{ch:Bool}{L:Nat}{g fP:Nat->Int}{fQ:Nat->Nat}(h:MoR w x E S r ch L g fP fQ)(hb:Below w.heap.size w w'):MoR w' x E S r ch L g fP fQ:=⟨h.1,fun e=>(h.2.1 e).below hb,h.2.2⟩
theorem MoR.store{w:World}{x:Array Value}{E:Int}{S:Nat->Int}{r:Nat}{ch:Bool}{L:Nat}{g fP:Nat->Int}{fQ:Nat->Nat}(h:MoR w x E S r ch L g fP fQ){k:Nat}{t:TypeId}{z:Array Value}(hr:Row w k t z)(hz:IsA z)(cs':Array Value):MoR (w.setRow k cs') x E S r ch L g fP fQ:=⟨h.1,fun e=>(h.2.1 e).store hr hz cs',h.2.2⟩
theorem MoTold.res {E : Int} {S : Nat -> Int} {r : Nat} {ch : Bool} {L : Nat} {g fP : Nat -> Int} {fQ : Nat -> Nat} {w w' : World} {e : Ending} (h : MoTold E S r ch L g fP fQ w w' e) :
    ∃x,e=.returned (.tuple #[.agg x,.int .i64 E])/\MoR w' x E S r ch L g fP fQ/\Below w.heap.size w w':=by
 obtain⟨x,he,h1,h2,hb⟩:=h;refine⟨x,he,⟨?_,h1,h2⟩,hb⟩
 by_cases hE:E=0
 · exact(h1 hE).isA
 · rw[h2 hE];exact IsA.zer
theorem PoR.below{w w':World}{p:Array Value}{E:Int}{S:Nat->Int}{r:Nat}{ch:Bool}{L:Nat}{g:Nat->Int}{fB:Nat->Bool}{fS fT:Nat->ByteArray}(h:PoR w p E S r ch L g fB fS fT)(hb:Below w.heap.size w w'):PoR w' p E S r ch L g fB fS fT:=⟨h.1,fun e=>(h.2 e).below hb⟩
theorem PoTold.res {E : Int} {S : Nat -> Int} {r : Nat} {ch : Bool} {L : Nat} {g : Nat -> Int} {fB : Nat -> Bool} {fS fT : Nat -> ByteArray} {w w' : World} {e : Ending} (h : PoTold E S r ch L g fB fS fT w w' e) :
    ∃x,e=.returned (.tuple #[.agg x,.int .i64 E])/\PoR w' x E S r ch L g fB fS fT/\Below w.heap.size w w':=by
 obtain⟨x,he,h1,h2,hb⟩:=h;refine⟨x,he,⟨?_,h1⟩,hb⟩
 by_cases hE:E=0
 · obtain⟨_,_,_,_,_,_,e,_⟩:=(h1 hE).form;exact⟨_,_,_,_,_,_,_,_,_,_,e⟩
 · rw[h2 hE];exact⟨_,_,_,_,_,_,_,_,_,_,rfl⟩
end Go.Proofs.YtdmmenaejkpnjaaGreatDoor
namespace Go.Proofs.YtdmmenaejkpnjaaGreatDoor
open Go.ChangeShapes Go.WideShapes Go.ChangeAt Go.RowKit
theorem in64_of{f:Nat->Int}{n:Nat}(h:∀j,j<n->(Lit.int .i64 (f j)).wf=true):In64 f n:=fun j hj=>by
 simpa[Lit.wf,IntKind.min,IntKind.max,IntKind.signed,IntKind.bits]using h j hj
section
variable {H:Type} {enc:TypeId × Value->H} {P:Program} {w:World} {base:Nat} {spare:Nat->Bool} {held:Bool}
end
end Go.Proofs.YtdmmenaejkpnjaaGreatDoor
namespace Go.Proofs.YtdmmenaejkpnjaaGreatDoor
open Go.ChangeShapes Go.WideShapes Go.ChangeAt Go.RowKit Go.WideMaps Go.WideElems Go.Deep
theorem cellsNum:Tryz.prog.cellsOf 46=3:=by kernel_rfl
theorem cellsBool:Tryz.prog.cellsOf 4=1:=by kernel_rfl
theorem cellsStr:Tryz.prog.cellsOf 9=1:=by kernel_rfl
end Go.Proofs.YtdmmenaejkpnjaaGreatDoor
namespace Go.Proofs.YtdmmenaejkpnjaaGreatDoor
open Go.ChangeShapes Go.WideShapes Go.ChangeAt Go.RowKit Go.WideMaps Go.WideElems Go.Deep Go.Joins
theorem krow_cells {H : Type} {enc : TypeId × Value -> H} {P : Program} {w : World} {base : Nat} {t e : TypeId} {ki : IntKind} {cs : List Value} {fuel : Nat} {x : DataW H × List MemPlace} (ht : P.underlying t = some (.slice e)) (he : P.underlying e = some (.int ki)) (hc : P.cellsOf e = 1)
    (h:DataW.trod enc P w base (fun _=>true) true fuel t cs=some x) :
    ∃a n c f,cs = [.slice a n c]/\KRow w ki a n c f/\∀j,j<n->(Lit.int ki (f j)).wf=true:=by
 rcases open_ints ht he hc h with ⟨hcs,_⟩|⟨a,len,cap,zs,hcs,_,hl,hmx,hz,_,hcell,hwz⟩
 · exact⟨none,0,0,fun _=>0,hcs,⟨Nat.le_refl _,Nat.zero_le _,.inl rfl⟩,fun j hj=>absurd hj (Nat.not_lt_zero _)⟩
 · simp only [if_true] at hz
   refine⟨some a,len,cap,fun j=>zs.getD j 0,hcs,⟨hl,hmx,?_⟩,fun j hj => ?_⟩
   · rcases Nat.eq_zero_or_pos len with h0|h0
     · exact .inl h0
     · obtain⟨b,off,spot⟩:=a;have hspot:spot=none:=by simpa[Addr.add]using World.cell?_spot (hcell 0 (by omega))
       subst hspot;have h1:∀j,j<zs.length->w.cell? ⟨b,off+j,none⟩=some (.int ki (zs.getD j 0)):=fun j hj=>by rw[← add_plain];exact hcell j hj
       exact .inr ⟨b,off,rfl,World.block_lt_of_cell? w _ (h1 0 (by omega)),fun j hj=>h1 j (by omega)⟩
   · refine hwz _ ?_;have:zs.getD j 0=zs[j]'(by omega):=by simp[List.getD,show j<zs.length by omega]
     show zs.getD j 0 ∈ zs
     rw[this];exact List.getElem_mem _
theorem qrow_cells {H : Type} {enc : TypeId × Value -> H} {w : World} {base : Nat} {cs : List Value} {fuel : Nat} {x : DataW H × List MemPlace}
    (h:DataW.trod enc Tryz.prog w base (fun _=>true) true fuel 24 cs=some x) :
    ∃a n c fB fS fT,cs = [.slice a n c]/\QRow w a n c fB fS fT/\∀j,j<n->(fS j).size<=maxLen/\(fT j).size<=maxLen:=by
 rcases open_slice Tryz.underlying24 h with ⟨hcs,_⟩|⟨a,len,cap,m,n,D,Pl,hcs,hb,hl,hm,hmm,rfl,hx⟩
 · exact⟨none,0,0,fun _=>false,fun _=>⟨#[]⟩,fun _=>⟨#[]⟩,hcs,QRow.nought _ _ _ (Nat.zero_le _) _ _ _,fun j hj=>absurd hj (Nat.not_lt_zero _)⟩
 · simp only[if_true]at hmm;subst hmm;obtain⟨b,off,spot⟩:=a
   rcases Nat.eq_zero_or_pos len with h0|h0
   · subst h0;exact⟨_,0,_,fun _=>false,fun _=>⟨#[]⟩,fun _=>⟨#[]⟩,hcs,QRow.nought _ _ _ hm _ _ _,fun j hj=>absurd hj (Nat.not_lt_zero _)⟩
   have each:∀i,i<m->∃q:Bool × ByteArray × ByteArray,w.cell? ((⟨b,off,spot⟩:Addr).add (i*3))=some (.bool q.1)/\w.cell? ((⟨b,off,spot⟩:Addr).add (i*3+1))=some (.string q.2.1)/\w.cell? ((⟨b,off,spot⟩:Addr).add (i*3+2))=some (.string q.2.2)/\q.2.1.size<=maxLen/\q.2.2.size<=maxLen:=by
    intro i hi;obtain⟨cs',h1,h2⟩:=hx i hi;rw[cellsNum]at h1;obtain⟨_,hlen,hcell⟩:=World.cells?_some h1;obtain⟨y0,y1,y2,k,hxx,_,hy0,hy1,hy2⟩:=trod_struct3 Tryz.underlying46 h2
    match cs',hlen with
    | [c0,c1,c2],_ =>
     obtain⟨u,e0,rfl⟩:=DataW.trod_bool Tryz.underlying4 hy0;obtain⟨s,e1,rfl,hs⟩:=DataW.trod_string Tryz.underlying9 hy1;obtain⟨t,e2,rfl,ht⟩:=DataW.trod_string Tryz.underlying9 hy2
     simp[cellsBool]at e0
     simp[cellsStr]at e1 e2
     subst e0 e1 e2;have g0:=hcell 0 (by omega);have g1:=hcell 1 (by omega);have g2:=hcell 2 (by omega);rw[add_add]at g0 g1 g2;exact⟨(u,s,t),by simpa using g0,by simpa using g1,by simpa using g2,hs,ht⟩
   obtain⟨q,hq⟩:=choose_lt each;have hspot:spot=none:=by simpa[Addr.add]using World.cell?_spot (hq 0 (by omega)).1
   subst hspot
   refine⟨_,_,_,fun j=>(q j).1,fun j=>(q j).2.1,fun j=>(q j).2.2,hcs,⟨hl,hm,.inr ⟨b,off,rfl,?_,fun j hj => ?_⟩⟩,fun j hj=>⟨(hq j (by omega)).2.2.2.1,(hq j (by omega)).2.2.2.2⟩⟩
   · exact World.block_lt_of_cell? w ⟨b,off+0*3,none⟩ (by rw[← add_plain];exact(hq 0 (by omega)).1)
   · have:=hq j (by omega);simp only[add_plain]at this;exact⟨this.1,this.2.1,this.2.2.1⟩
theorem cellsPln:Tryz.prog.cellsOf 26=4:=by kernel_rfl
theorem cellsSlI:Tryz.prog.cellsOf 22=1:=by kernel_rfl
theorem cellsSlR:Tryz.prog.cellsOf 23=1:=by kernel_rfl
theorem cellsSlN:Tryz.prog.cellsOf 24=1:=by kernel_rfl
theorem cellsI:Tryz.prog.cellsOf 3=1:=by kernel_rfl
theorem cellsC:Tryz.prog.cellsOf 21=1:=by kernel_rfl
theorem open_pln {H : Type} {enc : TypeId × Value -> H} {W : World} {r : Reach} {b0 : Nat} {v0 : Value} {d0 : DataW H} {p0 : List MemPlace}
    (hv:Value.okWide Tryz.prog W r b0 26 v0) (h0:DataW.Trod enc Tryz.prog W 0 (fun _=>true) true 26 v0 d0 p0) :
    ∃cs S q ch g tn fB fS fT nn,v0=.agg cs/\PlnAt W cs S q ch g tn fB fS fT nn/\In64 S q/\∀j,j<nn->(fS j).size<=maxLen/\(fT j).size<=maxLen:=by
 obtain⟨cs,rfl,hsz⟩:=okWide_struct Tryz.underlying26 hv;rw[cellsPln]at hsz;obtain⟨l⟩:=cs
 match l,hsz with
 | [c0,c1,c2,c3],_ =>
 obtain⟨fuel,hf⟩:=h0;obtain⟨y0,y1,y2,y3,m,hx,_,hy0,hy1,hy2,hy3⟩:=trod_struct4 Tryz.underlying26 hf;obtain⟨sa,r,sc,S,e0,k0,w0⟩:=krow_cells (ki:=.i64) Tryz.underlying22 Tryz.underlying3 cellsI hy0;obtain⟨ch,e1,rfl⟩:=DataW.trod_bool Tryz.underlying4 hy1;obtain⟨ta,tn,tc,g,e2,k2,w2⟩:=krow_cells (ki:=.i32) Tryz.underlying23 Tryz.underlying21 cellsC hy2;obtain⟨na,nn,nc,fB,fS,fT,e3,k3,w3⟩:=qrow_cells hy3
 simp[Value.cells,cellsSlI]at e0
 simp[Value.cells,cellsBool]at e1
 simp[Value.cells,cellsSlR]at e2
 simp[Value.cells,cellsSlN]at e3
 subst e0 e1 e2 e3;exact⟨_,S,r,ch,g,tn,fB,fS,fT,nn,rfl,⟨sa,sc,ta,tc,na,nc,rfl,k0,k2,k3⟩,in64_of w0,w3⟩
instance:Inhabited Sr:=⟨(false,fun _=>0,0,false,fun _=>0,0,fun _=>false,fun _=>⟨#[]⟩,fun _=>⟨#[]⟩,0)⟩
theorem cellsSub:Tryz.prog.cellsOf 77=5:=by kernel_rfl
theorem open_drow {H : Type} {enc : TypeId × Value -> H} {w : World} {r : Reach} {b0 : Nat} {v0 : Value} {d0 : DataW H} {p0 : List MemPlace}
    (hv:Value.okWide Tryz.prog w r b0 27 v0) (h0:DataW.Trod enc Tryz.prog w 0 (fun _=>true) true 27 v0 d0 p0) :
    ∃a n c E,v0=.slice a n c/\DRow w a n c E/\∀j,j<n->(E j).bd:=by
 obtain⟨a0,len,cap,rfl⟩:=okWide_slice Tryz.underlying27 hv;obtain⟨fuel,h⟩:=h0
 rcases open_slice Tryz.underlying27 h with ⟨hcs,_⟩|⟨a,len',cap',m,n,D,Pl,hcs,hb,hl,hm,hmm,_,hx⟩
 · simp[Value.cells]at hcs
   obtain⟨rfl,rfl,rfl⟩:=hcs;exact⟨none,0,0,fun _=>default,rfl,⟨Nat.le_refl _,Nat.zero_le _,.inl rfl⟩,fun j hj=>absurd hj (Nat.not_lt_zero _)⟩
 · simp [Value.cells] at hcs
   obtain⟨rfl,rfl,rfl⟩:=hcs;simp only[if_true]at hmm;subst hmm;obtain⟨b,off,spot⟩:=a
   rcases Nat.eq_zero_or_pos len with h0|h0
   · subst h0;exact⟨_,0,_,fun _=>default,rfl,⟨Nat.zero_le _,hm,.inl rfl⟩,fun j hj=>absurd hj (Nat.not_lt_zero _)⟩
   have each:∀i,i<m->∃q:Sr,∃va vc ta tc na nc,(∀o u,(Value.bool q.al::(plC va q.r vc q.ch ta q.tn tc na q.nn nc).toList)[o]? = some u->w.cell? ((⟨b,off,spot⟩:Addr).add (i*5+o))=some u)/\PlnAt w (plC va q.r vc q.ch ta q.tn tc na q.nn nc) q.S q.r q.ch q.g q.tn q.B q.U q.V q.nn/\q.bd:=by
    intro i hi;obtain⟨cs',h1,h2⟩:=hx i hi;rw[cellsSub]at h1;obtain⟨_,hlen,hcell⟩:=World.cells?_some h1;obtain⟨y0,y1,k,hxx,_,hy0,hy1⟩:=trod_struct2 Tryz.underlying77 h2
    match cs',hlen with
    | [c0,c1,c2,c3,c4],_ =>
     obtain⟨u,e0,rfl⟩:=DataW.trod_bool Tryz.underlying4 hy0;obtain⟨z0,z1,z2,z3,k2,hx2,_,hz0,hz1,hz2,hz3⟩:=trod_struct4 Tryz.underlying26 hy1;obtain⟨sa,r,sc,S,e1,k0,w0⟩:=krow_cells (ki:=.i64) Tryz.underlying22 Tryz.underlying3 cellsI hz0;obtain⟨ch,e2,rfl⟩:=DataW.trod_bool Tryz.underlying4 hz1;obtain⟨ta,tn,tc,g,e3,k2,w2⟩:=krow_cells (ki:=.i32) Tryz.underlying23 Tryz.underlying21 cellsC hz2;obtain⟨na,nn,nc,fB,fS,fT,e4,k3,w3⟩:=qrow_cells hz3
     simp[cellsBool]at e0
     simp[cellsSlI,cellsPln]at e1
     simp[cellsBool,cellsPln]at e2
     simp[cellsSlR,cellsPln]at e3
     simp[cellsSlN,cellsPln]at e4
     subst e0 e1 e2 e3 e4;refine⟨(u,S,r,ch,g,tn,fB,fS,fT,nn),sa,sc,ta,tc,na,nc,fun o v hv => ?_,⟨sa,sc,ta,tc,na,nc,rfl,k0,k2,k3⟩,in64_of w0,w3⟩
     have ho:o<5:=by
      obtain⟨hlt,_⟩:=List.getElem?_eq_some_iff.1 hv;exact hlt
     have:=hcell o ho;rw[add_add]at this;rw[this];exact hv
   obtain⟨q,hq⟩:=choose_lt each
   have hspot:spot=none:=by
    obtain⟨va,vc,ta,tc,na,nc,h1,_⟩:=hq 0 (by omega)
    simpa[Addr.add]using World.cell?_spot (h1 0 _ rfl)
   subst hspot
   refine⟨_,_,_,q,rfl,⟨hl,hm,.inr ⟨b,off,rfl,?_,fun j hj => ?_⟩⟩,fun j hj => ?_⟩
   · obtain⟨va,vc,ta,tc,na,nc,h1,_⟩:=hq 0 (by omega);exact World.block_lt_of_cell? w ⟨b,off+(0*5+0),none⟩ (by rw[← add_plain];exact h1 0 _ rfl)
   · obtain⟨va,vc,ta,tc,na,nc,h1,h2,_⟩:=hq j (by omega);refine⟨va,vc,ta,tc,na,nc,fun o v hv => ?_,h2⟩;rw[Nat.add_assoc,← add_plain];exact h1 o v hv
   · obtain⟨va,vc,ta,tc,na,nc,_,_,h3⟩:=hq j (by omega);exact h3
end Go.Proofs.YtdmmenaejkpnjaaGreatDoor
