/-
  Texts of this seat, laid together.
-/
import Derived.Shelf.Abstract
import Derived.Laws.EntriesVeiled
import Derived.StillTailTactics
import Derived.Deep.RegionHeld3
import Derived.Lib.AppendZeros
import Derived.Deep.QuietTactic
import Derived.BigQuiet
import Derived.Deep.AppendLies
import Derived.Laws.OwnMore
import Derived.ProofKit
import Derived.Carry
import Derived.Deep.Strs
import Derived.OpenShut
import Derived.Deep.Slices
import Derived.Lib.SmallJoins
import Derived.Deep.Grids
import Derived.Test.YtdmmenaejkpnjaaGreatDoorI6
set_option maxHeartbeats 12800000
set_option maxRecDepth 100000
set_option linter.unusedSimpArgs false
set_option linter.unusedVariables false
namespace Go.Proofs.YtdmmenaejkpnjaaGreatDoor
open Go.RowKit
def IsA(cs:Array Value):Prop:=∃ch more d na nn nc ta tn tc,cs=arrC ch more d na nn nc ta tn tc
theorem IsA.zer:IsA zerC:=⟨_,_,_,_,_,_,_,_,_,rfl⟩
theorem IsA.size{cs:Array Value}(h:IsA cs):cs.size=12:=by
 obtain⟨_,_,_,_,_,_,_,_,_,rfl⟩:=h
 rfl
theorem IsA.one{cs:Array Value}(h:IsA cs):cs.all (·.oneCell')=true:=by
 obtain⟨_,_,_,_,_,_,_,_,_,rfl⟩:=h;exact arrC_one _ _ _ _ _ _ _ _ _
theorem Arr.isA{w:World}{cs:Array Value}{S:Nat->Int}{r:Nat}{ch:Bool}{L:Nat}{g fP:Nat->Int}{fQ:Nat->Nat}(h:Arr w cs S r ch L g fP fQ):IsA cs:=by
 obtain⟨na,nn,nc,ta,tn,tc,rfl,_⟩:=h.form;exact⟨_,_,_,_,_,_,_,_,_,rfl⟩
theorem Arr.store{w:World}{cs:Array Value}{S:Nat->Int}{r:Nat}{ch:Bool}{L:Nat}{g fP:Nat->Int}{fQ:Nat->Nat}(h:Arr w cs S r ch L g fP fQ){k:Nat}{t:TypeId}{z:Array Value}(hr:Row w k t z)(hz:IsA z)(cs':Array Value):Arr (w.setRow k cs') cs S r ch L g fP fQ:=by
 obtain⟨_,_,_,_,_,_,_,_,_,rfl⟩:=hz;exact h.away hr (Far.setRow _ _ _)
theorem ev_tmp{a:Act}{d:Nat}{v:Value}(h:a.tmps[d]? = some v):a.eval (.tmp d)=v:=by
 show a.tmps.getD d undef=v
 rw[Array.getD_eq_getD_getElem?,h];rfl
theorem ld8 {o : Oper} {a : Act} {w : World} {K : Act -> World -> Prop} {Q : Exit -> Act -> World -> Prop} (d : Nat) (ho : o.op = .load 36 (.tmp d)) (g : Nat) (cs : Array Value) (hd : a.tmps[d]? = some (.pointer (some ⟨g, 0, none⟩))) (hr : Row w g 36 cs) (hs : cs.size = 12)
    (hK:K (a.put o.dst (.agg cs)) w):o.wp Tryz.prog a w K Q :=
 wp_load_row 36 (.tmp d) ho g (ev_tmp hd) 36 cs (0,0) _ hr Tryz.underlying36 rfl (by rw[arr12,hs]) hK
theorem ldP {o : Oper} {a : Act} {w : World} {K : Act -> World -> Prop} {Q : Exit -> Act -> World -> Prop} (d : Nat) (ho : o.op = .load 26 (.tmp d)) (g : Nat) (cs : Array Value) (hd : a.tmps[d]? = some (.pointer (some ⟨g, 0, none⟩))) (hr : Row w g 26 cs) (hs : cs.size = 4)
    (hK:K (a.put o.dst (.agg cs)) w):o.wp Tryz.prog a w K Q :=
 wp_load_row 26 (.tmp d) ho g (ev_tmp hd) 26 cs (0,0) _ hr Tryz.underlying26 rfl (by rw[pln4,hs]) hK
theorem st8 {o : Oper} {a : Act} {w : World} {K : Act -> World -> Prop} {Q : Exit -> Act -> World -> Prop} (d s : Nat) (ho : o.op = .store 36 (.tmp d) (.tmp s)) (g : Nat) (cs : Array Value) (hd : a.tmps[d]? = some (.pointer (some ⟨g, 0, none⟩))) (hs : a.tmps[s]? = some (.agg cs)) (t : TypeId) (z : Array Value) (hr : Row w g t z) (hz : IsA z) (hc : IsA cs)
    (hK:K (a.put o.dst undef) (w.setRow g cs)):o.wp Tryz.prog a w K Q :=
 wp_store_row 36 (.tmp d) (.tmp s) ho g cs (ev_tmp hd) (ev_tmp hs) t z hr (by rw[arr12,hc.size]) (by rw[hz.size,hc.size]) hc.one hK
def MoTold(E:Int)(S:Nat->Int)(r:Nat)(ch:Bool)(L:Nat)(g fP:Nat->Int)(fQ:Nat->Nat)(w w':World)(e:Ending):Prop :=
 ∃cs,e=.returned (.tuple #[.agg cs,.int .i64 E])/\(E=0->Arr w' cs S r ch L g fP fQ)/\(E≠0->cs=zerC)/\Below w.heap.size w w'
theorem MoTold.no{E:Int}(hE:E≠0){S:Nat->Int}{r:Nat}{ch:Bool}{L:Nat}{g fP:Nat->Int}{fQ:Nat->Nat}{w w':World}(hb:Below w.heap.size w w'):MoTold E S r ch L g fP fQ w w' (.returned (.tuple #[.agg zerC,.int .i64 E])) :=
 ⟨zerC,rfl,fun e=>absurd e hE,fun _=>rfl,hb⟩
theorem MoTold.yes{S:Nat->Int}{r:Nat}{ch:Bool}{L:Nat}{g fP:Nat->Int}{fQ:Nat->Nat}{w w':World}{cs:Array Value}(h:Arr w' cs S r ch L g fP fQ)(hb:Below w.heap.size w w'):MoTold 0 S r ch L g fP fQ w w' (.returned (.tuple #[.agg cs,.int .i64 0])) :=
 ⟨cs,rfl,fun _=>h,fun e=>absurd rfl e,hb⟩
end Go.Proofs.YtdmmenaejkpnjaaGreatDoor
namespace Go.Proofs.YtdmmenaejkpnjaaGreatDoor
open Go.RowKit
attribute [local go_sem ↓] Go.wp_at_zero Go.wp_at_succ
theorem lenZ_any(w:World):Calls Tryz.prog 51 #[.agg zerC] w fun e w'=>e=.returned (.int .i64 0)/\Below w.heap.size w w' :=
 len_any false 0 (fun _=>0) none 0 0 none 0 0 w
structure Shown(w:World)(cs pcs:Array Value):Prop where
 ex:∃S r ch L g fP fQ S' g' fB fS fT,Arr w cs S r ch L g fP fQ/\Pln w pcs S' r ch L g' fB fS fT/\r<=8/\L<=1000000/\Small ch L fP fQ/\(∀j,j<r->S j=S' j)/\(∀j,j<tnO ch L->g j=g' j)/\∀j,j<nnO ch L->rB (fP j)=fB j/\rS (fP j)=fS j/\str (dec (fQ j))=fT j
end Go.Proofs.YtdmmenaejkpnjaaGreatDoor
namespace Go.Proofs.YtdmmenaejkpnjaaGreatDoor
open Go.RowKit
def gP(fB:Nat->Bool)(fS fT:Nat->ByteArray):Nat->Int:=fun j=>ofP (fB j) (fS j) (fT j)
def gQ(fB:Nat->Bool)(fS fT:Nat->ByteArray):Nat->Nat:=fun j=>ofQ (fB j) (fS j) (fT j)
structure Good(S:Nat->Int)(r:Nat)(ch:Bool)(L:Nat)(fB:Nat->Bool)(fS fT:Nat->ByteArray):Prop where
 le:L<=250
 rank:r<=8
 sh:shB S r=true
 cnt:itm S r=(L:Nat)
 short:Short fS fT (nnO ch L)
 of:ofB S r ch (tnO ch L) fB fS fT (nnO ch L)=true
theorem good_of {S : Nat -> Int} {r : Nat} {ch : Bool} {tn : Nat} {fB : Nat -> Bool} {fS fT : Nat -> ByteArray} {nn : Nat} (h : (tn : Int) <= 250 /\ (nn : Int) <= 250 /\ r <= 8 /\ Short fS fT nn /\ ofB S r ch tn fB fS fT nn = true) :
    ∃L,tn=tnO ch L/\nn=nnO ch L/\Good S r ch L fB fS fT:=by
 obtain⟨h1,h2,h3,h4,h5⟩:=h;obtain⟨q1,q2,q3,q4,q5⟩:=ofB_true h5
 cases ch with
 | true =>
  obtain rfl:=q3 rfl;exact⟨tn,rfl,rfl,by omega,h3,q1,q2,h4,h5⟩
 | false =>
  obtain rfl:=q4 rfl;exact⟨nn,rfl,rfl,by omega,h3,q1,q2,h4,h5⟩
theorem Good.num{S:Nat->Int}{r:Nat}{ch:Bool}{L:Nat}{fB:Nat->Bool}{fS fT:Nat->ByteArray}(h:Good S r ch L fB fS fT):NumOk fB fS fT (gP fB fS fT) (gQ fB fS fT) (nnO ch L):=ofO_num (ofB_true h.of).2.2.2.2 h.short
theorem Good.small{S:Nat->Int}{r:Nat}{ch:Bool}{L:Nat}{fB:Nat->Bool}{fS fT:Nat->ByteArray}(h:Good S r ch L fB fS fT):Small ch L (gP fB fS fT) (gQ fB fS fT):=fun e=>by
 have:=ofO_cmp (ofB_true h.of).2.2.2.2 h.short;subst e;exact this
theorem Good.pos{S:Nat->Int}{r:Nat}{ch:Bool}{L:Nat}{fB:Nat->Bool}{fS fT:Nat->ByteArray}(h:Good S r ch L fB fS fT):ch=false->∀j,j<L->0<gQ fB fS fT j:=fun e j hj=>(h.small e j hj).1
theorem Good.in64{S:Nat->Int}{r:Nat}{ch:Bool}{L:Nat}{fB:Nat->Bool}{fS fT:Nat->ByteArray}(h:Good S r ch L fB fS fT):In64 S r:=fun j hj=>by
 have h1:=ax_bd (ax_le (show j+1<=r by omega) (sh_ax h.sh).2);have h2:=rm_pos S j;have h3:1*max (S j) 1<=rm S j*max (S j) 1:=Int.mul_le_mul h2 (Int.le_refl _) (by omega) (by omega);have h4:rm S (j+1)=rm S j*max (S j) 1:=rfl;have h5:=ax_nn (sh_ax h.sh).2 hj
 omega
theorem of8_any (cs : Array Value) (S : Nat -> Int) (r : Nat) (ch : Bool) (L : Nat) (g : Nat -> Int) (fB : Nat -> Bool) (fS fT : Nat -> ByteArray) (w : World) (h : Pln w cs S r ch L g fB fS fT) (hg : Good S r ch L fB fS fT) :
    Calls Tryz.prog 12 #[.agg cs] w fun e w'=>∃a,e=.returned (.agg a)/\Arr w' a S r ch L g (gP fB fS fT) (gQ fB fS fT)/\Below w.heap.size w w':=by
 have h1:nnO ch L<=100000:=by have:=hg.le;unfold nnO;split<;>omega
 have h2:tnO ch L<=100000:=by have:=hg.le;unfold tnO;split<;>omega
 refine(lof_any cs S r ch g (tnO ch L) fB fS fT (nnO ch L) w h hg.in64 hg.short h1 h2 hg.of).mono ?_;rintro e w' ⟨na,nc,ta,tc,rfl,k1,k2,k3,k4,hb⟩
 refine⟨_,rfl,⟨fun e => ?_,fun e => ?_⟩,hb⟩
 · subst e;obtain⟨rfl,rfl⟩:=k4 rfl;exact⟨ta,tc,rfl,k2⟩
 · subst e;obtain⟨rfl,rfl⟩:=k3 rfl;exact⟨na,nc,rfl,k1⟩
theorem dgs_top{f:Nat->Int}(n:Nat)(r:Int):dgs f (n+1) r n=r%f n:=by
 show(if n=n then _ else _)=_
 rw[if_pos rfl]
theorem dgs_low{f:Nat->Int}{n j:Nat}(r:Int)(h:j<n):dgs f (n+1) r j=dgs f n (r / f n) j:=by
 show(if j=n then _ else _)=_
 rw[if_neg (by omega)]
theorem ld8G {ops : Array Oper} {rest : List Oper} {o : Oper} {a : Act} {w : World} {Q : Exit -> Act -> World -> Prop} (hw : Region.wanted o (yielded ops a.tmps) = true) (d : Nat) (ho : o.op = .load 36 (.tmp d)) (g : Nat) (cs : Array Value) (hx : a.eval (.tmp d) = .pointer (some ⟨g, 0, none⟩)) (hr : Row w g 36 cs) (hs : cs.size = 12)
    (h:wpList Tryz.prog ops Q rest (a.put o.dst (.agg cs)) w):wpList Tryz.prog ops Q (o::rest) a w:=by
 show if Region.wanted o (yielded ops a.tmps)=true then _ else _
 rw[if_pos hw];exact Or.inl (wp_load_row 36 (.tmp d) ho g hx 36 cs (0,0) _ hr Tryz.underlying36 rfl (by rw[arr12,hs]) h)
theorem ax_le4{S:Nat->Int}{r j:Nat}(h:shB S r=true)(hj:j<r):0<=S j/\S j<=4096:=by
 obtain⟨_,hax⟩:=sh_ax h;have h1:=ax_bd (ax_le (show j+1<=r by omega) hax);have h2:=rm_pos S j;have h3:1*max (S j) 1<=rm S j*max (S j) 1:=Int.mul_le_mul h2 (Int.le_refl _) (by omega) (by omega);have h4:rm S (j+1)=rm S j*max (S j) 1:=rfl;have h5:=ax_nn hax hj
 omega
theorem wv_dm{W i t:Nat}(ht:t<W):(i*W+t)%W=t/\(i*W+t) / W=i:=by
 constructor
 · rw[Nat.mul_comm,Nat.mul_add_mod];exact Nat.mod_eq_of_lt ht
 · rw[Nat.mul_comm,Nat.mul_add_div (by omega),Nat.div_eq_of_lt ht,Nat.add_zero]
theorem ax_iff {f : Nat -> Int} : ∀ {n : Nat}, axB f n = true ↔ (∀ j, j < n -> 0 <= f j) /\ rm f n <= 4096
 | 0=>⟨fun _=>⟨fun j hj=>absurd hj (Nat.not_lt_zero _),by show(1:Int)<=4096;decide⟩,fun _=>rfl⟩
 | n+1=>by
  constructor
  · intro h;exact⟨fun j hj=>ax_nn h hj,(ax_bd h).2.1⟩
  · rintro⟨h1,h2⟩;have h3:=rm_pos f n;have h4:rm f n*1<=rm f n*max (f n) 1:=Int.mul_le_mul_of_nonneg_left (by omega) (by omega);have h5:rm f (n+1)=rm f n*max (f n) 1:=rfl;have h6:axB f n=true:=ax_iff.2 ⟨fun j hj=>h1 j (by omega),by omega⟩
    show(axB f n&&(decide (0<=f n)&&decide (rm f (n+1)<=4096)))=true
    rw[h6,decide_eq_true (h1 n (by omega)),decide_eq_true h2];rfl
theorem rm_congr{f f':Nat->Int}:∀ {n:Nat},(∀j,j<n->f j=f' j)->rm f n=rm f' n
 | 0,_=>rfl
 | n+1,h=>by
  show rm f n*max (f n) 1=rm f' n*max (f' n) 1
  rw[rm_congr (fun j hj=>h j (by omega)),h n (by omega)]
def bnd(b x:Int):Int:=min (max x (0-b)) b
def pkI(F:Nat->Nat->Int)(d:Nat->Int):Nat->Int:=fun j=>F j (d j).toNat
def pkG(S T:Nat->Int)(r:Nat)(F:Nat->Nat->Int)(k:Nat):Int:=if inB S (pkI F (dgs T r (k:Nat))) r then plc S (pkI F (dgs T r (k:Nat))) r else -1
theorem pkG_bd{S T:Nat->Int}{r:Nat}{F:Nat->Nat->Int}(hsh:shB S r=true)(k:Nat) : -1<=pkG S T r F k/\pkG S T r F k<4096:=by
 obtain⟨_,hax⟩:=sh_ax hsh;unfold pkG
 split
 · rename_i h
   have h1:=plc_bd hax h;have h2:=ax_bd hax
   omega
 · omega
theorem cloneI_some (ad : Addr) (n c : Nat) (f : Nat -> Int) (w : World) (h : KRow w .i64 (some ad) n c f) (hn : n <= 1000000) :
    Calls Tryz.prog 100 #[.slice (some ad) n c] w fun e w'=>∃g c',e=.returned (.slice (some ⟨g,0,none⟩) n c')/\w.heap.size<=g/\g<w'.heap.size/\KRow w' .i64 (some ⟨g,0,none⟩) n c' f/\Below w.heap.size w w':=by
 obtain⟨i0,hi,hz0,hz1,hz2⟩:=info_parts infoI;have q22:∀(w:World) (a:Option Addr) (n c n' c':Nat),(binOp .eql 22 (.slice a n c) (.slice none n' c')).run Tryz.prog w=.ok (.bool a.isNone) w:=fun w a n c n' c'=>Lib.run_eql_slice_nil w _ _ a n c n' c' Tryz.underlying22
 have hex:∃news:List Value,news.length=n*1/\(∀j u,news[j]? = some u->w.cell? (ad.add j)=some u)/\(∀u ∈ news,u.oneCell'=true)/\∀j,j<n->news[j]? = some (.int .i64 (f j)):=by
  rcases h.2.2 with h0|⟨b,off,he,hb,hc⟩
  · subst h0;exact⟨[],rfl,fun j u hu=>by simp at hu,fun u hu=>by simp at hu,fun j hj=>by omega⟩
  · obtain rfl := Option.some.inj he; have hg : ∀ j, j < n -> ((List.range n).map fun j => Value.int .i64 (f j))[j]? = some (.int .i64 (f j)) := fun j hj => by rw [List.getElem?_map, List.getElem?_range hj]; rfl
    refine⟨(List.range n).map fun j=>.int .i64 (f j),by simp,fun j u hu => ?_,fun u hu => ?_,hg⟩
    · have hj:j<n:=by
        have:=(List.getElem?_eq_some_iff.1 hu).1
        simpa using this
      rw[hg j hj]at hu;obtain rfl:=Option.some.inj hu;rw[show(⟨b,off,none⟩:Addr).add j=⟨b,off+j,none⟩by simp[Addr.add]];exact hc j hj
    · obtain⟨j,_,rfl⟩:=List.mem_map.1 hu
      rfl
 obtain⟨news,hl,hcell,hone,hrat⟩:=hex;have HC:=Lib.hid hcell;have HO:=Lib.hid hone;have HR:=Lib.hid hrat
 have HL:=Lib.hid hl;have HN:=Lib.hid hn;clear hcell hone hrat hl h hn;go_enter Tryz.func100,Tryz.ntmps100
 go_wp2_with (at_builtin;refine wpList_append_own _ rfl _ _ 22 rfl w.heap.size 3 i0 _ 1 8 Tryz.underlying22 hi hz0 hz1 hz2 rfl (by omega) _ _ _ rfl (World.ownsRow_made w #[] 0 (Nat.le_refl _) (Nat.zero_le _) (by simp)) ad n c news rfl ?qc1 ?qc2 ?qc3 ?qc4 ?qc5 ?qc6 ?_)
 case qc1=>exact HL.out
 case qc2=>exact fun j u hj=>Lib.cell?_alloc_some _ (HC.out j u hj)
 case qc3=>exact HO.out
 case qc4=>have:=HN.out;unfold maxLen;omega
 case qc5=>have:=HN.out;omega
 case qc6=>simp
 intro v' w1 hown hgrow hnil;have hb:Below w.heap.size w w1:=((Below.refl _ w).alloc (Nat.le_refl _) _).grown hgrow (by simp) (by intro k hk;simp[Value.ownBlock]at hk;omega)
 have HE:Hid (∃g c',v'=.slice (some ⟨g,0,none⟩) n c'/\w.heap.size<=g/\g<w1.heap.size/\KRow w1 .i64 (some ⟨g,0,none⟩) n c' f):=by
  rcases hown.2 with ⟨e0,h0⟩|⟨g,cap,cur,rfl,hge,hh,h1,h2,_,hcs⟩
  · exact absurd e0 (by first|exact hnil|(intro e1;have:=(hnil.1 e1).1;cases this))
  · try rw[Nat.zero_add]at h1
    refine⟨g,cap,by first|rfl|rw[Nat.zero_add],hge,Row.lt (t:=3) hh,h1,h2,.inr ⟨g,0,rfl,Row.lt (t:=3) hh,fun j hj => ?_⟩⟩;have:=hown.cells (g:=g) rfl j _ (by first|exact HR.out j hj|(rw[List.nil_append];exact HR.out j hj))
    rwa [show(⟨g,0,none⟩:Addr).add j=⟨g,0+j,none⟩by unfold Addr.add;split<;>simp_all]at this
 have HB:=Lib.hid hb;clear hown hgrow hnil hb;go_wp2;go_ret;obtain⟨g,c',rfl,hr⟩:=HE.out;exact⟨g,c',rfl,hr.1,hr.2.1,hr.2.2,HB.out⟩
theorem shape_new (cs : Array Value) (S : Nat -> Int) (r : Nat) (ch : Bool) (L : Nat) (g fP : Nat -> Int) (fQ : Nat -> Nat) (w : World) (h : Arr w cs S r ch L g fP fQ) (hr : r <= 8) :
    Calls Tryz.prog 39 #[.agg cs] w fun e w'=>∃g c',e=.returned (.slice (some ⟨g,0,none⟩) r c')/\w.heap.size<=g/\g<w'.heap.size/\KRow w' .i64 (some ⟨g,0,none⟩) r c' S/\Below w.heap.size w w':=by
 obtain⟨na,nn,nc,ta,tn,tc,rfl,_⟩:=h.form;have RK:=Lib.hid (fun wz=>rank_any ch (dm S r) r na nn nc ta tn tc wz (by omega));have CL:=Lib.hid (fun a c wz h=>cloneI_some a r c S wz h (by omega));have BB:=Lib.hid ((Bag.start w).newRow (arrC ch ((r:Int)-1) (dm S r) na nn nc ta tn tc) 36);have HR:=Lib.hid BB.out.now.1;have h0:(0:Int)<=r:=by omega
 have h8:(r:Int)<=8:=by omega
 clear h;unfold arrC;go_enter Tryz.func39,Tryz.ntmps39
 go_wp2_with (refine ld_arr rfl (.tmp 1) rfl w.heap.size rfl HR.out ?_)
 go_at_call 101;refine(RK.out _).mono ?_;rintro e w2 ⟨rfl,hb2⟩;have BB:=bgo BB hb2;clear hb2;go_wp2_with fail;go_at_call 100
 refine(CL.out _ _ _ ?_).mono ?_
 · exact KRow.of_box BB.out.now.1 hr
 rintro e w3 ⟨g3,c3,rfl,hg3,hg4,hk3,hb3⟩;have HE:Hid (w.heap.size<=g3/\g3<w3.heap.size/\KRow w3 .i64 (some ⟨g3,0,none⟩) r c3 S/\Below w.heap.size w w3):=⟨Nat.le_trans BB.out.below.size hg3,hg4,hk3,(BB.out.go hb3).below⟩
 clear hk3 hb3 hg3 hg4;go_wp2;go_ret;exact⟨_,_,rfl,HE.out⟩
end Go.Proofs.YtdmmenaejkpnjaaGreatDoor
namespace Go.Proofs.YtdmmenaejkpnjaaGreatDoor
open Go.RowKit
attribute [local go_sem ↓] Go.wp_at_zero Go.wp_at_succ
def pkE(T:Nat->Int)(r:Nat):Int:=if shB T r then 0 else 26
def lnF(N:Nat->Nat):Nat->Int:=fun j=>(N j:Int)
theorem infoL:(Tryz.prog.info? 22).map (fun i=>(i.zero,i.size,i.bytes))=some (some (.slice none 0 0),1,24):=by kernel_rfl
end Go.Proofs.YtdmmenaejkpnjaaGreatDoor
namespace Go.Proofs.YtdmmenaejkpnjaaGreatDoor
open Go.RowKit
def spF(d st:Nat->Int):Nat->Int
 | 0=>0
 | n+1=>spF d st n+d n*st n
theorem sp_congr{d d' st st':Nat->Int}:∀ {n:Nat},(∀j,j<n->d j=d' j/\st j=st' j)->spF d st n=spF d' st' n
 | 0,_=>rfl
 | n+1,h=>by
  show spF d st n+d n*st n=spF d' st' n+d' n*st' n
  rw[sp_congr (fun j hj=>h j (by omega)),(h n (by omega)).1,(h n (by omega)).2]
theorem sp_mul{d st:Nat->Int}(c:Int):∀n,spF d (fun j=>st j*c) n=spF d st n*c
 | 0=>by show(0:Int)=0*c;rw[Int.zero_mul]
 | n+1=>by
  show spF d (fun j=>st j*c) n+d n*(st n*c)=(spF d st n+d n*st n)*c
  rw[sp_mul c n,Int.add_mul,Int.mul_assoc]
theorem st_low{S:Nat->Int}{n j:Nat}(hj:j<n):stF S (n+1) j=stF S n j*S n:=by
 show itm (shf S (j+1)) (n+1-(j+1))=itm (shf S (j+1)) (n-(j+1))*S n
 rw[show n+1-(j+1)=(n-(j+1))+1 by omega]
 show itm (shf S (j+1)) (n-(j+1))*S (j+1+(n-(j+1)))=_
 rw[show j+1+(n-(j+1))=n by omega]
theorem st_top(S:Nat->Int)(n:Nat):stF S (n+1) n=1:=by
 show itm (shf S (n+1)) (n+1-(n+1))=1
 rw[Nat.sub_self];rfl
theorem sp_plc(S d:Nat->Int):∀n,spF d (stF S n) n=plc S d n
 | 0=>rfl
 | n+1=>by
  show spF d (stF S (n+1)) n+d n*stF S (n+1) n=plc S d n*S n+d n
  rw[st_top,Int.mul_one,sp_congr (d':=d) (st':=fun j=>stF S n j*S n) (fun j hj=>⟨rfl,st_low hj⟩),sp_mul,sp_plc S d n]
def cbF(T:Nat->Nat)(F:Nat->Nat->Int)(st:Nat->Int):Nat->Nat->Int
 | 0,_=>0
 | i+1,k=>cbF T F st i (k / T i)+F i (k%T i)*st i
theorem cb_sp {T : Nat -> Nat} {F : Nat -> Nat -> Int} {st : Nat -> Int} : ∀ (n k : Nat), cbF T F st n k = spF (pkI F (dgs (lnF T) n (k : Nat))) st n
 | 0,_=>rfl
 | n+1,k=>by
  show cbF T F st n (k / T n)+F n (k%T n)*st n=spF (pkI F (dgs (lnF T) (n+1) (k:Nat))) st n+F n (dgs (lnF T) (n+1) (k:Nat) n).toNat*st n
  have e0:(lnF T n)=((T n:Nat):Int):=rfl
  have e1:spF (pkI F (dgs (lnF T) (n+1) (k:Nat))) st n=spF (pkI F (dgs (lnF T) n ((k / T n:Nat):Int))) st n:=sp_congr (fun j hj=>⟨by
   show F j (dgs (lnF T) (n+1) (k:Nat) j).toNat=F j (dgs (lnF T) n ((k / T n:Nat):Int) j).toNat
   rw[dgs_low _ hj,e0,← Int.natCast_ediv],rfl⟩)
  rw[e1,dgs_top,e0,show(((k:Nat):Int)%((T n:Nat):Int)).toNat=k%T n by rw[← Int.natCast_emod];rfl,cb_sp n (k / T n)]
theorem cb_step{T:Nat->Nat}{F:Nat->Nat->Int}{st:Nat->Int}{i k m:Nat}(hm:m<T i):cbF T F st (i+1) (k*T i+m)=cbF T F st i k+F i m*st i:=by
 show cbF T F st i ((k*T i+m) / T i)+F i ((k*T i+m)%T i)*st i=_
 rw[(wv_dm hm).1,(wv_dm hm).2]
def InAx(S:Nat->Int)(T:Nat->Nat)(F:Nat->Nat->Int)(n:Nat):Prop:=∀j,j<n->∀q,q<T j->0<=F j q/\F j q<S j
theorem ia_in{S:Nat->Int}{T:Nat->Nat}{F:Nat->Nat->Int}{n k:Nat}(h:InAx S T F n)(hT:axB (lnF T) n=true)(hk:(k:Int)<itm (lnF T) n):inB S (pkI F (dgs (lnF T) n (k:Nat))) n=true:=by
 have h1:=itm_pos hT (show(0:Int)<=(k:Nat)by omega) hk;obtain⟨h2,_⟩:=dgs_in h1 (show(0:Int)<=(k:Nat)by omega) hk
 have e:∀m,m<=n->inB S (pkI F (dgs (lnF T) n (k:Nat))) m=true:=fun m=>by
  induction m with
  | zero=>intro _;rfl
  | succ m ih =>
   intro hm;have h3:=inB_at h2 (show m<n by omega);have h4:=h m (by omega) (dgs (lnF T) n (k:Nat) m).toNat (by have:lnF T m=(T m:Int):=rfl;omega)
   show(inB S _ m&&(decide (0<=F m _)&&decide (F m _<S m)))=true
   rw[ih (by omega),decide_eq_true h4.1,decide_eq_true h4.2];rfl
 exact e n (Nat.le_refl _)
theorem cb_pk{S:Nat->Int}{T:Nat->Nat}{F:Nat->Nat->Int}{n k:Nat}(h:InAx S T F n)(hT:axB (lnF T) n=true)(hk:(k:Int)<itm (lnF T) n):cbF T F (stF S n) n k=pkG S (lnF T) n F k:=by
 unfold pkG;rw[if_pos (ia_in h hT hk),cb_sp,sp_plc]
theorem cb_bd{T:Nat->Nat}{F:Nat->Nat->Int}{st:Nat->Int}:∀ {n:Nat} (k:Nat),(∀j,j<n->0<T j)->(∀j,j<n->0<=st j/\st j<=4096)->(∀j,j<n->∀q,q<T j->0<=F j q/\F j q<=4096)->0<=cbF T F st n k/\cbF T F st n k<=(n:Int)*16777216
 | 0,_,_,_,_=>by show(0:Int)<=0/\(0:Int)<=((0:Nat):Int)*16777216;omega
 | n+1,k,h0,h1,h2=>by
  obtain⟨i1,i2⟩:=cb_bd (n:=n) (k / T n) (fun j hj=>h0 j (by omega)) (fun j hj=>h1 j (by omega)) (fun j hj=>h2 j (by omega));obtain⟨f1,f2⟩:=h2 n (by omega) (k%T n) (Nat.mod_lt _ (h0 n (by omega)));obtain⟨s1,s2⟩:=h1 n (by omega);have h3:0<=F n (k%T n)*st n:=Int.mul_nonneg f1 s1;have h4:F n (k%T n)*st n<=4096*4096:=Int.mul_le_mul f2 s2 s1 (by omega)
  show 0<=cbF T F st n (k / T n)+F n (k%T n)*st n/\cbF T F st n (k / T n)+F n (k%T n)*st n<=((n+1:Nat):Int)*16777216
  push_cast
  omega
theorem ax_ln{T:Nat->Nat}{n i:Nat}(h:axB (lnF T) n=true)(hi:i<n):∃M:Nat,itm (lnF T) i=(M:Nat)/\itm (lnF T) (i+1)=((M*T i:Nat):Int)/\M<=4096/\M*T i<=4096/\T i<=4096:=by
 have h1:=ax_bd (ax_le (show i<=n by omega) h);have h2:=ax_bd (ax_le (show i+1<=n by omega) h);have e:itm (lnF T) (i+1)=itm (lnF T) i*(T i:Int):=rfl;have h3:=rm_pos (lnF T) i;have h4:1*max (lnF T i) 1<=rm (lnF T) i*max (lnF T i) 1:=Int.mul_le_mul h3 (Int.le_refl _) (by omega) (by omega);have h5:rm (lnF T) (i+1)=rm (lnF T) i*max (lnF T i) 1:=rfl;have h6:lnF T i=(T i:Int):=rfl;obtain⟨M,hM⟩:∃M:Nat,itm (lnF T) i=(M:Nat):=⟨(itm (lnF T) i).toNat,by omega⟩
 have e2:itm (lnF T) (i+1)=((M*T i:Nat):Int):=by rw[e,hM,Int.natCast_mul]
 rw[e2]at h2;exact⟨M,hM,e2,by omega,by omega,by omega⟩
def Sb:Type:=Bool × (Nat->Int) × Nat × Bool × Nat × (Nat->Int) × (Nat->Int) × (Nat->Nat)
def Sb.al(d:Sb):Bool:=d.1
def Sb.S(d:Sb):Nat->Int:=d.2.1
def Sb.r(d:Sb):Nat:=d.2.2.1
def Sb.ch(d:Sb):Bool:=d.2.2.2.1
def Sb.L(d:Sb):Nat:=d.2.2.2.2.1
def Sb.g(d:Sb):Nat->Int:=d.2.2.2.2.2.1
def Sb.P(d:Sb):Nat->Int:=d.2.2.2.2.2.2.1
def Sb.Q(d:Sb):Nat->Nat:=d.2.2.2.2.2.2.2
def Sb.ok(d:Sb):Prop:=shB d.S d.r=true/\itm d.S d.r=(d.L:Nat)/\d.L<=4096/\(d.ch=false->∀j,j<d.L->0<d.Q j)
def Sb.n(d:Sb)(s:Int):Nat:=if d.al then s.toNat else d.L
def Sb.F(d:Sb)(o:Int)(q:Nat):Int:=if d.al then(q:Int)else d.P q-o
def Sb.k(d:Sb):Nat:=if d.al then 1 else d.r
def Sb.T(d:Sb)(s:Int):Nat->Int:=if d.al then fun _=>s else d.S
def Sb.wh(d:Sb):Bool:=d.al||whC d.ch d.L d.P d.Q
def inAll(o s:Int)(P:Nat->Int):Nat->Bool
 | 0=>true
 | k+1=>inAll o s P k&&(decide (o<=P k)&&decide (P k-o<s))
def Sb.is(d:Sb)(o s:Int):Bool:=d.al||inAll o s d.P d.L
theorem inAll_iff {o s : Int} {P : Nat -> Int} : ∀ {n : Nat}, inAll o s P n = true ↔ ∀ j, j < n -> o <= P j /\ P j - o < s
 | 0=>⟨fun _ j hj=>absurd hj (Nat.not_lt_zero _),fun _=>rfl⟩
 | n+1=>by
  constructor
  · intro h j hj;have h:(inAll o s P n&&(decide (o<=P n)&&decide (P n-o<s)))=true:=h;rw[Bool.and_eq_true,Bool.and_eq_true,decide_eq_true_eq,decide_eq_true_eq]at h
    by_cases e:j=n
    · subst e;exact h.2
    · exact inAll_iff.1 h.1 j (by omega)
  · intro h
    show(inAll o s P n&&(decide (o<=P n)&&decide (P n-o<s)))=true
    rw[inAll_iff.2 (fun j hj=>h j (by omega)),decide_eq_true (h n (by omega)).1,decide_eq_true (h n (by omega)).2];rfl
def allB(p:Nat->Bool):Nat->Bool
 | 0=>true
 | k+1=>allB p k&&p k
theorem allB_iff {p : Nat -> Bool} : ∀ {n : Nat}, allB p n = true ↔ ∀ j, j < n -> p j = true
 | 0=>⟨fun _ j hj=>absurd hj (Nat.not_lt_zero _),fun _=>rfl⟩
 | n+1=>by
  constructor
  · intro h j hj;have h:(allB p n&&p n)=true:=h;rw[Bool.and_eq_true]at h
    by_cases e:j=n
    · subst e;exact h.2
    · exact allB_iff.1 h.1 j (by omega)
  · intro h
    show(allB p n&&p n)=true
    rw[allB_iff.2 (fun j hj=>h j (by omega)),h n (by omega)];rfl
theorem allB_no{p:Nat->Bool}{n k:Nat}(hk:k<n)(h:p k=false):allB p n=false:=by
 cases hx:allB p n with
 | false=>rfl
 | true=>rw[allB_iff.1 hx k hk]at h;cases h
def ixN(S:Nat->Int)(D:Nat->Sb):Nat->Nat:=fun j=>(D j).n (S j)
def ixF(o:Int)(D:Nat->Sb):Nat->Nat->Int:=fun j q=>(D j).F o q
def ixK(D:Nat->Sb):Nat->Nat:=fun j=>(D j).k
def ixS(S:Nat->Int)(D:Nat->Sb):Nat->Nat->Int:=fun j=>(D j).T (S j)
def ixR(D:Nat->Sb)(n:Nat):Nat:=tot (ixK D) n
def ixT(S:Nat->Int)(D:Nat->Sb)(n:Nat):Nat->Int:=cat (ixK D) (ixS S D) n
def ixE(o:Int)(S:Nat->Int)(r:Nat)(D:Nat->Sb)(n:Nat):Int :=
 if n≠r then 23 else if allB (fun j=>(D j).wh) n=false then 22 else if allB (fun j=>(D j).is o (S j)) n=false then 25 else if 8<ixR D n then 23 else pkE (ixT S D n) (ixR D n)
theorem app_parts(f:Nat->Int)(n:Nat)(g:Nat->Int)(m:Nat):(∀j,j<n->app f n g j=f j)/\∀j,j<m->shf (app f n g) n j=g j :=
 ⟨fun j hj=>by unfold app;rw[if_pos hj],fun j _=>by
   show app f n g (n+j)=g j
   unfold app
   rw[if_neg (by omega),show n+j-n=j by omega]⟩
theorem itm_app(f:Nat->Int)(n:Nat)(g:Nat->Int)(m:Nat):itm (app f n g) (n+m)=itm f n*itm g m:=by
 obtain⟨h1,h2⟩:=app_parts f n g m;rw[itm_add,itm_congr h1,itm_congr h2]
theorem rm_app(f:Nat->Int)(n:Nat)(g:Nat->Int)(m:Nat):rm (app f n g) (n+m)=rm f n*rm g m:=by
 obtain⟨h1,h2⟩:=app_parts f n g m;rw[rm_add,rm_congr h1,rm_congr h2]
theorem Sb.rooms{d:Sb}(h:d.ok){s:Int}(hs:0<=s):itm (d.T s) d.k=((d.n s:Nat):Int)/\max ((d.n s:Nat):Int) 1<=rm (d.T s) d.k/\∀j,j<d.k->0<=d.T s j:=by
 unfold Sb.T Sb.k Sb.n
 cases d.al with
 | true =>
  rw[if_pos rfl,if_pos rfl,if_pos rfl]
  refine⟨?_,?_,fun j _=>hs⟩
  · show 1*s=_;omega
  · show _<=1*max s 1;omega
 | false =>
  rw[if_neg (by decide),if_neg (by decide),if_neg (by decide)];obtain⟨h1,h2,_⟩:=h;have h3:=ax_bd (sh_ax h1).2;exact⟨h2,by omega,fun j hj=>ax_nn (sh_ax h1).2 hj⟩
theorem ix_rooms{S:Nat->Int}{D:Nat->Sb}:∀ {n:Nat},(∀j,j<n->(D j).ok/\0<=S j)->itm (ixT S D n) (ixR D n)=itm (lnF (ixN S D)) n/\rm (lnF (ixN S D)) n<=rm (ixT S D n) (ixR D n)/\∀j,j<ixR D n->0<=ixT S D n j
 | 0,_=>⟨rfl,Int.le_refl _,fun j hj=>absurd hj (Nat.not_lt_zero _)⟩
 | n+1,h=>by
  obtain⟨i1,i2,i3⟩:=ix_rooms (n:=n) (fun j hj=>h j (by omega));obtain⟨h1,h2,h3⟩:=Sb.rooms (h n (by omega)).1 (h n (by omega)).2;have e:ixT S D (n+1)=app (ixT S D n) (ixR D n) ((D n).T (S n)):=rfl;have e2:ixR D (n+1)=ixR D n+(D n).k:=rfl;have e3:itm (lnF (ixN S D)) (n+1)=itm (lnF (ixN S D)) n*(((D n).n (S n):Nat):Int):=rfl;have e4:rm (lnF (ixN S D)) (n+1)=rm (lnF (ixN S D)) n*max (((D n).n (S n):Nat):Int) 1:=rfl;rw[e,e2,itm_app,rm_app,e3,e4,i1,h1];refine⟨rfl,Int.mul_le_mul i2 h2 (by omega) (by have:=rm_pos (ixT S D n) (ixR D n);omega),fun j hj => ?_⟩;unfold app
  split
  · exact i3 j (by assumption)
  · exact h3 _ (by omega)
theorem ix_ax{S:Nat->Int}{D:Nat->Sb}{n:Nat}(h:∀j,j<n->(D j).ok/\0<=S j)(hT:shB (ixT S D n) (ixR D n)=true):axB (lnF (ixN S D)) n=true/\itm (ixT S D n) (ixR D n)=itm (lnF (ixN S D)) n:=by
 obtain⟨h1,h2,_⟩:=ix_rooms h;have h3:=(ax_iff.1 (sh_ax hT).2).2;exact⟨ax_iff.2 ⟨fun j _=>by show(0:Int)<=((ixN S D j:Nat):Int);omega,by omega⟩,h1⟩
theorem ix_in{o:Int}{S:Nat->Int}{D:Nat->Sb}{n:Nat}(h:allB (fun j=>(D j).is o (S j)) n=true):InAx S (ixN S D) (ixF o D) n:=fun j hj q hq=>by
 have h1:=allB_iff.1 h j hj;unfold ixF Sb.F;unfold ixN Sb.n at hq;unfold Sb.is at h1
 cases hx:(D j).al with
 | true =>
  rw[hx]at hq;rw[if_pos rfl]at hq ⊢
  omega
 | false =>
  rw[hx]at hq h1;rw[if_neg (by decide)]at hq ⊢;rw[Bool.false_or]at h1;have:=inAll_iff.1 h1 q hq
  omega
def OwnI(y0 w:World)(a:Option Addr)(k c:Nat)(f:Nat->Int):Prop:=Below y0.heap.size y0 w/\w.ownsRow y0.heap.size 3 1 (.slice a k c) k (kcs .i64 f k)
theorem OwnI.nil(y0:World)(f:Nat->Int):OwnI y0 y0 none 0 0 f:=⟨Below.refl _ _,World.ownsRow_nil _ _ _ _⟩
theorem OwnI.go{y0 w w':World}{a:Option Addr}{k c:Nat}{f:Nat->Int}(h:OwnI y0 w a k c f)(hb:Below w.heap.size w w'):OwnI y0 w' a k c f:=⟨h.1.trans (hb.mono h.1.size),own_below h.2 hb⟩
theorem OwnI.krow{y0 w:World}{a:Option Addr}{k c:Nat}{f:Nat->Int}(h:OwnI y0 w a k c f):KRow w .i64 a k c f:=by
 obtain⟨a',c',e,q⟩:=KRow.of_own h.2
 cases e
 exact q
theorem app1_step {y0 wr : World} {a : Option Addr} {k c : Nat} {f : Nat -> Int} (h : OwnI y0 wr a k c f) {x : Int} (hx : x = f k) (hk : k + 1 <= 1000000) :
    ∃a' c' y1,(Builtin.append_ #[22,22] 22 #[.slice a k c,.slice (some ⟨wr.heap.size,0,none⟩) 1 1]).run Tryz.prog (wr.alloc (.cells #[.int .i64 x] 3))=.ok (.slice a' (k+1) c') y1/\OwnI y0 y1 a' (k+1) c' f:=by
 have hb:Below wr.heap.size wr (wr.alloc (.cells #[.int .i64 x] 3)):=(Below.refl _ _).alloc (Nat.le_refl _) _;have h2:=own_below h.2 hb;obtain⟨v',w',e1,e2,e3⟩:=run_append_krow 22 y0.heap.size (.slice a k c) k _ h2 (some ⟨wr.heap.size,0,none⟩) 1 1 (fun _=>x) (KRow.one' wr .i64 x 3) (fun e=>by cases e) hk (by have:=h.1.size;rw[World.size_alloc];omega);have e4:kcs .i64 f k++kcs .i64 (fun _=>x) 1=kcs .i64 f (k+1):=by rw[hx];rfl
 rw[e4]at e2;obtain⟨a',c',rfl,_⟩:=KRow.of_own e2;refine⟨a',c',w',e1,?_,e2⟩;refine(h.1.trans (hb.mono h.1.size)).trans ⟨e3.os,e3.tape,e3.output,e3.size,fun j hj=>e3.block j (Nat.lt_of_lt_of_le hj (by have:=h.1.size;rw[World.size_alloc];omega)) (fun e => ?_)⟩;have:=(h2.lt j e.symm).1
 omega
theorem wh_eq(ch:Bool)(L:Nat)(fP:Nat->Int)(fQ:Nat->Nat):(decide (tnO ch L=0)&&whB fP fQ (nnO ch L))=whC ch L fP fQ:=by
 cases ch with
 | true=>show(decide (L=0)&&true)=decide (L=0);rw[Bool.and_true]
 | false=>rfl
theorem wh_nn{ch:Bool}{L:Nat}{fP:Nat->Int}{fQ:Nat->Nat}(h:whC ch L fP fQ=true):nnO ch L=L:=by
 cases ch with
 | true=>have:L=0:=of_decide_eq_true h;subst this;rfl
 | false=>rfl
theorem nnO_le(ch:Bool)(L:Nat):nnO ch L<=L/\tnO ch L<=L:=by unfold nnO tnO;cases ch<;>simp
theorem Pln.put{w:World}{cs:Array Value}{S:Nat->Int}{r:Nat}{ch:Bool}{L:Nat}{g:Nat->Int}{fB:Nat->Bool}{fS fT:Nat->ByteArray}(h:Pln w cs S r ch L g fB fS fT){k:Nat}{t:TypeId}(hr:Row w k t plZer)(cs':Array Value):Pln (w.setRow k cs') cs S r ch L g fB fS fT:=PlnAt.away h hr (noInt_pl _ _ _ _ _ _ _ _ _ _) (noStr_pl _ _ _ _ _ _ _ _ _ _) (Far.setRow _ _ _)
def PoTold(E:Int)(S:Nat->Int)(r:Nat)(ch:Bool)(L:Nat)(g:Nat->Int)(fB:Nat->Bool)(fS fT:Nat->ByteArray)(w w':World)(e:Ending):Prop :=
 ∃cs,e=.returned (.tuple #[.agg cs,.int .i64 E])/\(E=0->Pln w' cs S r ch L g fB fS fT)/\(E≠0->cs=plZer)/\Below w.heap.size w w'
theorem PoTold.no{E:Int}(hE:E≠0){S:Nat->Int}{r:Nat}{ch:Bool}{L:Nat}{g:Nat->Int}{fB:Nat->Bool}{fS fT:Nat->ByteArray}{w w':World}(hb:Below w.heap.size w w'):PoTold E S r ch L g fB fS fT w w' (.returned (.tuple #[.agg plZer,.int .i64 E])) :=
 ⟨plZer,rfl,fun e=>absurd e hE,fun _=>rfl,hb⟩
theorem PoTold.yes{S:Nat->Int}{r:Nat}{ch:Bool}{L:Nat}{g:Nat->Int}{fB:Nat->Bool}{fS fT:Nat->ByteArray}{w w':World}{cs:Array Value}(h:Pln w' cs S r ch L g fB fS fT)(hb:Below w.heap.size w w'):PoTold 0 S r ch L g fB fS fT w w' (.returned (.tuple #[.agg cs,.int .i64 0])) :=
 ⟨cs,rfl,fun _=>h,fun e=>absurd rfl e,hb⟩
theorem Pln.form{w:World}{cs:Array Value}{S:Nat->Int}{r:Nat}{ch:Bool}{L:Nat}{g:Nat->Int}{fB:Nat->Bool}{fS fT:Nat->ByteArray}(h:Pln w cs S r ch L g fB fS fT):∃sa sc ta tc na nc,cs=plC sa r sc ch ta (tnO ch L) tc na (nnO ch L) nc/\KRow w .i64 sa r sc S:=by
 obtain⟨sa,sc,ta,tc,na,nc,e,h1,_⟩:=h;exact⟨sa,sc,ta,tc,na,nc,e,h1⟩
theorem res_pln2 {fn : Func} {p q : Tmp} {tmps : Array Value} {w : World} {g : Nat} {cs : Array Value} {v : Value} (h : fn.results = #[.cell p 26, .tmp q]) (hp : tmps.getD p undef = .pointer (some ⟨g, 0, none⟩)) (hq : tmps.getD q undef = v) (hg : Row w g 26 cs) (hs : cs.size = 4) :
    (results fn tmps).run Tryz.prog w=.ok (.tuple #[.agg cs,v]) w:=by
 have hp':tmps[p]?.getD undef=.pointer (some ⟨g,0,none⟩):=by simpa using hp
 have hq':tmps[q]?.getD undef=v:=by simpa using hq
 simp[results,h,hp',hq',asAddr,run_loadVar_row w g 26 26 cs (0,0) _ hg Tryz.underlying26 rfl (by rw[pln4,hs])]
def sls(A:Nat->Option Addr)(C:Nat->Nat)(L:Nat):Nat->List Value
 | 0 => []
 | k+1=>sls A C L k ++ [.slice (A k) L (C k)]
theorem sls_length(A:Nat->Option Addr)(C:Nat->Nat)(L:Nat):∀k,(sls A C L k).length=k
 | 0=>rfl
 | k+1=>by unfold sls;rw[List.length_append,sls_length A C L k];rfl
theorem sls_get (A : Nat -> Option Addr) (C : Nat -> Nat) (L : Nat) : ∀ k j, j < k -> (sls A C L k)[j]? = some (.slice (A j) L (C j))
 | 0,j,h=>absurd h (Nat.not_lt_zero _)
 | k+1,j,h=>by
  have hl:=sls_length A C L k;unfold sls
  rcases Nat.lt_or_ge j k with h1|h1
  · rw[List.getElem?_append_left (by omega)];exact sls_get A C L k j h1
  · obtain rfl:j=k:=by omega
    rw[List.getElem?_append_right (by omega),hl,Nat.sub_self]
    rfl
theorem sls_congr{A A':Nat->Option Addr}{C C':Nat->Nat}{L:Nat}:∀ {n:Nat},(∀j,j<n->A j=A' j/\C j=C' j)->sls A C L n=sls A' C' L n
 | 0,_=>rfl
 | n+1,h=>by unfold sls;rw[sls_congr (fun j hj=>h j (by omega)),(h n (by omega)).1,(h n (by omega)).2]
theorem infoS:(Tryz.prog.info? 22).map (fun i=>(i.zero,i.size,i.bytes))=some (some (.slice none 0 0),1,24):=by kernel_rfl
theorem add_zero0(g j:Nat):(⟨g,0,none⟩:Addr).add j=⟨g,0+j,none⟩:=by unfold Addr.add;split<;>simp_all
theorem step_append_run9 {P : Program} (w : World) {ops : Array Oper} {o : Oper} {a : Act} {K : Act -> World -> Prop} {Q : Exit -> Act -> World -> Prop} {E : Prop} (hgd : o.guard = none) (s x : Operand) (t tn : TypeId)
    (ho:o.op=.call { callee:=.builtin .append,args:=#[s,x],argTypes:=#[t,tn] }) (vs vx:Value) (hs:a.eval s=vs) (hx:a.eval x=vx)
    (v':Value) (w':World) (hr:(Builtin.append_ #[t,tn] o.type #[vs,vx]).run P w=.ok v' w') (h:K (a.put o.dst v') w'):if Region.wanted o (yielded ops a.tmps)=true then Oper.wp P o a w K Q else E:=by
 have hw:Region.wanted o (yielded ops a.tmps)=true:=by simp[Region.wanted,hgd]
 rw[if_pos hw];exact Lib.wp_append_run w s x t tn ho vs vx hs hx v' w' hr h
theorem rplk_any (a : Option Addr) (n c : Nat) (f : Nat -> Int) (a2 : Option Addr) (c2 : Nat) (g : Nat -> Int) (w : World) (h : KRow w .i64 a n c f) (h2 : KRow w .i64 a2 n c2 g) (hax : axB f n = true) :
    Calls Tryz.prog 108 #[.slice a n c,.slice a2 n c2] w fun e w'=>e=.returned (.int .i64 (if inB f g n then plc f g n else -1))/\Below w.heap.size w w' :=
 (r6Place_any a n c f a2 n c2 g w h h2).mono (by
   rintro e w' ⟨x,rfl,h0,h1,hb⟩;rw[Nat.min_self]at h0 h1;refine⟨?_,hb⟩
   cases hq:inB f g n with
   | true=>rw[h1 hax hq,if_pos rfl]
   | false=>rw[h0 hq,if_neg (by decide)])
theorem append_none1{P:Program}{w:World}(base:Nat)(t e:TypeId)(i:TypeInfo)(size:Nat)(ht:P.underlying t=some (.slice e))(hi:P.info? e=some i)(v:Value)(n:Nat)(xs:List Value)(c:Nat)(hown:w.ownsRow base e size v n xs):(Builtin.append_ #[t,t] t #[v,.slice none 0 c]).run P w=.ok v w:=by
 rcases hown.2 with ⟨rfl,rfl⟩|⟨g,cap,cur,rfl,_,_,hnc,_⟩
 · simp[Builtin.append_,run_underlying ht,sizeOf,typeInfo,hi,Builtin.lenOf,Builtin.firstCells]
 · simp[Builtin.append_,run_underlying ht,sizeOf,typeInfo,hi,Builtin.lenOf,Builtin.firstCells,hnc,storeCells]
theorem kcs_app1(ki:IntKind){F f g:Nat->Int}{k:Nat}(h1:∀j,j<k->F j=f j){m:Nat}(h2:∀j,j<m->F (k+j)=g j):kcs ki f k++kcs ki g m=kcs ki F (k+m):=by
 rw[← kcs_app];refine kcs_congr fun j hj => ?_
 unfold app
 by_cases e:j<k
 · rw[if_pos e,h1 j e]
 · rw[if_neg e,← h2 (j-k) (by omega)];congr 1;omega
theorem KRow.ofRow1{w:World}{g:Nat}{t:TypeId}{ki:IntKind}{x:Int}(h:Row w g t #[.int ki x]):KRow w ki (some ⟨g,0,none⟩) 1 1 (fun _=>x):=by
 refine⟨Nat.le_refl _,by unfold maxLen;omega,.inr ⟨g,0,rfl,h.lt,fun j hj => ?_⟩⟩;obtain rfl:j=0:=by omega
 exact h.cell 0
theorem ownI_more {y0 wr : World} {a a2 : Option Addr} {k c m c2 N : Nat} {f g F : Nat -> Int} (h : OwnI y0 wr a k c f) (h2 : KRow wr .i64 a2 m c2 g) (hN : k + m = N) (hm : N <= 1000000) (e1 : ∀ j, j < k -> F j = f j) (e2 : ∀ j, j < m -> F (k + j) = g j) :
    ∃a' c' y1,(Builtin.append_ #[22,22] 22 #[.slice a k c,.slice a2 m c2]).run Tryz.prog wr=.ok (.slice a' N c') y1/\OwnI y0 y1 a' N c' F/\wr.grownBy y1 (Value.slice a k c).ownBlock:=by
 obtain⟨i0,hi,hz0,hz1,hz2⟩:=info_parts infoI;have hs0:=h.1.size;have ek:=kcs_app1 .i64 e1 e2;subst hN
 cases a2 with
 | none =>
  have hm:m=0:=by
   rcases h2.2.2 with h|⟨_,_,h,_⟩
   · exact h
   · cases h
  subst hm;have ho:=h.2;rw[show kcs .i64 g 0 = []from rfl,List.append_nil]at ek;rw[ek]at ho;exact⟨_,_,_,append_none1 y0.heap.size _ 3 i0 1 Tryz.underlying22 hi _ _ _ c2 ho,⟨h.1,ho⟩,rfl,rfl,rfl,Nat.le_refl _,fun _ _ _=>rfl⟩
 | some ad =>
  obtain⟨v',w',r1,r2,r3⟩:=run_append_krow 22 y0.heap.size _ k _ h.2 (some ad) m c2 g h2 (fun e=>by cases e) hm hs0;rw[ek]at r2;obtain⟨a',c',rfl,_⟩:=KRow.of_own r2;exact⟨a',c',w',r1,⟨h.1.grown r3 (by omega) (fun q hq=>(h.2.lt q hq).1),r2⟩,r3⟩
theorem step_ownI {ops : Array Oper} {o : Oper} {a : Act} {K : Act -> World -> Prop} {Q : Exit -> Act -> World -> Prop} {E : Prop} {y0 wr : World} (hgd : o.guard = none) (s x : Operand)
    (ho:o.op=.call { callee:=.builtin .append,args:=#[s,x],argTypes:=#[22,22] }) (hot:o.type=22) {a0 a2:Option Addr} {k c m c2 N:Nat} {f g F:Nat->Int} (hs:a.eval s=.slice a0 k c) (hx:a.eval x=.slice a2 m c2)
    (h:OwnI y0 wr a0 k c f) (h2:KRow wr .i64 a2 m c2 g) (hN:k+m=N) (hm:N<=1000000) (e1:∀j,j<k->F j=f j) (e2:∀j,j<m->F (k+j)=g j)
    (hK:∀a' c' y1,OwnI y0 y1 a' N c' F->wr.grownBy y1 (Value.slice a0 k c).ownBlock->K (a.put o.dst (.slice a' N c')) y1):if Region.wanted o (yielded ops a.tmps)=true then Oper.wp Tryz.prog o a wr K Q else E:=by
 obtain⟨a',c',y1,r1,r2,r3⟩:=ownI_more h h2 hN hm e1 e2;exact step_append_run9 wr hgd s x _ _ ho _ _ hs hx _ _ (by rw[hot];exact r1) (hK a' c' y1 r2 r3)
theorem ownI_new(y0 w:World)(f:Nat->Int)(hb:Below y0.heap.size y0 w):OwnI y0 (w.alloc (.cells #[] 3)) (some ⟨w.heap.size,0,none⟩) 0 0 f :=
 ⟨hb.alloc hb.size _,⟨rfl,.inr ⟨w.heap.size,0,#[],rfl,hb.size,heap_alloc_new w _,Nat.le_refl _,Nat.zero_le _,rfl,rfl⟩⟩⟩
end Go.Proofs.YtdmmenaejkpnjaaGreatDoor
namespace Go.Proofs.YtdmmenaejkpnjaaGreatDoor
open Go.RowKit
attribute [local go_sem ↓] Go.wp_at_zero Go.wp_at_succ
def RowSt(y0 wr:World)(R:Nat->Nat->Int)(i cnt:Nat)(v:Value):Prop :=
 Below y0.heap.size y0 wr/\∃A C,wr.ownsRow y0.heap.size 22 1 v cnt (sls A C (i+1) cnt)/\∀r,r<cnt->KRow wr .i64 (A r) (i+1) (C r) (R r)/\∃g,A r=some ⟨g,0,none⟩
theorem RowSt.nought(y0:World)(R:Nat->Nat->Int)(i:Nat):RowSt y0 y0 R i 0 (.slice none 0 0):=⟨Below.refl _ _,fun _=>none,fun _=>0,World.ownsRow_nil _ _ _ _,fun _ h=>absurd h (Nat.not_lt_zero _)⟩
theorem RowSt.done{y0 wr:World}{R:Nat->Nat->Int}{i cnt:Nat}{v:Value}(h:RowSt y0 wr R i cnt v):∃la lc A C,v=.slice la cnt lc/\LRow wr la cnt lc A (fun _=>i+1) C (fun r=>R r):=by
 obtain⟨_,A,C,ho,hk⟩:=h
 have hA:∀r,r<cnt->A r≠none:=fun r hr e=>by
  obtain⟨g,e2⟩:=(hk r hr).2;rw[e]at e2
  cases e2
 rcases ho.2 with ⟨rfl,rfl⟩|⟨g,cap,cur,rfl,_,hh,h1,h2,_,_⟩
 · exact⟨none,0,A,C,rfl,Nat.le_refl _,Nat.zero_le _,.inl rfl⟩
 · refine⟨some ⟨g,0,none⟩,cap,A,C,rfl,h1,h2,.inr ⟨g,0,rfl,Row.lt (t:=22) hh,fun j hj=>⟨?_,(hk j hj).1,fun e=>absurd e (hA j hj)⟩⟩⟩;have:=ho.cells (g:=g) rfl j _ (sls_get A C (i+1) cnt j hj)
   rwa [show(⟨g,0,none⟩:Addr).add j=⟨g,0+j,none⟩by unfold Addr.add;split<;>simp_all]at this
theorem row_add {y0 wr y3 : World} {R : Nat -> Nat -> Int} {i cnt : Nat} {v : Value} {a2 : Option Addr} {c2 : Nat} (h : RowSt y0 wr R i cnt v) (h7 : OwnI wr y3 a2 (i + 1) c2 (R cnt)) (hcnt : cnt <= 5000) :
    ∃v9 y5,(Builtin.append_ #[97,97] 97 #[v,.slice (some ⟨y3.heap.size,0,none⟩) 1 1]).run Tryz.prog (y3.alloc (.cells #[.slice a2 (i+1) c2] 22))=.ok v9 y5/\RowSt y0 y5 R i (cnt+1) v9:=by
 obtain⟨hbl,A,C,ho,hrows⟩:=h;have hwr:=hbl.size;have g3:=h7.1;have o2:=h7.2;have hk2:=h7.krow;have g4:Below wr.heap.size wr (y3.alloc (.cells #[.slice a2 (i+1) c2] 22)):=g3.alloc g3.size _;have ho4:=own_below ho g4;obtain⟨i0,hi,hz0,hz1,hz2⟩:=info_parts infoS;obtain⟨v9,y5,r3,o3,q3,_⟩:=run_append_own (P:=Tryz.prog) (y3.alloc (.cells #[.slice a2 (i+1) c2] 22)) y0.heap.size 97 97 22 i0 _ 1 24 Tryz.underlying97 hi hz0 hz1 hz2 rfl (by omega) v cnt _ ho4 ⟨y3.heap.size,0,none⟩ 1 1 [.slice a2 (i+1) c2] rfl (World.news_of_block (Row.new y3 22 #[.slice a2 (i+1) c2])) (by intro u hu;simp at hu;subst hu;rfl) (by unfold maxLen;omega) (by omega) (Nat.le_trans hwr g4.size)
 refine⟨v9,y5,r3,(hbl.trans (g4.mono hwr)).grown q3 (Nat.le_trans hwr g4.size) (fun z hz=>(ho4.lt z hz).1),(fun r=>if r=cnt then a2 else A r),(fun r=>if r=cnt then c2 else C r),?_,fun r hr => ?_⟩
 · show y5.ownsRow _ _ _ _ _ (sls _ _ (i+1) cnt ++ [_])
   simp only[if_true];rw[sls_congr (A':=A) (C':=C) (fun j hj=>⟨if_neg (by omega),if_neg (by omega)⟩)];exact o3
 · have far:∀(ad:Option Addr) (cd:Nat) (h:Nat->Int),KRow (y3.alloc (.cells #[.slice a2 (i+1) c2] 22)) .i64 ad (i+1) cd h->(∀b off,ad=some ⟨b,off,none⟩->v.ownBlock≠some b)->KRow y5 .i64 ad (i+1) cd h:=fun ad cd h hkk hne=>by
     refine⟨hkk.1,hkk.2.1,hkk.2.2.imp id ?_⟩;rintro⟨b,off,rfl,hl,hcc⟩;exact⟨b,off,rfl,Nat.lt_of_lt_of_le hl q3.size,fun j hj=>(World.cell?_of_block (a:=⟨b,off+j,none⟩) (q3.block b hl (fun e=>hne b off rfl e.symm))).trans (hcc j hj)⟩
   by_cases e:r=cnt
   · subst e;simp only[if_true];obtain⟨gz,cz,ez,_,_⟩:=o2.form (show 0<i+1 by omega)
     injection ez with ez _ _
     refine⟨far _ _ _ (hk2.below ((Below.refl y3.heap.size y3).alloc (Nat.le_refl _) _)) (fun b off e hb => ?_),gz,ez⟩;have h1:=(ho.lt b hb).2;subst e;have h2:=(o2.lt b rfl).1
     omega
   · simp only[if_neg e];refine⟨far _ _ _ ((hrows r (by omega)).1.below g4) (fun b off e2 hb => ?_),(hrows r (by omega)).2⟩;obtain⟨b',off',e3,hlb,hc3⟩:=(hrows r (by omega)).1.get (show 0<i+1 by omega);obtain⟨gz,ez⟩:=(hrows r (by omega)).2;rw[e2]at e3 ez
     cases e3
     cases ez
     rcases ho.2 with ⟨rfl,_⟩|⟨g,cap,cur,rfl,_,hh,_⟩
     · cases hb
     · have hgb:g=b:=by simpa[Value.ownBlock]using hb
       subst hgb;have h6:=ho.cells (g:=g) rfl 0 _ (sls_get A C (i+1) cnt 0 (by omega));rw[add_zero0,hc3]at h6
       cases h6
theorem step_rowSt {ops : Array Oper} {o : Oper} {a : Act} {K : Act -> World -> Prop} {Q : Exit -> Act -> World -> Prop} {E : Prop} {y0 wr y3 : World} (hgd : o.guard = none) (s x : Operand)
    (ho:o.op=.call { callee:=.builtin .append,args:=#[s,x],argTypes:=#[97,97] }) (hot:o.type=97) {R:Nat->Nat->Int} {i cnt:Nat} {v:Value} {a2:Option Addr} {c2:Nat} (hs:a.eval s=v) (hx:a.eval x=.slice (some ⟨y3.heap.size,0,none⟩) 1 1)
    (h:RowSt y0 wr R i cnt v) (h7:OwnI wr y3 a2 (i+1) c2 (R cnt)) (hcnt:cnt<=5000)
    (hK:∀v9 y5,RowSt y0 y5 R i (cnt+1) v9->K (a.put o.dst v9) y5):if Region.wanted o (yielded ops a.tmps)=true then Oper.wp Tryz.prog o a (y3.alloc (.cells #[.slice a2 (i+1) c2] 22)) K Q else E:=by
 obtain⟨v9,y5,r1,r2⟩:=row_add h h7 hcnt;exact step_append_run9 _ hgd s x _ _ ho _ _ hs hx _ _ (by rw[hot];exact r1) (hK v9 y5 r2)
theorem ix_row{T:Nat->Nat}{F:Nat->Nat->Int}{i k m:Nat}(hm:m<T i):∀j,j<i+1->app (pkI F (dgs (lnF T) i (k:Nat))) i (fun _=>F i m) j=pkI F (dgs (lnF T) (i+1) ((k*T i+m:Nat):Int)) j:=fun j hj=>by
 have e0:lnF T i=((T i:Nat):Int):=rfl;obtain⟨q1,q2⟩:=wv_dm (i:=k) hm;unfold app
 by_cases e:j<i
 · rw[if_pos e]
   show F j (dgs (lnF T) i (k:Nat) j).toNat=F j (dgs (lnF T) (i+1) ((k*T i+m:Nat):Int) j).toNat
   rw[dgs_low _ e,e0,← Int.natCast_ediv,q2]
 · obtain rfl:j=i:=by omega
   rw[if_neg e]
   show F j m=F j (dgs (lnF T) (j+1) ((k*T j+m:Nat):Int) j).toNat
   rw[dgs_top,e0,← Int.natCast_emod,q1]
   rfl
theorem rplaces_any (a : Option Addr) (n c : Nat) (S : Nat -> Int) (aL : Option Addr) (cL : Nat) (A : Nat -> Option Addr) (T C : Nat -> Nat) (F : Nat -> Nat -> Int) (o : Int) (M0 : Nat) (w : World) (h : KRow w .i64 a n c S) (hL : LRow w aL n cL A T C (fun j q => F j q + o)) (hax : axB S n = true) (hT : axB (lnF T) n = true) (hM0 : itm (lnF T) n = (M0 : Nat))
    (hn:n<=8) (hF:∀j,j<n->∀q,q<T j->0<=F j q/\F j q<=4096) :
    Calls Tryz.prog 50 #[.slice a n c,.slice aL n cL,.int .i64 o] w fun e w'=>∃a' c',e=.returned (.slice a' M0 c')/\KRow w' .i64 a' M0 c' (pkG S (lnF T) n F)/\Below w.heap.size w w':=by
 have hl:=h.len;have H:=Lib.hid h;have HL0:=Lib.hid hL;have HAX:=Lib.hid hT;have HF:=Lib.hid hF;have HSA:=Lib.hid hax;have hlL:=hL.1;have hlM:=hL.2.1;unfold maxLen at hlM
 have H0:Hid (itm (lnF T) 0=((1:Nat):Int)/\Below w.heap.size w ((w.alloc (.cells #[] 3)).alloc (.cells #[.slice (some ⟨w.heap.size,0,none⟩) 0 0] 22))/\LRow ((w.alloc (.cells #[] 3)).alloc (.cells #[.slice (some ⟨w.heap.size,0,none⟩) 0 0] 22)) (some ⟨w.heap.size+1,0,none⟩) 1 1 (fun _=>some ⟨w.heap.size,0,none⟩) (fun _=>0) (fun _=>0) (fun r=>pkI F (dgs (lnF T) 0 (r:Nat)))):=Lib.hid (by
  have r1:=Row.new (w.alloc (.cells #[] 3)) 22 #[.slice (some ⟨w.heap.size,0,none⟩) 0 0];rw[World.size_alloc]at r1;refine⟨rfl,((Below.refl _ _).alloc (Nat.le_refl _) _).alloc (by simp) _,Nat.le_refl _,by unfold maxLen;omega,.inr ⟨_,0,rfl,r1.lt,fun j hj => ?_⟩⟩;obtain rfl:j=0:=by omega
  exact⟨r1.cell 0,KRow.nought _ _ _ _ (Nat.zero_le _) _,fun e=>by cases e⟩)
 clear h hL hT hF hax;go_enter Tryz.func50,Tryz.ntmps50;go_wp2_with fail
 go_loopw [7,8] (fun l j wr=>∃(i M:Nat) (la:Option Addr) (lc:Nat),i<=n/\j=.int .i64 i/\l=.slice la M lc/\Hid (itm (lnF T) i=(M:Nat)/\Below w.heap.size w wr/\∃A C,LRow wr la M lc A (fun _=>i) C (fun r=>pkI F (dgs (lnF T) i (r:Nat))))) (fun _ j _=>n-(intOf j).toNat)
 case atStart=>exact⟨0,1,_,1,by omega,rfl,rfl,H0.out.1,H0.out.2.1,_,_,H0.out.2.2⟩
 case round =>
  obtain⟨i,M,la,lc,hi,rfl,rfl,hrel⟩:=hrel;obtain⟨hM,hbl,A1,C1,hL⟩:=hrel.out
  by_cases hlt:i<n
  · obtain ⟨M', hM1, hMF, hM4, hMF4, hF4⟩ := ax_ln HAX.out hlt; obtain rfl : M = M' := by rw [hM] at hM1; omega
    have HT2:Hid (∀k m,m<T i->∀j,j<i+1->app (pkI F (dgs (lnF T) i (k:Nat))) i (fun _=>F i m) j=pkI F (dgs (lnF T) (i+1) ((k*T i+m:Nat):Int)) j):=Lib.hid (fun k m hm=>ix_row hm);obtain⟨bL,oL,haL,hbL,hcL,hkL,_⟩:=(HL0.out.below hbl).get hlt;subst haL;have hlk:=hkL.len;have HFB:Hid (∀q,q<T i->0<=F i q/\F i q<=4096):=Lib.hid (fun q hq=>HF.out i hlt q hq);obtain⟨G,hG⟩:∃G,T i=G:=⟨_,rfl⟩
    rw[hG]at hcL hkL hMF hMF4 hF4 hlk HT2 HFB;have HKL:=Lib.hid hkL;have HBL:=Lib.hid hbl;have HL:=Lib.hid hL;have HMF:=Lib.hid (And.intro hMF hMF4);have HCL:=Lib.hid hcL;have hlen:=hL.1;have hml:M<=9223372036854775807:=by have:=hL.1;have:=hL.2.1;unfold maxLen at this;omega
    have H1:=Lib.hid (RowSt.nought wr (fun r=>pkI F (dgs (lnF T) (i+1) (r:Nat))) i);clear hrel hbl hL hMF hMF4 hM hM1 hcL hkL hG;have hwr:=HBL.out.size;obtain⟨y0,hy0⟩:∃y0,y0=wr:=⟨_,rfl⟩
    subst hy0;generalize hCi:C i=ci at *;generalize hAi:A i=ai at *;go_wp2_with fail
    go_loopw [9,10] (fun v kk wk=>∃(k:Nat) (v5:Value),k<=M/\kk=.int .i64 k/\v5=v/\Hid (RowSt y0 wk (fun r=>pkI F (dgs (lnF T) (i+1) (r:Nat))) i (k*G) v5)) (fun _ kk _=>M-(intOf kk).toNat)
    case atStart=>exact⟨0,_,by omega,rfl,rfl,by rw[Nat.zero_mul];exact H1.out⟩
    case round =>
     obtain⟨k,v5,hk,rfl,hv5,hst⟩:=hrel;subst hv5
     by_cases hkM:k<M
     · have HST := Lib.hid hst.out
       have hkF:k*G+G<=M*G:=by
        have:=Nat.mul_le_mul_right G (show k+1<=M by omega)
        rwa [Nat.add_mul,Nat.one_mul]at this
       have hkF4:k*G+G<=4096:=by have:=HMF.out.2;omega
       clear hst hkF;obtain⟨y1,hy1⟩:∃y1,y1=wr:=⟨_,rfl⟩
       subst hy1;have hcl0:=(HST.out.1.cell (p:=⟨bL,oL+i,none⟩) hbL).trans HCL.out;go_wp2_with fail
       go_loopw [9,11] (fun v mm wm=>∃(m:Nat) (v6:Value),m<=G/\mm=.int .i64 m/\v6=v/\Hid (RowSt y0 wm (fun r=>pkI F (dgs (lnF T) (i+1) (r:Nat))) i (k*G+m) v6)) (fun _ mm _=>G-(intOf mm).toNat)
       case atStart=>exact⟨0,_,by omega,rfl,rfl,HST.out⟩
       case round =>
        obtain⟨m,v6,hm,rfl,hv6,hst⟩:=hrel;subst hv6;have hcl:=(hst.out.1.cell (p:=⟨bL,oL+i,none⟩) hbL).trans HCL.out
        by_cases hmG:m<G
        · obtain ⟨bl, ol, hlab, hbl2, hcl2, hkr, _⟩ := HL.out.get hkM; subst hlab; obtain ⟨bm, om, ham, hbm, hcm⟩ := HKL.out.get hmG; subst ham; have hx := HFB.out m hmG; have hd := HT2.out k m hmG; have BZ : Hid (Below y0.heap.size y0 wr) := Lib.hid hst.out.1; have HRS := Lib.hid hst.out; have w9 := IntWalk.i64_in (F i m) (by omega); have w8 : F i m + o - o = F i m := by omega
          have hm1:(m:Int)<G:=by omega
          have hm0:(0:Int)<=m:=by omega
          have hk1:(k:Int)<M:=by omega
          have hk0:(0:Int)<=k:=by omega
          have hi1:(i:Int)<n:=by omega
          have hi0:(0:Int)<=i:=by omega
          obtain⟨FR,hFR⟩:∃f,pkI F (dgs (lnF T) (i+1) ((k*G+m:Nat):Int))=f:=⟨_,rfl⟩
          rw[hFR]at hd;have HFR:=Lib.hid hFR;obtain⟨FK,hFK⟩:∃f,pkI F (dgs (lnF T) i (k:Nat))=f:=⟨_,rfl⟩
          have hkr:KRow y0 .i64 (A1 k) i (C1 k) FK:=by rw[← hFK];exact hkr
          rw[hFK]at hd;have K1:=Lib.hid (hkr.below BZ.out);generalize hxx:F i m=xx at *;have E1:Hid (∀j,j<i->FR (0+j)=FK j):=Lib.hid (fun j hj=>by have:=hd j (by omega);unfold app at this;rw[if_pos hj]at this;rw[Nat.zero_add];exact this.symm)
          have E3:Hid (∀j,j<1->FR (i+j)=xx):=Lib.hid (fun j hj=>by
           have h0:j=0:=by omega
           have:=hd i (by omega);unfold app at this;rw[if_neg (by omega)]at this;rw[h0]
           exact this.symm)
          have HSF:Hid (∀y,Below y0.heap.size y0 y->y.cell? ⟨bl,ol+k,none⟩=some (.slice (A1 k) i (C1 k))/\y.cell? ⟨bL,oL+i,none⟩=some (.slice (some ⟨bm,om,none⟩) G ci)/\y.cell? ⟨bm,om+m,none⟩=some (.int .i64 (xx+o))):=Lib.hid (fun y hb=>⟨(hb.cell (p:=⟨bl,ol+k,none⟩) hbl2).trans hcl2,(hb.cell (p:=⟨bL,oL+i,none⟩) (Nat.lt_of_lt_of_le hbL (Nat.le_refl _))).trans HCL.out,(hb.cell (p:=⟨bm,om+m,none⟩) hbm).trans hcm⟩);have B0:Hid (Below wr.heap.size wr wr.drew):=Lib.hid (Below.refl _ wr).drew;have BU:Hid (∀y,Below wr.heap.size wr y->Below y0.heap.size y0 y):=Lib.hid (fun y hb=>BZ.out.trans (hb.mono BZ.out.size));have HA:=Lib.hid (ownI_new wr wr.drew FR B0.out);have HB:=Lib.hid (HA.out.go ((Below.refl (wr.drew.alloc (.cells #[] 3)).heap.size (wr.drew.alloc (.cells #[] 3))).alloc (Nat.le_refl _) (.cells #[.int .i64 xx] 3)));have HB1:Hid (Row ((wr.drew.alloc (.cells #[] 3)).alloc (.cells #[.int .i64 xx] 3)) (wr.heap.size+1) 3 #[.int .i64 xx]):=Lib.hid (by have q:=Row.new (wr.drew.alloc (.cells #[] 3)) 3 #[.int .i64 xx];rw[World.size_alloc]at q;exact q);have HC:Hid (OwnI wr ((wr.drew.alloc (.cells #[.int .i64 xx] 3)).alloc (.cells #[] 3)) (some ⟨wr.heap.size+1,0,none⟩) 0 0 FR):=Lib.hid (by have q:=ownI_new wr (wr.drew.alloc (.cells #[.int .i64 xx] 3)) FR (B0.out.alloc B0.out.size _);rw[World.size_alloc]at q;exact q);have HC1:=Lib.hid ((Row.new wr.drew 3 #[.int .i64 xx]).below ((Below.refl _ _).alloc (Nat.le_refl _) (.cells #[] 3)));have HD:Hid (Below wr.heap.size wr (wr.drew.alloc (.cells #[] 3))/\Below wr.heap.size wr (wr.drew.alloc (.cells #[.int .i64 xx] 3))):=Lib.hid ⟨B0.out.alloc B0.out.size _,B0.out.alloc B0.out.size _⟩;have BD2:Hid (Below wr.heap.size wr (wr.alloc (.cells #[] 3)).drew/\Below wr.heap.size wr (wr.alloc (.cells #[.int .i64 xx] 3)).drew/\Below wr.heap.size wr ((wr.alloc (.cells #[] 3)).alloc (.cells #[.int .i64 xx] 3)).drew/\Below wr.heap.size wr ((wr.alloc (.cells #[.int .i64 xx] 3)).alloc (.cells #[] 3)).drew):=Lib.hid ⟨((Below.refl _ _).alloc (Nat.le_refl _) _).drew,((Below.refl _ _).alloc (Nat.le_refl _) _).drew,(((Below.refl _ _).alloc (Nat.le_refl _) _).alloc (by rw[World.size_alloc];omega) _).drew,(((Below.refl _ _).alloc (Nat.le_refl _) _).alloc (by rw[World.size_alloc];omega) _).drew⟩;have hcnt:k*G+m<=5000:=by omega
          clear hst hkr hd hcl2 hcm hFR hFK;generalize A1 k=ak at *;generalize C1 k=ck at *;go_wp2_with fail
          go_region_held3 (fun y => y.cell? ⟨bl, ol + k, none⟩ = some (.slice ak i ck) /\ y.cell? ⟨bL, oL + i, none⟩ = some (.slice (some ⟨bm, om, none⟩) G ci) /\ y.cell? ⟨bm, om + m, none⟩ = some (.int .i64 (xx + o)))
           (first
             | with_reducible exact HSF.out _ (BU.out _ B0.out)
             | with_reducible exact HSF.out _ (BU.out _ HD.out.1)
             | with_reducible exact HSF.out _ (BU.out _ HD.out.2)
             | with_reducible exact HSF.out _ (BU.out _ BD2.out.1)
             | with_reducible exact HSF.out _ (BU.out _ BD2.out.2.1)
             | with_reducible exact HSF.out _ (BU.out _ BD2.out.2.2.1)
             | with_reducible exact HSF.out _ (BU.out _ BD2.out.2.2.2)
             | with_reducible exact HSF.out _ (BU.out _ HA.out.1)
             | with_reducible exact HSF.out _ (BU.out _ HB.out.1)
             | with_reducible exact HSF.out _ (BU.out _ HC.out.1)
             | (have hq:=ho4.1;with_reducible exact HSF.out _ (BU.out _ hq))
             | (have hq:=ho4.1;with_reducible exact HSF.out _ (BU.out _ (hq.alloc hq.size _)))
             | (have hq:=ho6.1;with_reducible exact HSF.out _ (BU.out _ hq))
             | (have hq:=ho6.1;with_reducible exact HSF.out _ (BU.out _ (hq.alloc hq.size _)))
             | (have hq:=ho9.1;with_reducible exact HSF.out _ hq))
           (first
             | (refine step_ownI rfl (.tmp 38) (.tmp 42) rfl rfl rfl rfl HA.out (K1.out.below HA.out.1) (Nat.zero_add i) (by omega) (fun _ h=>absurd h (Nat.not_lt_zero _)) E1.out ?_;intro a4 c4 y4 ho4 hg4)
             | (refine step_ownI rfl (.tmp 38) (.tmp 42) rfl rfl rfl rfl HB.out (K1.out.below HB.out.1) (Nat.zero_add i) (by omega) (fun _ h=>absurd h (Nat.not_lt_zero _)) E1.out ?_;intro a4 c4 y4 ho4 hg4)
             | (refine step_ownI rfl (.tmp 38) (.tmp 42) rfl rfl rfl rfl HC.out (K1.out.below HC.out.1) (Nat.zero_add i) (by omega) (fun _ h=>absurd h (Nat.not_lt_zero _)) E1.out ?_;intro a4 c4 y4 ho4 hg4)
             | (refine step_ownI rfl (.tmp 43) (.tmp 53) rfl rfl rfl rfl (ho4.go ((Below.refl _ _).alloc (Nat.le_refl _) _)) (KRow.one' y4 .i64 xx _) rfl (by omega) (fun _ _=>rfl) E3.out ?_;intro a6 c6 y6 ho6 hg6)
             | (refine step_ownI rfl (.tmp 43) (.tmp 53) rfl rfl rfl rfl ho4 (KRow.ofRow1 (HB1.out.grown hg4 (by simp[Value.ownBlock]))) rfl (by omega) (fun _ _=>rfl) E3.out ?_;intro a6 c6 y6 ho6 hg6)
             | (refine step_ownI rfl (.tmp 43) (.tmp 53) rfl rfl rfl rfl ho4 (KRow.ofRow1 (HC1.out.grown hg4 (by simp[Value.ownBlock]))) rfl (by omega) (fun _ _=>rfl) E3.out ?_;intro a6 c6 y6 ho6 hg6)
             | (refine step_rowSt rfl (.tmp 37) (.tmp 55) rfl rfl rfl rfl HRS.out (by rw[HFR.out];exact ho6) hcnt ?_;intro v9 y9 ho9))
          all_goals have HN:=Lib.hid ho9
          all_goals clear ho4 hg4 ho6 hg6 ho9
          all_goals go_wp2_with fail
          all_goals go_roundw
          all_goals first
           | exact⟨m+1,v9,by omega,by go_num,rfl,HN.out⟩
           | (simp[intOf];omega)
        · obtain rfl:m=G:=by omega
          have HN:Hid (RowSt y0 wr (fun r=>pkI F (dgs (lnF T) (i+1) (r:Nat))) i ((k+1)*m) v6):=Lib.hid (by rw[Nat.add_mul,Nat.one_mul];exact hst.out);clear hst;go_wp2
          go_roundw
          case rel=>exact⟨k+1,v6,by omega,by go_num,rfl,HN.out⟩
          case measure=>simp[intOf];omega
     · obtain rfl:k=M:=by omega
       obtain⟨la2,lc2,A2,C2,hv,hL2⟩:=hst.out.done;subst hv;have HN:Hid (itm (lnF T) (i+1)=((k*G:Nat):Int)/\Below w.heap.size w wr/\∃A C,LRow wr la2 (k*G) lc2 A (fun _=>i+1) C (fun r=>pkI F (dgs (lnF T) (i+1) (r:Nat)))):=Lib.hid ⟨HMF.out.1,HBL.out.trans (hst.out.1.mono hwr),_,_,hL2⟩;clear hst hL2;go_wp2
       go_roundw
       case rel=>exact⟨i+1,k*G,la2,lc2,by omega,by go_num,rfl,HN.out⟩
       case measure=>simp[intOf];omega
  · obtain rfl : i = n := by omega
    have hMM:M=M0:=by rw[hM0]at hM;omega
    subst hMM;have HL:=Lib.hid hL;have HBL:=Lib.hid hbl;have hlen:=hL.1;have hml:M<=9223372036854775807:=by have:=hL.1;have:=hL.2.1;unfold maxLen at this;omega
    have hM4:M<=4096:=by
     have:=ax_bd HAX.out
     omega
    have PLC:=Lib.hid (fun a2 c2 f wz (k1:KRow wz .i64 a i c S) (k2:KRow wz .i64 a2 i c2 f)=>rplk_any a i c S a2 c2 f wz k1 k2 HSA.out);have HG:Hid (∀j:Nat,pkG S (lnF T) i F j=if inB S (pkI F (dgs (lnF T) i (j:Nat))) i then plc S (pkI F (dgs (lnF T) i (j:Nat))) i else -1):=Lib.hid (fun _=>rfl);obtain⟨G,hGE⟩:∃G,pkG S (lnF T) i F=G:=⟨_,rfl⟩
    have HGE:=Lib.hid hGE;rw[hGE]at HG;clear hGE;clear hrel hbl hL hM hM0;obtain⟨y0,hy0⟩:∃y0,y0=wr:=⟨_,rfl⟩
    subst hy0;go_wp2_with fail
    go_loopw [12,13] (fun s ii wk=>∃(j:Nat) (a5:Option Addr) (c5:Nat),j<=M/\s=.slice a5 j c5/\ii=.int .i64 j/\Hid (OwnI y0 wk a5 j c5 G)) (fun _ ii _=>M-(intOf ii).toNat)
    case atStart=>exact⟨0,none,0,by omega,rfl,rfl,OwnI.nil _ _⟩
    case round =>
     obtain⟨j,a5,c5,hj,rfl,rfl,ho⟩:=hrel
     by_cases hlt2:j<M
     · obtain⟨bl,ol,rfl,hbl2,hcl2,hkr,_⟩:=(HL.out.below ho.out.1).get hlt2;have hj0:(0:Int)<=j:=by omega
       have hj1:(j:Int)<M:=by omega
       have hgj:=HG.out j;have HKR:=Lib.hid hkr;have HO:=Lib.hid ho.out;obtain⟨FJ,hFJ⟩:∃f,pkI F (dgs (lnF T) i (j:Nat))=f:=⟨_,rfl⟩
       rw[hFJ]at hgj HKR;have HGJ:=Lib.hid hgj;generalize A1 j=aj at *;generalize C1 j=cj at *;clear ho hkr hgj hFJ;go_wp2_with fail;go_at_call 108
       (refine(PLC.out _ _ _ _ ((H.out.below HBL.out).below HO.out.1) HKR.out).mono ?_)
       rintro e w9 ⟨rfl,hb9⟩;rw[← HGJ.out];obtain⟨x,hx⟩:∃x,G j=x:=⟨_,rfl⟩
       rw[hx];obtain⟨a',c',y7,hr7,ho7⟩:=app1_step (HO.out.go hb9) hx.symm (by omega);have HO7:=Lib.hid ho7;clear ho7 hb9 hx hcl2
       go_wp2_with (at_builtin;refine Lib.wpList_append_run _ rfl (.tmp 64) (.tmp 71) 22 22 rfl _ _ rfl rfl _ _ hr7 ?_)
       go_roundw
       case rel=>exact⟨j+1,a',c',by omega,rfl,by go_num,HO7.out⟩
       case measure=>simp[intOf];omega
     · obtain rfl:j=M:=by omega
       have HE:=Lib.hid (And.intro ho.out.krow (HBL.out.trans (ho.out.1.mono HBL.out.size)));clear ho;go_wp2;go_ret;exact⟨_,_,rfl,by rw[HGE.out];exact HE.out⟩
def subC(al ch:Bool)(more:Int)(d:Nat->Int)(na:Option Addr)(nn nc:Nat)(ta:Option Addr)(tn tc:Nat):Array Value :=
 #[.bool al, .bool ch, .int .i64 more, .int .i64 (d 0), .int .i64 (d 1), .int .i64 (d 2), .int .i64 (d 3), .int .i64 (d 4), .int .i64 (d 5), .int .i64 (d 6), .int .i64 (d 7), .slice na nn nc, .slice ta tn tc]
theorem sub13:(Tryz.prog.info? 80).map (·.size)=some 13:=by kernel_rfl
theorem irun_any (M : Nat) (w : World) (hM : M <= 1000000) :
    Calls Tryz.prog 162 #[.int .i64 M] w fun e w'=>e=.returned (.slice (some ⟨w.heap.size,0,none⟩) M M)/\KRow w' .i64 (some ⟨w.heap.size,0,none⟩) M M (fun j=>(j:Int))/\Below w.heap.size w w':=by
 obtain⟨i0,hi,hz0,hz1,hz2⟩:=info_parts infoI;have hmk:=fun wz=>run_make (P:=Tryz.prog) wz 22 3 i0 _ Tryz.underlying22 hi hz0 .i64 .i64 M M (by omega) (by omega) (by rw[hz2];omega) (by omega)
 simp only[Int.toNat_natCast,hz1,Nat.mul_one]at hmk
 have H0:Hid (Below w.heap.size w (w.alloc (.cells (madeCells (Value.cells (.int .i64 0)) M) 3))/\KTo (w.alloc (.cells (madeCells (Value.cells (.int .i64 0)) M) 3)) w.heap.size M 0 (fun j=>(j:Int))) :=
  Lib.hid ⟨(Below.refl _ _).alloc (Nat.le_refl _) _,KTo.made w M 3 _ rfl⟩
 have hMn:(0:Int)<=M:=by omega
 clear hi hz0 hz1 hz2;go_enter Tryz.func162,Tryz.ntmps162;go_wp2_with fail
 go_loopw [9] (fun i wr=>∃k:Nat,k<=M/\i=.int .i64 k/\Hid (Below w.heap.size w wr/\KTo wr w.heap.size M k (fun j=>(j:Int)))) (fun i _=>M-(intOf i).toNat)
 case atStart=>exact⟨0,by omega,rfl,H0.out⟩
 case round =>
  obtain⟨k,hk,rfl,hrel⟩:=hrel;obtain⟨hbl,hto⟩:=hrel.out
  by_cases hlt:k<M
  · have hk0:(0:Int)<=k:=by omega
    have hk1:(k:Int)<M:=by omega
    obtain⟨⟨z0,x1⟩,y1⟩:=hto.place hlt
    have HN:Hid (Below w.heap.size w (wr.setCell ⟨w.heap.size,k,none⟩ (.int .i64 (k:Int)))/\KTo (wr.setCell ⟨w.heap.size,k,none⟩ (.int .i64 (k:Int))) w.heap.size M (k+1) (fun j=>(j:Int))) :=
     Lib.hid ⟨hbl.setCell (p:=⟨w.heap.size,k,none⟩) (Nat.le_refl _) _,hto.step hlt⟩
    clear hrel hbl hto;go_wp2
    go_roundw
    case rel=>exact⟨k+1,by omega,by go_num,HN.out⟩
    case measure=>simp[intOf];omega
  · obtain rfl:k=M:=by omega
    have HE:Hid (KRow wr .i64 (some ⟨w.heap.size,0,none⟩) k k (fun j=>(j:Int))/\Below w.heap.size w wr):=Lib.hid ⟨hto.done (by unfold maxLen;omega),hbl⟩;clear hrel hbl hto;go_wp2;go_ret;exact⟨rfl,HE.out⟩
def PsTold(b:Bool)(n:Nat)(f:Nat->Int)(w w':World)(e:Ending):Prop :=
 ∃a m c,e=.returned (.tuple #[.slice a m c,.bool b])/\(if b then m=n/\KRow w' .i64 a n c f/\∃x,a=some x else a=none/\m=0/\c=0)/\Below w.heap.size w w'
theorem inAll_no{o s:Int}{P:Nat->Int}{n k:Nat}(hk:k<n)(h:¬(o<=P k/\P k-o<s)):inAll o s P n=false:=by
 cases hx:inAll o s P n with
 | false=>rfl
 | true=>exact absurd (inAll_iff.1 hx k hk) h
theorem positionsA_any (ch : Bool) (more : Int) (d : Nat -> Int) (na : Option Addr) (nn nc : Nat) (ta : Option Addr) (tn tc : Nat) (aN : Option Addr) (m cN : Nat) (o : Int) (M : Nat) (w : World) (hM : M <= 1000000) :
    Calls Tryz.prog 95 #[.agg (subC true ch more d na nn nc ta tn tc),.slice aN m cN,.int .i64 o,.int .i64 M] w fun e w'=>PsTold true M (fun j=>(j:Int)) w w' e:=by
 have RN:=Lib.hid (fun wz=>irun_any M wz hM);have BB:=Lib.hid ((Bag.start w).newRow (subC true ch more d na nn nc ta tn tc) 80);unfold subC at BB;unfold subC;have h0:(w.alloc (.cells #[.bool true,.bool ch,.int .i64 more,.int .i64 (d 0),.int .i64 (d 1),.int .i64 (d 2),.int .i64 (d 3),.int .i64 (d 4),.int .i64 (d 5),.int .i64 (d 6),.int .i64 (d 7),.slice na nn nc,.slice ta tn tc] 80)).cell? ⟨w.heap.size,0,none⟩=some (.bool true):=BB.out.now.1.cell 0;clear hM;go_enter Tryz.func95,Tryz.ntmps95;go_wp2_with fail;go_at_call 162;refine(RN.out _).mono ?_;rintro e w2 ⟨rfl,hk,hb⟩;have HE:=Lib.hid (And.intro hk (BB.out.go hb).below);have HT:Hid (PsTold true M (fun j=>(j:Int)) w w2 (.returned (.tuple #[.slice (some ⟨(w.alloc (.cells (subC true ch more d na nn nc ta tn tc) 80)).heap.size,0,none⟩) M M,.bool true]))):=Lib.hid ⟨_,_,_,rfl,by rw[if_pos rfl];exact⟨rfl,HE.out.1,_,rfl⟩,HE.out.2⟩;unfold subC at HT;clear hk hb h0 HE;go_wp2;exact bodyPost_ret (by simp[results,Tryz.results95,go_sem]) rfl HT.out
theorem positionsN_any (ch : Bool) (more : Int) (d : Nat -> Int) (na : Option Addr) (nn nc : Nat) (ta : Option Addr) (tn tc : Nat) (aN : Option Addr) (m cN : Nat) (P : Nat -> Int) (o : Int) (s : Int) (w : World) (h : KRow w .i64 aN m cN P) (hP : In64 P m) (hm : m <= 1000000) (ho : 0 <= o /\ o <= 1) (hs : 0 <= s /\ s <= 4096) :
    Calls Tryz.prog 95 #[.agg (subC false ch more d na nn nc ta tn tc),.slice aN m cN,.int .i64 o,.int .i64 s] w fun e w'=>PsTold (inAll o s P m) m (fun j=>P j-o) w w' e:=by
 obtain⟨i0,hi,hz0,hz1,hz2⟩:=info_parts infoI;have hmk:=fun wz=>run_make (P:=Tryz.prog) wz 22 3 i0 _ Tryz.underlying22 hi hz0 .i64 .i64 m m (by omega) (by omega) (by rw[hz2];omega) (by omega)
 simp only[Int.toNat_natCast,hz1,Nat.mul_one]at hmk;have BB:=Lib.hid ((Bag.start w).newRow (subC false ch more d na nn nc ta tn tc) 80);unfold subC at BB;unfold subC;have hl:=h.len;have HP:=Lib.hid hP;have h0:(w.alloc (.cells #[.bool false,.bool ch,.int .i64 more,.int .i64 (d 0),.int .i64 (d 1),.int .i64 (d 2),.int .i64 (d 3),.int .i64 (d 4),.int .i64 (d 5),.int .i64 (d 6),.int .i64 (d 7),.slice na nn nc,.slice ta tn tc] 80)).cell? ⟨w.heap.size,0,none⟩=some (.bool false):=BB.out.now.1.cell 0;have HK:=Lib.hid h
 have H0:Hid (Below w.heap.size w ((w.alloc (.cells (subC false ch more d na nn nc ta tn tc) 80)).alloc (.cells (madeCells (Value.cells (.int .i64 0)) m) 3))/\KTo ((w.alloc (.cells (subC false ch more d na nn nc ta tn tc) 80)).alloc (.cells (madeCells (Value.cells (.int .i64 0)) m) 3)) (w.heap.size+1) m 0 (fun j=>P j-o)) :=
  Lib.hid ⟨((Below.refl _ _).alloc (Nat.le_refl _) _).alloc (by simp) _,by have:=KTo.made (w.alloc (.cells (subC false ch more d na nn nc ta tn tc) 80)) m 3 (fun j=>P j-o) rfl;rwa [World.size_alloc]at this⟩
 unfold subC at H0;have hmn:(0:Int)<=m:=by omega
 clear hi hz0 hz1 hz2 h hP BB;go_enter Tryz.func95,Tryz.ntmps95;go_wp2_with fail
 go_loopw [22] (fun i wr=>∃k:Nat,k<=m/\i=.int .i64 k/\Hid (Below w.heap.size w wr/\KTo wr (w.heap.size+1) m k (fun j=>P j-o)/\inAll o s P k=true)) (fun i _=>m-(intOf i).toNat)
 case atStart=>exact⟨0,by omega,rfl,H0.out.1,H0.out.2,rfl⟩
 case round =>
  obtain⟨k,hk,rfl,hrel⟩:=hrel;obtain⟨hbl,hto,hin⟩:=hrel.out
  by_cases hlt:k<m
  · have hk0 : (0 : Int) <= k := by omega
    have hk1:(k:Int)<m:=by omega
    have hp:=HP.out k hlt;obtain⟨b,off,rfl,hlb,hc⟩:=(HK.out.below hbl).get hlt
    by_cases hlo:P k<o
    · have HE:Hid (PsTold (inAll o s P m) m (fun j=>P j-o) w wr (.returned (.tuple #[.slice none 0 0,.bool false]))):=Lib.hid (by
        rw[inAll_no hlt (by omega)]
        exact⟨_,_,_,rfl,by rw[if_neg (by decide)];exact⟨rfl,rfl,rfl⟩,hbl⟩)
      clear hrel hbl hto hin;generalize P k=x at *;go_wp2;exact bodyPost_ret (by simp[results,Tryz.results95,go_sem]) rfl HE.out
    · have u1 : IntKind.u64.wrap (P k) = P k := IntWalk.u64_in (P k) (by omega); have u2 : IntKind.u64.wrap o = o := IntWalk.u64_in o (by omega); have u3 : IntKind.u64.wrap s = s := IntWalk.u64_in s (by omega); have u4 : IntKind.u64.wrap (P k - o) = P k - o := IntWalk.u64_in (P k - o) (by omega); have w4 : IntKind.i64.wrap (P k - o) = P k - o := IntWalk.i64_in (P k - o) (by omega)
      by_cases hhi:P k-o<s
      · obtain⟨⟨z0,x1⟩,y1⟩:=hto.place hlt
        have HN:Hid (Below w.heap.size w (wr.setCell ⟨w.heap.size+1,k,none⟩ (.int .i64 (P k-o)))/\KTo (wr.setCell ⟨w.heap.size+1,k,none⟩ (.int .i64 (P k-o))) (w.heap.size+1) m (k+1) (fun j=>P j-o)/\inAll o s P (k+1)=true) :=
         Lib.hid ⟨hbl.setCell (p:=⟨w.heap.size+1,k,none⟩) (Nat.le_succ _) _,hto.step hlt,by
          show(inAll o s P k&&(decide (o<=P k)&&decide (P k-o<s)))=true
          rw[hin,decide_eq_true (show o<=P k by omega),decide_eq_true hhi];rfl⟩
        clear hrel hbl hto hin;generalize P k=x at *;go_wp2
        go_roundw
        case rel=>exact⟨k+1,by omega,by go_num,HN.out⟩
        case measure=>simp[intOf];omega
      · have HE:Hid (PsTold (inAll o s P m) m (fun j=>P j-o) w wr (.returned (.tuple #[.slice none 0 0,.bool false]))):=Lib.hid (by
          rw[inAll_no hlt (by omega)]
          exact⟨_,_,_,rfl,by rw[if_neg (by decide)];exact⟨rfl,rfl,rfl⟩,hbl⟩)
        clear hrel hbl hto hin;generalize P k=x at *;go_wp2;exact bodyPost_ret (by simp[results,Tryz.results95,go_sem]) rfl HE.out
  · obtain rfl:k=m:=by omega
    have HE:Hid (PsTold (inAll o s P k) k (fun j=>P j-o) w wr (.returned (.tuple #[.slice (some ⟨w.heap.size+1,0,none⟩) k k,.bool true]))):=Lib.hid (by
     rw[hin]
     exact⟨_,_,_,rfl,by rw[if_pos rfl];exact⟨rfl,hto.done (by unfold maxLen;omega),_,rfl⟩,hbl⟩)
    clear hrel hbl hto hin;go_wp2;exact bodyPost_ret (by simp[results,Tryz.results95,go_sem]) rfl HE.out
theorem combined_any (a1 : Option Addr) (n c1 : Nat) (st : Nat -> Int) (aL : Option Addr) (cL : Nat) (A : Nat -> Option Addr) (T C : Nat -> Nat) (F : Nat -> Nat -> Int) (M0 : Nat) (w : World) (h1 : KRow w .i64 a1 n c1 st) (hL : LRow w aL n cL A T C F) (hT : axB (lnF T) n = true) (hM0 : itm (lnF T) n = (M0 : Nat))
    (hn:n<=8) (hst:∀j,j<n->0<=st j/\st j<=4096) (hF:∀j,j<n->∀q,q<T j->0<=F j q/\F j q<=4096) :
    Calls Tryz.prog 98 #[.slice a1 n c1,.slice aL n cL] w fun e w'=>∃a' c',e=.returned (.slice a' M0 c')/\KRow w' .i64 a' M0 c' (cbF T F st n)/\Below w.heap.size w w':=by
 have hl:=h1.len;have H1:=Lib.hid h1;have HL:=Lib.hid hL;have HAX:=Lib.hid hT;have HST:=Lib.hid hst;have HF:=Lib.hid hF;have hlL:=hL.1;have hlM:=hL.2.1;unfold maxLen at hlM
 have H0:Hid (itm (lnF T) 0=((1:Nat):Int)/\Below w.heap.size w (w.alloc (.cells #[.int .i64 0] 3))/\KRow (w.alloc (.cells #[.int .i64 0] 3)) .i64 (some ⟨w.heap.size,0,none⟩) 1 1 (cbF T F st 0)):=Lib.hid (by
  have r1:=Row.new w 3 #[.int .i64 0];refine⟨rfl,(Below.refl _ _).alloc (Nat.le_refl _) _,Nat.le_refl _,by unfold maxLen;omega,.inr ⟨_,0,rfl,r1.lt,fun j hj => ?_⟩⟩;obtain rfl:j=0:=by omega
  exact r1.cell 0)
 clear h1 hL hT hst hF;go_enter Tryz.func98,Tryz.ntmps98;go_wp2_with fail
 go_loopw [5,16] (fun l j wr=>∃(i M:Nat) (la:Option Addr) (lc:Nat),i<=n/\j=.int .i64 i/\l=.slice la M lc/\Hid (itm (lnF T) i=(M:Nat)/\Below w.heap.size w wr/\KRow wr .i64 la M lc (cbF T F st i))) (fun _ j _=>n-(intOf j).toNat)
 case atStart=>exact⟨0,1,_,1,by omega,rfl,rfl,H0.out⟩
 case round =>
  obtain⟨i,M,la,lc,hi,rfl,rfl,hrel⟩:=hrel;obtain⟨hM,hbl,hK⟩:=hrel.out
  by_cases hlt:i<n
  · obtain ⟨M', hM1, hMF, hM4, hMF4, hF4⟩ := ax_ln HAX.out hlt; obtain rfl : M = M' := by rw [hM] at hM1; omega
    obtain⟨bs,os,ha1,hbs,hcs⟩:=(H1.out.below hbl).get hlt;subst ha1;obtain⟨bL,oL,haL,hbL,hcL,hkL,_⟩:=(HL.out.below hbl).get hlt;subst haL;have hlk:=hkL.len;obtain⟨G,hG⟩:∃G,T i=G:=⟨_,rfl⟩
    rw[hG]at hcL hkL hMF hMF4 hF4 hlk;have hs:=HST.out i hlt;have HKL:=Lib.hid hkL;have HK:=Lib.hid hK;have HBL:=Lib.hid hbl;have HMF:=Lib.hid (And.intro hMF hMF4);have HCL:=Lib.hid hcL;have HGG:=Lib.hid hG;have hlen:=hK.len;have HFB:Hid (∀q,q<G->0<=F i q/\F i q<=4096):=Lib.hid (fun q hq=>HF.out i hlt q (by rw[hG];exact hq))
    have HCB:Hid (∀k,k<M->0<G->0<=cbF T F st i k/\cbF T F st i k<=8*16777216):=Lib.hid (fun k hk hg=>by
     have h0:=itm_pos (ax_le (show i<=n by omega) HAX.out) (show(0:Int)<=(k:Nat)by omega) (by rw[hM];omega);have:=cb_bd (T:=T) (F:=F) (st:=st) (n:=i) k (fun j hj=>by have:=h0 j hj;have e:lnF T j=(T j:Int):=rfl;omega) (fun j hj=>HST.out j (by omega)) (fun j hj=>HF.out j (by omega))
     omega)
    clear hrel hbl hK hMF hMF4 hM hM1 hcL hkL;obtain⟨y0,hy0⟩:∃y0,y0=wr:=⟨_,rfl⟩
    subst hy0;generalize hCi:C i=ci at *;generalize hAi:A i=ai at *;go_wp2_with fail
    go_loopw [8,23] (fun v kk wk=>∃(k:Nat) (a5:Option Addr) (c5:Nat),k<=M/\kk=.int .i64 k/\v=.slice a5 (k*G) c5/\Hid (OwnI y0 wk a5 (k*G) c5 (cbF T F st (i+1)))) (fun _ kk _=>M-(intOf kk).toNat)
    case atStart=>exact⟨0,none,0,by omega,rfl,by rw[Nat.zero_mul],by rw[Nat.zero_mul];exact OwnI.nil _ _⟩
    case round =>
     obtain⟨k,a5,c5,hk,rfl,rfl,hst⟩:=hrel
     by_cases hkM:k<M
     · have HST2 := Lib.hid hst.out
       have hkF:k*G+G<=M*G:=by
        have:=Nat.mul_le_mul_right G (show k+1<=M by omega)
        rwa [Nat.add_mul,Nat.one_mul]at this
       have hkF4:k*G+G<=4096:=by have:=HMF.out.2;omega
       have hcl2:=(hst.out.1.cell (p:=⟨bL,oL+i,none⟩) hbL).trans HCL.out;obtain⟨bk,ok,hak,hbk,hck⟩:=(HK.out.below hst.out.1).get hkM;subst hak;have hlen2:=hst.out.krow.len;clear hst hkF;obtain⟨y1,hy1⟩:∃y1,y1=wr:=⟨_,rfl⟩
       subst hy1;generalize hxk:cbF T F st i k=xk at *;go_wp2_with fail
       go_loopw [8,32] (fun v mm wm=>∃(m:Nat) (a6:Option Addr) (c6:Nat),m<=G/\mm=.int .i64 m/\v=.slice a6 (k*G+m) c6/\Hid (OwnI y0 wm a6 (k*G+m) c6 (cbF T F st (i+1)))) (fun _ mm _=>G-(intOf mm).toNat)
       case atStart=>exact⟨0,_,_,by omega,rfl,rfl,HST2.out⟩
       case round =>
        obtain⟨m,a6,c6,hm,rfl,rfl,hst⟩:=hrel
        by_cases hmG:m<G
        · obtain⟨bm,om,ham,hbm,hcm⟩:=(HKL.out.below hst.out.1).get hmG;subst ham;have hx:=HFB.out m hmG;have hy:=HCB.out k hkM (by omega);rw[hxk]at hy
          have hxy:0<=F i m*st i/\F i m*st i<=16777216:=by
           have h3:0<=F i m*st i:=Int.mul_nonneg hx.1 hs.1;have h4:F i m*st i<=4096*4096:=Int.mul_le_mul hx.2 hs.2 hs.1 (by omega)
           omega
          have hval:xk+F i m*st i=cbF T F st (i+1) (k*G+m):=by rw[← hxk,← HGG.out,cb_step (by rw[HGG.out];exact hmG)]
          have w1:=IntWalk.i64_in (F i m*st i) (by omega);have w2:=IntWalk.i64_in (xk+F i m*st i) (by omega);obtain⟨a',c',y6,hr6,ho6⟩:=app1_step hst.out hval (by omega);have HO6:=Lib.hid ho6;have hm1:(m:Int)<G:=by omega
          clear ho6 hst hval;generalize F i m=fm at *;generalize st i=si at *
          go_wp2_with (at_builtin;refine Lib.wpList_append_run _ rfl (.tmp 36) (.tmp 42) 22 22 rfl _ _ rfl rfl _ _ hr6 ?_)
          go_roundw
          case rel=>exact⟨m+1,a',c',by omega,by go_num,rfl,HO6.out⟩
          case measure=>simp[intOf];omega
        · obtain rfl:m=G:=by omega
          have HN:Hid (OwnI y0 wr a6 ((k+1)*m) c6 (cbF T F st (i+1))):=Lib.hid (by rw[Nat.add_mul,Nat.one_mul];exact hst.out);clear hst;go_wp2
          go_roundw
          case rel=>exact⟨k+1,a6,c6,by omega,by go_num,by rw[Nat.add_mul,Nat.one_mul],HN.out⟩
          case measure=>simp[intOf];omega
     · obtain rfl:k=M:=by omega
       have HN:Hid (itm (lnF T) (i+1)=((k*G:Nat):Int)/\Below w.heap.size w wr/\KRow wr .i64 a5 (k*G) c5 (cbF T F st (i+1))):=Lib.hid ⟨HMF.out.1,HBL.out.trans (hst.out.1.mono HBL.out.size),hst.out.krow⟩;clear hst;go_wp2
       go_roundw
       case rel=>exact⟨i+1,k*G,a5,c5,by omega,by go_num,rfl,HN.out⟩
       case measure=>simp[intOf];omega
  · obtain rfl:i=n:=by omega
    have hMM:M=M0:=by rw[hM0]at hM;omega
    subst hMM;have HE:=Lib.hid (And.intro hK hbl);clear hrel hbl hK hM;go_wp2;go_ret;exact⟨_,_,rfl,HE.out⟩
theorem MoTold.ok{E:Int}{S:Nat->Int}{r:Nat}{ch:Bool}{L:Nat}{g fP:Nat->Int}{fQ:Nat->Nat}{w w':World}{e:Ending}(h:MoTold E S r ch L g fP fQ w w' e)(hE:E=0):∃cs,e=.returned (.tuple #[.agg cs,.int .i64 0])/\Arr w' cs S r ch L g fP fQ/\Below w.heap.size w w':=by
 obtain⟨cs,he,h1,_,hb⟩:=h;rw[hE]at he;exact⟨cs,he,h1 hE,hb⟩
theorem Bag.fresh{w y:World}(hb:Below w.heap.size w y):Bag w (fun _=>True) y:=⟨hb,fun _ _ _ _=>trivial,trivial⟩
def PlJ(w:World)(p:Array Value)(l:List Int)(n:Nat):Prop:=∀T,Pln w p (fun _=>(n:Int)) 1 false n T (fun j=>rB (lt l j)) (fun j=>rS (lt l j)) (fun _=>str (dec 1))
theorem PlJ.below{w w':World}{p:Array Value}{l:List Int}{n:Nat}(h:PlJ w p l n)(hb:Below w.heap.size w w'):PlJ w' p l n:=fun T=>(h T).below hb
theorem shownJ{w:World}{cs p:Array Value}{S:Nat->Int}{L:Nat}{g fP:Nat->Int}{fQ:Nat->Nat}{l:List Int}(h:Arr w cs S 1 false L g fP fQ)(hp:PlJ w p l L)(hL:L<=10)(hS:S 0=(L:Int))(hP:∀j,j<L->fP j=lt l j/\fQ j=1/\(fP j).natAbs<=100):Shown w cs p:=by
 refine⟨S,1,false,L,g,fP,fQ,fun _=>(L:Int),g,_,_,_,h,hp g,by omega,by omega,fun _ j hj => ?_,fun j hj => ?_,fun _ _=>rfl,fun j hj => ?_⟩
 · obtain⟨e1,e2,e3⟩:=hP j hj;rw[e2];refine⟨by omega,?_,by decide⟩;have:(100:Nat)<4294967296^7:=by decide
   omega
 · obtain rfl:j=0:=by omega
   exact hS
 · obtain⟨e1,e2,e3⟩:=hP j hj;rw[e1,e2];exact⟨rfl,rfl,rfl⟩
theorem less3{p:Nat->Prop}(h0:p 0)(h1:p 1)(h2:p 2):∀j,j<3->p j
 | 0,_=>h0
 | 1,_=>h1
 | 2,_=>h2
 | n+3,h=>absurd h (by omega)
theorem less2{p:Nat->Prop}(h0:p 0)(h1:p 1):∀j,j<2->p j
 | 0,_=>h0
 | 1,_=>h1
 | n+2,h=>absurd h (by omega)
end Go.Proofs.YtdmmenaejkpnjaaGreatDoor
namespace Go.Proofs.YtdmmenaejkpnjaaGreatDoor
open Go.RowKit
def MoR(w:World)(x:Array Value)(E:Int)(S:Nat->Int)(r:Nat)(ch:Bool)(L:Nat)(g fP:Nat->Int)(fQ:Nat->Nat):Prop:=IsA x/\(E=0->Arr w x S r ch L g fP fQ)/\(E≠0->x=zerC)
def IsP(p:Array Value):Prop:=∃sa sn sc ch ta tn tc na nn nc,p=plC sa sn sc ch ta tn tc na nn nc
def PoR(w:World)(p:Array Value)(E:Int)(S:Nat->Int)(r:Nat)(ch:Bool)(L:Nat)(g:Nat->Int)(fB:Nat->Bool)(fS fT:Nat->ByteArray):Prop:=IsP p/\(E=0->Pln w p S r ch L g fB fS fT)
def ElSame(ch:Bool)(L:Nat)(fP:Nat->Int)(fQ:Nat->Nat)(fB:Nat->Bool)(fS fT:Nat->ByteArray):Prop:=Small ch L fP fQ/\∀j,j<nnO ch L->rB (fP j)=fB j/\rS (fP j)=fS j/\str (dec (fQ j))=fT j
end Go.Proofs.YtdmmenaejkpnjaaGreatDoor
namespace Go.Proofs.YtdmmenaejkpnjaaGreatDoor
open Go.RowKit
attribute [local go_sem ↓] Go.wp_at_zero Go.wp_at_succ
def LTo(w:World)(g n k:Nat)(N:Nat->Nat)(F:Nat->Nat->Int):Prop :=
 g<w.heap.size/\Free w g/\∃(A:Nat->Option Addr) (C:Nat->Nat),∀j,j<n->(∃z,w.cell? ⟨g,j,none⟩=some z/\∀ki x,z ≠ .int ki x)/\(j<k->w.cell? ⟨g,j,none⟩=some (.slice (A j) (N j) (C j))/\KRow w .i64 (A j) (N j) (C j) (F j)/\(A j=none->C j=0))
theorem LTo.below{w w':World}{g n k:Nat}{N:Nat->Nat}{F:Nat->Nat->Int}(h:LTo w g n k N F)(hb:Below w.heap.size w w'):LTo w' g n k N F:=by
 obtain⟨h1,h2,A,C,h3⟩:=h;refine⟨Nat.lt_of_lt_of_le h1 hb.size,h2.below hb h1,A,C,fun j hj => ?_⟩;obtain⟨⟨z,e1,e2⟩,e3⟩:=h3 j hj;exact⟨⟨z,(hb.cell (p:=⟨g,j,none⟩) h1).trans e1,e2⟩,fun hk=>⟨(hb.cell (p:=⟨g,j,none⟩) h1).trans (e3 hk).1,(e3 hk).2.1.below hb,(e3 hk).2.2⟩⟩
theorem LTo.place{w:World}{g n k:Nat}{N:Nat->Nat}{F:Nat->Nat->Int}(h:LTo w g n k N F){j:Nat}(hj:j<n):(∃z,w.cell? ⟨g,j,none⟩=some z/\∀ki x,z ≠ .int ki x)/\w.frozen? ⟨g,j,none⟩=false:=by
 obtain⟨h1,h2,A,C,h3⟩:=h;exact⟨(h3 j hj).1,h2 j⟩
theorem LTo.put{w:World}{g n k:Nat}{N N':Nat->Nat}{F F':Nat->Nat->Int}(h:LTo w g n k N F){i:Nat}(hi:i<n){a:Option Addr}{c:Nat}(hr:KRow w .i64 a (N' i) c (F' i))(ha:a=none->c=0):∀k',(∀j,j<k'->j≠i->j<k/\N' j=N j/\F' j=F j)->LTo (w.setCell ⟨g,i,none⟩ (.slice a (N' i) c)) g n k' N' F':=by
 intro k' hk';obtain⟨h1,h2,A,C,h3⟩:=h;obtain⟨⟨z0,q1,q2⟩,_⟩:=h3 i hi;refine⟨by simpa using h1,h2.set _ _,(fun j=>if j=i then a else A j),(fun j=>if j=i then c else C j),fun j hj => ?_⟩;obtain⟨⟨z,e1,e2⟩,e3⟩:=h3 j hj
 by_cases e:j=i
 · subst e;have hs:=World.cell?_setCell_same w ⟨g,j,none⟩ (.slice a (N' j) c) e1;refine⟨⟨_,hs,fun _ _ h=>by cases h⟩,fun _ => ?_⟩;simp only[if_true];exact⟨hs,hr.setAt q1 (fun z=>q2 _ z) _,ha⟩
 · have hs:(w.setCell ⟨g,i,none⟩ (.slice a (N' i) c)).cell? ⟨g,j,none⟩=w.cell? ⟨g,j,none⟩:=World.cell?_setCell_other _ _ _ _ (fun h=>by injection h with _ h;omega);refine⟨⟨z,hs.trans e1,e2⟩,fun hk => ?_⟩;simp only[if_neg e];obtain⟨h4,h5,h6⟩:=hk' j hk e;obtain⟨q3,q4,q5⟩:=e3 h4;rw[h5,h6];exact⟨hs.trans q3,q4.setAt q1 (fun z=>q2 _ z) _,q5⟩
theorem LTo.step{w:World}{g n k:Nat}{N:Nat->Nat}{F:Nat->Nat->Int}(h:LTo w g n k N F)(hk:k<n){a:Addr}{c:Nat}(hr:KRow w .i64 (some a) (N k) c (F k)):LTo (w.setCell ⟨g,k,none⟩ (.slice (some a) (N k) c)) g n (k+1) N F :=
 h.put hk hr (fun e=>by cases e) (k+1) (fun j hj hne=>⟨by omega,rfl,rfl⟩)
theorem LTo.done{w:World}{g n:Nat}{N:Nat->Nat}{F:Nat->Nat->Int}(h:LTo w g n n N F)(hn:n<=maxLen):∃A C,LRow w (some ⟨g,0,none⟩) n n A N C F:=by
 obtain⟨h1,h2,A,C,h3⟩:=h;refine⟨A,C,Nat.le_refl _,hn,.inr ⟨g,0,rfl,h1,fun j hj => ?_⟩⟩;obtain⟨_,e3⟩:=h3 j hj;obtain⟨e4,e5,e6⟩:=e3 hj;rw[Nat.zero_add];exact⟨e4,e5,e6⟩
theorem LTo.made(w:World)(n:Nat)(t:TypeId)(N:Nat->Nat)(F:Nat->Nat->Int){mc:Array Value}(hmc:mc=madeCells (Value.cells (.slice none 0 0)) n):LTo (w.alloc (.cells mc t)) w.heap.size n 0 N F:=by
 subst hmc;have hR:=Row.new w t (madeCells (Value.cells (.slice none 0 0)) n);refine⟨hR.lt,fun o=>hR.free o,fun _=>none,fun _=>0,fun j hj=>⟨⟨.slice none 0 0,?_,fun _ _ h=>by cases h⟩,fun h=>absurd h (Nat.not_lt_zero _)⟩⟩;rw[hR.cell];unfold madeCells;rw[Array.getElem?_map,Array.getElem?_range,if_pos (by omega),Option.map_some]
 simp[Value.cells,Nat.mod_one]
def SRow(w:World)(sa:Option Addr)(n c:Nat)(D:Nat->Sb):Prop:=n<=c/\c<=maxLen/\(n=0∨∃b off,sa=some ⟨b,off,none⟩/\b<w.heap.size /\
 ∀j,j<n->∃na nn nc ta tn tc,w.rangeAt b (off+j*13) (subC (D j).al (D j).ch (((D j).r:Nat)-1) (dm (D j).S (D j).r) na nn nc ta tn tc).toList/\Arr w (arrC (D j).ch (((D j).r:Nat)-1) (dm (D j).S (D j).r) na nn nc ta tn tc) (D j).S (D j).r (D j).ch (D j).L (D j).g (D j).P (D j).Q)
theorem range_below{w w':World}{b o:Nat}{cs:List Value}(h:w.rangeAt b o cs)(hb:Below w.heap.size w w')(hl:b<w.heap.size):w'.rangeAt b o cs:=fun j v hj=>(hb.cell (p:=⟨b,o+j,none⟩) hl).trans (h j v hj)
theorem SRow.below{w w':World}{sa:Option Addr}{n c:Nat}{D:Nat->Sb}(h:SRow w sa n c D)(hb:Below w.heap.size w w'):SRow w' sa n c D:=by
 obtain⟨h0,h1,h2⟩:=h;refine⟨h0,h1,h2.imp id ?_⟩;rintro⟨b,off,rfl,hl,hc⟩;refine⟨b,off,rfl,Nat.lt_of_lt_of_le hl hb.size,fun j hj => ?_⟩;obtain⟨na,nn,nc,ta,tn,tc,e1,e2⟩:=hc j hj;exact⟨na,nn,nc,ta,tn,tc,range_below e1 hb hl,e2.below hb⟩
theorem SRow.get {w : World} {sa : Option Addr} {n c : Nat} {D : Nat -> Sb} (h : SRow w sa n c D) {j : Nat} (hj : j < n) :
    ∃b off na nn nc ta tn tc,sa=some ⟨b,off,none⟩/\b<w.heap.size/\w.rangeAt b (off+j*13) (subC (D j).al (D j).ch (((D j).r:Nat)-1) (dm (D j).S (D j).r) na nn nc ta tn tc).toList/\Arr w (arrC (D j).ch (((D j).r:Nat)-1) (dm (D j).S (D j).r) na nn nc ta tn tc) (D j).S (D j).r (D j).ch (D j).L (D j).g (D j).P (D j).Q:=by
 obtain⟨h0,h1,h2⟩:=h
 rcases h2 with h2|⟨b,off,rfl,hl,hc⟩
 · omega
 · obtain⟨na,nn,nc,ta,tn,tc,e⟩:=hc j hj;exact⟨b,off,na,nn,nc,ta,tn,tc,rfl,hl,e⟩
theorem SRow.len{w:World}{sa:Option Addr}{n c:Nat}{D:Nat->Sb}(h:SRow w sa n c D):n<=c/\c<=9223372036854775807:=by
 have h1:=h.1;have h2:=h.2.1;unfold maxLen at h2;exact⟨h1,by omega⟩
theorem Row.range{w:World}{g o:Nat}{t:TypeId}{cs:Array Value}{l:List Value}(h:Row w g t cs)(e:∀j v,l[j]? = some v->cs[o+j]? = some v):w.rangeAt g o l:=fun j v hj=>(h.cell (o+j)).trans (e j v hj)
theorem ld_sub {ops : Array Oper} {rest : List Oper} {o : Oper} {a : Act} {w : World} {Q : Exit -> Act -> World -> Prop} (hgd : o.guard = none) (x : Operand) (ho : o.op = .load 80 x) (b off : Nat) (hx : a.eval x = .pointer (some ⟨b, off, none⟩))
    {al ch:Bool} {more:Int} {d:Nat->Int} {na:Option Addr} {nn nc:Nat} {ta:Option Addr} {tn tc:Nat} (hc:w.rangeAt b off (subC al ch more d na nn nc ta tn tc).toList)
    (h:wpList Tryz.prog ops Q rest (a.put o.dst (.agg (subC al ch more d na nn nc ta tn tc))) w):wpList Tryz.prog ops Q (o::rest) a w :=
 wpList_load_mid hgd _ x ho b off hx _ _ hc Tryz.underlying80 rfl sub13 h
theorem ld_arrM {ops : Array Oper} {rest : List Oper} {o : Oper} {a : Act} {w : World} {Q : Exit -> Act -> World -> Prop} (hgd : o.guard = none) (x : Operand) (ho : o.op = .load 36 x) (g : Nat) (hx : a.eval x = .pointer (some ⟨g, 1, none⟩))
    {al ch:Bool} {more:Int} {d:Nat->Int} {na:Option Addr} {nn nc:Nat} {ta:Option Addr} {tn tc:Nat} (hg:Row w g 80 (subC al ch more d na nn nc ta tn tc))
    (h:wpList Tryz.prog ops Q rest (a.put o.dst (.agg (arrC ch more d na nn nc ta tn tc))) w):wpList Tryz.prog ops Q (o::rest) a w:=by
 refine wpList_load_mid hgd _ x ho g 1 hx (arrC ch more d na nn nc ta tn tc).toList _ (hg.range (fun j v hj => ?_)) Tryz.underlying36 rfl arr12 h;unfold subC;unfold arrC at hj;rw[Nat.add_comm]
 simpa using hj
theorem st_subN {ops : Array Oper} {rest : List Oper} {o : Oper} {a : Act} {w : World} {Q : Exit -> Act -> World -> Prop} (hgd : o.guard = none) (x y : Operand) (ho : o.op = .store 80 x y) (hx : a.eval x = .pointer (some ⟨w.heap.size, 0, none⟩))
    (al ch:Bool) (more:Int) (d:Nat->Int) (na:Option Addr) (nn nc:Nat) (ta:Option Addr) (tn tc:Nat) (hy:a.eval y=.agg (subC al ch more d na nn nc ta tn tc)) {old:Array Value} (ho2:old.size=13)
    (h:∀Y,Row Y w.heap.size 80 (subC al ch more d na nn nc ta tn tc)->Below w.heap.size w Y->wpList Tryz.prog ops Q rest (a.put o.dst undef) Y):wpList Tryz.prog ops Q (o::rest) a (w.alloc (.cells old 80)) :=
 wpList_store_row hgd _ x y ho w.heap.size _ hx hy _ old (Row.new w _ old) sub13 ho2 (by simp[subC,Value.oneCell']) (h _ ((Row.new w _ old).put _) (below_put ((Below.refl _ _).alloc (Nat.le_refl _) _) (Nat.le_refl _) _))
def NTo(w:World)(g n k:Nat)(D:Nat->Sb):Prop:=g<w.heap.size/\Free w g/\∀j,j<n->∃A m C,w.cell? ⟨g,j,none⟩=some (.slice A m C)/\(j<k->(D j).al=false->m=(D j).L/\KRow w .i64 A m C (D j).P)
theorem NTo.below{w w':World}{g n k:Nat}{D:Nat->Sb}(h:NTo w g n k D)(hb:Below w.heap.size w w'):NTo w' g n k D:=by
 obtain⟨h1,h2,h3⟩:=h;refine⟨Nat.lt_of_lt_of_le h1 hb.size,h2.below hb h1,fun j hj => ?_⟩;obtain⟨A,m,C,e1,e2⟩:=h3 j hj;exact⟨A,m,C,(hb.cell (p:=⟨g,j,none⟩) h1).trans e1,fun hk ha=>⟨(e2 hk ha).1,(e2 hk ha).2.below hb⟩⟩
theorem NTo.place{w:World}{g n k:Nat}{D:Nat->Sb}(h:NTo w g n k D){j:Nat}(hj:j<n):(∃A m C,w.cell? ⟨g,j,none⟩=some (.slice A m C))/\w.frozen? ⟨g,j,none⟩=false:=by
 obtain⟨h1,h2,h3⟩:=h;obtain⟨A,m,C,e1,_⟩:=h3 j hj;exact⟨⟨A,m,C,e1⟩,h2 j⟩
theorem NTo.skip{w:World}{g n k:Nat}{D:Nat->Sb}(h:NTo w g n k D)(ha:(D k).al=true):NTo w g n (k+1) D:=by
 obtain⟨h1,h2,h3⟩:=h;refine⟨h1,h2,fun j hj => ?_⟩;obtain⟨A,m,C,e1,e2⟩:=h3 j hj;refine⟨A,m,C,e1,fun hk hf=>e2 ?_ hf⟩;have:j≠k:=fun e=>by rw[e,ha]at hf;cases hf
 omega
theorem NTo.step{w:World}{g n k:Nat}{D:Nat->Sb}(h:NTo w g n k D)(hk:k<n){a:Option Addr}{m c:Nat}(hm:m=(D k).L)(hr:KRow w .i64 a m c (D k).P):NTo (w.setCell ⟨g,k,none⟩ (.slice a m c)) g n (k+1) D:=by
 obtain⟨h1,h2,h3⟩:=h;obtain⟨A0,m0,C0,q1,_⟩:=h3 k hk;refine⟨by simpa using h1,h2.set _ _,fun j hj => ?_⟩;obtain⟨A,m',C,e1,e2⟩:=h3 j hj
 by_cases e:j=k
 · subst e;exact⟨a,m,c,World.cell?_setCell_same w ⟨g,j,none⟩ _ e1,fun _ _=>⟨hm,hr.setAt q1 (fun _ h=>by cases h) _⟩⟩
 · exact⟨A,m',C,(World.cell?_setCell_other _ _ _ _ (fun h=>by injection h with _ h;omega)).trans e1,fun hk2 ha=>⟨(e2 (by omega) ha).1,(e2 (by omega) ha).2.setAt q1 (fun _ h=>by cases h) _⟩⟩
theorem NTo.made(w:World)(n:Nat)(t:TypeId)(D:Nat->Sb){mc:Array Value}(hmc:mc=madeCells (Value.cells (.slice none 0 0)) n):NTo (w.alloc (.cells mc t)) w.heap.size n 0 D:=by
 obtain⟨h1,h2,A,C,h3⟩:=LTo.made w n t (fun _=>0) (fun _ _=>0) hmc;subst hmc;have hR:=Row.new w t (madeCells (Value.cells (.slice none 0 0)) n);refine⟨h1,h2,fun j hj=>⟨none,0,0,?_,fun h=>absurd h (Nat.not_lt_zero _)⟩⟩;rw[hR.cell];unfold madeCells;rw[Array.getElem?_map,Array.getElem?_range,if_pos (by omega),Option.map_some]
 simp[Value.cells,Nat.mod_one]
def NRow(w:World)(a:Option Addr)(n c:Nat)(D:Nat->Sb):Prop:=∃g,a=some ⟨g,0,none⟩/\n<=c/\c<=1000000/\NTo w g n n D
theorem NRow.below{w w':World}{a:Option Addr}{n c:Nat}{D:Nat->Sb}(h:NRow w a n c D)(hb:Below w.heap.size w w'):NRow w' a n c D:=by
 obtain⟨g,h1,h2,h3,h4⟩:=h;exact⟨g,h1,h2,h3,h4.below hb⟩
def RdTold(b:Bool)(n:Nat)(D:Nat->Sb)(w w':World)(e:Ending):Prop :=
 ∃a m c,e=.returned (.tuple #[.slice a m c,.bool b])/\(if b then m=n/\NRow w' a n c D else a=none/\m=0/\c=0)/\Below w.heap.size w w'
theorem iread_any (sa : Option Addr) (n c : Nat) (D : Nat -> Sb) (w : World) (h : SRow w sa n c D) (hok : ∀ j, j < n -> (D j).ok) (hn : n <= 1000) :
    Calls Tryz.prog 94 #[.slice sa n c] w fun e w'=>RdTold (allB (fun j=>(D j).wh) n) n D w w' e:=by
 obtain⟨i0,hi,hz0,hz1,hz2⟩:=info_parts infoL;have hmk:=fun wz=>run_make (P:=Tryz.prog) wz 97 22 i0 _ Tryz.underlying97 hi hz0 .i64 .i64 n n (by omega) (by omega) (by rw[hz2];omega) (by omega)
 simp only[Int.toNat_natCast,hz1,Nat.mul_one]at hmk;have hl:=h.len;have HS:=Lib.hid h;have HOK:=Lib.hid hok
 have H0:Hid (Below w.heap.size w (w.alloc (.cells (madeCells (Value.cells (.slice none 0 0)) n) 22))/\NTo (w.alloc (.cells (madeCells (Value.cells (.slice none 0 0)) n) 22)) w.heap.size n 0 D) :=
  Lib.hid ⟨(Below.refl _ _).alloc (Nat.le_refl _) _,NTo.made w n 22 D rfl⟩
 have hnn:(0:Int)<=n:=by omega
 clear hi hz0 hz1 hz2 h hok;go_enter Tryz.func94,Tryz.ntmps94;go_wp2_with fail
 go_loopw [13] (fun i wr=>∃k:Nat,k<=n/\i=.int .i64 k/\Hid (Below w.heap.size w wr/\NTo wr w.heap.size n k D/\allB (fun j=>(D j).wh) k=true)) (fun i _=>n-(intOf i).toNat)
 case atStart=>exact⟨0,by omega,rfl,H0.out.1,H0.out.2,rfl⟩
 case round =>
  obtain⟨k,hk,rfl,hrel⟩:=hrel;obtain⟨hbl,hto,hwh⟩:=hrel.out
  by_cases hlt:k<n
  · have hk0 : (0 : Int) <= k := by omega
    have hk1:(k:Int)<n:=by omega
    obtain⟨b,off,na,nn,nc,ta,tn,tc,rfl,hlb,hrg,harr⟩:=(HS.out.below hbl).get hlt;have HRG:=Lib.hid hrg;have HAR:=Lib.hid harr;have HBL:=Lib.hid hbl;have HTO:=Lib.hid hto;have HWH:=Lib.hid hwh;have hok:=HOK.out k hlt;have HOKK:=Lib.hid hok
    cases hal:(D k).al with
    | true =>
     rw[hal]at HRG
     have HALL:Hid (∀y,Below wr.heap.size wr y->Below w.heap.size w y/\NTo y w.heap.size n (k+1) D/\allB (fun j=>(D j).wh) (k+1)=true):=Lib.hid (fun y hb=>⟨HBL.out.trans (hb.mono HBL.out.size),(HTO.out.below hb).skip hal,by
      show(allB (fun j=>(D j).wh) k&&(D k).wh)=true
      rw[HWH.out];unfold Sb.wh
      rw[hal];rfl⟩)
     clear hrel hbl hto hwh hrg harr hok hal HTO HWH HOKK;generalize (D k).ch=ch at *;generalize (((D k).r:Nat):Int)-1=more at *;generalize dm (D k).S (D k).r=d at *
     go_wp2_with (first
      | (refine ld_sub rfl (.tmp 16) rfl b (off+k*13) rfl HRG.out ?_)
      | (refine st_subN rfl (.tmp 6) (.tmp 17) rfl rfl true ch more d na nn nc ta tn tc rfl rfl ?_;intro Y hY hbY;have h0:Y.cell? ⟨wr.heap.size,0,none⟩=some (.bool true):=hY.cell 0;have HN:=Lib.hid (HALL.out Y hbY);clear hY hbY))
     go_roundw
     case rel=>exact⟨k+1,by omega,by go_num,HN.out⟩
     case measure=>simp[intOf];omega
    | false =>
     rw[hal]at HRG;obtain⟨ch,hch⟩:∃x,(D k).ch=x:=⟨_,rfl⟩
     obtain⟨more,hmore⟩:∃x,(((D k).r:Nat):Int)-1=x:=⟨_,rfl⟩
     obtain⟨d,hd⟩:∃x,dm (D k).S (D k).r=x:=⟨_,rfl⟩
     have WH:Hid (∀y,Below wr.heap.size wr y->Calls Tryz.prog 161 #[.agg (arrC ch more d na nn nc ta tn tc)] y fun e w'=>WhTold (whC (D k).ch (D k).L (D k).P (D k).Q) (D k).L (D k).P y w' e):=Lib.hid (fun y hb=>by
      rw[← hch,← hmore,← hd]
      exact whole8_any _ (D k).S (D k).r (D k).ch (D k).L (D k).g (D k).P (D k).Q y (HAR.out.below hb) HOKK.out.2.2.2 (by have:=HOKK.out.2.2.1;omega))
     rw[hch,hmore,hd]at HRG
     cases hw:whC (D k).ch (D k).L (D k).P (D k).Q with
     | true =>
      rw[hw]at WH
      have HALL:Hid (allB (fun j=>(D j).wh) (k+1)=true):=Lib.hid (by
       show(allB (fun j=>(D j).wh) k&&(D k).wh)=true
       rw[HWH.out];unfold Sb.wh
       rw[hw,Bool.or_true];rfl)
      clear hrel hbl hto hwh hrg harr hok hal HWH HOKK HAR hw hch hmore hd
      go_wp2_with (first
       | (refine ld_sub rfl (.tmp 16) rfl b (off+k*13) rfl HRG.out ?_)
       | (refine st_subN rfl (.tmp 6) (.tmp 17) rfl rfl false ch more d na nn nc ta tn tc rfl rfl ?_;intro Y hY hbY;have h0:Y.cell? ⟨wr.heap.size,0,none⟩=some (.bool false):=hY.cell 0;have HY:=Lib.hid hY;have HBY:=Lib.hid hbY;clear hY hbY)
       | (refine ld_arrM rfl (.tmp 23) rfl wr.heap.size rfl HY.out ?_))
      go_at_call 161;(with_reducible refine(WH.out _ HBY.out).mono ?_);rintro e w2 ⟨a,m,c2,rfl,h2,hb2⟩;rw[if_pos rfl]at h2;have hb3:=HBY.out.trans (hb2.mono HBY.out.size);have hto2:=HTO.out.below hb3;obtain⟨⟨A9,m9,C9,x1⟩,y1⟩:=hto2.place hlt
      have HN:Hid (Below w.heap.size w (w2.setCell ⟨w.heap.size,k,none⟩ (.slice a m c2))/\NTo (w2.setCell ⟨w.heap.size,k,none⟩ (.slice a m c2)) w.heap.size n (k+1) D/\allB (fun j=>(D j).wh) (k+1)=true) :=
       Lib.hid ⟨(HBL.out.trans (hb3.mono HBL.out.size)).setCell (p:=⟨w.heap.size,k,none⟩) (Nat.le_refl _) _,hto2.step hlt h2.1 (by rw[h2.1];exact h2.2),HALL.out⟩
      clear h2 hb2 hb3 hto2 h0;go_wp2_with fail
      go_roundw
      case rel=>exact⟨k+1,by omega,by go_num,HN.out⟩
      case measure=>simp[intOf];omega
     | false =>
      rw[hw]at WH;have HNO:Hid (allB (fun j=>(D j).wh) n=false):=Lib.hid (allB_no hlt (by show(D k).wh=false;unfold Sb.wh;rw[hal,hw];rfl));clear hrel hbl hto hwh hrg harr hok hal HWH HOKK HAR hw hch hmore hd
      go_wp2_with (first
       | (refine ld_sub rfl (.tmp 16) rfl b (off+k*13) rfl HRG.out ?_)
       | (refine st_subN rfl (.tmp 6) (.tmp 17) rfl rfl false ch more d na nn nc ta tn tc rfl rfl ?_;intro Y hY hbY;have h0:Y.cell? ⟨wr.heap.size,0,none⟩=some (.bool false):=hY.cell 0;have HY:=Lib.hid hY;have HBY:=Lib.hid hbY;clear hY hbY)
       | (refine ld_arrM rfl (.tmp 23) rfl wr.heap.size rfl HY.out ?_))
      go_at_call 161;(with_reducible refine(WH.out _ HBY.out).mono ?_);rintro e w2 ⟨a,m,c2,rfl,h2,hb2⟩;rw[if_neg (by decide)]at h2;obtain⟨rfl,rfl,rfl⟩:=h2;have hb3:=HBY.out.trans (hb2.mono HBY.out.size);have hto2:=HTO.out.below hb3;obtain⟨⟨A9,m9,C9,x1⟩,y1⟩:=hto2.place hlt
      have HE:Hid (RdTold (allB (fun j=>(D j).wh) n) n D w (w2.setCell ⟨w.heap.size,k,none⟩ (.slice none 0 0)) (.returned (.tuple #[.slice none 0 0,.bool false]))):=Lib.hid (by
       rw[HNO.out]
       exact⟨_,_,_,rfl,by rw[if_neg (by decide)];exact⟨rfl,rfl,rfl⟩,(HBL.out.trans (hb3.mono HBL.out.size)).setCell (p:=⟨w.heap.size,k,none⟩) (Nat.le_refl _) _⟩)
      clear hb2 hb3 hto2 h0;go_wp2_with fail;exact bodyPost_ret (by simp[results,Tryz.results94,go_sem]) rfl HE.out
  · obtain rfl:k=n:=by omega
    have HE:Hid (RdTold (allB (fun j=>(D j).wh) k) k D w wr (.returned (.tuple #[.slice (some ⟨w.heap.size,0,none⟩) k k,.bool true]))):=Lib.hid (by
     rw[hwh]
     exact⟨_,_,_,rfl,by rw[if_pos rfl];exact⟨rfl,_,rfl,Nat.le_refl _,by omega,hto⟩,hbl⟩)
    clear hrel hbl hto hwh;go_wp2;exact bodyPost_ret (by simp[results,Tryz.results94,go_sem]) rfl HE.out
theorem ijoined_any (a1 : Option Addr) (n c1 : Nat) (S : Nat -> Int) (sa : Option Addr) (c : Nat) (D : Nat -> Sb) (w : World) (h1 : KRow w .i64 a1 n c1 S) (h : SRow w sa n c D) (hok : ∀ j, j < n -> (D j).ok) (hn : n <= 8) :
    Calls Tryz.prog 96 #[.slice a1 n c1,.slice sa n c] w fun e w'=>∃a' c',e=.returned (.slice a' (ixR D n) c')/\KRow w' .i64 a' (ixR D n) c' (ixT S D n)/\Below w.heap.size w w':=by
 obtain⟨i0,hi,hz0,hz1,hz2⟩:=info_parts infoL;have hmk:=fun wz=>run_make (P:=Tryz.prog) wz 97 22 i0 _ Tryz.underlying97 hi hz0 .i64 .i64 n n (by omega) (by omega) (by rw[hz2];omega) (by omega)
 simp only[Int.toNat_natCast,hz1,Nat.mul_one]at hmk;have hl:=h.len;have hl1:=h1.len;have HS:=Lib.hid h;have HK:=Lib.hid h1;have HOK:=Lib.hid hok;have hcm:=h1.2.1;unfold maxLen at hcm
 have H0:Hid (Below w.heap.size w (w.alloc (.cells (madeCells (Value.cells (.slice none 0 0)) n) 22))/\LTo (w.alloc (.cells (madeCells (Value.cells (.slice none 0 0)) n) 22)) w.heap.size n 0 (ixK D) (ixS S D)) :=
  Lib.hid ⟨(Below.refl _ _).alloc (Nat.le_refl _) _,LTo.made w n 22 _ _ rfl⟩
 have hnn:(0:Int)<=n:=by omega
 have HTOT:Hid (ixR D n<=1000000):=Lib.hid (by
  have h8:∀j,j<n->ixK D j<=8:=fun j hj=>by
   unfold ixK Sb.k;have:=(sh_ax (hok j hj).1).1
   split<;>omega
  have:∀k,k<=n->tot (ixK D) k<=k*8:=fun k=>by
   induction k with
   | zero=>intro _;exact Nat.le_refl _
   | succ k ih =>
    intro hk;have:=ih (by omega);have:=h8 k (by omega)
    show tot (ixK D) k+ixK D k<=_
    omega
  have:=this n (Nat.le_refl _)
  show tot (ixK D) n<=_
  omega)
 have JN:=Lib.hid (fun a c A C wz (q:LRow wz a n c A (ixK D) C (ixS S D))=>join_any a n c A (ixK D) C (ixS S D) wz q (by omega) HTOT.out);clear hi hz0 hz1 hz2 h hok h1;go_enter Tryz.func96,Tryz.ntmps96;go_wp2_with fail
 go_loopw [13] (fun i wr=>∃k:Nat,k<=n/\i=.int .i64 k/\Hid (Below w.heap.size w wr/\LTo wr w.heap.size n k (ixK D) (ixS S D))) (fun i _=>n-(intOf i).toNat)
 case atStart=>exact⟨0,by omega,rfl,H0.out.1,H0.out.2⟩
 case round =>
  obtain⟨k,hk,rfl,hrel⟩:=hrel;obtain⟨hbl,hto⟩:=hrel.out
  by_cases hlt:k<n
  · have hk0 : (0 : Int) <= k := by omega
    have hk1:(k:Int)<n:=by omega
    obtain⟨b,off,na,nn,nc,ta,tn,tc,rfl,hlb,hrg,harr⟩:=(HS.out.below hbl).get hlt;have HRG:=Lib.hid hrg;have HAR:=Lib.hid harr;have HBL:=Lib.hid hbl;have HTO:=Lib.hid hto;have HOKK:=Lib.hid (HOK.out k hlt);have SHP:Hid (∀y,Below wr.heap.size wr y->Calls Tryz.prog 39 #[.agg (arrC (D k).ch (((D k).r:Nat)-1) (dm (D k).S (D k).r) na nn nc ta tn tc)] y fun e w'=>∃g c',e=.returned (.slice (some ⟨g,0,none⟩) (D k).r c')/\y.heap.size<=g/\g<w'.heap.size/\KRow w' .i64 (some ⟨g,0,none⟩) (D k).r c' (D k).S/\Below y.heap.size y w'):=Lib.hid (fun y hb=>shape_new _ (D k).S (D k).r (D k).ch (D k).L (D k).g (D k).P (D k).Q y (HAR.out.below hb) (sh_ax HOKK.out.1).1);have HLEN:Hid (∀y g c',KRow y .i64 (some ⟨g,0,none⟩) (D k).r c' (D k).S->(D k).r<=c'/\c'<=maxLen):=Lib.hid (fun y g c' q=>⟨q.1,q.2.1⟩)
    cases hal:(D k).al with
    | true =>
     rw[hal]at HRG;obtain⟨b1,o1,ha1,hb1,hc1⟩:=(HK.out.below hbl).get hlt;subst ha1;have hNk:ixK D k=1:=by unfold ixK Sb.k;rw[if_pos hal]
     have hFk:ixS S D k=fun _=>S k:=by unfold ixS Sb.T;rw[if_pos hal]
     have HPART:Hid (∀y,Below w.heap.size w y->KRow y .i64 (some ⟨b1,o1+k,none⟩) 1 (c1-k) (fun _=>S k)):=Lib.hid (fun y hb=>by
      have q:=(HK.out.below hb)
      have q2:=(q.from (show k<=n by omega)).take (show 1<=n-k by omega)
      exact q2.congr (fun j hj => by obtain rfl : j = 0 := by omega
                                     show S (k+0)=S k;rw[Nat.add_zero]))
     clear hrel hbl hto hrg harr hc1 HOKK;generalize (((D k).r:Nat):Int)-1=more at *;generalize dm (D k).S (D k).r=d at *;generalize (D k).ch=ch at *;generalize (D k).S=Sk at *;generalize (D k).r=rk at *
     go_wp2_with (first
      | (refine ld_sub rfl (.tmp 16) rfl b (off+k*13) rfl HRG.out ?_)
      | (refine st_subN rfl (.tmp 7) (.tmp 17) rfl rfl true ch more d na nn nc ta tn tc rfl rfl ?_;intro Y hY hbY;have HY:=Lib.hid hY;have HBY:=Lib.hid hbY;clear hY hbY)
      | (refine ld_arrM rfl (.tmp 20) rfl wr.heap.size rfl HY.out ?_))
     go_at_call 39;(with_reducible refine(SHP.out _ HBY.out).mono ?_);rintro e w2 ⟨g2,c2,rfl,_,_,hk2,hb2⟩;have hb3:=HBY.out.trans (hb2.mono HBY.out.size);have hto2:=HTO.out.below hb3;obtain⟨⟨z9,x1,x2⟩,y1⟩:=hto2.place hlt
     have L1:LTo (w2.setCell ⟨w.heap.size,k,none⟩ (.slice (some ⟨g2,0,none⟩) rk c2)) w.heap.size n k (fun j=>if j=k then rk else ixK D j) (fun j=>if j=k then Sk else ixS S D j):=by
      have:=hto2.put (N':=fun j=>if j=k then rk else ixK D j) (F':=fun j=>if j=k then Sk else ixS S D j) hlt (a:=some ⟨g2,0,none⟩) (c:=c2) (by simpa using hk2) (fun e=>by cases e) k (fun j hj hne=>⟨hj,by simp[hne],by simp[hne]⟩)
      simpa using this
     have hw3:Below w.heap.size w (w2.setCell ⟨w.heap.size,k,none⟩ (.slice (some ⟨g2,0,none⟩) rk c2)):=(HBL.out.trans (hb3.mono HBL.out.size)).setCell (p:=⟨w.heap.size,k,none⟩) (Nat.le_refl _) _;have hne:wr.heap.size≠w.heap.size:=fun e=>by have:=HTO.out.1;omega
     have h0:(w2.setCell ⟨w.heap.size,k,none⟩ (.slice (some ⟨g2,0,none⟩) rk c2)).cell? ⟨wr.heap.size,0,none⟩=some (.bool true):=((HY.out.below hb2).far (a:=⟨w.heap.size,k,none⟩) hne _).cell 0;obtain⟨⟨z5,x5,_⟩,y5⟩:=L1.place hlt;have L2:=L1.put (N':=ixK D) (F':=ixS S D) hlt (a:=some ⟨b1,o1+k,none⟩) (c:=c1-k) (by rw[hNk,hFk];exact HPART.out _ hw3) (fun e=>by cases e) (k+1) (fun j hj hne=>⟨by omega,by simp[hne],by simp[hne]⟩);rw[hNk]at L2;have HN:=Lib.hid (And.intro (hw3.setCell (p:=⟨w.heap.size,k,none⟩) (Nat.le_refl _) (.slice (some ⟨b1,o1+k,none⟩) 1 (c1-k))) L2);have w1:=IntWalk.i64_in ((k:Int)+1) (by omega);have hk8:(k:Int)+1<=n:=by omega
     have hk9:(k:Int)+1<=c1:=by omega
     have hg9:((k:Int)+1).toNat=k+1:=by omega
     have hck:c1≠k:=by omega
     clear hk2 hb2 hb3 hto2 L1 L2 hw3 hne hNk hFk;go_wp2_with fail
     go_roundw
     case rel=>exact⟨k+1,by omega,by go_num,HN.out⟩
     case measure=>simp[intOf];omega
    | false =>
     rw[hal]at HRG;have hNk:ixK D k=(D k).r:=by unfold ixK Sb.k;rw[if_neg (by rw[hal];decide)]
     have hFk:ixS S D k=(D k).S:=by unfold ixS Sb.T;rw[if_neg (by rw[hal];decide)]
     clear hrel hbl hto hrg harr HOKK
     go_wp2_with (first
      | (refine ld_sub rfl (.tmp 16) rfl b (off+k*13) rfl HRG.out ?_)
      | (refine st_subN rfl (.tmp 7) (.tmp 17) rfl rfl false _ _ _ na nn nc ta tn tc rfl rfl ?_;intro Y hY hbY;have HY:=Lib.hid hY;have HBY:=Lib.hid hbY;clear hY hbY)
      | (refine ld_arrM rfl (.tmp 20) rfl wr.heap.size rfl HY.out ?_))
     go_at_call 39;(with_reducible refine(SHP.out _ HBY.out).mono ?_);rintro e w2 ⟨g2,c2,rfl,_,_,hk2,hb2⟩;have hb3:=HBY.out.trans (hb2.mono HBY.out.size);have hto2:=HTO.out.below hb3;obtain⟨⟨z9,x1,x2⟩,y1⟩:=hto2.place hlt;have L1:=hto2.put (N':=ixK D) (F':=ixS S D) hlt (a:=some ⟨g2,0,none⟩) (c:=c2) (by rw[hNk,hFk];exact hk2) (fun e=>by cases e) (k+1) (fun j hj hne=>⟨by omega,rfl,rfl⟩);rw[hNk]at L1;have hw3:Below w.heap.size w (w2.setCell ⟨w.heap.size,k,none⟩ (.slice (some ⟨g2,0,none⟩) (D k).r c2)):=(HBL.out.trans (hb3.mono HBL.out.size)).setCell (p:=⟨w.heap.size,k,none⟩) (Nat.le_refl _) _;have hne:wr.heap.size≠w.heap.size:=fun e=>by have:=HTO.out.1;omega
     have h0:(w2.setCell ⟨w.heap.size,k,none⟩ (.slice (some ⟨g2,0,none⟩) (D k).r c2)).cell? ⟨wr.heap.size,0,none⟩=some (.bool false):=((HY.out.below hb2).far (a:=⟨w.heap.size,k,none⟩) hne _).cell 0;have HN:=Lib.hid (And.intro hw3 L1);clear hk2 hb2 hb3 hto2 L1 hw3 hne hNk hFk;generalize (D k).r=rk at *;go_wp2_with fail
     go_roundw
     case rel=>exact⟨k+1,by omega,by go_num,HN.out⟩
     case measure=>simp[intOf];omega
  · obtain rfl:k=n:=by omega
    obtain⟨A,C,hL⟩:=hto.done (by unfold maxLen;omega);have HL:=Lib.hid hL;have HBL:=Lib.hid hbl;clear hrel hbl hto hL;go_wp2_with fail;go_at_call 163;(with_reducible refine(JN.out _ _ _ _ _ HL.out).mono ?_);rintro e w3 ⟨a',c',rfl,hk3,hb3⟩;have HE:=Lib.hid (And.intro hk3 (HBL.out.trans (hb3.mono HBL.out.size)));clear hk3 hb3;go_wp2;go_ret;exact⟨_,_,rfl,HE.out⟩
end Go.Proofs.YtdmmenaejkpnjaaGreatDoor
namespace Go.Proofs.YtdmmenaejkpnjaaGreatDoor
open Go.RowKit
def Posed(size:Nat)(q:Nat->Value->Prop)(w:World)(v:Value):Prop:=∀g,v.ownBlock=some g->∀cur t fr,w.heap[g]? = some (.cells cur t fr)->∀o u,cur.toList[o]? = some u->q (o%size) u
theorem Posed.nil(size:Nat)(q:Nat->Value->Prop)(w:World):Posed size q w (.slice none 0 0):=fun g h=>by simp[Value.ownBlock]at h
theorem Posed.below{size:Nat}{q:Nat->Value->Prop}{w w':World}{v:Value}(h:Posed size q w v)(hb:Below w.heap.size w w')(hv:∀g,v.ownBlock=some g->g<w.heap.size):Posed size q w' v:=fun g hg cur t fr hc=>h g hg cur t fr ((hb.block g (hv g hg)).symm.trans hc)
theorem posed_app{size:Nat}{q:Nat->Value->Prop}{l1 l2:List Value}{k:Nat}(h1:∀o u,l1[o]? = some u->q (o%size) u)(e1:l1.length=k*size)(h2:∀o u,l2[o]? = some u->q (o%size) u):∀o u,(l1++l2)[o]? = some u->q (o%size) u:=fun o u hu=>by
 by_cases e:o<l1.length
 · rw[List.getElem?_append_left e]at hu;exact h1 o u hu
 · rw[List.getElem?_append_right (by omega)]at hu;have:=h2 _ u hu
   rwa [show o%size=(o-l1.length)%size by rw[show o=(o-l1.length)+k*size by omega,Nat.add_mul_mod_self_right,show o-l1.length+k*size-l1.length=o-l1.length by omega]]
theorem posed_take{size:Nat}{q:Nat->Value->Prop}{l:List Value}{k:Nat}(h:∀o u,l[o]? = some u->q (o%size) u):∀o u,(l.take k)[o]? = some u->q (o%size) u:=fun o u hu=>by
 rw[List.getElem?_take]at hu
 split at hu
 · exact h o u hu
 · cases hu
theorem posed_drop{size:Nat}{q:Nat->Value->Prop}{l:List Value}{k:Nat}(h:∀o u,l[o]? = some u->q (o%size) u):∀o u,(l.drop (k*size))[o]? = some u->q (o%size) u:=fun o u hu=>by
 rw[List.getElem?_drop]at hu;have:=h _ u hu
 rwa [Nat.add_comm,Nat.add_mul_mod_self_right]at this
theorem posed_zero{q:Nat->Value->Prop}{z:Array Value}(h:∀o u,z.toList[o]? = some u->q (o%z.size) u)(n:Nat):∀o u,(Builtin.zeroCells z n).toList[o]? = some u->q (o%z.size) u:=fun o u hu=>by
 unfold Builtin.zeroCells at hu;rw[Array.getElem?_toList,Array.getElem?_map]at hu;obtain⟨i,hi,rfl⟩:=Option.map_eq_some_iff.1 hu;obtain⟨hlt,rfl⟩:=Array.getElem?_eq_some_iff.1 hi;rw[Array.size_range]at hlt;rw[Array.getElem_range]
 have h0:0<z.size:=by
  rcases Nat.eq_zero_or_pos z.size with h0|h0
  · rw[h0,Nat.mul_zero]at hlt;omega
  · exact h0
 have hm:o%z.size<z.size:=Nat.mod_lt _ h0;rw[getElem!_pos z (o%z.size) hm];have:=h (o%z.size) z[o%z.size] (by rw[Array.getElem?_toList];exact Array.getElem?_eq_getElem hm)
 rwa [Nat.mod_mod]at this
theorem append_posed {P : Program} (q : Nat -> Value -> Prop) (w : World) (base : Nat) (t ty e : TypeId) (i : TypeInfo) (z : Value) (size bytes : Nat) (ht : P.underlying t = some (.slice e)) (hi : P.info? e = some i) (hz : i.zero = some z)
    (hsize:i.size=size) (hby:i.bytes=bytes) (hzs:z.cells.size=size)
    (v:Value) (n:Nat) (xs:List Value) (hown:w.ownsRow base e size v n xs) (hv:Posed size q w v) (hzp:∀o u,z.cells.toList[o]? = some u->q (o%size) u)
    (a:Addr) (m c:Nat) (news:List Value) (hl:news.length=m*size) (hnews:∀j u,news[j]? = some u->w.cell? (a.add j)=some u) (h1:∀u ∈ news,u.oneCell'=true) (hnp:∀o u,news[o]? = some u->q (o%size) u)
    (hm:0<m) (h63:n+m<=maxLen) (hbytes:(n+m)*bytes<=140737488355328) {v':Value} {w':World} (hr:(Builtin.append_ #[t,t] ty #[v,.slice (some a) m c]).run P w=.ok v' w'):Posed size q w' v':=by
 subst hsize;subst hby;have hsmall:n+m<=9223372036854775807:=by simp only[maxLen]at h63;omega
 have hzz:∀k,∀o u,(Builtin.zeroCells z.cells k).toList[o]? = some u->q (o%i.size) u:=by
  have:=posed_zero (q:=q) (z:=z.cells) (by rw[hzs];exact hzp);rw[hzs]at this;exact this
 rcases hown.2 with ⟨rfl,rfl⟩|⟨g,cap,cur,rfl,hbg,hg,hnc,hcm,hcs,htake⟩
 · have hr2:=run_append_nil (P:=P) w t ty e i z ht hi hz a m c news hl hnews hm (by omega) (by have hb:=hbytes;simp only[Nat.zero_add]at hb;omega);rw[hr]at hr2
   injection hr2 with e1 e2
   subst e1 e2;intro g' hg' cur' t' fr hc o u hu;obtain rfl:w.heap.size=g':=by simpa[Value.ownBlock]using hg'
   rw[show w.heap.size=w.drew.heap.size from rfl,heap_alloc_new]at hc
   injection hc with hc;injection hc with hc _ _
   subst hc;rw[Array.toList_append]at hu;exact posed_app (k:=m) hnp hl (hzz _) o u hu
 · have hcur := hv g rfl cur e (0, 0) hg
   by_cases hroom:n+m<=cap
   · have hfit:n*i.size+news.length<=cur.size:=by rw[hl,hcs,← Nat.add_mul];exact Nat.mul_le_mul_right _ hroom
     have hr2:=run_append_room (P:=P) w t ty e i ht hi g n cap cur hg a m c news hl hnews h1 hroom hfit;rw[hr]at hr2
     injection hr2 with e1 e2
     subst e1 e2;intro g' hg' cur' t' fr hc o u hu;obtain rfl:g=g':=by simpa[Value.ownBlock]using hg'
     rw[setRow_heap w g cur _ e _ hg]at hc
     injection hc with hc;injection hc with hc _ _
     subst hc;have e8:n*i.size+news.length=(n+m)*i.size:=by rw[hl,Nat.add_mul]
     have e9:(cur.toList.take (n*i.size)).length=n*i.size:=by rw[List.length_take,Array.length_toList];omega
     refine posed_app (k:=n+m) (posed_app (k:=n) (posed_take hcur) e9 hnp) (by rw[List.length_append,e9,hl,Nat.add_mul]) (l2:=cur.toList.drop ((n+m)*i.size)) (posed_drop hcur) o u ?_;rw[← e8]
     simpa using hu
   · have holds:∀j u,xs[j]? = some u->w.cell? ((⟨g,0,none⟩:Addr).add j)=some u:=hown.cells (g:=g) rfl;have hr2:=run_append_grow (P:=P) w t ty e i z ht hi hz ⟨g,0,none⟩ n cap xs hown.1 holds a m c news hl hnews (by omega) (by omega) (growslice_fits (by omega) hbytes);rw[hr]at hr2
     injection hr2 with e1 e2
     subst e1 e2;intro g' hg' cur' t' fr hc o u hu;obtain rfl:w.heap.size=g':=by simpa[Value.ownBlock]using hg'
     rw[show w.heap.size=w.drew.heap.size from rfl,heap_alloc_new]at hc
     injection hc with hc;injection hc with hc _ _
     subst hc;have hxs:∀o u,xs[o]? = some u->q (o%i.size) u:=by rw[← htake];exact posed_take hcur
     have hu2:(xs++news++(Builtin.zeroCells z.cells (grownCap w (n+m) cap e-(n+m))).toList)[o]? = some u:=by
      rw[Array.toList_append,Array.toList_append]at hu;exact hu
     exact posed_app (k:=n+m) (posed_app (k:=n) hxs hown.1 hnp) (by rw[List.length_append,hown.1,hl,Nat.add_mul]) (hzz _) o u hu2
def subQ(o:Nat)(v:Value):Prop:=(o<2/\∃b,v=.bool b)∨(2<=o/\o<11/\∃z,v=.int .i64 z)∨(11<=o/\∃a n c,v=.slice a n c)
theorem sub_cells{al ch:Bool}{more:Int}{d:Nat->Int}{na:Option Addr}{nn nc:Nat}{ta:Option Addr}{tn tc:Nat}(o:Nat)(v:Value)(h:(subC al ch more d na nn nc ta tn tc).toList[o]? = some v):subQ (o%13) v:=by
 unfold subC at h
 rcases o with _|_|_|_|_|_|_|_|_|_|_|_|_|o
 · exact .inl ⟨by omega,_,(Option.some.inj h).symm⟩
 · exact .inl ⟨by omega,_,(Option.some.inj h).symm⟩
 all_goals first
  | exact .inr (.inl ⟨by omega,by omega,_,(Option.some.inj h).symm⟩)
  | exact .inr (.inr ⟨by omega,_,_,_,(Option.some.inj h).symm⟩)
  | simp at h
theorem subQ.int{o:Nat}{ki:IntKind}{z:Int}(h:subQ o (.int ki z)):ki=.i64:=by
 rcases h with ⟨_,_,e⟩|⟨_,_,_,e⟩|⟨_,_,_,_,e⟩<;>cases e
 rfl
theorem subQ.bool{o:Nat}{b:Bool}(h:subQ o (.bool b)):o<2:=by
 rcases h with ⟨h,_⟩|⟨_,_,_,e⟩|⟨_,_,_,_,e⟩
 · exact h
 · cases e
 · cases e
theorem subQ.slice{o:Nat}{a:Option Addr}{n c:Nat}(h:subQ o (.slice a n c)):11<=o:=by
 rcases h with ⟨_,_,e⟩|⟨_,_,_,e⟩|⟨h,_⟩
 · cases e
 · cases e
 · exact h
theorem Arr.awayQ{w w':World}{cs:Array Value}{S:Nat->Int}{r:Nat}{ch:Bool}{L:Nat}{g fP:Nat->Int}{fQ:Nat->Nat}(h:Arr w cs S r ch L g fP fQ){k:Nat}(hq:∀o v,w.cell? ⟨k,o,none⟩=some v->subQ (o%13) v)(hf:Far k w w'):Arr w' cs S r ch L g fP fQ:=by
 refine⟨fun e => ?_,fun e => ?_⟩
 · obtain⟨a,c,h1,h2⟩:=h.1 e;refine⟨a,c,h1,h2.away ?_ hf⟩
   rcases Nat.eq_zero_or_pos L with h0|h0
   · exact .inl h0
   · refine .inr fun x hx e => ?_
     obtain⟨b,off,e0,hb,e1⟩:=h2.get h0;rw[hx]at e0;obtain rfl:=Option.some.inj e0;subst e
     cases (hq _ _ e1).int
 · obtain⟨a,c,h1,h2⟩:=h.2 e;refine⟨a,c,h1,h2.away (fun o z hc=>by cases (hq _ _ hc).int) ?_ hf⟩
   rcases Nat.eq_zero_or_pos L with h0|h0
   · exact .inl h0
   · refine .inr fun x hx e => ?_
     obtain⟨b,off,a',n',c',m',a2',n2',c2',e0,hb,e1,e2,e3,_⟩:=h2.get h0;rw[hx]at e0;obtain rfl:=Option.some.inj e0;subst e;have q1:=(hq _ _ e1).slice;have q2:=(hq _ _ e2).bool;have q3:=(hq _ _ e3).slice
     omega
theorem infoSb:(Tryz.prog.info? 80).map (fun i=>(i.zero,i.size,i.bytes))=some (some (.agg #[.bool false,.bool false,.int .i64 0,.int .i64 0,.int .i64 0,.int .i64 0,.int .i64 0,.int .i64 0,.int .i64 0,.int .i64 0,.int .i64 0,.slice none 0 0,.slice none 0 0]),13,136):=by kernel_rfl
def OwnS(y0 w:World)(a:Option Addr)(k c:Nat)(D:Nat->Sb):Prop:=Below y0.heap.size y0 w/\∃xs,w.ownsRow y0.heap.size 80 13 (.slice a k c) k xs/\Posed 13 subQ w (.slice a k c) /\
 ∀j,j<k->∃na nn nc ta tn tc,(∀o v,(subC (D j).al (D j).ch (((D j).r:Nat)-1) (dm (D j).S (D j).r) na nn nc ta tn tc).toList[o]? = some v->xs[j*13+o]? = some v)/\Arr w (arrC (D j).ch (((D j).r:Nat)-1) (dm (D j).S (D j).r) na nn nc ta tn tc) (D j).S (D j).r (D j).ch (D j).L (D j).g (D j).P (D j).Q
theorem OwnS.nil(w:World)(D:Nat->Sb):OwnS w w none 0 0 D:=⟨Below.refl _ _, [],World.ownsRow_nil _ _ _ _,Posed.nil _ _ _,fun _ h=>absurd h (Nat.not_lt_zero _)⟩
theorem OwnS.go{y0 w w':World}{a:Option Addr}{k c:Nat}{D:Nat->Sb}(h:OwnS y0 w a k c D)(hb:Below w.heap.size w w'):OwnS y0 w' a k c D:=by
 obtain⟨h1,xs,h2,h3,h4⟩:=h;refine⟨h1.trans (hb.mono h1.size),xs,own_below h2 hb,h3.below hb (fun g hg=>(h2.lt g hg).2),fun j hj => ?_⟩;obtain⟨na,nn,nc,ta,tn,tc,e1,e2⟩:=h4 j hj;exact⟨na,nn,nc,ta,tn,tc,e1,e2.below hb⟩
theorem OwnS.srow{y0 w:World}{a:Option Addr}{k c:Nat}{D:Nat->Sb}(h:OwnS y0 w a k c D):SRow w a k c D:=by
 obtain⟨hb,xs,h1,_,h3⟩:=h
 rcases h1.2 with ⟨e,h0⟩|⟨g,cap,cur,e,_,hh,l1,l2,_,_⟩
 · cases e
   exact⟨Nat.le_refl _,Nat.zero_le _,.inl rfl⟩
 · cases e
   refine⟨l1,l2,.inr ⟨g,0,rfl,Row.lt (t:=80) hh,fun j hj => ?_⟩⟩
   have hc:∀i u,xs[i]? = some u->w.cell? ⟨g,0+i,none⟩=some u:=fun i u hu=>by
    have:=h1.cells (g:=g) rfl i u hu
    rwa [show(⟨g,0,none⟩:Addr).add i=⟨g,0+i,none⟩by unfold Addr.add;split<;>simp_all]at this
   obtain⟨na,nn,nc,ta,tn,tc,e1,e2⟩:=h3 j hj;exact⟨na,nn,nc,ta,tn,tc,fun o v hv=>by rw[Nat.add_assoc];exact hc _ _ (e1 o v hv),e2⟩
theorem ownS_add {y0 wr : World} {a : Option Addr} {k c : Nat} {D : Nat -> Sb} (h : OwnS y0 wr a k c D) {al : Bool} {na : Option Addr} {nn nc : Nat} {ta : Option Addr} {tn tc : Nat} (ha : al = (D k).al)
    (hA:Arr wr (arrC (D k).ch (((D k).r:Nat)-1) (dm (D k).S (D k).r) na nn nc ta tn tc) (D k).S (D k).r (D k).ch (D k).L (D k).g (D k).P (D k).Q) (hk:k<=1000) :
    ∃a' c' y1,(Builtin.append_ #[28,28] 28 #[.slice a k c,.slice (some ⟨wr.heap.size,0,none⟩) 1 1]).run Tryz.prog (wr.alloc (.cells (subC al (D k).ch (((D k).r:Nat)-1) (dm (D k).S (D k).r) na nn nc ta tn tc) 80))=.ok (.slice a' (k+1) c') y1/\OwnS y0 y1 a' (k+1) c' D:=by
 subst ha;obtain⟨i0,hi,hz0,hz1,hz2⟩:=info_parts infoSb;obtain⟨hb,xs,ho,hp,hx⟩:=h.go (w':=wr.alloc (.cells (subC (D k).al (D k).ch (((D k).r:Nat)-1) (dm (D k).S (D k).r) na nn nc ta tn tc) 80)) ((Below.refl _ _).alloc (Nat.le_refl _) _);have hA2:=hA.below (w':=wr.alloc (.cells (subC (D k).al (D k).ch (((D k).r:Nat)-1) (dm (D k).S (D k).r) na nn nc ta tn tc) 80)) ((Below.refl _ _).alloc (Nat.le_refl _) _);have hR:=Row.new wr 80 (subC (D k).al (D k).ch (((D k).r:Nat)-1) (dm (D k).S (D k).r) na nn nc ta tn tc);generalize wr.alloc (.cells (subC (D k).al (D k).ch (((D k).r:Nat)-1) (dm (D k).S (D k).r) na nn nc ta tn tc) 80)=y at *;have hs0:=hb.size;have hone:∀u ∈ (subC (D k).al (D k).ch (((D k).r:Nat)-1) (dm (D k).S (D k).r) na nn nc ta tn tc).toList,u.oneCell'=true:=by intro u hu;simp[subC]at hu;rcases hu with rfl|rfl|rfl|rfl|rfl|rfl|rfl|rfl|rfl|rfl|rfl|rfl|rfl<;>rfl
 obtain⟨v',w',r1,r2,r3,_⟩:=run_append_own (P:=Tryz.prog) y y0.heap.size 28 28 80 i0 _ 13 136 Tryz.underlying28 hi hz0 hz1 hz2 rfl (by omega) _ k _ ho ⟨wr.heap.size,0,none⟩ 1 1 _ rfl (World.news_of_block hR) hone (by unfold maxLen;omega) (by omega) hs0;have r4:=append_posed subQ y y0.heap.size 28 28 80 i0 _ 13 136 Tryz.underlying28 hi hz0 hz1 hz2 rfl _ k _ ho hp (fun o u hu=>sub_cells (al:=false) (ch:=false) (more:=0) (d:=fun _=>0) (na:=none) (nn:=0) (nc:=0) (ta:=none) (tn:=0) (tc:=0) o u hu) ⟨wr.heap.size,0,none⟩ 1 1 _ rfl (World.news_of_block hR) hone sub_cells (by omega) (by unfold maxLen;omega) (by omega) r1;have hlx:=ho.1
 have keep:∀ {cs:Array Value} {S:Nat->Int} {r:Nat} {ch:Bool} {L:Nat} {g fP:Nat->Int} {fQ:Nat->Nat},Arr y cs S r ch L g fP fQ->Arr w' cs S r ch L g fP fQ:=fun hh=>by
  rcases ho.2 with ⟨e,_⟩|⟨g,cap,cur,e,_,hhp,_⟩
  · rw[e]at r3;exact hh.below ⟨r3.os,r3.tape,r3.output,r3.size,fun j hj=>r3.block j hj (by simp[Value.ownBlock])⟩
  · rw[e]at r3 hp;refine hh.awayQ (k:=g) (fun o v hv => ?_) ⟨r3.size,fun j hj hl=>r3.block j hl (fun e=>hj (by simpa[Value.ownBlock]using e))⟩;rw[cell_of_row y g o cur 80 (0,0) hhp]at hv;exact hp g rfl cur 80 (0,0) hhp o v (by rw[Array.getElem?_toList];exact hv)
 have hv:∃a' c',v'=.slice a' (k+1) c':=by
  rcases r2.2 with ⟨rfl,h0⟩|⟨g,cap,cur,rfl,_⟩
  · have:=r2.1;rw[h0]at this;exact⟨none,0,by omega⟩
  · exact⟨_,_,rfl⟩
 obtain⟨a',c',rfl⟩:=hv;refine⟨a',c',w',r1,hb.grown r3 (by omega) (fun q hq=>(ho.lt q hq).1),_,r2,r4,fun j hj => ?_⟩
 by_cases e:j=k
 · subst e;refine⟨na,nn,nc,ta,tn,tc,fun o v hv => ?_,keep hA2⟩;rw[List.getElem?_append_right (by omega),hlx,Nat.add_sub_cancel_left];exact hv
 · obtain⟨na',nn',nc',ta',tn',tc',q1,q2⟩:=hx j (by omega);refine⟨na',nn',nc',ta',tn',tc',fun o v hv => ?_,keep q2⟩;have q3:=q1 o v hv;obtain⟨hlt,_⟩:=List.getElem?_eq_some_iff.1 q3;rw[List.getElem?_append_left hlt];exact q3
end Go.Proofs.YtdmmenaejkpnjaaGreatDoor
namespace Go.Proofs.YtdmmenaejkpnjaaGreatDoor
open Go.ChangeShapes Go.WideShapes Go.ChangeAt Go.RowKit Go.WideMaps Go.WideElems Go.Deep Go.Joins
def Sr:Type:=Bool × (Nat->Int) × Nat × Bool × (Nat->Int) × Nat × (Nat->Bool) × (Nat->ByteArray) × (Nat->ByteArray) × Nat
instance:Inhabited Sr:=⟨(false,fun _=>0,0,false,fun _=>0,0,fun _=>false,fun _=>⟨#[]⟩,fun _=>⟨#[]⟩,0)⟩
def Sr.al(d:Sr):Bool:=d.1
def Sr.S(d:Sr):Nat->Int:=d.2.1
def Sr.r(d:Sr):Nat:=d.2.2.1
def Sr.ch(d:Sr):Bool:=d.2.2.2.1
def Sr.g(d:Sr):Nat->Int:=d.2.2.2.2.1
def Sr.tn(d:Sr):Nat:=d.2.2.2.2.2.1
def Sr.B(d:Sr):Nat->Bool:=d.2.2.2.2.2.2.1
def Sr.U(d:Sr):Nat->ByteArray:=d.2.2.2.2.2.2.2.1
def Sr.V(d:Sr):Nat->ByteArray:=d.2.2.2.2.2.2.2.2.1
def Sr.nn(d:Sr):Nat:=d.2.2.2.2.2.2.2.2.2
def Sr.L(d:Sr):Nat:=if d.ch then d.tn else d.nn
def Sr.sb(d:Sr):Sb:=(d.al,d.S,d.r,d.ch,d.L,d.g,gP d.B d.U d.V,gQ d.B d.U d.V)
def Sr.bd(d:Sr):Prop:=In64 d.S d.r/\∀j,j<d.nn->(d.U j).size<=maxLen/\(d.V j).size<=maxLen
def Sr.good(d:Sr):Prop:=d.tn=tnO d.ch d.L/\d.nn=nnO d.ch d.L/\Good d.S d.r d.ch d.L d.B d.U d.V/\d.L<=60
def DRow(w:World)(sa:Option Addr)(n c:Nat)(E:Nat->Sr):Prop:=n<=c/\c<=maxLen/\(n=0∨∃b off,sa=some ⟨b,off,none⟩/\b<w.heap.size /\
 ∀j,j<n->∃va vc ta tc na nc,w.rangeAt b (off+j*5) (.bool (E j).al::(plC va (E j).r vc (E j).ch ta (E j).tn tc na (E j).nn nc).toList)/\PlnAt w (plC va (E j).r vc (E j).ch ta (E j).tn tc na (E j).nn nc) (E j).S (E j).r (E j).ch (E j).g (E j).tn (E j).B (E j).U (E j).V (E j).nn)
theorem DRow.below{w w':World}{sa:Option Addr}{n c:Nat}{E:Nat->Sr}(h:DRow w sa n c E)(hb:Below w.heap.size w w'):DRow w' sa n c E:=by
 obtain⟨h0,h1,h2⟩:=h;refine⟨h0,h1,h2.imp id ?_⟩;rintro⟨b,off,rfl,hl,hc⟩;refine⟨b,off,rfl,Nat.lt_of_lt_of_le hl hb.size,fun j hj => ?_⟩;obtain⟨va,vc,ta,tc,na,nc,e1,e2⟩:=hc j hj;exact⟨va,vc,ta,tc,na,nc,range_below e1 hb hl,e2.below hb⟩
theorem DRow.get {w : World} {sa : Option Addr} {n c : Nat} {E : Nat -> Sr} (h : DRow w sa n c E) {j : Nat} (hj : j < n) :
    ∃b off va vc ta tc na nc,sa=some ⟨b,off,none⟩/\b<w.heap.size/\w.rangeAt b (off+j*5) (.bool (E j).al::(plC va (E j).r vc (E j).ch ta (E j).tn tc na (E j).nn nc).toList)/\PlnAt w (plC va (E j).r vc (E j).ch ta (E j).tn tc na (E j).nn nc) (E j).S (E j).r (E j).ch (E j).g (E j).tn (E j).B (E j).U (E j).V (E j).nn:=by
 obtain⟨h0,h1,h2⟩:=h
 rcases h2 with h2|⟨b,off,rfl,hl,hc⟩
 · omega
 · obtain⟨va,vc,ta,tc,na,nc,e⟩:=hc j hj;exact⟨b,off,va,vc,ta,tc,na,nc,rfl,hl,e⟩
theorem DRow.len{w:World}{sa:Option Addr}{n c:Nat}{E:Nat->Sr}(h:DRow w sa n c E):n<=c/\c<=9223372036854775807:=by
 have h1:=h.1;have h2:=h.2.1;unfold maxLen at h2;exact⟨h1,by omega⟩
theorem ld_plM {ops : Array Oper} {rest : List Oper} {o : Oper} {a : Act} {w : World} {Q : Exit -> Act -> World -> Prop} (hgd : o.guard = none) (x : Operand) (ho : o.op = .load 26 x) (b off : Nat) (hx : a.eval x = .pointer (some ⟨b, off + 1, none⟩))
    {al:Bool} {sa:Option Addr} {sn sc:Nat} {ch:Bool} {ta:Option Addr} {tn tc:Nat} {na:Option Addr} {nn nc:Nat} (hc:w.rangeAt b off (.bool al::(plC sa sn sc ch ta tn tc na nn nc).toList))
    (h:wpList Tryz.prog ops Q rest (a.put o.dst (.agg (plC sa sn sc ch ta tn tc na nn nc))) w):wpList Tryz.prog ops Q (o::rest) a w :=
 wpList_load_mid hgd _ x ho b (off+1) hx (plC sa sn sc ch ta tn tc na nn nc).toList _ (fun j v hj=>by rw[show off+1+j=off+(j+1)by omega];exact hc (j+1) v hj) Tryz.underlying26 rfl pln4 h
end Go.Proofs.YtdmmenaejkpnjaaGreatDoor
namespace Go.Proofs.YtdmmenaejkpnjaaGreatDoor
open Go.RowKit
theorem run_append_none9{w:World}(base:Nat)(v:Value)(n:Nat)(xs:List Value)(c:Nat)(hown:w.ownsRow base 3 1 v n xs):(Builtin.append_ #[22,22] 22 #[v,.slice none 0 c]).run Tryz.prog w=.ok v w:=by
 obtain⟨i0,hi,hz0,hz1,hz2⟩:=info_parts infoI;have ht:=Tryz.underlying22
 rcases hown.2 with ⟨rfl,rfl⟩|⟨g,cap,cur,rfl,_,_,hnc,_⟩
 · simp[Builtin.append_,run_underlying ht,sizeOf,typeInfo,hi,Builtin.lenOf,Builtin.firstCells]
 · simp[Builtin.append_,run_underlying ht,sizeOf,typeInfo,hi,Builtin.lenOf,Builtin.firstCells,hnc,storeCells]
end Go.Proofs.YtdmmenaejkpnjaaGreatDoor
namespace Go.Proofs.YtdmmenaejkpnjaaGreatDoor
open Go.ChangeShapes Go.WideShapes Go.ChangeAt Go.RowKit
theorem kcs_app9 (ki : IntKind) {F f g : Nat -> Int} {k : Nat} (h1 : ∀ j, j < k -> F j = f j) : ∀ {m : Nat}, (∀ j, j < m -> F (k + j) = g j) -> kcs ki f k ++ kcs ki g m = kcs ki F (k + m)
 | 0,_=>by
  have:∀n,n<=k->kcs ki f n=kcs ki F n:=by
   intro n
   induction n with
   | zero=>intro _;rfl
   | succ n ih=>intro hn;unfold kcs;rw[ih (by omega),h1 n (by omega)]
  rw[show kcs ki g 0 = []from rfl,List.append_nil];exact this k (Nat.le_refl _)
 | m+1,h2=>by
  have ih:=kcs_app9 ki h1 (g:=g) (m:=m) (fun j hj=>h2 j (by omega))
  show kcs ki f k++(kcs ki g m ++ [.int ki (g m)])=kcs ki F (k+m) ++ [.int ki (F (k+m))]
  rw[← List.append_assoc,ih,h2 m (by omega)]
end Go.Proofs.YtdmmenaejkpnjaaGreatDoor
