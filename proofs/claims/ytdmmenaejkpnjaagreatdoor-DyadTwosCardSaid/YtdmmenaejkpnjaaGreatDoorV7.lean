/-
  Texts of this seat, laid together.
-/
import Derived.Deep.RegionHeld3
import Derived.Below
import Derived.Test.YtdmmenaejkpnjaaGreatDoorV6
set_option maxHeartbeats 12800000
set_option maxRecDepth 100000
set_option linter.unusedSimpArgs false
set_option linter.unusedVariables false
namespace Go.Proofs.YtdmmenaejkpnjaaGreatDoor
open Go Go.RowKit
def dstI(ops:Array Oper)(i:Nat):Option Nat:=(ops[i]?).bind (·.dst)
def aft(md:Region.Mode)(ops:Array Oper)(i:Nat):List Nat:=((ops[i]?).map (fun o=>(o.after.filter (Region.binds md)).toList.map (·.on))).getD []
def vw(a:Act)(l:List Nat):List (Option Value):=l.map (fun t=>a.tmps[t]?)
def stays(ops:Array Oper)(t:Nat):Bool:=(List.range ops.size).all fun i => !(dstI ops i==some t)
structure Plan where
 D:Nat->List Nat
 pre:Nat->List Nat
 al:List Nat
def Plan.ok(L:Plan)(md:Region.Mode)(ops:Array Oper)(m:Nat):Bool :=
 (List.range ops.size).all fun i => (aft md ops i).all (fun e => decide (e < i)) &&
   ((L.pre i).all fun e=>(aft md ops i).contains e||(aft md ops i).any fun k=>(L.pre k).contains e) &&
   (match dstI ops i with
     | none=>true
     | some d=>decide (d<m)&&(List.range ops.size).all fun j=>decide (i=j)||((!(L.D j).contains d||(L.pre j).contains i) && !(dstI ops j==some d)))
def Ptr(a:Act)(ops:Array Oper)(i k:Nat):Prop:=∃d,dstI ops i=some d/\a.tmps[d]? = some (.pointer (some ⟨k,0,none⟩))
structure Inv(md:Region.Mode)(ops:Array Oper)(L:Plan)(p:Nat->List (Option Value)->World->Prop)(B:World->Prop)(a0:Act)(listed:Array Bool)(a:Act)(w:World):Prop where
 lsz:listed.size=ops.size
 asz:a.tmps.size=a0.tmps.size
 dfs:a.defers=a0.defers
 old:∀t,stays ops t=true->a.tmps[t]? = a0.tmps[t]?
 bag:B w
 fct:∀j,listed.getD j false=true->p j (vw a (L.D j)) w
 clo:∀j,listed.getD j false=true->∀i ∈ L.pre j,listed.getD i false=true
 alo:∀i ∈ L.al,listed.getD i false=true->∃k,Ptr a ops i k/\k<w.heap.size
 apt:∀i ∈ L.al,∀j ∈ L.al,i≠j->listed.getD i false=true->listed.getD j false=true->∀k,Ptr a ops i k->¬Ptr a ops j k
structure Laid(ops:Array Oper)(L:Plan)(p:Nat->List (Option Value)->World->Prop)(B:World->Prop)(i:Nat)(o:Oper)(a:Act)(w:World)(v:Value)(w':World):Prop where
 bag:B w'
 fct:p i ((L.D i).map (fun t=>if o.dst=some t then some v else a.tmps[t]?)) w'
 size:w.heap.size<=w'.heap.size
 stay:Below w.heap.size w w'∨∀j,j≠i->(∀x ∈ L.al,∀y ∈ L.al,x≠y->x ∈ L.pre i->(y ∈ L.pre j∨y=j)->∀k,Ptr a ops x k->¬Ptr a ops y k)->p j (vw a (L.D j)) w->p j (vw a (L.D j)) w'
 ptr:i ∈ L.al->∃k,v=.pointer (some ⟨k,0,none⟩)/\w.heap.size<=k/\k<w'.heap.size
def Stp(P:Program)(ops:Array Oper)(Q:Exit->Act->World->Prop)(L:Plan)(p:Nat->List (Option Value)->World->Prop)(B:World->Prop)(a0:Act)(i:Nat)(o:Oper):Prop :=
 ∀a w,a.tmps.size=a0.tmps.size->(∀t,stays ops t=true->a.tmps[t]? = a0.tmps[t]?)->B w->(∀j ∈ L.pre i,p j (vw a (L.D j)) w) ->
  ∀K:Act->World->Prop,Shut (∀v w',Laid ops L p B i o a w v w'->K (a.put o.dst v) w')->if Region.wanted o (yielded ops a.tmps)=true then Oper.wp P o a w K Q else K (a.put o.dst undef) w
inductive Stps (P:Program) (ops:Array Oper) (Q:Exit->Act->World->Prop) (L:Plan) (p:Nat->List (Option Value)->World->Prop) (B:World->Prop) (a0:Act):Nat->List Oper->Prop
 | nil (i:Nat):Stps P ops Q L p B a0 i []
 | cons {i:Nat} {o:Oper} {l:List Oper}:Stp P ops Q L p B a0 i o->Stps P ops Q L p B a0 (i+1) l->Stps P ops Q L p B a0 i (o::l)
section
variable {P:Program} {md:Region.Mode} {ops:Array Oper} {Q:Exit->Act->World->Prop} {L:Plan} {p:Nat->List (Option Value)->World->Prop} {B:World->Prop} {a0:Act}
theorem Stps.get:∀ {l:List Oper} {i:Nat},Stps P ops Q L p B a0 i l->∀k o,l[k]? = some o->Stp P ops Q L p B a0 (i+k) o:=by
 intro l
 induction l with
 | nil=>intro i _ k o h;simp at h
 | cons x l ih =>
  intro i h k o hk
  cases h with
  | cons h1 h2 =>
   cases k with
   | zero=>simp at hk;subst hk;exact h1
   | succ k=>have:=ih h2 k o (by simpa using hk);rwa [Nat.add_assoc,Nat.add_comm 1 k]at this
theorem cnt_set(f g:Nat->Bool)(i:Nat)(hf:f i=true)(hg:g i=false)(he:∀j,j≠i->g j=f j):∀n,(List.range n).countP f=(List.range n).countP g+if i<n then 1 else 0:=by
 intro n
 induction n with
 | zero=>simp
 | succ n ih =>
  rw[List.range_succ,List.countP_append,List.countP_append,ih]
  by_cases h:n=i
  · subst h;simp[hf,hg]
  · have:g n=f n:=he n h;simp only[List.countP_cons,List.countP_nil,this];have h2:(i<n)=(i<n+1):=by apply propext;omega
    simp only[h2];omega
theorem Plan.ok_spec (h : L.ok md ops a0.tmps.size = true) {i : Nat} (hi : i < ops.size) :
    (∀e ∈ aft md ops i,e<i)/\(∀e ∈ L.pre i,e ∈ aft md ops i∨∃k ∈ aft md ops i,e ∈ L.pre k) /\
    ∀d,dstI ops i=some d->d<a0.tmps.size/\∀j,j<ops.size->i≠j->(d ∈ L.D j->i ∈ L.pre j)/\dstI ops j≠some d:=by
 unfold Plan.ok at h;rw[List.all_eq_true]at h;have h:=h i (List.mem_range.2 hi);simp only[Bool.and_eq_true,List.all_eq_true,decide_eq_true_eq,Bool.or_eq_true,List.contains_iff_mem,List.any_eq_true]at h;refine⟨h.1.1,h.1.2,?_⟩;intro d hd;have h2:=h.2;rw[hd]at h2;simp only[Bool.and_eq_true,List.all_eq_true,decide_eq_true_eq,Bool.or_eq_true,List.contains_iff_mem,Bool.not_eq_true',List.mem_range]at h2;refine⟨h2.1,fun j hj hij => ?_⟩
 rcases h2.2 j hj with h3|h3
 · exact absurd h3 hij
 · refine⟨fun hm => ?_,by simpa using h3.2⟩
   rcases h3.1 with h4|h4
   · rw[Bool.eq_false_iff]at h4;exact absurd (List.contains_iff_mem.2 hm) h4
   · exact h4
theorem lgd{listed:Array Bool}{i j:Nat}(hi:i<listed.size):(listed.setIfInBounds i true).getD j false=(decide (i=j)||listed.getD j false):=by
 by_cases h:i=j
 · subst h;simp[hi]
 · simp[h]
theorem lgt{listed:Array Bool}{j:Nat}(h:listed.getD j true=false):j<listed.size/\listed.getD j false=false:=by
 by_cases hj:j<listed.size
 · simp[hj]at h ⊢;exact h
 · simp[Nat.le_of_not_lt hj]at h
theorem aft_mem{i:Nat}{o:Oper}(ho:ops[i]? = some o){e:Nat}:e ∈ aft md ops i↔∃x ∈ o.after,Region.binds md x=true/\x.on=e:=by
 unfold aft;rw[ho];simp only[Option.map_some,Option.getD_some,List.mem_map,Array.mem_toList_iff,Array.mem_filter]
 constructor
 · rintro⟨x,⟨h1,h2⟩,h3⟩;exact⟨x,h1,h2,h3⟩
 · rintro⟨x,h1,h2,h3⟩;exact⟨x,⟨h1,h2⟩,h3⟩
theorem Inv.step (ok : L.ok md ops a0.tmps.size = true) (hal : L.al.all (fun i => (dstI ops i).isSome) = true) (stay : ∀ j v w w', Below w.heap.size w w' -> p j v w -> p j v w') {listed : Array Bool} {a : Act} {w : World} (I : Inv md ops L p B a0 listed a w) {i : Nat} {o : Oper} (ho : ops[i]? = some o)
    (hu:listed.getD i true=false) (hr:∀e ∈ o.after,Region.binds md e=true->listed.getD e.on false=true) {v:Value} {w':World} (G:Laid ops L p B i o a w v w') :
    Inv md ops L p B a0 (listed.setIfInBounds i true) (a.put o.dst v) w':=by
 have hi:i<ops.size:=(Array.getElem?_eq_some_iff.1 ho).1;have hil:i<listed.size:=by rw[I.lsz];exact hi
 have hun:=(lgt hu).2;obtain⟨c1,c2,c3⟩:=Plan.ok_spec ok hi;have hd:dstI ops i=o.dst:=by unfold dstI;rw[ho];rfl
 have hpre:∀e ∈ L.pre i,listed.getD e false=true:=by
  intro e he
  rcases c2 e he with h|⟨k,hk,hek⟩
  · obtain⟨x,h1,h2,rfl⟩:=(aft_mem ho).1 h;exact hr x h1 h2
  · obtain⟨x,h1,h2,rfl⟩:=(aft_mem ho).1 hk;exact I.clo _ (hr x h1 h2) e hek
 have hput:∀t,(a.put o.dst v).tmps[t]? = if o.dst=some t then some v else a.tmps[t]? := by
  intro t
  cases hx:o.dst with
  | none=>simp[Act.put]
  | some d =>
   have h4:=(c3 d (hd.trans hx)).1;have h5:d<a.tmps.size:=by rw[I.asz];exact h4
   simp only[Act.put,Array.getElem?_setIfInBounds,Option.some.injEq,if_pos h5]
 have hlj:∀j,listed.getD j false=true->j<ops.size/\j≠i:=by
  intro j hj;refine⟨?_,fun e=>by rw[e,hun]at hj;cases hj⟩;rw[← I.lsz]
  by_cases h:j<listed.size
  · exact h
  · simp[Nat.le_of_not_lt h]at hj
 have hvw:∀j,listed.getD j false=true->vw (a.put o.dst v) (L.D j)=vw a (L.D j):=by
  intro j hj;unfold vw;refine List.map_congr_left (fun t ht => ?_);rw[hput];refine if_neg (fun e => ?_);have h6:=((c3 t (hd.trans e)).2 j (hlj j hj).1 (hlj j hj).2.symm).1 ht;have h7:=I.clo j hj i h6;rw[hun]at h7;cases h7
 have hptr:∀j,listed.getD j false=true->∀k,Ptr (a.put o.dst v) ops j k↔Ptr a ops j k:=by
  intro j hj k;unfold Ptr
  constructor
  · rintro⟨d,h1,h2⟩;refine⟨d,h1,?_⟩;rw[hput,if_neg (fun e=>((c3 d (hd.trans e)).2 j (hlj j hj).1 (hlj j hj).2.symm).2 h1)]at h2;exact h2
  · rintro⟨d,h1,h2⟩;refine⟨d,h1,?_⟩;rw[hput,if_neg (fun e=>((c3 d (hd.trans e)).2 j (hlj j hj).1 (hlj j hj).2.symm).2 h1)];exact h2
 have hnew:i ∈ L.al->∀k,Ptr (a.put o.dst v) ops i k->w.heap.size<=k/\k<w'.heap.size:=by
  intro hal k ⟨d,h1,h2⟩;obtain⟨k',hv,h3,h4⟩:=G.ptr hal;rw[hput,if_pos (hd.symm.trans h1),hv]at h2
  cases h2
  exact⟨h3,h4⟩
 have hcase:∀j,(listed.setIfInBounds i true).getD j false=true->j=i∨listed.getD j false=true:=by
  intro j hj;rw[lgd hil,Bool.or_eq_true,decide_eq_true_eq]at hj;exact hj.imp Eq.symm id
 refine⟨by simp[I.lsz],?_,?_,?_,G.bag,?_,?_,?_,?_⟩
 · cases o.dst<;>simp[Act.put,I.asz]
 · cases o.dst<;>simp[Act.put,I.dfs]
 · intro t ht;rw[hput,if_neg,I.old t ht];intro e;unfold stays at ht;rw[List.all_eq_true]at ht;have:=ht i (List.mem_range.2 hi);rw[hd,e]at this
   simp at this
 · intro j hj
   rcases hcase j hj with rfl|hj
   · have:=G.fct;unfold vw;rw[show(L.D j).map (fun t=>(a.put o.dst v).tmps[t]?)=(L.D j).map (fun t=>if o.dst=some t then some v else a.tmps[t]?)from List.map_congr_left (fun t _=>hput t)];exact this
   · rw[hvw j hj]
     rcases G.stay with hb|hs
     · exact stay j _ _ _ hb (I.fct j hj)
     · refine hs j (hlj j hj).2 ?_ (I.fct j hj);intro x hx y hy hxy hxi hyj;exact I.apt x hx y hy hxy (hpre x hxi) (hyj.elim (I.clo j hj y) (fun e=>e▸hj))
 · intro j hj e he;rw[lgd hil,Bool.or_eq_true]
   rcases hcase j hj with rfl|hj
   · exact .inr (hpre e he)
   · exact .inr (I.clo j hj e he)
 · intro j hjal hj
   rcases hcase j hj with rfl|hj
   · obtain⟨k,hv,h3,h4⟩:=G.ptr hjal
     cases hx:o.dst with
     | none =>
      have:=List.all_eq_true.1 hal j hjal;rw[hd,hx]at this;cases this
     | some d=>exact⟨k,⟨d,hd.trans hx,by rw[← hx,hput,if_pos hx,hv]⟩,h4⟩
   · obtain⟨k,h1,h2⟩:=I.alo j hjal hj;exact⟨k,(hptr j hj k).2 h1,Nat.lt_of_lt_of_le h2 G.size⟩
 · intro x hx y hy hxy hlx0 hly0 k
   rcases hcase x hlx0 with rfl|hlx
   · rcases hcase y hly0 with e|hly
     · exact absurd e.symm hxy
     · intro h1 h2;obtain⟨k',h3,h4⟩:=I.alo y hy hly;obtain⟨d,e1,e2⟩:=(hptr y hly k).1 h2;obtain⟨d',e3,e4⟩:=h3;rw[e1]at e3;cases e3;rw[e2]at e4;cases e4;have:=(hnew hx k h1).1
       omega
   · rcases hcase y hly0 with rfl|hly
     · intro h1 h2;obtain⟨k',h3,h4⟩:=I.alo x hx hlx;obtain⟨d,e1,e2⟩:=(hptr x hlx k).1 h1;obtain⟨d',e3,e4⟩:=h3;rw[e1]at e3;cases e3;rw[e2]at e4;cases e4;have:=(hnew hy k h2).1
       omega
     · intro h1 h2;exact I.apt x hx y hy hxy hlx hly k ((hptr x hlx k).1 h1) ((hptr y hly k).1 h2)
theorem ready_all(ok:L.ok md ops a0.tmps.size=true){listed:Array Bool}(hs:listed.size=ops.size)(h:Region.ready md ops listed = []):∀j,j<ops.size->listed.getD j false=true:=by
 intro j
 induction j using Nat.strongRecOn with
 | ind j ih =>
  intro hj
  cases hx:listed.getD j false with
  | true=>rfl
  | false =>
   exfalso
   have hm:j ∈ Region.ready md ops listed:=by
    rw[mem_ready]
    refine⟨?_,ops[j],Array.getElem?_eq_getElem hj,fun e he hb => ?_⟩
    · have:j<listed.size:=by rw[hs];exact hj
      simp[this]at hx ⊢;exact hx
    · have h1:=(Plan.ok_spec ok hj).1 e.on ((aft_mem (Array.getElem?_eq_getElem hj)).2 ⟨e,he,hb,rfl⟩);exact ih e.on h1 (Nat.lt_trans h1 hj)
   rw[h]at hm;cases hm
theorem wpAny_inv (ok : L.ok md ops a0.tmps.size = true) (hal : L.al.all (fun i => (dstI ops i).isSome) = true) (stay : ∀ j v w w', Below w.heap.size w w' -> p j v w -> p j v w') (steps : Stps P ops Q L p B a0 0 ops.toList)
    (done:∀a w,a.tmps.size=a0.tmps.size->a.defers=a0.defers->(∀t,stays ops t=true->a.tmps[t]? = a0.tmps[t]?)->B w->(∀j,j<ops.size->p j (vw a (L.D j)) w)->Q .normal a w) :
    ∀(fuel:Nat) (listed:Array Bool) (a:Act) (w:World),Inv md ops L p B a0 listed a w->(List.range ops.size).countP (fun i => !listed.getD i true)<=fuel->wpAny P md ops Q fuel listed a w:=by
 intro fuel
 induction fuel with
 | zero =>
  intro listed a w I hc
  have hall:∀j,j<ops.size->listed.getD j true=true:=by
   intro j hj;have:=List.countP_eq_zero.1 (Nat.le_zero.1 hc) j (List.mem_range.2 hj)
   simpa using this
  have hr:Region.ready md ops listed = []:=by
   rw[List.eq_nil_iff_forall_not_mem];intro j hj;obtain⟨h1,o,h2,_⟩:=mem_ready.1 hj;rw[hall j (Array.getElem?_eq_some_iff.1 h2).1]at h1;cases h1
  exact⟨hr,done a w I.asz I.dfs I.old I.bag (fun j hj=>I.fct j (ready_all ok I.lsz hr j hj))⟩
 | succ fuel ih =>
  intro listed a w I hc;refine⟨fun hr=>done a w I.asz I.dfs I.old I.bag (fun j hj=>I.fct j (ready_all ok I.lsz hr j hj)),fun i hi => ?_⟩;obtain⟨hu,o,ho,hr⟩:=mem_ready.1 hi;have hio:i<ops.size:=(Array.getElem?_eq_some_iff.1 ho).1;have hst:=steps.get i o (by rw[Array.getElem?_toList];exact ho);rw[Nat.zero_add]at hst
  have hpre:∀e ∈ L.pre i,listed.getD e false=true:=by
   intro e he
   rcases(Plan.ok_spec ok hio).2.1 e he with h|⟨k,hk,hek⟩
   · obtain⟨x,h1,h2,rfl⟩:=(aft_mem ho).1 h;exact hr x h1 h2
   · obtain⟨x,h1,h2,rfl⟩:=(aft_mem ho).1 hk;exact I.clo _ (hr x h1 h2) e hek
  refine wpOp_step ho (fun K hK=>hst a w I.asz I.old I.bag (fun j hj=>I.fct j (hpre j hj)) K (fun v w' G=>hK _ _ (ih _ _ _ (I.step ok hal stay ho hu hr G) ?_)));have hil:i<listed.size:=by rw[I.lsz];exact hio
  have hun:listed[i]=false:=by simpa[hil]using hu
  have:=cnt_set (fun j => !listed.getD j true) (fun j => !(listed.setIfInBounds i true).getD j true) i (by simp[hil,hun]) (by simp[hil]) (fun j hj=>by simp[Ne.symm hj]) ops.size;rw[if_pos hio]at this
  omega
theorem lg0(n j:Nat):(Array.replicate n false).getD j false=false:=by
 rw[Array.getD_eq_getD_getElem?,Array.getElem?_replicate];split<;>rfl
theorem wp_region_inv {id : Nat} {l : List Oper} {w : World} (L : Plan) (p : Nat -> List (Option Value) -> World -> Prop) (B : World -> Prop) (hm : P.follows .mixedOrders = true) (ok : L.ok .any l.toArray a0.tmps.size = true) (hal : L.al.all (fun i => (dstI l.toArray i).isSome) = true)
    (hB:B w.drew) (stay:∀j v w w',Below w.heap.size w w'->p j v w->p j v w')
    (done:∀a w,a.tmps.size=a0.tmps.size->a.defers=a0.defers->(∀t,stays l.toArray t=true->a.tmps[t]? = a0.tmps[t]?)->B w->(∀j,j<l.length->p j (vw a (L.D j)) w)->Q .normal a w)
    (steps:Stps P l.toArray Q L p B a0 0 l) :
    (Code.region id l.toArray true).wp P Q a0 w:=by
 refine wp_region_any hm (wpAny_inv ok hal stay steps (fun a w h1 h2 h3 h4 h5=>done a w h1 h2 h3 h4 (fun j hj=>h5 j (by simpa using hj))) _ _ _ _ ⟨by simp,rfl,rfl,fun _ _=>rfl,hB,?_,?_,?_,?_⟩ ?_)
 · intro j hj;rw[lg0]at hj;cases hj
 · intro j hj;rw[lg0]at hj;cases hj
 · intro j _ hj;rw[lg0]at hj;cases hj
 · intro j _ i _ _ hj;rw[lg0]at hj;cases hj
 · exact Nat.le_trans List.countP_le_length (by simp)
end
theorem Slot3.set3{w:World}{k:Nat}{x y z:Value}(h:Slot3 w k x y z)(u v t:Value):Slot3 (((w.setCell ⟨k,0,none⟩ u).setCell ⟨k,1,none⟩ v).setCell ⟨k,2,none⟩ t) k u v t:=(h.set2 u v).set1 t
theorem wanted_pos{ops:Array Oper}{a:Act}{o:Oper}{g:Nat}{b:Bool}{d:Nat}(hg:o.guard=some (g,b))(hd:dstI ops g=some d)(ht:a.tmps[d]? = some (.bool b)):Region.wanted o (yielded ops a.tmps)=true:=by
 unfold Region.wanted;rw[hg]
 show(yielded ops a.tmps g==some b)=true
 unfold yielded;rw[show(ops[g]?).bind (·.dst)=some d from hd]
 show((match a.tmps[d]? with|some (.bool b)=>some b|_=>none)==some b)=true
 rw[ht]
 cases b<;>rfl
theorem wanted_neg{ops:Array Oper}{a:Act}{o:Oper}{g:Nat}{b:Bool}{d:Nat}{v:Value}(hg:o.guard=some (g,b))(hd:dstI ops g=some d)(ht:a.tmps[d]? = some v)(hv:v ≠ .bool b):Region.wanted o (yielded ops a.tmps)=false:=by
 unfold Region.wanted;rw[hg]
 show(yielded ops a.tmps g==some b)=false
 unfold yielded;rw[show(ops[g]?).bind (·.dst)=some d from hd]
 show((match a.tmps[d]? with|some (.bool b)=>some b|_=>none)==some b)=false
 rw[ht]
 cases v with
 | bool x=>cases x<;>cases b<;>first|rfl|exact absurd rfl hv
 | _=>rfl
theorem act_eq{ac:Act}{n:Nat}(hs:ac.tmps.size=n)(f:Nat->Value)(hf:∀i,(ac.tmps[i]?).getD undef=f i):ac=⟨((List.range n).map f).toArray,ac.defers⟩:=by
 obtain⟨t,d⟩:=ac
 congr 1
 apply Array.ext
 · simpa using hs
 · intro i h1 h2;have:=hf i;simp only[Array.getElem?_eq_getElem h1,Option.getD_some]at this;rw[this];simp
def blk:Value->Option Nat
 | .pointer (some a)=>some a.block
 | .slice (some a) _ _=>some a.block
 | _=>none
def Ptr2(a:Act)(ops:Array Oper)(i k:Nat):Prop:=∃d v,dstI ops i=some d/\a.tmps[d]? = some v/\blk v=some k
structure Inv2(md:Region.Mode)(ops:Array Oper)(L:Plan)(p:Nat->List (Option Value)->World->Prop)(B:World->Prop)(a0:Act)(listed:Array Bool)(a:Act)(w:World):Prop where
 lsz:listed.size=ops.size
 asz:a.tmps.size=a0.tmps.size
 dfs:a.defers=a0.defers
 old:∀t,stays ops t=true->a.tmps[t]? = a0.tmps[t]?
 bag:B w
 fct:∀j,listed.getD j false=true->p j (vw a (L.D j)) w
 clo:∀j,listed.getD j false=true->∀i ∈ L.pre j,listed.getD i false=true
 alo:∀i ∈ L.al,listed.getD i false=true->∃k,Ptr2 a ops i k/\k<w.heap.size
 apt:∀i ∈ L.al,∀j ∈ L.al,i≠j->listed.getD i false=true->listed.getD j false=true->∀k,Ptr2 a ops i k->¬Ptr2 a ops j k
structure Laid2(ops:Array Oper)(L:Plan)(p:Nat->List (Option Value)->World->Prop)(B:World->Prop)(i:Nat)(o:Oper)(a:Act)(w:World)(v:Value)(w':World):Prop where
 bag:B w'
 fct:p i ((L.D i).map (fun t=>if o.dst=some t then some v else a.tmps[t]?)) w'
 size:w.heap.size<=w'.heap.size
 stay:Below w.heap.size w w'∨∀j,j≠i->(∀x ∈ L.al,∀y ∈ L.al,x≠y->x ∈ L.pre i->(y ∈ L.pre j∨y=j)->∀k,Ptr2 a ops x k->¬Ptr2 a ops y k)->p j (vw a (L.D j)) w->p j (vw a (L.D j)) w'
 ptr:i ∈ L.al->∃k,blk v=some k/\w.heap.size<=k/\k<w'.heap.size
def Stp2(P:Program)(ops:Array Oper)(Q:Exit->Act->World->Prop)(L:Plan)(p:Nat->List (Option Value)->World->Prop)(B:World->Prop)(a0:Act)(i:Nat)(o:Oper):Prop :=
 ∀a w,a.tmps.size=a0.tmps.size->(∀t,stays ops t=true->a.tmps[t]? = a0.tmps[t]?)->B w->(∀j ∈ L.pre i,p j (vw a (L.D j)) w) ->
  ∀K:Act->World->Prop,Shut (∀v w',Laid2 ops L p B i o a w v w'->K (a.put o.dst v) w')->if Region.wanted o (yielded ops a.tmps)=true then Oper.wp P o a w K Q else K (a.put o.dst undef) w
inductive Stps2 (P:Program) (ops:Array Oper) (Q:Exit->Act->World->Prop) (L:Plan) (p:Nat->List (Option Value)->World->Prop) (B:World->Prop) (a0:Act):Nat->List Oper->Prop
 | nil (i:Nat):Stps2 P ops Q L p B a0 i []
 | cons {i:Nat} {o:Oper} {l:List Oper}:Stp2 P ops Q L p B a0 i o->Stps2 P ops Q L p B a0 (i+1) l->Stps2 P ops Q L p B a0 i (o::l)
section
variable {P:Program} {md:Region.Mode} {ops:Array Oper} {Q:Exit->Act->World->Prop} {L:Plan} {p:Nat->List (Option Value)->World->Prop} {B:World->Prop} {a0:Act}
theorem Stps2.get:∀ {l:List Oper} {i:Nat},Stps2 P ops Q L p B a0 i l->∀k o,l[k]? = some o->Stp2 P ops Q L p B a0 (i+k) o:=by
 intro l
 induction l with
 | nil=>intro i _ k o h;simp at h
 | cons x l ih =>
  intro i h k o hk
  cases h with
  | cons h1 h2 =>
   cases k with
   | zero=>simp at hk;subst hk;exact h1
   | succ k=>have:=ih h2 k o (by simpa using hk);rwa [Nat.add_assoc,Nat.add_comm 1 k]at this
theorem Inv2.step (ok : L.ok md ops a0.tmps.size = true) (hal : L.al.all (fun i => (dstI ops i).isSome) = true) (stay : ∀ j v w w', Below w.heap.size w w' -> p j v w -> p j v w') {listed : Array Bool} {a : Act} {w : World} (I : Inv2 md ops L p B a0 listed a w) {i : Nat} {o : Oper} (ho : ops[i]? = some o)
    (hu:listed.getD i true=false) (hr:∀e ∈ o.after,Region.binds md e=true->listed.getD e.on false=true) {v:Value} {w':World} (G:Laid2 ops L p B i o a w v w') :
    Inv2 md ops L p B a0 (listed.setIfInBounds i true) (a.put o.dst v) w':=by
 have hi:i<ops.size:=(Array.getElem?_eq_some_iff.1 ho).1;have hil:i<listed.size:=by rw[I.lsz];exact hi
 have hun:=(lgt hu).2;obtain⟨c1,c2,c3⟩:=Plan.ok_spec ok hi;have hd:dstI ops i=o.dst:=by unfold dstI;rw[ho];rfl
 have hpre:∀e ∈ L.pre i,listed.getD e false=true:=by
  intro e he
  rcases c2 e he with h|⟨k,hk,hek⟩
  · obtain⟨x,h1,h2,rfl⟩:=(aft_mem ho).1 h;exact hr x h1 h2
  · obtain⟨x,h1,h2,rfl⟩:=(aft_mem ho).1 hk;exact I.clo _ (hr x h1 h2) e hek
 have hput:∀t,(a.put o.dst v).tmps[t]? = if o.dst=some t then some v else a.tmps[t]? := by
  intro t
  cases hx:o.dst with
  | none=>simp[Act.put]
  | some d =>
   have h4:=(c3 d (hd.trans hx)).1;have h5:d<a.tmps.size:=by rw[I.asz];exact h4
   simp only[Act.put,Array.getElem?_setIfInBounds,Option.some.injEq,if_pos h5]
 have hlj:∀j,listed.getD j false=true->j<ops.size/\j≠i:=by
  intro j hj;refine⟨?_,fun e=>by rw[e,hun]at hj;cases hj⟩;rw[← I.lsz]
  by_cases h:j<listed.size
  · exact h
  · simp[Nat.le_of_not_lt h]at hj
 have hvw:∀j,listed.getD j false=true->vw (a.put o.dst v) (L.D j)=vw a (L.D j):=by
  intro j hj;unfold vw;refine List.map_congr_left (fun t ht => ?_);rw[hput];refine if_neg (fun e => ?_);have h6:=((c3 t (hd.trans e)).2 j (hlj j hj).1 (hlj j hj).2.symm).1 ht;have h7:=I.clo j hj i h6;rw[hun]at h7;cases h7
 have hptr:∀j,listed.getD j false=true->∀k,Ptr2 (a.put o.dst v) ops j k↔Ptr2 a ops j k:=by
  intro j hj k;unfold Ptr2
  constructor
  · rintro⟨d,u,h1,h2,h3⟩;refine⟨d,u,h1,?_,h3⟩;rw[hput,if_neg (fun e=>((c3 d (hd.trans e)).2 j (hlj j hj).1 (hlj j hj).2.symm).2 h1)]at h2;exact h2
  · rintro⟨d,u,h1,h2,h3⟩;refine⟨d,u,h1,?_,h3⟩;rw[hput,if_neg (fun e=>((c3 d (hd.trans e)).2 j (hlj j hj).1 (hlj j hj).2.symm).2 h1)];exact h2
 have hnew:i ∈ L.al->∀k,Ptr2 (a.put o.dst v) ops i k->w.heap.size<=k/\k<w'.heap.size:=by
  intro hal k ⟨d,u,h1,h2,h5⟩;obtain⟨k',hv,h3,h4⟩:=G.ptr hal;rw[hput,if_pos (hd.symm.trans h1)]at h2
  cases h2
  rw[hv]at h5
  cases h5
  exact⟨h3,h4⟩
 have hcase:∀j,(listed.setIfInBounds i true).getD j false=true->j=i∨listed.getD j false=true:=by
  intro j hj;rw[lgd hil,Bool.or_eq_true,decide_eq_true_eq]at hj;exact hj.imp Eq.symm id
 refine⟨by simp[I.lsz],?_,?_,?_,G.bag,?_,?_,?_,?_⟩
 · cases o.dst<;>simp[Act.put,I.asz]
 · cases o.dst<;>simp[Act.put,I.dfs]
 · intro t ht;rw[hput,if_neg,I.old t ht];intro e;unfold stays at ht;rw[List.all_eq_true]at ht;have:=ht i (List.mem_range.2 hi);rw[hd,e]at this
   simp at this
 · intro j hj
   rcases hcase j hj with rfl|hj
   · have:=G.fct;unfold vw;rw[show(L.D j).map (fun t=>(a.put o.dst v).tmps[t]?)=(L.D j).map (fun t=>if o.dst=some t then some v else a.tmps[t]?)from List.map_congr_left (fun t _=>hput t)];exact this
   · rw[hvw j hj]
     rcases G.stay with hb|hs
     · exact stay j _ _ _ hb (I.fct j hj)
     · refine hs j (hlj j hj).2 ?_ (I.fct j hj);intro x hx y hy hxy hxi hyj;exact I.apt x hx y hy hxy (hpre x hxi) (hyj.elim (I.clo j hj y) (fun e=>e▸hj))
 · intro j hj e he;rw[lgd hil,Bool.or_eq_true]
   rcases hcase j hj with rfl|hj
   · exact .inr (hpre e he)
   · exact .inr (I.clo j hj e he)
 · intro j hjal hj
   rcases hcase j hj with rfl|hj
   · obtain⟨k,hv,h3,h4⟩:=G.ptr hjal
     cases hx:o.dst with
     | none =>
      have:=List.all_eq_true.1 hal j hjal;rw[hd,hx]at this;cases this
     | some d=>exact⟨k,⟨d,v,hd.trans hx,by rw[← hx,hput,if_pos hx],hv⟩,h4⟩
   · obtain⟨k,h1,h2⟩:=I.alo j hjal hj;exact⟨k,(hptr j hj k).2 h1,Nat.lt_of_lt_of_le h2 G.size⟩
 · intro x hx y hy hxy hlx0 hly0 k
   rcases hcase x hlx0 with rfl|hlx
   · rcases hcase y hly0 with e|hly
     · exact absurd e.symm hxy
     · intro h1 h2;obtain⟨k',h3,h4⟩:=I.alo y hy hly;obtain⟨d,x1,e1,e2,e5⟩:=(hptr y hly k).1 h2;obtain⟨d',x2,e3,e4,e6⟩:=h3;rw[e1]at e3;cases e3;rw[e2]at e4;cases e4;rw[e5]at e6;cases e6;have:=(hnew hx k h1).1
       omega
   · rcases hcase y hly0 with rfl|hly
     · intro h1 h2;obtain⟨k',h3,h4⟩:=I.alo x hx hlx;obtain⟨d,x1,e1,e2,e5⟩:=(hptr x hlx k).1 h1;obtain⟨d',x2,e3,e4,e6⟩:=h3;rw[e1]at e3;cases e3;rw[e2]at e4;cases e4;rw[e5]at e6;cases e6;have:=(hnew hy k h2).1
       omega
     · intro h1 h2;exact I.apt x hx y hy hxy hlx hly k ((hptr x hlx k).1 h1) ((hptr y hly k).1 h2)
end
def TailWp(P:Program)(ops:Array Oper)(Q:Exit->Act->World->Prop):List Oper->Act->World->Prop
 | [],a,w=>Q .normal a w
 | o::l,a,w=>∀K:Act->World->Prop,Shut (∀a w,TailWp P ops Q l a w->K a w)->if Region.wanted o (yielded ops a.tmps)=true then Oper.wp P o a w K Q else K (a.put o.dst undef) w
section
variable {P:Program} {md:Region.Mode} {ops:Array Oper} {Q:Exit->Act->World->Prop} {L:Plan} {p:Nat->List (Option Value)->World->Prop} {B:World->Prop} {a0:Act}
theorem TailWp.step {l : List Oper} {i : Nat} {o : Oper} {a : Act} {w : World} (h : l[i]? = some o)
    (hk:∀K:Act->World->Prop,Shut (∀a w,TailWp P ops Q (l.drop (i+1)) a w->K a w)->if Region.wanted o (yielded ops a.tmps)=true then Oper.wp P o a w K Q else K (a.put o.dst undef) w):TailWp P ops Q (l.drop i) a w:=by
 obtain⟨hi,he⟩:=List.getElem?_eq_some_iff.1 h;rw[List.drop_eq_getElem_cons hi,he];exact hk
theorem TailWp.end{l:List Oper}{i:Nat}{a:Act}{w:World}(h:l.length=i)(hk:Q .normal a w):TailWp P ops Q (l.drop i) a w:=by
 rw[List.drop_eq_nil_of_le (by omega)];exact hk
end
abbrev upd(f:Nat->Bool)(i:Nat):Nat->Bool:=fun j=>decide (i=j)||f j
theorem upd_set{listed:Array Bool}{i:Nat}(hi:i<listed.size):upd (fun j=>listed.getD j false) i=(fun j=>(listed.setIfInBounds i true).getD j false) :=
 funext fun _=>(lgd hi).symm
theorem ok_lt{md:Region.Mode}{ops:Array Oper}{L:Plan}{m:Nat}(h:L.ok md ops m=true){i:Nat}(hi:i<ops.size):∀e ∈ aft md ops i,e<i:=by
 unfold Plan.ok at h;rw[List.all_eq_true]at h;have h:=h i (List.mem_range.2 hi);simp only[Bool.and_eq_true,List.all_eq_true,decide_eq_true_eq]at h;exact h.1.1
theorem ready_all'{md:Region.Mode}{ops:Array Oper}{L:Plan}{m:Nat}(ok:L.ok md ops m=true){listed:Array Bool}(hs:listed.size=ops.size)(h:Region.ready md ops listed = []):∀j,j<ops.size->listed.getD j false=true:=by
 intro j
 induction j using Nat.strongRecOn with
 | ind j ih =>
  intro hj
  cases hx:listed.getD j false with
  | true=>rfl
  | false =>
   exfalso
   have hm:j ∈ Region.ready md ops listed:=by
    rw[mem_ready]
    refine⟨?_,ops[j],Array.getElem?_eq_getElem hj,fun e he hb => ?_⟩
    · have:j<listed.size:=by rw[hs];exact hj
      simp[this]at hx ⊢;exact hx
    · have h1:=(ok_lt ok hj) e.on ((aft_mem (Array.getElem?_eq_getElem hj)).2 ⟨e,he,hb,rfl⟩);exact ih e.on h1 (Nat.lt_trans h1 hj)
   rw[h]at hm;cases hm
theorem all_listed{md:Region.Mode}{ops:Array Oper}{L:Plan}{m:Nat}(ok:L.ok md ops m=true){listed:Array Bool}(hs:listed.size=ops.size)(h:Region.ready md ops listed = []):(fun j=>listed.getD j false)=(fun j=>decide (j<ops.size)):=by
 funext j
 by_cases hj:j<ops.size
 · rw[decide_eq_true hj];exact ready_all' ok hs h j hj
 · rw[decide_eq_false hj];have:listed.size<=j:=(by omega);simp[this]
structure Inv4(md:Region.Mode)(ops:Array Oper)(L:Plan)(p:Nat->List (Option Value)->World->Prop)(B:(Nat->Bool)->World->Prop)(a0:Act)(listed:Array Bool)(a:Act)(w:World):Prop where
 lsz:listed.size=ops.size
 asz:a.tmps.size=a0.tmps.size
 dfs:a.defers=a0.defers
 old:∀t,stays ops t=true->a.tmps[t]? = a0.tmps[t]?
 bag:B (fun j=>listed.getD j false) w
 fct:∀j,listed.getD j false=true->p j (vw a (L.D j)) w
 clo:∀j,listed.getD j false=true->∀i ∈ L.pre j,listed.getD i false=true
 alo:∀i ∈ L.al,listed.getD i false=true->∃k,Ptr2 a ops i k/\k<w.heap.size
 apt:∀i ∈ L.al,∀j ∈ L.al,i≠j->listed.getD i false=true->listed.getD j false=true->∀k,Ptr2 a ops i k->¬Ptr2 a ops j k
structure Laid4(ops:Array Oper)(L:Plan)(p:Nat->List (Option Value)->World->Prop)(B:(Nat->Bool)->World->Prop)(f:Nat->Bool)(i:Nat)(o:Oper)(a:Act)(w:World)(v:Value)(w':World):Prop where
 bag:B (upd f i) w'
 fct:p i ((L.D i).map (fun t=>if o.dst=some t then some v else a.tmps[t]?)) w'
 size:w.heap.size<=w'.heap.size
 stay:Below w.heap.size w w'∨∀j,j≠i->(∀x ∈ L.al,∀y ∈ L.al,x≠y->x ∈ L.pre i->(y ∈ L.pre j∨y=j)->∀k,Ptr2 a ops x k->¬Ptr2 a ops y k)->p j (vw a (L.D j)) w->p j (vw a (L.D j)) w'
 ptr:i ∈ L.al->∃k,blk v=some k/\w.heap.size<=k/\k<w'.heap.size
def Stp4(P:Program)(ops:Array Oper)(Q:Exit->Act->World->Prop)(L:Plan)(p:Nat->List (Option Value)->World->Prop)(B:(Nat->Bool)->World->Prop)(a0:Act)(i:Nat)(o:Oper):Prop :=
 ∀f a w,a.tmps.size=a0.tmps.size->(∀t,stays ops t=true->a.tmps[t]? = a0.tmps[t]?)->B f w->(∀j ∈ L.pre i,p j (vw a (L.D j)) w)->(∀j,i ∈ L.pre j->f j=false) ->
  ∀K:Act->World->Prop,Shut (∀v w',Laid4 ops L p B f i o a w v w'->K (a.put o.dst v) w')->if Region.wanted o (yielded ops a.tmps)=true then Oper.wp P o a w K Q else K (a.put o.dst undef) w
inductive Stps4 (P:Program) (ops:Array Oper) (Q:Exit->Act->World->Prop) (L:Plan) (p:Nat->List (Option Value)->World->Prop) (B:(Nat->Bool)->World->Prop) (a0:Act):Nat->List Oper->Prop
 | nil (i:Nat):Stps4 P ops Q L p B a0 i []
 | cons {i:Nat} {o:Oper} {l:List Oper}:Stp4 P ops Q L p B a0 i o->Stps4 P ops Q L p B a0 (i+1) l->Stps4 P ops Q L p B a0 i (o::l)
section
variable {P:Program} {md:Region.Mode} {ops:Array Oper} {Q:Exit->Act->World->Prop} {L:Plan} {p:Nat->List (Option Value)->World->Prop} {B:(Nat->Bool)->World->Prop} {a0:Act}
theorem Stps4.get:∀ {l:List Oper} {i:Nat},Stps4 P ops Q L p B a0 i l->∀k o,l[k]? = some o->Stp4 P ops Q L p B a0 (i+k) o:=by
 intro l
 induction l with
 | nil=>intro i _ k o h;simp at h
 | cons x l ih =>
  intro i h k o hk
  cases h with
  | cons h1 h2 =>
   cases k with
   | zero=>simp at hk;subst hk;exact h1
   | succ k=>have:=ih h2 k o (by simpa using hk);rwa [Nat.add_assoc,Nat.add_comm 1 k]at this
theorem Inv4.step (ok : L.ok md ops a0.tmps.size = true) (hal : L.al.all (fun i => (dstI ops i).isSome) = true) (stay : ∀ j v w w', Below w.heap.size w w' -> p j v w -> p j v w') {listed : Array Bool} {a : Act} {w : World} (I : Inv4 md ops L p B a0 listed a w) {i : Nat} {o : Oper} (ho : ops[i]? = some o)
    (hu:listed.getD i true=false) (hr:∀e ∈ o.after,Region.binds md e=true->listed.getD e.on false=true) {v:Value} {w':World} (G:Laid4 ops L p B (fun j=>listed.getD j false) i o a w v w') :
    Inv4 md ops L p B a0 (listed.setIfInBounds i true) (a.put o.dst v) w':=by
 have hi:i<ops.size:=(Array.getElem?_eq_some_iff.1 ho).1;have hil:i<listed.size:=by rw[I.lsz];exact hi
 have hun:=(lgt hu).2;obtain⟨c1,c2,c3⟩:=Plan.ok_spec ok hi;have hd:dstI ops i=o.dst:=by unfold dstI;rw[ho];rfl
 have hpre:∀e ∈ L.pre i,listed.getD e false=true:=by
  intro e he
  rcases c2 e he with h|⟨k,hk,hek⟩
  · obtain⟨x,h1,h2,rfl⟩:=(aft_mem ho).1 h;exact hr x h1 h2
  · obtain⟨x,h1,h2,rfl⟩:=(aft_mem ho).1 hk;exact I.clo _ (hr x h1 h2) e hek
 have hput:∀t,(a.put o.dst v).tmps[t]? = if o.dst=some t then some v else a.tmps[t]? := by
  intro t
  cases hx:o.dst with
  | none=>simp[Act.put]
  | some d =>
   have h4:=(c3 d (hd.trans hx)).1;have h5:d<a.tmps.size:=by rw[I.asz];exact h4
   simp only[Act.put,Array.getElem?_setIfInBounds,Option.some.injEq,if_pos h5]
 have hlj:∀j,listed.getD j false=true->j<ops.size/\j≠i:=by
  intro j hj;refine⟨?_,fun e=>by rw[e,hun]at hj;cases hj⟩;rw[← I.lsz]
  by_cases h:j<listed.size
  · exact h
  · simp[Nat.le_of_not_lt h]at hj
 have hvw:∀j,listed.getD j false=true->vw (a.put o.dst v) (L.D j)=vw a (L.D j):=by
  intro j hj;unfold vw;refine List.map_congr_left (fun t ht => ?_);rw[hput];refine if_neg (fun e => ?_);have h6:=((c3 t (hd.trans e)).2 j (hlj j hj).1 (hlj j hj).2.symm).1 ht;have h7:=I.clo j hj i h6;rw[hun]at h7;cases h7
 have hptr:∀j,listed.getD j false=true->∀k,Ptr2 (a.put o.dst v) ops j k↔Ptr2 a ops j k:=by
  intro j hj k;unfold Ptr2
  constructor
  · rintro⟨d,u,h1,h2,h3⟩;refine⟨d,u,h1,?_,h3⟩;rw[hput,if_neg (fun e=>((c3 d (hd.trans e)).2 j (hlj j hj).1 (hlj j hj).2.symm).2 h1)]at h2;exact h2
  · rintro⟨d,u,h1,h2,h3⟩;refine⟨d,u,h1,?_,h3⟩;rw[hput,if_neg (fun e=>((c3 d (hd.trans e)).2 j (hlj j hj).1 (hlj j hj).2.symm).2 h1)];exact h2
 have hnew:i ∈ L.al->∀k,Ptr2 (a.put o.dst v) ops i k->w.heap.size<=k/\k<w'.heap.size:=by
  intro hal k ⟨d,u,h1,h2,h5⟩;obtain⟨k',hv,h3,h4⟩:=G.ptr hal;rw[hput,if_pos (hd.symm.trans h1)]at h2
  cases h2
  rw[hv]at h5
  cases h5
  exact⟨h3,h4⟩
 have hcase:∀j,(listed.setIfInBounds i true).getD j false=true->j=i∨listed.getD j false=true:=by
  intro j hj;rw[lgd hil,Bool.or_eq_true,decide_eq_true_eq]at hj;exact hj.imp Eq.symm id
 refine⟨by simp[I.lsz],?_,?_,?_,(upd_set hil▸G.bag),?_,?_,?_,?_⟩
 · cases o.dst<;>simp[Act.put,I.asz]
 · cases o.dst<;>simp[Act.put,I.dfs]
 · intro t ht;rw[hput,if_neg,I.old t ht];intro e;unfold stays at ht;rw[List.all_eq_true]at ht;have:=ht i (List.mem_range.2 hi);rw[hd,e]at this
   simp at this
 · intro j hj
   rcases hcase j hj with rfl|hj
   · have:=G.fct;unfold vw;rw[show(L.D j).map (fun t=>(a.put o.dst v).tmps[t]?)=(L.D j).map (fun t=>if o.dst=some t then some v else a.tmps[t]?)from List.map_congr_left (fun t _=>hput t)];exact this
   · rw[hvw j hj]
     rcases G.stay with hb|hs
     · exact stay j _ _ _ hb (I.fct j hj)
     · refine hs j (hlj j hj).2 ?_ (I.fct j hj);intro x hx y hy hxy hxi hyj;exact I.apt x hx y hy hxy (hpre x hxi) (hyj.elim (I.clo j hj y) (fun e=>e▸hj))
 · intro j hj e he;rw[lgd hil,Bool.or_eq_true]
   rcases hcase j hj with rfl|hj
   · exact .inr (hpre e he)
   · exact .inr (I.clo j hj e he)
 · intro j hjal hj
   rcases hcase j hj with rfl|hj
   · obtain⟨k,hv,h3,h4⟩:=G.ptr hjal
     cases hx:o.dst with
     | none =>
      have:=List.all_eq_true.1 hal j hjal;rw[hd,hx]at this;cases this
     | some d=>exact⟨k,⟨d,v,hd.trans hx,by rw[← hx,hput,if_pos hx],hv⟩,h4⟩
   · obtain⟨k,h1,h2⟩:=I.alo j hjal hj;exact⟨k,(hptr j hj k).2 h1,Nat.lt_of_lt_of_le h2 G.size⟩
 · intro x hx y hy hxy hlx0 hly0 k
   rcases hcase x hlx0 with rfl|hlx
   · rcases hcase y hly0 with e|hly
     · exact absurd e.symm hxy
     · intro h1 h2;obtain⟨k',h3,h4⟩:=I.alo y hy hly;obtain⟨d,x1,e1,e2,e5⟩:=(hptr y hly k).1 h2;obtain⟨d',x2,e3,e4,e6⟩:=h3;rw[e1]at e3;cases e3;rw[e2]at e4;cases e4;rw[e5]at e6;cases e6;have:=(hnew hx k h1).1
       omega
   · rcases hcase y hly0 with rfl|hly
     · intro h1 h2;obtain⟨k',h3,h4⟩:=I.alo x hx hlx;obtain⟨d,x1,e1,e2,e5⟩:=(hptr x hlx k).1 h1;obtain⟨d',x2,e3,e4,e6⟩:=h3;rw[e1]at e3;cases e3;rw[e2]at e4;cases e4;rw[e5]at e6;cases e6;have:=(hnew hy k h2).1
       omega
     · intro h1 h2;exact I.apt x hx y hy hxy hlx hly k ((hptr x hlx k).1 h1) ((hptr y hly k).1 h2)
theorem wpAny_inv4 (ok : L.ok md ops a0.tmps.size = true) (hal : L.al.all (fun i => (dstI ops i).isSome) = true) (stay : ∀ j v w w', Below w.heap.size w w' -> p j v w -> p j v w') (steps : Stps4 P ops Q L p B a0 0 ops.toList)
    (done:∀a w,a.tmps.size=a0.tmps.size->a.defers=a0.defers->(∀t,stays ops t=true->a.tmps[t]? = a0.tmps[t]?)->B (fun j=>decide (j<ops.size)) w->(∀j,j<ops.size->p j (vw a (L.D j)) w)->Q .normal a w) :
    ∀(fuel:Nat) (listed:Array Bool) (a:Act) (w:World),Inv4 md ops L p B a0 listed a w->(List.range ops.size).countP (fun i => !listed.getD i true)<=fuel->wpAny P md ops Q fuel listed a w:=by
 intro fuel
 induction fuel with
 | zero =>
  intro listed a w I hc
  have hall:∀j,j<ops.size->listed.getD j true=true:=by
   intro j hj;have:=List.countP_eq_zero.1 (Nat.le_zero.1 hc) j (List.mem_range.2 hj)
   simpa using this
  have hr:Region.ready md ops listed = []:=by
   rw[List.eq_nil_iff_forall_not_mem];intro j hj;obtain⟨h1,o,h2,_⟩:=mem_ready.1 hj;rw[hall j (Array.getElem?_eq_some_iff.1 h2).1]at h1;cases h1
  exact⟨hr,done a w I.asz I.dfs I.old (all_listed ok I.lsz hr▸I.bag) (fun j hj=>I.fct j (ready_all ok I.lsz hr j hj))⟩
 | succ fuel ih =>
  intro listed a w I hc;refine⟨fun hr=>done a w I.asz I.dfs I.old (all_listed ok I.lsz hr▸I.bag) (fun j hj=>I.fct j (ready_all ok I.lsz hr j hj)),fun i hi => ?_⟩;obtain⟨hu,o,ho,hr⟩:=mem_ready.1 hi;have hio:i<ops.size:=(Array.getElem?_eq_some_iff.1 ho).1;have hst:=steps.get i o (by rw[Array.getElem?_toList];exact ho);rw[Nat.zero_add]at hst
  have hpre:∀e ∈ L.pre i,listed.getD e false=true:=by
   intro e he
   rcases(Plan.ok_spec ok hio).2.1 e he with h|⟨k,hk,hek⟩
   · obtain⟨x,h1,h2,rfl⟩:=(aft_mem ho).1 h;exact hr x h1 h2
   · obtain⟨x,h1,h2,rfl⟩:=(aft_mem ho).1 hk;exact I.clo _ (hr x h1 h2) e hek
  have hno:∀j,i ∈ L.pre j->listed.getD j false=false:=by
   intro j hj
   cases hx:listed.getD j false with
   | false=>rfl
   | true =>
    have h1:=I.clo j hx i hj;rw[(lgt hu).2]at h1;cases h1
  refine wpOp_step ho (fun K hK=>hst _ a w I.asz I.old I.bag (fun j hj=>I.fct j (hpre j hj)) (fun j hj=>hno j hj) K (fun v w' G=>hK _ _ (ih _ _ _ (I.step ok hal stay ho hu hr G) ?_)));have hil:i<listed.size:=by rw[I.lsz];exact hio
  have hun:listed[i]=false:=by simpa[hil]using hu
  have:=cnt_set (fun j => !listed.getD j true) (fun j => !(listed.setIfInBounds i true).getD j true) i (by simp[hil,hun]) (by simp[hil]) (fun j hj=>by simp[Ne.symm hj]) ops.size;rw[if_pos hio]at this
  omega
theorem wp_region_inv4 {id : Nat} {l : List Oper} {w : World} (L : Plan) (p : Nat -> List (Option Value) -> World -> Prop) (B : (Nat -> Bool) -> World -> Prop) (hm : P.follows .mixedOrders = true) (ok : L.ok .any l.toArray a0.tmps.size = true) (hal : L.al.all (fun i => (dstI l.toArray i).isSome) = true)
    (hB:B (fun _=>false) w.drew) (stay:∀j v w w',Below w.heap.size w w'->p j v w->p j v w')
    (done:∀a w,a.tmps.size=a0.tmps.size->a.defers=a0.defers->(∀t,stays l.toArray t=true->a.tmps[t]? = a0.tmps[t]?)->B (fun j=>decide (j<l.length)) w->(∀j,j<l.length->p j (vw a (L.D j)) w)->Q .normal a w)
    (steps:Stps4 P l.toArray Q L p B a0 0 l) :
    (Code.region id l.toArray true).wp P Q a0 w:=by
 refine wp_region_any hm (wpAny_inv4 ok hal stay steps (fun a w h1 h2 h3 h4 h5=>done a w h1 h2 h3 (by simpa using h4) (fun j hj=>h5 j (by simpa using hj))) _ _ _ _ ⟨by simp,rfl,rfl,fun _ _=>rfl,(by rw[show(fun j=>(Array.replicate l.toArray.size false).getD j false)=(fun _=>false)from funext (fun j=>lg0 _ j)];exact hB),?_,?_,?_,?_⟩ ?_)
 · intro j hj;rw[lg0]at hj;cases hj
 · intro j hj;rw[lg0]at hj;cases hj
 · intro j _ hj;rw[lg0]at hj;cases hj
 · intro j _ i _ _ hj;rw[lg0]at hj;cases hj
 · exact Nat.le_trans List.countP_le_length (by simp)
end
end Go.Proofs.YtdmmenaejkpnjaaGreatDoor
namespace Go.Proofs.YtdmmenaejkpnjaaGreatDoor
open Go.RowKit
attribute [local go_sem ↓] Go.wp_at_zero Go.wp_at_succ
theorem ratFloor_any (a : Option Addr) (n c : Nat) (m : Bool) (a2 : Option Addr) (n2 c2 : Nat) (P : Int) (Q : Nat) (w : World) (h : RatAt w a n c m a2 n2 c2 P Q) (hQ : 0 < Q) (K : Nat) (hK : K <= 800000) (h1 : P.natAbs < 4294967296 ^ K) :
    Calls Tryz.prog 206 #[.agg #[.slice a n c,.bool m,.slice a2 n2 c2]] w fun e w'=>IntTold w w' e (flQ P Q):=by
 have B0:=((Bag.start w).rat h).box3 (.slice a n c) (.bool m) (.slice a2 n2 c2) 53 |>.box2 (.slice none 0 0) (.bool false) 51
 simp only[World.size_alloc]at B0;have BL:=Lib.hid (fun wz (h:RatAt wz a n c m a2 n2 c2 P Q)=>below_any a n c m a2 n2 c2 P Q wz h hQ);have FL:=Lib.hid (fun a2 n2 c2 m2 wz (h:IntAt wz a n c m P) (g:IntAt wz a2 n2 c2 m2 (Q:Int))=>floor_any a n c m P a2 n2 c2 m2 Q wz h g K hK h1 (by omega));unfold FloorTold at FL;generalize flQ P (Q:Int)=Z at *;generalize flR P (Q:Int)=Y at *;have BB:=Lib.hid B0;clear h B0 hQ h1;go_enter Tryz.func206,Tryz.ntmps206;go_wp2_with fail
 have HP:Hid (∀(y:World) (k:Nat) {x0:Option Addr} {y0 z0:Nat} {b0:Bool},Slot2 y k (.slice x0 y0 z0) (.bool b0)->w.heap.size+1<k->Bag w (fun y=>Slot2 y (w.heap.size+1) (.slice none 0 0) (.bool false)/\Slot3 y w.heap.size (.slice a n c) (.bool m) (.slice a2 n2 c2)/\RatAt y a n c m a2 n2 c2 P Q/\True) y->∀(a9:Option Addr) (n9 c9:Nat) (m9:Bool),Bag w (fun y=>Slot2 y (w.heap.size+1) (.slice none 0 0) (.bool false)/\Slot3 y w.heap.size (.slice a n c) (.bool m) (.slice a2 n2 c2)/\RatAt y a n c m a2 n2 c2 P Q/\True) ((y.setCell ⟨k,0,none⟩ (.slice a9 n9 c9)).setCell ⟨k,1,none⟩ (.bool m9))):=by
  intro y k x0 y0 z0 b0 s hk B a9 n9 c9 m9;have hx:∀(x:Option Addr) (y z:Nat) (ki:IntKind) (i:Int),(Value.slice x y z) ≠ .int ki i:=fun _ _ _ _ _ h=>by cases h
  have hb:∀(x:Bool) (ki:IntKind) (i:Int),(Value.bool x) ≠ .int ki i:=fun _ _ _ h=>by cases h
  have q:=B.now
  exact⟨(B.below.setCell (p:=⟨k,0,none⟩) (show w.heap.size<=k by omega) _).setCell (p:=⟨k,1,none⟩) (show w.heap.size<=k by omega) _,B.stay,q.1.set2o (by omega) _ _,q.2.1.set2o (by omega) _ _,
   ⟨⟨q.2.2.1.int.1,q.2.2.1.int.nt.set2b s (hx _ _ _) (hb _) _ _⟩,q.2.2.1.low.set2b s (hx _ _ _) (hb _) _ _⟩,trivial⟩
 refine wp_region_inv ⟨(fun j=>([[7], [8], [9], [10], [11], [6], [12], [13], [14], [3], [4], [3], [4], [5]]:List (List Nat)).getD j []),(fun j=>([[], [0], [], [2], [0,1,2,3], [0,1,2,3,4], [0,1,2,3,4,5], [0,1,2,3,4,5], [0,1,2,3,4,5], [], [], [0,1,2,3,4,5,6,9,10], [0,1,2,3,4,5,6,7,9,10,11], [0,1,2,3,4,5,6,7,8,9,10,11,12]]:List (List Nat)).getD j []), [9,10]⟩ (fun jj vv yy=>match jj with|0=>vv = [some (.pointer (some ⟨w.heap.size,0,none⟩))]|1=>vv = [some (.agg #[.slice a n c,.bool m])]|2=>vv = [some (.agg #[.slice a n c,.bool m,.slice a2 n2 c2])]|3=>∃(a3:Option Addr),∃(n3:Nat),∃(c3:Nat),∃(m3:Bool),vv = [some (.agg #[.slice a3 n3 c3,.bool m3])]/\IntAt yy a3 n3 c3 m3 (Q:Int)|4=>∃(a5:Option Addr),∃(n5:Nat),∃(c5:Nat),∃(m5:Bool),∃(a6:Option Addr),∃(n6:Nat),∃(c6:Nat),∃(m6:Bool),vv = [some (.tuple #[.agg #[.slice a5 n5 c5,.bool m5],.agg #[.slice a6 n6 c6,.bool m6],.bool true])]/\IntAt yy a5 n5 c5 m5 Z/\IntAt yy a6 n6 c6 m6 Y|5=>∃(a5:Option Addr),∃(n5:Nat),∃(c5:Nat),∃(m5:Bool),∃(a6:Option Addr),∃(n6:Nat),∃(c6:Nat),∃(m6:Bool),vv = [some (.tuple #[.agg #[.slice a5 n5 c5,.bool m5],.agg #[.slice a6 n6 c6,.bool m6],.bool true])]/\IntAt yy a5 n5 c5 m5 Z/\IntAt yy a6 n6 c6 m6 Y|6=>∃(a5:Option Addr),∃(n5:Nat),∃(c5:Nat),∃(m5:Bool),vv = [some (.agg #[.slice a5 n5 c5,.bool m5])]/\IntAt yy a5 n5 c5 m5 Z|7=>∃(a6:Option Addr),∃(n6:Nat),∃(c6:Nat),∃(m6:Bool),vv = [some (.agg #[.slice a6 n6 c6,.bool m6])]/\IntAt yy a6 n6 c6 m6 Y|8=>vv = [some (.bool true)]|9=>∃(k9:Nat),∃(x0:Option Addr),∃(y0:Nat),∃(z0:Nat),∃(b0:Bool),vv = [some (.pointer (some ⟨k9,0,none⟩))]/\Slot2 yy k9 (.slice x0 y0 z0) (.bool b0)/\w.heap.size+1<k9|10=>∃(k10:Nat),∃(x0:Option Addr),∃(y0:Nat),∃(z0:Nat),∃(b0:Bool),vv = [some (.pointer (some ⟨k10,0,none⟩))]/\Slot2 yy k10 (.slice x0 y0 z0) (.bool b0)/\w.heap.size+1<k10|11=>∃(k9:Nat),∃(a5:Option Addr),∃(n5:Nat),∃(c5:Nat),∃(m5:Bool),vv = [some (.pointer (some ⟨k9,0,none⟩))]/\Slot2 yy k9 (.slice a5 n5 c5) (.bool m5)/\IntAt yy a5 n5 c5 m5 Z|12=>∃(k10:Nat),∃(a6:Option Addr),∃(n6:Nat),∃(c6:Nat),∃(m6:Bool),vv = [some (.pointer (some ⟨k10,0,none⟩))]/\Slot2 yy k10 (.slice a6 n6 c6) (.bool m6)/\IntAt yy a6 n6 c6 m6 Y|13=>vv = [some (.bool true)]|_=>True) (Bag w (fun y=>Slot2 y (w.heap.size+1) (.slice none 0 0) (.bool false)/\Slot3 y w.heap.size (.slice a n c) (.bool m) (.slice a2 n2 c2)/\RatAt y a n c m a2 n2 c2 P Q/\True)) (by kernel_rfl) (by kernel_rfl) (by kernel_rfl) BB.out.drew ?_ ?_ ?_
 · intro jj vv yw yw2 hb h
   match jj,h with
   | 0,h=>exact h
   | 1,h=>exact h
   | 2,h=>exact h
   | 3,⟨a3,n3,c3,m3,e3,g3_0⟩=>exact Exists.intro a3 (Exists.intro n3 (Exists.intro c3 (Exists.intro m3 (And.intro e3 (g3_0.below hb)))))
   | 4,⟨a5,n5,c5,m5,a6,n6,c6,m6,e4,g4_0,g4_1⟩=>exact Exists.intro a5 (Exists.intro n5 (Exists.intro c5 (Exists.intro m5 (Exists.intro a6 (Exists.intro n6 (Exists.intro c6 (Exists.intro m6 (And.intro e4 (And.intro (g4_0.below hb) (g4_1.below hb))))))))))
   | 5,⟨a5,n5,c5,m5,a6,n6,c6,m6,e5,g5_0,g5_1⟩=>exact Exists.intro a5 (Exists.intro n5 (Exists.intro c5 (Exists.intro m5 (Exists.intro a6 (Exists.intro n6 (Exists.intro c6 (Exists.intro m6 (And.intro e5 (And.intro (g5_0.below hb) (g5_1.below hb))))))))))
   | 6,⟨a5,n5,c5,m5,e6,g6_0⟩=>exact Exists.intro a5 (Exists.intro n5 (Exists.intro c5 (Exists.intro m5 (And.intro e6 (g6_0.below hb)))))
   | 7,⟨a6,n6,c6,m6,e7,g7_0⟩=>exact Exists.intro a6 (Exists.intro n6 (Exists.intro c6 (Exists.intro m6 (And.intro e7 (g7_0.below hb)))))
   | 8,h=>exact h
   | 9,⟨k9,x0,y0,z0,b0,e9,g9_0,g9_1⟩=>exact Exists.intro k9 (Exists.intro x0 (Exists.intro y0 (Exists.intro z0 (Exists.intro b0 (And.intro e9 (And.intro (g9_0.below hb) g9_1))))))
   | 10,⟨k10,x0,y0,z0,b0,e10,g10_0,g10_1⟩=>exact Exists.intro k10 (Exists.intro x0 (Exists.intro y0 (Exists.intro z0 (Exists.intro b0 (And.intro e10 (And.intro (g10_0.below hb) g10_1))))))
   | 11,⟨k9,a5,n5,c5,m5,e11,g11_0,g11_1⟩=>exact Exists.intro k9 (Exists.intro a5 (Exists.intro n5 (Exists.intro c5 (Exists.intro m5 (And.intro e11 (And.intro (g11_0.below hb) (g11_1.below hb)))))))
   | 12,⟨k10,a6,n6,c6,m6,e12,g12_0,g12_1⟩=>exact Exists.intro k10 (Exists.intro a6 (Exists.intro n6 (Exists.intro c6 (Exists.intro m6 (And.intro e12 (And.intro (g12_0.below hb) (g12_1.below hb)))))))
   | 13,h=>exact h
   | _+14,h=>exact h
 · intro ac yw hsz hdf hold hB hp;obtain⟨k9,a5,n5,c5,m5,e11,sA,hi5⟩:=hp 11 (by decide);have t3:ac.tmps[3]? = some (.pointer (some ⟨k9,0,none⟩)):=(List.cons.inj e11).1;have t2:ac.tmps[2]? = some (.pointer (some ⟨w.heap.size+1,0,none⟩)):=hold 2 (by kernel_rfl);clear hold hp e11;obtain⟨⟨l⟩,df⟩:=ac
   match l,hsz with
   | [u0,u1,u2,u3,u4,u5,u6,u7,u8,u9,u10,u11,u12,u13,u14,u15],_ =>
   obtain rfl:=Option.some.inj (show some u2=_ from t2);obtain rfl:=Option.some.inj (show some u3=_ from t3);have q0:=sA.cell;have q1:=sA.cell1;have hs:=hB.now.1;have hc:=hs.cell;have hc1:=hs.cell1;have hf:=hs.free;have hf1:=hs.free1;have HS:=hs.set (.slice a5 n5 c5) (.bool m5);have HE:=Lib.hid (IntTold.done hB.below (by omega) hs (fun _ _ h=>by cases h) hi5);clear hB sA hi5 hs;go_wp2;exact bodyPost_ret (by simp[results,Tryz.results206,go_sem,HS]) rfl HE.out
 refine Stps.cons (o:=_) ?_ ?_
 · intro ac yw hsz hold hB hp K hK;have t1:ac.tmps[1]? = some (.pointer (some ⟨w.heap.size,0,none⟩)):=hold 1 (by kernel_rfl);clear hold hp hsz;go_simp;exact hK.out _ _ ⟨hB,rfl,Nat.le_refl _,.inl (Below.refl _ _),fun h=>absurd h (by decide)⟩
 refine Stps.cons (o:=_) ?_ ?_
 · intro ac yw hsz hold hB hp K hK;have e0:=hp 0 (by decide);have t7:ac.tmps[7]? = some (.pointer (some ⟨w.heap.size,0,none⟩)):=(List.cons.inj e0).1;clear hold hp hsz e0;have⟨q0,q1,q2⟩:=hB.now.2.1.c3;go_simp;exact hK.out _ _ ⟨hB,rfl,Nat.le_refl _,.inl (Below.refl _ _),fun h=>absurd h (by decide)⟩
 refine Stps.cons (o:=_) ?_ ?_
 · intro ac yw hsz hold hB hp K hK;have t1:ac.tmps[1]? = some (.pointer (some ⟨w.heap.size,0,none⟩)):=hold 1 (by kernel_rfl);clear hold hp hsz;have⟨q0,q1,q2⟩:=hB.now.2.1.c3;go_simp;exact hK.out _ _ ⟨hB,rfl,Nat.le_refl _,.inl (Below.refl _ _),fun h=>absurd h (by decide)⟩
 refine Stps.cons (o:=_) ?_ ?_
 · intro ac yw hsz hold hB hp K hK;have e2:=hp 2 (by decide);have t9:ac.tmps[9]? = some (.agg #[.slice a n c,.bool m,.slice a2 n2 c2]):=(List.cons.inj e2).1;clear hold hp hsz e2;go_simp
   (go_at_call 123;(with_reducible refine(BL.out _ hB.now.2.2.1).mono ?_);rintro e wz ⟨a3,n3,c3,m3,rfl,h3_0,hbz⟩)
   exact hK.out _ _ ⟨hB.go hbz,Exists.intro a3 (Exists.intro n3 (Exists.intro c3 (Exists.intro m3 (And.intro rfl h3_0)))),hbz.size,.inl hbz,fun h=>absurd h (by decide)⟩
 refine Stps.cons (o:=_) ?_ ?_
 · intro ac yw hsz hold hB hp K hK;have e1:=hp 1 (by decide);have t8:ac.tmps[8]? = some (.agg #[.slice a n c,.bool m]):=(List.cons.inj e1).1;obtain⟨a3_3,n3_3,c3_3,m3_3,e3,g3_0⟩:=hp 3 (by decide);have t10:ac.tmps[10]? = some (.agg #[.slice a3_3 n3_3 c3_3,.bool m3_3]):=(List.cons.inj e3).1;clear hold hp hsz e1 e3;go_simp
   (go_at_call 230;(with_reducible refine(FL.out _ _ _ _ _ hB.now.2.2.1.int g3_0).mono ?_);rintro e wz ⟨a5,n5,c5,m5,a6,n6,c6,m6,rfl,h4_0,h4_1,hbz⟩)
   exact hK.out _ _ ⟨hB.go hbz,Exists.intro a5 (Exists.intro n5 (Exists.intro c5 (Exists.intro m5 (Exists.intro a6 (Exists.intro n6 (Exists.intro c6 (Exists.intro m6 (And.intro rfl (And.intro h4_0 h4_1))))))))),hbz.size,.inl hbz,fun h=>absurd h (by decide)⟩
 refine Stps.cons (o:=_) ?_ ?_
 · intro ac yw hsz hold hB hp K hK;obtain⟨a5_4,n5_4,c5_4,m5_4,a6_4,n6_4,c6_4,m6_4,e4,g4_0,g4_1⟩:=hp 4 (by decide);have t11:ac.tmps[11]? = some (.tuple #[.agg #[.slice a5_4 n5_4 c5_4,.bool m5_4],.agg #[.slice a6_4 n6_4 c6_4,.bool m6_4],.bool true]):=(List.cons.inj e4).1;clear hold hp hsz e4;go_simp;exact hK.out _ _ ⟨hB,Exists.intro a5_4 (Exists.intro n5_4 (Exists.intro c5_4 (Exists.intro m5_4 (Exists.intro a6_4 (Exists.intro n6_4 (Exists.intro c6_4 (Exists.intro m6_4 (And.intro rfl (And.intro g4_0 g4_1))))))))),Nat.le_refl _,.inl (Below.refl _ _),fun h=>absurd h (by decide)⟩
 refine Stps.cons (o:=_) ?_ ?_
 · intro ac yw hsz hold hB hp K hK;obtain⟨a5_5,n5_5,c5_5,m5_5,a6_5,n6_5,c6_5,m6_5,e5,g5_0,g5_1⟩:=hp 5 (by decide);have t6:ac.tmps[6]? = some (.tuple #[.agg #[.slice a5_5 n5_5 c5_5,.bool m5_5],.agg #[.slice a6_5 n6_5 c6_5,.bool m6_5],.bool true]):=(List.cons.inj e5).1;clear hold hp hsz e5;go_simp;exact hK.out _ _ ⟨hB,Exists.intro a5_5 (Exists.intro n5_5 (Exists.intro c5_5 (Exists.intro m5_5 (And.intro rfl g5_0)))),Nat.le_refl _,.inl (Below.refl _ _),fun h=>absurd h (by decide)⟩
 refine Stps.cons (o:=_) ?_ ?_
 · intro ac yw hsz hold hB hp K hK;obtain⟨a5_5,n5_5,c5_5,m5_5,a6_5,n6_5,c6_5,m6_5,e5,g5_0,g5_1⟩:=hp 5 (by decide);have t6:ac.tmps[6]? = some (.tuple #[.agg #[.slice a5_5 n5_5 c5_5,.bool m5_5],.agg #[.slice a6_5 n6_5 c6_5,.bool m6_5],.bool true]):=(List.cons.inj e5).1;clear hold hp hsz e5;go_simp;exact hK.out _ _ ⟨hB,Exists.intro a6_5 (Exists.intro n6_5 (Exists.intro c6_5 (Exists.intro m6_5 (And.intro rfl g5_1)))),Nat.le_refl _,.inl (Below.refl _ _),fun h=>absurd h (by decide)⟩
 refine Stps.cons (o:=_) ?_ ?_
 · intro ac yw hsz hold hB hp K hK;obtain⟨a5_5,n5_5,c5_5,m5_5,a6_5,n6_5,c6_5,m6_5,e5,g5_0,g5_1⟩:=hp 5 (by decide);have t6:ac.tmps[6]? = some (.tuple #[.agg #[.slice a5_5 n5_5 c5_5,.bool m5_5],.agg #[.slice a6_5 n6_5 c6_5,.bool m6_5],.bool true]):=(List.cons.inj e5).1;clear hold hp hsz e5;go_simp;exact hK.out _ _ ⟨hB,rfl,Nat.le_refl _,.inl (Below.refl _ _),fun h=>absurd h (by decide)⟩
 refine Stps.cons (o:=_) ?_ ?_
 · intro ac yw hsz hold hB hp K hK;clear hold hp hsz;have hk0:=hB.now.1.lt;have hsl:=Slot2.new yw (.slice none 0 0) (.bool false) 51;have hbz:Below yw.heap.size yw (yw.alloc (.cells #[.slice none 0 0,.bool false] 51))/\yw.heap.size<(yw.alloc (.cells #[.slice none 0 0,.bool false] 51)).heap.size:=⟨(Below.refl _ _).alloc (Nat.le_refl _) _,by simp⟩
   go_simp;exact hK.out _ _ ⟨hB.alloc _,Exists.intro yw.heap.size (Exists.intro none (Exists.intro 0 (Exists.intro 0 (Exists.intro false (And.intro rfl (And.intro hsl hk0)))))),Nat.le_of_lt hbz.2,.inl hbz.1,fun _=>⟨_,rfl,Nat.le_refl _,hbz.2⟩⟩
 refine Stps.cons (o:=_) ?_ ?_
 · intro ac yw hsz hold hB hp K hK;clear hold hp hsz;have hk0:=hB.now.1.lt;have hsl:=Slot2.new yw (.slice none 0 0) (.bool false) 51;have hbz:Below yw.heap.size yw (yw.alloc (.cells #[.slice none 0 0,.bool false] 51))/\yw.heap.size<(yw.alloc (.cells #[.slice none 0 0,.bool false] 51)).heap.size:=⟨(Below.refl _ _).alloc (Nat.le_refl _) _,by simp⟩
   go_simp;exact hK.out _ _ ⟨hB.alloc _,Exists.intro yw.heap.size (Exists.intro none (Exists.intro 0 (Exists.intro 0 (Exists.intro false (And.intro rfl (And.intro hsl hk0)))))),Nat.le_of_lt hbz.2,.inl hbz.1,fun _=>⟨_,rfl,Nat.le_refl _,hbz.2⟩⟩
 refine Stps.cons (o:=_) ?_ ?_
 · intro ac yw hsz hold hB hp K hK;obtain⟨k9_9,x0_9,y0_9,z0_9,b0_9,e9,g9_0,g9_1⟩:=hp 9 (by decide);have t3:ac.tmps[3]? = some (.pointer (some ⟨k9_9,0,none⟩)):=(List.cons.inj e9).1;obtain⟨a5_6,n5_6,c5_6,m5_6,e6,g6_0⟩:=hp 6 (by decide);have t12:ac.tmps[12]? = some (.agg #[.slice a5_6 n5_6 c5_6,.bool m5_6]):=(List.cons.inj e6).1;clear hold hp hsz e9 e6;have hs:=g9_0;have l0:=hs.cell;have l1:=hs.cell1;have f0:=hs.free;have f1:=hs.free1;have HB:=HP.out _ _ hs g9_1 hB a5_6 n5_6 c5_6 m5_6;go_simp;refine hK.out undef _ ⟨HB,Exists.intro k9_9 (Exists.intro a5_6 (Exists.intro n5_6 (Exists.intro c5_6 (Exists.intro m5_6 (And.intro (congrArg (fun x => [x]) t3) (And.intro (hs.set2 (.slice a5_6 n5_6 c5_6) (.bool m5_6)) (IntAt.set2b g6_0 hs _ _))))))),by simp,.inr ?_,fun h=>absurd h (by decide)⟩;intro jj hj hap h
   match jj,h with
   | 0,h=>exact h
   | 1,h=>exact h
   | 2,h=>exact h
   | 3,⟨a3,n3,c3,m3,e3,g3_0⟩ =>
    exact Exists.intro a3 (Exists.intro n3 (Exists.intro c3 (Exists.intro m3 (And.intro e3 (IntAt.set2b g3_0 hs _ _)))))
   | 4,⟨a5,n5,c5,m5,a6,n6,c6,m6,e4,g4_0,g4_1⟩ =>
    exact Exists.intro a5 (Exists.intro n5 (Exists.intro c5 (Exists.intro m5 (Exists.intro a6 (Exists.intro n6 (Exists.intro c6 (Exists.intro m6 (And.intro e4 (And.intro (IntAt.set2b g4_0 hs _ _) (IntAt.set2b g4_1 hs _ _))))))))))
   | 5,⟨a5,n5,c5,m5,a6,n6,c6,m6,e5,g5_0,g5_1⟩ =>
    exact Exists.intro a5 (Exists.intro n5 (Exists.intro c5 (Exists.intro m5 (Exists.intro a6 (Exists.intro n6 (Exists.intro c6 (Exists.intro m6 (And.intro e5 (And.intro (IntAt.set2b g5_0 hs _ _) (IntAt.set2b g5_1 hs _ _))))))))))
   | 6,⟨a5,n5,c5,m5,e6,g6_0⟩ =>
    exact Exists.intro a5 (Exists.intro n5 (Exists.intro c5 (Exists.intro m5 (And.intro e6 (IntAt.set2b g6_0 hs _ _)))))
   | 7,⟨a6,n6,c6,m6,e7,g7_0⟩ =>
    exact Exists.intro a6 (Exists.intro n6 (Exists.intro c6 (Exists.intro m6 (And.intro e7 (IntAt.set2b g7_0 hs _ _)))))
   | 8,h=>exact h
   | 9,⟨k9,x0,y0,z0,b0,e9,g9_0,g9_1⟩ =>
    have e9:k9=k9_9:=by have:=(List.cons.inj e9).1.symm.trans t3;cases this;rfl
    subst e9;exact Exists.intro _ (Exists.intro _ (Exists.intro _ (Exists.intro _ (Exists.intro _ (And.intro e9 (And.intro (g9_0.set2 _ _) g9_1))))))
   | 10,⟨k10,x0,y0,z0,b0,e10,g10_0,g10_1⟩ =>
    have hne:k10≠k9_9:=fun e=>hap 9 (by decide) 10 (by decide) (by decide) (by decide) (by decide) k9_9 ⟨3,rfl,t3⟩ ⟨4,rfl,e▸(List.cons.inj e10).1⟩
    exact Exists.intro k10 (Exists.intro x0 (Exists.intro y0 (Exists.intro z0 (Exists.intro b0 (And.intro e10 (And.intro (Slot2.set2o g10_0 hne _ _) g10_1))))))
   | 11,_=>exact absurd rfl hj
   | 12,⟨k10,a6,n6,c6,m6,e12,g12_0,g12_1⟩ =>
    have hne:k10≠k9_9:=fun e=>hap 9 (by decide) 10 (by decide) (by decide) (by decide) (by decide) k9_9 ⟨3,rfl,t3⟩ ⟨4,rfl,e▸(List.cons.inj e12).1⟩
    exact Exists.intro k10 (Exists.intro a6 (Exists.intro n6 (Exists.intro c6 (Exists.intro m6 (And.intro e12 (And.intro (Slot2.set2o g12_0 hne _ _) (IntAt.set2b g12_1 hs _ _)))))))
   | 13,h=>exact h
   | _+14,h=>exact h
 refine Stps.cons (o:=_) ?_ ?_
 · intro ac yw hsz hold hB hp K hK;obtain⟨k10_10,x0_10,y0_10,z0_10,b0_10,e10,g10_0,g10_1⟩:=hp 10 (by decide);have t4:ac.tmps[4]? = some (.pointer (some ⟨k10_10,0,none⟩)):=(List.cons.inj e10).1;obtain⟨a6_7,n6_7,c6_7,m6_7,e7,g7_0⟩:=hp 7 (by decide);have t13:ac.tmps[13]? = some (.agg #[.slice a6_7 n6_7 c6_7,.bool m6_7]):=(List.cons.inj e7).1;clear hold hp hsz e10 e7;have hs:=g10_0;have l0:=hs.cell;have l1:=hs.cell1;have f0:=hs.free;have f1:=hs.free1;have HB:=HP.out _ _ hs g10_1 hB a6_7 n6_7 c6_7 m6_7;go_simp;refine hK.out undef _ ⟨HB,Exists.intro k10_10 (Exists.intro a6_7 (Exists.intro n6_7 (Exists.intro c6_7 (Exists.intro m6_7 (And.intro (congrArg (fun x => [x]) t4) (And.intro (hs.set2 (.slice a6_7 n6_7 c6_7) (.bool m6_7)) (IntAt.set2b g7_0 hs _ _))))))),by simp,.inr ?_,fun h=>absurd h (by decide)⟩;intro jj hj hap h
   match jj,h with
   | 0,h=>exact h
   | 1,h=>exact h
   | 2,h=>exact h
   | 3,⟨a3,n3,c3,m3,e3,g3_0⟩ =>
    exact Exists.intro a3 (Exists.intro n3 (Exists.intro c3 (Exists.intro m3 (And.intro e3 (IntAt.set2b g3_0 hs _ _)))))
   | 4,⟨a5,n5,c5,m5,a6,n6,c6,m6,e4,g4_0,g4_1⟩ =>
    exact Exists.intro a5 (Exists.intro n5 (Exists.intro c5 (Exists.intro m5 (Exists.intro a6 (Exists.intro n6 (Exists.intro c6 (Exists.intro m6 (And.intro e4 (And.intro (IntAt.set2b g4_0 hs _ _) (IntAt.set2b g4_1 hs _ _))))))))))
   | 5,⟨a5,n5,c5,m5,a6,n6,c6,m6,e5,g5_0,g5_1⟩ =>
    exact Exists.intro a5 (Exists.intro n5 (Exists.intro c5 (Exists.intro m5 (Exists.intro a6 (Exists.intro n6 (Exists.intro c6 (Exists.intro m6 (And.intro e5 (And.intro (IntAt.set2b g5_0 hs _ _) (IntAt.set2b g5_1 hs _ _))))))))))
   | 6,⟨a5,n5,c5,m5,e6,g6_0⟩ =>
    exact Exists.intro a5 (Exists.intro n5 (Exists.intro c5 (Exists.intro m5 (And.intro e6 (IntAt.set2b g6_0 hs _ _)))))
   | 7,⟨a6,n6,c6,m6,e7,g7_0⟩ =>
    exact Exists.intro a6 (Exists.intro n6 (Exists.intro c6 (Exists.intro m6 (And.intro e7 (IntAt.set2b g7_0 hs _ _)))))
   | 8,h=>exact h
   | 9,⟨k9,x0,y0,z0,b0,e9,g9_0,g9_1⟩ =>
    have hne:k9≠k10_10:=fun e=>hap 10 (by decide) 9 (by decide) (by decide) (by decide) (by decide) k10_10 ⟨4,rfl,t4⟩ ⟨3,rfl,e▸(List.cons.inj e9).1⟩
    exact Exists.intro k9 (Exists.intro x0 (Exists.intro y0 (Exists.intro z0 (Exists.intro b0 (And.intro e9 (And.intro (Slot2.set2o g9_0 hne _ _) g9_1))))))
   | 10,⟨k10,x0,y0,z0,b0,e10,g10_0,g10_1⟩ =>
    have e9:k10=k10_10:=by have:=(List.cons.inj e10).1.symm.trans t4;cases this;rfl
    subst e9;exact Exists.intro _ (Exists.intro _ (Exists.intro _ (Exists.intro _ (Exists.intro _ (And.intro e10 (And.intro (g10_0.set2 _ _) g10_1))))))
   | 11,⟨k9,a5,n5,c5,m5,e11,g11_0,g11_1⟩ =>
    have hne:k9≠k10_10:=fun e=>hap 10 (by decide) 9 (by decide) (by decide) (by decide) (by decide) k10_10 ⟨4,rfl,t4⟩ ⟨3,rfl,e▸(List.cons.inj e11).1⟩
    exact Exists.intro k9 (Exists.intro a5 (Exists.intro n5 (Exists.intro c5 (Exists.intro m5 (And.intro e11 (And.intro (Slot2.set2o g11_0 hne _ _) (IntAt.set2b g11_1 hs _ _)))))))
   | 12,_=>exact absurd rfl hj
   | 13,h=>exact h
   | _+14,h=>exact h
 refine Stps.cons (o:=_) ?_ ?_
 · intro ac yw hsz hold hB hp K hK;have e8:=hp 8 (by decide);have t14:ac.tmps[14]? = some (.bool true):=(List.cons.inj e8).1;clear hold hp hsz e8;go_simp;exact hK.out _ _ ⟨hB,rfl,Nat.le_refl _,.inl (Below.refl _ _),fun h=>absurd h (by decide)⟩
 exact Stps.nil _
theorem ratTimes1_any (a : Option Addr) (n c : Nat) (m : Bool) (a2 : Option Addr) (n2 c2 : Nat) (P : Int) (Q : Nat) (sa : Option Addr) (F : Int) (G : Nat) (w : World) (h : RatAt w a n c m a2 n2 c2 P Q) (g : RatsAt w sa 1 1 (fun _ => F) (fun _ => G))
    (hQ:0<Q) (hG:0<G) (K:Nat) (hK:K<=200000) (h1:P.natAbs<4294967296^K) (h2:Q<4294967296^K) (h3:F.natAbs<4294967296^K) (h4:G<4294967296^K) :
    Calls Tryz.prog 180 #[.agg #[.slice a n c,.bool m,.slice a2 n2 c2],.slice sa 1 1] w fun e w'=>RatTold w w' e (tmP P Q F G) (tmQ P Q F G) :=
 ratTimes_any a n c m a2 n2 c2 P Q sa 1 1 (fun _=>F) (fun _=>G) w h g hQ (fun _ _=>hG) K hK (fun k hk=>by have e:k=0:=(by omega);subst e;exact⟨h1,h2,h3,h4⟩)
theorem ratPlus1_any (a : Option Addr) (n c : Nat) (m : Bool) (a2 : Option Addr) (n2 c2 : Nat) (P : Int) (Q : Nat) (sa : Option Addr) (F : Int) (G : Nat) (w : World) (h : RatAt w a n c m a2 n2 c2 P Q) (g : RatsAt w sa 1 1 (fun _ => F) (fun _ => G))
    (hQ:0<Q) (hG:0<G) (K:Nat) (hK:K<=200000) (h1:P.natAbs<4294967296^K) (h2:Q<4294967296^K) (h3:F.natAbs<4294967296^K) (h4:G<4294967296^K) :
    Calls Tryz.prog 178 #[.agg #[.slice a n c,.bool m,.slice a2 n2 c2],.slice sa 1 1] w fun e w'=>RatTold w w' e (plP P Q F G) (plQ P Q F G) :=
 ratPlus_any a n c m a2 n2 c2 P Q sa 1 1 (fun _=>F) (fun _=>G) w h g hQ (fun _ _=>hG) K hK (fun k hk=>by have e:k=0:=(by omega);subst e;exact⟨h1,h2,h3,h4⟩)
theorem flQ_abs(P:Int)(Q:Int):(flQ P Q).natAbs<=P.natAbs+1:=by
 unfold flQ;rw[sgn_abs];have:=Nat.div_le_self P.natAbs Q.natAbs;split<;>omega
def reF(P:Int)(Q:Nat)(P':Int)(Q':Nat):Int:=flQ (nwP (P'*Q) (P*Q')) (nwQ (P'*Q) (P*Q'))
def reP(P:Int)(Q:Nat)(P':Int)(Q':Nat):Int:=if P=0 then P' else plP P' Q' (-(tmP P Q (reF P Q P' Q') 1)) (tmQ P Q (reF P Q P' Q') 1)
def reQ(P:Int)(Q:Nat)(P':Int)(Q':Nat):Nat:=if P=0 then Q' else plQ P' Q' (-(tmP P Q (reF P Q P' Q') 1)) (tmQ P Q (reF P Q P' Q') 1)
theorem rest_zero (a : Option Addr) (n c : Nat) (m : Bool) (a2 : Option Addr) (n2 c2 : Nat) (Q : Nat) (b : Option Addr) (k l : Nat) (v : Bool) (b2 : Option Addr) (k2 l2 : Nat) (P' : Int) (Q' : Nat) (w : World)
    (h:RatAt w a n c m a2 n2 c2 0 Q) (g:RatAt w b k l v b2 k2 l2 P' Q') (hQ:0<Q) (hQ':0<Q') (K:Nat) (hK:K<=40000) (h2:Q<4294967296^K) (h3:P'.natAbs<4294967296^K) (h4:Q'<4294967296^K) :
    Calls Tryz.prog 184 #[.agg #[.slice a n c,.bool m,.slice a2 n2 c2],.agg #[.slice b k l,.bool v,.slice b2 k2 l2]] w fun e w'=>RatTold w w' e P' Q':=by
 have B0:=(((((Bag.start w).rat h).rat g).box3 (.slice a n c) (.bool m) (.slice a2 n2 c2) 53).box3 (.slice b k l) (.bool v) (.slice b2 k2 l2) 53).box3 (.slice none 0 0) (.bool false) (.slice none 0 0) 53;simp only[World.size_alloc]at B0;have BY:=Lib.hid (fun wz (h:RatAt wz b k l v b2 k2 l2 P' Q') (g:RatAt wz a n c m a2 n2 c2 0 Q)=>by_zero b k l v b2 k2 l2 P' Q' a n c m a2 n2 c2 Q wz h g hQ' hQ K (by omega) h3 h4 h2);unfold RatTold3 at BY;have BB:=Lib.hid B0;have⟨q0,q1,q2⟩:=B0.now.2.1.c3;have⟨r0,r1,r2⟩:=B0.now.2.2.1.c3;clear h g B0 h2 h3 h4 hQ hQ';go_enter Tryz.func184,Tryz.ntmps184;go_wp2_with fail;go_at_call 223;refine(BY.out _ BB.out.now.2.2.2.1 BB.out.now.2.2.2.2.1).mono ?_;rintro e w2 ⟨a3,n3,c3,m3,a4,n4,c4,rfl,_,hb2⟩;have BB:=Lib.hid ((BB.out.go hb2).box3 (.slice a3 n3 c3) (.bool m3) (.slice a4 n4 c4) 53);have⟨q0,q1,q2⟩:=BB.out.now.2.2.1.c3;have hs:=BB.out.now.2.1;have⟨u0,u1,u2,g0,g1,g2⟩:=hs.s6;have HS:=hs.set (.slice b k l) (.bool v) (.slice b2 k2 l2);have HE:=Lib.hid (RatTold.done BB.out.below (by omega) hs BB.out.now.2.2.2.2.1);clear hb2 hs;go_wp2;exact bodyPost_ret (by simp[results,Tryz.results184,go_sem,HS]) rfl HE.out
theorem rest_some (a : Option Addr) (n c : Nat) (m : Bool) (a2 : Option Addr) (n2 c2 : Nat) (P : Int) (Q : Nat) (b : Option Addr) (k l : Nat) (v : Bool) (b2 : Option Addr) (k2 l2 : Nat) (P' : Int) (Q' : Nat) (w : World)
    (h:RatAt w a n c m a2 n2 c2 P Q) (g:RatAt w b k l v b2 k2 l2 P' Q') (hQ:0<Q) (hQ':0<Q') (hP:P≠0) (K:Nat) (hK:K<=40000) (h1:P.natAbs<4294967296^K) (h2:Q<4294967296^K) (h3:P'.natAbs<4294967296^K) (h4:Q'<4294967296^K) :
    Calls Tryz.prog 184 #[.agg #[.slice a n c,.bool m,.slice a2 n2 c2],.agg #[.slice b k l,.bool v,.slice b2 k2 l2]] w fun e w'=>RatTold w w' e (plP P' Q' (-(tmP P Q (reF P Q P' Q') 1)) (tmQ P Q (reF P Q P' Q') 1)) (plQ P' Q' (-(tmP P Q (reF P Q P' Q') 1)) (tmQ P Q (reF P Q P' Q') 1)):=by
 have B0:=(((((Bag.start w).rat h).rat g).box3 (.slice a n c) (.bool m) (.slice a2 n2 c2) 53).box3 (.slice b k l) (.bool v) (.slice b2 k2 l2) 53).box3 (.slice none 0 0) (.bool false) (.slice none 0 0) 53;simp only[World.size_alloc]at B0;have BY:=Lib.hid (fun wz (h:RatAt wz b k l v b2 k2 l2 P' Q') (g:RatAt wz a n c m a2 n2 c2 P Q)=>by_some b k l v b2 k2 l2 P' Q' a n c m a2 n2 c2 P Q wz h g hQ' hQ hP K (by omega) h3 h4 h1 h2);unfold RatTold3 at BY;have hU:(nwP (P'*Q) (P*Q')).natAbs<4294967296^(K+K):=Nat.lt_of_le_of_lt (Nat.le_trans (loP_absle _ _) (by rw[upZ_abs];exact Nat.le_refl _)) (mulZ_lt32 h3 h2);have hVp:0<nwQ (P'*Q) (P*Q'):=nwQ_pos _ (Int.mul_ne_zero hP (by omega));have FLO:=Lib.hid (fun a n c m a2 n2 c2 wz hz=>ratFloor_any a n c m a2 n2 c2 (nwP (P'*Q) (P*Q')) (nwQ (P'*Q) (P*Q')) wz hz hVp (K+K) (by omega) hU);rw[show flQ (nwP (P'*Q) (P*Q')) (nwQ (P'*Q) (P*Q'))=reF P Q P' Q' from rfl]at FLO
 have hF:(reF P Q P' Q').natAbs<4294967296^(K+K+1):=by
  have:=flQ_abs (nwP (P'*Q) (P*Q')) (nwQ (P'*Q) (P*Q'));have e:reF P Q P' Q'=flQ (nwP (P'*Q) (P*Q')) (nwQ (P'*Q) (P*Q')):=rfl;rw[Nat.pow_succ,e];omega
 have WH:=Lib.hid (fun a n c m wz (h:IntAt wz a n c m (reF P Q P' Q'))=>whole_any a n c m (reF P Q P' Q') wz h);have TM:=Lib.hid (fun sa wz (h:RatAt wz a n c m a2 n2 c2 P Q) (g:RatsAt wz sa 1 1 (fun _=>reF P Q P' Q') (fun _=>1))=>ratTimes1_any a n c m a2 n2 c2 P Q sa (reF P Q P' Q') 1 wz h g hQ (by omega) (K+K+1) (by omega) (lt32_up h1 (by omega)) (lt32_up h2 (by omega)) hF (Nat.one_lt_pow (by omega) (by omega)));have hT:(tmP P Q (reF P Q P' Q') 1).natAbs<4294967296^(K+K+1+(K+K+1)):=Nat.lt_of_le_of_lt (loP_absle _ _) (mulI_lt32 (lt32_up h1 (by omega)) hF);have hTQ:tmQ P Q (reF P Q P' Q') 1<4294967296^(K+K+1+(K+K+1)):=Nat.lt_of_le_of_lt (loQ_le _ _) (by rw[Nat.mul_one];exact lt32_up h2 (by omega));have hTp:0<tmQ P Q (reF P Q P' Q') 1:=tmQ_pos _ _ hQ (by omega);have MN:=Lib.hid (fun a n c m a2 n2 c2 wz hz=>ratMinus_any a n c m a2 n2 c2 (tmP P Q (reF P Q P' Q') 1) (tmQ P Q (reF P Q P' Q') 1) wz hz);have PL:=Lib.hid (fun sa wz (h:RatAt wz b k l v b2 k2 l2 P' Q') (g:RatsAt wz sa 1 1 (fun _ => -(tmP P Q (reF P Q P' Q') 1)) (fun _=>tmQ P Q (reF P Q P' Q') 1))=>ratPlus1_any b k l v b2 k2 l2 P' Q' sa _ _ wz h g hQ' hTp (K+K+1+(K+K+1)) (by omega) (lt32_up h3 (by omega)) (lt32_up h4 (by omega)) (by rw[Int.natAbs_neg];exact hT) hTQ);generalize plP P' Q' (-(tmP P Q (reF P Q P' Q') 1)) (tmQ P Q (reF P Q P' Q') 1)=Z1 at *;generalize plQ P' Q' (-(tmP P Q (reF P Q P' Q') 1)) (tmQ P Q (reF P Q P' Q') 1)=Z2 at *;generalize tmP P Q (reF P Q P' Q') 1=X1 at *;generalize tmQ P Q (reF P Q P' Q') 1=X2 at *;generalize reF P Q P' Q'=F at *;generalize nwP (P'*Q) (P*Q')=U1 at *;generalize nwQ (P'*Q) (P*Q')=U2 at *;have BB:=Lib.hid B0;have⟨q0,q1,q2⟩:=B0.now.2.1.c3;have⟨r0,r1,r2⟩:=B0.now.2.2.1.c3;clear h g B0 h1 h2 h3 h4 hQ hQ' hU hVp hF hT hTQ hTp hP;go_enter Tryz.func184,Tryz.ntmps184;go_wp2_with fail;go_at_call 223;(with_reducible refine(BY.out _ BB.out.now.2.2.2.1 BB.out.now.2.2.2.2.1).mono ?_);rintro e w2 ⟨a3,n3,c3,m3,a4,n4,c4,rfl,hr2,hb2⟩;have hk2:=(BB.out.go hb2).now.1.lt;have BB:=Lib.hid (((BB.out.go hb2).rat hr2).box3 (.slice a3 n3 c3) (.bool m3) (.slice a4 n4 c4) 53);have he:w.heap.size≠w.heap.size+1+1/\w.heap.size+1≠w.heap.size+1+1/\w2.heap.size≠w.heap.size+1+1:=by omega
 clear hb2 hr2;go_wp2_with fail;have BB:=Lib.hid BB.out.drew
 go_region_held3 (fun y => (y.cell? ⟨w.heap.size, 0, none⟩ = some (.slice a n c) /\ y.cell? ⟨w.heap.size, 1, none⟩ = some (.bool m) /\ y.cell? ⟨w.heap.size, 2, none⟩ = some (.slice a2 n2 c2)) /\ (y.cell? ⟨w.heap.size + 1, 0, none⟩ = some (.slice b k l) /\ y.cell? ⟨w.heap.size + 1, 1, none⟩ = some (.bool v) /\ y.cell? ⟨w.heap.size + 1, 2, none⟩ = some (.slice b2 k2 l2)) /\ y.cell? ⟨w2.heap.size, 0, none⟩ = some (.slice a3 n3 c3) /\ y.cell? ⟨w2.heap.size, 1, none⟩ = some (.bool m3) /\ y.cell? ⟨w2.heap.size, 2, none⟩ = some (.slice a4 n4 c4))
  (first
    | (exact⟨⟨z0.cell,z0.cell1,z0.cell2⟩,⟨z1.cell,z1.cell1,z1.cell2⟩,z2.cell,z2.cell1,z2.cell2⟩)
    | (exact⟨⟨BB.out.now.2.2.2.2.1.cell,BB.out.now.2.2.2.2.1.cell1,BB.out.now.2.2.2.2.1.cell2⟩,⟨BB.out.now.2.2.2.1.cell,BB.out.now.2.2.2.1.cell1,BB.out.now.2.2.2.1.cell2⟩,BB.out.now.1.cell,BB.out.now.1.cell1,BB.out.now.1.cell2⟩)
    | (exact(fun B9:Bag w _ _=>⟨⟨B9.now.2.2.2.2.1.cell,B9.now.2.2.2.2.1.cell1,B9.now.2.2.2.2.1.cell2⟩,⟨B9.now.2.2.2.1.cell,B9.now.2.2.2.1.cell1,B9.now.2.2.2.1.cell2⟩,B9.now.1.cell,B9.now.1.cell1,B9.now.1.cell2⟩) (BB.out.alloc _)))
  (first
    | (go_at_call 206;(with_reducible refine(FLO.out _ _ _ _ _ _ _ _ BB.out.now.2.1).mono ?_);rintro e w5 ⟨a5,n5,c5,m5,rfl,hi5,hb5⟩;have BB:=Lib.hid (BB.out.go hb5))
    | (go_at_call 117;(with_reducible refine(WH.out _ _ _ _ _ hi5).mono ?_);rintro e w6 ⟨a6,n6,c6,m6,a7,n7,c7,rfl,hr6,hb6⟩;have BB:=Lib.hid (BB.out.go hb6))
    | (go_at_call 180;(with_reducible refine(TM.out _ _ ?_ ?_).mono ?_);exact(BB.out.alloc _).now.2.2.2.2.2.2.1;exact RatsAt.old1 (Below.refl _ _) rfl (hr6.below ((Below.refl _ _).alloc (Nat.le_refl _) _));rintro e w7 ⟨a8,n8,c8,m8,a9,n9,c9,rfl,hr7,hb7⟩;have BB:=Lib.hid ((BB.out.alloc _).go hb7))
    | (go_at_call 179;(with_reducible refine(MN.out _ _ _ _ _ _ _ _ hr7).mono ?_);rintro e w8 ⟨a10,n10,c10,m10,a11,n11,c11,rfl,hr8,hb8⟩;have BB:=Lib.hid (BB.out.go hb8))
    | (go_at_call 178;(with_reducible refine(PL.out _ _ ?_ ?_).mono ?_);exact(BB.out.alloc _).now.2.2.2.2.2.1;exact RatsAt.old1 (Below.refl _ _) rfl (hr8.below ((Below.refl _ _).alloc (Nat.le_refl _) _));rintro e w9 ⟨a12,n12,c12,m12,a13,n13,c13,rfl,hr9,hb9⟩;have BB:=Lib.hid ((BB.out.alloc _).go hb9);have hs:=BB.out.now.2.2.1;have u0:=hs.cell;have u1:=hs.cell1;have u2:=hs.cell2;have g0:=hs.free;have g1:=hs.free1;have g2:=hs.free2;have HS:=hs.set (.slice a12 n12 c12) (.bool m12) (.slice a13 n13 c13);have z0:=BB.out.now.2.2.2.2.1.set3o he.1 (.slice a12 n12 c12) (.bool m12) (.slice a13 n13 c13);have z1:=BB.out.now.2.2.2.1.set3o he.2.1 (.slice a12 n12 c12) (.bool m12) (.slice a13 n13 c13);have z2:=BB.out.now.1.set3o he.2.2 (.slice a12 n12 c12) (.bool m12) (.slice a13 n13 c13);have HE:=Lib.hid (RatTold.done BB.out.below (by omega) hs hr9)))
 go_wp2;exact bodyPost_ret (by simp[results,Tryz.results184,go_sem,HS]) rfl HE.out
theorem rest_any (a : Option Addr) (n c : Nat) (m : Bool) (a2 : Option Addr) (n2 c2 : Nat) (P : Int) (Q : Nat) (b : Option Addr) (k l : Nat) (v : Bool) (b2 : Option Addr) (k2 l2 : Nat) (P' : Int) (Q' : Nat) (w : World)
    (h:RatAt w a n c m a2 n2 c2 P Q) (g:RatAt w b k l v b2 k2 l2 P' Q') (hQ:0<Q) (hQ':0<Q') (K:Nat) (hK:K<=40000) (h1:P.natAbs<4294967296^K) (h2:Q<4294967296^K) (h3:P'.natAbs<4294967296^K) (h4:Q'<4294967296^K) :
    Calls Tryz.prog 184 #[.agg #[.slice a n c,.bool m,.slice a2 n2 c2],.agg #[.slice b k l,.bool v,.slice b2 k2 l2]] w fun e w'=>RatTold w w' e (reP P Q P' Q') (reQ P Q P' Q'):=by
 unfold reP reQ
 by_cases hP:P=0
 · rw[if_pos hP,if_pos hP];subst hP;exact rest_zero a n c m a2 n2 c2 Q b k l v b2 k2 l2 P' Q' w h g hQ hQ' K hK h2 h3 h4
 · rw[if_neg hP,if_neg hP];exact rest_some a n c m a2 n2 c2 P Q b k l v b2 k2 l2 P' Q' w h g hQ hQ' hP K hK h1 h2 h3 h4
end Go.Proofs.YtdmmenaejkpnjaaGreatDoor
namespace Go.Proofs.YtdmmenaejkpnjaaGreatDoor
open Go.RowKit
theorem surely{X n B:Nat}{most:Int}(hX:2<=X)(hB:nbits X=B+1)(h:most<1∨32*most<=((n*B:Nat):Int)):most<(lb (X^n):Int):=by
 have h2:2^B<=X:=by
  rcases Nat.lt_or_ge X (2^B)with h3|h3
  · have:=nbits_le.2 h3;omega
  · exact h3
 have hp:0<X^n:=Nat.pow_pos (by omega)
 rcases(show most<(lb (X^n):Int)∨(lb (X^n):Int)<=most by omega)with h3|h3
 · exact h3
 · exfalso
   obtain⟨m,hm⟩:∃m:Nat,most=(m:Int):=⟨most.toNat,by omega⟩
   subst hm;have h4:=lb_le.1 (show lb (X^n)<=m by omega)
   rcases h with h|h
   · obtain rfl:m=0:=by omega
     simp at h4;omega
   · have h5:(2:Nat)^(32*m)<=2^(B*n):=Nat.pow_le_pow_right (by omega) (by rw[Nat.mul_comm B];omega);rw[Nat.pow_mul 2 B n]at h5;have h6:(2^B)^n<=X^n:=Nat.pow_le_pow_left h2 n
     omega
theorem PowTold.cast{w w':World}{e:Ending}{N:Nat}{b:Bool}(h:PowTold w w' e N b){p:Nat × Bool}(he:p=(N,b)):PowTold w w' e p.1 p.2:=by rw[he];exact h
theorem PI.start8 {w wr : World} {x : Value} {X : Nat} (h : PI w wr x X) {a : Option Addr} {n c : Nat} (hv : NatIs wr (.agg #[.slice a n c]) 1) :
    PS w (wr.alloc (.cells #[.slice a n c] 49)) x X wr.heap.size 0 (.slice a n c) :=
 ⟨h.go ((Below.refl _ _).alloc (Nat.le_refl _) _),h.s2.lt,Slot.new _ _ _,hv.alloc _⟩
theorem PS.mulK {w wr : World} {x : Value} {X z8 E F : Nat} {a : Option Addr} {n c : Nat} {u : Value} (h : PS w wr x X z8 E (.slice a n c)) (hu : NatIs wr u (X ^ F)) (K : Nat) (hK : K <= 400000) (hE : X ^ E < 4294967296 ^ K) (hF : X ^ F < 4294967296 ^ K) :
    Calls Tryz.prog 176 #[.agg #[.slice a n c],u] wr fun e w2=>∃a2 n2 c2,e=.returned (.agg #[.slice a2 n2 c2])/\PS w w2 x X z8 E (.slice a n c)/\PS w (w2.setCell ⟨z8,0,none⟩ (.slice a2 n2 c2)) x X z8 (E+F) (.slice a2 n2 c2):=by
 refine(mul_any _ _ _ _ wr h.np hu K hK hE hF).mono ?_;rintro e w2 ho;obtain⟨a2,n2,c2,rfl,hv,hb⟩:=ho.told;rw[← Nat.pow_add]at hv;exact⟨a2,n2,c2,rfl,h.go hb,(h.go hb).put hv⟩
theorem pow_main (v : Value) (X n : Nat) (most : Int) (w : World) (h : NatIs w v X) (hX : 2 <= X) (hXl : dl X <= 130) (hn0 : 0 < n) (hn : n <= 9223372036854775807) (hm : most <= 64) (hm0 : -9223372036854775808 <= most) :
    Calls Tryz.prog 215 #[v,.int .i64 n,.int .i64 most] w fun e w'=>PowTold w w' e (powN X n most).1 (powN X n most).2:=by
 obtain⟨a,k,c,f,rfl,hs,hv,ht⟩:=h;have HP:=Lib.hid (PI.start (w:=w) ⟨a,k,c,f,rfl,hs,hv,ht⟩);have hON:=one_any (.agg #[.slice a k c]) X _ HP.out.xs;have hZN:=fun wz h=>zero_any (.agg #[.slice a k c]) X wz h
 rw[decide_eq_false (show ¬X=1 by omega)]at hON;rw[decide_eq_false (show ¬X=0 by omega)]at hZN;have HON:=Lib.hid hON;have HZN:=Lib.hid hZN;obtain⟨g9,hg9⟩:∃g,g=130:=⟨_,rfl⟩
 have hXb:X<2^(4*g9):=Nat.lt_of_lt_of_le (Nat.lt_of_lt_of_le (dl_lt X) (Nat.pow_le_pow_right (by omega) (by omega))) (ten_two g9);have hnb:nbits X<=4*g9:=nbits_le.2 hXb
 obtain⟨B,hB⟩:∃B,nbits X=B+1:=by
  rcases Nat.eq_zero_or_pos (nbits X)with h0|h0
  · have:=nbits_le.1 (show nbits X<=0 by omega)
    simp at this;omega
  · exact⟨nbits X-1,by omega⟩
 have hSL:=fun wz h=>slong_any (.agg #[.slice a k c]) X n B most wz h hB (by omega) hn (by omega) hm0
 have hSU:=surely (n:=n) (most:=most) hX hB
 have HXP:Hid (X^1<4294967296^200):=by
  show _<_
  rw[Nat.pow_one];refine Nat.lt_of_lt_of_le hXb ?_
  have hq:∀q,q=200->(2:Nat)^(4*g9)<=4294967296^q:=fun q h=>by
   rw[show(4294967296:Nat)^q=2^(32*q)by rw[Nat.pow_mul]];exact Nat.pow_le_pow_right (by omega) (by omega)
  exact hq 200 rfl
 clear hs hv ht hON hZN hXb hnb hg9;have d1:decide ((n:Int)<=0)=false:=decide_eq_false (by omega);have hmin:min most 536870912=most:=by omega
 have hc0:=HP.out.s1.cell
 by_cases hsl:most<1∨32*most<=((n*B:Nat):Int)
 · rw[decide_eq_true hsl]at hSL;have hE:=powN_long (n:=(n:Int)) hX (by omega) (Int.le_refl _) (hSU hsl);rw[hE];have HSL:=Lib.hid hSL;clear hSL hSU hsl hE;go_enter Tryz.func215,Tryz.ntmps215;go_wp2_with fail;go_at_call 168;refine HON.out.mono ?_;rintro e w2 ⟨rfl,hb2⟩;have HP2:=Lib.hid (HP.out.go hb2);have hc1:=HP2.out.s1.cell;clear hb2 hc0;go_wp2_with fail;go_at_call 114;refine(HZN.out _ HP2.out.xs).mono ?_;rintro e w3 ⟨rfl,hb3⟩;have HP3:=Lib.hid (HP2.out.go hb3);have hc2:=HP3.out.s1.cell;clear hb3 hc1;go_wp2_with fail;go_at_call 240;refine(HSL.out _ HP3.out.xs).mono ?_;rintro e w4 ⟨rfl,hb4⟩;have HQ:=HP3.out.go hb4;have hc:=HQ.s2.cell;have hf:=HQ.s2.free;have HE:=Lib.hid (HQ.done (NatIs.zero _) false);clear HQ hb4 hc2;go_wp2;exact bodyPost_ret (v:=.tuple #[.agg #[.slice none 0 0],.bool false]) (by simp[results,Tryz.results215,go_sem,hc]) rfl HE.out
 · rw [decide_eq_false hsl] at hSL; have HSL := Lib.hid hSL; clear hSL hSU hsl; obtain ⟨D, hD⟩ : ∃ D, Lib.bitLen n = D := ⟨_, rfl⟩
   have hLN:=Tryz.bits_Len n;simp only[Int.toNat_natCast]at hLN;rw[hD]at hLN;have HLN:=Lib.hid (fun wz=>hLN wz (by omega) (by omega))
   have HDB:Hid (n<2^D/\0<D):=by
    obtain⟨a,b,c⟩:=Lib.bitLenAux_bounds 64 n (by omega) (by omega);have hl:Lib.bitLen n=Lib.bitLenAux 64 n:=rfl;rw[← hl,hD]at a b c;exact⟨by first|exact c|exact b|exact a,by omega⟩
   have hDl:D<=64:=by rw[← hD];exact Lib.bitLen_le n 64 (by omega) (by omega)
   have e1:(n:Int)%18446744073709551616=(n:Int):=by omega
   clear hLN hD;go_enter Tryz.func215,Tryz.ntmps215;go_wp2_with fail;go_at_call 168;refine HON.out.mono ?_;rintro e w2 ⟨rfl,hb2⟩;have HP2:=Lib.hid (HP.out.go hb2);have hc1:=HP2.out.s1.cell;clear hb2 hc0;go_wp2_with fail;go_at_call 114;refine(HZN.out _ HP2.out.xs).mono ?_;rintro e w3 ⟨rfl,hb3⟩;have HP3:=Lib.hid (HP2.out.go hb3);have hc2:=HP3.out.s1.cell;clear hb3 hc1;go_wp2_with fail;go_at_call 240;refine(HSL.out _ HP3.out.xs).mono ?_;rintro e w4 ⟨rfl,hb4⟩;have HP4:=Lib.hid (HP3.out.go hb4);clear hb4 hc2;go_wp2_with fail;go_at_call 146;refine(of_told 1 _ (by omega)).mono ?_;rintro e w5 ⟨a3,n3,c3,rfl,hn3,hb5⟩;have HS0:=Lib.hid ((HP4.out.go hb5).start8 hn3);clear hn3 hb5;go_wp2_with fail;go_at_call 241;refine(HLN.out _).mono ?_;rintro e w6 ⟨rfl,hw⟩;subst hw;have HEX:=Lib.hid (fun j (hj:j<D)=>exp_step (n:=n) hj);have HL:=Lib.hid (fun(m:Nat) (hk:(m:Int)<=n) (h:most<(lb (X^m):Int))=>powN_long hX (show(0:Int)<n by omega) hk h);have HF:=Lib.hid (fun(m:Nat) (hk:(m:Int)=n) (h:(lb (X^m):Int)<=most)=>powN_full hX (show(0:Int)<n by omega) hk h);have HLT:Hid (n / 2^(D-0)=0/\0<D):=by rw[Nat.sub_zero];exact⟨Nat.div_eq_of_lt HDB.out.1,HDB.out.2⟩
   have HST:Hid (PS w (w5.alloc (.cells #[.slice a3 n3 c3] 49)) (.slice a k c) X w5.heap.size (n / 2^(D-0)) (.slice a3 n3 c3)):=by
    rw[HLT.out.1];exact HS0.out
   go_wp2
   go_loopw [33] (fun i wr=>∃(j:Nat) (a1:Option Addr) (n1 c1:Nat),j<=D/\i=.int .i64 j/\PS w wr (.slice a k c) X w5.heap.size (n / 2^(D-j)) (.slice a1 n1 c1)/\Hid (j=0∨(lb (X^(n / 2^(D-j))):Int)<=most))
    (fun i _=>D-(intOf i).toNat)
   case atStart=>exact⟨0,a3,n3,c3,by omega,rfl,HST.out,.inl rfl⟩
   case round =>
    obtain⟨j,a1,n1,c1,hj,rfl,hps,hlb⟩:=hrel
    by_cases hlt:j<D
    · have hex := HEX.out j hlt; have hEn : n / 2 ^ (D - (j + 1)) <= n := Nat.div_le_self _ _; obtain ⟨E, hE⟩ : ∃ E, n / 2 ^ (D - j) = E := ⟨_, rfl⟩
      obtain⟨F,hF⟩:∃F,n / 2^(D-(j+1))=F:=⟨_,rfl⟩
      obtain⟨b,hb⟩:∃b,F%2=b:=⟨_,rfl⟩
      rw[hE]at hps hlb hex;rw[hF]at hex hEn;rw[hb]at hex;have HFF:=Lib.hid hF;have HFN:Hid ((F:Int)<=n):=by show _<=_;omega
      have HFLB:True:=trivial;obtain⟨m,hm1⟩:∃m,D-(j+1)=m:=⟨_,rfl⟩
      have hFm:n / 2^m=F:=by rw[← hm1];exact hF
      obtain⟨D1,hD1⟩:∃D1,D-1=D1:=⟨_,rfl⟩
      have i1:(D:Int)-1=(D1:Int):=by omega
      have i2:(D1:Int)-(j:Int)=(m:Int):=by omega
      have i3:(n:Int) / 2^m=(F:Int):=by rw[← hFm];simp
      have i4:(n:Int) >>> m=(F:Int):=by rw[Int.shiftRight_eq_div_pow,← hFm];simp
      have i5:(F:Int)%2=(b:Int):=by omega
      have i6:(m:Int).toNat=m:=by omega
      have i7:(0:Int)<=(m:Int):=by omega
      have hbE:X^E<4294967296^64:=by
       rcases hlb.out with h0|h0
       · subst h0;have:=HLT.out.1;rw[hE]at this;subst this;rw[Nat.pow_zero];exact Nat.one_lt_two_pow_iff.2 (by omega) |> fun h=>Nat.lt_of_lt_of_le h (Nat.pow_le_pow_left (by omega) 64)
       · exact lb_lt (by omega)
      have hE1:X^E<4294967296^200:=Nat.lt_of_lt_of_le hbE (Nat.pow_le_pow_right (by omega) (by omega))
      have hE2:X^(E+E)<4294967296^200:=by
       have h1:X^(E+E)<4294967296^(64+64):=by
        rw[Nat.pow_add,Nat.pow_add];exact Nat.mul_lt_mul'' hbE hbE
       exact Nat.lt_of_lt_of_le h1 (Nat.pow_le_pow_right (by omega) (by omega))
      have HE2:=Lib.hid hE2;have HM1:=Lib.hid (hps.mulK hps.np 200 (by omega) hE1 hE1);have hc8:=hps.s8.cell;have hj1:j+1<=D:=by omega
      have hbl:b<2:=by omega
      clear hE1 hE2 hbE hps hlb hE hF hFm hb hEn hm1 hD1;go_wp2_with fail;go_at_call 176;refine HM1.out.mono ?_;rintro e w6 ⟨a6,n6,c6,rfl,hp6,hq6⟩;have hf6:=hp6.s8.free;have hc6:=hp6.s8.cell;have HQ6:=Lib.hid hq6;clear hp6 hq6 hc8
      by_cases hb1:b=1
      · have d5:((b:Int)==1)=true:=by simp;omega
        have hFE:E+E+1=F:=by omega
        have hx6:NatIs (w6.setCell ⟨w5.heap.size,0,none⟩ (.slice a6 n6 c6)) (.agg #[.slice a k c]) (X^1):=by rw[Nat.pow_one];exact HQ6.out.pi.xs
        have HM2:=HQ6.out.mulK hx6 200 (by omega) HE2.out HXP.out;rw[hFE]at HM2;have HM2':=Lib.hid HM2;have hc7:=HQ6.out.s8.cell;have hx7:=HQ6.out.pi.s1.cell;clear HM2 hx6 hex;go_wp2_with fail;go_at_call 176;refine HM2'.out.mono ?_;rintro e w7 ⟨a7,n7,c7,rfl,hp7,hq7⟩;have hf7:=hp7.s8.free;have hc77:=hp7.s8.cell;have HQ7:=Lib.hid hq7;clear hp7 hq7 hc7 hx7;have hc6:=HQ7.out.s8.cell;have hf6:=HQ7.out.s8.free;go_wp2_with fail;go_at_call 187;refine(limbs_any _ _ _ HQ7.out.np).mono ?_;rintro e w9 ⟨l,rfl,hl1,_,hl2,hb9⟩;have hll:=lb_of hl2.out;have HS9:=Lib.hid (HQ7.out.go hb9);have hlm:=HL.out F HFN.out;have HFL:=HFLB;clear hb9 hl2 hc6 hf6
        by_cases c9:most<(l:Int)
        · have d9:decide (most<(l:Int))=true:=decide_eq_true c9;have hE9:=hlm (by rw[hll];exact c9);have hc:=HS9.out.pi.s2.cell;have hf:=HS9.out.pi.s2.free;have HE9:=Lib.hid ((HS9.out.pi.done (NatIs.zero _) false).cast hE9);clear hE9 hlm hll;go_wp2;exact bodyPost_ret (v:=.tuple #[.agg #[.slice none 0 0],.bool false]) (by simp[results,Tryz.results215,go_sem,hc]) rfl HE9.out
        · have d9:decide (most<(l:Int))=false:=decide_eq_false c9;have hl9:Hid (j+1=0∨(lb (X^(n / 2^(D-(j+1)))):Int)<=most):=.inr (by rw[HFF.out,hll];omega);have HS9':Hid (PS w w9 (.slice a k c) X w5.heap.size (n / 2^(D-(j+1))) (.slice a7 n7 c7)):=by rw[HFF.out];exact HS9.out
          clear hlm hll;go_wp2
          go_roundw
          case rel=>exact⟨j+1,_,_,_,hj1,by go_num,HS9'.out,hl9.out⟩
          case measure=>simp[intOf];omega
      · have d5:((b:Int)==1)=false:=by rw[beq_eq_false_iff_ne];omega
        have hFE:E+E=F:=by omega
        have HQ8:=HQ6;rw[hFE]at HQ8;have hc6:=HQ8.out.s8.cell;have hf6:=HQ8.out.s8.free;go_wp2_with fail;go_at_call 187;refine(limbs_any _ _ _ HQ8.out.np).mono ?_;rintro e w9 ⟨l,rfl,hl1,_,hl2,hb9⟩;have hll:=lb_of hl2.out;have HS9:=Lib.hid (HQ8.out.go hb9);have hlm:=HL.out F HFN.out;have HFL:=HFLB;clear hb9 hl2 hc6 hf6
        by_cases c9:most<(l:Int)
        · have d9:decide (most<(l:Int))=true:=decide_eq_true c9;have hE9:=hlm (by rw[hll];exact c9);have hc:=HS9.out.pi.s2.cell;have hf:=HS9.out.pi.s2.free;have HE9:=Lib.hid ((HS9.out.pi.done (NatIs.zero _) false).cast hE9);clear hE9 hlm hll;go_wp2;exact bodyPost_ret (v:=.tuple #[.agg #[.slice none 0 0],.bool false]) (by simp[results,Tryz.results215,go_sem,hc]) rfl HE9.out
        · have d9:decide (most<(l:Int))=false:=decide_eq_false c9;have hl9:Hid (j+1=0∨(lb (X^(n / 2^(D-(j+1)))):Int)<=most):=.inr (by rw[HFF.out,hll];omega);have HS9':Hid (PS w w9 (.slice a k c) X w5.heap.size (n / 2^(D-(j+1))) (.slice a6 n6 c6)):=by rw[HFF.out];exact HS9.out
          clear hlm hll;go_wp2
          go_roundw
          case rel=>exact⟨j+1,_,_,_,hj1,by go_num,HS9'.out,hl9.out⟩
          case measure=>simp[intOf];omega
    · obtain rfl : j = D := by omega
      have hEn:n / 2^(j-j)=n:=by rw[Nat.sub_self,Nat.pow_zero,Nat.div_one]
      rw[hEn]at hps hlb
      have hE9 := HF.out n rfl (by rcases hlb.out with h0 | h0
                                   · have:=HLT.out.2;omega
                                   · exact h0)
      have hc8:=hps.s8.cell;have hc:=hps.pi.s2.cell;have hf:=hps.pi.s2.free;have HE9:=Lib.hid ((hps.pi.done hps.np true).cast hE9);clear hps hlb hE9 hEn;go_wp2;exact bodyPost_ret (v:=.tuple #[.agg #[.slice a1 n1 c1],.bool true]) (by simp[results,Tryz.results215,go_sem,hc]) rfl HE9.out
theorem pow_any (v : Value) (X : Nat) (n most : Int) (w : World) (h : NatIs w v X) (hXl : dl X <= 130) (hn : n <= 9223372036854775807) (hm : most <= 64) (hm0 : -9223372036854775808 <= most) :
    Calls Tryz.prog 215 #[v,.int .i64 n,.int .i64 most] w fun e w'=>PowTold w w' e (powN X n most).1 (powN X n most).2:=by
 by_cases h1:n<=0∨X=1
 · have hE:powN X n most=(1,true):=by unfold powN;rw[if_pos h1]
   rw[hE];exact pow_one v X n most w h h1
 · by_cases h2:X=0
   · have hE:powN X n most=(0,true):=by unfold powN;rw[if_neg h1,if_pos h2]
     subst h2;rw[hE];exact pow_zero v n most w h (by omega)
   · obtain⟨m,rfl⟩:∃m:Nat,n=(m:Int):=⟨n.toNat,by omega⟩
     exact pow_main v X m most w h (by omega) hXl (by omega) (by omega) hm hm0
end Go.Proofs.YtdmmenaejkpnjaaGreatDoor
namespace Go.Proofs.YtdmmenaejkpnjaaGreatDoor
open Go.RowKit
attribute [local go_sem ↓] Go.wp_at_zero Go.wp_at_succ
theorem powN_pos{X:Nat}(hX:0<X)(n most:Int)(h:(powN X n most).2=true):0<(powN X n most).1:=by
 unfold powN at h ⊢
 split
 · exact Nat.one_pos
 · rename_i h1
   rw[if_neg h1]at h
   split
   · omega
   · rename_i h2
     rw[if_neg h2]at h
     split
     · exact Nat.pow_pos hX
     · rename_i h3
       rw[if_neg h3]at h
       cases h
def raO(P:Int)(Q:Nat)(n most:Int):Bool:=(powN P.natAbs n most).2&&(powN Q n most).2
def raS(P:Int)(n:Int):Bool:=decide (P<0)&&decide (n%2=1)
def raP(P:Int)(Q:Nat)(n most:Int):Int:=if raO P Q n most then sgn (raS P n) (powN P.natAbs n most).1 else 0
def raQ(P:Int)(Q:Nat)(n most:Int):Nat:=if raO P Q n most then(powN Q n most).1 else 1
theorem raised_no (a : Option Addr) (n c : Nat) (m : Bool) (a2 : Option Addr) (n2 c2 : Nat) (P : Int) (Q : Nat) (N most : Int) (w : World) (h : RatAt w a n c m a2 n2 c2 P Q) (hQ : 0 < Q) (hl : dl P.natAbs <= 130) (hl2 : dl Q <= 130)
    (hN:N<=9223372036854775807) (hm:most<=64) (hm0 : -9223372036854775808<=most) (ho:raO P Q N most=false) :
    Calls Tryz.prog 249 #[.agg #[.slice a n c,.bool m,.slice a2 n2 c2],.int .i64 N,.int .i64 most] w fun e w'=>RatTold3 w w' e 0 1 false:=by
 have B0:=((Bag.start w).rat h).box3 (.slice a n c) (.bool m) (.slice a2 n2 c2) 53 |>.box3 (.slice none 0 0) (.bool false) (.slice none 0 0) 53
 simp only[World.size_alloc]at B0;have SZ:=Lib.hid (fun wz (h:IntAt wz a n c m P)=>size_any a n c m P wz h);unfold NatTold2 at SZ;have BT:=Lib.hid (fun wz hz=>bot_any a n c m a2 n2 c2 P Q wz hz hQ);have PW:=Lib.hid (fun wz (h:NatIs wz (.agg #[.slice a n c]) P.natAbs)=>pow_any _ P.natAbs N most wz h hl hN hm hm0);have PB:=Lib.hid (fun a n c wz (h:NatIs wz (.agg #[.slice a n c]) Q)=>pow_any (.agg #[.slice a n c]) Q N most wz h hl2 hN hm hm0);unfold PowTold at PW PB;unfold raO at ho;generalize (powN P.natAbs N most).1=t1 at *;generalize (powN P.natAbs N most).2=t2 at *;generalize (powN Q N most).1=b1 at *;generalize (powN Q N most).2=b2 at *;have BB:=Lib.hid B0;have q0:=B0.now.2.1.cell;have q1:=B0.now.2.1.cell1;clear h B0 hQ hl hl2 hN hm hm0
 cases t2<;>cases b2
 all_goals
  first
   | (exact absurd ho (by decide))
   | skip
 all_goals
  clear ho;go_enter Tryz.func249,Tryz.ntmps249
  go_wp2_with (first
   | (go_at_call 169;(with_reducible refine(SZ.out _ BB.out.now.2.2.1.int).mono ?_);rintro e w2 ⟨rfl,hn2,hb2⟩;have BB:=Lib.hid (BB.out.go hb2);clear hb2)
   | (go_at_call 215;(with_reducible refine(PW.out _ BB.out.now.2.2.1.int.nt).mono ?_);rintro e w3 ⟨a3,n3,c3,rfl,hn3,hb3⟩;have BB:=Lib.hid ((BB.out.go hb3).alloc (.cells #[.slice a3 n3 c3] 49));clear hb3;have q0:=BB.out.now.2.1.cell;have q1:=BB.out.now.2.1.cell1;have q2:=BB.out.now.2.1.cell2)
   | (go_at_call 74;(with_reducible refine(BT.out _ BB.out.now.2.2.1).mono ?_);rintro e w4 ⟨a4,n4,c4,rfl,hn4,hb4⟩;have BB:=Lib.hid (BB.out.go hb4);clear hb4)
   | (go_at_call 215;(with_reducible refine(PB.out _ _ _ _ hn4).mono ?_);rintro e w5 ⟨a5,n5,c5,rfl,hn5,hb5⟩;have BB:=Lib.hid ((BB.out.go hb5).alloc (.cells #[.slice a5 n5 c5] 49));clear hb5;have hs:=BB.out.now.1;have r0:=hs.cell;have r1:=hs.cell1;have r2:=hs.cell2;have g0:=hs.free;have g1:=hs.free1;have g2:=hs.free2;have HS:=hs.set (.slice none 0 0) (.bool false) (.slice none 0 0);have HE:=Lib.hid (RatTold3.done false BB.out.below (by omega) hs (RatAt.zero _));clear hs))
  exact bodyPost_ret (by simp[results,Tryz.results249,go_sem,HS]) rfl HE.out
theorem raised_yes (a : Option Addr) (n c : Nat) (m : Bool) (a2 : Option Addr) (n2 c2 : Nat) (P : Int) (Q : Nat) (N most : Int) (w : World) (h : RatAt w a n c m a2 n2 c2 P Q) (hQ : 0 < Q) (hl : dl P.natAbs <= 130) (hl2 : dl Q <= 130)
    (hN0:0<=N) (hN:N<=9223372036854775807) (hm:most<=64) (hm0 : -9223372036854775808<=most) (ho:raO P Q N most=true) :
    Calls Tryz.prog 249 #[.agg #[.slice a n c,.bool m,.slice a2 n2 c2],.int .i64 N,.int .i64 most] w fun e w'=>RatTold3 w w' e (sgn (raS P N) (powN P.natAbs N most).1) (powN Q N most).1 true:=by
 have B0:=((Bag.start w).rat h).box3 (.slice a n c) (.bool m) (.slice a2 n2 c2) 53 |>.box3 (.slice none 0 0) (.bool false) (.slice none 0 0) 53
 simp only[World.size_alloc]at B0;have SZ:=Lib.hid (fun wz (h:IntAt wz a n c m P)=>size_any a n c m P wz h);unfold NatTold2 at SZ;have SG:=Lib.hid (fun wz hz=>ratSign_any a n c m a2 n2 c2 P Q wz hz);have BT:=Lib.hid (fun wz hz=>bot_any a n c m a2 n2 c2 P Q wz hz hQ);have PW:=Lib.hid (fun wz (h:NatIs wz (.agg #[.slice a n c]) P.natAbs)=>pow_any _ P.natAbs N most wz h hl hN hm hm0);have PB:=Lib.hid (fun a n c wz (h:NatIs wz (.agg #[.slice a n c]) Q)=>pow_any (.agg #[.slice a n c]) Q N most wz h hl2 hN hm hm0);unfold PowTold at PW PB;unfold raO at ho;rw[Bool.and_eq_true]at ho;have hpos:=powN_pos hQ N most ho.2;rw[ho.1]at PW;rw[ho.2]at PB;have FR:=Lib.hid (fun b a n c a2 n2 c2 wz (h:NatIs wz (.agg #[.slice a n c]) (powN P.natAbs N most).1) (g:NatIs wz (.agg #[.slice a2 n2 c2]) (powN Q N most).1)=>fraction_any b a n c _ a2 n2 c2 _ wz h g hpos);generalize (powN P.natAbs N most).1=t1 at *;generalize (powN Q N most).1=b1 at *;have BB:=Lib.hid B0;have q0:=B0.now.2.1.cell;have q1:=B0.now.2.1.cell1;clear h B0 hQ hl hl2 hm hm0 ho hpos;have hr:N%2=0∨N%2=1:=by omega
 have he:w.heap.size≠w.heap.size+1:=by omega
 by_cases hP:P<0
 · have hs : sgnI P = -1 := by unfold sgnI; rw [if_pos hP]
   rw[hs]at SG
   have hS:raS P N=(N.tmod 2==1):=by
    unfold raS;rw[decide_eq_true hP,Bool.true_and,Int.tmod_eq_emod_of_nonneg hN0,Bool.eq_iff_iff,decide_eq_true_eq,beq_iff_eq]
   rw[hS];go_enter Tryz.func249,Tryz.ntmps249
   go_wp2_with (first
   | (go_at_call 169;(with_reducible refine(SZ.out _ BB.out.now.2.2.1.int).mono ?_);rintro e w2 ⟨rfl,hn2,hb2⟩;have BB:=Lib.hid (BB.out.go hb2);clear hb2)
   | (go_at_call 215;(with_reducible refine(PW.out _ BB.out.now.2.2.1.int.nt).mono ?_);rintro e w3 ⟨a3,n3,c3,rfl,hn3,hb3⟩;have hk3:w.heap.size+1<w3.heap.size:=(BB.out.go hb3).now.1.lt;have BB:=Lib.hid (((BB.out.go hb3).nat hn3).box (.slice a3 n3 c3) 49);clear hb3 hn3;have q0:=BB.out.now.2.2.2.1.cell;have q1:=BB.out.now.2.2.2.1.cell1;have q2:=BB.out.now.2.2.2.1.cell2)
   | (go_at_call 74;(with_reducible refine(BT.out _ BB.out.now.2.2.2.2.1).mono ?_);rintro e w4 ⟨a4,n4,c4,rfl,hn4,hb4⟩;have BB:=Lib.hid (BB.out.go hb4);clear hb4)
   | (go_at_call 215;(with_reducible refine(PB.out _ _ _ _ hn4).mono ?_);rintro e w5 ⟨a5,n5,c5,rfl,hn5,hb5⟩;have hk5:w3.heap.size<w5.heap.size:=(BB.out.go hb5).now.1.lt;have BB:=Lib.hid (((BB.out.go hb5).nat hn5).box (.slice a5 n5 c5) 49);clear hb5 hn5))
   have BB:=Lib.hid BB.out.drew
   go_region_held3 (fun y => (y.cell? ⟨w.heap.size, 0, none⟩ = some (.slice a n c) /\ y.cell? ⟨w.heap.size, 1, none⟩ = some (.bool m) /\ y.cell? ⟨w.heap.size, 2, none⟩ = some (.slice a2 n2 c2)) /\ y.cell? ⟨w3.heap.size, 0, none⟩ = some (.slice a3 n3 c3) /\ y.cell? ⟨w5.heap.size, 0, none⟩ = some (.slice a5 n5 c5))
    (first
      | (exact⟨⟨z0.cell,z0.cell1,z0.cell2⟩,z1.cell,z2.cell⟩)
      | (exact⟨⟨BB.out.now.2.2.2.2.2.1.cell,BB.out.now.2.2.2.2.2.1.cell1,BB.out.now.2.2.2.2.2.1.cell2⟩,BB.out.now.2.2.1.cell,BB.out.now.1.cell⟩))
    (first
      | (go_at_call 72;(with_reducible refine(SG.out _ BB.out.now.2.2.2.2.2.2.1).mono ?_);rintro e w6 ⟨rfl,hb6⟩;have BB:=Lib.hid (BB.out.go hb6))
      | (go_at_call 172;(with_reducible refine(FR.out _ _ _ _ _ _ _ _ BB.out.now.2.2.2.1 BB.out.now.2.1).mono ?_);rintro e w7 ⟨a7,n7,c7,m7,a8,n8,c8,rfl,hr7,hb7⟩;have BB:=Lib.hid (BB.out.go hb7);have hs:=BB.out.now.2.2.2.2.1;have r0:=hs.cell;have r1:=hs.cell1;have r2:=hs.cell2;have g0:=hs.free;have g1:=hs.free1;have g2:=hs.free2;have HS:=hs.set (.slice a7 n7 c7) (.bool m7) (.slice a8 n8 c8);have z0:=BB.out.now.2.2.2.2.2.1.set3o he (.slice a7 n7 c7) (.bool m7) (.slice a8 n8 c8);have z1:=BB.out.now.2.2.1.set3o (k:=w.heap.size+1) (by omega) (.slice a7 n7 c7) (.bool m7) (.slice a8 n8 c8);have z2:=BB.out.now.1.set3o (k:=w.heap.size+1) (by omega) (.slice a7 n7 c7) (.bool m7) (.slice a8 n8 c8);have HE:=Lib.hid (RatTold3.done true BB.out.below (by omega) hs hr7)))
   go_wp2;exact bodyPost_ret (v:=.tuple #[.agg #[.slice a7 n7 c7,.bool m7,.slice a8 n8 c8],.bool true]) (by simp[results,Tryz.results249,go_sem,HS]) rfl HE.out
 · have hs : ∃ x, sgnI P = x /\ (x = 0 ∨ x = 1) := ⟨_, rfl, by unfold sgnI; rw [if_neg hP]; split <;> simp⟩
   obtain⟨x,hs,hx01⟩:=hs;rw[hs]at SG;have hS:raS P N=false:=by unfold raS;rw[decide_eq_false hP];rfl
   rw[hS]
   rcases hx01 with rfl|rfl
   · go_enter Tryz.func249, Tryz.ntmps249
     go_wp2_with (first
     | (go_at_call 169;(with_reducible refine(SZ.out _ BB.out.now.2.2.1.int).mono ?_);rintro e w2 ⟨rfl,hn2,hb2⟩;have BB:=Lib.hid (BB.out.go hb2);clear hb2)
     | (go_at_call 215;(with_reducible refine(PW.out _ BB.out.now.2.2.1.int.nt).mono ?_);rintro e w3 ⟨a3,n3,c3,rfl,hn3,hb3⟩;have hk3:w.heap.size+1<w3.heap.size:=(BB.out.go hb3).now.1.lt;have BB:=Lib.hid (((BB.out.go hb3).nat hn3).box (.slice a3 n3 c3) 49);clear hb3 hn3;have q0:=BB.out.now.2.2.2.1.cell;have q1:=BB.out.now.2.2.2.1.cell1;have q2:=BB.out.now.2.2.2.1.cell2)
     | (go_at_call 74;(with_reducible refine(BT.out _ BB.out.now.2.2.2.2.1).mono ?_);rintro e w4 ⟨a4,n4,c4,rfl,hn4,hb4⟩;have BB:=Lib.hid (BB.out.go hb4);clear hb4)
     | (go_at_call 215;(with_reducible refine(PB.out _ _ _ _ hn4).mono ?_);rintro e w5 ⟨a5,n5,c5,rfl,hn5,hb5⟩;have hk5:w3.heap.size<w5.heap.size:=(BB.out.go hb5).now.1.lt;have BB:=Lib.hid (((BB.out.go hb5).nat hn5).box (.slice a5 n5 c5) 49);clear hb5 hn5))
     have BB:=Lib.hid BB.out.drew;refine wp_region_noPanic ?_
     refine wp_region_held_drew (S:=(fun y=>(y.cell? ⟨w.heap.size,0,none⟩=some (.slice a n c)/\y.cell? ⟨w.heap.size,1,none⟩=some (.bool m)/\y.cell? ⟨w.heap.size,2,none⟩=some (.slice a2 n2 c2))/\y.cell? ⟨w3.heap.size,0,none⟩=some (.slice a3 n3 c3)/\y.cell? ⟨w5.heap.size,0,none⟩=some (.slice a5 n5 c5))) (by kernel_rfl) ?_ (fun hH => ?_)
     · exact⟨⟨BB.out.now.2.2.2.2.2.1.cell,BB.out.now.2.2.2.2.2.1.cell1,BB.out.now.2.2.2.2.2.1.cell2⟩,BB.out.now.2.2.1.cell,BB.out.now.1.cell⟩
     refine wpAnyH_take (i:=0) (oi:=⟨some 36,Op.load 53 (Operand.tmp 3),53,_,_,none⟩) (v := ?v1) rfl (by kernel_rfl) (by kernel_rfl) (by kernel_rfl) (fun _ _ _ h=>h) (Or.inl ⟨by rfl,?hy1⟩) hH ?_
     case hy1 =>
      intro y hy
      (try dsimp only at hy)
      go_simp
      try with_reducible rfl
     try simp only[Act.put,lsa,lsz,lsc]
     refine wpAnyH_take (i:=8) (oi:=⟨some 44,Op.load 49 (Operand.tmp 8),49,_,_,none⟩) (v := ?v2) rfl (by kernel_rfl) (by kernel_rfl) (by kernel_rfl) (fun _ _ _ h=>h) (Or.inl ⟨by rfl,?hy2⟩) hH ?_
     case hy2 =>
      intro y hy
      (try dsimp only at hy)
      go_simp
      try with_reducible rfl
     try simp only[Act.put,lsa,lsz,lsc]
     refine wpAnyH_take (i:=9) (oi:=⟨some 45,Op.load 49 (Operand.tmp 10),49,_,_,none⟩) (v := ?v3) rfl (by kernel_rfl) (by kernel_rfl) (by kernel_rfl) (fun _ _ _ h=>h) (Or.inl ⟨by rfl,?hy3⟩) hH ?_
     case hy3 =>
      intro y hy
      (try dsimp only at hy)
      go_simp
      try with_reducible rfl
     try simp only[Act.put,lsa,lsz,lsc]
     refine wpAnyH_ready (rs := [1]) (by kernel_rfl) (by simp) ?_;refine AllReadyH.cons rfl (fun K hK => ?_) AllReadyH.nil;go_simp
     (first
         | (go_at_call 72;(with_reducible refine(SG.out _ BB.out.now.2.2.2.2.2.2.1).mono ?_);rintro e w6 ⟨rfl,hb6⟩;have BB:=Lib.hid (BB.out.go hb6))
         | (go_at_call 172;(with_reducible refine(FR.out _ _ _ _ _ _ _ _ BB.out.now.2.2.2.1 BB.out.now.2.1).mono ?_);rintro e w7 ⟨a7,n7,c7,m7,a8,n8,c8,rfl,hr7,hb7⟩;have BB:=Lib.hid (BB.out.go hb7);have hs:=BB.out.now.2.2.2.2.1;have r0:=hs.cell;have r1:=hs.cell1;have r2:=hs.cell2;have g0:=hs.free;have g1:=hs.free1;have g2:=hs.free2;have HS:=hs.set (.slice a7 n7 c7) (.bool m7) (.slice a8 n8 c8);have z0:=BB.out.now.2.2.2.2.2.1.set3o he (.slice a7 n7 c7) (.bool m7) (.slice a8 n8 c8);have z1:=BB.out.now.2.2.1.set3o (k:=w.heap.size+1) (by omega) (.slice a7 n7 c7) (.bool m7) (.slice a8 n8 c8);have z2:=BB.out.now.1.set3o (k:=w.heap.size+1) (by omega) (.slice a7 n7 c7) (.bool m7) (.slice a8 n8 c8);have HE:=Lib.hid (RatTold3.done true BB.out.below (by omega) hs hr7)))
     refine hK.out _ _ ?_ (fun hH => ?_)
     · exact(by first|exact⟨⟨z0.cell,z0.cell1,z0.cell2⟩,z1.cell,z2.cell⟩|exact⟨⟨BB.out.now.2.2.2.2.2.1.cell,BB.out.now.2.2.2.2.2.1.cell1,BB.out.now.2.2.2.2.2.1.cell2⟩,BB.out.now.2.2.1.cell,BB.out.now.1.cell⟩)
     clear hK K
     try simp only[Act.put,lsa,lsz,lsc]
     refine wpAnyH_take (i:=2) (oi:=⟨some 38,Op.binOp BinOp.lss 3 (Operand.tmp 37) (Operand.const (Value.int IntKind.i64 0)) 3,4,_,_,none⟩) (v := ?v4) rfl (by kernel_rfl) (by kernel_rfl) (by kernel_rfl) (fun _ _ _ h=>h) (Or.inl ⟨by rfl,?hy4⟩) hH ?_
     case hy4 =>
      intro y hy
      (try dsimp only at hy)
      go_simp
      try with_reducible rfl
     try simp only[Act.put,lsa,lsz,lsc]
     refine wpAnyH_take (i:=3) (oi:=⟨some 39,Op.move (Operand.tmp 38),4,_,_,none⟩) (v := ?v5) rfl (by kernel_rfl) (by kernel_rfl) (by kernel_rfl) (fun _ _ _ h=>h) (Or.inl ⟨by rfl,?hy5⟩) hH ?_
     case hy5 =>
      intro y hy
      (try dsimp only at hy)
      go_simp
      try with_reducible rfl
     try simp only[Act.put,lsa,lsz,lsc]
     refine wpAnyH_take (i:=4) (oi:=⟨some 40,Op.move (Operand.tmp 1),3,_,_,some (3,true)⟩) (v:=undef) rfl (by kernel_rfl) (by kernel_rfl) (by kernel_rfl) (fun _ _ _ h=>h) (Or.inr ⟨by rfl,rfl⟩) hH ?_
     try simp only[Act.put,lsa,lsz,lsc]
     refine wpAnyH_take (i:=5) (oi:=⟨some 41,Op.binOp BinOp.rem 3 (Operand.tmp 40) (Operand.const (Value.int IntKind.i64 2)) 3,3,_,_,some (3,true)⟩) (v:=undef) rfl (by kernel_rfl) (by kernel_rfl) (by kernel_rfl) (fun _ _ _ h=>h) (Or.inr ⟨by rfl,rfl⟩) hH ?_
     try simp only[Act.put,lsa,lsz,lsc]
     refine wpAnyH_take (i:=6) (oi:=⟨some 42,Op.binOp BinOp.eql 3 (Operand.tmp 41) (Operand.const (Value.int IntKind.i64 1)) 3,4,_,_,some (3,true)⟩) (v:=undef) rfl (by kernel_rfl) (by kernel_rfl) (by kernel_rfl) (fun _ _ _ h=>h) (Or.inr ⟨by rfl,rfl⟩) hH ?_
     try simp only[Act.put,lsa,lsz,lsc]
     refine wpAnyH_take (i:=7) (oi:=⟨some 43,Op.pick (Operand.tmp 39) (Operand.tmp 42) (Operand.const (Value.bool false)),4,_,_,none⟩) (v := ?v6) rfl (by kernel_rfl) (by kernel_rfl) (by kernel_rfl) (fun _ _ _ h=>h) (Or.inl ⟨by rfl,?hy6⟩) hH ?_
     case hy6 =>
      intro y hy
      (try dsimp only at hy)
      go_simp
      try with_reducible rfl
     try simp only[Act.put,lsa,lsz,lsc]
     refine wpAnyH_ready (rs := [10]) (by kernel_rfl) (by simp) ?_;refine AllReadyH.cons rfl (fun K hK => ?_) AllReadyH.nil;go_simp
     (first
         | (go_at_call 72;(with_reducible refine(SG.out _ BB.out.now.2.2.2.2.2.2.1).mono ?_);rintro e w6 ⟨rfl,hb6⟩;have BB:=Lib.hid (BB.out.go hb6))
         | (go_at_call 172;(with_reducible refine(FR.out _ _ _ _ _ _ _ _ BB.out.now.2.2.2.1 BB.out.now.2.1).mono ?_);rintro e w7 ⟨a7,n7,c7,m7,a8,n8,c8,rfl,hr7,hb7⟩;have BB:=Lib.hid (BB.out.go hb7);have hs:=BB.out.now.2.2.2.2.1;have r0:=hs.cell;have r1:=hs.cell1;have r2:=hs.cell2;have g0:=hs.free;have g1:=hs.free1;have g2:=hs.free2;have HS:=hs.set (.slice a7 n7 c7) (.bool m7) (.slice a8 n8 c8);have z0:=BB.out.now.2.2.2.2.2.1.set3o he (.slice a7 n7 c7) (.bool m7) (.slice a8 n8 c8);have z1:=BB.out.now.2.2.1.set3o (k:=w.heap.size+1) (by omega) (.slice a7 n7 c7) (.bool m7) (.slice a8 n8 c8);have z2:=BB.out.now.1.set3o (k:=w.heap.size+1) (by omega) (.slice a7 n7 c7) (.bool m7) (.slice a8 n8 c8);have HE:=Lib.hid (RatTold3.done true BB.out.below (by omega) hs hr7)))
     refine hK.out _ _ ?_ (fun hH => ?_)
     · exact(by first|exact⟨⟨z0.cell,z0.cell1,z0.cell2⟩,z1.cell,z2.cell⟩|exact⟨⟨BB.out.now.2.2.2.2.2.1.cell,BB.out.now.2.2.2.2.2.1.cell1,BB.out.now.2.2.2.2.2.1.cell2⟩,BB.out.now.2.2.1.cell,BB.out.now.1.cell⟩)
     clear hK K
     try simp only[Act.put,lsa,lsz,lsc]
     refine wpAnyH_ready (rs := [11]) (by kernel_rfl) (by simp) ?_;refine AllReadyH.cons (o:=⟨none,Op.store 53 (Operand.tmp 6) (Operand.tmp 46),0,_,_,none⟩) rfl (fun K hK => ?_) AllReadyH.nil;go_simp
     refine hK.out _ _ ?_ (fun hH => ?_)
     · exact(by first|exact⟨⟨z0.cell,z0.cell1,z0.cell2⟩,z1.cell,z2.cell⟩|exact⟨⟨BB.out.now.2.2.2.2.2.1.cell,BB.out.now.2.2.2.2.2.1.cell1,BB.out.now.2.2.2.2.2.1.cell2⟩,BB.out.now.2.2.1.cell,BB.out.now.1.cell⟩)
     clear hK K
     try simp only[Act.put,lsa,lsz,lsc]
     refine wpAnyH_take (i:=12) (oi:=⟨some 7,Op.assign (Operand.const (Value.bool true)),4,_,_,none⟩) (v := ?v7) rfl (by kernel_rfl) (by kernel_rfl) (by kernel_rfl) (fun _ _ _ h=>h) (Or.inl ⟨by rfl,?hy7⟩) hH ?_
     case hy7 =>
      intro y hy
      (try dsimp only at hy)
      go_simp
      try with_reducible rfl
     try simp only[Act.put,lsa,lsz,lsc]
     refine wpAnyH_done (by kernel_rfl) ?_ _;refine NoPanic.normal ?_;go_wp2;exact bodyPost_ret (v:=.tuple #[.agg #[.slice a7 n7 c7,.bool m7,.slice a8 n8 c8],.bool true]) (by simp[results,Tryz.results249,go_sem,HS]) rfl HE.out
   · go_enter Tryz.func249, Tryz.ntmps249
     go_wp2_with (first
     | (go_at_call 169;(with_reducible refine(SZ.out _ BB.out.now.2.2.1.int).mono ?_);rintro e w2 ⟨rfl,hn2,hb2⟩;have BB:=Lib.hid (BB.out.go hb2);clear hb2)
     | (go_at_call 215;(with_reducible refine(PW.out _ BB.out.now.2.2.1.int.nt).mono ?_);rintro e w3 ⟨a3,n3,c3,rfl,hn3,hb3⟩;have hk3:w.heap.size+1<w3.heap.size:=(BB.out.go hb3).now.1.lt;have BB:=Lib.hid (((BB.out.go hb3).nat hn3).box (.slice a3 n3 c3) 49);clear hb3 hn3;have q0:=BB.out.now.2.2.2.1.cell;have q1:=BB.out.now.2.2.2.1.cell1;have q2:=BB.out.now.2.2.2.1.cell2)
     | (go_at_call 74;(with_reducible refine(BT.out _ BB.out.now.2.2.2.2.1).mono ?_);rintro e w4 ⟨a4,n4,c4,rfl,hn4,hb4⟩;have BB:=Lib.hid (BB.out.go hb4);clear hb4)
     | (go_at_call 215;(with_reducible refine(PB.out _ _ _ _ hn4).mono ?_);rintro e w5 ⟨a5,n5,c5,rfl,hn5,hb5⟩;have hk5:w3.heap.size<w5.heap.size:=(BB.out.go hb5).now.1.lt;have BB:=Lib.hid (((BB.out.go hb5).nat hn5).box (.slice a5 n5 c5) 49);clear hb5 hn5))
     have BB:=Lib.hid BB.out.drew;refine wp_region_noPanic ?_
     refine wp_region_held_drew (S:=(fun y=>(y.cell? ⟨w.heap.size,0,none⟩=some (.slice a n c)/\y.cell? ⟨w.heap.size,1,none⟩=some (.bool m)/\y.cell? ⟨w.heap.size,2,none⟩=some (.slice a2 n2 c2))/\y.cell? ⟨w3.heap.size,0,none⟩=some (.slice a3 n3 c3)/\y.cell? ⟨w5.heap.size,0,none⟩=some (.slice a5 n5 c5))) (by kernel_rfl) ?_ (fun hH => ?_)
     · exact⟨⟨BB.out.now.2.2.2.2.2.1.cell,BB.out.now.2.2.2.2.2.1.cell1,BB.out.now.2.2.2.2.2.1.cell2⟩,BB.out.now.2.2.1.cell,BB.out.now.1.cell⟩
     refine wpAnyH_take (i:=0) (oi:=⟨some 36,Op.load 53 (Operand.tmp 3),53,_,_,none⟩) (v := ?v101) rfl (by kernel_rfl) (by kernel_rfl) (by kernel_rfl) (fun _ _ _ h=>h) (Or.inl ⟨by rfl,?hy101⟩) hH ?_
     case hy101 =>
      intro y hy
      (try dsimp only at hy)
      go_simp
      try with_reducible rfl
     try simp only[Act.put,lsa,lsz,lsc]
     refine wpAnyH_take (i:=8) (oi:=⟨some 44,Op.load 49 (Operand.tmp 8),49,_,_,none⟩) (v := ?v102) rfl (by kernel_rfl) (by kernel_rfl) (by kernel_rfl) (fun _ _ _ h=>h) (Or.inl ⟨by rfl,?hy102⟩) hH ?_
     case hy102 =>
      intro y hy
      (try dsimp only at hy)
      go_simp
      try with_reducible rfl
     try simp only[Act.put,lsa,lsz,lsc]
     refine wpAnyH_take (i:=9) (oi:=⟨some 45,Op.load 49 (Operand.tmp 10),49,_,_,none⟩) (v := ?v103) rfl (by kernel_rfl) (by kernel_rfl) (by kernel_rfl) (fun _ _ _ h=>h) (Or.inl ⟨by rfl,?hy103⟩) hH ?_
     case hy103 =>
      intro y hy
      (try dsimp only at hy)
      go_simp
      try with_reducible rfl
     try simp only[Act.put,lsa,lsz,lsc]
     refine wpAnyH_ready (rs := [1]) (by kernel_rfl) (by simp) ?_;refine AllReadyH.cons rfl (fun K hK => ?_) AllReadyH.nil;go_simp
     (first
         | (go_at_call 72;(with_reducible refine(SG.out _ BB.out.now.2.2.2.2.2.2.1).mono ?_);rintro e w6 ⟨rfl,hb6⟩;have BB:=Lib.hid (BB.out.go hb6))
         | (go_at_call 172;(with_reducible refine(FR.out _ _ _ _ _ _ _ _ BB.out.now.2.2.2.1 BB.out.now.2.1).mono ?_);rintro e w7 ⟨a7,n7,c7,m7,a8,n8,c8,rfl,hr7,hb7⟩;have BB:=Lib.hid (BB.out.go hb7);have hs:=BB.out.now.2.2.2.2.1;have r0:=hs.cell;have r1:=hs.cell1;have r2:=hs.cell2;have g0:=hs.free;have g1:=hs.free1;have g2:=hs.free2;have HS:=hs.set (.slice a7 n7 c7) (.bool m7) (.slice a8 n8 c8);have z0:=BB.out.now.2.2.2.2.2.1.set3o he (.slice a7 n7 c7) (.bool m7) (.slice a8 n8 c8);have z1:=BB.out.now.2.2.1.set3o (k:=w.heap.size+1) (by omega) (.slice a7 n7 c7) (.bool m7) (.slice a8 n8 c8);have z2:=BB.out.now.1.set3o (k:=w.heap.size+1) (by omega) (.slice a7 n7 c7) (.bool m7) (.slice a8 n8 c8);have HE:=Lib.hid (RatTold3.done true BB.out.below (by omega) hs hr7)))
     refine hK.out _ _ ?_ (fun hH => ?_)
     · exact(by first|exact⟨⟨z0.cell,z0.cell1,z0.cell2⟩,z1.cell,z2.cell⟩|exact⟨⟨BB.out.now.2.2.2.2.2.1.cell,BB.out.now.2.2.2.2.2.1.cell1,BB.out.now.2.2.2.2.2.1.cell2⟩,BB.out.now.2.2.1.cell,BB.out.now.1.cell⟩)
     clear hK K
     try simp only[Act.put,lsa,lsz,lsc]
     refine wpAnyH_take (i:=2) (oi:=⟨some 38,Op.binOp BinOp.lss 3 (Operand.tmp 37) (Operand.const (Value.int IntKind.i64 0)) 3,4,_,_,none⟩) (v := ?v104) rfl (by kernel_rfl) (by kernel_rfl) (by kernel_rfl) (fun _ _ _ h=>h) (Or.inl ⟨by rfl,?hy104⟩) hH ?_
     case hy104 =>
      intro y hy
      (try dsimp only at hy)
      go_simp
      try with_reducible rfl
     try simp only[Act.put,lsa,lsz,lsc]
     refine wpAnyH_take (i:=3) (oi:=⟨some 39,Op.move (Operand.tmp 38),4,_,_,none⟩) (v := ?v105) rfl (by kernel_rfl) (by kernel_rfl) (by kernel_rfl) (fun _ _ _ h=>h) (Or.inl ⟨by rfl,?hy105⟩) hH ?_
     case hy105 =>
      intro y hy
      (try dsimp only at hy)
      go_simp
      try with_reducible rfl
     try simp only[Act.put,lsa,lsz,lsc]
     refine wpAnyH_take (i:=4) (oi:=⟨some 40,Op.move (Operand.tmp 1),3,_,_,some (3,true)⟩) (v:=undef) rfl (by kernel_rfl) (by kernel_rfl) (by kernel_rfl) (fun _ _ _ h=>h) (Or.inr ⟨by rfl,rfl⟩) hH ?_
     try simp only[Act.put,lsa,lsz,lsc]
     refine wpAnyH_take (i:=5) (oi:=⟨some 41,Op.binOp BinOp.rem 3 (Operand.tmp 40) (Operand.const (Value.int IntKind.i64 2)) 3,3,_,_,some (3,true)⟩) (v:=undef) rfl (by kernel_rfl) (by kernel_rfl) (by kernel_rfl) (fun _ _ _ h=>h) (Or.inr ⟨by rfl,rfl⟩) hH ?_
     try simp only[Act.put,lsa,lsz,lsc]
     refine wpAnyH_take (i:=6) (oi:=⟨some 42,Op.binOp BinOp.eql 3 (Operand.tmp 41) (Operand.const (Value.int IntKind.i64 1)) 3,4,_,_,some (3,true)⟩) (v:=undef) rfl (by kernel_rfl) (by kernel_rfl) (by kernel_rfl) (fun _ _ _ h=>h) (Or.inr ⟨by rfl,rfl⟩) hH ?_
     try simp only[Act.put,lsa,lsz,lsc]
     refine wpAnyH_take (i:=7) (oi:=⟨some 43,Op.pick (Operand.tmp 39) (Operand.tmp 42) (Operand.const (Value.bool false)),4,_,_,none⟩) (v := ?v106) rfl (by kernel_rfl) (by kernel_rfl) (by kernel_rfl) (fun _ _ _ h=>h) (Or.inl ⟨by rfl,?hy106⟩) hH ?_
     case hy106 =>
      intro y hy
      (try dsimp only at hy)
      go_simp
      try with_reducible rfl
     try simp only[Act.put,lsa,lsz,lsc]
     refine wpAnyH_ready (rs := [10]) (by kernel_rfl) (by simp) ?_;refine AllReadyH.cons rfl (fun K hK => ?_) AllReadyH.nil;go_simp
     (first
         | (go_at_call 72;(with_reducible refine(SG.out _ BB.out.now.2.2.2.2.2.2.1).mono ?_);rintro e w6 ⟨rfl,hb6⟩;have BB:=Lib.hid (BB.out.go hb6))
         | (go_at_call 172;(with_reducible refine(FR.out _ _ _ _ _ _ _ _ BB.out.now.2.2.2.1 BB.out.now.2.1).mono ?_);rintro e w7 ⟨a7,n7,c7,m7,a8,n8,c8,rfl,hr7,hb7⟩;have BB:=Lib.hid (BB.out.go hb7);have hs:=BB.out.now.2.2.2.2.1;have r0:=hs.cell;have r1:=hs.cell1;have r2:=hs.cell2;have g0:=hs.free;have g1:=hs.free1;have g2:=hs.free2;have HS:=hs.set (.slice a7 n7 c7) (.bool m7) (.slice a8 n8 c8);have z0:=BB.out.now.2.2.2.2.2.1.set3o he (.slice a7 n7 c7) (.bool m7) (.slice a8 n8 c8);have z1:=BB.out.now.2.2.1.set3o (k:=w.heap.size+1) (by omega) (.slice a7 n7 c7) (.bool m7) (.slice a8 n8 c8);have z2:=BB.out.now.1.set3o (k:=w.heap.size+1) (by omega) (.slice a7 n7 c7) (.bool m7) (.slice a8 n8 c8);have HE:=Lib.hid (RatTold3.done true BB.out.below (by omega) hs hr7)))
     refine hK.out _ _ ?_ (fun hH => ?_)
     · exact(by first|exact⟨⟨z0.cell,z0.cell1,z0.cell2⟩,z1.cell,z2.cell⟩|exact⟨⟨BB.out.now.2.2.2.2.2.1.cell,BB.out.now.2.2.2.2.2.1.cell1,BB.out.now.2.2.2.2.2.1.cell2⟩,BB.out.now.2.2.1.cell,BB.out.now.1.cell⟩)
     clear hK K
     try simp only[Act.put,lsa,lsz,lsc]
     refine wpAnyH_ready (rs := [11]) (by kernel_rfl) (by simp) ?_;refine AllReadyH.cons (o:=⟨none,Op.store 53 (Operand.tmp 6) (Operand.tmp 46),0,_,_,none⟩) rfl (fun K hK => ?_) AllReadyH.nil;go_simp
     refine hK.out _ _ ?_ (fun hH => ?_)
     · exact(by first|exact⟨⟨z0.cell,z0.cell1,z0.cell2⟩,z1.cell,z2.cell⟩|exact⟨⟨BB.out.now.2.2.2.2.2.1.cell,BB.out.now.2.2.2.2.2.1.cell1,BB.out.now.2.2.2.2.2.1.cell2⟩,BB.out.now.2.2.1.cell,BB.out.now.1.cell⟩)
     clear hK K
     try simp only[Act.put,lsa,lsz,lsc]
     refine wpAnyH_take (i:=12) (oi:=⟨some 7,Op.assign (Operand.const (Value.bool true)),4,_,_,none⟩) (v := ?v107) rfl (by kernel_rfl) (by kernel_rfl) (by kernel_rfl) (fun _ _ _ h=>h) (Or.inl ⟨by rfl,?hy107⟩) hH ?_
     case hy107 =>
      intro y hy
      (try dsimp only at hy)
      go_simp
      try with_reducible rfl
     try simp only[Act.put,lsa,lsz,lsc]
     refine wpAnyH_done (by kernel_rfl) ?_ _;refine NoPanic.normal ?_;go_wp2;exact bodyPost_ret (v:=.tuple #[.agg #[.slice a7 n7 c7,.bool m7,.slice a8 n8 c8],.bool true]) (by simp[results,Tryz.results249,go_sem,HS]) rfl HE.out
theorem raised_any (a : Option Addr) (n c : Nat) (m : Bool) (a2 : Option Addr) (n2 c2 : Nat) (P : Int) (Q : Nat) (N most : Int) (w : World) (h : RatAt w a n c m a2 n2 c2 P Q) (hQ : 0 < Q) (hl : dl P.natAbs <= 130) (hl2 : dl Q <= 130)
    (hN0:0<=N) (hN:N<=9223372036854775807) (hm:most<=64) (hm0 : -9223372036854775808<=most) :
    Calls Tryz.prog 249 #[.agg #[.slice a n c,.bool m,.slice a2 n2 c2],.int .i64 N,.int .i64 most] w fun e w'=>RatTold3 w w' e (raP P Q N most) (raQ P Q N most) (raO P Q N most):=by
 unfold raP raQ
 cases ho:raO P Q N most with
 | false=>exact raised_no a n c m a2 n2 c2 P Q N most w h hQ hl hl2 hN hm hm0 ho
 | true=>exact raised_yes a n c m a2 n2 c2 P Q N most w h hQ hl hl2 hN0 hN hm hm0 ho
end Go.Proofs.YtdmmenaejkpnjaaGreatDoor
