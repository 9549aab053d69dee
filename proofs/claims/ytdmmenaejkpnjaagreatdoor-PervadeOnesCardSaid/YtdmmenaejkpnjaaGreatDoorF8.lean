/-
  Texts of this seat, laid together.
-/
import Derived.Deep.RegionHeld3
import Derived.Below
import Derived.Test.YtdmmenaejkpnjaaGreatDoorF7
set_option maxHeartbeats 12800000
set_option maxRecDepth 100000
set_option linter.unusedSimpArgs false
set_option linter.unusedVariables false
namespace Go.Proofs.YtdmmenaejkpnjaaGreatDoor
open Go Go.RowKit
def dstI(ops:Array Oper)(i:Nat):Option Nat:=(ops[i]?).bind (·.dst)
def aft(md:Region.Mode)(ops:Array Oper)(i:Nat):List Nat:=((ops[i]?).map (fun o=>(o.after.filter (Region.binds md)).toList.map (·.on))).getD []
def vw(a:Act)(l:List Nat):List (Option Value):=l.map (fun t=>a.tmps[t]?)
def stays(ops:Array Oper)(t:Nat):Bool:=(List.range ops.size).all fun i => !(dstI ops i==some t)
structure Plan where
 D:Nat->List Nat
 pre:Nat->List Nat
 al:List Nat
def Plan.ok(L:Plan)(md:Region.Mode)(ops:Array Oper)(m:Nat):Bool :=
 (List.range ops.size).all fun i => (aft md ops i).all (fun e => decide (e < i)) &&
   ((L.pre i).all fun e=>(aft md ops i).contains e||(aft md ops i).any fun k=>(L.pre k).contains e) &&
   (match dstI ops i with
     | none=>true
     | some d=>decide (d<m)&&(List.range ops.size).all fun j=>decide (i=j)||((!(L.D j).contains d||(L.pre j).contains i) && !(dstI ops j==some d)))
def Ptr(a:Act)(ops:Array Oper)(i k:Nat):Prop:=∃d,dstI ops i=some d/\a.tmps[d]? = some (.pointer (some ⟨k,0,none⟩))
structure Inv(md:Region.Mode)(ops:Array Oper)(L:Plan)(p:Nat->List (Option Value)->World->Prop)(B:World->Prop)(a0:Act)(listed:Array Bool)(a:Act)(w:World):Prop where
 lsz:listed.size=ops.size
 asz:a.tmps.size=a0.tmps.size
 dfs:a.defers=a0.defers
 old:∀t,stays ops t=true->a.tmps[t]? = a0.tmps[t]?
 bag:B w
 fct:∀j,listed.getD j false=true->p j (vw a (L.D j)) w
 clo:∀j,listed.getD j false=true->∀i ∈ L.pre j,listed.getD i false=true
 alo:∀i ∈ L.al,listed.getD i false=true->∃k,Ptr a ops i k/\k<w.heap.size
 apt:∀i ∈ L.al,∀j ∈ L.al,i≠j->listed.getD i false=true->listed.getD j false=true->∀k,Ptr a ops i k->¬Ptr a ops j k
structure Laid(ops:Array Oper)(L:Plan)(p:Nat->List (Option Value)->World->Prop)(B:World->Prop)(i:Nat)(o:Oper)(a:Act)(w:World)(v:Value)(w':World):Prop where
 bag:B w'
 fct:p i ((L.D i).map (fun t=>if o.dst=some t then some v else a.tmps[t]?)) w'
 size:w.heap.size<=w'.heap.size
 stay:Below w.heap.size w w'∨∀j,j≠i->(∀x ∈ L.al,∀y ∈ L.al,x≠y->x ∈ L.pre i->(y ∈ L.pre j∨y=j)->∀k,Ptr a ops x k->¬Ptr a ops y k)->p j (vw a (L.D j)) w->p j (vw a (L.D j)) w'
 ptr:i ∈ L.al->∃k,v=.pointer (some ⟨k,0,none⟩)/\w.heap.size<=k/\k<w'.heap.size
def Stp(P:Program)(ops:Array Oper)(Q:Exit->Act->World->Prop)(L:Plan)(p:Nat->List (Option Value)->World->Prop)(B:World->Prop)(a0:Act)(i:Nat)(o:Oper):Prop :=
 ∀a w,a.tmps.size=a0.tmps.size->(∀t,stays ops t=true->a.tmps[t]? = a0.tmps[t]?)->B w->(∀j ∈ L.pre i,p j (vw a (L.D j)) w) ->
  ∀K:Act->World->Prop,Shut (∀v w',Laid ops L p B i o a w v w'->K (a.put o.dst v) w')->if Region.wanted o (yielded ops a.tmps)=true then Oper.wp P o a w K Q else K (a.put o.dst undef) w
inductive Stps (P:Program) (ops:Array Oper) (Q:Exit->Act->World->Prop) (L:Plan) (p:Nat->List (Option Value)->World->Prop) (B:World->Prop) (a0:Act):Nat->List Oper->Prop
 | nil (i:Nat):Stps P ops Q L p B a0 i []
 | cons {i:Nat} {o:Oper} {l:List Oper}:Stp P ops Q L p B a0 i o->Stps P ops Q L p B a0 (i+1) l->Stps P ops Q L p B a0 i (o::l)
section
variable {P:Program} {md:Region.Mode} {ops:Array Oper} {Q:Exit->Act->World->Prop} {L:Plan} {p:Nat->List (Option Value)->World->Prop} {B:World->Prop} {a0:Act}
theorem Stps.get:∀ {l:List Oper} {i:Nat},Stps P ops Q L p B a0 i l->∀k o,l[k]? = some o->Stp P ops Q L p B a0 (i+k) o:=by
 intro l
 induction l with
 | nil=>intro i _ k o h;simp at h
 | cons x l ih =>
  intro i h k o hk
  cases h with
  | cons h1 h2 =>
   cases k with
   | zero=>simp at hk;subst hk;exact h1
   | succ k=>have:=ih h2 k o (by simpa using hk);rwa [Nat.add_assoc,Nat.add_comm 1 k]at this
theorem cnt_set(f g:Nat->Bool)(i:Nat)(hf:f i=true)(hg:g i=false)(he:∀j,j≠i->g j=f j):∀n,(List.range n).countP f=(List.range n).countP g+if i<n then 1 else 0:=by
 intro n
 induction n with
 | zero=>simp
 | succ n ih =>
  rw[List.range_succ,List.countP_append,List.countP_append,ih]
  by_cases h:n=i
  · subst h;simp[hf,hg]
  · have:g n=f n:=he n h;simp only[List.countP_cons,List.countP_nil,this];have h2:(i<n)=(i<n+1):=by apply propext;omega
    simp only[h2];omega
theorem Plan.ok_spec (h : L.ok md ops a0.tmps.size = true) {i : Nat} (hi : i < ops.size) :
    (∀e ∈ aft md ops i,e<i)/\(∀e ∈ L.pre i,e ∈ aft md ops i∨∃k ∈ aft md ops i,e ∈ L.pre k) /\
    ∀d,dstI ops i=some d->d<a0.tmps.size/\∀j,j<ops.size->i≠j->(d ∈ L.D j->i ∈ L.pre j)/\dstI ops j≠some d:=by
 unfold Plan.ok at h;rw[List.all_eq_true]at h;have h:=h i (List.mem_range.2 hi);simp only[Bool.and_eq_true,List.all_eq_true,decide_eq_true_eq,Bool.or_eq_true,List.contains_iff_mem,List.any_eq_true]at h;refine⟨h.1.1,h.1.2,?_⟩;intro d hd;have h2:=h.2;rw[hd]at h2;simp only[Bool.and_eq_true,List.all_eq_true,decide_eq_true_eq,Bool.or_eq_true,List.contains_iff_mem,Bool.not_eq_true',List.mem_range]at h2;refine⟨h2.1,fun j hj hij => ?_⟩
 rcases h2.2 j hj with h3|h3
 · exact absurd h3 hij
 · refine⟨fun hm => ?_,by simpa using h3.2⟩
   rcases h3.1 with h4|h4
   · rw[Bool.eq_false_iff]at h4;exact absurd (List.contains_iff_mem.2 hm) h4
   · exact h4
theorem lgd{listed:Array Bool}{i j:Nat}(hi:i<listed.size):(listed.setIfInBounds i true).getD j false=(decide (i=j)||listed.getD j false):=by
 by_cases h:i=j
 · subst h;simp[hi]
 · simp[h]
theorem lgt{listed:Array Bool}{j:Nat}(h:listed.getD j true=false):j<listed.size/\listed.getD j false=false:=by
 by_cases hj:j<listed.size
 · simp[hj]at h ⊢;exact h
 · simp[Nat.le_of_not_lt hj]at h
theorem aft_mem{i:Nat}{o:Oper}(ho:ops[i]? = some o){e:Nat}:e ∈ aft md ops i↔∃x ∈ o.after,Region.binds md x=true/\x.on=e:=by
 unfold aft;rw[ho];simp only[Option.map_some,Option.getD_some,List.mem_map,Array.mem_toList_iff,Array.mem_filter]
 constructor
 · rintro⟨x,⟨h1,h2⟩,h3⟩;exact⟨x,h1,h2,h3⟩
 · rintro⟨x,h1,h2,h3⟩;exact⟨x,⟨h1,h2⟩,h3⟩
theorem Inv.step (ok : L.ok md ops a0.tmps.size = true) (hal : L.al.all (fun i => (dstI ops i).isSome) = true) (stay : ∀ j v w w', Below w.heap.size w w' -> p j v w -> p j v w') {listed : Array Bool} {a : Act} {w : World} (I : Inv md ops L p B a0 listed a w) {i : Nat} {o : Oper} (ho : ops[i]? = some o)
    (hu:listed.getD i true=false) (hr:∀e ∈ o.after,Region.binds md e=true->listed.getD e.on false=true) {v:Value} {w':World} (G:Laid ops L p B i o a w v w') :
    Inv md ops L p B a0 (listed.setIfInBounds i true) (a.put o.dst v) w':=by
 have hi:i<ops.size:=(Array.getElem?_eq_some_iff.1 ho).1;have hil:i<listed.size:=by rw[I.lsz];exact hi
 have hun:=(lgt hu).2;obtain⟨c1,c2,c3⟩:=Plan.ok_spec ok hi;have hd:dstI ops i=o.dst:=by unfold dstI;rw[ho];rfl
 have hpre:∀e ∈ L.pre i,listed.getD e false=true:=by
  intro e he
  rcases c2 e he with h|⟨k,hk,hek⟩
  · obtain⟨x,h1,h2,rfl⟩:=(aft_mem ho).1 h;exact hr x h1 h2
  · obtain⟨x,h1,h2,rfl⟩:=(aft_mem ho).1 hk;exact I.clo _ (hr x h1 h2) e hek
 have hput:∀t,(a.put o.dst v).tmps[t]? = if o.dst=some t then some v else a.tmps[t]? := by
  intro t
  cases hx:o.dst with
  | none=>simp[Act.put]
  | some d =>
   have h4:=(c3 d (hd.trans hx)).1;have h5:d<a.tmps.size:=by rw[I.asz];exact h4
   simp only[Act.put,Array.getElem?_setIfInBounds,Option.some.injEq,if_pos h5]
 have hlj:∀j,listed.getD j false=true->j<ops.size/\j≠i:=by
  intro j hj;refine⟨?_,fun e=>by rw[e,hun]at hj;cases hj⟩;rw[← I.lsz]
  by_cases h:j<listed.size
  · exact h
  · simp[Nat.le_of_not_lt h]at hj
 have hvw:∀j,listed.getD j false=true->vw (a.put o.dst v) (L.D j)=vw a (L.D j):=by
  intro j hj;unfold vw;refine List.map_congr_left (fun t ht => ?_);rw[hput];refine if_neg (fun e => ?_);have h6:=((c3 t (hd.trans e)).2 j (hlj j hj).1 (hlj j hj).2.symm).1 ht;have h7:=I.clo j hj i h6;rw[hun]at h7;cases h7
 have hptr:∀j,listed.getD j false=true->∀k,Ptr (a.put o.dst v) ops j k↔Ptr a ops j k:=by
  intro j hj k;unfold Ptr
  constructor
  · rintro⟨d,h1,h2⟩;refine⟨d,h1,?_⟩;rw[hput,if_neg (fun e=>((c3 d (hd.trans e)).2 j (hlj j hj).1 (hlj j hj).2.symm).2 h1)]at h2;exact h2
  · rintro⟨d,h1,h2⟩;refine⟨d,h1,?_⟩;rw[hput,if_neg (fun e=>((c3 d (hd.trans e)).2 j (hlj j hj).1 (hlj j hj).2.symm).2 h1)];exact h2
 have hnew:i ∈ L.al->∀k,Ptr (a.put o.dst v) ops i k->w.heap.size<=k/\k<w'.heap.size:=by
  intro hal k ⟨d,h1,h2⟩;obtain⟨k',hv,h3,h4⟩:=G.ptr hal;rw[hput,if_pos (hd.symm.trans h1),hv]at h2
  cases h2
  exact⟨h3,h4⟩
 have hcase:∀j,(listed.setIfInBounds i true).getD j false=true->j=i∨listed.getD j false=true:=by
  intro j hj;rw[lgd hil,Bool.or_eq_true,decide_eq_true_eq]at hj;exact hj.imp Eq.symm id
 refine⟨by simp[I.lsz],?_,?_,?_,G.bag,?_,?_,?_,?_⟩
 · cases o.dst<;>simp[Act.put,I.asz]
 · cases o.dst<;>simp[Act.put,I.dfs]
 · intro t ht;rw[hput,if_neg,I.old t ht];intro e;unfold stays at ht;rw[List.all_eq_true]at ht;have:=ht i (List.mem_range.2 hi);rw[hd,e]at this
   simp at this
 · intro j hj
   rcases hcase j hj with rfl|hj
   · have:=G.fct;unfold vw;rw[show(L.D j).map (fun t=>(a.put o.dst v).tmps[t]?)=(L.D j).map (fun t=>if o.dst=some t then some v else a.tmps[t]?)from List.map_congr_left (fun t _=>hput t)];exact this
   · rw[hvw j hj]
     rcases G.stay with hb|hs
     · exact stay j _ _ _ hb (I.fct j hj)
     · refine hs j (hlj j hj).2 ?_ (I.fct j hj);intro x hx y hy hxy hxi hyj;exact I.apt x hx y hy hxy (hpre x hxi) (hyj.elim (I.clo j hj y) (fun e=>e▸hj))
 · intro j hj e he;rw[lgd hil,Bool.or_eq_true]
   rcases hcase j hj with rfl|hj
   · exact .inr (hpre e he)
   · exact .inr (I.clo j hj e he)
 · intro j hjal hj
   rcases hcase j hj with rfl|hj
   · obtain⟨k,hv,h3,h4⟩:=G.ptr hjal
     cases hx:o.dst with
     | none =>
      have:=List.all_eq_true.1 hal j hjal;rw[hd,hx]at this;cases this
     | some d=>exact⟨k,⟨d,hd.trans hx,by rw[← hx,hput,if_pos hx,hv]⟩,h4⟩
   · obtain⟨k,h1,h2⟩:=I.alo j hjal hj;exact⟨k,(hptr j hj k).2 h1,Nat.lt_of_lt_of_le h2 G.size⟩
 · intro x hx y hy hxy hlx0 hly0 k
   rcases hcase x hlx0 with rfl|hlx
   · rcases hcase y hly0 with e|hly
     · exact absurd e.symm hxy
     · intro h1 h2;obtain⟨k',h3,h4⟩:=I.alo y hy hly;obtain⟨d,e1,e2⟩:=(hptr y hly k).1 h2;obtain⟨d',e3,e4⟩:=h3;rw[e1]at e3;cases e3;rw[e2]at e4;cases e4;have:=(hnew hx k h1).1
       omega
   · rcases hcase y hly0 with rfl|hly
     · intro h1 h2;obtain⟨k',h3,h4⟩:=I.alo x hx hlx;obtain⟨d,e1,e2⟩:=(hptr x hlx k).1 h1;obtain⟨d',e3,e4⟩:=h3;rw[e1]at e3;cases e3;rw[e2]at e4;cases e4;have:=(hnew hy k h2).1
       omega
     · intro h1 h2;exact I.apt x hx y hy hxy hlx hly k ((hptr x hlx k).1 h1) ((hptr y hly k).1 h2)
theorem ready_all(ok:L.ok md ops a0.tmps.size=true){listed:Array Bool}(hs:listed.size=ops.size)(h:Region.ready md ops listed = []):∀j,j<ops.size->listed.getD j false=true:=by
 intro j
 induction j using Nat.strongRecOn with
 | ind j ih =>
  intro hj
  cases hx:listed.getD j false with
  | true=>rfl
  | false =>
   exfalso
   have hm:j ∈ Region.ready md ops listed:=by
    rw[mem_ready]
    refine⟨?_,ops[j],Array.getElem?_eq_getElem hj,fun e he hb => ?_⟩
    · have:j<listed.size:=by rw[hs];exact hj
      simp[this]at hx ⊢;exact hx
    · have h1:=(Plan.ok_spec ok hj).1 e.on ((aft_mem (Array.getElem?_eq_getElem hj)).2 ⟨e,he,hb,rfl⟩);exact ih e.on h1 (Nat.lt_trans h1 hj)
   rw[h]at hm;cases hm
theorem wpAny_inv (ok : L.ok md ops a0.tmps.size = true) (hal : L.al.all (fun i => (dstI ops i).isSome) = true) (stay : ∀ j v w w', Below w.heap.size w w' -> p j v w -> p j v w') (steps : Stps P ops Q L p B a0 0 ops.toList)
    (done:∀a w,a.tmps.size=a0.tmps.size->a.defers=a0.defers->(∀t,stays ops t=true->a.tmps[t]? = a0.tmps[t]?)->B w->(∀j,j<ops.size->p j (vw a (L.D j)) w)->Q .normal a w) :
    ∀(fuel:Nat) (listed:Array Bool) (a:Act) (w:World),Inv md ops L p B a0 listed a w->(List.range ops.size).countP (fun i => !listed.getD i true)<=fuel->wpAny P md ops Q fuel listed a w:=by
 intro fuel
 induction fuel with
 | zero =>
  intro listed a w I hc
  have hall:∀j,j<ops.size->listed.getD j true=true:=by
   intro j hj;have:=List.countP_eq_zero.1 (Nat.le_zero.1 hc) j (List.mem_range.2 hj)
   simpa using this
  have hr:Region.ready md ops listed = []:=by
   rw[List.eq_nil_iff_forall_not_mem];intro j hj;obtain⟨h1,o,h2,_⟩:=mem_ready.1 hj;rw[hall j (Array.getElem?_eq_some_iff.1 h2).1]at h1;cases h1
  exact⟨hr,done a w I.asz I.dfs I.old I.bag (fun j hj=>I.fct j (ready_all ok I.lsz hr j hj))⟩
 | succ fuel ih =>
  intro listed a w I hc;refine⟨fun hr=>done a w I.asz I.dfs I.old I.bag (fun j hj=>I.fct j (ready_all ok I.lsz hr j hj)),fun i hi => ?_⟩;obtain⟨hu,o,ho,hr⟩:=mem_ready.1 hi;have hio:i<ops.size:=(Array.getElem?_eq_some_iff.1 ho).1;have hst:=steps.get i o (by rw[Array.getElem?_toList];exact ho);rw[Nat.zero_add]at hst
  have hpre:∀e ∈ L.pre i,listed.getD e false=true:=by
   intro e he
   rcases(Plan.ok_spec ok hio).2.1 e he with h|⟨k,hk,hek⟩
   · obtain⟨x,h1,h2,rfl⟩:=(aft_mem ho).1 h;exact hr x h1 h2
   · obtain⟨x,h1,h2,rfl⟩:=(aft_mem ho).1 hk;exact I.clo _ (hr x h1 h2) e hek
  refine wpOp_step ho (fun K hK=>hst a w I.asz I.old I.bag (fun j hj=>I.fct j (hpre j hj)) K (fun v w' G=>hK _ _ (ih _ _ _ (I.step ok hal stay ho hu hr G) ?_)));have hil:i<listed.size:=by rw[I.lsz];exact hio
  have hun:listed[i]=false:=by simpa[hil]using hu
  have:=cnt_set (fun j => !listed.getD j true) (fun j => !(listed.setIfInBounds i true).getD j true) i (by simp[hil,hun]) (by simp[hil]) (fun j hj=>by simp[Ne.symm hj]) ops.size;rw[if_pos hio]at this
  omega
theorem lg0(n j:Nat):(Array.replicate n false).getD j false=false:=by
 rw[Array.getD_eq_getD_getElem?,Array.getElem?_replicate];split<;>rfl
theorem wp_region_inv {id : Nat} {l : List Oper} {w : World} (L : Plan) (p : Nat -> List (Option Value) -> World -> Prop) (B : World -> Prop) (hm : P.follows .mixedOrders = true) (ok : L.ok .any l.toArray a0.tmps.size = true) (hal : L.al.all (fun i => (dstI l.toArray i).isSome) = true)
    (hB:B w.drew) (stay:∀j v w w',Below w.heap.size w w'->p j v w->p j v w')
    (done:∀a w,a.tmps.size=a0.tmps.size->a.defers=a0.defers->(∀t,stays l.toArray t=true->a.tmps[t]? = a0.tmps[t]?)->B w->(∀j,j<l.length->p j (vw a (L.D j)) w)->Q .normal a w)
    (steps:Stps P l.toArray Q L p B a0 0 l) :
    (Code.region id l.toArray true).wp P Q a0 w:=by
 refine wp_region_any hm (wpAny_inv ok hal stay steps (fun a w h1 h2 h3 h4 h5=>done a w h1 h2 h3 h4 (fun j hj=>h5 j (by simpa using hj))) _ _ _ _ ⟨by simp,rfl,rfl,fun _ _=>rfl,hB,?_,?_,?_,?_⟩ ?_)
 · intro j hj;rw[lg0]at hj;cases hj
 · intro j hj;rw[lg0]at hj;cases hj
 · intro j _ hj;rw[lg0]at hj;cases hj
 · intro j _ i _ _ hj;rw[lg0]at hj;cases hj
 · exact Nat.le_trans List.countP_le_length (by simp)
end
theorem Slot3.set3{w:World}{k:Nat}{x y z:Value}(h:Slot3 w k x y z)(u v t:Value):Slot3 (((w.setCell ⟨k,0,none⟩ u).setCell ⟨k,1,none⟩ v).setCell ⟨k,2,none⟩ t) k u v t:=(h.set2 u v).set1 t
theorem wanted_pos{ops:Array Oper}{a:Act}{o:Oper}{g:Nat}{b:Bool}{d:Nat}(hg:o.guard=some (g,b))(hd:dstI ops g=some d)(ht:a.tmps[d]? = some (.bool b)):Region.wanted o (yielded ops a.tmps)=true:=by
 unfold Region.wanted;rw[hg]
 show(yielded ops a.tmps g==some b)=true
 unfold yielded;rw[show(ops[g]?).bind (·.dst)=some d from hd]
 show((match a.tmps[d]? with|some (.bool b)=>some b|_=>none)==some b)=true
 rw[ht]
 cases b<;>rfl
theorem wanted_neg{ops:Array Oper}{a:Act}{o:Oper}{g:Nat}{b:Bool}{d:Nat}{v:Value}(hg:o.guard=some (g,b))(hd:dstI ops g=some d)(ht:a.tmps[d]? = some v)(hv:v ≠ .bool b):Region.wanted o (yielded ops a.tmps)=false:=by
 unfold Region.wanted;rw[hg]
 show(yielded ops a.tmps g==some b)=false
 unfold yielded;rw[show(ops[g]?).bind (·.dst)=some d from hd]
 show((match a.tmps[d]? with|some (.bool b)=>some b|_=>none)==some b)=false
 rw[ht]
 cases v with
 | bool x=>cases x<;>cases b<;>first|rfl|exact absurd rfl hv
 | _=>rfl
theorem act_eq{ac:Act}{n:Nat}(hs:ac.tmps.size=n)(f:Nat->Value)(hf:∀i,(ac.tmps[i]?).getD undef=f i):ac=⟨((List.range n).map f).toArray,ac.defers⟩:=by
 obtain⟨t,d⟩:=ac
 congr 1
 apply Array.ext
 · simpa using hs
 · intro i h1 h2;have:=hf i;simp only[Array.getElem?_eq_getElem h1,Option.getD_some]at this;rw[this];simp
def blk:Value->Option Nat
 | .pointer (some a)=>some a.block
 | .slice (some a) _ _=>some a.block
 | _=>none
def Ptr2(a:Act)(ops:Array Oper)(i k:Nat):Prop:=∃d v,dstI ops i=some d/\a.tmps[d]? = some v/\blk v=some k
structure Inv2(md:Region.Mode)(ops:Array Oper)(L:Plan)(p:Nat->List (Option Value)->World->Prop)(B:World->Prop)(a0:Act)(listed:Array Bool)(a:Act)(w:World):Prop where
 lsz:listed.size=ops.size
 asz:a.tmps.size=a0.tmps.size
 dfs:a.defers=a0.defers
 old:∀t,stays ops t=true->a.tmps[t]? = a0.tmps[t]?
 bag:B w
 fct:∀j,listed.getD j false=true->p j (vw a (L.D j)) w
 clo:∀j,listed.getD j false=true->∀i ∈ L.pre j,listed.getD i false=true
 alo:∀i ∈ L.al,listed.getD i false=true->∃k,Ptr2 a ops i k/\k<w.heap.size
 apt:∀i ∈ L.al,∀j ∈ L.al,i≠j->listed.getD i false=true->listed.getD j false=true->∀k,Ptr2 a ops i k->¬Ptr2 a ops j k
structure Laid2(ops:Array Oper)(L:Plan)(p:Nat->List (Option Value)->World->Prop)(B:World->Prop)(i:Nat)(o:Oper)(a:Act)(w:World)(v:Value)(w':World):Prop where
 bag:B w'
 fct:p i ((L.D i).map (fun t=>if o.dst=some t then some v else a.tmps[t]?)) w'
 size:w.heap.size<=w'.heap.size
 stay:Below w.heap.size w w'∨∀j,j≠i->(∀x ∈ L.al,∀y ∈ L.al,x≠y->x ∈ L.pre i->(y ∈ L.pre j∨y=j)->∀k,Ptr2 a ops x k->¬Ptr2 a ops y k)->p j (vw a (L.D j)) w->p j (vw a (L.D j)) w'
 ptr:i ∈ L.al->∃k,blk v=some k/\w.heap.size<=k/\k<w'.heap.size
def Stp2(P:Program)(ops:Array Oper)(Q:Exit->Act->World->Prop)(L:Plan)(p:Nat->List (Option Value)->World->Prop)(B:World->Prop)(a0:Act)(i:Nat)(o:Oper):Prop :=
 ∀a w,a.tmps.size=a0.tmps.size->(∀t,stays ops t=true->a.tmps[t]? = a0.tmps[t]?)->B w->(∀j ∈ L.pre i,p j (vw a (L.D j)) w) ->
  ∀K:Act->World->Prop,Shut (∀v w',Laid2 ops L p B i o a w v w'->K (a.put o.dst v) w')->if Region.wanted o (yielded ops a.tmps)=true then Oper.wp P o a w K Q else K (a.put o.dst undef) w
inductive Stps2 (P:Program) (ops:Array Oper) (Q:Exit->Act->World->Prop) (L:Plan) (p:Nat->List (Option Value)->World->Prop) (B:World->Prop) (a0:Act):Nat->List Oper->Prop
 | nil (i:Nat):Stps2 P ops Q L p B a0 i []
 | cons {i:Nat} {o:Oper} {l:List Oper}:Stp2 P ops Q L p B a0 i o->Stps2 P ops Q L p B a0 (i+1) l->Stps2 P ops Q L p B a0 i (o::l)
section
variable {P:Program} {md:Region.Mode} {ops:Array Oper} {Q:Exit->Act->World->Prop} {L:Plan} {p:Nat->List (Option Value)->World->Prop} {B:World->Prop} {a0:Act}
theorem Stps2.get:∀ {l:List Oper} {i:Nat},Stps2 P ops Q L p B a0 i l->∀k o,l[k]? = some o->Stp2 P ops Q L p B a0 (i+k) o:=by
 intro l
 induction l with
 | nil=>intro i _ k o h;simp at h
 | cons x l ih =>
  intro i h k o hk
  cases h with
  | cons h1 h2 =>
   cases k with
   | zero=>simp at hk;subst hk;exact h1
   | succ k=>have:=ih h2 k o (by simpa using hk);rwa [Nat.add_assoc,Nat.add_comm 1 k]at this
theorem Inv2.step (ok : L.ok md ops a0.tmps.size = true) (hal : L.al.all (fun i => (dstI ops i).isSome) = true) (stay : ∀ j v w w', Below w.heap.size w w' -> p j v w -> p j v w') {listed : Array Bool} {a : Act} {w : World} (I : Inv2 md ops L p B a0 listed a w) {i : Nat} {o : Oper} (ho : ops[i]? = some o)
    (hu:listed.getD i true=false) (hr:∀e ∈ o.after,Region.binds md e=true->listed.getD e.on false=true) {v:Value} {w':World} (G:Laid2 ops L p B i o a w v w') :
    Inv2 md ops L p B a0 (listed.setIfInBounds i true) (a.put o.dst v) w':=by
 have hi:i<ops.size:=(Array.getElem?_eq_some_iff.1 ho).1;have hil:i<listed.size:=by rw[I.lsz];exact hi
 have hun:=(lgt hu).2;obtain⟨c1,c2,c3⟩:=Plan.ok_spec ok hi;have hd:dstI ops i=o.dst:=by unfold dstI;rw[ho];rfl
 have hpre:∀e ∈ L.pre i,listed.getD e false=true:=by
  intro e he
  rcases c2 e he with h|⟨k,hk,hek⟩
  · obtain⟨x,h1,h2,rfl⟩:=(aft_mem ho).1 h;exact hr x h1 h2
  · obtain⟨x,h1,h2,rfl⟩:=(aft_mem ho).1 hk;exact I.clo _ (hr x h1 h2) e hek
 have hput:∀t,(a.put o.dst v).tmps[t]? = if o.dst=some t then some v else a.tmps[t]? := by
  intro t
  cases hx:o.dst with
  | none=>simp[Act.put]
  | some d =>
   have h4:=(c3 d (hd.trans hx)).1;have h5:d<a.tmps.size:=by rw[I.asz];exact h4
   simp only[Act.put,Array.getElem?_setIfInBounds,Option.some.injEq,if_pos h5]
 have hlj:∀j,listed.getD j false=true->j<ops.size/\j≠i:=by
  intro j hj;refine⟨?_,fun e=>by rw[e,hun]at hj;cases hj⟩;rw[← I.lsz]
  by_cases h:j<listed.size
  · exact h
  · simp[Nat.le_of_not_lt h]at hj
 have hvw:∀j,listed.getD j false=true->vw (a.put o.dst v) (L.D j)=vw a (L.D j):=by
  intro j hj;unfold vw;refine List.map_congr_left (fun t ht => ?_);rw[hput];refine if_neg (fun e => ?_);have h6:=((c3 t (hd.trans e)).2 j (hlj j hj).1 (hlj j hj).2.symm).1 ht;have h7:=I.clo j hj i h6;rw[hun]at h7;cases h7
 have hptr:∀j,listed.getD j false=true->∀k,Ptr2 (a.put o.dst v) ops j k↔Ptr2 a ops j k:=by
  intro j hj k;unfold Ptr2
  constructor
  · rintro⟨d,u,h1,h2,h3⟩;refine⟨d,u,h1,?_,h3⟩;rw[hput,if_neg (fun e=>((c3 d (hd.trans e)).2 j (hlj j hj).1 (hlj j hj).2.symm).2 h1)]at h2;exact h2
  · rintro⟨d,u,h1,h2,h3⟩;refine⟨d,u,h1,?_,h3⟩;rw[hput,if_neg (fun e=>((c3 d (hd.trans e)).2 j (hlj j hj).1 (hlj j hj).2.symm).2 h1)];exact h2
 have hnew:i ∈ L.al->∀k,Ptr2 (a.put o.dst v) ops i k->w.heap.size<=k/\k<w'.heap.size:=by
  intro hal k ⟨d,u,h1,h2,h5⟩;obtain⟨k',hv,h3,h4⟩:=G.ptr hal;rw[hput,if_pos (hd.symm.trans h1)]at h2
  cases h2
  rw[hv]at h5
  cases h5
  exact⟨h3,h4⟩
 have hcase:∀j,(listed.setIfInBounds i true).getD j false=true->j=i∨listed.getD j false=true:=by
  intro j hj;rw[lgd hil,Bool.or_eq_true,decide_eq_true_eq]at hj;exact hj.imp Eq.symm id
 refine⟨by simp[I.lsz],?_,?_,?_,G.bag,?_,?_,?_,?_⟩
 · cases o.dst<;>simp[Act.put,I.asz]
 · cases o.dst<;>simp[Act.put,I.dfs]
 · intro t ht;rw[hput,if_neg,I.old t ht];intro e;unfold stays at ht;rw[List.all_eq_true]at ht;have:=ht i (List.mem_range.2 hi);rw[hd,e]at this
   simp at this
 · intro j hj
   rcases hcase j hj with rfl|hj
   · have:=G.fct;unfold vw;rw[show(L.D j).map (fun t=>(a.put o.dst v).tmps[t]?)=(L.D j).map (fun t=>if o.dst=some t then some v else a.tmps[t]?)from List.map_congr_left (fun t _=>hput t)];exact this
   · rw[hvw j hj]
     rcases G.stay with hb|hs
     · exact stay j _ _ _ hb (I.fct j hj)
     · refine hs j (hlj j hj).2 ?_ (I.fct j hj);intro x hx y hy hxy hxi hyj;exact I.apt x hx y hy hxy (hpre x hxi) (hyj.elim (I.clo j hj y) (fun e=>e▸hj))
 · intro j hj e he;rw[lgd hil,Bool.or_eq_true]
   rcases hcase j hj with rfl|hj
   · exact .inr (hpre e he)
   · exact .inr (I.clo j hj e he)
 · intro j hjal hj
   rcases hcase j hj with rfl|hj
   · obtain⟨k,hv,h3,h4⟩:=G.ptr hjal
     cases hx:o.dst with
     | none =>
      have:=List.all_eq_true.1 hal j hjal;rw[hd,hx]at this;cases this
     | some d=>exact⟨k,⟨d,v,hd.trans hx,by rw[← hx,hput,if_pos hx],hv⟩,h4⟩
   · obtain⟨k,h1,h2⟩:=I.alo j hjal hj;exact⟨k,(hptr j hj k).2 h1,Nat.lt_of_lt_of_le h2 G.size⟩
 · intro x hx y hy hxy hlx0 hly0 k
   rcases hcase x hlx0 with rfl|hlx
   · rcases hcase y hly0 with e|hly
     · exact absurd e.symm hxy
     · intro h1 h2;obtain⟨k',h3,h4⟩:=I.alo y hy hly;obtain⟨d,x1,e1,e2,e5⟩:=(hptr y hly k).1 h2;obtain⟨d',x2,e3,e4,e6⟩:=h3;rw[e1]at e3;cases e3;rw[e2]at e4;cases e4;rw[e5]at e6;cases e6;have:=(hnew hx k h1).1
       omega
   · rcases hcase y hly0 with rfl|hly
     · intro h1 h2;obtain⟨k',h3,h4⟩:=I.alo x hx hlx;obtain⟨d,x1,e1,e2,e5⟩:=(hptr x hlx k).1 h1;obtain⟨d',x2,e3,e4,e6⟩:=h3;rw[e1]at e3;cases e3;rw[e2]at e4;cases e4;rw[e5]at e6;cases e6;have:=(hnew hy k h2).1
       omega
     · intro h1 h2;exact I.apt x hx y hy hxy hlx hly k ((hptr x hlx k).1 h1) ((hptr y hly k).1 h2)
theorem wpAny_inv2 (ok : L.ok md ops a0.tmps.size = true) (hal : L.al.all (fun i => (dstI ops i).isSome) = true) (stay : ∀ j v w w', Below w.heap.size w w' -> p j v w -> p j v w') (steps : Stps2 P ops Q L p B a0 0 ops.toList)
    (done:∀a w,a.tmps.size=a0.tmps.size->a.defers=a0.defers->(∀t,stays ops t=true->a.tmps[t]? = a0.tmps[t]?)->B w->(∀j,j<ops.size->p j (vw a (L.D j)) w)->Q .normal a w) :
    ∀(fuel:Nat) (listed:Array Bool) (a:Act) (w:World),Inv2 md ops L p B a0 listed a w->(List.range ops.size).countP (fun i => !listed.getD i true)<=fuel->wpAny P md ops Q fuel listed a w:=by
 intro fuel
 induction fuel with
 | zero =>
  intro listed a w I hc
  have hall:∀j,j<ops.size->listed.getD j true=true:=by
   intro j hj;have:=List.countP_eq_zero.1 (Nat.le_zero.1 hc) j (List.mem_range.2 hj)
   simpa using this
  have hr:Region.ready md ops listed = []:=by
   rw[List.eq_nil_iff_forall_not_mem];intro j hj;obtain⟨h1,o,h2,_⟩:=mem_ready.1 hj;rw[hall j (Array.getElem?_eq_some_iff.1 h2).1]at h1;cases h1
  exact⟨hr,done a w I.asz I.dfs I.old I.bag (fun j hj=>I.fct j (ready_all ok I.lsz hr j hj))⟩
 | succ fuel ih =>
  intro listed a w I hc;refine⟨fun hr=>done a w I.asz I.dfs I.old I.bag (fun j hj=>I.fct j (ready_all ok I.lsz hr j hj)),fun i hi => ?_⟩;obtain⟨hu,o,ho,hr⟩:=mem_ready.1 hi;have hio:i<ops.size:=(Array.getElem?_eq_some_iff.1 ho).1;have hst:=steps.get i o (by rw[Array.getElem?_toList];exact ho);rw[Nat.zero_add]at hst
  have hpre:∀e ∈ L.pre i,listed.getD e false=true:=by
   intro e he
   rcases(Plan.ok_spec ok hio).2.1 e he with h|⟨k,hk,hek⟩
   · obtain⟨x,h1,h2,rfl⟩:=(aft_mem ho).1 h;exact hr x h1 h2
   · obtain⟨x,h1,h2,rfl⟩:=(aft_mem ho).1 hk;exact I.clo _ (hr x h1 h2) e hek
  refine wpOp_step ho (fun K hK=>hst a w I.asz I.old I.bag (fun j hj=>I.fct j (hpre j hj)) K (fun v w' G=>hK _ _ (ih _ _ _ (I.step ok hal stay ho hu hr G) ?_)));have hil:i<listed.size:=by rw[I.lsz];exact hio
  have hun:listed[i]=false:=by simpa[hil]using hu
  have:=cnt_set (fun j => !listed.getD j true) (fun j => !(listed.setIfInBounds i true).getD j true) i (by simp[hil,hun]) (by simp[hil]) (fun j hj=>by simp[Ne.symm hj]) ops.size;rw[if_pos hio]at this
  omega
theorem wp_region_inv2 {id : Nat} {l : List Oper} {w : World} (L : Plan) (p : Nat -> List (Option Value) -> World -> Prop) (B : World -> Prop) (hm : P.follows .mixedOrders = true) (ok : L.ok .any l.toArray a0.tmps.size = true) (hal : L.al.all (fun i => (dstI l.toArray i).isSome) = true)
    (hB:B w.drew) (stay:∀j v w w',Below w.heap.size w w'->p j v w->p j v w')
    (done:∀a w,a.tmps.size=a0.tmps.size->a.defers=a0.defers->(∀t,stays l.toArray t=true->a.tmps[t]? = a0.tmps[t]?)->B w->(∀j,j<l.length->p j (vw a (L.D j)) w)->Q .normal a w)
    (steps:Stps2 P l.toArray Q L p B a0 0 l) :
    (Code.region id l.toArray true).wp P Q a0 w:=by
 refine wp_region_any hm (wpAny_inv2 ok hal stay steps (fun a w h1 h2 h3 h4 h5=>done a w h1 h2 h3 h4 (fun j hj=>h5 j (by simpa using hj))) _ _ _ _ ⟨by simp,rfl,rfl,fun _ _=>rfl,hB,?_,?_,?_,?_⟩ ?_)
 · intro j hj;rw[lg0]at hj;cases hj
 · intro j hj;rw[lg0]at hj;cases hj
 · intro j _ hj;rw[lg0]at hj;cases hj
 · intro j _ i _ _ hj;rw[lg0]at hj;cases hj
 · exact Nat.le_trans List.countP_le_length (by simp)
end
def TailWp(P:Program)(ops:Array Oper)(Q:Exit->Act->World->Prop):List Oper->Act->World->Prop
 | [],a,w=>Q .normal a w
 | o::l,a,w=>∀K:Act->World->Prop,Shut (∀a w,TailWp P ops Q l a w->K a w)->if Region.wanted o (yielded ops a.tmps)=true then Oper.wp P o a w K Q else K (a.put o.dst undef) w
def Plan.tail(L:Plan)(md:Region.Mode)(ops:Array Oper)(n0:Nat):Bool :=
 decide (n0<ops.size)&&((List.range n0).all fun e=>(L.pre n0).contains e)&&((List.range ops.size).all fun j=>decide (j<=n0)||(aft md ops j).contains (j-1))
section
variable {P:Program} {md:Region.Mode} {ops:Array Oper} {Q:Exit->Act->World->Prop} {L:Plan} {p:Nat->List (Option Value)->World->Prop} {B:World->Prop} {a0:Act}
theorem Plan.tail_spec{n0:Nat}(h:L.tail md ops n0=true):n0<ops.size/\(∀e,e<n0->e ∈ L.pre n0)/\∀j,j<ops.size->n0<j->j-1 ∈ aft md ops j:=by
 unfold Plan.tail at h;simp only[Bool.and_eq_true,decide_eq_true_eq,List.all_eq_true,List.mem_range,Bool.or_eq_true,List.contains_iff_mem]at h;refine⟨h.1.1,h.1.2,fun j hj hn => ?_⟩
 rcases h.2 j hj with h1|h1
 · omega
 · exact h1
theorem lgf{listed:Array Bool}{j:Nat}(hj:j<listed.size)(h:listed.getD j false=false):listed.getD j true=false:=by
 simp[hj]at h ⊢;exact h
theorem wpAny_seq(ok:L.ok md ops a0.tmps.size=true){n0:Nat}(tok:L.tail md ops n0=true):∀(l:List Oper) (i fuel:Nat) (listed:Array Bool) (a:Act) (w:World),n0<i->ops.toList.drop i=l->listed.size=ops.size ->
    (∀j,j<ops.size->listed.getD j false=decide (j<i))->l.length<=fuel->TailWp P ops Q l a w->wpAny P md ops Q fuel listed a w:=by
 intro l
 induction l with
 | nil =>
  intro i fuel listed a w hn hd hs hl hf h;have hi:ops.size<=i:=by have:=congrArg List.length hd;simp at this;omega
  have hr:Region.ready md ops listed = []:=by
   rw[List.eq_nil_iff_forall_not_mem];intro j hj;obtain⟨h1,o,h2,_⟩:=mem_ready.1 hj;have hjo:=(Array.getElem?_eq_some_iff.1 h2).1;have h3:=hl j hjo;have:=(lgt h1).2;rw[h3,decide_eq_false_iff_not]at this
   omega
  cases fuel with
  | zero=>exact⟨hr,h⟩
  | succ f=>exact⟨fun _=>h,fun j hj=>by rw[hr]at hj;cases hj⟩
 | cons o l ih =>
  intro i fuel listed a w hn hd hs hl hf h
  have hi:i<ops.size:=by
   rcases Nat.lt_or_ge i ops.size with h1|h1
   · exact h1
   · rw[List.drop_eq_nil_of_le (by simpa using h1)]at hd;cases hd
  have ho:ops[i]? = some o:=by
   have:=congrArg List.head? hd;rw[List.head?_drop]at this;rw[← Array.getElem?_toList];exact this
  cases fuel with
  | zero=>simp at hf
  | succ f =>
   have hii:listed.getD i false=false:=by rw[hl i hi,decide_eq_false_iff_not];omega
   have hmem:i ∈ Region.ready md ops listed:=by
    rw[mem_ready];refine⟨lgf (by rw[hs];exact hi) hii,o,ho,fun e he hb => ?_⟩;have:=(Plan.ok_spec ok hi).1 e.on ((aft_mem ho).2 ⟨e,he,hb,rfl⟩);rw[hl e.on (by omega),decide_eq_true_iff];exact this
   refine⟨fun hr=>(by rw[hr]at hmem;cases hmem),fun j hj => ?_⟩;obtain⟨hu,o',ho',hr⟩:=mem_ready.1 hj;have hjo:j<ops.size:=(Array.getElem?_eq_some_iff.1 ho').1;have hjn:=(lgt hu).2;rw[hl j hjo,decide_eq_false_iff_not]at hjn
   have hij:j=i:=by
    rcases Nat.lt_or_ge i j with h1|h1
    · exfalso
      have h2:=(Plan.tail_spec tok).2.2 j hjo (by omega);obtain⟨x,h3,h4,h5⟩:=(aft_mem ho').1 h2;have h6:=hr x h3 h4;rw[h5,hl (j-1) (by omega),decide_eq_true_iff]at h6
      omega
    · omega
   subst hij;rw[ho]at ho'
   cases ho'
   refine wpOp_step ho (fun K hK=>h K (fun a' w' ht=>hK a' w' (ih (j+1) f _ a' w' (by omega) ?_ (by simp[hs]) ?_ (by simpa using hf) ht)))
   · rw[← List.tail_drop,hd];rfl
   · intro k hk;rw[lgd (by rw[hs];exact hjo),hl k hk]
     by_cases h1:j=k
     · subst h1;simp
     · simp only[h1,decide_false,Bool.false_or]
       congr 1
       apply propext;omega
theorem wpAny_inv3 (ok : L.ok md ops a0.tmps.size = true) {n0 : Nat} (tok : L.tail md ops n0 = true) (hal : L.al.all (fun i => (dstI ops i).isSome) = true) (stay : ∀ j v w w', Below w.heap.size w w' -> p j v w -> p j v w') (steps : Stps2 P ops Q L p B a0 0 (ops.toList.take n0))
    (done:∀a w,a.tmps.size=a0.tmps.size->a.defers=a0.defers->(∀t,stays ops t=true->a.tmps[t]? = a0.tmps[t]?)->B w->(∀j,j<n0->p j (vw a (L.D j)) w)->TailWp P ops Q (ops.toList.drop n0) a w) :
    ∀(fuel:Nat) (listed:Array Bool) (a:Act) (w:World),Inv2 md ops L p B a0 listed a w->(∀j,n0<=j->listed.getD j false=false)->(List.range ops.size).countP (fun i => !listed.getD i true)<=fuel->wpAny P md ops Q fuel listed a w:=by
 obtain⟨t1,t2,t3⟩:=Plan.tail_spec tok;intro fuel
 induction fuel with
 | zero =>
  intro listed a w I hno hc
  exfalso
  have h1:=lgf (by rw[I.lsz];exact t1) (hno n0 (Nat.le_refl _));have:=List.countP_eq_zero.1 (Nat.le_zero.1 hc) n0 (List.mem_range.2 t1)
  simp[h1]at this
 | succ fuel ih =>
  intro listed a w I hno hc
  refine⟨fun hr => ?_,fun i hi => ?_⟩
  · exfalso
    have h1:=ready_all ok I.lsz hr n0 t1;rw[hno n0 (Nat.le_refl _)]at h1;cases h1
  obtain⟨hu,o,ho,hr⟩:=mem_ready.1 hi;have hio:i<ops.size:=(Array.getElem?_eq_some_iff.1 ho).1;have hil:i<listed.size:=by rw[I.lsz];exact hio
  have hun:listed[i]=false:=by simpa[hil]using hu
  have hcnt:=cnt_set (fun j => !listed.getD j true) (fun j => !(listed.setIfInBounds i true).getD j true) i (by simp[hil,hun]) (by simp[hil]) (fun j hj=>by simp[Ne.symm hj]) ops.size;rw[if_pos hio]at hcnt
  have hpre:∀e ∈ L.pre i,listed.getD e false=true:=by
   intro e he
   rcases(Plan.ok_spec ok hio).2.1 e he with h|⟨k,hk,hek⟩
   · obtain⟨x,h1,h2,rfl⟩:=(aft_mem ho).1 h;exact hr x h1 h2
   · obtain⟨x,h1,h2,rfl⟩:=(aft_mem ho).1 hk;exact I.clo _ (hr x h1 h2) e hek
  rcases Nat.lt_or_ge i n0 with hin|hin
  · have hst:=steps.get i o (by rw[List.getElem?_take,if_pos hin,Array.getElem?_toList];exact ho);rw[Nat.zero_add]at hst
    refine wpOp_step ho (fun K hK=>hst a w I.asz I.old I.bag (fun j hj=>I.fct j (hpre j hj)) K (fun v w' G=>hK _ _ (ih _ _ _ (I.step ok hal stay ho hu hr G) ?_ ?_)))
    · intro j hj;rw[lgd hil,hno j hj]
      simp;omega
    · omega
  · have hin:i=n0:=by
      rcases Nat.lt_or_ge n0 i with h1|h1
      · exfalso
        obtain⟨x,h3,h4,h5⟩:=(aft_mem ho).1 (t3 i hio h1);have h6:=hr x h3 h4;rw[h5,hno (i-1) (by omega)]at h6;cases h6
      · omega
    subst hin;have hall:∀j,j<i->listed.getD j false=true:=fun j hj=>hpre j (t2 j hj)
    have hdone:=done a w I.asz I.dfs I.old I.bag (fun j hj=>I.fct j (hall j hj))
    have hdr:ops.toList.drop i=o::ops.toList.drop (i+1):=by
     rw[List.drop_eq_getElem_cons (by simpa using hio)]
     congr 1
     have:=Array.getElem?_eq_some_iff.1 ho;obtain⟨_,h2⟩:=this
     simpa using h2
    rw[hdr]at hdone
    refine wpOp_step ho (fun K hK=>hdone K (fun a' w' ht=>hK a' w' (wpAny_seq ok tok _ (i+1) fuel _ a' w' (by omega) rfl (by rw[Array.size_setIfInBounds];exact I.lsz) ?_ ?_ ht)))
    · intro k hk;rw[lgd hil]
      rcases Nat.lt_trichotomy k i with h1|h1|h1
      · rw[hall k h1];simp;omega
      · subst h1;simp
      · rw[hno k (by omega)];simp;omega
    · have hge:ops.size-(i+1)<=(List.range ops.size).countP (fun j => !(listed.setIfInBounds i true).getD j true):=by
        have h1:(List.range ops.size).countP (fun j=>decide (i+1<=j))<=(List.range ops.size).countP (fun j => !(listed.setIfInBounds i true).getD j true):=by
         refine List.countP_mono_left (fun j hj h => ?_);have hj':=List.mem_range.1 hj;have h2:i<j:=by simp at h;omega
         have h3:=lgf (by rw[I.lsz];exact hj') (hno j (by omega))
         have h4:(listed.setIfInBounds i true).getD j true=false:=by
          have:i≠j:=by omega
          simp[this]at h3 ⊢;exact h3
         simp[h4]
        refine Nat.le_trans ?_ h1
        have h5:∀n,n-(i+1)<=(List.range n).countP (fun j=>decide (i+1<=j)):=by
         intro n
         induction n with
         | zero=>simp
         | succ n ihn =>
          rw[List.range_succ,List.countP_append]
          by_cases h6:i+1<=n
          · simp[h6];omega
          · simp[h6];omega
        exact h5 _
      have:(ops.toList.drop (i+1)).length=ops.size-(i+1):=by simp
      omega
theorem TailWp.step {l : List Oper} {i : Nat} {o : Oper} {a : Act} {w : World} (h : l[i]? = some o)
    (hk:∀K:Act->World->Prop,Shut (∀a w,TailWp P ops Q (l.drop (i+1)) a w->K a w)->if Region.wanted o (yielded ops a.tmps)=true then Oper.wp P o a w K Q else K (a.put o.dst undef) w):TailWp P ops Q (l.drop i) a w:=by
 obtain⟨hi,he⟩:=List.getElem?_eq_some_iff.1 h;rw[List.drop_eq_getElem_cons hi,he];exact hk
theorem TailWp.end{l:List Oper}{i:Nat}{a:Act}{w:World}(h:l.length=i)(hk:Q .normal a w):TailWp P ops Q (l.drop i) a w:=by
 rw[List.drop_eq_nil_of_le (by omega)];exact hk
theorem wp_region_inv3 {id : Nat} {l : List Oper} {w : World} (L : Plan) (n0 : Nat) (p : Nat -> List (Option Value) -> World -> Prop) (B : World -> Prop) (hm : P.follows .mixedOrders = true) (ok : L.ok .any l.toArray a0.tmps.size = true) (tok : L.tail .any l.toArray n0 = true) (hal : L.al.all (fun i => (dstI l.toArray i).isSome) = true)
    (hB:B w.drew) (stay:∀j v w w',Below w.heap.size w w'->p j v w->p j v w')
    (done:∀a w,a.tmps.size=a0.tmps.size->a.defers=a0.defers->(∀t,stays l.toArray t=true->a.tmps[t]? = a0.tmps[t]?)->B w->(∀j,j<n0->p j (vw a (L.D j)) w)->TailWp P l.toArray Q (l.drop n0) a w)
    (steps:Stps2 P l.toArray Q L p B a0 0 (l.take n0)) :
    (Code.region id l.toArray true).wp P Q a0 w:=by
 refine wp_region_any hm (wpAny_inv3 ok tok hal stay steps done _ _ _ _ ⟨by simp,rfl,rfl,fun _ _=>rfl,hB,?_,?_,?_,?_⟩ (fun j _=>lg0 _ _) ?_)
 · intro j hj;rw[lg0]at hj;cases hj
 · intro j hj;rw[lg0]at hj;cases hj
 · intro j _ hj;rw[lg0]at hj;cases hj
 · intro j _ i _ _ hj;rw[lg0]at hj;cases hj
 · exact Nat.le_trans List.countP_le_length (by simp)
end
abbrev upd(f:Nat->Bool)(i:Nat):Nat->Bool:=fun j=>decide (i=j)||f j
theorem upd_set{listed:Array Bool}{i:Nat}(hi:i<listed.size):upd (fun j=>listed.getD j false) i=(fun j=>(listed.setIfInBounds i true).getD j false) :=
 funext fun _=>(lgd hi).symm
structure Inv4(md:Region.Mode)(ops:Array Oper)(L:Plan)(p:Nat->List (Option Value)->World->Prop)(B:(Nat->Bool)->World->Prop)(a0:Act)(listed:Array Bool)(a:Act)(w:World):Prop where
 lsz:listed.size=ops.size
 asz:a.tmps.size=a0.tmps.size
 dfs:a.defers=a0.defers
 old:∀t,stays ops t=true->a.tmps[t]? = a0.tmps[t]?
 bag:B (fun j=>listed.getD j false) w
 fct:∀j,listed.getD j false=true->p j (vw a (L.D j)) w
 clo:∀j,listed.getD j false=true->∀i ∈ L.pre j,listed.getD i false=true
 alo:∀i ∈ L.al,listed.getD i false=true->∃k,Ptr2 a ops i k/\k<w.heap.size
 apt:∀i ∈ L.al,∀j ∈ L.al,i≠j->listed.getD i false=true->listed.getD j false=true->∀k,Ptr2 a ops i k->¬Ptr2 a ops j k
structure Laid4(ops:Array Oper)(L:Plan)(p:Nat->List (Option Value)->World->Prop)(B:(Nat->Bool)->World->Prop)(f:Nat->Bool)(i:Nat)(o:Oper)(a:Act)(w:World)(v:Value)(w':World):Prop where
 bag:B (upd f i) w'
 fct:p i ((L.D i).map (fun t=>if o.dst=some t then some v else a.tmps[t]?)) w'
 size:w.heap.size<=w'.heap.size
 stay:Below w.heap.size w w'∨∀j,j≠i->(∀x ∈ L.al,∀y ∈ L.al,x≠y->x ∈ L.pre i->(y ∈ L.pre j∨y=j)->∀k,Ptr2 a ops x k->¬Ptr2 a ops y k)->p j (vw a (L.D j)) w->p j (vw a (L.D j)) w'
 ptr:i ∈ L.al->∃k,blk v=some k/\w.heap.size<=k/\k<w'.heap.size
def Stp4(P:Program)(ops:Array Oper)(Q:Exit->Act->World->Prop)(L:Plan)(p:Nat->List (Option Value)->World->Prop)(B:(Nat->Bool)->World->Prop)(a0:Act)(i:Nat)(o:Oper):Prop :=
 ∀f a w,a.tmps.size=a0.tmps.size->(∀t,stays ops t=true->a.tmps[t]? = a0.tmps[t]?)->B f w->(∀j ∈ L.pre i,p j (vw a (L.D j)) w)->(∀j,i ∈ L.pre j->f j=false) ->
  ∀K:Act->World->Prop,Shut (∀v w',Laid4 ops L p B f i o a w v w'->K (a.put o.dst v) w')->if Region.wanted o (yielded ops a.tmps)=true then Oper.wp P o a w K Q else K (a.put o.dst undef) w
inductive Stps4 (P:Program) (ops:Array Oper) (Q:Exit->Act->World->Prop) (L:Plan) (p:Nat->List (Option Value)->World->Prop) (B:(Nat->Bool)->World->Prop) (a0:Act):Nat->List Oper->Prop
 | nil (i:Nat):Stps4 P ops Q L p B a0 i []
 | cons {i:Nat} {o:Oper} {l:List Oper}:Stp4 P ops Q L p B a0 i o->Stps4 P ops Q L p B a0 (i+1) l->Stps4 P ops Q L p B a0 i (o::l)
section
variable {P:Program} {md:Region.Mode} {ops:Array Oper} {Q:Exit->Act->World->Prop} {L:Plan} {p:Nat->List (Option Value)->World->Prop} {B:(Nat->Bool)->World->Prop} {a0:Act}
theorem Stps4.get:∀ {l:List Oper} {i:Nat},Stps4 P ops Q L p B a0 i l->∀k o,l[k]? = some o->Stp4 P ops Q L p B a0 (i+k) o:=by
 intro l
 induction l with
 | nil=>intro i _ k o h;simp at h
 | cons x l ih =>
  intro i h k o hk
  cases h with
  | cons h1 h2 =>
   cases k with
   | zero=>simp at hk;subst hk;exact h1
   | succ k=>have:=ih h2 k o (by simpa using hk);rwa [Nat.add_assoc,Nat.add_comm 1 k]at this
theorem Inv4.step (ok : L.ok md ops a0.tmps.size = true) (hal : L.al.all (fun i => (dstI ops i).isSome) = true) (stay : ∀ j v w w', Below w.heap.size w w' -> p j v w -> p j v w') {listed : Array Bool} {a : Act} {w : World} (I : Inv4 md ops L p B a0 listed a w) {i : Nat} {o : Oper} (ho : ops[i]? = some o)
    (hu:listed.getD i true=false) (hr:∀e ∈ o.after,Region.binds md e=true->listed.getD e.on false=true) {v:Value} {w':World} (G:Laid4 ops L p B (fun j=>listed.getD j false) i o a w v w') :
    Inv4 md ops L p B a0 (listed.setIfInBounds i true) (a.put o.dst v) w':=by
 have hi:i<ops.size:=(Array.getElem?_eq_some_iff.1 ho).1;have hil:i<listed.size:=by rw[I.lsz];exact hi
 have hun:=(lgt hu).2;obtain⟨c1,c2,c3⟩:=Plan.ok_spec ok hi;have hd:dstI ops i=o.dst:=by unfold dstI;rw[ho];rfl
 have hpre:∀e ∈ L.pre i,listed.getD e false=true:=by
  intro e he
  rcases c2 e he with h|⟨k,hk,hek⟩
  · obtain⟨x,h1,h2,rfl⟩:=(aft_mem ho).1 h;exact hr x h1 h2
  · obtain⟨x,h1,h2,rfl⟩:=(aft_mem ho).1 hk;exact I.clo _ (hr x h1 h2) e hek
 have hput:∀t,(a.put o.dst v).tmps[t]? = if o.dst=some t then some v else a.tmps[t]? := by
  intro t
  cases hx:o.dst with
  | none=>simp[Act.put]
  | some d =>
   have h4:=(c3 d (hd.trans hx)).1;have h5:d<a.tmps.size:=by rw[I.asz];exact h4
   simp only[Act.put,Array.getElem?_setIfInBounds,Option.some.injEq,if_pos h5]
 have hlj:∀j,listed.getD j false=true->j<ops.size/\j≠i:=by
  intro j hj;refine⟨?_,fun e=>by rw[e,hun]at hj;cases hj⟩;rw[← I.lsz]
  by_cases h:j<listed.size
  · exact h
  · simp[Nat.le_of_not_lt h]at hj
 have hvw:∀j,listed.getD j false=true->vw (a.put o.dst v) (L.D j)=vw a (L.D j):=by
  intro j hj;unfold vw;refine List.map_congr_left (fun t ht => ?_);rw[hput];refine if_neg (fun e => ?_);have h6:=((c3 t (hd.trans e)).2 j (hlj j hj).1 (hlj j hj).2.symm).1 ht;have h7:=I.clo j hj i h6;rw[hun]at h7;cases h7
 have hptr:∀j,listed.getD j false=true->∀k,Ptr2 (a.put o.dst v) ops j k↔Ptr2 a ops j k:=by
  intro j hj k;unfold Ptr2
  constructor
  · rintro⟨d,u,h1,h2,h3⟩;refine⟨d,u,h1,?_,h3⟩;rw[hput,if_neg (fun e=>((c3 d (hd.trans e)).2 j (hlj j hj).1 (hlj j hj).2.symm).2 h1)]at h2;exact h2
  · rintro⟨d,u,h1,h2,h3⟩;refine⟨d,u,h1,?_,h3⟩;rw[hput,if_neg (fun e=>((c3 d (hd.trans e)).2 j (hlj j hj).1 (hlj j hj).2.symm).2 h1)];exact h2
 have hnew:i ∈ L.al->∀k,Ptr2 (a.put o.dst v) ops i k->w.heap.size<=k/\k<w'.heap.size:=by
  intro hal k ⟨d,u,h1,h2,h5⟩;obtain⟨k',hv,h3,h4⟩:=G.ptr hal;rw[hput,if_pos (hd.symm.trans h1)]at h2
  cases h2
  rw[hv]at h5
  cases h5
  exact⟨h3,h4⟩
 have hcase:∀j,(listed.setIfInBounds i true).getD j false=true->j=i∨listed.getD j false=true:=by
  intro j hj;rw[lgd hil,Bool.or_eq_true,decide_eq_true_eq]at hj;exact hj.imp Eq.symm id
 refine⟨by simp[I.lsz],?_,?_,?_,(upd_set hil▸G.bag),?_,?_,?_,?_⟩
 · cases o.dst<;>simp[Act.put,I.asz]
 · cases o.dst<;>simp[Act.put,I.dfs]
 · intro t ht;rw[hput,if_neg,I.old t ht];intro e;unfold stays at ht;rw[List.all_eq_true]at ht;have:=ht i (List.mem_range.2 hi);rw[hd,e]at this
   simp at this
 · intro j hj
   rcases hcase j hj with rfl|hj
   · have:=G.fct;unfold vw;rw[show(L.D j).map (fun t=>(a.put o.dst v).tmps[t]?)=(L.D j).map (fun t=>if o.dst=some t then some v else a.tmps[t]?)from List.map_congr_left (fun t _=>hput t)];exact this
   · rw[hvw j hj]
     rcases G.stay with hb|hs
     · exact stay j _ _ _ hb (I.fct j hj)
     · refine hs j (hlj j hj).2 ?_ (I.fct j hj);intro x hx y hy hxy hxi hyj;exact I.apt x hx y hy hxy (hpre x hxi) (hyj.elim (I.clo j hj y) (fun e=>e▸hj))
 · intro j hj e he;rw[lgd hil,Bool.or_eq_true]
   rcases hcase j hj with rfl|hj
   · exact .inr (hpre e he)
   · exact .inr (I.clo j hj e he)
 · intro j hjal hj
   rcases hcase j hj with rfl|hj
   · obtain⟨k,hv,h3,h4⟩:=G.ptr hjal
     cases hx:o.dst with
     | none =>
      have:=List.all_eq_true.1 hal j hjal;rw[hd,hx]at this;cases this
     | some d=>exact⟨k,⟨d,v,hd.trans hx,by rw[← hx,hput,if_pos hx],hv⟩,h4⟩
   · obtain⟨k,h1,h2⟩:=I.alo j hjal hj;exact⟨k,(hptr j hj k).2 h1,Nat.lt_of_lt_of_le h2 G.size⟩
 · intro x hx y hy hxy hlx0 hly0 k
   rcases hcase x hlx0 with rfl|hlx
   · rcases hcase y hly0 with e|hly
     · exact absurd e.symm hxy
     · intro h1 h2;obtain⟨k',h3,h4⟩:=I.alo y hy hly;obtain⟨d,x1,e1,e2,e5⟩:=(hptr y hly k).1 h2;obtain⟨d',x2,e3,e4,e6⟩:=h3;rw[e1]at e3;cases e3;rw[e2]at e4;cases e4;rw[e5]at e6;cases e6;have:=(hnew hx k h1).1
       omega
   · rcases hcase y hly0 with rfl|hly
     · intro h1 h2;obtain⟨k',h3,h4⟩:=I.alo x hx hlx;obtain⟨d,x1,e1,e2,e5⟩:=(hptr x hlx k).1 h1;obtain⟨d',x2,e3,e4,e6⟩:=h3;rw[e1]at e3;cases e3;rw[e2]at e4;cases e4;rw[e5]at e6;cases e6;have:=(hnew hy k h2).1
       omega
     · intro h1 h2;exact I.apt x hx y hy hxy hlx hly k ((hptr x hlx k).1 h1) ((hptr y hly k).1 h2)
end
end Go.Proofs.YtdmmenaejkpnjaaGreatDoor
namespace Go.Proofs.YtdmmenaejkpnjaaGreatDoor
open Go.RowKit
attribute [local go_sem ↓] Go.wp_at_zero Go.wp_at_succ
def plZ:Array Value:=#[.slice none 0 0,.bool false,.slice none 0 0,.slice none 0 0]
def put4(w:World)(k:Nat)(a b c d:Value):World:=(((w.setCell ⟨k,0,none⟩ a).setCell ⟨k,1,none⟩ b).setCell ⟨k,2,none⟩ c).setCell ⟨k,3,none⟩ d
theorem Far.trans{g:Nat}{a b c:World}(h:Far g a b)(h2:Far g b c):Far g a c:=⟨Nat.le_trans h.size h2.size,fun k hk hl=>(h2.block k hk (Nat.lt_of_lt_of_le hl h.size)).trans (h.block k hk hl)⟩
theorem Far.refl(g:Nat)(w:World):Far g w w:=⟨Nat.le_refl _,fun _ _ _=>rfl⟩
theorem Far.of_below{g:Nat}{a b:World}(h:Below a.heap.size a b):Far g a b:=⟨h.size,fun k _ hl=>h.block k hl⟩
theorem Far.of_grown{g:Nat}{a b c:World}{row:Option Nat}(h:Far g a b)(hg:b.grownBy c row)(hr:∀x,row=some x->a.heap.size<=x):Far g a c :=
 ⟨Nat.le_trans h.size hg.size,fun k hk hl=>(hg.block k (Nat.lt_of_lt_of_le hl h.size) (fun e=>by have:=hr k e.symm;omega)).trans (h.block k hk hl)⟩
theorem far_put4(w:World)(k:Nat)(a b c d:Value):Far k w (put4 w k a b c d):=(((Far.setCell _ _ _ _).trans (Far.setCell _ _ _ _)).trans (Far.setCell _ _ _ _)).trans (Far.setCell _ _ _ _)
theorem row_put4{w:World}{k:Nat}{t:TypeId}{x0 x1 x2 x3:Value}(h:Row w k t #[x0,x1,x2,x3])(a b c d:Value):Row (put4 w k a b c d) k t #[a,b,c,d]:=(((h.set 0 a).set 1 b).set 2 c).set 3 d
theorem below_put4{w w1:World}{k:Nat}(h:Below w.heap.size w w1)(hk:w.heap.size<=k)(a b c d:Value):Below w.heap.size w (put4 w1 k a b c d):=(((h.setCell (p:=⟨k,0,none⟩) hk _).setCell (p:=⟨k,1,none⟩) hk _).setCell (p:=⟨k,2,none⟩) hk _).setCell (p:=⟨k,3,none⟩) hk _
def NoInt(cs:Array Value):Prop:=∀(o:Nat) (ki:IntKind) (z:Int),cs[o]? ≠ some (.int ki z)
theorem noInt_pl(sa:Option Addr)(sn sc:Nat)(ch:Bool)(ta:Option Addr)(tn tc:Nat)(na:Option Addr)(nn nc:Nat):NoInt (plC sa sn sc ch ta tn tc na nn nc):=by
 intro o ki z h;unfold plC at h
 rcases o with _|_|_|_|o
 all_goals first|(simp at h;done)|(cases h)
theorem Row.noLimb'{w:World}{g:Nat}{t:TypeId}{cs:Array Value}(h:Row w g t cs)(hn:NoInt cs):NoLimb w g:=by
 intro o z hc;rw[h.cell o]at hc;exact hn _ _ _ hc
theorem KRow.apart{w:World}{ki:IntKind}{a:Option Addr}{n c:Nat}{f:Nat->Int}{g:Nat}{t:TypeId}{cs:Array Value}(h:KRow w ki a n c f)(hr:Row w g t cs)(hn:NoInt cs):n=0∨∀x,a=some x->x.block≠g:=by
 rcases Nat.eq_zero_or_pos n with h0|h0
 · exact .inl h0
 · obtain⟨b,off,rfl,_,hc⟩:=h.2.2.resolve_left (by omega);refine .inr fun x hx e => ?_
   obtain rfl:=Option.some.inj hx;have e:b=g:=e;subst e;have:=hc 0 h0;rw[hr.cell]at this;exact hn _ _ _ this
theorem RRow.older{w:World}{a:Option Addr}{n c:Nat}{fP:Nat->Int}{fQ:Nat->Nat}{g:Nat}(h:RRow w a n c fP fQ)(hg:w.heap.size<=g):n=0∨∀x,a=some x->x.block≠g:=by
 rcases h.2.2 with h0|⟨b,off,rfl,hl,_⟩
 · exact .inl h0
 · refine .inr fun x hx e => ?_
   obtain rfl:=Option.some.inj hx;have e:b=g:=e
   omega
theorem QRow.away{w w':World}{sa:Option Addr}{n c:Nat}{fB:Nat->Bool}{fS fT:Nat->ByteArray}{g:Nat}(h:QRow w sa n c fB fS fT)(hg:n=0∨∀x,sa=some x->x.block≠g)(hf:Far g w w'):QRow w' sa n c fB fS fT:=by
 refine⟨h.1,h.2.1,?_⟩
 rcases h.2.2 with h0|⟨b,off,rfl,hl,hcc⟩
 · exact .inl h0
 · rcases hg with h0|hg
   · exact .inl h0
   · have hbg:b≠g:=hg _ rfl;refine .inr ⟨b,off,rfl,Nat.lt_of_lt_of_le hl hf.size,fun j hj => ?_⟩;obtain⟨e1,e2,e3⟩:=hcc j hj;exact⟨(hf.cell (a:=⟨b,_,none⟩) hbg hl).trans e1,(hf.cell (a:=⟨b,_,none⟩) hbg hl).trans e2,(hf.cell (a:=⟨b,_,none⟩) hbg hl).trans e3⟩
theorem own_ne{w:World}{base:Nat}{e:TypeId}{size:Nat}{a:Option Addr}{n c k:Nat}{xs:List Value}{g:Nat}(h:w.ownsRow base e size (.slice a n c) k xs)(hg:g<base):n=0∨∀x,a=some x->x.block≠g:=by
 rcases h.2 with ⟨e,_⟩|⟨g',cap,cur,e,_,_⟩
 · cases e;exact .inl rfl
 · have hlt:=h.lt
   injection e with e1 e2 e3
   subst e1;refine .inr fun x hx e => ?_
   obtain rfl:=Option.some.inj hx;have e:g'=g:=e;have:=(hlt g' rfl).1
   omega
theorem pl_step {w y0 wr w2 : World} {P : Nat} {sa : Option Addr} {sn sc : Nat} {ch : Bool} {ta : Option Addr} {tn tc : Nat} {a : Option Addr} {k c : Nat} {fB : Nat -> Bool} {fS fT : Nat -> ByteArray} {T E : TypeId} (hbl : Below w.heap.size w wr) (hf : Far P y0 wr) (hb : Below wr.heap.size wr w2)
    (hr:Row w2 P T (plC sa sn sc ch ta tn tc a k c)) (ho:w2.ownsRow y0.heap.size E 3 (.slice a k c) k (qcs fB fS fT k)) (hne:E≠T) (hP:w.heap.size<=P) (hy:w.heap.size<=y0.heap.size) :
    ∀(g cap:Nat) (w3:World),w3.ownsRow y0.heap.size E 3 (.slice (some ⟨g,0,none⟩) (k+1) cap) (k+1) (qcs fB fS fT k ++ [.bool (fB k),.string (fS k),.string (fT k)])->w2.grownBy w3 (Value.slice a k c).ownBlock ->
    Below w.heap.size w (w3.setCell ⟨P,3,none⟩ (.slice (some ⟨g,0,none⟩) (k+1) cap))/\Far P y0 (w3.setCell ⟨P,3,none⟩ (.slice (some ⟨g,0,none⟩) (k+1) cap))/\Row (w3.setCell ⟨P,3,none⟩ (.slice (some ⟨g,0,none⟩) (k+1) cap)) P T (plC sa sn sc ch ta tn tc (some ⟨g,0,none⟩) (k+1) cap)
     /\ (w3.setCell ⟨P,3,none⟩ (.slice (some ⟨g,0,none⟩) (k+1) cap)).ownsRow y0.heap.size E 3 (.slice (some ⟨g,0,none⟩) (k+1) cap) (k+1) (qcs fB fS fT (k+1)):=by
 intro g cap w3 ho3 hg;have hlt:=ho.lt;have hr3:=hr.grown hg (hr.apart ho hne);have hb2:Below w.heap.size w w2:=hbl.trans (hb.mono hbl.size);have hb3:Below w.heap.size w w3:=hb2.trans ⟨hg.os,hg.tape,hg.output,hg.size,fun j hj=>hg.block j (Nat.lt_of_lt_of_le hj hb2.size) (fun e=>by have:=(hlt j e.symm).1;omega)⟩;refine⟨hb3.setCell (p:=⟨P,3,none⟩) hP _,((hf.trans (Far.of_below hb)).of_grown hg (fun x hx=>(hlt x hx).1)).trans (Far.setCell _ _ _ _),hr3.set 3 _,own_setCell ho3 _ _ _ (hr3.apart ho3 hne)⟩
theorem plain_any (ch : Bool) (f : Nat -> Int) (r : Nat) (na : Option Addr) (n nc : Nat) (ta : Option Addr) (tn tc : Nat) (fP : Nat -> Int) (fQ : Nat -> Nat) (g : Nat -> Int) (w : World) (hr : r <= 8) (h : RRow w na n nc fP fQ) (ht : KRow w .i32 ta tn tc g) (hn : n <= 1000000) (htn : tn <= 1000000)
    (hQ:∀j,j<n->0<fQ j) (K:Nat) (hK:K<=100000) (h1:∀j,j<n->(fP j).natAbs<4294967296^K) (h2:∀j,j<n->fQ j<4294967296^K) :
    Calls Tryz.prog 53 #[.agg (arrC ch ((r:Int)-1) (dm f r) na n nc ta tn tc)] w fun e w'=>∃cs,e=.returned (.agg cs)/\PlnAt w' cs f r ch g tn (fun j=>rB (fP j)) (fun j=>rS (fP j)) (fun j=>str (dec (fQ j))) n/\Below w.heap.size w w':=by
 have SH:=Lib.hid (fun wz=>shape_any ch f r na n nc ta tn tc wz hr);have RU:=Lib.hid (fun wz h=>runes_any ch ((r:Int)-1) (dm f r) na n nc ta tn tc g wz h htn);obtain⟨i0,hi,hz0,hz1,hz2⟩:=info_parts infoN;have NM:=Lib.hid (fun a n' c m a2 n2 c2 P Q wz hz hq p1 p2=>num_any a n' c m a2 n2 c2 P Q wz hz hq K hK p1 p2);unfold NumTold at NM;have HQ:=Lib.hid hQ;have H1:=Lib.hid h1;have H2:=Lib.hid h2;have HR:=Lib.hid h;have hl:=h.len;have BB:=Lib.hid (((((Bag.start w).krow ht).rrow h).newRow (arrC ch ((r:Int)-1) (dm f r) na n nc ta tn tc) 36).newRow plZ 26);simp only[World.size_alloc]at BB;generalize dm f r=d at *;generalize (r:Int)-1=more at *;unfold arrC at BB SH RU;unfold arrC;unfold plZ at BB;clear h ht hQ h1 h2;go_enter Tryz.func53,Tryz.ntmps53;go_wp2_with fail
 refine wp_region_inv3 ⟨(fun j=>([[6], [7], [8], [9], [10], [11], [12], [3], []]:List (List Nat)).getD j []),(fun j=>([[], [0], [], [2], [], [0,1,4], [0,1,2,3,4,5], [], [0,1,2,3,4,5,6,7]]:List (List Nat)).getD j []), [7]⟩ 8 (fun jj vv yy=>match jj with|0=>vv = [some (.agg #[.bool ch,.int .i64 more,.int .i64 (d 0),.int .i64 (d 1),.int .i64 (d 2),.int .i64 (d 3),.int .i64 (d 4),.int .i64 (d 5),.int .i64 (d 6),.int .i64 (d 7),.slice na n nc,.slice ta tn tc])]|1=>∃(x1:Option Addr),∃(c1:Nat),vv = [some (.slice x1 r c1)]/\KRow yy .i64 x1 r c1 f|2=>vv = [some (.pointer (some ⟨w.heap.size,0,none⟩))]|3=>vv = [some (.bool ch)]|4=>vv = [some (.agg #[.bool ch,.int .i64 more,.int .i64 (d 0),.int .i64 (d 1),.int .i64 (d 2),.int .i64 (d 3),.int .i64 (d 4),.int .i64 (d 5),.int .i64 (d 6),.int .i64 (d 7),.slice na n nc,.slice ta tn tc])]|5=>∃(x5:Option Addr),∃(c5:Nat),vv = [some (.slice x5 tn c5)]/\KRow yy .i32 x5 tn c5 g|6=>∃(x1:Option Addr),∃(c1:Nat),∃(x5:Option Addr),∃(c5:Nat),vv = [some (.agg #[.slice x1 r c1,.bool ch,.slice x5 tn c5,.slice none 0 0])]/\KRow yy .i64 x1 r c1 f/\KRow yy .i32 x5 tn c5 g|7=>∃(k7:Nat),vv = [some (.pointer (some ⟨k7,0,none⟩))]/\Row yy k7 26 #[.slice none 0 0,.bool false,.slice none 0 0,.slice none 0 0]/\w.heap.size+1<k7|_=>True) (Bag w (fun y=>Row y (w.heap.size+1) 26 #[.slice none 0 0,.bool false,.slice none 0 0,.slice none 0 0]/\Row y w.heap.size 36 #[.bool ch,.int .i64 more,.int .i64 (d 0),.int .i64 (d 1),.int .i64 (d 2),.int .i64 (d 3),.int .i64 (d 4),.int .i64 (d 5),.int .i64 (d 6),.int .i64 (d 7),.slice na n nc,.slice ta tn tc]/\RRow y na n nc fP fQ/\KRow y .i32 ta tn tc g/\True)) (by kernel_rfl) (by kernel_rfl) (by kernel_rfl) (by kernel_rfl) BB.out.drew ?_ ?_ ?_
 · intro jj vv yw yw2 hb h
   match jj,h with
   | 0,h=>exact h
   | 1,⟨x1,c1,e1,g1_0⟩=>exact Exists.intro x1 (Exists.intro c1 (And.intro e1 (g1_0.below hb)))
   | 2,h=>exact h
   | 3,h=>exact h
   | 4,h=>exact h
   | 5,⟨x5,c5,e5,g5_0⟩=>exact Exists.intro x5 (Exists.intro c5 (And.intro e5 (g5_0.below hb)))
   | 6,⟨x1,c1,x5,c5,e6,g6_0,g6_1⟩=>exact Exists.intro x1 (Exists.intro c1 (Exists.intro x5 (Exists.intro c5 (And.intro e6 (And.intro (g6_0.below hb) (g6_1.below hb))))))
   | 7,⟨k7,e7,g7_0,g7_1⟩=>exact Exists.intro k7 (And.intro e7 (And.intro (g7_0.below hb) g7_1))
   | _+8,h=>exact h
 · intro ac yw hsz hdf hold hB hp; obtain ⟨P, e7, hp0, hP⟩ := hp 7 (by decide); obtain ⟨x1, c1, x5, c5, e6, hk1, hk5⟩ := hp 6 (by decide); have t3 : ac.tmps[3]? = some (.pointer (some ⟨P, 0, none⟩)) := (List.cons.inj e7).1; have t12 : ac.tmps[12]? = some (.agg #[.slice x1 r c1, .bool ch, .slice x5 tn c5, .slice none 0 0]) := (List.cons.inj e6).1; have t1 : ac.tmps[1]? = some (.pointer (some ⟨w.heap.size, 0, none⟩)) := hold 1 (by kernel_rfl); have t2 : ac.tmps[2]? = some (.pointer (some ⟨w.heap.size + 1, 0, none⟩)) := hold 2 (by kernel_rfl); clear hold hp e6 e7; obtain ⟨TV, hTV⟩ : ∃ TV : Nat -> Value, ∀ i, (ac.tmps[i]?).getD undef = TV i := ⟨_, fun _ => rfl⟩
   have f1:=(hTV 1).symm.trans (congrArg (fun x=>Option.getD x undef) t1);have f2:=(hTV 2).symm.trans (congrArg (fun x=>Option.getD x undef) t2);have f3:=(hTV 3).symm.trans (congrArg (fun x=>Option.getD x undef) t3);have f12:=(hTV 12).symm.trans (congrArg (fun x=>Option.getD x undef) t12);have hac:=act_eq (n:=29) hsz TV hTV;rw[show((List.range 29).map TV).toArray=#[TV 0,TV 1,TV 2,TV 3,TV 4,TV 5,TV 6,TV 7,TV 8,TV 9,TV 10,TV 11,TV 12,TV 13,TV 14,TV 15,TV 16,TV 17,TV 18,TV 19,TV 20,TV 21,TV 22,TV 23,TV 24,TV 25,TV 26,TV 27,TV 28]from rfl,f1,f2,f3,f12,hdf]at hac;simp only[Option.getD_some]at hac;subst hac;clear hTV f1 f2 f3 f12;have q0:yw.cell? ⟨P,0,none⟩=some (.slice none 0 0):=hp0.cell 0;have q1:yw.cell? ⟨P,1,none⟩=some (.bool false):=hp0.cell 1;have q2:yw.cell? ⟨P,2,none⟩=some (.slice none 0 0):=hp0.cell 2;have q3:yw.cell? ⟨P,3,none⟩=some (.slice none 0 0):=hp0.cell 3;have g0:=hp0.free 0;have g1:=hp0.free 1;have g2:=hp0.free 2;have g3:=hp0.free 3;have hnl:NoInt (plC none 0 0 false none 0 0 none 0 0):=noInt_pl _ _ _ _ _ _ _ _ _ _;have HF:=far_put4 yw P (.slice x1 r c1) (.bool ch) (.slice x5 tn c5) (.slice none 0 0)
   have HY : Hid (Below w.heap.size w (put4 yw P (.slice x1 r c1) (.bool ch) (.slice x5 tn c5) (.slice none 0 0)) /\ Row (put4 yw P (.slice x1 r c1) (.bool ch) (.slice x5 tn c5) (.slice none 0 0)) P 26 (plC x1 r c1 ch x5 tn c5 none 0 0)
       /\ Row (put4 yw P (.slice x1 r c1) (.bool ch) (.slice x5 tn c5) (.slice none 0 0)) (w.heap.size+1) 26 #[.slice none 0 0,.bool false,.slice none 0 0,.slice none 0 0]/\Row (put4 yw P (.slice x1 r c1) (.bool ch) (.slice x5 tn c5) (.slice none 0 0)) w.heap.size 36 #[.bool ch,.int .i64 more,.int .i64 (d 0),.int .i64 (d 1),.int .i64 (d 2),.int .i64 (d 3),.int .i64 (d 4),.int .i64 (d 5),.int .i64 (d 6),.int .i64 (d 7),.slice na n nc,.slice ta tn tc]
       /\ RRow (put4 yw P (.slice x1 r c1) (.bool ch) (.slice x5 tn c5) (.slice none 0 0)) na n nc fP fQ/\(n=0∨∀x,na=some x->x.block≠P)
       /\ KRow (put4 yw P (.slice x1 r c1) (.bool ch) (.slice x5 tn c5) (.slice none 0 0)) .i64 x1 r c1 f/\KRow (put4 yw P (.slice x1 r c1) (.bool ch) (.slice x5 tn c5) (.slice none 0 0)) .i32 x5 tn c5 g) :=
    ⟨below_put4 hB.below (by omega) _ _ _ _,row_put4 hp0 _ _ _ _,(HF.block _ (by omega) hB.now.1.lt).trans hB.now.1,(HF.block _ (by omega) hB.now.2.1.lt).trans hB.now.2.1,
      hB.now.2.2.1.away (hp0.noLimb' hnl) (HR.out.older (by omega)) HF,HR.out.older (by omega),hk1.away (hk1.apart hp0 hnl) HF,hk5.away (hk5.apart hp0 hnl) HF⟩
   unfold put4 at HY;clear HF hnl hp0 hk1 hk5 hB t1 t2 t3 t12;refine TailWp.step rfl ?_;intro K hK;go_simp;refine hK.out _ _ ?_;refine TailWp.end rfl ?_;generalize (((yw.setCell ⟨P,0,none⟩ (.slice x1 r c1)).setCell ⟨P,1,none⟩ (.bool ch)).setCell ⟨P,2,none⟩ (.slice x5 tn c5)).setCell ⟨P,3,none⟩ (.slice none 0 0)=y0 at *;clear q0 q1 q2 q3 g0 g1 g2 g3;obtain⟨hbl0,hrp0,hrr0,hrb0,hnn0,hne0,hks0,hkt0⟩:=HY.out;have qn:y0.cell? ⟨w.heap.size,10,none⟩=some (.slice na n nc):=hrb0.cell 10
   have H0:Hid (Below w.heap.size w y0/\Far P y0 y0/\Row y0 P 26 (plC x1 r c1 ch x5 tn c5 none 0 0)/\y0.ownsRow y0.heap.size 46 3 (.slice none 0 0) 0 (qcs (fun j=>rB (fP j)) (fun j=>rS (fP j)) (fun j=>str (dec (fQ j))) 0)) :=
    ⟨hbl0,Far.refl _ _,hrp0,World.ownsRow_nil _ _ _ _⟩
   have HPP:=Lib.hid (And.intro (show w.heap.size+1<P by omega) hbl0.size);clear hbl0 hrp0 hrr0 hrb0 hnn0 hne0 hks0 hkt0 hP;go_wp2_with fail
   go_loopw [16] (fun i wr=>∃(k:Nat) (a:Option Addr) (c:Nat),k<=n/\i=.int .i64 k/\Hid (Below w.heap.size w wr/\Far P y0 wr/\Row wr P 26 (plC x1 r c1 ch x5 tn c5 a k c)/\wr.ownsRow y0.heap.size 46 3 (.slice a k c) k (qcs (fun j=>rB (fP j)) (fun j=>rS (fP j)) (fun j=>str (dec (fQ j))) k))) (fun i _=>n-(intOf i).toNat)
   case atStart=>exact⟨0,none,0,by omega,rfl,H0.out⟩
   case round =>
    obtain⟨k,a,c,hk,rfl,hrel⟩:=hrel;obtain⟨hbl,hfar,hrp,hown⟩:=hrel.out;obtain⟨_,hrp0,hrr0,hrb0,hnn0,hne0,hks0,hkt0⟩:=HY.out
    by_cases hlt:k<n
    · obtain ⟨b, off, a', n', c', m', a2', n2', c2', rfl, hlb, e1, e2, e3, hi'⟩ := (hnn0.away (hrp0.noLimb' (noInt_pl _ _ _ _ _ _ _ _ _ _)) hne0 hfar).get hlt; have BB := Lib.hid (((((Bag.start wr).own hown).row hrp).rat hi').alloc (.cells #[.slice a' n' c', .bool m', .slice a2' n2' c2'] 53)); have HBL := Lib.hid hbl; have HF := Lib.hid hfar; have qp : (wr.alloc (.cells #[.slice a' n' c', .bool m', .slice a2' n2' c2'] 53)).cell? ⟨P, 3, none⟩ = some (.slice a k c) := BB.out.now.2.1.cell 3; clear hbl hfar hrp hown hrp0 hrr0 hrb0 hnn0 hne0 hks0 hkt0 hi'; have HMX := Lib.hid (show k + 1 <= maxLen by unfold maxLen; omega); have HMY := Lib.hid (show (k + 1) * 40 <= 140737488355328 by omega); have HONE := Lib.hid (show ∀ u ∈ ([.bool (rB (fP k)), .string (rS (fP k)), .string (str (dec (fQ k)))] : List Value), u.oneCell' = true by intro u hu; simp at hu; rcases hu with rfl | rfl | rfl <;> rfl); go_wp2_with fail
      go_region_law (first
       | (go_simp; go_at_call 21; (with_reducible refine (NM.out _ _ _ _ _ _ _ (fP k) (fQ k) _ ?_ ?_ ?_ ?_).mono ?_); exact BB.out.drew.now.1; exact HQ.out k hlt; exact H1.out k hlt; exact H2.out k hlt; rintro e w2 ⟨rfl, hb2⟩;
           have B2:=Lib.hid ((BB.out.drew.go hb2).newRow #[.bool (rB (fP k)),.string (rS (fP k)),.string (str (dec (fQ k)))] 46);
           have qp2:w2.cell? ⟨P,3,none⟩=some (.slice a k c):=(BB.out.drew.go hb2).now.2.1.cell 3;
           have qp3:(w2.alloc (.cells #[.bool (rB (fP k)),.string (rS (fP k)),.string (str (dec (fQ k)))] 46)).cell? ⟨P,3,none⟩=some (.slice a k c):=B2.out.now.2.2.1.cell 3;
           have HROW:=Lib.hid B2.out.now.2.2.1;
           have HOWN:=Lib.hid B2.out.now.2.2.2.1;
           have HNEW:=Lib.hid (World.news_of_block B2.out.now.1);
           have HBA:=Lib.hid (Nat.le_trans HF.out.size B2.out.below.size);
           have HNX:=Lib.hid (pl_step HBL.out HF.out B2.out.below HROW.out HOWN.out (by decide) (by have:=HPP.out.1;omega) HPP.out.2);
           clear hb2)
       | (refine step_append_lies _ rfl (.tmp 21) (.tmp 24) 24 rfl y0.heap.size 46 i0 _ 3 40 Tryz.underlying24 hi hz0 hz1 hz2 rfl (by omega) (.slice a k c) k _ rfl HOWN.out ⟨w2.heap.size, 0, none⟩ 1 1 [.bool (rB (fP k)), .string (rS (fP k)), .string (str (dec (fQ k)))] rfl rfl HNEW.out HONE.out (by omega) HMX.out HMY.out HBA.out _ rfl ?_; intro g9 cap9 w3 hown3 hgrow hor hlt3;
           have hx:=HOWN.out.lt;have hr3:=HROW.out.grown hgrow (HROW.out.apart HOWN.out (by decide));have qp:w3.cell? ⟨P,3,none⟩=some (.slice a k c):=hr3.cell 3;have fp:=hr3.free 3;have HN:=Lib.hid (HNX.out g9 cap9 w3 hown3 hgrow);clear hx hown3 hgrow hor hlt3 hr3))
      all_goals
       go_wp2
       go_roundw
       case rel=>exact⟨k+1,_,cap9,by omega,by go_num,HN.out⟩
       case measure=>simp[intOf];omega
    · obtain rfl:k=n:=by omega
      have hnk:=noInt_pl x1 r c1 ch x5 tn c5 none 0 0;have qp:wr.cell? ⟨P,0,none⟩=some (.slice x1 r c1):=hrp.cell 0;have qp1:wr.cell? ⟨P,1,none⟩=some (.bool ch):=hrp.cell 1;have qp2:wr.cell? ⟨P,2,none⟩=some (.slice x5 tn c5):=hrp.cell 2;have qp3:wr.cell? ⟨P,3,none⟩=some (.slice a k c):=hrp.cell 3;have hr2:Row wr (w.heap.size+1) 26 #[.slice none 0 0,.bool false,.slice none 0 0,.slice none 0 0]:=(hfar.block _ (by have:=HPP.out.1;omega) hrr0.lt).trans hrr0;have c0:wr.cell? ⟨w.heap.size+1,0,none⟩=some (.slice none 0 0):=hr2.cell 0;have c1':wr.cell? ⟨w.heap.size+1,1,none⟩=some (.bool false):=hr2.cell 1;have c2:wr.cell? ⟨w.heap.size+1,2,none⟩=some (.slice none 0 0):=hr2.cell 2;have c3:wr.cell? ⟨w.heap.size+1,3,none⟩=some (.slice none 0 0):=hr2.cell 3;have f0:=hr2.free 0;have f1:=hr2.free 1;have f2:=hr2.free 2;have f3:=hr2.free 3;have hF:=far_put4 wr (w.heap.size+1) (.slice x1 r c1) (.bool ch) (.slice x5 tn c5) (.slice a k c);have hR:=row_put4 hr2 (.slice x1 r c1) (.bool ch) (.slice x5 tn c5) (.slice a k c);have hni:NoInt #[.slice none 0 0,.bool false,.slice none 0 0,.slice none 0 0]:=noInt_pl none 0 0 false none 0 0 none 0 0;have k1:=hks0.away (hks0.apart hrp0 hnk) hfar;have k5:=hkt0.away (hkt0.apart hrp0 hnk) hfar;obtain⟨a1,c9,he,hq⟩:=QRow.of_own hown
      injection he with he1 _ he2
      subst he1 he2
      have HE:Hid ((∃cs,(Ending.returned (.agg #[.slice x1 r c1,.bool ch,.slice x5 tn c5,.slice a k c]))=.returned (.agg cs)/\PlnAt (put4 wr (w.heap.size+1) (.slice x1 r c1) (.bool ch) (.slice x5 tn c5) (.slice a k c)) cs f r ch g tn (fun j=>rB (fP j)) (fun j=>rS (fP j)) (fun j=>str (dec (fQ j))) k/\Below w.heap.size w (put4 wr (w.heap.size+1) (.slice x1 r c1) (.bool ch) (.slice x5 tn c5) (.slice a k c)))) :=
       ⟨_,rfl,⟨_,_,_,_,_,_,rfl,k1.away (k1.apart hr2 hni) hF,k5.away (k5.apart hr2 hni) hF,hq.away (own_ne hown (by have:=HPP.out;have:=hrp0.lt;omega)) hF⟩,below_put4 hbl (by omega) _ _ _ _⟩
      have HS:Hid (∀i,(put4 wr (w.heap.size+1) (.slice x1 r c1) (.bool ch) (.slice x5 tn c5) (.slice a k c)).cell? ⟨w.heap.size+1,i,none⟩=(#[.slice x1 r c1,.bool ch,.slice x5 tn c5,.slice a k c]:Array Value)[i]?):=fun i=>hR.cell i
      have s0:=HS.out 0;have s1:=HS.out 1;have s2:=HS.out 2;have s3:=HS.out 3;unfold put4 at HE s0 s1 s2 s3;clear hbl hfar hrp hown hrp0 hrr0 hrb0 hnn0 hne0 hks0 hkt0 hF hR hni k1 k5 hq hr2 hnk HS;go_wp2;exact bodyPost_ret (v:=.agg #[.slice x1 r c1,.bool ch,.slice x5 tn c5,.slice a k c]) (by simp[results,Tryz.results53,go_sem,s0,s1,s2,s3]) rfl HE.out
 refine Stps2.cons (o:=_) ?_ ?_
 · intro ac yw hsz hold hB hp K hK;have t1:ac.tmps[1]? = some (.pointer (some ⟨w.heap.size,0,none⟩)):=hold 1 (by kernel_rfl);clear hold hp hsz;have v0:yw.cell? ⟨w.heap.size,0,none⟩=some (.bool ch):=hB.now.2.1.cell 0;have v1:yw.cell? ⟨w.heap.size,1,none⟩=some (.int .i64 more):=hB.now.2.1.cell 1;have v2:yw.cell? ⟨w.heap.size,2,none⟩=some (.int .i64 (d 0)):=hB.now.2.1.cell 2;have v3:yw.cell? ⟨w.heap.size,3,none⟩=some (.int .i64 (d 1)):=hB.now.2.1.cell 3;have v4:yw.cell? ⟨w.heap.size,4,none⟩=some (.int .i64 (d 2)):=hB.now.2.1.cell 4;have v5:yw.cell? ⟨w.heap.size,5,none⟩=some (.int .i64 (d 3)):=hB.now.2.1.cell 5;have v6:yw.cell? ⟨w.heap.size,6,none⟩=some (.int .i64 (d 4)):=hB.now.2.1.cell 6;have v7:yw.cell? ⟨w.heap.size,7,none⟩=some (.int .i64 (d 5)):=hB.now.2.1.cell 7;have v8:yw.cell? ⟨w.heap.size,8,none⟩=some (.int .i64 (d 6)):=hB.now.2.1.cell 8;have v9:yw.cell? ⟨w.heap.size,9,none⟩=some (.int .i64 (d 7)):=hB.now.2.1.cell 9;have v10:yw.cell? ⟨w.heap.size,10,none⟩=some (.slice na n nc):=hB.now.2.1.cell 10;have v11:yw.cell? ⟨w.heap.size,11,none⟩=some (.slice ta tn tc):=hB.now.2.1.cell 11;go_simp;exact hK.out _ _ ⟨hB,rfl,Nat.le_refl _,.inl (Below.refl _ _),fun h=>absurd h (by decide)⟩
 refine Stps2.cons (o:=_) ?_ ?_
 · intro ac yw hsz hold hB hp K hK;have e0:=hp 0 (by decide);have t6:ac.tmps[6]? = some (.agg #[.bool ch,.int .i64 more,.int .i64 (d 0),.int .i64 (d 1),.int .i64 (d 2),.int .i64 (d 3),.int .i64 (d 4),.int .i64 (d 5),.int .i64 (d 6),.int .i64 (d 7),.slice na n nc,.slice ta tn tc]):=(List.cons.inj e0).1;clear hold hp hsz e0;go_simp
   (go_at_call 39;(with_reducible refine(SH.out _).mono ?_);rintro e wz ⟨x1,c1,rfl,h1_0,hbz⟩)
   exact hK.out _ _ ⟨hB.go hbz,Exists.intro x1 (Exists.intro c1 (And.intro rfl h1_0)),hbz.size,.inl hbz,fun h=>absurd h (by decide)⟩
 refine Stps2.cons (o:=_) ?_ ?_
 · intro ac yw hsz hold hB hp K hK;have t1:ac.tmps[1]? = some (.pointer (some ⟨w.heap.size,0,none⟩)):=hold 1 (by kernel_rfl);clear hold hp hsz;go_simp;exact hK.out _ _ ⟨hB,rfl,Nat.le_refl _,.inl (Below.refl _ _),fun h=>absurd h (by decide)⟩
 refine Stps2.cons (o:=_) ?_ ?_
 · intro ac yw hsz hold hB hp K hK;have e2:=hp 2 (by decide);have t8:ac.tmps[8]? = some (.pointer (some ⟨w.heap.size,0,none⟩)):=(List.cons.inj e2).1;clear hold hp hsz e2;have v0:yw.cell? ⟨w.heap.size,0,none⟩=some (.bool ch):=hB.now.2.1.cell 0;have v1:yw.cell? ⟨w.heap.size,1,none⟩=some (.int .i64 more):=hB.now.2.1.cell 1;have v2:yw.cell? ⟨w.heap.size,2,none⟩=some (.int .i64 (d 0)):=hB.now.2.1.cell 2;have v3:yw.cell? ⟨w.heap.size,3,none⟩=some (.int .i64 (d 1)):=hB.now.2.1.cell 3;have v4:yw.cell? ⟨w.heap.size,4,none⟩=some (.int .i64 (d 2)):=hB.now.2.1.cell 4;have v5:yw.cell? ⟨w.heap.size,5,none⟩=some (.int .i64 (d 3)):=hB.now.2.1.cell 5;have v6:yw.cell? ⟨w.heap.size,6,none⟩=some (.int .i64 (d 4)):=hB.now.2.1.cell 6;have v7:yw.cell? ⟨w.heap.size,7,none⟩=some (.int .i64 (d 5)):=hB.now.2.1.cell 7;have v8:yw.cell? ⟨w.heap.size,8,none⟩=some (.int .i64 (d 6)):=hB.now.2.1.cell 8;have v9:yw.cell? ⟨w.heap.size,9,none⟩=some (.int .i64 (d 7)):=hB.now.2.1.cell 9;have v10:yw.cell? ⟨w.heap.size,10,none⟩=some (.slice na n nc):=hB.now.2.1.cell 10;have v11:yw.cell? ⟨w.heap.size,11,none⟩=some (.slice ta tn tc):=hB.now.2.1.cell 11;go_simp;exact hK.out _ _ ⟨hB,rfl,Nat.le_refl _,.inl (Below.refl _ _),fun h=>absurd h (by decide)⟩
 refine Stps2.cons (o:=_) ?_ ?_
 · intro ac yw hsz hold hB hp K hK;have t1:ac.tmps[1]? = some (.pointer (some ⟨w.heap.size,0,none⟩)):=hold 1 (by kernel_rfl);clear hold hp hsz;have v0:yw.cell? ⟨w.heap.size,0,none⟩=some (.bool ch):=hB.now.2.1.cell 0;have v1:yw.cell? ⟨w.heap.size,1,none⟩=some (.int .i64 more):=hB.now.2.1.cell 1;have v2:yw.cell? ⟨w.heap.size,2,none⟩=some (.int .i64 (d 0)):=hB.now.2.1.cell 2;have v3:yw.cell? ⟨w.heap.size,3,none⟩=some (.int .i64 (d 1)):=hB.now.2.1.cell 3;have v4:yw.cell? ⟨w.heap.size,4,none⟩=some (.int .i64 (d 2)):=hB.now.2.1.cell 4;have v5:yw.cell? ⟨w.heap.size,5,none⟩=some (.int .i64 (d 3)):=hB.now.2.1.cell 5;have v6:yw.cell? ⟨w.heap.size,6,none⟩=some (.int .i64 (d 4)):=hB.now.2.1.cell 6;have v7:yw.cell? ⟨w.heap.size,7,none⟩=some (.int .i64 (d 5)):=hB.now.2.1.cell 7;have v8:yw.cell? ⟨w.heap.size,8,none⟩=some (.int .i64 (d 6)):=hB.now.2.1.cell 8;have v9:yw.cell? ⟨w.heap.size,9,none⟩=some (.int .i64 (d 7)):=hB.now.2.1.cell 9;have v10:yw.cell? ⟨w.heap.size,10,none⟩=some (.slice na n nc):=hB.now.2.1.cell 10;have v11:yw.cell? ⟨w.heap.size,11,none⟩=some (.slice ta tn tc):=hB.now.2.1.cell 11;go_simp;exact hK.out _ _ ⟨hB,rfl,Nat.le_refl _,.inl (Below.refl _ _),fun h=>absurd h (by decide)⟩
 refine Stps2.cons (o:=_) ?_ ?_
 · intro ac yw hsz hold hB hp K hK;have e4:=hp 4 (by decide);have t10:ac.tmps[10]? = some (.agg #[.bool ch,.int .i64 more,.int .i64 (d 0),.int .i64 (d 1),.int .i64 (d 2),.int .i64 (d 3),.int .i64 (d 4),.int .i64 (d 5),.int .i64 (d 6),.int .i64 (d 7),.slice na n nc,.slice ta tn tc]):=(List.cons.inj e4).1;clear hold hp hsz e4;go_simp
   (go_at_call 44;(with_reducible refine(RU.out _ hB.now.2.2.2.1).mono ?_);rintro e wz ⟨x5,c5,rfl,h5_0,hbz⟩)
   exact hK.out _ _ ⟨hB.go hbz,Exists.intro x5 (Exists.intro c5 (And.intro rfl h5_0)),hbz.size,.inl hbz,fun h=>absurd h (by decide)⟩
 refine Stps2.cons (o:=_) ?_ ?_
 · intro ac yw hsz hold hB hp K hK;obtain⟨x1_1,c1_1,e1,g1_0⟩:=hp 1 (by decide);have t7:ac.tmps[7]? = some (.slice x1_1 r c1_1):=(List.cons.inj e1).1;have e3:=hp 3 (by decide);have t9:ac.tmps[9]? = some (.bool ch):=(List.cons.inj e3).1;obtain⟨x5_5,c5_5,e5,g5_0⟩:=hp 5 (by decide);have t11:ac.tmps[11]? = some (.slice x5_5 tn c5_5):=(List.cons.inj e5).1;clear hold hp hsz e1 e3 e5;go_simp;exact hK.out _ _ ⟨hB,Exists.intro x1_1 (Exists.intro c1_1 (Exists.intro x5_5 (Exists.intro c5_5 (And.intro rfl (And.intro g1_0 g5_0))))),Nat.le_refl _,.inl (Below.refl _ _),fun h=>absurd h (by decide)⟩
 refine Stps2.cons (o:=_) ?_ ?_
 · intro ac yw hsz hold hB hp K hK;clear hold hp hsz;have hk0:=hB.now.1.lt;have hsl:=Row.new yw 26 #[.slice none 0 0,.bool false,.slice none 0 0,.slice none 0 0];have hbz:Below yw.heap.size yw (yw.alloc (.cells #[.slice none 0 0,.bool false,.slice none 0 0,.slice none 0 0] 26))/\yw.heap.size<(yw.alloc (.cells #[.slice none 0 0,.bool false,.slice none 0 0,.slice none 0 0] 26)).heap.size:=⟨(Below.refl _ _).alloc (Nat.le_refl _) _,by simp⟩
   go_simp;exact hK.out _ _ ⟨hB.alloc _,Exists.intro yw.heap.size (And.intro rfl (And.intro hsl hk0)),Nat.le_of_lt hbz.2,.inl hbz.1,fun _=>⟨_,rfl,Nat.le_refl _,hbz.2⟩⟩
 exact Stps2.nil _
end Go.Proofs.YtdmmenaejkpnjaaGreatDoor
namespace Go.Proofs.YtdmmenaejkpnjaaGreatDoor
open Go.RowKit
def ChrTold1(f:Nat->Int)(r n:Nat)(g:Nat->Int)(w w':World)(e:Ending):Prop:=∃cs,e=.returned (.agg cs)/\ChrArr w' cs f r n g/\Below w.heap.size w w'
theorem RRow.one{w:World}{a:Option Addr}{n c:Nat}{m:Bool}{a2:Option Addr}{n2 c2:Nat}{P:Int}{Q:Nat}(h:RatAt w a n c m a2 n2 c2 P Q)(t:TypeId):RRow (w.alloc (.cells #[.slice a n c,.bool m,.slice a2 n2 c2] t)) (some ⟨w.heap.size,0,none⟩) 1 1 (fun _=>P) (fun _=>Q):=by
 have hR:=Row.new w t #[.slice a n c,.bool m,.slice a2 n2 c2];refine⟨Nat.le_refl _,by unfold maxLen;omega,.inr ⟨_,0,rfl,by simp,fun j hj => ?_⟩⟩;obtain rfl:j=0:=by omega
 exact⟨a,n,c,m,a2,n2,c2,hR.cell 0,hR.cell 1,hR.cell 2,h.below ((Below.refl _ _).alloc (Nat.le_refl _) _)⟩
theorem KRow.one'(w:World)(ki:IntKind)(x:Int)(t:TypeId):KRow (w.alloc (.cells #[.int ki x] t)) ki (some ⟨w.heap.size,0,none⟩) 1 1 (fun _=>x):=by
 refine⟨Nat.le_refl _,by unfold maxLen;omega,.inr ⟨_,0,rfl,by simp,fun j hj => ?_⟩⟩;obtain rfl:j=0:=by omega
 exact(Row.new w t #[.int ki x]).cell 0
theorem sh_none:(shB (fun _=>(0:Int)) 0&&decide (itm (fun _=>(0:Int)) 0=((1:Nat):Int)))=true:=by decide
theorem In64.none(f:Nat->Int):In64 f 0:=fun _ h=>absurd h (Nat.not_lt_zero _)
theorem NumArr.row{w:World}{cs:Array Value}{f:Nat->Int}{r n:Nat}{fP:Nat->Int}{fQ:Nat->Nat}(h:NumArr w cs f r n fP fQ){g k:Nat}{t:TypeId}{ch:Bool}{more:Int}{d:Nat->Int}{na:Option Addr}{nn nc:Nat}{ta:Option Addr}{tn tc:Nat}(hr:Row w k t (arrC ch more d na nn nc ta tn tc))(hg:k=g)(cs':Array Value):NumArr (w.setRow g cs') cs f r n fP fQ:=by
 subst hg;obtain⟨a,c,h1,h2⟩:=h;exact⟨a,c,h1,h2.away (Row.noLimb hr) (RRow.ne h2 hr) (Far.setRow _ _ _)⟩
theorem ChrArr.row{w:World}{cs:Array Value}{f:Nat->Int}{r n:Nat}{g:Nat->Int}(h:ChrArr w cs f r n g){k:Nat}{t:TypeId}{ch:Bool}{more:Int}{d:Nat->Int}{na:Option Addr}{nn nc:Nat}{ta:Option Addr}{tn tc:Nat}(hr:Row w k t (arrC ch more d na nn nc ta tn tc))(cs':Array Value):ChrArr (w.setRow k cs') cs f r n g:=by
 obtain⟨a,c,h1,h2⟩:=h;exact⟨a,c,h1,h2.away (KRow.ne h2 (by decide) hr) (Far.setRow _ _ _)⟩
theorem zerC_row:zerC=arrC false 0 (fun _=>0) none 0 0 none 0 0:=rfl
theorem ans_num {w w3 : World} {cs : Array Value} {f : Nat -> Int} {r n : Nat} {fP : Nat -> Int} {fQ : Nat -> Nat} (h : NumArr w3 cs f r n fP fQ) (hb : Below w.heap.size w w3) {k : Nat} {t t' : TypeId} (hr0 : Row w3 k t zerC) (hk : w.heap.size <= k) :
    NumTold1 f r n fP fQ w ((w3.alloc (.cells cs t')).setRow k cs) (.returned (.agg cs)):=by
 have hb':Below w3.heap.size w3 (w3.alloc (.cells cs t')):=(Below.refl _ _).alloc (Nat.le_refl _) _;rw[zerC_row]at hr0;exact⟨cs,rfl,(h.below hb').row (hr0.below hb') rfl cs,below_put (hb.trans (hb'.mono hb.size)) hk _⟩
theorem ans_chr {w w3 : World} {cs : Array Value} {f : Nat -> Int} {r n : Nat} {g : Nat -> Int} (h : ChrArr w3 cs f r n g) (hb : Below w.heap.size w w3) {k : Nat} {t t' : TypeId} (hr0 : Row w3 k t zerC) (hk : w.heap.size <= k) :
    ChrTold1 f r n g w ((w3.alloc (.cells cs t')).setRow k cs) (.returned (.agg cs)):=by
 have hb':Below w3.heap.size w3 (w3.alloc (.cells cs t')):=(Below.refl _ _).alloc (Nat.le_refl _) _;rw[zerC_row]at hr0;exact⟨cs,rfl,(h.below hb').row (hr0.below hb') cs,below_put (hb.trans (hb'.mono hb.size)) hk _⟩
theorem arrNum_any (a : Option Addr) (n c : Nat) (m : Bool) (a2 : Option Addr) (n2 c2 : Nat) (P : Int) (Q : Nat) (w : World) (h : RatAt w a n c m a2 n2 c2 P Q) :
    Calls Tryz.prog 93 #[.agg #[.slice a n c,.bool m,.slice a2 n2 c2]] w fun e w'=>NumTold1 (fun _=>0) 0 1 (fun _=>P) (fun _=>Q) w w' e:=by
 have NU:=Lib.hid (fun la lc wz (h2:RRow wz la 1 lc (fun _=>P) (fun _=>Q))=>nums_any none 0 0 (fun _=>0) la 1 lc (fun _=>P) (fun _=>Q) wz (KRow.nought _ _ _ _ (Nat.zero_le _) _) (In64.none _) h2 (by omega));rw[sh_none]at NU;unfold NumsTold at NU;have BB:=Lib.hid (((((Bag.start w).rat h).alloc (.cells #[.slice a n c,.bool m,.slice a2 n2 c2] 53)).newRow zerC 36));have HR:=Lib.hid (RRow.one BB.out.now.2.1 53);have BB:=Lib.hid (BB.out.alloc (.cells #[.slice a n c,.bool m,.slice a2 n2 c2] 53));simp only[World.size_alloc]at BB HR;clear h;go_enter Tryz.func93,Tryz.ntmps93;go_wp2_with fail;go_at_call 45
 (with_reducible refine(NU.out _ _ _ ?_).mono ?_)
 · exact HR.out
 rintro e w3 ⟨cs,rfl,hcs,hb3⟩;rw[if_pos trivial]at hcs;have B3:=BB.out.go hb3;have HE:=Lib.hid (ans_num (t':=36) hcs B3.below B3.now.1 (Nat.le_succ _));obtain⟨na,nc,rfl,_⟩:=hcs;have HR1:=Lib.hid (Row.new w3 36 (arrC false (((0:Nat):Int)-1) (dm (fun _=>0) 0) na 1 nc none 0 0));have HR0:=Lib.hid (B3.now.1.below ((Below.refl _ _).alloc (Nat.le_refl _) (.cells (arrC false (((0:Nat):Int)-1) (dm (fun _=>0) 0) na 1 nc none 0 0) 36)));clear hb3 B3;unfold arrC
 go_wp2_with (first
  | (refine ld_arr rfl (.tmp 3) rfl w3.heap.size rfl HR1.out ?_)
  | (refine st_arr rfl (.tmp 2) (.tmp 11) rfl (w.heap.size+1) rfl _ _ _ _ _ _ _ _ _ rfl HR0.out rfl ?_))
 exact bodyPost_ret (res_arr Tryz.results93 rfl (HR0.out.put _) rfl) rfl HE.out
theorem arrInt_any (X : Int) (w : World) (h : -9223372036854775808 <= X /\ X <= 9223372036854775807) :
    Calls Tryz.prog 36 #[.int .i64 X] w fun e w'=>NumTold1 (fun _=>0) 0 1 (fun _=>X) (fun _=>1) w w' e:=by
 have FR:=Lib.hid (fun wz=>ratFrom_any X wz h);unfold RatTold at FR;have NM:=Lib.hid (fun a n c m a2 n2 c2 wz h=>arrNum_any a n c m a2 n2 c2 X 1 wz h);unfold NumTold1 at NM;have BB:=Lib.hid ((Bag.start w).newRow zerC 36);clear h;go_enter Tryz.func36,Tryz.ntmps36;go_wp2_with fail;go_at_call 56;refine(FR.out _).mono ?_;rintro e w2 ⟨a2,n2,c2,m2,a3,n3,c3,rfl,hr2,hb2⟩;have BB:=bgo BB hb2;have HR:=Lib.hid hr2;clear hb2 hr2;go_wp2_with fail;go_at_call 93;refine(NM.out _ _ _ _ _ _ _ _ HR.out).mono ?_;rintro e w3 ⟨cs,rfl,hcs,hb3⟩;have B3:=BB.out.go hb3;have hz:=B3.now.1;rw[zerC_row]at hz;have HE:Hid (NumTold1 (fun _=>0) 0 1 (fun _=>X) (fun _=>1) w (w3.setRow w.heap.size cs) (.returned (.agg cs))):=Lib.hid ⟨cs,rfl,hcs.row hz rfl cs,below_put B3.below (Nat.le_refl _) _⟩;have HZ:=Lib.hid B3.now.1;obtain⟨na,nc,rfl,_⟩:=hcs;clear hb3 B3 hz;unfold arrC
 go_wp2_with (refine st_arr rfl (.tmp 2) (.tmp 5) rfl w.heap.size rfl _ _ _ _ _ _ _ _ _ rfl HZ.out rfl ?_)
 exact bodyPost_ret (res_arr Tryz.results36 rfl (HZ.out.put _) rfl) rfl HE.out
theorem arrChar_any (x : Int) (w : World) :
    Calls Tryz.prog 76 #[.int .i32 x] w fun e w'=>ChrTold1 (fun _=>0) 0 1 (fun _=>x) w w' e:=by
 have NU:=Lib.hid (fun la lc wz (h2:KRow wz .i32 la 1 lc (fun _=>x))=>chars_any none 0 0 (fun _=>0) la 1 lc (fun _=>x) wz (KRow.nought _ _ _ _ (Nat.zero_le _) _) (In64.none _) h2 (by omega));rw[sh_none]at NU;unfold CharsTold at NU;have BB:=Lib.hid ((Bag.start w).newRow zerC 36);have HK:=Lib.hid (KRow.one' (w.alloc (.cells zerC 36)) .i32 x 21);have BB:=Lib.hid (BB.out.alloc (.cells #[.int .i32 x] 21));simp only[World.size_alloc]at BB HK;go_enter Tryz.func76,Tryz.ntmps76;go_wp2_with fail;go_at_call 42
 (with_reducible refine(NU.out _ _ _ ?_).mono ?_)
 · exact HK.out
 rintro e w3 ⟨cs,rfl,hcs,hb3⟩;rw[if_pos trivial]at hcs;have B3:=BB.out.go hb3;have HE:=Lib.hid (ans_chr (t':=36) hcs B3.below B3.now.1 (Nat.le_refl _));obtain⟨na,nc,rfl,_⟩:=hcs;have HR1:=Lib.hid (Row.new w3 36 (arrC true (((0:Nat):Int)-1) (dm (fun _=>0) 0) none 0 0 na 1 nc));have HR0:=Lib.hid (B3.now.1.below ((Below.refl _ _).alloc (Nat.le_refl _) (.cells (arrC true (((0:Nat):Int)-1) (dm (fun _=>0) 0) none 0 0 na 1 nc) 36)));clear hb3 B3;unfold arrC
 go_wp2_with (first
  | (refine ld_arr rfl (.tmp 3) rfl w3.heap.size rfl HR1.out ?_)
  | (refine st_arr rfl (.tmp 2) (.tmp 11) rfl w.heap.size rfl _ _ _ _ _ _ _ _ _ rfl HR0.out rfl ?_))
 exact bodyPost_ret (res_arr Tryz.results76 rfl (HR0.out.put _) rfl) rfl HE.out
theorem arrText_any (a : Option Addr) (n c : Nat) (g : Nat -> Int) (w : World) (h : KRow w .i32 a n c g) (hn : n <= 4096) :
    Calls Tryz.prog 75 #[.slice a n c] w fun e w'=>ChrTold1 (fun _=>(n:Int)) 1 n g w w' e:=by
 have hl:=h.len;have NU:=Lib.hid (fun la lc wz (h1:KRow wz .i64 la 1 lc (fun _=>(n:Int))) (h2:KRow wz .i32 a n c g)=>chars_any la 1 lc (fun _=>(n:Int)) a n c g wz h1 (In64.one (by omega) _) h2 (by omega));rw[sh_list hn]at NU;unfold CharsTold at NU;have BB:=Lib.hid (((Bag.start w).krow h).newRow zerC 36);have HK:=Lib.hid (KRow.one (w.alloc (.cells zerC 36)) n 3);have BB:=Lib.hid (BB.out.alloc (.cells #[.int .i64 n] 3));simp only[World.size_alloc]at BB HK;clear h;go_enter Tryz.func75,Tryz.ntmps75;go_wp2_with fail;go_at_call 42
 (with_reducible refine(NU.out _ _ _ ?_ ?_).mono ?_)
 · exact HK.out
 · exact BB.out.now.2.1
 rintro e w3 ⟨cs,rfl,hcs,hb3⟩;rw[if_pos trivial]at hcs;have B3:=BB.out.go hb3;have HE:=Lib.hid (ans_chr (t':=36) hcs B3.below B3.now.1 (Nat.le_refl _));obtain⟨na,nc,rfl,_⟩:=hcs;have HR1:=Lib.hid (Row.new w3 36 (arrC true (((1:Nat):Int)-1) (dm (fun _=>(n:Int)) 1) none 0 0 na n nc));have HR0:=Lib.hid (B3.now.1.below ((Below.refl _ _).alloc (Nat.le_refl _) (.cells (arrC true (((1:Nat):Int)-1) (dm (fun _=>(n:Int)) 1) none 0 0 na n nc) 36)));clear hb3 B3;unfold arrC
 go_wp2_with (first
  | (refine ld_arr rfl (.tmp 3) rfl w3.heap.size rfl HR1.out ?_)
  | (refine st_arr rfl (.tmp 2) (.tmp 13) rfl w.heap.size rfl _ _ _ _ _ _ _ _ _ rfl HR0.out rfl ?_))
 exact bodyPost_ret (res_arr Tryz.results75 rfl (HR0.out.put _) rfl) rfl HE.out
theorem plainN_any (cs : Array Value) (f : Nat -> Int) (r n : Nat) (fP : Nat -> Int) (fQ : Nat -> Nat) (w : World) (hr : r <= 8) (h : NumArr w cs f r n fP fQ) (hn : n <= 1000000) (hQ : ∀ j, j < n -> 0 < fQ j) (K : Nat) (hK : K <= 100000) (h1 : ∀ j, j < n -> (fP j).natAbs < 4294967296 ^ K) (h2 : ∀ j, j < n -> fQ j < 4294967296 ^ K) :
    Calls Tryz.prog 53 #[.agg cs] w fun e w'=>∃cs',e=.returned (.agg cs')/\PlnAt w' cs' f r false (fun _=>0) 0 (fun j=>rB (fP j)) (fun j=>rS (fP j)) (fun j=>str (dec (fQ j))) n/\Below w.heap.size w w':=by
 obtain⟨na,nc,rfl,hq⟩:=h;exact plain_any false f r na n nc none 0 0 fP fQ (fun _=>0) w hr hq (KRow.nought _ _ _ _ (Nat.zero_le _) _) hn (by omega) hQ K hK h1 h2
theorem plainC_any (cs : Array Value) (f : Nat -> Int) (r n : Nat) (g : Nat -> Int) (w : World) (hr : r <= 8) (h : ChrArr w cs f r n g) (hn : n <= 1000000) :
    Calls Tryz.prog 53 #[.agg cs] w fun e w'=>∃cs',e=.returned (.agg cs')/\PlnAt w' cs' f r true g n (fun _=>rB 0) (fun _=>rS 0) (fun _=>str (dec 1)) 0/\Below w.heap.size w w':=by
 obtain⟨na,nc,rfl,hq⟩:=h;exact plain_any true f r none 0 0 na n nc (fun _=>0) (fun _=>1) g w hr (RRow.nought _ _ _ (Nat.zero_le _) _ _) hq (by omega) hn (fun _ h=>absurd h (Nat.not_lt_zero _)) 1 (by omega) (fun _ h=>absurd h (Nat.not_lt_zero _)) (fun _ h=>absurd h (Nat.not_lt_zero _))
end Go.Proofs.YtdmmenaejkpnjaaGreatDoor
