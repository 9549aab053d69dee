/-
  A drawn region by one invariant: an obligation for each operation, whatever order is drawn.
  Small facts for a drawn region's invariant.
  A drawn region by one invariant, second edition: a new block may be known by a slice.
  A drawn region by one invariant, third edition: the last operations, each behind all the others (stores to what was loaded), one after another.
  A drawn region by one invariant, fourth edition: what is kept may speak of which operations were done (a store to what was loaded).
-/
import Derived.Deep.RegionHeld3
import Derived.Below
import Derived.Test.YthklcdcikmninaaGreatDoorRa1
namespace Go.Proofs.YthklcdcikmninaaGreatDoor
open Go Go.RowKit

def dstI (ops : Array Oper) (i : Nat) : Option Nat := (ops[i]?).bind (·.dst)
def aft (md : Region.Mode) (ops : Array Oper) (i : Nat) : List Nat := ((ops[i]?).map (fun o => (o.after.filter (Region.binds md)).toList.map (·.on))).getD []
def vw (a : Act) (l : List Nat) : List (Option Value) := l.map (fun t => a.tmps[t]?)
/-- No operation of the region lays this temporary. -/
def stays (ops : Array Oper) (t : Nat) : Bool := (List.range ops.size).all fun i => !(dstI ops i == some t)

structure Plan where
  D : Nat → List Nat
  pre : Nat → List Nat
  al : List Nat

def Plan.ok (L : Plan) (md : Region.Mode) (ops : Array Oper) (m : Nat) : Bool :=
  (List.range ops.size).all fun i => (aft md ops i).all (fun e => decide (e < i)) &&
    ((L.pre i).all fun e => (aft md ops i).contains e || (aft md ops i).any fun k => (L.pre k).contains e) &&
    (match dstI ops i with
      | none => true
      | some d => decide (d < m) && (List.range ops.size).all fun j => decide (i = j) || ((!(L.D j).contains d || (L.pre j).contains i) && !(dstI ops j == some d)))

/-- The block that a temporary points to. -/
def Ptr (a : Act) (ops : Array Oper) (i k : Nat) : Prop := ∃ d, dstI ops i = some d ∧ a.tmps[d]? = some (.pointer (some ⟨k, 0, none⟩))

structure Inv (md : Region.Mode) (ops : Array Oper) (L : Plan) (p : Nat → List (Option Value) → World → Prop) (B : World → Prop) (a0 : Act) (listed : Array Bool) (a : Act) (w : World) : Prop where
  lsz : listed.size = ops.size
  asz : a.tmps.size = a0.tmps.size
  dfs : a.defers = a0.defers
  old : ∀ t, stays ops t = true → a.tmps[t]? = a0.tmps[t]?
  bag : B w
  fct : ∀ j, listed.getD j false = true → p j (vw a (L.D j)) w
  clo : ∀ j, listed.getD j false = true → ∀ i ∈ L.pre j, listed.getD i false = true
  alo : ∀ i ∈ L.al, listed.getD i false = true → ∃ k, Ptr a ops i k ∧ k < w.heap.size
  apt : ∀ i ∈ L.al, ∀ j ∈ L.al, i ≠ j → listed.getD i false = true → listed.getD j false = true → ∀ k, Ptr a ops i k → ¬ Ptr a ops j k

/-- What is to be shown behind operation i. -/
structure Laid (ops : Array Oper) (L : Plan) (p : Nat → List (Option Value) → World → Prop) (B : World → Prop) (i : Nat) (o : Oper) (a : Act) (w : World) (v : Value) (w' : World) : Prop where
  bag : B w'
  fct : p i ((L.D i).map (fun t => if o.dst = some t then some v else a.tmps[t]?)) w'
  size : w.heap.size ≤ w'.heap.size
  stay : Below w.heap.size w w' ∨ ∀ j, j ≠ i → (∀ x ∈ L.al, ∀ y ∈ L.al, x ≠ y → x ∈ L.pre i → (y ∈ L.pre j ∨ y = j) → ∀ k, Ptr a ops x k → ¬ Ptr a ops y k) → p j (vw a (L.D j)) w → p j (vw a (L.D j)) w'
  ptr : i ∈ L.al → ∃ k, v = .pointer (some ⟨k, 0, none⟩) ∧ w.heap.size ≤ k ∧ k < w'.heap.size

def Stp (P : Program) (ops : Array Oper) (Q : Exit → Act → World → Prop) (L : Plan) (p : Nat → List (Option Value) → World → Prop) (B : World → Prop) (a0 : Act) (i : Nat) (o : Oper) : Prop :=
  ∀ a w, a.tmps.size = a0.tmps.size → (∀ t, stays ops t = true → a.tmps[t]? = a0.tmps[t]?) → B w → (∀ j ∈ L.pre i, p j (vw a (L.D j)) w) →
    ∀ K : Act → World → Prop, Shut (∀ v w', Laid ops L p B i o a w v w' → K (a.put o.dst v) w') → if Region.wanted o (yielded ops a.tmps) = true then Oper.wp P o a w K Q else K (a.put o.dst undef) w

inductive Stps (P : Program) (ops : Array Oper) (Q : Exit → Act → World → Prop) (L : Plan) (p : Nat → List (Option Value) → World → Prop) (B : World → Prop) (a0 : Act) : Nat → List Oper → Prop
  | nil (i : Nat) : Stps P ops Q L p B a0 i []
  | cons {i : Nat} {o : Oper} {l : List Oper} : Stp P ops Q L p B a0 i o → Stps P ops Q L p B a0 (i + 1) l → Stps P ops Q L p B a0 i (o :: l)

section
variable {P : Program} {md : Region.Mode} {ops : Array Oper} {Q : Exit → Act → World → Prop} {L : Plan} {p : Nat → List (Option Value) → World → Prop} {B : World → Prop} {a0 : Act}

theorem Stps.get : ∀ {l : List Oper} {i : Nat}, Stps P ops Q L p B a0 i l → ∀ k o, l[k]? = some o → Stp P ops Q L p B a0 (i + k) o := by
  intro l
  induction l with
  | nil => intro i _ k o h; simp at h
  | cons x l ih =>
    intro i h k o hk
    cases h with
    | cons h1 h2 =>
      cases k with
      | zero => simp at hk; subst hk; exact h1
      | succ k => have := ih h2 k o (by simpa using hk); rwa [Nat.add_assoc, Nat.add_comm 1 k] at this

theorem cnt_set (f g : Nat → Bool) (i : Nat) (hf : f i = true) (hg : g i = false) (he : ∀ j, j ≠ i → g j = f j) : ∀ n, (List.range n).countP f = (List.range n).countP g + if i < n then 1 else 0 := by
  intro n
  induction n with
  | zero => simp
  | succ n ih =>
    rw [List.range_succ, List.countP_append, List.countP_append, ih]
    by_cases h : n = i
    · subst h; simp [hf, hg]
    · have : g n = f n := he n h
      simp only [List.countP_cons, List.countP_nil, this]
      have h2 : (i < n) = (i < n + 1) := by apply propext; omega
      simp only [h2]; omega

theorem Plan.ok_spec (h : L.ok md ops a0.tmps.size = true) {i : Nat} (hi : i < ops.size) :
    (∀ e ∈ aft md ops i, e < i) ∧ (∀ e ∈ L.pre i, e ∈ aft md ops i ∨ ∃ k ∈ aft md ops i, e ∈ L.pre k) ∧
    ∀ d, dstI ops i = some d → d < a0.tmps.size ∧ ∀ j, j < ops.size → i ≠ j → (d ∈ L.D j → i ∈ L.pre j) ∧ dstI ops j ≠ some d := by
  unfold Plan.ok at h
  rw [List.all_eq_true] at h
  have h := h i (List.mem_range.2 hi)
  simp only [Bool.and_eq_true, List.all_eq_true, decide_eq_true_eq, Bool.or_eq_true, List.contains_iff_mem, List.any_eq_true] at h
  refine ⟨h.1.1, h.1.2, ?_⟩
  intro d hd
  have h2 := h.2
  rw [hd] at h2
  simp only [Bool.and_eq_true, List.all_eq_true, decide_eq_true_eq, Bool.or_eq_true, List.contains_iff_mem, Bool.not_eq_true', List.mem_range] at h2
  refine ⟨h2.1, fun j hj hij => ?_⟩
  rcases h2.2 j hj with h3 | h3
  · exact absurd h3 hij
  · refine ⟨fun hm => ?_, by simpa using h3.2⟩
    rcases h3.1 with h4 | h4
    · rw [Bool.eq_false_iff] at h4; exact absurd (List.contains_iff_mem.2 hm) h4
    · exact h4

theorem lgd {listed : Array Bool} {i j : Nat} (hi : i < listed.size) : (listed.setIfInBounds i true).getD j false = (decide (i = j) || listed.getD j false) := by
  by_cases h : i = j
  · subst h; simp [hi]
  · simp [h]

theorem lgt {listed : Array Bool} {j : Nat} (h : listed.getD j true = false) : j < listed.size ∧ listed.getD j false = false := by
  by_cases hj : j < listed.size
  · simp [hj] at h ⊢; exact h
  · simp [Nat.le_of_not_lt hj] at h

theorem aft_mem {i : Nat} {o : Oper} (ho : ops[i]? = some o) {e : Nat} : e ∈ aft md ops i ↔ ∃ x ∈ o.after, Region.binds md x = true ∧ x.on = e := by
  unfold aft
  rw [ho]
  simp only [Option.map_some, Option.getD_some, List.mem_map, Array.mem_toList_iff, Array.mem_filter]
  constructor
  · rintro ⟨x, ⟨h1, h2⟩, h3⟩; exact ⟨x, h1, h2, h3⟩
  · rintro ⟨x, h1, h2, h3⟩; exact ⟨x, ⟨h1, h2⟩, h3⟩

theorem Inv.step (ok : L.ok md ops a0.tmps.size = true) (hal : L.al.all (fun i => (dstI ops i).isSome) = true) (stay : ∀ j v w w', Below w.heap.size w w' → p j v w → p j v w') {listed : Array Bool} {a : Act} {w : World} (I : Inv md ops L p B a0 listed a w) {i : Nat} {o : Oper} (ho : ops[i]? = some o)
    (hu : listed.getD i true = false) (hr : ∀ e ∈ o.after, Region.binds md e = true → listed.getD e.on false = true) {v : Value} {w' : World} (G : Laid ops L p B i o a w v w') :
    Inv md ops L p B a0 (listed.setIfInBounds i true) (a.put o.dst v) w' := by
  have hi : i < ops.size := (Array.getElem?_eq_some_iff.1 ho).1
  have hil : i < listed.size := by rw [I.lsz]; exact hi
  have hun := (lgt hu).2
  obtain ⟨c1, c2, c3⟩ := Plan.ok_spec ok hi
  have hd : dstI ops i = o.dst := by unfold dstI; rw [ho]; rfl
  have hpre : ∀ e ∈ L.pre i, listed.getD e false = true := by
    intro e he
    rcases c2 e he with h | ⟨k, hk, hek⟩
    · obtain ⟨x, h1, h2, rfl⟩ := (aft_mem ho).1 h; exact hr x h1 h2
    · obtain ⟨x, h1, h2, rfl⟩ := (aft_mem ho).1 hk; exact I.clo _ (hr x h1 h2) e hek
  have hput : ∀ t, (a.put o.dst v).tmps[t]? = if o.dst = some t then some v else a.tmps[t]? := by
    intro t
    cases hx : o.dst with
    | none => simp [Act.put]
    | some d =>
      have h4 := (c3 d (hd.trans hx)).1
      have h5 : d < a.tmps.size := by rw [I.asz]; exact h4
      simp only [Act.put, Array.getElem?_setIfInBounds, Option.some.injEq, if_pos h5]
  have hlj : ∀ j, listed.getD j false = true → j < ops.size ∧ j ≠ i := by
    intro j hj
    refine ⟨?_, fun e => by rw [e, hun] at hj; cases hj⟩
    rw [← I.lsz]
    by_cases h : j < listed.size
    · exact h
    · simp [Nat.le_of_not_lt h] at hj
  have hvw : ∀ j, listed.getD j false = true → vw (a.put o.dst v) (L.D j) = vw a (L.D j) := by
    intro j hj
    unfold vw
    refine List.map_congr_left (fun t ht => ?_)
    rw [hput]
    refine if_neg (fun e => ?_)
    have h6 := ((c3 t (hd.trans e)).2 j (hlj j hj).1 (hlj j hj).2.symm).1 ht
    have h7 := I.clo j hj i h6
    rw [hun] at h7; cases h7
  have hptr : ∀ j, listed.getD j false = true → ∀ k, Ptr (a.put o.dst v) ops j k ↔ Ptr a ops j k := by
    intro j hj k
    unfold Ptr
    constructor
    · rintro ⟨d, h1, h2⟩
      refine ⟨d, h1, ?_⟩
      rw [hput, if_neg (fun e => ((c3 d (hd.trans e)).2 j (hlj j hj).1 (hlj j hj).2.symm).2 h1)] at h2
      exact h2
    · rintro ⟨d, h1, h2⟩
      refine ⟨d, h1, ?_⟩
      rw [hput, if_neg (fun e => ((c3 d (hd.trans e)).2 j (hlj j hj).1 (hlj j hj).2.symm).2 h1)]
      exact h2
  have hnew : i ∈ L.al → ∀ k, Ptr (a.put o.dst v) ops i k → w.heap.size ≤ k ∧ k < w'.heap.size := by
    intro hal k ⟨d, h1, h2⟩
    obtain ⟨k', hv, h3, h4⟩ := G.ptr hal
    rw [hput, if_pos (hd.symm.trans h1), hv] at h2
    cases h2
    exact ⟨h3, h4⟩
  have hcase : ∀ j, (listed.setIfInBounds i true).getD j false = true → j = i ∨ listed.getD j false = true := by
    intro j hj
    rw [lgd hil, Bool.or_eq_true, decide_eq_true_eq] at hj
    exact hj.imp Eq.symm id
  refine ⟨by simp [I.lsz], ?_, ?_, ?_, G.bag, ?_, ?_, ?_, ?_⟩
  · cases o.dst <;> simp [Act.put, I.asz]
  · cases o.dst <;> simp [Act.put, I.dfs]
  · intro t ht
    rw [hput, if_neg, I.old t ht]
    intro e
    unfold stays at ht
    rw [List.all_eq_true] at ht
    have := ht i (List.mem_range.2 hi)
    rw [hd, e] at this
    simp at this
  · intro j hj
    rcases hcase j hj with rfl | hj
    · have := G.fct
      unfold vw
      rw [show (L.D j).map (fun t => (a.put o.dst v).tmps[t]?) = (L.D j).map (fun t => if o.dst = some t then some v else a.tmps[t]?) from List.map_congr_left (fun t _ => hput t)]
      exact this
    · rw [hvw j hj]
      rcases G.stay with hb | hs
      · exact stay j _ _ _ hb (I.fct j hj)
      · refine hs j (hlj j hj).2 ?_ (I.fct j hj)
        intro x hx y hy hxy hxi hyj
        exact I.apt x hx y hy hxy (hpre x hxi) (hyj.elim (I.clo j hj y) (fun e => e ▸ hj))
  · intro j hj e he
    rw [lgd hil, Bool.or_eq_true]
    rcases hcase j hj with rfl | hj
    · exact .inr (hpre e he)
    · exact .inr (I.clo j hj e he)
  · intro j hjal hj
    rcases hcase j hj with rfl | hj
    · obtain ⟨k, hv, h3, h4⟩ := G.ptr hjal
      cases hx : o.dst with
      | none =>
        have := List.all_eq_true.1 hal j hjal
        rw [hd, hx] at this; cases this
      | some d => exact ⟨k, ⟨d, hd.trans hx, by rw [← hx, hput, if_pos hx, hv]⟩, h4⟩
    · obtain ⟨k, h1, h2⟩ := I.alo j hjal hj
      exact ⟨k, (hptr j hj k).2 h1, Nat.lt_of_lt_of_le h2 G.size⟩
  · intro x hx y hy hxy hlx0 hly0 k
    rcases hcase x hlx0 with rfl | hlx
    · rcases hcase y hly0 with e | hly
      · exact absurd e.symm hxy
      · intro h1 h2
        obtain ⟨k', h3, h4⟩ := I.alo y hy hly
        obtain ⟨d, e1, e2⟩ := (hptr y hly k).1 h2
        obtain ⟨d', e3, e4⟩ := h3
        rw [e1] at e3; cases e3
        rw [e2] at e4; cases e4
        have := (hnew hx k h1).1
        omega
    · rcases hcase y hly0 with rfl | hly
      · intro h1 h2
        obtain ⟨k', h3, h4⟩ := I.alo x hx hlx
        obtain ⟨d, e1, e2⟩ := (hptr x hlx k).1 h1
        obtain ⟨d', e3, e4⟩ := h3
        rw [e1] at e3; cases e3
        rw [e2] at e4; cases e4
        have := (hnew hy k h2).1
        omega
      · intro h1 h2
        exact I.apt x hx y hy hxy hlx hly k ((hptr x hlx k).1 h1) ((hptr y hly k).1 h2)

theorem ready_all (ok : L.ok md ops a0.tmps.size = true) {listed : Array Bool} (hs : listed.size = ops.size) (h : Region.ready md ops listed = []) : ∀ j, j < ops.size → listed.getD j false = true := by
  intro j
  induction j using Nat.strongRecOn with
  | ind j ih =>
    intro hj
    cases hx : listed.getD j false with
    | true => rfl
    | false =>
      exfalso
      have hm : j ∈ Region.ready md ops listed := by
        rw [mem_ready]
        refine ⟨?_, ops[j], Array.getElem?_eq_getElem hj, fun e he hb => ?_⟩
        · have : j < listed.size := by rw [hs]; exact hj
          simp [this] at hx ⊢; exact hx
        · have h1 := (Plan.ok_spec ok hj).1 e.on ((aft_mem (Array.getElem?_eq_getElem hj)).2 ⟨e, he, hb, rfl⟩)
          exact ih e.on h1 (Nat.lt_trans h1 hj)
      rw [h] at hm; cases hm

theorem wpAny_inv (ok : L.ok md ops a0.tmps.size = true) (hal : L.al.all (fun i => (dstI ops i).isSome) = true) (stay : ∀ j v w w', Below w.heap.size w w' → p j v w → p j v w') (steps : Stps P ops Q L p B a0 0 ops.toList)
    (done : ∀ a w, a.tmps.size = a0.tmps.size → a.defers = a0.defers → (∀ t, stays ops t = true → a.tmps[t]? = a0.tmps[t]?) → B w → (∀ j, j < ops.size → p j (vw a (L.D j)) w) → Q .normal a w) :
    ∀ (fuel : Nat) (listed : Array Bool) (a : Act) (w : World), Inv md ops L p B a0 listed a w → (List.range ops.size).countP (fun i => !listed.getD i true) ≤ fuel → wpAny P md ops Q fuel listed a w := by
  intro fuel
  induction fuel with
  | zero =>
    intro listed a w I hc
    have hall : ∀ j, j < ops.size → listed.getD j true = true := by
      intro j hj
      have := List.countP_eq_zero.1 (Nat.le_zero.1 hc) j (List.mem_range.2 hj)
      simpa using this
    have hr : Region.ready md ops listed = [] := by
      rw [List.eq_nil_iff_forall_not_mem]
      intro j hj
      obtain ⟨h1, o, h2, _⟩ := mem_ready.1 hj
      rw [hall j (Array.getElem?_eq_some_iff.1 h2).1] at h1; cases h1
    exact ⟨hr, done a w I.asz I.dfs I.old I.bag (fun j hj => I.fct j (ready_all ok I.lsz hr j hj))⟩
  | succ fuel ih =>
    intro listed a w I hc
    refine ⟨fun hr => done a w I.asz I.dfs I.old I.bag (fun j hj => I.fct j (ready_all ok I.lsz hr j hj)), fun i hi => ?_⟩
    obtain ⟨hu, o, ho, hr⟩ := mem_ready.1 hi
    have hio : i < ops.size := (Array.getElem?_eq_some_iff.1 ho).1
    have hst := steps.get i o (by rw [Array.getElem?_toList]; exact ho)
    rw [Nat.zero_add] at hst
    have hpre : ∀ e ∈ L.pre i, listed.getD e false = true := by
      intro e he
      rcases (Plan.ok_spec ok hio).2.1 e he with h | ⟨k, hk, hek⟩
      · obtain ⟨x, h1, h2, rfl⟩ := (aft_mem ho).1 h; exact hr x h1 h2
      · obtain ⟨x, h1, h2, rfl⟩ := (aft_mem ho).1 hk; exact I.clo _ (hr x h1 h2) e hek
    refine wpOp_step ho (fun K hK => hst a w I.asz I.old I.bag (fun j hj => I.fct j (hpre j hj)) K (fun v w' G => hK _ _ (ih _ _ _ (I.step ok hal stay ho hu hr G) ?_)))
    have hil : i < listed.size := by rw [I.lsz]; exact hio
    have hun : listed[i] = false := by simpa [hil] using hu
    have := cnt_set (fun j => !listed.getD j true) (fun j => !(listed.setIfInBounds i true).getD j true) i (by simp [hil, hun]) (by simp [hil]) (fun j hj => by simp [Ne.symm hj]) ops.size
    rw [if_pos hio] at this
    omega

theorem lg0 (n j : Nat) : (Array.replicate n false).getD j false = false := by
  rw [Array.getD_eq_getD_getElem?, Array.getElem?_replicate]; split <;> rfl

/-- THE BEGINNING. -/
theorem wp_region_inv {id : Nat} {l : List Oper} {w : World} (L : Plan) (p : Nat → List (Option Value) → World → Prop) (B : World → Prop) (hm : P.follows .mixedOrders = true) (ok : L.ok .any l.toArray a0.tmps.size = true) (hal : L.al.all (fun i => (dstI l.toArray i).isSome) = true)
    (hB : B w.drew) (stay : ∀ j v w w', Below w.heap.size w w' → p j v w → p j v w')
    (done : ∀ a w, a.tmps.size = a0.tmps.size → a.defers = a0.defers → (∀ t, stays l.toArray t = true → a.tmps[t]? = a0.tmps[t]?) → B w → (∀ j, j < l.length → p j (vw a (L.D j)) w) → Q .normal a w)
    (steps : Stps P l.toArray Q L p B a0 0 l) :
    (Code.region id l.toArray true).wp P Q a0 w := by
  refine wp_region_any hm (wpAny_inv ok hal stay steps (fun a w h1 h2 h3 h4 h5 => done a w h1 h2 h3 h4 (fun j hj => h5 j (by simpa using hj))) _ _ _ _ ⟨by simp, rfl, rfl, fun _ _ => rfl, hB, ?_, ?_, ?_, ?_⟩ ?_)
  · intro j hj; rw [lg0] at hj; cases hj
  · intro j hj; rw [lg0] at hj; cases hj
  · intro j _ hj; rw [lg0] at hj; cases hj
  · intro j _ i _ _ hj; rw [lg0] at hj; cases hj
  · exact Nat.le_trans List.countP_le_length (by simp)

end
end Go.Proofs.YthklcdcikmninaaGreatDoor

namespace Go.Proofs.YthklcdcikmninaaGreatDoor
open Go Go.RowKit

theorem Slot3.set3 {w : World} {k : Nat} {x y z : Value} (h : Slot3 w k x y z) (u v t : Value) : Slot3 (((w.setCell ⟨k, 0, none⟩ u).setCell ⟨k, 1, none⟩ v).setCell ⟨k, 2, none⟩ t) k u v t := (h.set2 u v).set1 t

theorem wanted_pos {ops : Array Oper} {a : Act} {o : Oper} {g : Nat} {b : Bool} {d : Nat} (hg : o.guard = some (g, b)) (hd : dstI ops g = some d) (ht : a.tmps[d]? = some (.bool b)) : Region.wanted o (yielded ops a.tmps) = true := by
  unfold Region.wanted
  rw [hg]
  show (yielded ops a.tmps g == some b) = true
  unfold yielded
  rw [show (ops[g]?).bind (·.dst) = some d from hd]
  show ((match a.tmps[d]? with | some (.bool b) => some b | _ => none) == some b) = true
  rw [ht]
  cases b <;> rfl
theorem wanted_neg {ops : Array Oper} {a : Act} {o : Oper} {g : Nat} {b : Bool} {d : Nat} {v : Value} (hg : o.guard = some (g, b)) (hd : dstI ops g = some d) (ht : a.tmps[d]? = some v) (hv : v ≠ .bool b) : Region.wanted o (yielded ops a.tmps) = false := by
  unfold Region.wanted
  rw [hg]
  show (yielded ops a.tmps g == some b) = false
  unfold yielded
  rw [show (ops[g]?).bind (·.dst) = some d from hd]
  show ((match a.tmps[d]? with | some (.bool b) => some b | _ => none) == some b) = false
  rw [ht]
  cases v with
  | bool x => cases x <;> cases b <;> first | rfl | exact absurd rfl hv
  | _ => rfl

theorem act_eq {ac : Act} {n : Nat} (hs : ac.tmps.size = n) (f : Nat → Value) (hf : ∀ i, (ac.tmps[i]?).getD undef = f i) : ac = ⟨((List.range n).map f).toArray, ac.defers⟩ := by
  obtain ⟨t, d⟩ := ac
  congr 1
  apply Array.ext
  · simpa using hs
  · intro i h1 h2
    have := hf i
    simp only [Array.getElem?_eq_getElem h1, Option.getD_some] at this
    rw [this]; simp

end Go.Proofs.YthklcdcikmninaaGreatDoor

namespace Go.Proofs.YthklcdcikmninaaGreatDoor
open Go Go.RowKit

def blk : Value → Option Nat
  | .pointer (some a) => some a.block
  | .slice (some a) _ _ => some a.block
  | _ => none
/-- The block that a temporary points to. -/
def Ptr2 (a : Act) (ops : Array Oper) (i k : Nat) : Prop := ∃ d v, dstI ops i = some d ∧ a.tmps[d]? = some v ∧ blk v = some k

structure Inv2 (md : Region.Mode) (ops : Array Oper) (L : Plan) (p : Nat → List (Option Value) → World → Prop) (B : World → Prop) (a0 : Act) (listed : Array Bool) (a : Act) (w : World) : Prop where
  lsz : listed.size = ops.size
  asz : a.tmps.size = a0.tmps.size
  dfs : a.defers = a0.defers
  old : ∀ t, stays ops t = true → a.tmps[t]? = a0.tmps[t]?
  bag : B w
  fct : ∀ j, listed.getD j false = true → p j (vw a (L.D j)) w
  clo : ∀ j, listed.getD j false = true → ∀ i ∈ L.pre j, listed.getD i false = true
  alo : ∀ i ∈ L.al, listed.getD i false = true → ∃ k, Ptr2 a ops i k ∧ k < w.heap.size
  apt : ∀ i ∈ L.al, ∀ j ∈ L.al, i ≠ j → listed.getD i false = true → listed.getD j false = true → ∀ k, Ptr2 a ops i k → ¬ Ptr2 a ops j k

/-- What is to be shown behind operation i. -/
structure Laid2 (ops : Array Oper) (L : Plan) (p : Nat → List (Option Value) → World → Prop) (B : World → Prop) (i : Nat) (o : Oper) (a : Act) (w : World) (v : Value) (w' : World) : Prop where
  bag : B w'
  fct : p i ((L.D i).map (fun t => if o.dst = some t then some v else a.tmps[t]?)) w'
  size : w.heap.size ≤ w'.heap.size
  stay : Below w.heap.size w w' ∨ ∀ j, j ≠ i → (∀ x ∈ L.al, ∀ y ∈ L.al, x ≠ y → x ∈ L.pre i → (y ∈ L.pre j ∨ y = j) → ∀ k, Ptr2 a ops x k → ¬ Ptr2 a ops y k) → p j (vw a (L.D j)) w → p j (vw a (L.D j)) w'
  ptr : i ∈ L.al → ∃ k, blk v = some k ∧ w.heap.size ≤ k ∧ k < w'.heap.size

def Stp2 (P : Program) (ops : Array Oper) (Q : Exit → Act → World → Prop) (L : Plan) (p : Nat → List (Option Value) → World → Prop) (B : World → Prop) (a0 : Act) (i : Nat) (o : Oper) : Prop :=
  ∀ a w, a.tmps.size = a0.tmps.size → (∀ t, stays ops t = true → a.tmps[t]? = a0.tmps[t]?) → B w → (∀ j ∈ L.pre i, p j (vw a (L.D j)) w) →
    ∀ K : Act → World → Prop, Shut (∀ v w', Laid2 ops L p B i o a w v w' → K (a.put o.dst v) w') → if Region.wanted o (yielded ops a.tmps) = true then Oper.wp P o a w K Q else K (a.put o.dst undef) w

inductive Stps2 (P : Program) (ops : Array Oper) (Q : Exit → Act → World → Prop) (L : Plan) (p : Nat → List (Option Value) → World → Prop) (B : World → Prop) (a0 : Act) : Nat → List Oper → Prop
  | nil (i : Nat) : Stps2 P ops Q L p B a0 i []
  | cons {i : Nat} {o : Oper} {l : List Oper} : Stp2 P ops Q L p B a0 i o → Stps2 P ops Q L p B a0 (i + 1) l → Stps2 P ops Q L p B a0 i (o :: l)

section
variable {P : Program} {md : Region.Mode} {ops : Array Oper} {Q : Exit → Act → World → Prop} {L : Plan} {p : Nat → List (Option Value) → World → Prop} {B : World → Prop} {a0 : Act}

theorem Stps2.get : ∀ {l : List Oper} {i : Nat}, Stps2 P ops Q L p B a0 i l → ∀ k o, l[k]? = some o → Stp2 P ops Q L p B a0 (i + k) o := by
  intro l
  induction l with
  | nil => intro i _ k o h; simp at h
  | cons x l ih =>
    intro i h k o hk
    cases h with
    | cons h1 h2 =>
      cases k with
      | zero => simp at hk; subst hk; exact h1
      | succ k => have := ih h2 k o (by simpa using hk); rwa [Nat.add_assoc, Nat.add_comm 1 k] at this

theorem Inv2.step (ok : L.ok md ops a0.tmps.size = true) (hal : L.al.all (fun i => (dstI ops i).isSome) = true) (stay : ∀ j v w w', Below w.heap.size w w' → p j v w → p j v w') {listed : Array Bool} {a : Act} {w : World} (I : Inv2 md ops L p B a0 listed a w) {i : Nat} {o : Oper} (ho : ops[i]? = some o)
    (hu : listed.getD i true = false) (hr : ∀ e ∈ o.after, Region.binds md e = true → listed.getD e.on false = true) {v : Value} {w' : World} (G : Laid2 ops L p B i o a w v w') :
    Inv2 md ops L p B a0 (listed.setIfInBounds i true) (a.put o.dst v) w' := by
  have hi : i < ops.size := (Array.getElem?_eq_some_iff.1 ho).1
  have hil : i < listed.size := by rw [I.lsz]; exact hi
  have hun := (lgt hu).2
  obtain ⟨c1, c2, c3⟩ := Plan.ok_spec ok hi
  have hd : dstI ops i = o.dst := by unfold dstI; rw [ho]; rfl
  have hpre : ∀ e ∈ L.pre i, listed.getD e false = true := by
    intro e he
    rcases c2 e he with h | ⟨k, hk, hek⟩
    · obtain ⟨x, h1, h2, rfl⟩ := (aft_mem ho).1 h; exact hr x h1 h2
    · obtain ⟨x, h1, h2, rfl⟩ := (aft_mem ho).1 hk; exact I.clo _ (hr x h1 h2) e hek
  have hput : ∀ t, (a.put o.dst v).tmps[t]? = if o.dst = some t then some v else a.tmps[t]? := by
    intro t
    cases hx : o.dst with
    | none => simp [Act.put]
    | some d =>
      have h4 := (c3 d (hd.trans hx)).1
      have h5 : d < a.tmps.size := by rw [I.asz]; exact h4
      simp only [Act.put, Array.getElem?_setIfInBounds, Option.some.injEq, if_pos h5]
  have hlj : ∀ j, listed.getD j false = true → j < ops.size ∧ j ≠ i := by
    intro j hj
    refine ⟨?_, fun e => by rw [e, hun] at hj; cases hj⟩
    rw [← I.lsz]
    by_cases h : j < listed.size
    · exact h
    · simp [Nat.le_of_not_lt h] at hj
  have hvw : ∀ j, listed.getD j false = true → vw (a.put o.dst v) (L.D j) = vw a (L.D j) := by
    intro j hj
    unfold vw
    refine List.map_congr_left (fun t ht => ?_)
    rw [hput]
    refine if_neg (fun e => ?_)
    have h6 := ((c3 t (hd.trans e)).2 j (hlj j hj).1 (hlj j hj).2.symm).1 ht
    have h7 := I.clo j hj i h6
    rw [hun] at h7; cases h7
  have hptr : ∀ j, listed.getD j false = true → ∀ k, Ptr2 (a.put o.dst v) ops j k ↔ Ptr2 a ops j k := by
    intro j hj k
    unfold Ptr2
    constructor
    · rintro ⟨d, u, h1, h2, h3⟩
      refine ⟨d, u, h1, ?_, h3⟩
      rw [hput, if_neg (fun e => ((c3 d (hd.trans e)).2 j (hlj j hj).1 (hlj j hj).2.symm).2 h1)] at h2
      exact h2
    · rintro ⟨d, u, h1, h2, h3⟩
      refine ⟨d, u, h1, ?_, h3⟩
      rw [hput, if_neg (fun e => ((c3 d (hd.trans e)).2 j (hlj j hj).1 (hlj j hj).2.symm).2 h1)]
      exact h2
  have hnew : i ∈ L.al → ∀ k, Ptr2 (a.put o.dst v) ops i k → w.heap.size ≤ k ∧ k < w'.heap.size := by
    intro hal k ⟨d, u, h1, h2, h5⟩
    obtain ⟨k', hv, h3, h4⟩ := G.ptr hal
    rw [hput, if_pos (hd.symm.trans h1)] at h2
    cases h2
    rw [hv] at h5
    cases h5
    exact ⟨h3, h4⟩
  have hcase : ∀ j, (listed.setIfInBounds i true).getD j false = true → j = i ∨ listed.getD j false = true := by
    intro j hj
    rw [lgd hil, Bool.or_eq_true, decide_eq_true_eq] at hj
    exact hj.imp Eq.symm id
  refine ⟨by simp [I.lsz], ?_, ?_, ?_, G.bag, ?_, ?_, ?_, ?_⟩
  · cases o.dst <;> simp [Act.put, I.asz]
  · cases o.dst <;> simp [Act.put, I.dfs]
  · intro t ht
    rw [hput, if_neg, I.old t ht]
    intro e
    unfold stays at ht
    rw [List.all_eq_true] at ht
    have := ht i (List.mem_range.2 hi)
    rw [hd, e] at this
    simp at this
  · intro j hj
    rcases hcase j hj with rfl | hj
    · have := G.fct
      unfold vw
      rw [show (L.D j).map (fun t => (a.put o.dst v).tmps[t]?) = (L.D j).map (fun t => if o.dst = some t then some v else a.tmps[t]?) from List.map_congr_left (fun t _ => hput t)]
      exact this
    · rw [hvw j hj]
      rcases G.stay with hb | hs
      · exact stay j _ _ _ hb (I.fct j hj)
      · refine hs j (hlj j hj).2 ?_ (I.fct j hj)
        intro x hx y hy hxy hxi hyj
        exact I.apt x hx y hy hxy (hpre x hxi) (hyj.elim (I.clo j hj y) (fun e => e ▸ hj))
  · intro j hj e he
    rw [lgd hil, Bool.or_eq_true]
    rcases hcase j hj with rfl | hj
    · exact .inr (hpre e he)
    · exact .inr (I.clo j hj e he)
  · intro j hjal hj
    rcases hcase j hj with rfl | hj
    · obtain ⟨k, hv, h3, h4⟩ := G.ptr hjal
      cases hx : o.dst with
      | none =>
        have := List.all_eq_true.1 hal j hjal
        rw [hd, hx] at this; cases this
      | some d => exact ⟨k, ⟨d, v, hd.trans hx, by rw [← hx, hput, if_pos hx], hv⟩, h4⟩
    · obtain ⟨k, h1, h2⟩ := I.alo j hjal hj
      exact ⟨k, (hptr j hj k).2 h1, Nat.lt_of_lt_of_le h2 G.size⟩
  · intro x hx y hy hxy hlx0 hly0 k
    rcases hcase x hlx0 with rfl | hlx
    · rcases hcase y hly0 with e | hly
      · exact absurd e.symm hxy
      · intro h1 h2
        obtain ⟨k', h3, h4⟩ := I.alo y hy hly
        obtain ⟨d, x1, e1, e2, e5⟩ := (hptr y hly k).1 h2
        obtain ⟨d', x2, e3, e4, e6⟩ := h3
        rw [e1] at e3; cases e3
        rw [e2] at e4; cases e4
        rw [e5] at e6; cases e6
        have := (hnew hx k h1).1
        omega
    · rcases hcase y hly0 with rfl | hly
      · intro h1 h2
        obtain ⟨k', h3, h4⟩ := I.alo x hx hlx
        obtain ⟨d, x1, e1, e2, e5⟩ := (hptr x hlx k).1 h1
        obtain ⟨d', x2, e3, e4, e6⟩ := h3
        rw [e1] at e3; cases e3
        rw [e2] at e4; cases e4
        rw [e5] at e6; cases e6
        have := (hnew hy k h2).1
        omega
      · intro h1 h2
        exact I.apt x hx y hy hxy hlx hly k ((hptr x hlx k).1 h1) ((hptr y hly k).1 h2)

theorem wpAny_inv2 (ok : L.ok md ops a0.tmps.size = true) (hal : L.al.all (fun i => (dstI ops i).isSome) = true) (stay : ∀ j v w w', Below w.heap.size w w' → p j v w → p j v w') (steps : Stps2 P ops Q L p B a0 0 ops.toList)
    (done : ∀ a w, a.tmps.size = a0.tmps.size → a.defers = a0.defers → (∀ t, stays ops t = true → a.tmps[t]? = a0.tmps[t]?) → B w → (∀ j, j < ops.size → p j (vw a (L.D j)) w) → Q .normal a w) :
    ∀ (fuel : Nat) (listed : Array Bool) (a : Act) (w : World), Inv2 md ops L p B a0 listed a w → (List.range ops.size).countP (fun i => !listed.getD i true) ≤ fuel → wpAny P md ops Q fuel listed a w := by
  intro fuel
  induction fuel with
  | zero =>
    intro listed a w I hc
    have hall : ∀ j, j < ops.size → listed.getD j true = true := by
      intro j hj
      have := List.countP_eq_zero.1 (Nat.le_zero.1 hc) j (List.mem_range.2 hj)
      simpa using this
    have hr : Region.ready md ops listed = [] := by
      rw [List.eq_nil_iff_forall_not_mem]
      intro j hj
      obtain ⟨h1, o, h2, _⟩ := mem_ready.1 hj
      rw [hall j (Array.getElem?_eq_some_iff.1 h2).1] at h1; cases h1
    exact ⟨hr, done a w I.asz I.dfs I.old I.bag (fun j hj => I.fct j (ready_all ok I.lsz hr j hj))⟩
  | succ fuel ih =>
    intro listed a w I hc
    refine ⟨fun hr => done a w I.asz I.dfs I.old I.bag (fun j hj => I.fct j (ready_all ok I.lsz hr j hj)), fun i hi => ?_⟩
    obtain ⟨hu, o, ho, hr⟩ := mem_ready.1 hi
    have hio : i < ops.size := (Array.getElem?_eq_some_iff.1 ho).1
    have hst := steps.get i o (by rw [Array.getElem?_toList]; exact ho)
    rw [Nat.zero_add] at hst
    have hpre : ∀ e ∈ L.pre i, listed.getD e false = true := by
      intro e he
      rcases (Plan.ok_spec ok hio).2.1 e he with h | ⟨k, hk, hek⟩
      · obtain ⟨x, h1, h2, rfl⟩ := (aft_mem ho).1 h; exact hr x h1 h2
      · obtain ⟨x, h1, h2, rfl⟩ := (aft_mem ho).1 hk; exact I.clo _ (hr x h1 h2) e hek
    refine wpOp_step ho (fun K hK => hst a w I.asz I.old I.bag (fun j hj => I.fct j (hpre j hj)) K (fun v w' G => hK _ _ (ih _ _ _ (I.step ok hal stay ho hu hr G) ?_)))
    have hil : i < listed.size := by rw [I.lsz]; exact hio
    have hun : listed[i] = false := by simpa [hil] using hu
    have := cnt_set (fun j => !listed.getD j true) (fun j => !(listed.setIfInBounds i true).getD j true) i (by simp [hil, hun]) (by simp [hil]) (fun j hj => by simp [Ne.symm hj]) ops.size
    rw [if_pos hio] at this
    omega

/-- THE BEGINNING. -/
theorem wp_region_inv2 {id : Nat} {l : List Oper} {w : World} (L : Plan) (p : Nat → List (Option Value) → World → Prop) (B : World → Prop) (hm : P.follows .mixedOrders = true) (ok : L.ok .any l.toArray a0.tmps.size = true) (hal : L.al.all (fun i => (dstI l.toArray i).isSome) = true)
    (hB : B w.drew) (stay : ∀ j v w w', Below w.heap.size w w' → p j v w → p j v w')
    (done : ∀ a w, a.tmps.size = a0.tmps.size → a.defers = a0.defers → (∀ t, stays l.toArray t = true → a.tmps[t]? = a0.tmps[t]?) → B w → (∀ j, j < l.length → p j (vw a (L.D j)) w) → Q .normal a w)
    (steps : Stps2 P l.toArray Q L p B a0 0 l) :
    (Code.region id l.toArray true).wp P Q a0 w := by
  refine wp_region_any hm (wpAny_inv2 ok hal stay steps (fun a w h1 h2 h3 h4 h5 => done a w h1 h2 h3 h4 (fun j hj => h5 j (by simpa using hj))) _ _ _ _ ⟨by simp, rfl, rfl, fun _ _ => rfl, hB, ?_, ?_, ?_, ?_⟩ ?_)
  · intro j hj; rw [lg0] at hj; cases hj
  · intro j hj; rw [lg0] at hj; cases hj
  · intro j _ hj; rw [lg0] at hj; cases hj
  · intro j _ i _ _ hj; rw [lg0] at hj; cases hj
  · exact Nat.le_trans List.countP_le_length (by simp)

end
end Go.Proofs.YthklcdcikmninaaGreatDoor

namespace Go.Proofs.YthklcdcikmninaaGreatDoor
open Go Go.RowKit

/-- Operations one after another. -/
def TailWp (P : Program) (ops : Array Oper) (Q : Exit → Act → World → Prop) : List Oper → Act → World → Prop
  | [], a, w => Q .normal a w
  | o :: l, a, w => ∀ K : Act → World → Prop, Shut (∀ a w, TailWp P ops Q l a w → K a w) → if Region.wanted o (yielded ops a.tmps) = true then Oper.wp P o a w K Q else K (a.put o.dst undef) w

def Plan.tail (L : Plan) (md : Region.Mode) (ops : Array Oper) (n0 : Nat) : Bool :=
  decide (n0 < ops.size) && ((List.range n0).all fun e => (L.pre n0).contains e) && ((List.range ops.size).all fun j => decide (j ≤ n0) || (aft md ops j).contains (j - 1))

section
variable {P : Program} {md : Region.Mode} {ops : Array Oper} {Q : Exit → Act → World → Prop} {L : Plan} {p : Nat → List (Option Value) → World → Prop} {B : World → Prop} {a0 : Act}

theorem Plan.tail_spec {n0 : Nat} (h : L.tail md ops n0 = true) : n0 < ops.size ∧ (∀ e, e < n0 → e ∈ L.pre n0) ∧ ∀ j, j < ops.size → n0 < j → j - 1 ∈ aft md ops j := by
  unfold Plan.tail at h
  simp only [Bool.and_eq_true, decide_eq_true_eq, List.all_eq_true, List.mem_range, Bool.or_eq_true, List.contains_iff_mem] at h
  refine ⟨h.1.1, h.1.2, fun j hj hn => ?_⟩
  rcases h.2 j hj with h1 | h1
  · omega
  · exact h1

theorem lgf {listed : Array Bool} {j : Nat} (hj : j < listed.size) (h : listed.getD j false = false) : listed.getD j true = false := by
  simp [hj] at h ⊢; exact h

theorem wpAny_seq (ok : L.ok md ops a0.tmps.size = true) {n0 : Nat} (tok : L.tail md ops n0 = true) : ∀ (l : List Oper) (i fuel : Nat) (listed : Array Bool) (a : Act) (w : World), n0 < i → ops.toList.drop i = l → listed.size = ops.size →
    (∀ j, j < ops.size → listed.getD j false = decide (j < i)) → l.length ≤ fuel → TailWp P ops Q l a w → wpAny P md ops Q fuel listed a w := by
  intro l
  induction l with
  | nil =>
    intro i fuel listed a w hn hd hs hl hf h
    have hi : ops.size ≤ i := by have := congrArg List.length hd; simp at this; omega
    have hr : Region.ready md ops listed = [] := by
      rw [List.eq_nil_iff_forall_not_mem]
      intro j hj
      obtain ⟨h1, o, h2, _⟩ := mem_ready.1 hj
      have hjo := (Array.getElem?_eq_some_iff.1 h2).1
      have h3 := hl j hjo
      have := (lgt h1).2
      rw [h3, decide_eq_false_iff_not] at this
      omega
    cases fuel with
    | zero => exact ⟨hr, h⟩
    | succ f => exact ⟨fun _ => h, fun j hj => by rw [hr] at hj; cases hj⟩
  | cons o l ih =>
    intro i fuel listed a w hn hd hs hl hf h
    have hi : i < ops.size := by
      rcases Nat.lt_or_ge i ops.size with h1 | h1
      · exact h1
      · rw [List.drop_eq_nil_of_le (by simpa using h1)] at hd; cases hd
    have ho : ops[i]? = some o := by
      have := congrArg List.head? hd
      rw [List.head?_drop] at this
      rw [← Array.getElem?_toList]; exact this
    cases fuel with
    | zero => simp at hf
    | succ f =>
      have hii : listed.getD i false = false := by rw [hl i hi, decide_eq_false_iff_not]; omega
      have hmem : i ∈ Region.ready md ops listed := by
        rw [mem_ready]
        refine ⟨lgf (by rw [hs]; exact hi) hii, o, ho, fun e he hb => ?_⟩
        have := (Plan.ok_spec ok hi).1 e.on ((aft_mem ho).2 ⟨e, he, hb, rfl⟩)
        rw [hl e.on (by omega), decide_eq_true_iff]; exact this
      refine ⟨fun hr => (by rw [hr] at hmem; cases hmem), fun j hj => ?_⟩
      obtain ⟨hu, o', ho', hr⟩ := mem_ready.1 hj
      have hjo : j < ops.size := (Array.getElem?_eq_some_iff.1 ho').1
      have hjn := (lgt hu).2
      rw [hl j hjo, decide_eq_false_iff_not] at hjn
      have hij : j = i := by
        rcases Nat.lt_or_ge i j with h1 | h1
        · exfalso
          have h2 := (Plan.tail_spec tok).2.2 j hjo (by omega)
          obtain ⟨x, h3, h4, h5⟩ := (aft_mem ho').1 h2
          have h6 := hr x h3 h4
          rw [h5, hl (j - 1) (by omega), decide_eq_true_iff] at h6
          omega
        · omega
      subst hij
      rw [ho] at ho'
      cases ho'
      refine wpOp_step ho (fun K hK => h K (fun a' w' ht => hK a' w' (ih (j + 1) f _ a' w' (by omega) ?_ (by simp [hs]) ?_ (by simpa using hf) ht)))
      · rw [← List.tail_drop, hd]; rfl
      · intro k hk
        rw [lgd (by rw [hs]; exact hjo), hl k hk]
        by_cases h1 : j = k
        · subst h1; simp
        · simp only [h1, decide_false, Bool.false_or]
          congr 1
          apply propext; omega

theorem wpAny_inv3 (ok : L.ok md ops a0.tmps.size = true) {n0 : Nat} (tok : L.tail md ops n0 = true) (hal : L.al.all (fun i => (dstI ops i).isSome) = true) (stay : ∀ j v w w', Below w.heap.size w w' → p j v w → p j v w') (steps : Stps2 P ops Q L p B a0 0 (ops.toList.take n0))
    (done : ∀ a w, a.tmps.size = a0.tmps.size → a.defers = a0.defers → (∀ t, stays ops t = true → a.tmps[t]? = a0.tmps[t]?) → B w → (∀ j, j < n0 → p j (vw a (L.D j)) w) → TailWp P ops Q (ops.toList.drop n0) a w) :
    ∀ (fuel : Nat) (listed : Array Bool) (a : Act) (w : World), Inv2 md ops L p B a0 listed a w → (∀ j, n0 ≤ j → listed.getD j false = false) → (List.range ops.size).countP (fun i => !listed.getD i true) ≤ fuel → wpAny P md ops Q fuel listed a w := by
  obtain ⟨t1, t2, t3⟩ := Plan.tail_spec tok
  intro fuel
  induction fuel with
  | zero =>
    intro listed a w I hno hc
    exfalso
    have h1 := lgf (by rw [I.lsz]; exact t1) (hno n0 (Nat.le_refl _))
    have := List.countP_eq_zero.1 (Nat.le_zero.1 hc) n0 (List.mem_range.2 t1)
    simp [h1] at this
  | succ fuel ih =>
    intro listed a w I hno hc
    refine ⟨fun hr => ?_, fun i hi => ?_⟩
    · exfalso
      have h1 := ready_all ok I.lsz hr n0 t1
      rw [hno n0 (Nat.le_refl _)] at h1; cases h1
    obtain ⟨hu, o, ho, hr⟩ := mem_ready.1 hi
    have hio : i < ops.size := (Array.getElem?_eq_some_iff.1 ho).1
    have hil : i < listed.size := by rw [I.lsz]; exact hio
    have hun : listed[i] = false := by simpa [hil] using hu
    have hcnt := cnt_set (fun j => !listed.getD j true) (fun j => !(listed.setIfInBounds i true).getD j true) i (by simp [hil, hun]) (by simp [hil]) (fun j hj => by simp [Ne.symm hj]) ops.size
    rw [if_pos hio] at hcnt
    have hpre : ∀ e ∈ L.pre i, listed.getD e false = true := by
      intro e he
      rcases (Plan.ok_spec ok hio).2.1 e he with h | ⟨k, hk, hek⟩
      · obtain ⟨x, h1, h2, rfl⟩ := (aft_mem ho).1 h; exact hr x h1 h2
      · obtain ⟨x, h1, h2, rfl⟩ := (aft_mem ho).1 hk; exact I.clo _ (hr x h1 h2) e hek
    rcases Nat.lt_or_ge i n0 with hin | hin
    · have hst := steps.get i o (by rw [List.getElem?_take, if_pos hin, Array.getElem?_toList]; exact ho)
      rw [Nat.zero_add] at hst
      refine wpOp_step ho (fun K hK => hst a w I.asz I.old I.bag (fun j hj => I.fct j (hpre j hj)) K (fun v w' G => hK _ _ (ih _ _ _ (I.step ok hal stay ho hu hr G) ?_ ?_)))
      · intro j hj
        rw [lgd hil, hno j hj]
        simp; omega
      · omega
    · have hin : i = n0 := by
        rcases Nat.lt_or_ge n0 i with h1 | h1
        · exfalso
          obtain ⟨x, h3, h4, h5⟩ := (aft_mem ho).1 (t3 i hio h1)
          have h6 := hr x h3 h4
          rw [h5, hno (i - 1) (by omega)] at h6; cases h6
        · omega
      subst hin
      have hall : ∀ j, j < i → listed.getD j false = true := fun j hj => hpre j (t2 j hj)
      have hdone := done a w I.asz I.dfs I.old I.bag (fun j hj => I.fct j (hall j hj))
      have hdr : ops.toList.drop i = o :: ops.toList.drop (i + 1) := by
        rw [List.drop_eq_getElem_cons (by simpa using hio)]
        congr 1
        have := Array.getElem?_eq_some_iff.1 ho
        obtain ⟨_, h2⟩ := this
        simpa using h2
      rw [hdr] at hdone
      refine wpOp_step ho (fun K hK => hdone K (fun a' w' ht => hK a' w' (wpAny_seq ok tok _ (i + 1) fuel _ a' w' (by omega) rfl (by rw [Array.size_setIfInBounds]; exact I.lsz) ?_ ?_ ht)))
      · intro k hk
        rw [lgd hil]
        rcases Nat.lt_trichotomy k i with h1 | h1 | h1
        · rw [hall k h1]; simp; omega
        · subst h1; simp
        · rw [hno k (by omega)]; simp; omega
      · have hge : ops.size - (i + 1) ≤ (List.range ops.size).countP (fun j => !(listed.setIfInBounds i true).getD j true) := by
          have h1 : (List.range ops.size).countP (fun j => decide (i + 1 ≤ j)) ≤ (List.range ops.size).countP (fun j => !(listed.setIfInBounds i true).getD j true) := by
            refine List.countP_mono_left (fun j hj h => ?_)
            have hj' := List.mem_range.1 hj
            have h2 : i < j := by simp at h; omega
            have h3 := lgf (by rw [I.lsz]; exact hj') (hno j (by omega))
            have h4 : (listed.setIfInBounds i true).getD j true = false := by
              have : i ≠ j := by omega
              simp [this] at h3 ⊢; exact h3
            simp [h4]
          refine Nat.le_trans ?_ h1
          have h5 : ∀ n, n - (i + 1) ≤ (List.range n).countP (fun j => decide (i + 1 ≤ j)) := by
            intro n
            induction n with
            | zero => simp
            | succ n ihn =>
              rw [List.range_succ, List.countP_append]
              by_cases h6 : i + 1 ≤ n
              · simp [h6]; omega
              · simp [h6]; omega
          exact h5 _
        have : (ops.toList.drop (i + 1)).length = ops.size - (i + 1) := by simp
        omega

theorem TailWp.step {l : List Oper} {i : Nat} {o : Oper} {a : Act} {w : World} (h : l[i]? = some o)
    (hk : ∀ K : Act → World → Prop, Shut (∀ a w, TailWp P ops Q (l.drop (i + 1)) a w → K a w) → if Region.wanted o (yielded ops a.tmps) = true then Oper.wp P o a w K Q else K (a.put o.dst undef) w) : TailWp P ops Q (l.drop i) a w := by
  obtain ⟨hi, he⟩ := List.getElem?_eq_some_iff.1 h
  rw [List.drop_eq_getElem_cons hi, he]
  exact hk
theorem TailWp.end {l : List Oper} {i : Nat} {a : Act} {w : World} (h : l.length = i) (hk : Q .normal a w) : TailWp P ops Q (l.drop i) a w := by
  rw [List.drop_eq_nil_of_le (by omega)]
  exact hk

/-- THE BEGINNING. -/
theorem wp_region_inv3 {id : Nat} {l : List Oper} {w : World} (L : Plan) (n0 : Nat) (p : Nat → List (Option Value) → World → Prop) (B : World → Prop) (hm : P.follows .mixedOrders = true) (ok : L.ok .any l.toArray a0.tmps.size = true) (tok : L.tail .any l.toArray n0 = true) (hal : L.al.all (fun i => (dstI l.toArray i).isSome) = true)
    (hB : B w.drew) (stay : ∀ j v w w', Below w.heap.size w w' → p j v w → p j v w')
    (done : ∀ a w, a.tmps.size = a0.tmps.size → a.defers = a0.defers → (∀ t, stays l.toArray t = true → a.tmps[t]? = a0.tmps[t]?) → B w → (∀ j, j < n0 → p j (vw a (L.D j)) w) → TailWp P l.toArray Q (l.drop n0) a w)
    (steps : Stps2 P l.toArray Q L p B a0 0 (l.take n0)) :
    (Code.region id l.toArray true).wp P Q a0 w := by
  refine wp_region_any hm (wpAny_inv3 ok tok hal stay steps done _ _ _ _ ⟨by simp, rfl, rfl, fun _ _ => rfl, hB, ?_, ?_, ?_, ?_⟩ (fun j _ => lg0 _ _) ?_)
  · intro j hj; rw [lg0] at hj; cases hj
  · intro j hj; rw [lg0] at hj; cases hj
  · intro j _ hj; rw [lg0] at hj; cases hj
  · intro j _ i _ _ hj; rw [lg0] at hj; cases hj
  · exact Nat.le_trans List.countP_le_length (by simp)

end
end Go.Proofs.YthklcdcikmninaaGreatDoor

namespace Go.Proofs.YthklcdcikmninaaGreatDoor
open Go Go.RowKit

/-- One operation more is done. -/
abbrev upd (f : Nat → Bool) (i : Nat) : Nat → Bool := fun j => decide (i = j) || f j
theorem upd_set {listed : Array Bool} {i : Nat} (hi : i < listed.size) : upd (fun j => listed.getD j false) i = (fun j => (listed.setIfInBounds i true).getD j false) :=
  funext fun _ => (lgd hi).symm
theorem ok_lt {md : Region.Mode} {ops : Array Oper} {L : Plan} {m : Nat} (h : L.ok md ops m = true) {i : Nat} (hi : i < ops.size) : ∀ e ∈ aft md ops i, e < i := by
  unfold Plan.ok at h
  rw [List.all_eq_true] at h
  have h := h i (List.mem_range.2 hi)
  simp only [Bool.and_eq_true, List.all_eq_true, decide_eq_true_eq] at h
  exact h.1.1
theorem ready_all' {md : Region.Mode} {ops : Array Oper} {L : Plan} {m : Nat} (ok : L.ok md ops m = true) {listed : Array Bool} (hs : listed.size = ops.size) (h : Region.ready md ops listed = []) : ∀ j, j < ops.size → listed.getD j false = true := by
  intro j
  induction j using Nat.strongRecOn with
  | ind j ih =>
    intro hj
    cases hx : listed.getD j false with
    | true => rfl
    | false =>
      exfalso
      have hm : j ∈ Region.ready md ops listed := by
        rw [mem_ready]
        refine ⟨?_, ops[j], Array.getElem?_eq_getElem hj, fun e he hb => ?_⟩
        · have : j < listed.size := by rw [hs]; exact hj
          simp [this] at hx ⊢; exact hx
        · have h1 := (ok_lt ok hj) e.on ((aft_mem (Array.getElem?_eq_getElem hj)).2 ⟨e, he, hb, rfl⟩)
          exact ih e.on h1 (Nat.lt_trans h1 hj)
      rw [h] at hm; cases hm

theorem all_listed {md : Region.Mode} {ops : Array Oper} {L : Plan} {m : Nat} (ok : L.ok md ops m = true) {listed : Array Bool} (hs : listed.size = ops.size) (h : Region.ready md ops listed = []) : (fun j => listed.getD j false) = (fun j => decide (j < ops.size)) := by
  funext j
  by_cases hj : j < ops.size
  · rw [decide_eq_true hj]; exact ready_all' ok hs h j hj
  · rw [decide_eq_false hj]; have : listed.size ≤ j := (by omega); simp [this]

structure Inv4 (md : Region.Mode) (ops : Array Oper) (L : Plan) (p : Nat → List (Option Value) → World → Prop) (B : (Nat → Bool) → World → Prop) (a0 : Act) (listed : Array Bool) (a : Act) (w : World) : Prop where
  lsz : listed.size = ops.size
  asz : a.tmps.size = a0.tmps.size
  dfs : a.defers = a0.defers
  old : ∀ t, stays ops t = true → a.tmps[t]? = a0.tmps[t]?
  bag : B (fun j => listed.getD j false) w
  fct : ∀ j, listed.getD j false = true → p j (vw a (L.D j)) w
  clo : ∀ j, listed.getD j false = true → ∀ i ∈ L.pre j, listed.getD i false = true
  alo : ∀ i ∈ L.al, listed.getD i false = true → ∃ k, Ptr2 a ops i k ∧ k < w.heap.size
  apt : ∀ i ∈ L.al, ∀ j ∈ L.al, i ≠ j → listed.getD i false = true → listed.getD j false = true → ∀ k, Ptr2 a ops i k → ¬ Ptr2 a ops j k

/-- What is to be shown behind operation i. -/
structure Laid4 (ops : Array Oper) (L : Plan) (p : Nat → List (Option Value) → World → Prop) (B : (Nat → Bool) → World → Prop) (f : Nat → Bool) (i : Nat) (o : Oper) (a : Act) (w : World) (v : Value) (w' : World) : Prop where
  bag : B (upd f i) w'
  fct : p i ((L.D i).map (fun t => if o.dst = some t then some v else a.tmps[t]?)) w'
  size : w.heap.size ≤ w'.heap.size
  stay : Below w.heap.size w w' ∨ ∀ j, j ≠ i → (∀ x ∈ L.al, ∀ y ∈ L.al, x ≠ y → x ∈ L.pre i → (y ∈ L.pre j ∨ y = j) → ∀ k, Ptr2 a ops x k → ¬ Ptr2 a ops y k) → p j (vw a (L.D j)) w → p j (vw a (L.D j)) w'
  ptr : i ∈ L.al → ∃ k, blk v = some k ∧ w.heap.size ≤ k ∧ k < w'.heap.size

def Stp4 (P : Program) (ops : Array Oper) (Q : Exit → Act → World → Prop) (L : Plan) (p : Nat → List (Option Value) → World → Prop) (B : (Nat → Bool) → World → Prop) (a0 : Act) (i : Nat) (o : Oper) : Prop :=
  ∀ f a w, a.tmps.size = a0.tmps.size → (∀ t, stays ops t = true → a.tmps[t]? = a0.tmps[t]?) → B f w → (∀ j ∈ L.pre i, p j (vw a (L.D j)) w) → (∀ j, i ∈ L.pre j → f j = false) →
    ∀ K : Act → World → Prop, Shut (∀ v w', Laid4 ops L p B f i o a w v w' → K (a.put o.dst v) w') → if Region.wanted o (yielded ops a.tmps) = true then Oper.wp P o a w K Q else K (a.put o.dst undef) w

inductive Stps4 (P : Program) (ops : Array Oper) (Q : Exit → Act → World → Prop) (L : Plan) (p : Nat → List (Option Value) → World → Prop) (B : (Nat → Bool) → World → Prop) (a0 : Act) : Nat → List Oper → Prop
  | nil (i : Nat) : Stps4 P ops Q L p B a0 i []
  | cons {i : Nat} {o : Oper} {l : List Oper} : Stp4 P ops Q L p B a0 i o → Stps4 P ops Q L p B a0 (i + 1) l → Stps4 P ops Q L p B a0 i (o :: l)

section
variable {P : Program} {md : Region.Mode} {ops : Array Oper} {Q : Exit → Act → World → Prop} {L : Plan} {p : Nat → List (Option Value) → World → Prop} {B : (Nat → Bool) → World → Prop} {a0 : Act}

theorem Stps4.get : ∀ {l : List Oper} {i : Nat}, Stps4 P ops Q L p B a0 i l → ∀ k o, l[k]? = some o → Stp4 P ops Q L p B a0 (i + k) o := by
  intro l
  induction l with
  | nil => intro i _ k o h; simp at h
  | cons x l ih =>
    intro i h k o hk
    cases h with
    | cons h1 h2 =>
      cases k with
      | zero => simp at hk; subst hk; exact h1
      | succ k => have := ih h2 k o (by simpa using hk); rwa [Nat.add_assoc, Nat.add_comm 1 k] at this

theorem Inv4.step (ok : L.ok md ops a0.tmps.size = true) (hal : L.al.all (fun i => (dstI ops i).isSome) = true) (stay : ∀ j v w w', Below w.heap.size w w' → p j v w → p j v w') {listed : Array Bool} {a : Act} {w : World} (I : Inv4 md ops L p B a0 listed a w) {i : Nat} {o : Oper} (ho : ops[i]? = some o)
    (hu : listed.getD i true = false) (hr : ∀ e ∈ o.after, Region.binds md e = true → listed.getD e.on false = true) {v : Value} {w' : World} (G : Laid4 ops L p B (fun j => listed.getD j false) i o a w v w') :
    Inv4 md ops L p B a0 (listed.setIfInBounds i true) (a.put o.dst v) w' := by
  have hi : i < ops.size := (Array.getElem?_eq_some_iff.1 ho).1
  have hil : i < listed.size := by rw [I.lsz]; exact hi
  have hun := (lgt hu).2
  obtain ⟨c1, c2, c3⟩ := Plan.ok_spec ok hi
  have hd : dstI ops i = o.dst := by unfold dstI; rw [ho]; rfl
  have hpre : ∀ e ∈ L.pre i, listed.getD e false = true := by
    intro e he
    rcases c2 e he with h | ⟨k, hk, hek⟩
    · obtain ⟨x, h1, h2, rfl⟩ := (aft_mem ho).1 h; exact hr x h1 h2
    · obtain ⟨x, h1, h2, rfl⟩ := (aft_mem ho).1 hk; exact I.clo _ (hr x h1 h2) e hek
  have hput : ∀ t, (a.put o.dst v).tmps[t]? = if o.dst = some t then some v else a.tmps[t]? := by
    intro t
    cases hx : o.dst with
    | none => simp [Act.put]
    | some d =>
      have h4 := (c3 d (hd.trans hx)).1
      have h5 : d < a.tmps.size := by rw [I.asz]; exact h4
      simp only [Act.put, Array.getElem?_setIfInBounds, Option.some.injEq, if_pos h5]
  have hlj : ∀ j, listed.getD j false = true → j < ops.size ∧ j ≠ i := by
    intro j hj
    refine ⟨?_, fun e => by rw [e, hun] at hj; cases hj⟩
    rw [← I.lsz]
    by_cases h : j < listed.size
    · exact h
    · simp [Nat.le_of_not_lt h] at hj
  have hvw : ∀ j, listed.getD j false = true → vw (a.put o.dst v) (L.D j) = vw a (L.D j) := by
    intro j hj
    unfold vw
    refine List.map_congr_left (fun t ht => ?_)
    rw [hput]
    refine if_neg (fun e => ?_)
    have h6 := ((c3 t (hd.trans e)).2 j (hlj j hj).1 (hlj j hj).2.symm).1 ht
    have h7 := I.clo j hj i h6
    rw [hun] at h7; cases h7
  have hptr : ∀ j, listed.getD j false = true → ∀ k, Ptr2 (a.put o.dst v) ops j k ↔ Ptr2 a ops j k := by
    intro j hj k
    unfold Ptr2
    constructor
    · rintro ⟨d, u, h1, h2, h3⟩
      refine ⟨d, u, h1, ?_, h3⟩
      rw [hput, if_neg (fun e => ((c3 d (hd.trans e)).2 j (hlj j hj).1 (hlj j hj).2.symm).2 h1)] at h2
      exact h2
    · rintro ⟨d, u, h1, h2, h3⟩
      refine ⟨d, u, h1, ?_, h3⟩
      rw [hput, if_neg (fun e => ((c3 d (hd.trans e)).2 j (hlj j hj).1 (hlj j hj).2.symm).2 h1)]
      exact h2
  have hnew : i ∈ L.al → ∀ k, Ptr2 (a.put o.dst v) ops i k → w.heap.size ≤ k ∧ k < w'.heap.size := by
    intro hal k ⟨d, u, h1, h2, h5⟩
    obtain ⟨k', hv, h3, h4⟩ := G.ptr hal
    rw [hput, if_pos (hd.symm.trans h1)] at h2
    cases h2
    rw [hv] at h5
    cases h5
    exact ⟨h3, h4⟩
  have hcase : ∀ j, (listed.setIfInBounds i true).getD j false = true → j = i ∨ listed.getD j false = true := by
    intro j hj
    rw [lgd hil, Bool.or_eq_true, decide_eq_true_eq] at hj
    exact hj.imp Eq.symm id
  refine ⟨by simp [I.lsz], ?_, ?_, ?_, (upd_set hil ▸ G.bag), ?_, ?_, ?_, ?_⟩
  · cases o.dst <;> simp [Act.put, I.asz]
  · cases o.dst <;> simp [Act.put, I.dfs]
  · intro t ht
    rw [hput, if_neg, I.old t ht]
    intro e
    unfold stays at ht
    rw [List.all_eq_true] at ht
    have := ht i (List.mem_range.2 hi)
    rw [hd, e] at this
    simp at this
  · intro j hj
    rcases hcase j hj with rfl | hj
    · have := G.fct
      unfold vw
      rw [show (L.D j).map (fun t => (a.put o.dst v).tmps[t]?) = (L.D j).map (fun t => if o.dst = some t then some v else a.tmps[t]?) from List.map_congr_left (fun t _ => hput t)]
      exact this
    · rw [hvw j hj]
      rcases G.stay with hb | hs
      · exact stay j _ _ _ hb (I.fct j hj)
      · refine hs j (hlj j hj).2 ?_ (I.fct j hj)
        intro x hx y hy hxy hxi hyj
        exact I.apt x hx y hy hxy (hpre x hxi) (hyj.elim (I.clo j hj y) (fun e => e ▸ hj))
  · intro j hj e he
    rw [lgd hil, Bool.or_eq_true]
    rcases hcase j hj with rfl | hj
    · exact .inr (hpre e he)
    · exact .inr (I.clo j hj e he)
  · intro j hjal hj
    rcases hcase j hj with rfl | hj
    · obtain ⟨k, hv, h3, h4⟩ := G.ptr hjal
      cases hx : o.dst with
      | none =>
        have := List.all_eq_true.1 hal j hjal
        rw [hd, hx] at this; cases this
      | some d => exact ⟨k, ⟨d, v, hd.trans hx, by rw [← hx, hput, if_pos hx], hv⟩, h4⟩
    · obtain ⟨k, h1, h2⟩ := I.alo j hjal hj
      exact ⟨k, (hptr j hj k).2 h1, Nat.lt_of_lt_of_le h2 G.size⟩
  · intro x hx y hy hxy hlx0 hly0 k
    rcases hcase x hlx0 with rfl | hlx
    · rcases hcase y hly0 with e | hly
      · exact absurd e.symm hxy
      · intro h1 h2
        obtain ⟨k', h3, h4⟩ := I.alo y hy hly
        obtain ⟨d, x1, e1, e2, e5⟩ := (hptr y hly k).1 h2
        obtain ⟨d', x2, e3, e4, e6⟩ := h3
        rw [e1] at e3; cases e3
        rw [e2] at e4; cases e4
        rw [e5] at e6; cases e6
        have := (hnew hx k h1).1
        omega
    · rcases hcase y hly0 with rfl | hly
      · intro h1 h2
        obtain ⟨k', h3, h4⟩ := I.alo x hx hlx
        obtain ⟨d, x1, e1, e2, e5⟩ := (hptr x hlx k).1 h1
        obtain ⟨d', x2, e3, e4, e6⟩ := h3
        rw [e1] at e3; cases e3
        rw [e2] at e4; cases e4
        rw [e5] at e6; cases e6
        have := (hnew hy k h2).1
        omega
      · intro h1 h2
        exact I.apt x hx y hy hxy hlx hly k ((hptr x hlx k).1 h1) ((hptr y hly k).1 h2)

theorem wpAny_inv4 (ok : L.ok md ops a0.tmps.size = true) (hal : L.al.all (fun i => (dstI ops i).isSome) = true) (stay : ∀ j v w w', Below w.heap.size w w' → p j v w → p j v w') (steps : Stps4 P ops Q L p B a0 0 ops.toList)
    (done : ∀ a w, a.tmps.size = a0.tmps.size → a.defers = a0.defers → (∀ t, stays ops t = true → a.tmps[t]? = a0.tmps[t]?) → B (fun j => decide (j < ops.size)) w → (∀ j, j < ops.size → p j (vw a (L.D j)) w) → Q .normal a w) :
    ∀ (fuel : Nat) (listed : Array Bool) (a : Act) (w : World), Inv4 md ops L p B a0 listed a w → (List.range ops.size).countP (fun i => !listed.getD i true) ≤ fuel → wpAny P md ops Q fuel listed a w := by
  intro fuel
  induction fuel with
  | zero =>
    intro listed a w I hc
    have hall : ∀ j, j < ops.size → listed.getD j true = true := by
      intro j hj
      have := List.countP_eq_zero.1 (Nat.le_zero.1 hc) j (List.mem_range.2 hj)
      simpa using this
    have hr : Region.ready md ops listed = [] := by
      rw [List.eq_nil_iff_forall_not_mem]
      intro j hj
      obtain ⟨h1, o, h2, _⟩ := mem_ready.1 hj
      rw [hall j (Array.getElem?_eq_some_iff.1 h2).1] at h1; cases h1
    exact ⟨hr, done a w I.asz I.dfs I.old (all_listed ok I.lsz hr ▸ I.bag) (fun j hj => I.fct j (ready_all ok I.lsz hr j hj))⟩
  | succ fuel ih =>
    intro listed a w I hc
    refine ⟨fun hr => done a w I.asz I.dfs I.old (all_listed ok I.lsz hr ▸ I.bag) (fun j hj => I.fct j (ready_all ok I.lsz hr j hj)), fun i hi => ?_⟩
    obtain ⟨hu, o, ho, hr⟩ := mem_ready.1 hi
    have hio : i < ops.size := (Array.getElem?_eq_some_iff.1 ho).1
    have hst := steps.get i o (by rw [Array.getElem?_toList]; exact ho)
    rw [Nat.zero_add] at hst
    have hpre : ∀ e ∈ L.pre i, listed.getD e false = true := by
      intro e he
      rcases (Plan.ok_spec ok hio).2.1 e he with h | ⟨k, hk, hek⟩
      · obtain ⟨x, h1, h2, rfl⟩ := (aft_mem ho).1 h; exact hr x h1 h2
      · obtain ⟨x, h1, h2, rfl⟩ := (aft_mem ho).1 hk; exact I.clo _ (hr x h1 h2) e hek
    have hno : ∀ j, i ∈ L.pre j → listed.getD j false = false := by
      intro j hj
      cases hx : listed.getD j false with
      | false => rfl
      | true =>
        have h1 := I.clo j hx i hj
        rw [(lgt hu).2] at h1; cases h1
    refine wpOp_step ho (fun K hK => hst _ a w I.asz I.old I.bag (fun j hj => I.fct j (hpre j hj)) (fun j hj => hno j hj) K (fun v w' G => hK _ _ (ih _ _ _ (I.step ok hal stay ho hu hr G) ?_)))
    have hil : i < listed.size := by rw [I.lsz]; exact hio
    have hun : listed[i] = false := by simpa [hil] using hu
    have := cnt_set (fun j => !listed.getD j true) (fun j => !(listed.setIfInBounds i true).getD j true) i (by simp [hil, hun]) (by simp [hil]) (fun j hj => by simp [Ne.symm hj]) ops.size
    rw [if_pos hio] at this
    omega

/-- THE BEGINNING. -/
theorem wp_region_inv4 {id : Nat} {l : List Oper} {w : World} (L : Plan) (p : Nat → List (Option Value) → World → Prop) (B : (Nat → Bool) → World → Prop) (hm : P.follows .mixedOrders = true) (ok : L.ok .any l.toArray a0.tmps.size = true) (hal : L.al.all (fun i => (dstI l.toArray i).isSome) = true)
    (hB : B (fun _ => false) w.drew) (stay : ∀ j v w w', Below w.heap.size w w' → p j v w → p j v w')
    (done : ∀ a w, a.tmps.size = a0.tmps.size → a.defers = a0.defers → (∀ t, stays l.toArray t = true → a.tmps[t]? = a0.tmps[t]?) → B (fun j => decide (j < l.length)) w → (∀ j, j < l.length → p j (vw a (L.D j)) w) → Q .normal a w)
    (steps : Stps4 P l.toArray Q L p B a0 0 l) :
    (Code.region id l.toArray true).wp P Q a0 w := by
  refine wp_region_any hm (wpAny_inv4 ok hal stay steps (fun a w h1 h2 h3 h4 h5 => done a w h1 h2 h3 (by simpa using h4) (fun j hj => h5 j (by simpa using hj))) _ _ _ _ ⟨by simp, rfl, rfl, fun _ _ => rfl, (by rw [show (fun j => (Array.replicate l.toArray.size false).getD j false) = (fun _ => false) from funext (fun j => lg0 _ j)]; exact hB), ?_, ?_, ?_, ?_⟩ ?_)
  · intro j hj; rw [lg0] at hj; cases hj
  · intro j hj; rw [lg0] at hj; cases hj
  · intro j _ hj; rw [lg0] at hj; cases hj
  · intro j _ i _ _ hj; rw [lg0] at hj; cases hj
  · exact Nat.le_trans List.countP_le_length (by simp)

end
end Go.Proofs.YthklcdcikmninaaGreatDoor

