/-
  Package whole: what an integer in memory is; Of and Neg, by contract.
-/
import Derived.Test.YtkjdoknmmiaapaaDoorBag
import Derived.BigRegion
import Derived.RegionTactic
import Derived.Deep.RegionWith
import Derived.Deep.RegionHeld3
import Derived.Deep.DrawnRows
namespace Go.Proofs.YtkjdoknmmiaapaaDoor
open Go.RowKit
attribute [local go_sem ↓] Go.wp_at_zero Go.wp_at_succ

/-- The fields of an integer, read as the number Z: the sign stands for less than 0 alone. -/
def IntAt (w : World) (a : Option Addr) (n c : Nat) (m : Bool) (Z : Int) : Prop := m = decide (Z < 0) ∧ NatIs w (.agg #[.slice a n c]) Z.natAbs
theorem IntAt.below {w w' : World} {a : Option Addr} {n c : Nat} {m : Bool} {Z : Int} (h : IntAt w a n c m Z) (hb : Below w.heap.size w w') : IntAt w' a n c m Z := ⟨h.1, h.2.below hb⟩
def IntTold (w w' : World) (e : Ending) (Z : Int) : Prop := ∃ a n c m, e = .returned (.agg #[.slice a n c, .bool m]) ∧ IntAt w' a n c m Z ∧ Below w.heap.size w w'

/-- A number with a sign. -/
def sgn (b : Bool) (N : Nat) : Int := if b then -(N : Int) else N
theorem sgn_abs (b : Bool) (N : Nat) : (sgn b N).natAbs = N := by unfold sgn; split <;> omega
theorem sgn_neg (b : Bool) (N : Nat) : decide (sgn b N < 0) = (b && !decide (N = 0)) := by
  cases b
  · simp [sgn]
  · by_cases h : N = 0
    · simp [sgn, h]
    · simp [sgn, h]; omega
theorem sgn_self (Z : Int) : sgn (decide (Z < 0)) Z.natAbs = Z := by
  by_cases h : Z < 0
  · rw [decide_eq_true h]; simp [sgn]; omega
  · rw [decide_eq_false h]; simp [sgn]; omega

/-- A natural number told, the value known. -/
def NatTold2 (w w' : World) (e : Ending) (v : Value) (N : Nat) : Prop := e = .returned v ∧ NatIs w' v N ∧ Below w.heap.size w w'

theorem NatIs.storeAt {w : World} {v : Value} {N : Nat} {p : Addr} {x : Value} (h : NatIs w v N) (hs : w.cell? p = some x) (hx : ∀ ki z, x ≠ .int ki z) (u : Value) : NatIs (w.setCell p u) v N := by
  obtain ⟨a, n, c, f, rfl, ⟨h1, h2, h3, h4⟩, hv, ht⟩ := h
  refine ⟨a, n, c, f, rfl, ⟨h1, h2, h3, ?_⟩, hv, ht⟩
  rcases h4 with h4 | ⟨b, off, rfl, hb, hc⟩
  · exact .inl h4
  · refine .inr ⟨b, off, rfl, by simpa using hb, fun j hj => ?_⟩
    rw [World.cell?_setCell_other _ _ _ _ (fun e' => ?_)]
    · exact hc j hj
    · have h5 := hc j hj
      rw [show (⟨b, off + j, none⟩ : Addr) = p from by first | exact e' | exact e'.symm, hs] at h5
      exact hx _ _ (Option.some.inj h5)

/-- An integer's block, written whole. -/
theorem IntTold.done {w w2 : World} {k : Nat} {x : Value} {m0 : Bool} {a : Option Addr} {n c : Nat} {m : Bool} {Z : Int} (hb : Below w.heap.size w w2) (hk : w.heap.size ≤ k) (hs : Slot2 w2 k x (.bool m0)) (hx : ∀ ki z, x ≠ .int ki z) (h : IntAt w2 a n c m Z) :
    IntTold w ((w2.setCell ⟨k, 0, none⟩ (.slice a n c)).setCell ⟨k, 1, none⟩ (.bool m)) (.returned (.agg #[.slice a n c, .bool m])) Z := by
  refine ⟨a, n, c, m, rfl, ⟨h.1, ?_⟩, (hb.setCell hk _).setCell hk _⟩
  refine (h.2.storeAt hs.cell hx _).storeAt (x := .bool m0) ?_ (fun _ _ h => by cases h) _
  rw [World.cell?_setCell_other _ _ _ _ (fun e => by cases e)]
  exact hs.cell1

theorem Slot2.set {w : World} {k : Nat} {x y : Value} (h : Slot2 w k x y) (u v : Value) : ((w.setCell ⟨k, 0, none⟩ u).setCell ⟨k, 1, none⟩ v).cell? ⟨k, 0, none⟩ = some u ∧ ((w.setCell ⟨k, 0, none⟩ u).setCell ⟨k, 1, none⟩ v).cell? ⟨k, 1, none⟩ = some v := by
  refine ⟨?_, ?_⟩
  · rw [World.cell?_setCell_other _ _ _ _ (fun e => by cases e)]
    exact World.cell?_setCell_same _ _ _ h.cell
  · refine World.cell?_setCell_same (u := y) _ _ _ ?_
    rw [World.cell?_setCell_other _ _ _ _ (fun e => by cases e)]
    exact h.cell1

/-- An integer's block, whatever it holds. -/
def RS (y : World) (k : Nat) : Prop := ∃ x b, Slot2 y k x (.bool b) ∧ ∀ ki z, x ≠ .int ki z
theorem RS.below {w w' : World} {k : Nat} (h : RS w k) (hb : Below w.heap.size w w') : RS w' k := by
  obtain ⟨x, b, h1, h2⟩ := h; exact ⟨x, b, h1.below hb, h2⟩
theorem Slot2.rs {w : World} {k : Nat} {a : Option Addr} {n c : Nat} {b : Bool} (h : Slot2 w k (.slice a n c) (.bool b)) : RS w k := ⟨_, _, h, fun _ _ h => by cases h⟩
/-- An integer stored into its block. -/
def putI (y : World) (k : Nat) (a : Option Addr) (n c : Nat) (b : Bool) : World := (y.setCell ⟨k, 0, none⟩ (.slice a n c)).setCell ⟨k, 1, none⟩ (.bool b)
theorem RS.frozen {w : World} {k : Nat} (h : RS w k) : w.frozen? ⟨k, 0, none⟩ = false ∧ w.frozen? ⟨k, 1, none⟩ = false := by
  obtain ⟨x, b, h1, _⟩ := h; exact ⟨h1.free, h1.free1⟩
theorem RS.lt {w : World} {k : Nat} (h : RS w k) : k < w.heap.size := by
  obtain ⟨x, b, h1, _⟩ := h; exact h1.lt
theorem RS.ex {w : World} {k : Nat} (h : RS w k) : (∃ x, w.cell? ⟨k, 0, none⟩ = some x) ∧ ∃ x, w.cell? ⟨k, 1, none⟩ = some x := by
  obtain ⟨x, b, h1, _⟩ := h; exact ⟨⟨_, h1.cell⟩, ⟨_, h1.cell1⟩⟩
theorem RS.cells {w : World} {k : Nat} (h : RS w k) (a : Option Addr) (n c : Nat) (b : Bool) : (putI w k a n c b).cell? ⟨k, 0, none⟩ = some (.slice a n c) ∧ (putI w k a n c b).cell? ⟨k, 1, none⟩ = some (.bool b) := by
  obtain ⟨x, b', h1, _⟩ := h; exact h1.set _ _
theorem RS.slotted {w : World} {k : Nat} (h : RS w k) (a : Option Addr) (n c : Nat) (b : Bool) : Slot2 (putI w k a n c b) k (.slice a n c) (.bool b) := by
  obtain ⟨x, b', h1, _⟩ := h
  exact ⟨(h1.set _ _).1, (h1.set _ _).2, by simp [putI, h1.free], by simp [putI, h1.free1], by simpa [putI] using h1.lt⟩
theorem RS.put {w : World} {k j : Nat} (h : RS w j) (a : Option Addr) (n c : Nat) (b : Bool) : RS (putI w k a n c b) j := by
  obtain ⟨x, b', h1, h2⟩ := h
  by_cases e : j = k
  · subst e
    have := h1.set (.slice a n c) (.bool b)
    exact ⟨_, _, ⟨this.1, this.2, by simp [putI, h1.free], by simp [putI, h1.free1], by simpa [putI] using h1.lt⟩, fun _ _ h => by cases h⟩
  · refine ⟨x, b', ⟨?_, ?_, by simp [putI, h1.free], by simp [putI, h1.free1], by simpa [putI] using h1.lt⟩, h2⟩
    · unfold putI; rw [World.cell?_setCell_other _ _ _ _ (fun e' => by cases e'), World.cell?_setCell_other _ _ _ _ (fun e' => e (by cases e'; rfl))]; exact h1.cell
    · unfold putI; rw [World.cell?_setCell_other _ _ _ _ (fun e' => e (by cases e'; rfl)), World.cell?_setCell_other _ _ _ _ (fun e' => by cases e')]; exact h1.cell1
theorem Slot2.put {w : World} {k j : Nat} {x z : Value} (h1 : Slot2 w j x z) (e : j ≠ k) (a : Option Addr) (n c : Nat) (b : Bool) : Slot2 (putI w k a n c b) j x z := by
  refine ⟨?_, ?_, by simp [putI, h1.free], by simp [putI, h1.free1], by simpa [putI] using h1.lt⟩
  · unfold putI; rw [World.cell?_setCell_other _ _ _ _ (fun e' => by cases e' <;> exact e rfl), World.cell?_setCell_other _ _ _ _ (fun e' => by cases e' <;> exact e rfl)]; exact h1.cell
  · unfold putI; rw [World.cell?_setCell_other _ _ _ _ (fun e' => by cases e' <;> exact e rfl), World.cell?_setCell_other _ _ _ _ (fun e' => by cases e' <;> exact e rfl)]; exact h1.cell1
theorem Slot.put {w : World} {k j : Nat} {x : Value} (h1 : Slot w j x) (e : j ≠ k) (a : Option Addr) (n c : Nat) (b : Bool) : Slot (putI w k a n c b) j x := by
  refine ⟨?_, by simp [putI, h1.free], by simpa [putI] using h1.lt⟩
  unfold putI; rw [World.cell?_setCell_other _ _ _ _ (fun e' => by cases e' <;> exact e rfl), World.cell?_setCell_other _ _ _ _ (fun e' => by cases e' <;> exact e rfl)]; exact h1.cell
theorem NatIs.put {w : World} {k : Nat} {v : Value} {N : Nat} (q : NatIs w v N) (h : RS w k) (a : Option Addr) (n c : Nat) (b : Bool) : NatIs (putI w k a n c b) v N := by
  obtain ⟨x, b', h1, h2⟩ := h
  refine (q.storeAt h1.cell h2 _).storeAt (x := .bool b') ?_ (fun _ _ h => by cases h) _
  rw [World.cell?_setCell_other _ _ _ _ (fun e => by cases e)]
  exact h1.cell1
theorem IntAt.put {w : World} {k : Nat} {a' : Option Addr} {n' c' : Nat} {m : Bool} {Z : Int} (q : IntAt w a' n' c' m Z) (h : RS w k) (a : Option Addr) (n c : Nat) (b : Bool) : IntAt (putI w k a n c b) a' n' c' m Z := ⟨q.1, q.2.put h a n c b⟩
theorem Bag.put {w0 w : World} {P : World → Prop} (h : Bag w0 P w) {k : Nat} (hk : w0.heap.size ≤ k) {a : Option Addr} {n c : Nat} {b : Bool} (hp : P w → P (putI w k a n c b)) : Bag w0 P (putI w k a n c b) :=
  ⟨(h.below.setCell hk _).setCell hk _, h.stay, hp h.now⟩
theorem IntTold.fin {w w2 : World} {k : Nat} {a : Option Addr} {n c : Nat} {m : Bool} {Z : Int} (hb : Below w.heap.size w w2) (hk : w.heap.size ≤ k) (hs : RS w2 k) (h : IntAt w2 a n c m Z) :
    IntTold w (putI w2 k a n c m) (.returned (.agg #[.slice a n c, .bool m])) Z :=
  ⟨a, n, c, m, rfl, h.put hs a n c m, (hb.setCell hk _).setCell hk _⟩

set_option maxHeartbeats 800000 in
set_option maxRecDepth 100000 in
theorem wof_any (b : Bool) (a : Option Addr) (n c N : Nat) (w : World) (h : NatIs w (.agg #[.slice a n c]) N) :
    Calls Tryd.prog 92 #[.bool b, .agg #[.slice a n c]] w fun e w' => IntTold w w' e (sgn b N) := by
  cases b with
  | false =>
    have HE : Hid (IntTold w ((w.alloc (.cells #[.slice a n c] 25)).alloc (.cells #[.slice a n c, .bool false] 60)).drew (.returned (.agg #[.slice a n c, .bool false])) (sgn false N)) :=
      have B0 := (((Bag.start w).nat h).alloc (.cells #[.slice a n c] 25)).box2 (.slice a n c) (.bool false) 60
      ⟨a, n, c, false, rfl, ⟨by rw [sgn_neg]; rfl, by rw [sgn_abs]; exact B0.drew.now.2.1⟩, B0.drew.below⟩
    clear h
    go_enter Tryd.func92, Tryd.ntmps92
    go_wp2_with fail
    go_region
    all_goals
      go_wp2
      exact bodyPost_ret (v := .agg #[.slice a n c, .bool false]) (by simp [results, Tryd.results92, go_sem]) rfl HE.out
  | true =>
    have B0 := (((Bag.start w).nat h).box (.slice a n c) 25).box2 (.slice none 0 0) (.bool false) 60
    rw [World.size_alloc] at B0
    have BB := Lib.hid B0.drew
    have HZ := Lib.hid (zero_any _ N _ B0.drew.now.2.2.1)
    have q0 := B0.now.2.1.cell
    have HI : Hid (∀ wz, NatIs wz (.agg #[.slice a n c]) N → IntAt wz a n c (!decide (N = 0)) (sgn true N)) := fun wz hz => ⟨by rw [sgn_neg]; rfl, by rw [sgn_abs]; exact hz⟩
    obtain ⟨m, hm⟩ : ∃ m, (!decide (N = 0)) = m := ⟨_, rfl⟩
    obtain ⟨z, hz⟩ : ∃ z, decide (N = 0) = z := ⟨_, rfl⟩
    rw [hm] at HI
    rw [hz] at HZ hm
    subst hm
    clear B0 h hz
    go_enter Tryd.func92, Tryd.ntmps92
    go_wp2_with fail
    go_region_with (go_at_call 22; refine HZ.out.mono ?_; rintro e w2 ⟨rfl, hb2⟩; have B2 := BB.out.go hb2; have hq := B2.now.2.1.cell; have hs2 := B2.now.1; have hc1 := hs2.cell; have hc2 := hs2.cell1; have hf1 := hs2.free; have hf2 := hs2.free1; have HS := hs2.set (.slice a n c) (.bool (!z)); have HE := Lib.hid (IntTold.done B2.below (by omega) hs2 (fun _ _ h => by cases h) (HI.out _ B2.now.2.2.1)); clear hb2 B2 hs2)
    all_goals
      go_wp2
      exact bodyPost_ret (v := .agg #[.slice a n c, .bool (!z)]) (by simp [results, Tryd.results92, go_sem, HS]) rfl HE.out

end Go.Proofs.YtkjdoknmmiaapaaDoor
