/-
  A bag of facts on a world, each kept by every call that turns nothing old: one line behind each call.
  Package whole: what an integer in memory is; Of and Neg, by contract.
  Package whole: Neg, Size, Sign, Minus, Digits, by contract.
  Package whole: Digits, Cmp, From, Int, by contract.
  What the laws of package nat and those of whole have in common.
-/
import Derived.Test.YthklcdcikmninaaGreatDoorK2
import Derived.BigRegion
import Derived.RegionTactic
import Derived.Deep.RegionWith
import Derived.Deep.RegionHeld3
import Derived.Deep.DrawnRows
import Derived.Test.YthklcdcikmninaaGreatDoorK3
import Derived.Test.YthklcdcikmninaaGreatDoorK4
import Derived.IntWalk
import Derived.Laws.BitsLemmas
namespace Go.Proofs.YthklcdcikmninaaGreatDoor
open Go.RowKit

structure Bag (w0 : World) (P : World → Prop) (w : World) : Prop where
  below : Below w0.heap.size w0 w
  stay : ∀ a b, Below a.heap.size a b → P a → P b
  now : P w

theorem Bag.start (w : World) : Bag w (fun _ => True) w := ⟨Below.refl _ _, fun _ _ _ _ => trivial, trivial⟩
theorem Bag.go {w0 w w' : World} {P : World → Prop} (h : Bag w0 P w) (hb : Below w.heap.size w w') : Bag w0 P w' :=
  ⟨h.below.trans (hb.mono h.below.size), h.stay, h.stay _ _ hb h.now⟩
theorem Bag.add {w0 w : World} {P Q : World → Prop} (h : Bag w0 P w) (hs : ∀ a b, Below a.heap.size a b → Q a → Q b) (q : Q w) : Bag w0 (fun x => Q x ∧ P x) w :=
  ⟨h.below, fun a b hb ⟨h1, h2⟩ => ⟨hs a b hb h1, h.stay a b hb h2⟩, q, h.now⟩
theorem Bag.nat {w0 w : World} {P : World → Prop} {v : Value} {N : Nat} (h : Bag w0 P w) (q : NatIs w v N) : Bag w0 (fun x => NatIs x v N ∧ P x) w := h.add (fun _ _ hb q => q.below hb) q
theorem Bag.alloc {w0 w : World} {P : World → Prop} (h : Bag w0 P w) (o : Obj) : Bag w0 P (w.alloc o) := h.go ((Below.refl _ _).alloc (Nat.le_refl _) _)
theorem Bag.slot {w0 w : World} {P : World → Prop} {k : Nat} {x : Value} (h : Bag w0 P w) (q : Slot w k x) : Bag w0 (fun y => Slot y k x ∧ P y) w := h.add (fun _ _ hb q => q.below hb) q
theorem Bag.box {w0 w : World} {P : World → Prop} (h : Bag w0 P w) (x : Value) (t : TypeId) : Bag w0 (fun y => Slot y w.heap.size x ∧ P y) (w.alloc (.cells #[x] t)) :=
  (h.alloc _).slot (Slot.new w x t)
theorem Bag.drewN {w0 w : World} {P : World → Prop} (h : Bag w0 P w) (n : Nat) : Bag w0 P (w.drewN n) := h.go (below_drewN (Below.refl _ _) n)
theorem Bag.drew {w0 w : World} {P : World → Prop} (h : Bag w0 P w) : Bag w0 P w.drew := h.go (Below.refl _ _).drew

/-- A block of two cells. -/
structure Slot2 (w : World) (k : Nat) (x y : Value) : Prop where
  cell : w.cell? ⟨k, 0, none⟩ = some x
  cell1 : w.cell? ⟨k, 1, none⟩ = some y
  free : w.frozen? ⟨k, 0, none⟩ = false
  free1 : w.frozen? ⟨k, 1, none⟩ = false
  lt : k < w.heap.size
theorem Slot2.below {w w' : World} {k : Nat} {x y : Value} (h : Slot2 w k x y) (hb : Below w.heap.size w w') : Slot2 w' k x y :=
  ⟨(hb.cell (p := ⟨k, 0, none⟩) h.lt).trans h.cell, (hb.cell (p := ⟨k, 1, none⟩) h.lt).trans h.cell1, (hb.frozen (p := ⟨k, 0, none⟩) h.lt).trans h.free, (hb.frozen (p := ⟨k, 1, none⟩) h.lt).trans h.free1, Nat.lt_of_lt_of_le h.lt hb.size⟩
theorem Slot2.new (w : World) (x y : Value) (t : TypeId) : Slot2 (w.alloc (.cells #[x, y] t)) w.heap.size x y := by
  refine ⟨?_, ?_, World.frozen?_alloc_new _ _ _ _, World.frozen?_alloc_new _ _ _ _, by rw [World.size_alloc]; omega⟩
  · rw [World.cell?_alloc_new]; rfl
  · rw [World.cell?_alloc_new]; rfl
theorem Bag.slot2 {w0 w : World} {P : World → Prop} {k : Nat} {x z : Value} (h : Bag w0 P w) (q : Slot2 w k x z) : Bag w0 (fun y => Slot2 y k x z ∧ P y) w := h.add (fun _ _ hb q => q.below hb) q
theorem Bag.box2 {w0 w : World} {P : World → Prop} (h : Bag w0 P w) (x z : Value) (t : TypeId) : Bag w0 (fun y => Slot2 y w.heap.size x z ∧ P y) (w.alloc (.cells #[x, z] t)) :=
  (h.alloc _).slot2 (Slot2.new w x z t)

end Go.Proofs.YthklcdcikmninaaGreatDoor

namespace Go.Proofs.YthklcdcikmninaaGreatDoor
open Go.RowKit
attribute [local go_sem ↓] Go.wp_at_zero Go.wp_at_succ

/-- The fields of an integer, read as the number Z: the sign stands for less than 0 alone. -/
def IntAt (w : World) (a : Option Addr) (n c : Nat) (m : Bool) (Z : Int) : Prop := m = decide (Z < 0) ∧ NatIs w (.agg #[.slice a n c]) Z.natAbs
theorem IntAt.below {w w' : World} {a : Option Addr} {n c : Nat} {m : Bool} {Z : Int} (h : IntAt w a n c m Z) (hb : Below w.heap.size w w') : IntAt w' a n c m Z := ⟨h.1, h.2.below hb⟩
def IntTold (w w' : World) (e : Ending) (Z : Int) : Prop := ∃ a n c m, e = .returned (.agg #[.slice a n c, .bool m]) ∧ IntAt w' a n c m Z ∧ Below w.heap.size w w'

/-- A number with a sign. -/
def sgn (b : Bool) (N : Nat) : Int := if b then -(N : Int) else N
theorem sgn_abs (b : Bool) (N : Nat) : (sgn b N).natAbs = N := by unfold sgn; split <;> omega
theorem sgn_neg (b : Bool) (N : Nat) : decide (sgn b N < 0) = (b && !decide (N = 0)) := by
  cases b
  · simp [sgn]
  · by_cases h : N = 0
    · simp [sgn, h]
    · simp [sgn, h]; omega
theorem sgn_self (Z : Int) : sgn (decide (Z < 0)) Z.natAbs = Z := by
  by_cases h : Z < 0
  · rw [decide_eq_true h]; simp [sgn]; omega
  · rw [decide_eq_false h]; simp [sgn]; omega

/-- A natural number told, the value known. -/
def NatTold2 (w w' : World) (e : Ending) (v : Value) (N : Nat) : Prop := e = .returned v ∧ NatIs w' v N ∧ Below w.heap.size w w'

theorem NatIs.storeAt {w : World} {v : Value} {N : Nat} {p : Addr} {x : Value} (h : NatIs w v N) (hs : w.cell? p = some x) (hx : ∀ ki z, x ≠ .int ki z) (u : Value) : NatIs (w.setCell p u) v N := by
  obtain ⟨a, n, c, f, rfl, ⟨h1, h2, h3, h4⟩, hv, ht⟩ := h
  refine ⟨a, n, c, f, rfl, ⟨h1, h2, h3, ?_⟩, hv, ht⟩
  rcases h4 with h4 | ⟨b, off, rfl, hb, hc⟩
  · exact .inl h4
  · refine .inr ⟨b, off, rfl, by simpa using hb, fun j hj => ?_⟩
    rw [World.cell?_setCell_other _ _ _ _ (fun e' => ?_)]
    · exact hc j hj
    · have h5 := hc j hj
      rw [show (⟨b, off + j, none⟩ : Addr) = p from by first | exact e' | exact e'.symm, hs] at h5
      exact hx _ _ (Option.some.inj h5)

/-- An integer's block, written whole. -/
theorem IntTold.done {w w2 : World} {k : Nat} {x : Value} {m0 : Bool} {a : Option Addr} {n c : Nat} {m : Bool} {Z : Int} (hb : Below w.heap.size w w2) (hk : w.heap.size ≤ k) (hs : Slot2 w2 k x (.bool m0)) (hx : ∀ ki z, x ≠ .int ki z) (h : IntAt w2 a n c m Z) :
    IntTold w ((w2.setCell ⟨k, 0, none⟩ (.slice a n c)).setCell ⟨k, 1, none⟩ (.bool m)) (.returned (.agg #[.slice a n c, .bool m])) Z := by
  refine ⟨a, n, c, m, rfl, ⟨h.1, ?_⟩, (hb.setCell hk _).setCell hk _⟩
  refine (h.2.storeAt hs.cell hx _).storeAt (x := .bool m0) ?_ (fun _ _ h => by cases h) _
  rw [World.cell?_setCell_other _ _ _ _ (fun e => by cases e)]
  exact hs.cell1

theorem Slot2.set {w : World} {k : Nat} {x y : Value} (h : Slot2 w k x y) (u v : Value) : ((w.setCell ⟨k, 0, none⟩ u).setCell ⟨k, 1, none⟩ v).cell? ⟨k, 0, none⟩ = some u ∧ ((w.setCell ⟨k, 0, none⟩ u).setCell ⟨k, 1, none⟩ v).cell? ⟨k, 1, none⟩ = some v := by
  refine ⟨?_, ?_⟩
  · rw [World.cell?_setCell_other _ _ _ _ (fun e => by cases e)]
    exact World.cell?_setCell_same _ _ _ h.cell
  · refine World.cell?_setCell_same (u := y) _ _ _ ?_
    rw [World.cell?_setCell_other _ _ _ _ (fun e => by cases e)]
    exact h.cell1

/-- An integer's block, whatever it holds. -/
def RS (y : World) (k : Nat) : Prop := ∃ x b, Slot2 y k x (.bool b) ∧ ∀ ki z, x ≠ .int ki z
theorem RS.below {w w' : World} {k : Nat} (h : RS w k) (hb : Below w.heap.size w w') : RS w' k := by
  obtain ⟨x, b, h1, h2⟩ := h; exact ⟨x, b, h1.below hb, h2⟩
theorem Slot2.rs {w : World} {k : Nat} {a : Option Addr} {n c : Nat} {b : Bool} (h : Slot2 w k (.slice a n c) (.bool b)) : RS w k := ⟨_, _, h, fun _ _ h => by cases h⟩
/-- An integer stored into its block. -/
def putI (y : World) (k : Nat) (a : Option Addr) (n c : Nat) (b : Bool) : World := (y.setCell ⟨k, 0, none⟩ (.slice a n c)).setCell ⟨k, 1, none⟩ (.bool b)
theorem RS.frozen {w : World} {k : Nat} (h : RS w k) : w.frozen? ⟨k, 0, none⟩ = false ∧ w.frozen? ⟨k, 1, none⟩ = false := by
  obtain ⟨x, b, h1, _⟩ := h; exact ⟨h1.free, h1.free1⟩
theorem RS.lt {w : World} {k : Nat} (h : RS w k) : k < w.heap.size := by
  obtain ⟨x, b, h1, _⟩ := h; exact h1.lt
theorem RS.ex {w : World} {k : Nat} (h : RS w k) : (∃ x, w.cell? ⟨k, 0, none⟩ = some x) ∧ ∃ x, w.cell? ⟨k, 1, none⟩ = some x := by
  obtain ⟨x, b, h1, _⟩ := h; exact ⟨⟨_, h1.cell⟩, ⟨_, h1.cell1⟩⟩
theorem RS.cells {w : World} {k : Nat} (h : RS w k) (a : Option Addr) (n c : Nat) (b : Bool) : (putI w k a n c b).cell? ⟨k, 0, none⟩ = some (.slice a n c) ∧ (putI w k a n c b).cell? ⟨k, 1, none⟩ = some (.bool b) := by
  obtain ⟨x, b', h1, _⟩ := h; exact h1.set _ _
theorem RS.slotted {w : World} {k : Nat} (h : RS w k) (a : Option Addr) (n c : Nat) (b : Bool) : Slot2 (putI w k a n c b) k (.slice a n c) (.bool b) := by
  obtain ⟨x, b', h1, _⟩ := h
  exact ⟨(h1.set _ _).1, (h1.set _ _).2, by simp [putI, h1.free], by simp [putI, h1.free1], by simpa [putI] using h1.lt⟩
theorem RS.put {w : World} {k j : Nat} (h : RS w j) (a : Option Addr) (n c : Nat) (b : Bool) : RS (putI w k a n c b) j := by
  obtain ⟨x, b', h1, h2⟩ := h
  by_cases e : j = k
  · subst e
    have := h1.set (.slice a n c) (.bool b)
    exact ⟨_, _, ⟨this.1, this.2, by simp [putI, h1.free], by simp [putI, h1.free1], by simpa [putI] using h1.lt⟩, fun _ _ h => by cases h⟩
  · refine ⟨x, b', ⟨?_, ?_, by simp [putI, h1.free], by simp [putI, h1.free1], by simpa [putI] using h1.lt⟩, h2⟩
    · unfold putI; rw [World.cell?_setCell_other _ _ _ _ (fun e' => by cases e'), World.cell?_setCell_other _ _ _ _ (fun e' => e (by cases e'; rfl))]; exact h1.cell
    · unfold putI; rw [World.cell?_setCell_other _ _ _ _ (fun e' => e (by cases e'; rfl)), World.cell?_setCell_other _ _ _ _ (fun e' => by cases e')]; exact h1.cell1
theorem Slot2.put {w : World} {k j : Nat} {x z : Value} (h1 : Slot2 w j x z) (e : j ≠ k) (a : Option Addr) (n c : Nat) (b : Bool) : Slot2 (putI w k a n c b) j x z := by
  refine ⟨?_, ?_, by simp [putI, h1.free], by simp [putI, h1.free1], by simpa [putI] using h1.lt⟩
  · unfold putI; rw [World.cell?_setCell_other _ _ _ _ (fun e' => by cases e' <;> exact e rfl), World.cell?_setCell_other _ _ _ _ (fun e' => by cases e' <;> exact e rfl)]; exact h1.cell
  · unfold putI; rw [World.cell?_setCell_other _ _ _ _ (fun e' => by cases e' <;> exact e rfl), World.cell?_setCell_other _ _ _ _ (fun e' => by cases e' <;> exact e rfl)]; exact h1.cell1
theorem Slot.put {w : World} {k j : Nat} {x : Value} (h1 : Slot w j x) (e : j ≠ k) (a : Option Addr) (n c : Nat) (b : Bool) : Slot (putI w k a n c b) j x := by
  refine ⟨?_, by simp [putI, h1.free], by simpa [putI] using h1.lt⟩
  unfold putI; rw [World.cell?_setCell_other _ _ _ _ (fun e' => by cases e' <;> exact e rfl), World.cell?_setCell_other _ _ _ _ (fun e' => by cases e' <;> exact e rfl)]; exact h1.cell
theorem NatIs.put {w : World} {k : Nat} {v : Value} {N : Nat} (q : NatIs w v N) (h : RS w k) (a : Option Addr) (n c : Nat) (b : Bool) : NatIs (putI w k a n c b) v N := by
  obtain ⟨x, b', h1, h2⟩ := h
  refine (q.storeAt h1.cell h2 _).storeAt (x := .bool b') ?_ (fun _ _ h => by cases h) _
  rw [World.cell?_setCell_other _ _ _ _ (fun e => by cases e)]
  exact h1.cell1
theorem IntAt.put {w : World} {k : Nat} {a' : Option Addr} {n' c' : Nat} {m : Bool} {Z : Int} (q : IntAt w a' n' c' m Z) (h : RS w k) (a : Option Addr) (n c : Nat) (b : Bool) : IntAt (putI w k a n c b) a' n' c' m Z := ⟨q.1, q.2.put h a n c b⟩
theorem Bag.put {w0 w : World} {P : World → Prop} (h : Bag w0 P w) {k : Nat} (hk : w0.heap.size ≤ k) {a : Option Addr} {n c : Nat} {b : Bool} (hp : P w → P (putI w k a n c b)) : Bag w0 P (putI w k a n c b) :=
  ⟨(h.below.setCell hk _).setCell hk _, h.stay, hp h.now⟩
theorem IntTold.fin {w w2 : World} {k : Nat} {a : Option Addr} {n c : Nat} {m : Bool} {Z : Int} (hb : Below w.heap.size w w2) (hk : w.heap.size ≤ k) (hs : RS w2 k) (h : IntAt w2 a n c m Z) :
    IntTold w (putI w2 k a n c m) (.returned (.agg #[.slice a n c, .bool m])) Z :=
  ⟨a, n, c, m, rfl, h.put hs a n c m, (hb.setCell hk _).setCell hk _⟩

set_option maxHeartbeats 800000 in
set_option maxRecDepth 100000 in
theorem wof_any (b : Bool) (a : Option Addr) (n c N : Nat) (w : World) (h : NatIs w (.agg #[.slice a n c]) N) :
    Calls Tryz.prog 36 #[.bool b, .agg #[.slice a n c]] w fun e w' => IntTold w w' e (sgn b N) := by
  cases b with
  | false =>
    have HE : Hid (IntTold w ((w.alloc (.cells #[.slice a n c] 26)).alloc (.cells #[.slice a n c, .bool false] 28)).drew (.returned (.agg #[.slice a n c, .bool false])) (sgn false N)) :=
      have B0 := (((Bag.start w).nat h).alloc (.cells #[.slice a n c] 26)).box2 (.slice a n c) (.bool false) 28
      ⟨a, n, c, false, rfl, ⟨by rw [sgn_neg]; rfl, by rw [sgn_abs]; exact B0.drew.now.2.1⟩, B0.drew.below⟩
    clear h
    go_enter Tryz.func36, Tryz.ntmps36
    go_wp2_with fail
    go_region
    all_goals
      go_wp2
      exact bodyPost_ret (v := .agg #[.slice a n c, .bool false]) (by simp [results, Tryz.results36, go_sem]) rfl HE.out
  | true =>
    have B0 := (((Bag.start w).nat h).box (.slice a n c) 26).box2 (.slice none 0 0) (.bool false) 28
    rw [World.size_alloc] at B0
    have BB := Lib.hid B0.drew
    have HZ := Lib.hid (zero_any _ N _ B0.drew.now.2.2.1)
    have q0 := B0.now.2.1.cell
    have HI : Hid (∀ wz, NatIs wz (.agg #[.slice a n c]) N → IntAt wz a n c (!decide (N = 0)) (sgn true N)) := fun wz hz => ⟨by rw [sgn_neg]; rfl, by rw [sgn_abs]; exact hz⟩
    obtain ⟨m, hm⟩ : ∃ m, (!decide (N = 0)) = m := ⟨_, rfl⟩
    obtain ⟨z, hz⟩ : ∃ z, decide (N = 0) = z := ⟨_, rfl⟩
    rw [hm] at HI
    rw [hz] at HZ hm
    subst hm
    clear B0 h hz
    go_enter Tryz.func36, Tryz.ntmps36
    go_wp2_with fail
    go_region_with (go_at_call 35; refine HZ.out.mono ?_; rintro e w2 ⟨rfl, hb2⟩; have B2 := BB.out.go hb2; have hq := B2.now.2.1.cell; have hs2 := B2.now.1; have hc1 := hs2.cell; have hc2 := hs2.cell1; have hf1 := hs2.free; have hf2 := hs2.free1; have HS := hs2.set (.slice a n c) (.bool (!z)); have HE := Lib.hid (IntTold.done B2.below (by omega) hs2 (fun _ _ h => by cases h) (HI.out _ B2.now.2.2.1)); clear hb2 B2 hs2)
    all_goals
      go_wp2
      exact bodyPost_ret (v := .agg #[.slice a n c, .bool (!z)]) (by simp [results, Tryz.results36, go_sem, HS]) rfl HE.out

end Go.Proofs.YthklcdcikmninaaGreatDoor

namespace Go.Proofs.YthklcdcikmninaaGreatDoor
open Go.RowKit
attribute [local go_sem ↓] Go.wp_at_zero Go.wp_at_succ

theorem Bag.int {w0 w : World} {P : World → Prop} {a : Option Addr} {n c : Nat} {m : Bool} {Z : Int} (h : Bag w0 P w) (q : IntAt w a n c m Z) : Bag w0 (fun y => IntAt y a n c m Z ∧ P y) w := h.add (fun _ _ hb q => q.below hb) q

set_option maxHeartbeats 800000 in
set_option maxRecDepth 100000 in
theorem neg_any (a : Option Addr) (n c : Nat) (m : Bool) (Z : Int) (w : World) (h : IntAt w a n c m Z) :
    Calls Tryz.prog 37 #[.agg #[.slice a n c, .bool m]] w fun e w' => e = .returned (.bool m) ∧ Below w.heap.size w w' := by
  have B0 := ((Bag.start w).nat h.2).box2 (.slice a n c) (.bool m) 28
  have q0 := B0.now.1.cell
  have q1 := B0.now.1.cell1
  have hz := zero_any _ _ _ B0.now.2.1
  have BB := Lib.hid B0
  cases m with
  | false =>
    clear h B0 hz
    go_enter Tryz.func37, Tryz.ntmps37
    go_wp2
    go_ret
    exact ⟨rfl, BB.out.below⟩
  | true =>
    have h0 : decide (Z.natAbs = 0) = false := by
      have := h.1
      rw [decide_eq_false]
      have h2 := of_decide_eq_true this.symm
      omega
    rw [h0] at hz
    have HZ := Lib.hid hz
    clear h B0 h0 hz
    go_enter Tryz.func37, Tryz.ntmps37
    go_wp2_with (go_at_call 35; refine HZ.out.mono ?_; rintro e w2 ⟨rfl, hb2⟩; have HB := Lib.hid (BB.out.go hb2).below; clear hb2)
    go_ret
    exact ⟨rfl, HB.out⟩

set_option maxRecDepth 100000 in
theorem size_any (a : Option Addr) (n c : Nat) (m : Bool) (Z : Int) (w : World) (h : IntAt w a n c m Z) :
    Calls Tryz.prog 38 #[.agg #[.slice a n c, .bool m]] w fun e w' => NatTold2 w w' e (.agg #[.slice a n c]) Z.natAbs := by
  have B0 := (((Bag.start w).nat h.2).box2 (.slice a n c) (.bool m) 28).alloc (.cells #[.slice a n c] 26)
  have HE : Hid (NatTold2 w ((w.alloc (.cells #[.slice a n c, .bool m] 28)).alloc (.cells #[.slice a n c] 26)) (.returned (.agg #[.slice a n c])) (.agg #[.slice a n c]) Z.natAbs) := ⟨rfl, B0.now.2.1, B0.below⟩
  clear h B0
  go_enter Tryz.func38, Tryz.ntmps38
  go_wp2
  exact bodyPost_ret (v := .agg #[.slice a n c]) (by simp [results, Tryz.results38, go_sem]) rfl HE.out

def sgnI (Z : Int) : Int := if Z < 0 then -1 else if Z = 0 then 0 else 1

set_option maxHeartbeats 800000 in
set_option maxRecDepth 100000 in
theorem sign_any (a : Option Addr) (n c : Nat) (m : Bool) (Z : Int) (w : World) (h : IntAt w a n c m Z) :
    Calls Tryz.prog 29 #[.agg #[.slice a n c, .bool m]] w fun e w' => e = .returned (.int .i64 (sgnI Z)) ∧ Below w.heap.size w w' := by
  have B0 := ((Bag.start w).int h).box2 (.slice a n c) (.bool m) 28
  have q0 := B0.now.1.cell
  have q1 := B0.now.1.cell1
  have hz := zero_any _ _ _ B0.now.2.1.2
  have BB := Lib.hid B0
  by_cases h0 : Z = 0
  · have d0 : decide (Z.natAbs = 0) = true := decide_eq_true (by omega)
    rw [d0] at hz
    have HZ := Lib.hid hz
    have HE : Hid (sgnI Z = 0) := by show _ = _; unfold sgnI; rw [if_neg (by omega), if_pos h0]
    clear h B0 h0 d0 hz
    go_enter Tryz.func29, Tryz.ntmps29
    go_wp2_with (go_at_call 35; refine HZ.out.mono ?_; rintro e w2 ⟨rfl, hb2⟩; have HB := Lib.hid (BB.out.go hb2).below; clear hb2)
    go_ret
    exact ⟨ret_int HE.out.symm, HB.out⟩
  · have d0 : decide (Z.natAbs = 0) = false := decide_eq_false (by omega)
    rw [d0] at hz
    have HZ := Lib.hid hz
    have HM := Lib.hid h.1
    have HE : Hid (sgnI Z = if m then -1 else 1) := by
      show _ = _
      rw [h.1]; unfold sgnI
      by_cases h2 : Z < 0
      · rw [if_pos h2, decide_eq_true h2]; rfl
      · rw [if_neg h2, if_neg h0, decide_eq_false h2]; rfl
    clear h B0 h0 d0 hz
    go_enter Tryz.func29, Tryz.ntmps29
    go_wp2_with fail
    go_at_call 35
    refine HZ.out.mono ?_
    rintro e w2 ⟨rfl, hb2⟩
    have B2 := Lib.hid (BB.out.go hb2)
    clear hb2 q0 q1
    have q0 := B2.out.now.1.cell
    have q1 := B2.out.now.1.cell1
    go_wp2_with fail
    go_at_call 37
    refine (neg_any a n c m Z _ B2.out.now.2.1).mono ?_
    rintro e w3 ⟨rfl, hb3⟩
    have B3 := Lib.hid (B2.out.go hb3)
    clear hb3 q0 q1
    cases m
    all_goals
      go_wp2
      go_ret
      exact ⟨ret_int HE.out.symm, B3.out.below⟩

set_option maxHeartbeats 1600000 in
set_option maxRecDepth 100000 in
theorem minus_any (a : Option Addr) (n c : Nat) (m : Bool) (Z : Int) (w : World) (h : IntAt w a n c m Z) :
    Calls Tryz.prog 26 #[.agg #[.slice a n c, .bool m]] w fun e w' => IntTold w w' e (-Z) := by
  have B0 := (((Bag.start w).int h).box2 (.slice a n c) (.bool m) 28).box2 (.slice none 0 0) (.bool false) 28
  rw [World.size_alloc] at B0
  have q0 := B0.now.2.1.cell
  have q1 := B0.now.2.1.cell1
  have BB := Lib.hid B0.drew
  have NG : Hid (∀ wz, IntAt wz a n c m Z → Calls Tryz.prog 37 #[.agg #[.slice a n c, .bool m]] wz fun e w' => e = .returned (.bool m) ∧ Below wz.heap.size wz w') := fun wz hz => neg_any a n c m Z wz hz
  have OF : Hid (∀ wz, IntAt wz a n c m Z → Calls Tryz.prog 36 #[.bool (!m), .agg #[.slice a n c]] wz fun e w' => IntTold wz w' e (-Z)) := by
    intro wz hz
    have h1 := wof_any (!m) a n c _ wz hz.2
    have e : sgn (!m) Z.natAbs = -Z := by
      rw [h.1]
      by_cases h2 : Z < 0
      · rw [decide_eq_true h2]; simp [sgn]; omega
      · rw [decide_eq_false h2]; simp [sgn]; omega
    rw [e] at h1
    exact h1
  clear h B0
  go_enter Tryz.func26, Tryz.ntmps26
  go_wp2_with fail
  go_region_with (first
    | (go_at_call 37; refine (NG.out _ BB.out.now.2.2.1).mono ?_; rintro e w2 ⟨rfl, hb2⟩; have BB := Lib.hid (BB.out.go hb2); have q0 := BB.out.now.2.1.cell; have q1 := BB.out.now.2.1.cell1; clear hb2)
    | (go_at_call 36; refine (OF.out _ BB.out.now.2.2.1).mono ?_; rintro e w2 ⟨a3, n3, c3, m3, rfl, hi3, hb2⟩; have B2 := BB.out.go hb2; have hs2 := B2.now.1; have hc1 := hs2.cell; have hc2 := hs2.cell1; have hf1 := hs2.free; have hf2 := hs2.free1; have HS := hs2.set (.slice a3 n3 c3) (.bool m3); have HE := Lib.hid (IntTold.done B2.below (by omega) hs2 (fun _ _ h => by cases h) hi3); clear hb2 B2 hs2 hi3))
  all_goals
    go_wp2
    exact bodyPost_ret (v := _) (by simp [results, Tryz.results26, go_sem, HS]) rfl HE.out

end Go.Proofs.YthklcdcikmninaaGreatDoor

namespace Go.Proofs.YthklcdcikmninaaGreatDoor
open Go.RowKit
attribute [local go_sem ↓] Go.wp_at_zero Go.wp_at_succ

def digS (Z : Int) (sg : ByteArray) : ByteArray := if Z < 0 then sg ++ str (dec Z.natAbs) else str (dec Z.natAbs)

def cmpZ (Z Y : Int) : Int := if Z < Y then -1 else if Z = Y then 0 else 1

set_option maxHeartbeats 1600000 in
set_option maxRecDepth 100000 in
theorem icmp_any (a : Option Addr) (n c : Nat) (m : Bool) (Z : Int) (a2 : Option Addr) (n2 c2 : Nat) (m2 : Bool) (Y : Int) (w : World) (h : IntAt w a n c m Z) (g : IntAt w a2 n2 c2 m2 Y) :
    Calls Tryz.prog 28 #[.agg #[.slice a n c, .bool m], .agg #[.slice a2 n2 c2, .bool m2]] w fun e w' => e = .returned (.int .i64 (cmpZ Z Y)) ∧ Below w.heap.size w w' := by
  have B0 := ((((Bag.start w).int h).int g).box2 (.slice a n c) (.bool m) 28).box2 (.slice a2 n2 c2) (.bool m2) 28
  rw [World.size_alloc] at B0
  have q0 := B0.now.2.1.cell
  have q1 := B0.now.2.1.cell1
  have q2 := B0.now.1.cell
  have q3 := B0.now.1.cell1
  have BB := Lib.hid B0
  have N1 : Hid (∀ wz, IntAt wz a n c m Z → Calls Tryz.prog 37 #[.agg #[.slice a n c, .bool m]] wz fun e w' => e = .returned (.bool m) ∧ Below wz.heap.size wz w') := fun wz hz => neg_any a n c m Z wz hz
  have N2 : Hid (∀ wz, IntAt wz a2 n2 c2 m2 Y → Calls Tryz.prog 37 #[.agg #[.slice a2 n2 c2, .bool m2]] wz fun e w' => e = .returned (.bool m2) ∧ Below wz.heap.size wz w') := fun wz hz => neg_any a2 n2 c2 m2 Y wz hz
  have HE : Hid (cmpZ Z Y = if m then (if m2 then cmpI Y.natAbs Z.natAbs else -1) else (if m2 then 1 else cmpI Z.natAbs Y.natAbs)) := by
    show _ = _
    rw [h.1, g.1]; unfold cmpZ cmpI
    by_cases h2 : Z < 0
    · by_cases h3 : Y < 0
      · rw [decide_eq_true h2, decide_eq_true h3]; simp only [if_true]; (repeat' split) <;> omega
      · rw [decide_eq_true h2, decide_eq_false h3, if_pos (by omega)]; rfl
    · by_cases h3 : Y < 0
      · rw [decide_eq_false h2, decide_eq_true h3, if_neg (by omega), if_neg (by omega)]; rfl
      · rw [decide_eq_false h2, decide_eq_false h3]; simp only [Bool.false_eq_true, if_false]; (repeat' split) <;> omega
  have CM : Hid (∀ wz, IntAt wz a n c m Z → IntAt wz a2 n2 c2 m2 Y → Calls Tryz.prog 50 #[.agg #[.slice a n c], .agg #[.slice a2 n2 c2]] wz fun e w' => e = .returned (.int .i64 (cmpI Z.natAbs Y.natAbs)) ∧ Below wz.heap.size wz w') := fun wz hz hy => cmp_any _ _ _ _ wz hz.2 hy.2
  have CN : Hid (∀ wz, IntAt wz a n c m Z → IntAt wz a2 n2 c2 m2 Y → Calls Tryz.prog 50 #[.agg #[.slice a2 n2 c2], .agg #[.slice a n c]] wz fun e w' => e = .returned (.int .i64 (cmpI Y.natAbs Z.natAbs)) ∧ Below wz.heap.size wz w') := fun wz hz hy => cmp_any _ _ _ _ wz hy.2 hz.2
  clear h g B0
  go_enter Tryz.func28, Tryz.ntmps28
  go_wp2_with fail
  go_at_call 37
  refine (N1.out _ BB.out.now.2.2.2.1).mono ?_
  rintro e w2 ⟨rfl, hb2⟩
  have BB := Lib.hid (BB.out.go hb2)
  clear hb2 q0 q1 q2 q3
  have q0 := BB.out.now.2.1.cell
  have q1 := BB.out.now.2.1.cell1
  have q2 := BB.out.now.1.cell
  have q3 := BB.out.now.1.cell1
  cases m with
  | true =>
    go_wp2_with fail
    go_at_call 37
    refine (N2.out _ BB.out.now.2.2.1).mono ?_
    rintro e w3 ⟨rfl, hb2⟩
    have BB := Lib.hid (BB.out.go hb2)
    clear hb2 q0 q1 q2 q3
    have q0 := BB.out.now.2.1.cell
    have q1 := BB.out.now.2.1.cell1
    have q2 := BB.out.now.1.cell
    have q3 := BB.out.now.1.cell1
    cases m2 with
    | true =>
      go_wp2_with fail
      go_at_call 50
      refine (CN.out _ BB.out.now.2.2.2.1 BB.out.now.2.2.1).mono ?_
      rintro e w4 ⟨rfl, hb2⟩
      have BB := Lib.hid (BB.out.go hb2)
      clear hb2 q0 q1 q2 q3
      go_wp2
      go_ret
      exact ⟨ret_int HE.out.symm, BB.out.below⟩
    | false =>
      go_wp2_with fail
      go_at_call 37
      refine (N1.out _ BB.out.now.2.2.2.1).mono ?_
      rintro e w4 ⟨rfl, hb2⟩
      have BB := Lib.hid (BB.out.go hb2)
      clear hb2 q0 q1 q2 q3
      go_wp2
      go_ret
      exact ⟨ret_int HE.out.symm, BB.out.below⟩
  | false =>
    go_wp2_with fail
    go_at_call 37
    refine (N1.out _ BB.out.now.2.2.2.1).mono ?_
    rintro e w3 ⟨rfl, hb2⟩
    have BB := Lib.hid (BB.out.go hb2)
    clear hb2 q0 q1 q2 q3
    have q0 := BB.out.now.2.1.cell
    have q1 := BB.out.now.2.1.cell1
    have q2 := BB.out.now.1.cell
    have q3 := BB.out.now.1.cell1
    go_wp2_with fail
    go_at_call 37
    refine (N2.out _ BB.out.now.2.2.1).mono ?_
    rintro e w4 ⟨rfl, hb2⟩
    have BB := Lib.hid (BB.out.go hb2)
    clear hb2 q0 q1 q2 q3
    have q0 := BB.out.now.2.1.cell
    have q1 := BB.out.now.2.1.cell1
    have q2 := BB.out.now.1.cell
    have q3 := BB.out.now.1.cell1
    cases m2 with
    | true =>
      go_wp2
      go_ret
      exact ⟨ret_int HE.out.symm, BB.out.below⟩
    | false =>
      go_wp2_with fail
      go_at_call 50
      refine (CM.out _ BB.out.now.2.2.2.1 BB.out.now.2.2.1).mono ?_
      rintro e w5 ⟨rfl, hb2⟩
      have BB := Lib.hid (BB.out.go hb2)
      clear hb2 q0 q1 q2 q3
      go_wp2
      go_ret
      exact ⟨ret_int HE.out.symm, BB.out.below⟩

theorem of_pl2 (x : Nat) (w : World) (hx : x < 18446744073709551616) : Calls Tryz.prog 39 #[.int .u64 x] w fun e w' => ∃ a n c, e = .returned (.agg #[.slice a n c]) ∧ NatIs w' (.agg #[.slice a n c]) x ∧ Below w.heap.size w w' :=
  (of_any x w hx).mono fun _ _ ⟨v, h1, ⟨a, n, c, f, h2, h3, h4, h5⟩, h6⟩ => ⟨a, n, c, by rw [h1, h2], ⟨a, n, c, f, rfl, h3, h4, h5⟩, h6⟩

set_option maxHeartbeats 1600000 in
set_option maxRecDepth 100000 in
theorem from_any (X : Int) (w : World) (h : -9223372036854775808 ≤ X ∧ X ≤ 9223372036854775807) :
    Calls Tryz.prog 16 #[.int .i64 X] w fun e w' => IntTold w w' e X := by
  have B0 := Lib.hid ((Bag.start w).box2 (.slice none 0 0) (.bool false) 28)
  by_cases h0 : X < 0
  · obtain ⟨y, hy⟩ : ∃ y : Nat, (y : Int) = -X := ⟨(-X).toNat, by omega⟩
    have d0 : decide (X < 0) = true := decide_eq_true h0
    have e2 : IntKind.u64.wrap (-IntKind.u64.wrap X) = (y : Int) := by
      rw [IntKind.wrap_u64, IntKind.wrap_u64]; omega
    have hyl : y < 18446744073709551616 := by omega
    have HZ : Hid (sgn true y = X) := by show _ = _; unfold sgn; simp; omega
    have HO : Hid (∀ wz, Calls Tryz.prog 39 #[.int .u64 y] wz fun e w' => ∃ a n c, e = .returned (.agg #[.slice a n c]) ∧ NatIs w' (.agg #[.slice a n c]) y ∧ Below wz.heap.size wz w') := fun wz => of_pl2 y wz hyl
    clear hy h
    go_enter Tryz.func16, Tryz.ntmps16
    go_wp2_with fail
    go_at_call 39
    refine (HO.out _).mono ?_
    rintro e w2 ⟨a2, n2, c2, rfl, hi2, hb2⟩
    have BB := Lib.hid ((B0.out.go hb2).nat hi2)
    clear hi2 hb2
    go_wp2_with fail
    go_at_call 36
    refine (wof_any true a2 n2 c2 y _ BB.out.now.1).mono ?_
    rintro e w3 ⟨a3, n3, c3, m3, rfl, hi3, hb3⟩
    rw [HZ.out] at hi3
    have B3 := BB.out.go hb3
    have hs2 := B3.now.2.1
    have hc1 := hs2.cell
    have hc2 := hs2.cell1
    have hf1 := hs2.free
    have hf2 := hs2.free1
    have HS := hs2.set (.slice a3 n3 c3) (.bool m3)
    have HE := Lib.hid (IntTold.done B3.below (Nat.le_refl _) hs2 (fun _ _ h => by cases h) hi3)
    clear hb3 B3 hs2 hi3
    go_wp2
    exact bodyPost_ret (v := _) (by simp [results, Tryz.results16, go_sem, HS]) rfl HE.out
  · obtain ⟨y, rfl⟩ : ∃ y : Nat, X = (y : Int) := ⟨X.toNat, by omega⟩
    have d0 : decide ((y : Int) < 0) = false := decide_eq_false h0
    have hyl : y < 18446744073709551616 := by omega
    have HZ : Hid (sgn false y = (y : Int)) := by show _ = _; unfold sgn; simp
    have HO : Hid (∀ wz, Calls Tryz.prog 39 #[.int .u64 y] wz fun e w' => ∃ a n c, e = .returned (.agg #[.slice a n c]) ∧ NatIs w' (.agg #[.slice a n c]) y ∧ Below wz.heap.size wz w') := fun wz => of_pl2 y wz hyl
    have hy2 : (y : Int) ≤ 9223372036854775807 := h.2
    clear h
    go_enter Tryz.func16, Tryz.ntmps16
    go_wp2_with fail
    go_at_call 39
    refine (HO.out _).mono ?_
    rintro e w2 ⟨a2, n2, c2, rfl, hi2, hb2⟩
    have BB := Lib.hid ((B0.out.go hb2).nat hi2)
    clear hi2 hb2
    go_wp2_with fail
    go_at_call 36
    refine (wof_any false a2 n2 c2 y _ BB.out.now.1).mono ?_
    rintro e w3 ⟨a3, n3, c3, m3, rfl, hi3, hb3⟩
    rw [HZ.out] at hi3
    have B3 := BB.out.go hb3
    have hs2 := B3.now.2.1
    have hc1 := hs2.cell
    have hc2 := hs2.cell1
    have hf1 := hs2.free
    have hf2 := hs2.free1
    have HS := hs2.set (.slice a3 n3 c3) (.bool m3)
    have HE := Lib.hid (IntTold.done B3.below (Nat.le_refl _) hs2 (fun _ _ h => by cases h) hi3)
    clear hb3 B3 hs2 hi3
    go_wp2
    exact bodyPost_ret (v := _) (by simp [results, Tryz.results16, go_sem, HS]) rfl HE.out

/-- The number, if it fits 64 bits. -/
def fitB (Z : Int) : Bool := decide (-9223372036854775808 ≤ Z ∧ Z ≤ 9223372036854775807)
def fitI (Z : Int) : Int := if fitB Z then Z else 0

theorem ret_ib {k : IntKind} {a b : Int} {x y : Bool} (h : a = b) (h' : x = y) : Ending.returned (.tuple #[.int k a, .bool x]) = .returned (.tuple #[.int k b, .bool y]) := by rw [h, h']

end Go.Proofs.YthklcdcikmninaaGreatDoor

namespace Go.Proofs.YthklcdcikmninaaGreatDoor
open Go.RowKit

theorem dec_small {N : Nat} (h : N < 10) : dec N = [UInt8.ofNat (48 + N)] := by
  have : dl N = 1 := by unfold dl; rw [dif_pos h]
  unfold dec; rw [this, sdig, sdig]
  unfold dgt
  rw [Nat.pow_zero, Nat.div_one, Nat.mod_eq_of_lt h]

/-- A number that is told, its value's parts named. -/
def NatTold (w w' : World) (e : Ending) (N : Nat) : Prop := ∃ a n c, e = .returned (.agg #[.slice a n c]) ∧ NatIs w' (.agg #[.slice a n c]) N ∧ Below w.heap.size w w'
theorem NatOut.told {w w' : World} {e : Ending} {N : Nat} (h : NatOut w w' e N) : NatTold w w' e N := by
  obtain ⟨v, rfl, hv, hb⟩ := h
  obtain ⟨a, n, c, f, rfl, hs, hv, ht⟩ := hv
  exact ⟨a, n, c, rfl, ⟨a, n, c, f, rfl, hs, hv, ht⟩, hb⟩
theorem NatIs.alloc {w : World} {v : Value} {N : Nat} (h : NatIs w v N) (o : Obj) : NatIs (w.alloc o) v N := h.below ((Below.refl _ _).alloc (Nat.le_refl _) _)

theorem of_told (x : Nat) (w : World) (hx : x < 18446744073709551616) : Calls Tryz.prog 39 #[.int .u64 x] w fun e w' => NatTold w w' e x :=
  (of_any x w hx).mono fun _ _ h => h.told

def Parse7 (w w' : World) (e : Ending) : Prop := ∃ a n c, e = .returned (.tuple #[.agg #[.slice a n c], .bool true]) ∧ NatIs w' (.agg #[.slice a n c]) 7 ∧ Below w.heap.size w w'
theorem parse7 (w : World) : Calls Tryz.prog 56 #[.string ⟨#[48, 48, 55]⟩] w fun e w' => Parse7 w w' e := by
  refine (parse_any ⟨#[48, 48, 55]⟩ w (by unfold maxLen; decide)).mono ?_
  rintro e w' ⟨a, n, c, rfl, hv, _, hb⟩
  have h1 : okB (⟨#[48, 48, 55]⟩ : ByteArray).data.toList = true := by decide
  have h2 : numOf (⟨#[48, 48, 55]⟩ : ByteArray).data.toList = 7 := by decide
  rw [h1, if_pos rfl, h2] at hv
  exact ⟨a, n, c, by rw [h1], hv, hb⟩

def Div104 (w w' : World) (e : Ending) : Prop := ∃ a n c a2 n2 c2, e = .returned (.tuple #[.agg #[.slice a n c], .agg #[.slice a2 n2 c2], .bool true]) ∧ NatIs w' (.agg #[.slice a n c]) 2 ∧ NatIs w' (.agg #[.slice a2 n2 c2]) 2 ∧ Below w.heap.size w w'
theorem div104 (v u : Value) (w : World) (h : NatIs w v 10) (g : NatIs w u 4) : Calls Tryz.prog 45 #[v, u] w fun e w' => Div104 w w' e := by
  refine (divMod_any v u 10 4 w h g 1 (by omega) (by rw [Nat.pow_one]; omega)).mono ?_
  rintro e w' ⟨x, y, rfl, hx, hy, hb⟩
  obtain ⟨a, n, c, f, rfl, hs, hv, ht⟩ := hx
  obtain ⟨a2, n2, c2, f2, rfl, hs2, hv2, ht2⟩ := hy
  exact ⟨a, n, c, a2, n2, c2, rfl, ⟨a, n, c, f, rfl, hs, hv, ht⟩, ⟨a2, n2, c2, f2, rfl, hs2, hv2, ht2⟩, hb⟩

theorem text7 (v : Value) (w : World) (h : NatIs w v 7) : Calls Tryz.prog 30 #[v] w fun e w' => e = .returned (.string ⟨#[55]⟩) ∧ Below w.heap.size w w' := by
  refine (text_any v 7 w h 1 (by omega) (by rw [Nat.pow_one]; omega)).mono ?_
  rintro e w' ⟨rfl, hb⟩
  exact ⟨by rw [dec_small (by omega)]; rfl, hb⟩
theorem text2 (v : Value) (w : World) (h : NatIs w v 2) : Calls Tryz.prog 30 #[v] w fun e w' => e = .returned (.string ⟨#[50]⟩) ∧ Below w.heap.size w w' := by
  refine (text_any v 2 w h 1 (by omega) (by rw [Nat.pow_one]; omega)).mono ?_
  rintro e w' ⟨rfl, hb⟩
  exact ⟨by rw [dec_small (by omega)]; rfl, hb⟩
theorem limbs33 (v : Value) (w : World) (h : NatIs w v 4294967296) : Calls Tryz.prog 75 #[v] w fun e w' => e = .returned (.int .i64 2) ∧ Below w.heap.size w w' := by
  refine (limbs_any v _ w h).mono ?_
  rintro e w' ⟨n, rfl, _, h0, h1, hb⟩
  refine ⟨?_, hb⟩
  obtain ⟨h2, h3⟩ := h1.out
  have : n = 2 := by
    rcases Nat.lt_or_ge n 2 with h4 | h4
    · have := pow_mono32 (show n ≤ 1 by omega)
      rw [Nat.pow_one] at this; omega
    · rcases Nat.lt_or_ge 2 n with h5 | h5
      · have := h3 (by omega)
        have h6 := pow_mono32 (show 2 ≤ n - 1 by omega)
        have e : (4294967296 : Nat) ^ 2 = 18446744073709551616 := by decide
        omega
      · omega
  rw [this]; rfl
theorem bits33 (v : Value) (w : World) (h : NatIs w v 4294967296) : Calls Tryz.prog 89 #[v] w fun e w' => e = .returned (.int .i64 33) ∧ Below w.heap.size w w' := by
  refine (bits_any v _ w h).mono ?_
  rintro e w' ⟨rfl, hb⟩
  exact ⟨by rw [nbits_eq (b := 32) (by decide) (by decide)]; rfl, hb⟩

end Go.Proofs.YthklcdcikmninaaGreatDoor

