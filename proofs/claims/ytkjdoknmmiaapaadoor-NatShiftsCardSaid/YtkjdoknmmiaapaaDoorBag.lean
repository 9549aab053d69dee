/-
  A bag of facts on a world, each kept by every call that turns nothing old: one line behind each call.
-/
import Derived.Test.YtkjdoknmmiaapaaDoorNat17
namespace Go.Proofs.YtkjdoknmmiaapaaDoor
open Go.RowKit

structure Bag (w0 : World) (P : World → Prop) (w : World) : Prop where
  below : Below w0.heap.size w0 w
  stay : ∀ a b, Below a.heap.size a b → P a → P b
  now : P w

theorem Bag.start (w : World) : Bag w (fun _ => True) w := ⟨Below.refl _ _, fun _ _ _ _ => trivial, trivial⟩
theorem Bag.go {w0 w w' : World} {P : World → Prop} (h : Bag w0 P w) (hb : Below w.heap.size w w') : Bag w0 P w' :=
  ⟨h.below.trans (hb.mono h.below.size), h.stay, h.stay _ _ hb h.now⟩
theorem Bag.add {w0 w : World} {P Q : World → Prop} (h : Bag w0 P w) (hs : ∀ a b, Below a.heap.size a b → Q a → Q b) (q : Q w) : Bag w0 (fun x => Q x ∧ P x) w :=
  ⟨h.below, fun a b hb ⟨h1, h2⟩ => ⟨hs a b hb h1, h.stay a b hb h2⟩, q, h.now⟩
theorem Bag.nat {w0 w : World} {P : World → Prop} {v : Value} {N : Nat} (h : Bag w0 P w) (q : NatIs w v N) : Bag w0 (fun x => NatIs x v N ∧ P x) w := h.add (fun _ _ hb q => q.below hb) q
theorem Bag.alloc {w0 w : World} {P : World → Prop} (h : Bag w0 P w) (o : Obj) : Bag w0 P (w.alloc o) := h.go ((Below.refl _ _).alloc (Nat.le_refl _) _)
theorem Bag.slot {w0 w : World} {P : World → Prop} {k : Nat} {x : Value} (h : Bag w0 P w) (q : Slot w k x) : Bag w0 (fun y => Slot y k x ∧ P y) w := h.add (fun _ _ hb q => q.below hb) q
theorem Bag.box {w0 w : World} {P : World → Prop} (h : Bag w0 P w) (x : Value) (t : TypeId) : Bag w0 (fun y => Slot y w.heap.size x ∧ P y) (w.alloc (.cells #[x] t)) :=
  (h.alloc _).slot (Slot.new w x t)
theorem Bag.drewN {w0 w : World} {P : World → Prop} (h : Bag w0 P w) (n : Nat) : Bag w0 P (w.drewN n) := h.go (below_drewN (Below.refl _ _) n)
theorem Bag.drew {w0 w : World} {P : World → Prop} (h : Bag w0 P w) : Bag w0 P w.drew := h.go (Below.refl _ _).drew

/-- A block of two cells. -/
structure Slot2 (w : World) (k : Nat) (x y : Value) : Prop where
  cell : w.cell? ⟨k, 0, none⟩ = some x
  cell1 : w.cell? ⟨k, 1, none⟩ = some y
  free : w.frozen? ⟨k, 0, none⟩ = false
  free1 : w.frozen? ⟨k, 1, none⟩ = false
  lt : k < w.heap.size
theorem Slot2.below {w w' : World} {k : Nat} {x y : Value} (h : Slot2 w k x y) (hb : Below w.heap.size w w') : Slot2 w' k x y :=
  ⟨(hb.cell (p := ⟨k, 0, none⟩) h.lt).trans h.cell, (hb.cell (p := ⟨k, 1, none⟩) h.lt).trans h.cell1, (hb.frozen (p := ⟨k, 0, none⟩) h.lt).trans h.free, (hb.frozen (p := ⟨k, 1, none⟩) h.lt).trans h.free1, Nat.lt_of_lt_of_le h.lt hb.size⟩
theorem Slot2.new (w : World) (x y : Value) (t : TypeId) : Slot2 (w.alloc (.cells #[x, y] t)) w.heap.size x y := by
  refine ⟨?_, ?_, World.frozen?_alloc_new _ _ _ _, World.frozen?_alloc_new _ _ _ _, by rw [World.size_alloc]; omega⟩
  · rw [World.cell?_alloc_new]; rfl
  · rw [World.cell?_alloc_new]; rfl
theorem Bag.slot2 {w0 w : World} {P : World → Prop} {k : Nat} {x z : Value} (h : Bag w0 P w) (q : Slot2 w k x z) : Bag w0 (fun y => Slot2 y k x z ∧ P y) w := h.add (fun _ _ hb q => q.below hb) q
theorem Bag.box2 {w0 w : World} {P : World → Prop} (h : Bag w0 P w) (x z : Value) (t : TypeId) : Bag w0 (fun y => Slot2 y w.heap.size x z ∧ P y) (w.alloc (.cells #[x, z] t)) :=
  (h.alloc _).slot2 (Slot2.new w x z t)

end Go.Proofs.YtkjdoknmmiaapaaDoor
