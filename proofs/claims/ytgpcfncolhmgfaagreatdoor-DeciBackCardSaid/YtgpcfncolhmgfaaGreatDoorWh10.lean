/-
  Package whole: Floor, by contract: signs apart, something left.
-/
import Derived.Test.YtgpcfncolhmgfaaGreatDoorK7
import Derived.Test.YtgpcfncolhmgfaaGreatDoorK6
namespace Go.Proofs.YtgpcfncolhmgfaaGreatDoor
open Go.RowKit
attribute [local go_sem ↓] Go.wp_at_zero Go.wp_at_succ

theorem Slot.set1 {w : World} {k : Nat} {x : Value} (h : Slot w k x) (u : Value) : Slot (w.setCell ⟨k, 0, none⟩ u) k u :=
  ⟨World.cell?_setCell_same _ _ _ h.cell, by simp [h.free], by simpa using h.lt⟩
theorem Slot.other {w : World} {k j : Nat} {x : Value} (h : Slot w j x) (u : Value) (hj : j ≠ k) : Slot (w.setCell ⟨k, 0, none⟩ u) j x :=
  ⟨by rw [World.cell?_setCell_other _ _ _ _ (fun e' => by cases e' <;> exact hj rfl)]; exact h.cell, by simp [h.free], by simpa using h.lt⟩
theorem Slot2.other {w : World} {k j : Nat} {x z : Value} (h : Slot2 w j x z) (u : Value) (hj : j ≠ k) : Slot2 (w.setCell ⟨k, 0, none⟩ u) j x z :=
  ⟨by rw [World.cell?_setCell_other _ _ _ _ (fun e' => by cases e' <;> exact hj rfl)]; exact h.cell, by rw [World.cell?_setCell_other _ _ _ _ (fun e' => by cases e' <;> exact hj rfl)]; exact h.cell1, by simp [h.free], by simp [h.free1], by simpa using h.lt⟩
theorem RS.other {w : World} {k j : Nat} (h : RS w j) (u : Value) (hj : j ≠ k) : RS (w.setCell ⟨k, 0, none⟩ u) j := by
  obtain ⟨x, b, h1, h2⟩ := h; exact ⟨x, b, h1.other u hj, h2⟩
theorem FP.set1 {k j : Nat} {a : Option Addr} {n c : Nat} {m : Bool} {Z : Int} {a2 : Option Addr} {n2 c2 : Nat} {m2 : Bool} {Y : Int} {y : World} (h : FP k a n c m Z a2 n2 c2 m2 Y y) {a3 : Option Addr} {n3 c3 : Nat} (hj : y.cell? ⟨j, 0, none⟩ = some (.slice a3 n3 c3)) (hk : k + 3 < j) (u : Value) : FP k a n c m Z a2 n2 c2 m2 Y (y.setCell ⟨j, 0, none⟩ u) :=
  ⟨h.1.other u (by omega), h.2.1.other u (by omega), h.2.2.1.other u (by omega), h.2.2.2.1.other u (by omega), ⟨h.2.2.2.2.1.1, h.2.2.2.2.1.2.storeAt hj (fun _ _ h => by cases h) u⟩, ⟨h.2.2.2.2.2.1, h.2.2.2.2.2.2.storeAt hj (fun _ _ h => by cases h) u⟩⟩
theorem Bag.drewT {w0 w : World} {P : World → Prop} (h : Bag w0 P w) : Bag w0 P w.drew := h.drew

end Go.Proofs.YtgpcfncolhmgfaaGreatDoor
