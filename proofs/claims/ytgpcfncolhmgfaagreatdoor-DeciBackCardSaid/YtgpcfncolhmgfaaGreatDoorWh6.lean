/-
  Package whole: Times, by contract.
-/
import Derived.Test.YtgpcfncolhmgfaaGreatDoorK7
namespace Go.Proofs.YtgpcfncolhmgfaaGreatDoor
open Go.RowKit
attribute [local go_sem ↓] Go.wp_at_zero Go.wp_at_succ

def pprod (Z : Int) (f : Nat → Int) : Nat → Int
  | 0 => Z
  | k + 1 => pprod Z f k * f k

theorem sgn_mul (Z Y : Int) : sgn (decide (Z < 0) != decide (Y < 0)) (Z.natAbs * Y.natAbs) = Z * Y := by
  by_cases hz : Z < 0
  · obtain ⟨x, rfl⟩ : ∃ x : Nat, Z = -(x : Int) := ⟨Z.natAbs, by omega⟩
    by_cases hy : Y < 0
    · obtain ⟨y, rfl⟩ : ∃ y : Nat, Y = -(y : Int) := ⟨Y.natAbs, by omega⟩
      rw [decide_eq_true hz, decide_eq_true hy]
      simp [sgn, Int.neg_mul_neg]
    · obtain ⟨y, rfl⟩ : ∃ y : Nat, Y = (y : Int) := ⟨Y.natAbs, by omega⟩
      rw [decide_eq_true hz, decide_eq_false hy]
      simp [sgn, Int.neg_mul]
  · obtain ⟨x, rfl⟩ : ∃ x : Nat, Z = (x : Int) := ⟨Z.natAbs, by omega⟩
    by_cases hy : Y < 0
    · obtain ⟨y, rfl⟩ : ∃ y : Nat, Y = -(y : Int) := ⟨Y.natAbs, by omega⟩
      rw [decide_eq_false hz, decide_eq_true hy]
      simp [sgn, Int.mul_neg]
    · obtain ⟨y, rfl⟩ : ∃ y : Nat, Y = (y : Int) := ⟨Y.natAbs, by omega⟩
      rw [decide_eq_false hz, decide_eq_false hy]
      simp [sgn]

/-- Within a round of Times: the product's block (k2), the factor's (k7), the answer's (k1). -/
def TP (k1 k2 k7 : Nat) (a : Option Addr) (n c : Nat) (m : Bool) (Z : Int) (a2 : Option Addr) (n2 c2 : Nat) (m2 : Bool) (Y : Int) (y : World) : Prop :=
  RS y k2 ∧ RS y k1 ∧ IntAt y a n c m Z ∧ IntAt y a2 n2 c2 m2 Y ∧ Slot2 y k7 (.slice a2 n2 c2) (.bool m2)
theorem TP.stay {k1 k2 k7 : Nat} {a : Option Addr} {n c : Nat} {m : Bool} {Z : Int} {a2 : Option Addr} {n2 c2 : Nat} {m2 : Bool} {Y : Int} : ∀ x y, Below x.heap.size x y → TP k1 k2 k7 a n c m Z a2 n2 c2 m2 Y x → TP k1 k2 k7 a n c m Z a2 n2 c2 m2 Y y :=
  fun _ _ hb h => ⟨h.1.below hb, h.2.1.below hb, h.2.2.1.below hb, h.2.2.2.1.below hb, h.2.2.2.2.below hb⟩
theorem TP.put {k1 k2 k7 : Nat} {a : Option Addr} {n c : Nat} {m : Bool} {Z : Int} {a2 : Option Addr} {n2 c2 : Nat} {m2 : Bool} {Y : Int} {y : World} (h : TP k1 k2 k7 a n c m Z a2 n2 c2 m2 Y y) (hk : k7 ≠ k2) (a3 : Option Addr) (n3 c3 : Nat) (b : Bool) : TP k1 k2 k7 a n c m Z a2 n2 c2 m2 Y (putI y k2 a3 n3 c3 b) :=
  ⟨h.1.put _ _ _ _, h.2.1.put _ _ _ _, h.2.2.1.put h.1 _ _ _ _, h.2.2.2.1.put h.1 _ _ _ _, h.2.2.2.2.put hk _ _ _ _⟩

theorem slot2_putI {w : World} {k : Nat} {x y : Value} (h : Slot2 w k x y) (a : Option Addr) (n c : Nat) (b : Bool) : Slot2 (putI w k a n c b) k (.slice a n c) (.bool b) :=
  ⟨(h.set _ _).1, (h.set _ _).2, by simp [putI, h.free], by simp [putI, h.free1], by simpa [putI] using h.lt⟩

end Go.Proofs.YtgpcfncolhmgfaaGreatDoor
