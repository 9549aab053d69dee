/-
  Package array: bare, by contract.
-/
import Derived.Test.YtgpcfncolhmgfaaGreatDoorAr0
import Derived.Test.YtgpcfncolhmgfaaGreatDoorK6
import Derived.Deep.MidRow
namespace Go.Proofs.YtgpcfncolhmgfaaGreatDoor
open Go.RowKit

/-- The cells of an array. -/
def arrC (ch : Bool) (more : Int) (d : Nat → Int) (na : Option Addr) (nn nc : Nat) (ta : Option Addr) (tn tc : Nat) : Array Value :=
  #[.bool ch, .int .i64 more, .int .i64 (d 0), .int .i64 (d 1), .int .i64 (d 2), .int .i64 (d 3), .int .i64 (d 4), .int .i64 (d 5), .int .i64 (d 6), .int .i64 (d 7), .slice na nn nc, .slice ta tn tc]
/-- The axes as they are kept. -/
def dm (f : Nat → Int) (n j : Nat) : Int := if j < n then f j else 0

/-- A block of cells, known whole, none of them frozen. -/
def Row (w : World) (g : Nat) (t : TypeId) (cs : Array Value) : Prop := w.heap[g]? = some (.cells cs t (0, 0))
theorem Row.lt {w : World} {g : Nat} {t : TypeId} {cs : Array Value} (h : Row w g t cs) : g < w.heap.size := by
  rcases Nat.lt_or_ge g w.heap.size with h1 | h1
  · exact h1
  · unfold Row at h; rw [Array.getElem?_eq_none h1] at h; cases h
theorem Row.below {w w' : World} {g : Nat} {t : TypeId} {cs : Array Value} (h : Row w g t cs) (hb : Below w.heap.size w w') : Row w' g t cs := (hb.block g h.lt).trans h
theorem Row.new (w : World) (t : TypeId) (cs : Array Value) : Row (w.alloc (.cells cs t)) w.heap.size t cs := heap_new _ _
theorem Row.cell {w : World} {g : Nat} {t : TypeId} {cs : Array Value} (h : Row w g t cs) (i : Nat) : w.cell? ⟨g, i, none⟩ = cs[i]? := cell_of_row w g i cs t (0, 0) h
theorem Row.free {w : World} {g : Nat} {t : TypeId} {cs : Array Value} (h : Row w g t cs) (i : Nat) : w.frozen? ⟨g, i, none⟩ = false := frozen_of_row w g i cs t h
theorem Bag.row {w0 w : World} {P : World → Prop} {g : Nat} {t : TypeId} {cs : Array Value} (h : Bag w0 P w) (q : Row w g t cs) : Bag w0 (fun y => Row y g t cs ∧ P y) w := h.add (fun _ _ hb q => q.below hb) q

theorem arrC_one (ch : Bool) (more : Int) (d : Nat → Int) (na : Option Addr) (nn nc : Nat) (ta : Option Addr) (tn tc : Nat) : (arrC ch more d na nn nc ta tn tc).all (·.oneCell') = true := by simp [arrC, Value.oneCell']
theorem Row.put {w : World} {g : Nat} {t : TypeId} {cs : Array Value} (h : Row w g t cs) (cs' : Array Value) : Row (w.setRow g cs') g t cs' := setRow_heap w g cs cs' t (0, 0) h
theorem Row.puto {w : World} {g k : Nat} {t : TypeId} {cs : Array Value} (h : Row w g t cs) (e : g ≠ k) (cs' : Array Value) : Row (w.setRow k cs') g t cs := (setRow_other w k g cs' e).trans h
theorem below_put {w w1 : World} {g : Nat} (h : Below w.heap.size w w1) (hg : w.heap.size ≤ g) (cs : Array Value) : Below w.heap.size w (w1.setRow g cs) :=
  ⟨h.os, h.tape, h.output, by simpa using h.size, fun k hk => (setRow_other w1 g k cs (by omega)).trans (h.block k hk)⟩
/-- What bare answers. -/
def BareTold (b : Bool) (f : Nat → Int) (n : Nat) (w w' : World) (e : Ending) : Prop :=
  e = .returned (.tuple #[.agg (if b then arrC false ((n : Int) - 1) (dm f n) none 0 0 none 0 0 else arrC false 0 (fun _ => 0) none 0 0 none 0 0), .bool b]) ∧ Below w.heap.size w w'

theorem In64.le8 {f : Nat → Int} {n : Nat} (h : shB f n = true) : n ≤ 8 := by
  unfold shB at h
  rw [Bool.and_eq_true, decide_eq_true_eq] at h
  exact h.1

/-- The axes' lengths laid over noughts. -/
theorem dm_splice (f : Nat → Int) (n : Nat) (h : n ≤ 8) (x0 x1 x2 x3 : Value) (z : Value) (hz : z = .int .i64 0) :
    splice [x0, x1, z, z, z, z, z, z, z, z, x2, x3] 2 ((List.range n).map fun j => .int .i64 (f j)) =
    [x0, x1, .int .i64 (dm f n 0), .int .i64 (dm f n 1), .int .i64 (dm f n 2), .int .i64 (dm f n 3), .int .i64 (dm f n 4), .int .i64 (dm f n 5), .int .i64 (dm f n 6), .int .i64 (dm f n 7), x2, x3] := by
  subst hz
  have hn : n = 0 ∨ n = 1 ∨ n = 2 ∨ n = 3 ∨ n = 4 ∨ n = 5 ∨ n = 6 ∨ n = 7 ∨ n = 8 := by omega
  rcases hn with rfl | rfl | rfl | rfl | rfl | rfl | rfl | rfl | rfl <;> rfl

end Go.Proofs.YtgpcfncolhmgfaaGreatDoor
