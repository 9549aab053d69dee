/-
  Package whole: plusOne, by contract.
  Package whole: Plus, by contract.
  Package whole: Floor, by contract.
-/
import Derived.Test.YtgpcfncolhmgfaaGreatDoorK6
namespace Go.Proofs.YtgpcfncolhmgfaaGreatDoor
open Go.RowKit
attribute [local go_sem ↓] Go.wp_at_zero Go.wp_at_succ

def NatOf3 (w w' : World) (e : Ending) (N : Nat) : Prop := ∃ a n c, e = .returned (.agg #[.slice a n c]) ∧ NatIs w' (.agg #[.slice a n c]) N ∧ Below w.heap.size w w'
theorem NatOut.three {w w' : World} {e : Ending} {N : Nat} (h : NatOut w w' e N) : NatOf3 w w' e N := by
  obtain ⟨v, h1, ⟨a, n, c, f, h2, h3, h4, h5⟩, h6⟩ := h
  exact ⟨a, n, c, by rw [h1, h2], ⟨a, n, c, f, rfl, h3, h4, h5⟩, h6⟩
def SubOf3 (w w' : World) (e : Ending) (N : Nat) (b : Bool) : Prop := ∃ a n c, e = .returned (.tuple #[.agg #[.slice a n c], .bool b]) ∧ NatIs w' (.agg #[.slice a n c]) N ∧ Below w.heap.size w w'
theorem SubOut.three {w w' : World} {e : Ending} {N M : Nat} {b : Bool} (h : SubOut w w' e N M) (hb : decide (M ≤ N) = b) : SubOf3 w w' e (N - M) b := by
  obtain ⟨v, h1, ⟨a, n, c, f, h2, h3, h4, h5⟩, h6⟩ := h
  exact ⟨a, n, c, by rw [h1, h2, hb], ⟨a, n, c, f, rfl, h3, h4, h5⟩, h6⟩

/-- What plusOne keeps: its two numbers, their blocks, the answer's. -/
def PO (k : Nat) (a : Option Addr) (n c : Nat) (m : Bool) (Z : Int) (a2 : Option Addr) (n2 c2 : Nat) (m2 : Bool) (Y : Int) (y : World) : Prop :=
  RS y (k + 1 + 1) ∧ Slot2 y (k + 1) (.slice a2 n2 c2) (.bool m2) ∧ Slot2 y k (.slice a n c) (.bool m) ∧ IntAt y a2 n2 c2 m2 Y ∧ IntAt y a n c m Z
theorem PO.put {k : Nat} {a : Option Addr} {n c : Nat} {m : Bool} {Z : Int} {a2 : Option Addr} {n2 c2 : Nat} {m2 : Bool} {Y : Int} {y : World} (h : PO k a n c m Z a2 n2 c2 m2 Y y) (a3 : Option Addr) (n3 c3 : Nat) (b : Bool) : PO k a n c m Z a2 n2 c2 m2 Y (putI y (k + 1 + 1) a3 n3 c3 b) :=
  ⟨h.1.put _ _ _ _, h.2.1.put (by omega) _ _ _ _, h.2.2.1.put (by omega) _ _ _ _, h.2.2.2.1.put h.1 _ _ _ _, h.2.2.2.2.put h.1 _ _ _ _⟩
theorem PO.stay {k : Nat} {a : Option Addr} {n c : Nat} {m : Bool} {Z : Int} {a2 : Option Addr} {n2 c2 : Nat} {m2 : Bool} {Y : Int} : ∀ x y, Below x.heap.size x y → PO k a n c m Z a2 n2 c2 m2 Y x → PO k a n c m Z a2 n2 c2 m2 Y y :=
  fun _ _ hb h => ⟨h.1.below hb, h.2.1.below hb, h.2.2.1.below hb, h.2.2.2.1.below hb, h.2.2.2.2.below hb⟩
theorem PO.start {w : World} {a : Option Addr} {n c : Nat} {m : Bool} {Z : Int} {a2 : Option Addr} {n2 c2 : Nat} {m2 : Bool} {Y : Int} (h : IntAt w a n c m Z) (g : IntAt w a2 n2 c2 m2 Y) :
    Bag w (PO w.heap.size a n c m Z a2 n2 c2 m2 Y) (((w.alloc (.cells #[.slice a n c, .bool m] 28)).alloc (.cells #[.slice a2 n2 c2, .bool m2] 28)).alloc (.cells #[.slice none 0 0, .bool false] 28)) := by
  have B0 := (((((Bag.start w).int h).int g).box2 (.slice a n c) (.bool m) 28).box2 (.slice a2 n2 c2) (.bool m2) 28).box2 (.slice none 0 0) (.bool false) 28
  simp only [World.size_alloc] at B0
  exact ⟨B0.below, PO.stay, B0.now.1.rs, B0.now.2.1, B0.now.2.2.1, B0.now.2.2.2.1, B0.now.2.2.2.2.1⟩
/-- The cells that plusOne loads. -/
def POc (k : Nat) (a : Option Addr) (n c : Nat) (m : Bool) (a2 : Option Addr) (n2 c2 : Nat) (m2 : Bool) (y : World) : Prop :=
  y.cell? ⟨k, 0, none⟩ = some (.slice a n c) ∧ y.cell? ⟨k, 1, none⟩ = some (.bool m) ∧ y.cell? ⟨k + 1, 0, none⟩ = some (.slice a2 n2 c2) ∧ y.cell? ⟨k + 1, 1, none⟩ = some (.bool m2)
theorem PO.c {k : Nat} {a : Option Addr} {n c : Nat} {m : Bool} {Z : Int} {a2 : Option Addr} {n2 c2 : Nat} {m2 : Bool} {Y : Int} {y : World} (h : PO k a n c m Z a2 n2 c2 m2 Y y) : POc k a n c m a2 n2 c2 m2 y :=
  ⟨h.2.2.1.cell, h.2.2.1.cell1, h.2.1.cell, h.2.1.cell1⟩

end Go.Proofs.YtgpcfncolhmgfaaGreatDoor

namespace Go.Proofs.YtgpcfncolhmgfaaGreatDoor
open Go.RowKit

/-- A row of integers in memory. -/
def IntsAt (w : World) (sa : Option Addr) (n c : Nat) (f : Nat → Int) : Prop := n ≤ c ∧ n ≤ 1000 ∧ (n = 0 ∨ ∃ b off, sa = some ⟨b, off, none⟩ ∧ b < w.heap.size ∧
  ∀ j, j < n → ∃ a' n' c' m', w.cell? ⟨b, off + j * 2, none⟩ = some (.slice a' n' c') ∧ w.cell? ⟨b, off + j * 2 + 1, none⟩ = some (.bool m') ∧ IntAt w a' n' c' m' (f j))
theorem IntsAt.below {w w' : World} {sa : Option Addr} {n c : Nat} {f : Nat → Int} (h : IntsAt w sa n c f) (hb : Below w.heap.size w w') : IntsAt w' sa n c f := by
  obtain ⟨h0, h1, h2⟩ := h
  refine ⟨h0, h1, ?_⟩
  rcases h2 with h2 | ⟨b, off, rfl, hl, hc⟩
  · exact .inl h2
  · refine .inr ⟨b, off, rfl, Nat.lt_of_lt_of_le hl hb.size, fun j hj => ?_⟩
    obtain ⟨a', n', c', m', e1, e2, e3⟩ := hc j hj
    exact ⟨a', n', c', m', (hb.cell (p := ⟨b, _, none⟩) hl).trans e1, (hb.cell (p := ⟨b, _, none⟩) hl).trans e2, e3.below hb⟩
theorem IntsAt.get {w : World} {sa : Option Addr} {n c : Nat} {f : Nat → Int} (h : IntsAt w sa n c f) {j : Nat} (hj : j < n) :
    ∃ b off a' n' c' m', sa = some ⟨b, off, none⟩ ∧ b < w.heap.size ∧ w.cell? ⟨b, off + j * 2, none⟩ = some (.slice a' n' c') ∧ w.cell? ⟨b, off + j * 2 + 1, none⟩ = some (.bool m') ∧ IntAt w a' n' c' m' (f j) := by
  obtain ⟨h0, h1, h2⟩ := h
  rcases h2 with h2 | ⟨b, off, rfl, hl, hc⟩
  · omega
  · obtain ⟨a', n', c', m', e⟩ := hc j hj
    exact ⟨b, off, a', n', c', m', rfl, hl, e⟩

def psum (Z : Int) (f : Nat → Int) : Nat → Int
  | 0 => Z
  | k + 1 => psum Z f k + f k
def asum (f : Nat → Int) : Nat → Nat
  | 0 => 0
  | k + 1 => asum f k + (f k).natAbs
theorem asum_mono (f : Nat → Int) {k n : Nat} (h : k ≤ n) : asum f k ≤ asum f n := by
  induction n with
  | zero => obtain rfl : k = 0 := by omega
            exact Nat.le_refl _
  | succ n ih =>
    rcases Nat.lt_or_ge k (n + 1) with h1 | h1
    · have := ih (by omega); rw [asum]; omega
    · obtain rfl : k = n + 1 := by omega
      exact Nat.le_refl _
theorem psum_abs (Z : Int) (f : Nat → Int) : ∀ k, (psum Z f k).natAbs ≤ Z.natAbs + asum f k
  | 0 => by simp [psum, asum]
  | k + 1 => by have := psum_abs Z f k; rw [psum, asum]; omega
theorem asum_get (f : Nat → Int) {k n : Nat} (h : k < n) : (f k).natAbs ≤ asum f n := by
  have := asum_mono f (show k + 1 ≤ n from h); rw [asum] at this; omega

/-- At the head of a round: the sum so far. -/
def PL (w wr : World) (V : Int) : Prop := Below w.heap.size w wr ∧ RS wr (w.heap.size + 1) ∧ ∃ a n c m, Slot2 wr (w.heap.size + 1 + 1) (.slice a n c) (.bool m) ∧ IntAt wr a n c m V

end Go.Proofs.YtgpcfncolhmgfaaGreatDoor

namespace Go.Proofs.YtgpcfncolhmgfaaGreatDoor
open Go.RowKit
attribute [local go_sem ↓] Go.wp_at_zero Go.wp_at_succ

/-- The quotient, rounded down, and what is left, out of the sizes. -/
def flA (Z Y : Int) : Bool := decide (Z < 0) != decide (Y < 0)
def flU (Z Y : Int) : Bool := flA Z Y && !decide (Z.natAbs % Y.natAbs = 0)
def flQ (Z Y : Int) : Int := sgn (flA Z Y) (if flU Z Y then Z.natAbs / Y.natAbs + 1 else Z.natAbs / Y.natAbs)
def flR (Z Y : Int) : Int := sgn (decide (Y < 0)) (if flU Z Y then Y.natAbs - Z.natAbs % Y.natAbs else Z.natAbs % Y.natAbs)

/-- What Floor keeps: its two numbers, their blocks, the answers'. -/
def FP (k : Nat) (a : Option Addr) (n c : Nat) (m : Bool) (Z : Int) (a2 : Option Addr) (n2 c2 : Nat) (m2 : Bool) (Y : Int) (y : World) : Prop :=
  RS y (k + 1 + 1) ∧ RS y (k + 1 + 1 + 1) ∧ Slot2 y (k + 1) (.slice a2 n2 c2) (.bool m2) ∧ Slot2 y k (.slice a n c) (.bool m) ∧ IntAt y a2 n2 c2 m2 Y ∧ IntAt y a n c m Z
theorem FP.stay {k : Nat} {a : Option Addr} {n c : Nat} {m : Bool} {Z : Int} {a2 : Option Addr} {n2 c2 : Nat} {m2 : Bool} {Y : Int} : ∀ x y, Below x.heap.size x y → FP k a n c m Z a2 n2 c2 m2 Y x → FP k a n c m Z a2 n2 c2 m2 Y y :=
  fun _ _ hb h => ⟨h.1.below hb, h.2.1.below hb, h.2.2.1.below hb, h.2.2.2.1.below hb, h.2.2.2.2.1.below hb, h.2.2.2.2.2.below hb⟩
theorem FP.start {w : World} {a : Option Addr} {n c : Nat} {m : Bool} {Z : Int} {a2 : Option Addr} {n2 c2 : Nat} {m2 : Bool} {Y : Int} (h : IntAt w a n c m Z) (g : IntAt w a2 n2 c2 m2 Y) :
    Bag w (FP w.heap.size a n c m Z a2 n2 c2 m2 Y) ((((w.alloc (.cells #[.slice a n c, .bool m] 28)).alloc (.cells #[.slice a2 n2 c2, .bool m2] 28)).alloc (.cells #[.slice none 0 0, .bool false] 28)).alloc (.cells #[.slice none 0 0, .bool false] 28)) := by
  have B0 := ((((((Bag.start w).int h).int g).box2 (.slice a n c) (.bool m) 28).box2 (.slice a2 n2 c2) (.bool m2) 28).box2 (.slice none 0 0) (.bool false) 28).box2 (.slice none 0 0) (.bool false) 28
  simp only [World.size_alloc] at B0
  exact ⟨B0.below, FP.stay, B0.now.2.1.rs, B0.now.1.rs, B0.now.2.2.1, B0.now.2.2.2.1, B0.now.2.2.2.2.1, B0.now.2.2.2.2.2.1⟩
theorem FP.put {k j : Nat} {a : Option Addr} {n c : Nat} {m : Bool} {Z : Int} {a2 : Option Addr} {n2 c2 : Nat} {m2 : Bool} {Y : Int} {y : World} (h : FP k a n c m Z a2 n2 c2 m2 Y y) (hj : RS y j) (h1 : k ≠ j) (h2 : k + 1 ≠ j) (a3 : Option Addr) (n3 c3 : Nat) (b : Bool) : FP k a n c m Z a2 n2 c2 m2 Y (putI y j a3 n3 c3 b) :=
  ⟨h.1.put _ _ _ _, h.2.1.put _ _ _ _, h.2.2.1.put h2 _ _ _ _, h.2.2.2.1.put h1 _ _ _ _, h.2.2.2.2.1.put hj _ _ _ _, h.2.2.2.2.2.put hj _ _ _ _⟩

def DivOf3 (w w' : World) (e : Ending) (N M : Nat) (b : Bool) : Prop := ∃ a n c a2 n2 c2, e = .returned (.tuple #[.agg #[.slice a n c], .agg #[.slice a2 n2 c2], .bool b]) ∧ NatIs w' (.agg #[.slice a n c]) N ∧ NatIs w' (.agg #[.slice a2 n2 c2]) M ∧ Below w.heap.size w w'
theorem DivOut.three {w w' : World} {e : Ending} {N M : Nat} {b : Bool} (h : DivOut w w' e N M) (hb : decide (M ≠ 0) = b) : DivOf3 w w' e (N / M) (modz N M) b := by
  obtain ⟨v, u, h1, ⟨a, n, c, f, h2, h3, h4, h5⟩, ⟨a', n', c', f', h2', h3', h4', h5'⟩, h6⟩ := h
  exact ⟨a, n, c, a', n', c', by rw [h1, h2, h2', hb], ⟨a, n, c, f, rfl, h3, h4, h5⟩, ⟨a', n', c', f', rfl, h3', h4', h5'⟩, h6⟩

def FloorTold (w w' : World) (e : Ending) (Q R : Int) : Prop := ∃ a n c m a2 n2 c2 m2, e = .returned (.tuple #[.agg #[.slice a n c, .bool m], .agg #[.slice a2 n2 c2, .bool m2], .bool true]) ∧ IntAt w' a n c m Q ∧ IntAt w' a2 n2 c2 m2 R ∧ Below w.heap.size w w'
def FloorNone (w w' : World) (e : Ending) : Prop := e = .returned (.tuple #[.agg #[.slice none 0 0, .bool false], .agg #[.slice none 0 0, .bool false], .bool false]) ∧ Below w.heap.size w w'

end Go.Proofs.YtgpcfncolhmgfaaGreatDoor

