/-
  Package whole: Floor, by contract.
-/
import Derived.Test.YtkjdoknmmiaapaaDoorWh4
namespace Go.Proofs.YtkjdoknmmiaapaaDoor
open Go.RowKit
attribute [local go_sem ↓] Go.wp_at_zero Go.wp_at_succ

/-- The quotient, rounded down, and what is left, out of the sizes. -/
def flA (Z Y : Int) : Bool := decide (Z < 0) != decide (Y < 0)
def flU (Z Y : Int) : Bool := flA Z Y && !decide (Z.natAbs % Y.natAbs = 0)
def flQ (Z Y : Int) : Int := sgn (flA Z Y) (if flU Z Y then Z.natAbs / Y.natAbs + 1 else Z.natAbs / Y.natAbs)
def flR (Z Y : Int) : Int := sgn (decide (Y < 0)) (if flU Z Y then Y.natAbs - Z.natAbs % Y.natAbs else Z.natAbs % Y.natAbs)

/-- What Floor keeps: its two numbers, their blocks, the answers'. -/
def FP (k : Nat) (a : Option Addr) (n c : Nat) (m : Bool) (Z : Int) (a2 : Option Addr) (n2 c2 : Nat) (m2 : Bool) (Y : Int) (y : World) : Prop :=
  RS y (k + 1 + 1) ∧ RS y (k + 1 + 1 + 1) ∧ Slot2 y (k + 1) (.slice a2 n2 c2) (.bool m2) ∧ Slot2 y k (.slice a n c) (.bool m) ∧ IntAt y a2 n2 c2 m2 Y ∧ IntAt y a n c m Z
theorem FP.stay {k : Nat} {a : Option Addr} {n c : Nat} {m : Bool} {Z : Int} {a2 : Option Addr} {n2 c2 : Nat} {m2 : Bool} {Y : Int} : ∀ x y, Below x.heap.size x y → FP k a n c m Z a2 n2 c2 m2 Y x → FP k a n c m Z a2 n2 c2 m2 Y y :=
  fun _ _ hb h => ⟨h.1.below hb, h.2.1.below hb, h.2.2.1.below hb, h.2.2.2.1.below hb, h.2.2.2.2.1.below hb, h.2.2.2.2.2.below hb⟩
theorem FP.start {w : World} {a : Option Addr} {n c : Nat} {m : Bool} {Z : Int} {a2 : Option Addr} {n2 c2 : Nat} {m2 : Bool} {Y : Int} (h : IntAt w a n c m Z) (g : IntAt w a2 n2 c2 m2 Y) :
    Bag w (FP w.heap.size a n c m Z a2 n2 c2 m2 Y) ((((w.alloc (.cells #[.slice a n c, .bool m] 60)).alloc (.cells #[.slice a2 n2 c2, .bool m2] 60)).alloc (.cells #[.slice none 0 0, .bool false] 60)).alloc (.cells #[.slice none 0 0, .bool false] 60)) := by
  have B0 := ((((((Bag.start w).int h).int g).box2 (.slice a n c) (.bool m) 60).box2 (.slice a2 n2 c2) (.bool m2) 60).box2 (.slice none 0 0) (.bool false) 60).box2 (.slice none 0 0) (.bool false) 60
  simp only [World.size_alloc] at B0
  exact ⟨B0.below, FP.stay, B0.now.2.1.rs, B0.now.1.rs, B0.now.2.2.1, B0.now.2.2.2.1, B0.now.2.2.2.2.1, B0.now.2.2.2.2.2.1⟩
theorem FP.put {k j : Nat} {a : Option Addr} {n c : Nat} {m : Bool} {Z : Int} {a2 : Option Addr} {n2 c2 : Nat} {m2 : Bool} {Y : Int} {y : World} (h : FP k a n c m Z a2 n2 c2 m2 Y y) (hj : RS y j) (h1 : k ≠ j) (h2 : k + 1 ≠ j) (a3 : Option Addr) (n3 c3 : Nat) (b : Bool) : FP k a n c m Z a2 n2 c2 m2 Y (putI y j a3 n3 c3 b) :=
  ⟨h.1.put _ _ _ _, h.2.1.put _ _ _ _, h.2.2.1.put h2 _ _ _ _, h.2.2.2.1.put h1 _ _ _ _, h.2.2.2.2.1.put hj _ _ _ _, h.2.2.2.2.2.put hj _ _ _ _⟩

def DivOf3 (w w' : World) (e : Ending) (N M : Nat) (b : Bool) : Prop := ∃ a n c a2 n2 c2, e = .returned (.tuple #[.agg #[.slice a n c], .agg #[.slice a2 n2 c2], .bool b]) ∧ NatIs w' (.agg #[.slice a n c]) N ∧ NatIs w' (.agg #[.slice a2 n2 c2]) M ∧ Below w.heap.size w w'
theorem DivOut.three {w w' : World} {e : Ending} {N M : Nat} {b : Bool} (h : DivOut w w' e N M) (hb : decide (M ≠ 0) = b) : DivOf3 w w' e (N / M) (modz N M) b := by
  obtain ⟨v, u, h1, ⟨a, n, c, f, h2, h3, h4, h5⟩, ⟨a', n', c', f', h2', h3', h4', h5'⟩, h6⟩ := h
  exact ⟨a, n, c, a', n', c', by rw [h1, h2, h2', hb], ⟨a, n, c, f, rfl, h3, h4, h5⟩, ⟨a', n', c', f', rfl, h3', h4', h5'⟩, h6⟩

def FloorTold (w w' : World) (e : Ending) (Q R : Int) : Prop := ∃ a n c m a2 n2 c2 m2, e = .returned (.tuple #[.agg #[.slice a n c, .bool m], .agg #[.slice a2 n2 c2, .bool m2], .bool true]) ∧ IntAt w' a n c m Q ∧ IntAt w' a2 n2 c2 m2 R ∧ Below w.heap.size w w'
def FloorNone (w w' : World) (e : Ending) : Prop := e = .returned (.tuple #[.agg #[.slice none 0 0, .bool false], .agg #[.slice none 0 0, .bool false], .bool false]) ∧ Below w.heap.size w w'

set_option maxHeartbeats 3200000 in
set_option maxRecDepth 100000 in
theorem floor_none (a : Option Addr) (n c : Nat) (m : Bool) (Z : Int) (a2 : Option Addr) (n2 c2 : Nat) (m2 : Bool) (w : World) (h : IntAt w a n c m Z) (g : IntAt w a2 n2 c2 m2 0) (K : Nat) (hK : K ≤ 900000) (hZ : Z.natAbs < 4294967296 ^ K) :
    Calls Tryd.prog 69 #[.agg #[.slice a n c, .bool m], .agg #[.slice a2 n2 c2, .bool m2]] w fun e w' => FloorNone w w' e := by
  have BB := Lib.hid (FP.start h g)
  have q0 := BB.out.now.2.2.2.1.cell
  have q1 := BB.out.now.2.2.2.1.cell1
  have q2 := BB.out.now.2.2.1.cell
  have q3 := BB.out.now.2.2.1.cell1
  have DM : Hid (∀ wz, FP w.heap.size a n c m Z a2 n2 c2 m2 0 wz → Calls Tryd.prog 38 #[.agg #[.slice a n c], .agg #[.slice a2 n2 c2]] wz fun e w' => DivOf3 wz w' e (Z.natAbs / 0) (modz Z.natAbs 0) false) := fun wz hz => (divMod_any _ _ _ _ wz hz.2.2.2.2.2.2 hz.2.2.2.2.1.2 K hK hZ).mono fun _ _ h => h.three rfl
  clear h g hZ
  go_enter Tryd.func69, Tryd.ntmps69
  go_wp2_with fail
  go_at_call 38
  (with_reducible refine (DM.out _ BB.out.now).mono ?_)
  rintro e w4 ⟨a3, n3, c3, a4, n4, c4, rfl, hi3, hi4, hb4⟩
  have BB := Lib.hid (((BB.out.go hb4).alloc (.cells #[.slice a3 n3 c3] 25)).alloc (.cells #[.slice a4 n4 c4] 25))
  clear hb4 hi3 hi4 q0 q1 q2 q3
  obtain ⟨x8, b8, hs8, _⟩ := BB.out.now.1
  obtain ⟨x9, b9, hs9, _⟩ := BB.out.now.2.1
  have hc1 := hs8.cell
  have hc2 := hs8.cell1
  have hc3 := hs9.cell
  have hc4 := hs9.cell1
  have hf1 := hs8.free
  have hf2 := hs8.free1
  have hf3 := hs9.free
  have hf4 := hs9.free1
  have HS1 := (BB.out.now.1.put (k := w.heap.size + 1 + 1) none 0 0 false).cells none 0 0 false
  have B7 := ((BB.out.put (k := w.heap.size + 1 + 1) (a := none) (n := 0) (c := 0) (b := false) (by omega) (fun h => h.put h.1 (by omega) (by omega) _ _ _ _)).put (k := w.heap.size + 1 + 1 + 1) (a := none) (n := 0) (c := 0) (b := false) (by omega) (fun h => h.put h.2.1 (by omega) (by omega) _ _ _ _))
  have HA := Slot2.put (BB.out.now.1.slotted none 0 0 false) (show w.heap.size + 1 + 1 ≠ w.heap.size + 1 + 1 + 1 by omega) none 0 0 false
  have HB := (BB.out.now.2.1.put (k := w.heap.size + 1 + 1) none 0 0 false).slotted none 0 0 false
  have HE : Hid (FloorNone w _ _) := ⟨rfl, B7.below⟩
  have e1 := HA.cell
  have e2 := HA.cell1
  have e3 := HB.cell
  have e4 := HB.cell1
  unfold putI at HE e1 e2 e3 e4
  clear hs8 hs9 B7 HA HB HS1
  go_wp2
  exact bodyPost_ret (v := .tuple #[.agg #[.slice none 0 0, .bool false], .agg #[.slice none 0 0, .bool false], .bool false]) (by simp [results, Tryd.results69, go_sem, e1, e2, e3, e4]) rfl HE.out

end Go.Proofs.YtkjdoknmmiaapaaDoor
