/-
  A bag of facts on a world, each kept by every call that turns nothing old: one line behind each call.
  Package whole: what an integer in memory is; Of and Neg, by contract.
  Package whole: Neg, Size, Sign, Minus, Digits, by contract.
  Package whole: Digits, Cmp, From, Int, by contract.
  What the laws of package nat and those of whole have in common.
-/
import Derived.Test.YtgpcfncolhmgfaaK2
import Derived.BigRegion
import Derived.RegionTactic
import Derived.Deep.RegionWith
import Derived.Deep.RegionHeld3
import Derived.Deep.DrawnRows
import Derived.Test.YtgpcfncolhmgfaaK3
import Derived.Test.YtgpcfncolhmgfaaK4
import Derived.IntWalk
import Derived.Laws.BitsLemmas
namespace Go.Proofs.Ytgpcfncolhmgfaa
open Go.RowKit

structure Bag (w0 : World) (P : World → Prop) (w : World) : Prop where
  below : Below w0.heap.size w0 w
  stay : ∀ a b, Below a.heap.size a b → P a → P b
  now : P w

theorem Bag.start (w : World) : Bag w (fun _ => True) w := ⟨Below.refl _ _, fun _ _ _ _ => trivial, trivial⟩
theorem Bag.go {w0 w w' : World} {P : World → Prop} (h : Bag w0 P w) (hb : Below w.heap.size w w') : Bag w0 P w' :=
  ⟨h.below.trans (hb.mono h.below.size), h.stay, h.stay _ _ hb h.now⟩
theorem Bag.add {w0 w : World} {P Q : World → Prop} (h : Bag w0 P w) (hs : ∀ a b, Below a.heap.size a b → Q a → Q b) (q : Q w) : Bag w0 (fun x => Q x ∧ P x) w :=
  ⟨h.below, fun a b hb ⟨h1, h2⟩ => ⟨hs a b hb h1, h.stay a b hb h2⟩, q, h.now⟩
theorem Bag.nat {w0 w : World} {P : World → Prop} {v : Value} {N : Nat} (h : Bag w0 P w) (q : NatIs w v N) : Bag w0 (fun x => NatIs x v N ∧ P x) w := h.add (fun _ _ hb q => q.below hb) q
theorem Bag.alloc {w0 w : World} {P : World → Prop} (h : Bag w0 P w) (o : Obj) : Bag w0 P (w.alloc o) := h.go ((Below.refl _ _).alloc (Nat.le_refl _) _)
theorem Bag.slot {w0 w : World} {P : World → Prop} {k : Nat} {x : Value} (h : Bag w0 P w) (q : Slot w k x) : Bag w0 (fun y => Slot y k x ∧ P y) w := h.add (fun _ _ hb q => q.below hb) q
theorem Bag.box {w0 w : World} {P : World → Prop} (h : Bag w0 P w) (x : Value) (t : TypeId) : Bag w0 (fun y => Slot y w.heap.size x ∧ P y) (w.alloc (.cells #[x] t)) :=
  (h.alloc _).slot (Slot.new w x t)
theorem Bag.drewN {w0 w : World} {P : World → Prop} (h : Bag w0 P w) (n : Nat) : Bag w0 P (w.drewN n) := h.go (below_drewN (Below.refl _ _) n)
theorem Bag.drew {w0 w : World} {P : World → Prop} (h : Bag w0 P w) : Bag w0 P w.drew := h.go (Below.refl _ _).drew

/-- A block of two cells. -/
structure Slot2 (w : World) (k : Nat) (x y : Value) : Prop where
  cell : w.cell? ⟨k, 0, none⟩ = some x
  cell1 : w.cell? ⟨k, 1, none⟩ = some y
  free : w.frozen? ⟨k, 0, none⟩ = false
  free1 : w.frozen? ⟨k, 1, none⟩ = false
  lt : k < w.heap.size
theorem Slot2.below {w w' : World} {k : Nat} {x y : Value} (h : Slot2 w k x y) (hb : Below w.heap.size w w') : Slot2 w' k x y :=
  ⟨(hb.cell (p := ⟨k, 0, none⟩) h.lt).trans h.cell, (hb.cell (p := ⟨k, 1, none⟩) h.lt).trans h.cell1, (hb.frozen (p := ⟨k, 0, none⟩) h.lt).trans h.free, (hb.frozen (p := ⟨k, 1, none⟩) h.lt).trans h.free1, Nat.lt_of_lt_of_le h.lt hb.size⟩
theorem Slot2.new (w : World) (x y : Value) (t : TypeId) : Slot2 (w.alloc (.cells #[x, y] t)) w.heap.size x y := by
  refine ⟨?_, ?_, World.frozen?_alloc_new _ _ _ _, World.frozen?_alloc_new _ _ _ _, by rw [World.size_alloc]; omega⟩
  · rw [World.cell?_alloc_new]; rfl
  · rw [World.cell?_alloc_new]; rfl
theorem Bag.slot2 {w0 w : World} {P : World → Prop} {k : Nat} {x z : Value} (h : Bag w0 P w) (q : Slot2 w k x z) : Bag w0 (fun y => Slot2 y k x z ∧ P y) w := h.add (fun _ _ hb q => q.below hb) q
theorem Bag.box2 {w0 w : World} {P : World → Prop} (h : Bag w0 P w) (x z : Value) (t : TypeId) : Bag w0 (fun y => Slot2 y w.heap.size x z ∧ P y) (w.alloc (.cells #[x, z] t)) :=
  (h.alloc _).slot2 (Slot2.new w x z t)

end Go.Proofs.Ytgpcfncolhmgfaa

namespace Go.Proofs.Ytgpcfncolhmgfaa
open Go.RowKit
attribute [local go_sem ↓] Go.wp_at_zero Go.wp_at_succ

/-- The fields of an integer, read as the number Z: the sign stands for less than 0 alone. -/
def IntAt (w : World) (a : Option Addr) (n c : Nat) (m : Bool) (Z : Int) : Prop := m = decide (Z < 0) ∧ NatIs w (.agg #[.slice a n c]) Z.natAbs
theorem IntAt.below {w w' : World} {a : Option Addr} {n c : Nat} {m : Bool} {Z : Int} (h : IntAt w a n c m Z) (hb : Below w.heap.size w w') : IntAt w' a n c m Z := ⟨h.1, h.2.below hb⟩
def IntTold (w w' : World) (e : Ending) (Z : Int) : Prop := ∃ a n c m, e = .returned (.agg #[.slice a n c, .bool m]) ∧ IntAt w' a n c m Z ∧ Below w.heap.size w w'

/-- A number with a sign. -/
def sgn (b : Bool) (N : Nat) : Int := if b then -(N : Int) else N
theorem sgn_abs (b : Bool) (N : Nat) : (sgn b N).natAbs = N := by unfold sgn; split <;> omega
theorem sgn_neg (b : Bool) (N : Nat) : decide (sgn b N < 0) = (b && !decide (N = 0)) := by
  cases b
  · simp [sgn]
  · by_cases h : N = 0
    · simp [sgn, h]
    · simp [sgn, h]; omega
theorem sgn_self (Z : Int) : sgn (decide (Z < 0)) Z.natAbs = Z := by
  by_cases h : Z < 0
  · rw [decide_eq_true h]; simp [sgn]; omega
  · rw [decide_eq_false h]; simp [sgn]; omega

/-- A natural number told, the value known. -/
def NatTold2 (w w' : World) (e : Ending) (v : Value) (N : Nat) : Prop := e = .returned v ∧ NatIs w' v N ∧ Below w.heap.size w w'

theorem NatIs.storeAt {w : World} {v : Value} {N : Nat} {p : Addr} {x : Value} (h : NatIs w v N) (hs : w.cell? p = some x) (hx : ∀ ki z, x ≠ .int ki z) (u : Value) : NatIs (w.setCell p u) v N := by
  obtain ⟨a, n, c, f, rfl, ⟨h1, h2, h3, h4⟩, hv, ht⟩ := h
  refine ⟨a, n, c, f, rfl, ⟨h1, h2, h3, ?_⟩, hv, ht⟩
  rcases h4 with h4 | ⟨b, off, rfl, hb, hc⟩
  · exact .inl h4
  · refine .inr ⟨b, off, rfl, by simpa using hb, fun j hj => ?_⟩
    rw [World.cell?_setCell_other _ _ _ _ (fun e' => ?_)]
    · exact hc j hj
    · have h5 := hc j hj
      rw [show (⟨b, off + j, none⟩ : Addr) = p from by first | exact e' | exact e'.symm, hs] at h5
      exact hx _ _ (Option.some.inj h5)

/-- An integer's block, written whole. -/
theorem IntTold.done {w w2 : World} {k : Nat} {x : Value} {m0 : Bool} {a : Option Addr} {n c : Nat} {m : Bool} {Z : Int} (hb : Below w.heap.size w w2) (hk : w.heap.size ≤ k) (hs : Slot2 w2 k x (.bool m0)) (hx : ∀ ki z, x ≠ .int ki z) (h : IntAt w2 a n c m Z) :
    IntTold w ((w2.setCell ⟨k, 0, none⟩ (.slice a n c)).setCell ⟨k, 1, none⟩ (.bool m)) (.returned (.agg #[.slice a n c, .bool m])) Z := by
  refine ⟨a, n, c, m, rfl, ⟨h.1, ?_⟩, (hb.setCell hk _).setCell hk _⟩
  refine (h.2.storeAt hs.cell hx _).storeAt (x := .bool m0) ?_ (fun _ _ h => by cases h) _
  rw [World.cell?_setCell_other _ _ _ _ (fun e => by cases e)]
  exact hs.cell1

theorem Slot2.set {w : World} {k : Nat} {x y : Value} (h : Slot2 w k x y) (u v : Value) : ((w.setCell ⟨k, 0, none⟩ u).setCell ⟨k, 1, none⟩ v).cell? ⟨k, 0, none⟩ = some u ∧ ((w.setCell ⟨k, 0, none⟩ u).setCell ⟨k, 1, none⟩ v).cell? ⟨k, 1, none⟩ = some v := by
  refine ⟨?_, ?_⟩
  · rw [World.cell?_setCell_other _ _ _ _ (fun e => by cases e)]
    exact World.cell?_setCell_same _ _ _ h.cell
  · refine World.cell?_setCell_same (u := y) _ _ _ ?_
    rw [World.cell?_setCell_other _ _ _ _ (fun e => by cases e)]
    exact h.cell1

/-- An integer's block, whatever it holds. -/
def RS (y : World) (k : Nat) : Prop := ∃ x b, Slot2 y k x (.bool b) ∧ ∀ ki z, x ≠ .int ki z
theorem RS.below {w w' : World} {k : Nat} (h : RS w k) (hb : Below w.heap.size w w') : RS w' k := by
  obtain ⟨x, b, h1, h2⟩ := h; exact ⟨x, b, h1.below hb, h2⟩
theorem Slot2.rs {w : World} {k : Nat} {a : Option Addr} {n c : Nat} {b : Bool} (h : Slot2 w k (.slice a n c) (.bool b)) : RS w k := ⟨_, _, h, fun _ _ h => by cases h⟩
/-- An integer stored into its block. -/
def putI (y : World) (k : Nat) (a : Option Addr) (n c : Nat) (b : Bool) : World := (y.setCell ⟨k, 0, none⟩ (.slice a n c)).setCell ⟨k, 1, none⟩ (.bool b)
theorem RS.frozen {w : World} {k : Nat} (h : RS w k) : w.frozen? ⟨k, 0, none⟩ = false ∧ w.frozen? ⟨k, 1, none⟩ = false := by
  obtain ⟨x, b, h1, _⟩ := h; exact ⟨h1.free, h1.free1⟩
theorem RS.lt {w : World} {k : Nat} (h : RS w k) : k < w.heap.size := by
  obtain ⟨x, b, h1, _⟩ := h; exact h1.lt
theorem RS.ex {w : World} {k : Nat} (h : RS w k) : (∃ x, w.cell? ⟨k, 0, none⟩ = some x) ∧ ∃ x, w.cell? ⟨k, 1, none⟩ = some x := by
  obtain ⟨x, b, h1, _⟩ := h; exact ⟨⟨_, h1.cell⟩, ⟨_, h1.cell1⟩⟩
theorem RS.cells {w : World} {k : Nat} (h : RS w k) (a : Option Addr) (n c : Nat) (b : Bool) : (putI w k a n c b).cell? ⟨k, 0, none⟩ = some (.slice a n c) ∧ (putI w k a n c b).cell? ⟨k, 1, none⟩ = some (.bool b) := by
  obtain ⟨x, b', h1, _⟩ := h; exact h1.set _ _
theorem RS.slotted {w : World} {k : Nat} (h : RS w k) (a : Option Addr) (n c : Nat) (b : Bool) : Slot2 (putI w k a n c b) k (.slice a n c) (.bool b) := by
  obtain ⟨x, b', h1, _⟩ := h
  exact ⟨(h1.set _ _).1, (h1.set _ _).2, by simp [putI, h1.free], by simp [putI, h1.free1], by simpa [putI] using h1.lt⟩
theorem RS.put {w : World} {k j : Nat} (h : RS w j) (a : Option Addr) (n c : Nat) (b : Bool) : RS (putI w k a n c b) j := by
  obtain ⟨x, b', h1, h2⟩ := h
  by_cases e : j = k
  · subst e
    have := h1.set (.slice a n c) (.bool b)
    exact ⟨_, _, ⟨this.1, this.2, by simp [putI, h1.free], by simp [putI, h1.free1], by simpa [putI] using h1.lt⟩, fun _ _ h => by cases h⟩
  · refine ⟨x, b', ⟨?_, ?_, by simp [putI, h1.free], by simp [putI, h1.free1], by simpa [putI] using h1.lt⟩, h2⟩
    · unfold putI; rw [World.cell?_setCell_other _ _ _ _ (fun e' => by cases e'), World.cell?_setCell_other _ _ _ _ (fun e' => e (by cases e'; rfl))]; exact h1.cell
    · unfold putI; rw [World.cell?_setCell_other _ _ _ _ (fun e' => e (by cases e'; rfl)), World.cell?_setCell_other _ _ _ _ (fun e' => by cases e')]; exact h1.cell1
theorem Slot2.put {w : World} {k j : Nat} {x z : Value} (h1 : Slot2 w j x z) (e : j ≠ k) (a : Option Addr) (n c : Nat) (b : Bool) : Slot2 (putI w k a n c b) j x z := by
  refine ⟨?_, ?_, by simp [putI, h1.free], by simp [putI, h1.free1], by simpa [putI] using h1.lt⟩
  · unfold putI; rw [World.cell?_setCell_other _ _ _ _ (fun e' => by cases e' <;> exact e rfl), World.cell?_setCell_other _ _ _ _ (fun e' => by cases e' <;> exact e rfl)]; exact h1.cell
  · unfold putI; rw [World.cell?_setCell_other _ _ _ _ (fun e' => by cases e' <;> exact e rfl), World.cell?_setCell_other _ _ _ _ (fun e' => by cases e' <;> exact e rfl)]; exact h1.cell1
theorem Slot.put {w : World} {k j : Nat} {x : Value} (h1 : Slot w j x) (e : j ≠ k) (a : Option Addr) (n c : Nat) (b : Bool) : Slot (putI w k a n c b) j x := by
  refine ⟨?_, by simp [putI, h1.free], by simpa [putI] using h1.lt⟩
  unfold putI; rw [World.cell?_setCell_other _ _ _ _ (fun e' => by cases e' <;> exact e rfl), World.cell?_setCell_other _ _ _ _ (fun e' => by cases e' <;> exact e rfl)]; exact h1.cell
theorem NatIs.put {w : World} {k : Nat} {v : Value} {N : Nat} (q : NatIs w v N) (h : RS w k) (a : Option Addr) (n c : Nat) (b : Bool) : NatIs (putI w k a n c b) v N := by
  obtain ⟨x, b', h1, h2⟩ := h
  refine (q.storeAt h1.cell h2 _).storeAt (x := .bool b') ?_ (fun _ _ h => by cases h) _
  rw [World.cell?_setCell_other _ _ _ _ (fun e => by cases e)]
  exact h1.cell1
theorem IntAt.put {w : World} {k : Nat} {a' : Option Addr} {n' c' : Nat} {m : Bool} {Z : Int} (q : IntAt w a' n' c' m Z) (h : RS w k) (a : Option Addr) (n c : Nat) (b : Bool) : IntAt (putI w k a n c b) a' n' c' m Z := ⟨q.1, q.2.put h a n c b⟩
theorem Bag.put {w0 w : World} {P : World → Prop} (h : Bag w0 P w) {k : Nat} (hk : w0.heap.size ≤ k) {a : Option Addr} {n c : Nat} {b : Bool} (hp : P w → P (putI w k a n c b)) : Bag w0 P (putI w k a n c b) :=
  ⟨(h.below.setCell hk _).setCell hk _, h.stay, hp h.now⟩
theorem IntTold.fin {w w2 : World} {k : Nat} {a : Option Addr} {n c : Nat} {m : Bool} {Z : Int} (hb : Below w.heap.size w w2) (hk : w.heap.size ≤ k) (hs : RS w2 k) (h : IntAt w2 a n c m Z) :
    IntTold w (putI w2 k a n c m) (.returned (.agg #[.slice a n c, .bool m])) Z :=
  ⟨a, n, c, m, rfl, h.put hs a n c m, (hb.setCell hk _).setCell hk _⟩

end Go.Proofs.Ytgpcfncolhmgfaa

namespace Go.Proofs.Ytgpcfncolhmgfaa
open Go.RowKit
attribute [local go_sem ↓] Go.wp_at_zero Go.wp_at_succ

theorem Bag.int {w0 w : World} {P : World → Prop} {a : Option Addr} {n c : Nat} {m : Bool} {Z : Int} (h : Bag w0 P w) (q : IntAt w a n c m Z) : Bag w0 (fun y => IntAt y a n c m Z ∧ P y) w := h.add (fun _ _ hb q => q.below hb) q

def sgnI (Z : Int) : Int := if Z < 0 then -1 else if Z = 0 then 0 else 1

end Go.Proofs.Ytgpcfncolhmgfaa

namespace Go.Proofs.Ytgpcfncolhmgfaa
open Go.RowKit
attribute [local go_sem ↓] Go.wp_at_zero Go.wp_at_succ

def digS (Z : Int) (sg : ByteArray) : ByteArray := if Z < 0 then sg ++ str (dec Z.natAbs) else str (dec Z.natAbs)

def cmpZ (Z Y : Int) : Int := if Z < Y then -1 else if Z = Y then 0 else 1

/-- The number, if it fits 64 bits. -/
def fitB (Z : Int) : Bool := decide (-9223372036854775808 ≤ Z ∧ Z ≤ 9223372036854775807)
def fitI (Z : Int) : Int := if fitB Z then Z else 0

theorem ret_ib {k : IntKind} {a b : Int} {x y : Bool} (h : a = b) (h' : x = y) : Ending.returned (.tuple #[.int k a, .bool x]) = .returned (.tuple #[.int k b, .bool y]) := by rw [h, h']

end Go.Proofs.Ytgpcfncolhmgfaa

namespace Go.Proofs.Ytgpcfncolhmgfaa
open Go.RowKit

theorem dec_small {N : Nat} (h : N < 10) : dec N = [UInt8.ofNat (48 + N)] := by
  have : dl N = 1 := by unfold dl; rw [dif_pos h]
  unfold dec; rw [this, sdig, sdig]
  unfold dgt
  rw [Nat.pow_zero, Nat.div_one, Nat.mod_eq_of_lt h]

/-- A number that is told, its value's parts named. -/
def NatTold (w w' : World) (e : Ending) (N : Nat) : Prop := ∃ a n c, e = .returned (.agg #[.slice a n c]) ∧ NatIs w' (.agg #[.slice a n c]) N ∧ Below w.heap.size w w'
theorem NatOut.told {w w' : World} {e : Ending} {N : Nat} (h : NatOut w w' e N) : NatTold w w' e N := by
  obtain ⟨v, rfl, hv, hb⟩ := h
  obtain ⟨a, n, c, f, rfl, hs, hv, ht⟩ := hv
  exact ⟨a, n, c, rfl, ⟨a, n, c, f, rfl, hs, hv, ht⟩, hb⟩
theorem NatIs.alloc {w : World} {v : Value} {N : Nat} (h : NatIs w v N) (o : Obj) : NatIs (w.alloc o) v N := h.below ((Below.refl _ _).alloc (Nat.le_refl _) _)

def Parse7 (w w' : World) (e : Ending) : Prop := ∃ a n c, e = .returned (.tuple #[.agg #[.slice a n c], .bool true]) ∧ NatIs w' (.agg #[.slice a n c]) 7 ∧ Below w.heap.size w w'
def Div104 (w w' : World) (e : Ending) : Prop := ∃ a n c a2 n2 c2, e = .returned (.tuple #[.agg #[.slice a n c], .agg #[.slice a2 n2 c2], .bool true]) ∧ NatIs w' (.agg #[.slice a n c]) 2 ∧ NatIs w' (.agg #[.slice a2 n2 c2]) 2 ∧ Below w.heap.size w w'
end Go.Proofs.Ytgpcfncolhmgfaa

