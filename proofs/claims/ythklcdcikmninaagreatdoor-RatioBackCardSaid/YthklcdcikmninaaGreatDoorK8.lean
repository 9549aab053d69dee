/-
  The document's answers (package typeballref02): Of, Sign, Cmp, Minus, Digits, From, by contract.
  The document's answers (package typeballref02): Add, Mul, by contract.
  The document's answers (package typeballref02): Small, Read, by contract; package typeballlaw02: read.
-/
import Derived.Test.YthklcdcikmninaaGreatDoorK6
import Derived.Test.YthklcdcikmninaaGreatDoorK4
import Derived.Test.YthklcdcikmninaaGreatDoorWh6
import Derived.Test.YthklcdcikmninaaGreatDoorK5
import Derived.Test.YthklcdcikmninaaGreatDoorK3
namespace Go.Proofs.YthklcdcikmninaaGreatDoor
open Go.RowKit
attribute [local go_sem ↓] Go.wp_at_zero Go.wp_at_succ

/-- A whole number's fields in the document's answers. -/
def rB (Z : Int) : Bool := decide (Z < 0)
def rS (Z : Int) : ByteArray := str (dec Z.natAbs)
def RTold (w w' : World) (e : Ending) (Z : Int) : Prop := e = .returned (.agg #[.bool (rB Z), .string (rS Z)]) ∧ Below w.heap.size w w'

/-- Two cells of a block stored. -/
def put2 (y : World) (k : Nat) (x z : Value) : World := (y.setCell ⟨k, 0, none⟩ x).setCell ⟨k, 1, none⟩ z
theorem RTold.fin {w w2 : World} {k : Nat} {Y : Int} {b : Bool} {t : ByteArray} (hb : Below w.heap.size w w2) (hk : w.heap.size ≤ k) (h1 : rB Y = b) (h2 : rS Y = t) : RTold w (put2 w2 k (.bool b) (.string t)) (.returned (.agg #[.bool b, .string t])) Y :=
  ⟨by rw [h1, h2], (hb.setCell hk _).setCell hk _⟩

theorem rS_size (Z : Int) : (rS Z).size = dl Z.natAbs := by unfold rS; rw [str_size]; exact sdig_length _ _
theorem dec_is0 (N : Nat) : ((str (dec N)).toList == [48]) = decide (N = 0) := by
  have e : (str (dec N)).toList = dec N := by rw [ByteArray.toList_eq]; rfl
  rw [e, Bool.eq_iff_iff, beq_iff_eq, decide_eq_true_eq]
  constructor
  · intro h
    have := congrArg numOf h
    unfold dec at this
    rw [numOf_sdig, Nat.mod_eq_of_lt (dl_lt N)] at this
    simpa [numOf] using this
  · intro h; rw [h, dec_zero]
theorem rS_is0 (Z : Int) : ((rS Z).toList == [48]) = decide (Z = 0) := by
  unfold rS; rw [dec_is0]
  by_cases h : Z = 0
  · rw [decide_eq_true h, decide_eq_true (by omega)]
  · rw [decide_eq_false h, decide_eq_false (by omega)]

theorem rsgn_B (b : Bool) (N : Nat) : rB (sgn b N) = (b && !decide (N = 0)) := sgn_neg b N
theorem rsgn_S (b : Bool) (N : Nat) : rS (sgn b N) = str (dec N) := by unfold rS; rw [sgn_abs]

theorem rDig_is (Z : Int) (sg : ByteArray) : digS Z sg = if rB Z then sg ++ rS Z else rS Z := by
  unfold digS rB rS
  by_cases h2 : Z < 0
  · rw [if_pos h2, decide_eq_true h2]; rfl
  · rw [if_neg h2, decide_eq_false h2]; rfl

theorem cmpZ_sgn {Z Y : Int} (h : sgnI Z ≠ sgnI Y) : cmpZ Z Y = if sgnI Z < sgnI Y then -1 else 1 := by
  unfold cmpZ sgnI at *
  (repeat' split at h) <;> (repeat' split) <;> omega
theorem cmpZ_abs {Z Y : Int} (h : sgnI Z = sgnI Y) : cmpZ Z Y = if rB Z then cmpI Y.natAbs Z.natAbs else cmpI Z.natAbs Y.natAbs := by
  unfold cmpZ sgnI rB cmpI at *
  by_cases h1 : Z < 0
  · rw [decide_eq_true h1]; (repeat' split at h) <;> simp only [if_true] <;> (repeat' split) <;> omega
  · rw [decide_eq_false h1]; (repeat' split at h) <;> simp only [Bool.false_eq_true, if_false] <;> (repeat' split) <;> omega

end Go.Proofs.YthklcdcikmninaaGreatDoor

namespace Go.Proofs.YthklcdcikmninaaGreatDoor
open Go.RowKit
attribute [local go_sem ↓] Go.wp_at_zero Go.wp_at_succ

def RX (y : World) (k : Nat) : Prop := ∃ x z, Slot2 y k x z
theorem RX.below {w w' : World} {k : Nat} (h : RX w k) (hb : Below w.heap.size w w') : RX w' k := by
  obtain ⟨x, z, h1⟩ := h; exact ⟨x, z, h1.below hb⟩
theorem Slot2.put2s {w : World} {k : Nat} {x z : Value} (h : Slot2 w k x z) (u v : Value) : Slot2 (put2 w k u v) k u v :=
  ⟨(h.set u v).1, (h.set u v).2, by simp [put2, h.free], by simp [put2, h.free1], by simpa [put2] using h.lt⟩
theorem Slot2.put2o {w : World} {k j : Nat} {x z : Value} (h1 : Slot2 w j x z) (e : j ≠ k) (u v : Value) : Slot2 (put2 w k u v) j x z := by
  refine ⟨?_, ?_, by simp [put2, h1.free], by simp [put2, h1.free1], by simpa [put2] using h1.lt⟩
  · unfold put2; rw [World.cell?_setCell_other _ _ _ _ (fun e' => by cases e' <;> exact e rfl), World.cell?_setCell_other _ _ _ _ (fun e' => by cases e' <;> exact e rfl)]; exact h1.cell
  · unfold put2; rw [World.cell?_setCell_other _ _ _ _ (fun e' => by cases e' <;> exact e rfl), World.cell?_setCell_other _ _ _ _ (fun e' => by cases e' <;> exact e rfl)]; exact h1.cell1
theorem RX.put2 {w : World} {k j : Nat} (h : RX w j) (u v : Value) : RX (put2 w k u v) j := by
  obtain ⟨x, z, h1⟩ := h
  by_cases e : j = k
  · subst e; exact ⟨_, _, h1.put2s u v⟩
  · exact ⟨_, _, h1.put2o e u v⟩
theorem Bag.put2 {w0 w : World} {P : World → Prop} (h : Bag w0 P w) {k : Nat} (hk : w0.heap.size ≤ k) {u v : Value} (hp : P w → P (put2 w k u v)) : Bag w0 P (put2 w k u v) :=
  ⟨(h.below.setCell hk _).setCell hk _, h.stay, hp h.now⟩

/-- Two numbers' blocks, and the answer's. -/
def BP (k : Nat) (b : Bool) (s : ByteArray) (b2 : Bool) (s2 : ByteArray) (y : World) : Prop := RX y (k + 1 + 1) ∧ Slot2 y (k + 1) (.bool b2) (.string s2) ∧ Slot2 y k (.bool b) (.string s)
theorem BP.stay {k : Nat} {b : Bool} {s : ByteArray} {b2 : Bool} {s2 : ByteArray} : ∀ x y, Below x.heap.size x y → BP k b s b2 s2 x → BP k b s b2 s2 y := fun _ _ hb h => ⟨h.1.below hb, h.2.1.below hb, h.2.2.below hb⟩
theorem BP.put2 {k : Nat} {b : Bool} {s : ByteArray} {b2 : Bool} {s2 : ByteArray} {y : World} (h : BP k b s b2 s2 y) (u v : Value) : BP k b s b2 s2 (put2 y (k + 1 + 1) u v) := ⟨h.1.put2 u v, h.2.1.put2o (by omega) u v, h.2.2.put2o (by omega) u v⟩
theorem dl_add_le {x y k : Nat} (hx : dl x ≤ k) (hy : dl y ≤ k) : dl (x + y) ≤ k + 1 := by
  refine dl_le _ _ (by omega) ?_
  have h1 := dl_lt x
  have h2 := dl_lt y
  have h3 := Nat.pow_le_pow_right (show 0 < 10 by omega) hx
  have h4 := Nat.pow_le_pow_right (show 0 < 10 by omega) hy
  rw [Nat.pow_succ]; omega
theorem dl_mono {x y : Nat} (h : x ≤ y) : dl x ≤ dl y := dl_le _ _ (dl_pos y) (Nat.lt_of_le_of_lt h (dl_lt y))
theorem dl_mul_le {x y k m : Nat} (hx : dl x ≤ k) (hy : dl y ≤ m) : dl (x * y) ≤ k + m := by
  have h1 := dl_lt x
  have h2 := dl_lt y
  have h3 := Nat.pow_le_pow_right (show 0 < 10 by omega) hx
  have h4 := Nat.pow_le_pow_right (show 0 < 10 by omega) hy
  have := dl_pos x
  refine dl_le _ _ (by omega) ?_
  rw [Nat.pow_add]
  have a1 : x * y ≤ x * 10 ^ m := Nat.mul_le_mul_left _ (by omega)
  have a2 : x * 10 ^ m < 10 ^ k * 10 ^ m := Nat.mul_lt_mul_of_pos_right (by omega) (Nat.pow_pos (by omega))
  omega

end Go.Proofs.YthklcdcikmninaaGreatDoor

namespace Go.Proofs.YthklcdcikmninaaGreatDoor
open Go.RowKit
attribute [local go_sem ↓] Go.wp_at_zero Go.wp_at_succ

/-- Does a text begin with a hyphen, and what stands behind it. -/
def rdN (l : List UInt8) : Bool := l.head? == some 45
def rdL (l : List UInt8) : List UInt8 := if rdN l then l.tail else l
def rdO (l : List UInt8) : Bool := okB (rdL l)
def rdZ (l : List UInt8) : Int := if rdO l then sgn (rdN l) (numOf (rdL l)) else 0

/-- What Read tells. -/
def ReadR (w w' : World) (e : Ending) (l : List UInt8) : Prop := e = .returned (.tuple #[.agg #[.bool (rB (rdZ l)), .string (rS (rdZ l))], .bool (rdO l)]) ∧ Below w.heap.size w w'

end Go.Proofs.YthklcdcikmninaaGreatDoor

