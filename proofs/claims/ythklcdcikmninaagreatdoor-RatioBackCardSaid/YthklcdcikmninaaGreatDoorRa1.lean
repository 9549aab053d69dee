/-
  Fractions in lowest terms: the arithmetic.
  Package ratio: what a number in memory is; Whole, Top, IsWhole, Bot, below, Sign, by contract.
  Package ratio: fraction, lowest, New, by contract.
  Package ratio: New, by contract.
  Which digits are a number: what ratio.Of answers, in the document's words.
-/
import Derived.Test.YthklcdcikmninaaGreatDoorK8
import Derived.Test.YthklcdcikmninaaGreatDoorK6
import Derived.Test.YthklcdcikmninaaGreatDoorNat24
import Derived.Test.YthklcdcikmninaaGreatDoorK9
namespace Go.Proofs.YthklcdcikmninaaGreatDoor
open Go.RowKit

/-- The numerator and the denominator in lowest terms. -/
def rg (P : Int) (Q : Nat) : Nat := Nat.gcd P.natAbs Q
def loP (P : Int) (Q : Nat) : Int := sgn (decide (P < 0)) (P.natAbs / rg P Q)
def loQ (P : Int) (Q : Nat) : Nat := Q / rg P Q

theorem rg_pos (P : Int) {Q : Nat} (h : 0 < Q) : 0 < rg P Q := Nat.gcd_pos_of_pos_right _ h
theorem loP_abs (P : Int) (Q : Nat) : (loP P Q).natAbs = P.natAbs / rg P Q := sgn_abs _ _
theorem loP_absle (P : Int) (Q : Nat) : (loP P Q).natAbs ≤ P.natAbs := by rw [loP_abs]; exact Nat.div_le_self _ _
theorem loQ_le (P : Int) (Q : Nat) : loQ P Q ≤ Q := Nat.div_le_self _ _
theorem loQ_pos (P : Int) {Q : Nat} (h : 0 < Q) : 0 < loQ P Q :=
  Nat.div_pos (Nat.le_of_dvd h (Nat.gcd_dvd_right _ _)) (rg_pos P h)
theorem loQ_mul (P : Int) (Q : Nat) : rg P Q * loQ P Q = Q := Nat.mul_div_cancel' (Nat.gcd_dvd_right _ _)
theorem loP_mulA (P : Int) (Q : Nat) : rg P Q * (loP P Q).natAbs = P.natAbs := by rw [loP_abs]; exact Nat.mul_div_cancel' (Nat.gcd_dvd_left _ _)
theorem sgn_times (b : Bool) (N M : Nat) : sgn b (N * M) = N * sgn b M := by
  cases b <;> simp [sgn, Int.mul_neg]
theorem loP_mul (P : Int) (Q : Nat) : (rg P Q : Int) * loP P Q = P := by
  unfold loP
  rw [← sgn_times, show rg P Q * (P.natAbs / rg P Q) = P.natAbs from Nat.mul_div_cancel' (Nat.gcd_dvd_left _ _), sgn_self]
theorem loP_zero {P : Int} {Q : Nat} : loP P Q = 0 ↔ P = 0 := by
  constructor
  · intro h1
    have := loP_mul P Q
    rw [h1] at this; omega
  · intro h1
    have := loP_absle P Q
    rw [h1] at this ⊢
    omega
theorem loP_neg {P : Int} {Q : Nat} : decide (loP P Q < 0) = decide (P < 0) := by
  have h1 : (P.natAbs / rg P Q = 0) ↔ P = 0 := by
    rw [← loP_abs]
    have := loP_zero (P := P) (Q := Q)
    constructor
    · intro h2; exact this.1 (by omega)
    · intro h2; rw [this.2 h2]; rfl
  unfold loP
  rw [sgn_neg]
  by_cases h2 : P < 0
  · rw [decide_eq_true h2, decide_eq_false (fun h3 => by have := h1.1 h3; omega)]; rfl
  · rw [decide_eq_false h2]; rfl
theorem lo_cop (P : Int) {Q : Nat} (h : 0 < Q) : Nat.gcd (loP P Q).natAbs (loQ P Q) = 1 := by
  rw [loP_abs]
  exact Nat.Coprime.gcd_eq_one (Nat.coprime_div_gcd_div_gcd (rg_pos P h))
theorem lo_one {P : Int} {Q : Nat} (h : Nat.gcd P.natAbs Q = 1) : loP P Q = P ∧ loQ P Q = Q := by
  have h1 : rg P Q = 1 := h
  unfold loP loQ
  rw [h1, Nat.div_one, Nat.div_one, sgn_self]
  exact ⟨rfl, rfl⟩
theorem lo_cross (P : Int) (Q : Nat) : loP P Q * Q = P * loQ P Q := by
  have h1 := loP_mul P Q
  have h2 : ((rg P Q : Int) * (loQ P Q : Int)) = Q := by rw [← Int.natCast_mul, loQ_mul]
  calc loP P Q * Q = loP P Q * (rg P Q * loQ P Q) := by rw [h2]
    _ = (rg P Q * loP P Q) * loQ P Q := by rw [← Int.mul_assoc, Int.mul_comm (loP P Q)]
    _ = P * loQ P Q := by rw [h1]

/-- Two fractions in lowest terms that are the same number are the same. -/
theorem lo_uniq {P P' : Int} {Q Q' : Nat} (h : 0 < Q) (h' : 0 < Q') (c : Nat.gcd P.natAbs Q = 1) (c' : Nat.gcd P'.natAbs Q' = 1) (e : P * Q' = P' * Q) : P = P' ∧ Q = Q' := by
  have e1 : P.natAbs * Q' = P'.natAbs * Q := by
    have := congrArg Int.natAbs e
    rw [Int.natAbs_mul, Int.natAbs_mul, Int.natAbs_natCast, Int.natAbs_natCast] at this
    exact this
  have d1 : Q ∣ Q' := by
    have : Q ∣ P.natAbs * Q' := ⟨P'.natAbs, by rw [e1, Nat.mul_comm]⟩
    exact Nat.Coprime.dvd_of_dvd_mul_left (show Nat.Coprime Q P.natAbs by unfold Nat.Coprime; rw [Nat.gcd_comm]; exact c) this
  have d2 : Q' ∣ Q := by
    have : Q' ∣ P'.natAbs * Q := ⟨P.natAbs, by rw [← e1, Nat.mul_comm]⟩
    exact Nat.Coprime.dvd_of_dvd_mul_left (show Nat.Coprime Q' P'.natAbs by unfold Nat.Coprime; rw [Nat.gcd_comm]; exact c') this
  have hq : Q = Q' := Nat.dvd_antisymm d1 d2
  subst hq
  exact ⟨Int.eq_of_mul_eq_mul_right (by omega) e, rfl⟩
theorem lo_same {P P' : Int} {Q Q' : Nat} (h : 0 < Q) (h' : 0 < Q') (e : P * Q' = P' * Q) : loP P Q = loP P' Q' ∧ loQ P Q = loQ P' Q' := by
  refine lo_uniq (loQ_pos P h) (loQ_pos P' h') (lo_cop P h) (lo_cop P' h') ?_
  have a1 := loP_mul P Q
  have a2 := loP_mul P' Q'
  have b1 : ((rg P Q : Int) * (loQ P Q : Int)) = Q := by rw [← Int.natCast_mul, loQ_mul]
  have b2 : ((rg P' Q' : Int) * (loQ P' Q' : Int)) = Q' := by rw [← Int.natCast_mul, loQ_mul]
  have g1 : (0 : Int) < rg P Q := by have := rg_pos P h; omega
  have g2 : (0 : Int) < rg P' Q' := by have := rg_pos P' h'; omega
  refine Int.eq_of_mul_eq_mul_left (a := (rg P Q : Int) * (rg P' Q' : Int)) (Int.ne_of_gt (Int.mul_pos g1 g2)) ?_
  calc (rg P Q : Int) * rg P' Q' * (loP P Q * loQ P' Q') = (rg P Q * loP P Q) * (rg P' Q' * loQ P' Q') := by
        rw [Int.mul_assoc, Int.mul_assoc, ← Int.mul_assoc (rg P' Q' : Int), Int.mul_comm (rg P' Q' : Int) (loP P Q), Int.mul_assoc]
    _ = P * Q' := by rw [a1, b2]
    _ = P' * Q := e
    _ = (rg P' Q' * loP P' Q') * (rg P Q * loQ P Q) := by rw [a2, b1]
    _ = (rg P Q : Int) * rg P' Q' * (loP P' Q' * loQ P Q) := by
        rw [Int.mul_comm (rg P Q : Int) (rg P' Q' : Int), Int.mul_assoc, Int.mul_assoc, ← Int.mul_assoc (rg P Q : Int), Int.mul_comm (rg P Q : Int) (loP P' Q'), Int.mul_assoc]

/-- The sign of the denominator goes up. -/
def upZ (P Y : Int) : Int := if Y < 0 then -P else P
theorem upZ_abs (P Y : Int) : (upZ P Y).natAbs = P.natAbs := by unfold upZ; split <;> omega
theorem upZ_sgn (P Y : Int) : decide (upZ P Y < 0) = ((decide (P < 0) != decide (Y < 0)) && !decide (P = 0)) := by
  unfold upZ
  by_cases h : Y < 0
  · rw [if_pos h, decide_eq_true h]
    by_cases h1 : P < 0
    · rw [decide_eq_true h1, decide_eq_false (by omega)]; rfl
    · rw [decide_eq_false h1]
      by_cases h2 : P = 0
      · rw [decide_eq_false (by omega), decide_eq_true h2]; rfl
      · rw [decide_eq_true (by omega), decide_eq_false h2]; rfl
  · rw [if_neg h, decide_eq_false h]
    by_cases h1 : P < 0
    · rw [decide_eq_true h1, decide_eq_false (by omega)]; rfl
    · rw [decide_eq_false h1]; rfl

end Go.Proofs.YthklcdcikmninaaGreatDoor

namespace Go.Proofs.YthklcdcikmninaaGreatDoor
open Go.RowKit
attribute [local go_sem ↓] Go.wp_at_zero Go.wp_at_succ

/-- Three cells of a block. -/
structure Slot3 (w : World) (k : Nat) (x y z : Value) : Prop where
  cell : w.cell? ⟨k, 0, none⟩ = some x
  cell1 : w.cell? ⟨k, 1, none⟩ = some y
  cell2 : w.cell? ⟨k, 2, none⟩ = some z
  free : w.frozen? ⟨k, 0, none⟩ = false
  free1 : w.frozen? ⟨k, 1, none⟩ = false
  free2 : w.frozen? ⟨k, 2, none⟩ = false
  lt : k < w.heap.size
theorem Slot3.below {w w' : World} {k : Nat} {x y z : Value} (h : Slot3 w k x y z) (hb : Below w.heap.size w w') : Slot3 w' k x y z :=
  ⟨(hb.cell (p := ⟨k, 0, none⟩) h.lt).trans h.cell, (hb.cell (p := ⟨k, 1, none⟩) h.lt).trans h.cell1, (hb.cell (p := ⟨k, 2, none⟩) h.lt).trans h.cell2,
    (hb.frozen (p := ⟨k, 0, none⟩) h.lt).trans h.free, (hb.frozen (p := ⟨k, 1, none⟩) h.lt).trans h.free1, (hb.frozen (p := ⟨k, 2, none⟩) h.lt).trans h.free2, Nat.lt_of_lt_of_le h.lt hb.size⟩
theorem Slot3.new (w : World) (x y z : Value) (t : TypeId) : Slot3 (w.alloc (.cells #[x, y, z] t)) w.heap.size x y z := by
  refine ⟨?_, ?_, ?_, World.frozen?_alloc_new _ _ _ _, World.frozen?_alloc_new _ _ _ _, World.frozen?_alloc_new _ _ _ _, by rw [World.size_alloc]; omega⟩
  · rw [World.cell?_alloc_new]; rfl
  · rw [World.cell?_alloc_new]; rfl
  · rw [World.cell?_alloc_new]; rfl
theorem Bag.slot3 {w0 w : World} {P : World → Prop} {k : Nat} {x y z : Value} (h : Bag w0 P w) (q : Slot3 w k x y z) : Bag w0 (fun v => Slot3 v k x y z ∧ P v) w := h.add (fun _ _ hb q => q.below hb) q
theorem Bag.box3 {w0 w : World} {P : World → Prop} (h : Bag w0 P w) (x y z : Value) (t : TypeId) : Bag w0 (fun v => Slot3 v w.heap.size x y z ∧ P v) (w.alloc (.cells #[x, y, z] t)) :=
  (h.alloc _).slot3 (Slot3.new w x y z t)

/-- The denominator as it is kept. -/
def lowN (Q : Nat) : Nat := if Q = 1 then 0 else Q
/-- The fields of a number, read as P by Q. -/
def RatAt (w : World) (a : Option Addr) (n c : Nat) (m : Bool) (a2 : Option Addr) (n2 c2 : Nat) (P : Int) (Q : Nat) : Prop := IntAt w a n c m P ∧ NatIs w (.agg #[.slice a2 n2 c2]) (lowN Q)
theorem RatAt.below {w w' : World} {a : Option Addr} {n c : Nat} {m : Bool} {a2 : Option Addr} {n2 c2 : Nat} {P : Int} {Q : Nat} (h : RatAt w a n c m a2 n2 c2 P Q) (hb : Below w.heap.size w w') : RatAt w' a n c m a2 n2 c2 P Q := ⟨h.1.below hb, h.2.below hb⟩
theorem Bag.rat {w0 w : World} {B : World → Prop} {a : Option Addr} {n c : Nat} {m : Bool} {a2 : Option Addr} {n2 c2 : Nat} {P : Int} {Q : Nat} (h : Bag w0 B w) (q : RatAt w a n c m a2 n2 c2 P Q) : Bag w0 (fun y => RatAt y a n c m a2 n2 c2 P Q ∧ B y) w := h.add (fun _ _ hb q => q.below hb) q
def RatTold (w w' : World) (e : Ending) (P : Int) (Q : Nat) : Prop := ∃ a n c m a2 n2 c2, e = .returned (.agg #[.slice a n c, .bool m, .slice a2 n2 c2]) ∧ RatAt w' a n c m a2 n2 c2 P Q ∧ Below w.heap.size w w'
def IntTold2 (w w' : World) (e : Ending) (a : Option Addr) (n c : Nat) (m : Bool) (Z : Int) : Prop := e = .returned (.agg #[.slice a n c, .bool m]) ∧ IntAt w' a n c m Z ∧ Below w.heap.size w w'

/-- Three cells of a block stored. -/
theorem Slot3.set {w : World} {k : Nat} {x y z : Value} (h : Slot3 w k x y z) (u v t : Value) :
    (((w.setCell ⟨k, 0, none⟩ u).setCell ⟨k, 1, none⟩ v).setCell ⟨k, 2, none⟩ t).cell? ⟨k, 0, none⟩ = some u ∧ (((w.setCell ⟨k, 0, none⟩ u).setCell ⟨k, 1, none⟩ v).setCell ⟨k, 2, none⟩ t).cell? ⟨k, 1, none⟩ = some v ∧ (((w.setCell ⟨k, 0, none⟩ u).setCell ⟨k, 1, none⟩ v).setCell ⟨k, 2, none⟩ t).cell? ⟨k, 2, none⟩ = some t := by
  refine ⟨?_, ?_, ?_⟩
  · rw [World.cell?_setCell_other _ _ _ _ (fun e => by cases e), World.cell?_setCell_other _ _ _ _ (fun e => by cases e)]
    exact World.cell?_setCell_same _ _ _ h.cell
  · rw [World.cell?_setCell_other _ _ _ _ (fun e => by cases e)]
    refine World.cell?_setCell_same (u := y) _ _ _ ?_
    rw [World.cell?_setCell_other _ _ _ _ (fun e => by cases e)]
    exact h.cell1
  · refine World.cell?_setCell_same (u := z) _ _ _ ?_
    rw [World.cell?_setCell_other _ _ _ _ (fun e => by cases e), World.cell?_setCell_other _ _ _ _ (fun e => by cases e)]
    exact h.cell2
theorem NatIs.set3 {w : World} {k : Nat} {x y z : Value} {v : Value} {N : Nat} (q : NatIs w v N) (h : Slot3 w k x y z) (hx : ∀ ki i, x ≠ .int ki i) (hy : ∀ ki i, y ≠ .int ki i) (hz : ∀ ki i, z ≠ .int ki i) (u v' t : Value) :
    NatIs (((w.setCell ⟨k, 0, none⟩ u).setCell ⟨k, 1, none⟩ v').setCell ⟨k, 2, none⟩ t) v N := by
  refine ((q.storeAt h.cell hx _).storeAt (x := y) ?_ hy _).storeAt (x := z) ?_ hz _
  · rw [World.cell?_setCell_other _ _ _ _ (fun e => by cases e)]
    exact h.cell1
  · rw [World.cell?_setCell_other _ _ _ _ (fun e => by cases e), World.cell?_setCell_other _ _ _ _ (fun e => by cases e)]
    exact h.cell2
theorem Slot3.set2 {w : World} {k : Nat} {x y z : Value} (h : Slot3 w k x y z) (u v : Value) : Slot3 ((w.setCell ⟨k, 0, none⟩ u).setCell ⟨k, 1, none⟩ v) k u v z := by
  refine ⟨?_, ?_, ?_, by simp [h.free], by simp [h.free1], by simp [h.free2], by simpa using h.lt⟩
  · rw [World.cell?_setCell_other _ _ _ _ (fun e => by cases e)]
    exact World.cell?_setCell_same _ _ _ h.cell
  · refine World.cell?_setCell_same (u := y) _ _ _ ?_
    rw [World.cell?_setCell_other _ _ _ _ (fun e => by cases e)]
    exact h.cell1
  · rw [World.cell?_setCell_other _ _ _ _ (fun e => by cases e), World.cell?_setCell_other _ _ _ _ (fun e => by cases e)]
    exact h.cell2
theorem Slot3.set2o {w : World} {k j : Nat} {x y z : Value} (h : Slot3 w j x y z) (e : j ≠ k) (u v : Value) : Slot3 ((w.setCell ⟨k, 0, none⟩ u).setCell ⟨k, 1, none⟩ v) j x y z := by
  have hn : ∀ o o' : Nat, (⟨k, o', none⟩ : Addr) ≠ ⟨j, o, none⟩ := fun o o' h => e (by cases h; rfl)
  refine ⟨?_, ?_, ?_, by simp [h.free], by simp [h.free1], by simp [h.free2], by simpa using h.lt⟩
  · rw [World.cell?_setCell_other _ _ _ _ (hn _ _), World.cell?_setCell_other _ _ _ _ (hn _ _)]; exact h.cell
  · rw [World.cell?_setCell_other _ _ _ _ (hn _ _), World.cell?_setCell_other _ _ _ _ (hn _ _)]; exact h.cell1
  · rw [World.cell?_setCell_other _ _ _ _ (hn _ _), World.cell?_setCell_other _ _ _ _ (hn _ _)]; exact h.cell2
theorem NatIs.set2 {w : World} {k : Nat} {x y z : Value} {v : Value} {N : Nat} (q : NatIs w v N) (h : Slot3 w k x y z) (hx : ∀ ki i, x ≠ .int ki i) (hy : ∀ ki i, y ≠ .int ki i) (u v' : Value) :
    NatIs ((w.setCell ⟨k, 0, none⟩ u).setCell ⟨k, 1, none⟩ v') v N := by
  refine (q.storeAt h.cell hx _).storeAt (x := y) ?_ hy _
  rw [World.cell?_setCell_other _ _ _ _ (fun e => by cases e)]
  exact h.cell1
theorem RatTold.done {w w2 : World} {k : Nat} {a0 : Option Addr} {n0 c0 : Nat} {m0 : Bool} {a1 : Option Addr} {n1 c1 : Nat} {a : Option Addr} {n c : Nat} {m : Bool} {a2 : Option Addr} {n2 c2 : Nat} {P : Int} {Q : Nat} (hb : Below w.heap.size w w2) (hk : w.heap.size ≤ k)
    (hs : Slot3 w2 k (.slice a0 n0 c0) (.bool m0) (.slice a1 n1 c1)) (h : RatAt w2 a n c m a2 n2 c2 P Q) :
    RatTold w (((w2.setCell ⟨k, 0, none⟩ (.slice a n c)).setCell ⟨k, 1, none⟩ (.bool m)).setCell ⟨k, 2, none⟩ (.slice a2 n2 c2)) (.returned (.agg #[.slice a n c, .bool m, .slice a2 n2 c2])) P Q :=
  ⟨a, n, c, m, a2, n2, c2, rfl, ⟨⟨h.1.1, h.1.2.set3 hs (fun _ _ h => by cases h) (fun _ _ h => by cases h) (fun _ _ h => by cases h) _ _ _⟩, h.2.set3 hs (fun _ _ h => by cases h) (fun _ _ h => by cases h) (fun _ _ h => by cases h) _ _ _⟩,
    ((hb.setCell hk _).setCell hk _).setCell hk _⟩
theorem NatTold.done {w w2 : World} {k : Nat} {a0 : Option Addr} {n0 c0 : Nat} {a : Option Addr} {n c N : Nat} (hb : Below w.heap.size w w2) (hk : w.heap.size ≤ k) (hs : Slot w2 k (.slice a0 n0 c0)) (h : NatIs w2 (.agg #[.slice a n c]) N) :
    NatTold w (w2.setCell ⟨k, 0, none⟩ (.slice a n c)) (.returned (.agg #[.slice a n c])) N :=
  ⟨a, n, c, rfl, h.storeAt hs.cell (fun _ _ h => by cases h) _, hb.setCell hk _⟩

theorem lowN_zero {Q : Nat} (h : 0 < Q) : decide (lowN Q = 0) = decide (Q = 1) := by
  unfold lowN
  by_cases h1 : Q = 1
  · rw [if_pos h1, decide_eq_true rfl, decide_eq_true h1]
  · rw [if_neg h1, decide_eq_false (by omega), decide_eq_false h1]

set_option maxHeartbeats 800000 in
set_option maxRecDepth 100000 in
theorem whole_any (a : Option Addr) (n c : Nat) (m : Bool) (Z : Int) (w : World) (h : IntAt w a n c m Z) :
    Calls Tryz.prog 41 #[.agg #[.slice a n c, .bool m]] w fun e w' => RatTold w w' e Z 1 := by
  have B0 := (((Bag.start w).int h).box2 (.slice a n c) (.bool m) 28).box3 (.slice a n c) (.bool m) (.slice none 0 0) 30
  have HE : Hid (RatTold w ((w.alloc (.cells #[.slice a n c, .bool m] 28)).alloc (.cells #[.slice a n c, .bool m, .slice none 0 0] 30)) (.returned (.agg #[.slice a n c, .bool m, .slice none 0 0])) Z 1) :=
    ⟨a, n, c, m, none, 0, 0, rfl, ⟨B0.now.2.2.1, NatIs.zero _⟩, B0.below⟩
  clear h B0
  go_enter Tryz.func41, Tryz.ntmps41
  go_wp2
  exact bodyPost_ret (v := .agg #[.slice a n c, .bool m, .slice none 0 0]) (by simp [results, Tryz.results41, go_sem]) rfl HE.out

set_option maxHeartbeats 800000 in
set_option maxRecDepth 100000 in
theorem isWhole_any (a : Option Addr) (n c : Nat) (m : Bool) (a2 : Option Addr) (n2 c2 : Nat) (P : Int) (Q : Nat) (w : World) (h : RatAt w a n c m a2 n2 c2 P Q) (hQ : 0 < Q) :
    Calls Tryz.prog 27 #[.agg #[.slice a n c, .bool m, .slice a2 n2 c2]] w fun e w' => e = .returned (.bool (decide (Q = 1))) ∧ Below w.heap.size w w' := by
  have BB := Lib.hid (((Bag.start w).nat h.2).box3 (.slice a n c) (.bool m) (.slice a2 n2 c2) 30)
  have HZ := Lib.hid (fun wz hz => zero_any (.agg #[.slice a2 n2 c2]) (lowN Q) wz hz)
  rw [lowN_zero hQ] at HZ
  clear h hQ
  generalize decide (Q = 1) = q at *
  go_enter Tryz.func27, Tryz.ntmps27
  go_wp2_with (go_at_call 35; refine (HZ.out _ BB.out.now.2.1).mono ?_; rintro e w2 ⟨rfl, hb2⟩; have HB := Lib.hid (BB.out.go hb2).below; clear hb2)
  go_ret
  exact ⟨rfl, HB.out⟩

set_option maxHeartbeats 800000 in
set_option maxRecDepth 100000 in
theorem ratSign_any (a : Option Addr) (n c : Nat) (m : Bool) (a2 : Option Addr) (n2 c2 : Nat) (P : Int) (Q : Nat) (w : World) (h : RatAt w a n c m a2 n2 c2 P Q) :
    Calls Tryz.prog 11 #[.agg #[.slice a n c, .bool m, .slice a2 n2 c2]] w fun e w' => e = .returned (.int .i64 (sgnI P)) ∧ Below w.heap.size w w' := by
  have BB := Lib.hid (((Bag.start w).int h.1).box3 (.slice a n c) (.bool m) (.slice a2 n2 c2) 30)
  have HS := Lib.hid (fun wz hz => sign_any a n c m P wz hz)
  clear h
  generalize sgnI P = s at *
  go_enter Tryz.func11, Tryz.ntmps11
  go_wp2_with (go_at_call 29; refine (HS.out _ BB.out.now.2.1).mono ?_; rintro e w2 ⟨rfl, hb2⟩; have HB := Lib.hid (BB.out.go hb2).below; clear hb2)
  go_ret
  exact ⟨rfl, HB.out⟩

set_option maxHeartbeats 1600000 in
set_option maxRecDepth 100000 in
theorem bot_any (a : Option Addr) (n c : Nat) (m : Bool) (a2 : Option Addr) (n2 c2 : Nat) (P : Int) (Q : Nat) (w : World) (h : RatAt w a n c m a2 n2 c2 P Q) (hQ : 0 < Q) :
    Calls Tryz.prog 22 #[.agg #[.slice a n c, .bool m, .slice a2 n2 c2]] w fun e w' => NatTold w w' e Q := by
  have B0 := (((Bag.start w).rat h).box3 (.slice a n c) (.bool m) (.slice a2 n2 c2) 30).box (.slice none 0 0) 26
  rw [World.size_alloc] at B0
  have IW := Lib.hid (fun wz hz => isWhole_any a n c m a2 n2 c2 P Q wz hz hQ)
  have BB := Lib.hid B0
  by_cases h1 : Q = 1
  · subst h1
    have OF := Lib.hid (fun wz => of_told 1 wz (by omega))
    rw [decide_eq_true rfl] at IW
    clear h hQ B0
    go_enter Tryz.func22, Tryz.ntmps22
    go_wp2_with fail
    go_at_call 27
    refine (IW.out _ BB.out.now.2.2.1).mono ?_
    rintro e w2 ⟨rfl, hb2⟩
    have BB := Lib.hid (BB.out.go hb2)
    clear hb2
    go_wp2_with fail
    go_at_call 39
    refine (OF.out _).mono ?_
    rintro e w3 ⟨a3, n3, c3, rfl, hv, hb3⟩
    have BB := Lib.hid (BB.out.go hb3)
    have hs := BB.out.now.1
    have hc := hs.cell
    have hf := hs.free
    have HS := World.cell?_setCell_same w3 ⟨w.heap.size + 1, 0, none⟩ (.slice a3 n3 c3) hc
    have HE := Lib.hid (NatTold.done BB.out.below (by omega) hs hv)
    clear hb3 hs
    go_wp2
    exact bodyPost_ret (v := .agg #[.slice a3 n3 c3]) (by simp [results, Tryz.results22, go_sem, HS]) rfl HE.out
  · rw [decide_eq_false h1] at IW
    have hl : lowN Q = Q := if_neg h1
    have hx := h.2
    rw [hl] at hx
    have q0 := B0.now.2.1.cell2
    clear h hQ B0
    go_enter Tryz.func22, Tryz.ntmps22
    go_wp2_with fail
    go_at_call 27
    refine (IW.out _ BB.out.now.2.2.1).mono ?_
    rintro e w2 ⟨rfl, hb2⟩
    have BB := Lib.hid (BB.out.go hb2)
    clear hb2
    have q0 := BB.out.now.2.1.cell2
    have hs := BB.out.now.1
    have hc := hs.cell
    have hf := hs.free
    have HS := World.cell?_setCell_same w2 ⟨w.heap.size + 1, 0, none⟩ (.slice a2 n2 c2) hc
    have HE := Lib.hid (NatTold.done BB.out.below (by omega) hs (hl ▸ BB.out.now.2.2.1.2))
    clear hs
    go_wp2
    exact bodyPost_ret (v := .agg #[.slice a2 n2 c2]) (by simp [results, Tryz.results22, go_sem, HS]) rfl HE.out

set_option maxHeartbeats 1600000 in
set_option maxRecDepth 100000 in
theorem below_any (a : Option Addr) (n c : Nat) (m : Bool) (a2 : Option Addr) (n2 c2 : Nat) (P : Int) (Q : Nat) (w : World) (h : RatAt w a n c m a2 n2 c2 P Q) (hQ : 0 < Q) :
    Calls Tryz.prog 24 #[.agg #[.slice a n c, .bool m, .slice a2 n2 c2]] w fun e w' => IntTold w w' e (Q : Int) := by
  have B0 := (((Bag.start w).rat h).box3 (.slice a n c) (.bool m) (.slice a2 n2 c2) 30).box2 (.slice none 0 0) (.bool false) 28
  rw [World.size_alloc] at B0
  have BT := Lib.hid (fun wz hz => bot_any a n c m a2 n2 c2 P Q wz hz hQ)
  have OF := Lib.hid (fun a n c wz (h : NatIs wz (.agg #[.slice a n c]) Q) => wof_any false a n c Q wz h)
  rw [show sgn false Q = (Q : Int) from rfl] at OF
  have BB := Lib.hid B0
  clear h hQ B0
  go_enter Tryz.func24, Tryz.ntmps24
  go_wp2_with fail
  go_at_call 22
  refine (BT.out _ BB.out.now.2.2.1).mono ?_
  rintro e w2 ⟨a3, n3, c3, rfl, hv, hb2⟩
  have BB := Lib.hid ((BB.out.go hb2).nat hv)
  clear hb2 hv
  go_wp2_with fail
  go_at_call 36
  refine (OF.out _ _ _ _ BB.out.now.1).mono ?_
  rintro e w3 ⟨a4, n4, c4, m4, rfl, hi, hb3⟩
  have BB := Lib.hid (BB.out.go hb3)
  have hs := BB.out.now.2.1
  have hc := hs.cell
  have hc1 := hs.cell1
  have hf := hs.free
  have hf1 := hs.free1
  have HS := hs.set (.slice a4 n4 c4) (.bool m4)
  have HE := Lib.hid (IntTold.done BB.out.below (by omega) hs (fun _ _ h => by cases h) hi)
  clear hb3 hs
  go_wp2
  exact bodyPost_ret (v := .agg #[.slice a4 n4 c4, .bool m4]) (by simp [results, Tryz.results24, go_sem, HS]) rfl HE.out

set_option maxHeartbeats 1600000 in
set_option maxRecDepth 100000 in
theorem ratFrom_any (X : Int) (w : World) (h : -9223372036854775808 ≤ X ∧ X ≤ 9223372036854775807) :
    Calls Tryz.prog 18 #[.int .i64 X] w fun e w' => RatTold w w' e X 1 := by
  have BB := Lib.hid ((Bag.start w).box3 (.slice none 0 0) (.bool false) (.slice none 0 0) 30)
  have FR := Lib.hid (fun wz => from_any X wz h)
  have WH := Lib.hid (fun a n c m wz (h : IntAt wz a n c m X) => whole_any a n c m X wz h)
  clear h
  go_enter Tryz.func18, Tryz.ntmps18
  go_wp2_with fail
  go_at_call 16
  refine (FR.out _).mono ?_
  rintro e w2 ⟨a, n, c, m, rfl, hi, hb2⟩
  have BB := Lib.hid ((BB.out.go hb2).int hi)
  clear hb2 hi
  go_wp2_with fail
  go_at_call 41
  refine (WH.out _ _ _ _ _ BB.out.now.1).mono ?_
  rintro e w3 ⟨a3, n3, c3, m3, a4, n4, c4, rfl, hr, hb3⟩
  have BB := Lib.hid (BB.out.go hb3)
  have hs := BB.out.now.2.1
  have hc := hs.cell
  have hc1 := hs.cell1
  have hc2 := hs.cell2
  have hf := hs.free
  have hf1 := hs.free1
  have hf2 := hs.free2
  have HS := hs.set (.slice a3 n3 c3) (.bool m3) (.slice a4 n4 c4)
  have HE := Lib.hid (RatTold.done BB.out.below (by omega) hs hr)
  clear hb3 hs hr
  go_wp2
  exact bodyPost_ret (v := .agg #[.slice a3 n3 c3, .bool m3, .slice a4 n4 c4]) (by simp [results, Tryz.results18, go_sem, HS]) rfl HE.out

set_option maxHeartbeats 1600000 in
set_option maxRecDepth 100000 in
theorem ratMinus_any (a : Option Addr) (n c : Nat) (m : Bool) (a2 : Option Addr) (n2 c2 : Nat) (P : Int) (Q : Nat) (w : World) (h : RatAt w a n c m a2 n2 c2 P Q) :
    Calls Tryz.prog 9 #[.agg #[.slice a n c, .bool m, .slice a2 n2 c2]] w fun e w' => RatTold w w' e (-P) Q := by
  have B0 := (((Bag.start w).rat h).box3 (.slice a n c) (.bool m) (.slice a2 n2 c2) 30).box3 (.slice none 0 0) (.bool false) (.slice none 0 0) 30
  rw [World.size_alloc] at B0
  have MN := Lib.hid (fun wz (h : IntAt wz a n c m P) => minus_any a n c m P wz h)
  have BB := Lib.hid B0
  clear h B0
  go_enter Tryz.func9, Tryz.ntmps9
  go_wp2_with fail
  go_at_call 26
  refine (MN.out _ BB.out.now.2.2.1.1).mono ?_
  rintro e w3 ⟨a3, n3, c3, m3, rfl, hi, hb3⟩
  have BB := Lib.hid (BB.out.go hb3)
  have hs0 := BB.out.now.2.1
  have hs := BB.out.now.1
  have hc := hs0.cell
  have hc1 := hs0.cell1
  have hf := hs0.free
  have hf1 := hs0.free1
  have hs3 := hs0.set2 (.slice a3 n3 c3) (.bool m3)
  have hs4 := hs.set2o (k := w.heap.size) (by omega) (.slice a3 n3 c3) (.bool m3)
  have q0 := hs3.cell
  have q1 := hs3.cell1
  have q2 := hs3.cell2
  have r0 := hs4.cell
  have r1 := hs4.cell1
  have r2 := hs4.cell2
  have g0 := hs4.free
  have g1 := hs4.free1
  have g2 := hs4.free2
  have hx : RatAt ((w3.setCell ⟨w.heap.size, 0, none⟩ (.slice a3 n3 c3)).setCell ⟨w.heap.size, 1, none⟩ (.bool m3)) a3 n3 c3 m3 a2 n2 c2 (-P) Q :=
    ⟨⟨hi.1, hi.2.set2 hs0 (fun _ _ h => by cases h) (fun _ _ h => by cases h) _ _⟩, BB.out.now.2.2.1.2.set2 hs0 (fun _ _ h => by cases h) (fun _ _ h => by cases h) _ _⟩
  have HS := hs4.set (.slice a3 n3 c3) (.bool m3) (.slice a2 n2 c2)
  have HE := Lib.hid (RatTold.done ((BB.out.below.setCell (Nat.le_refl _) _).setCell (Nat.le_refl _) _) (by omega) hs4 hx)
  clear hb3 hs hs0 hs3 hs4 hx hi
  go_wp2
  exact bodyPost_ret (v := .agg #[.slice a3 n3 c3, .bool m3, .slice a2 n2 c2]) (by simp [results, Tryz.results9, go_sem, HS]) rfl HE.out

end Go.Proofs.YthklcdcikmninaaGreatDoor

namespace Go.Proofs.YthklcdcikmninaaGreatDoor
open Go.RowKit
attribute [local go_sem ↓] Go.wp_at_zero Go.wp_at_succ

theorem Slot3.set1 {w : World} {k : Nat} {x y z : Value} (h : Slot3 w k x y z) (t : Value) : Slot3 (w.setCell ⟨k, 2, none⟩ t) k x y t := by
  refine ⟨?_, ?_, World.cell?_setCell_same _ _ _ h.cell2, by simp [h.free], by simp [h.free1], by simp [h.free2], by simpa using h.lt⟩
  · rw [World.cell?_setCell_other _ _ _ _ (fun e => by cases e)]; exact h.cell
  · rw [World.cell?_setCell_other _ _ _ _ (fun e => by cases e)]; exact h.cell1
theorem Slot3.set1o {w : World} {k j o : Nat} {x y z : Value} (h : Slot3 w j x y z) (e : j ≠ k) (t : Value) : Slot3 (w.setCell ⟨k, o, none⟩ t) j x y z := by
  have hn : ∀ o' : Nat, (⟨k, o, none⟩ : Addr) ≠ ⟨j, o', none⟩ := fun o' h => e (by cases h; rfl)
  refine ⟨?_, ?_, ?_, by simp [h.free], by simp [h.free1], by simp [h.free2], by simpa using h.lt⟩
  · rw [World.cell?_setCell_other _ _ _ _ (hn _)]; exact h.cell
  · rw [World.cell?_setCell_other _ _ _ _ (hn _)]; exact h.cell1
  · rw [World.cell?_setCell_other _ _ _ _ (hn _)]; exact h.cell2

set_option maxHeartbeats 3200000 in
set_option maxRecDepth 100000 in
theorem fraction_any (b : Bool) (a : Option Addr) (n c N : Nat) (a2 : Option Addr) (n2 c2 M : Nat) (w : World) (h : NatIs w (.agg #[.slice a n c]) N) (g : NatIs w (.agg #[.slice a2 n2 c2]) M) (hM : 0 < M) :
    Calls Tryz.prog 46 #[.bool b, .agg #[.slice a n c], .agg #[.slice a2 n2 c2]] w fun e w' => RatTold w w' e (sgn b N) M := by
  have OF := Lib.hid (fun wz (h : NatIs wz (.agg #[.slice a n c]) N) => wof_any b a n c N wz h)
  have WH := Lib.hid (fun a n c m wz (h : IntAt wz a n c m (sgn b N)) => whole_any a n c m (sgn b N) wz h)
  have ON := Lib.hid (fun wz (h : NatIs wz (.agg #[.slice a2 n2 c2]) M) => one_any _ M wz h)
  have B0 := (((((Bag.start w).nat h).nat g).box (.slice a n c) 26).box (.slice a2 n2 c2) 26).box3 (.slice none 0 0) (.bool false) (.slice none 0 0) 30
  simp only [World.size_alloc] at B0
  have BB := Lib.hid B0
  generalize sgn b N = P at *
  clear h g B0
  by_cases hm : M = 1
  · rw [decide_eq_true hm] at ON
    go_enter Tryz.func46, Tryz.ntmps46
    go_wp2_with fail
    go_at_call 36
    refine (OF.out _ BB.out.now.2.2.2.2.1).mono ?_
    rintro e w2 ⟨a3, n3, c3, m3, rfl, hi, hb2⟩
    have BB := Lib.hid ((BB.out.go hb2).int hi)
    clear hb2 hi
    go_wp2_with fail
    go_at_call 41
    refine (WH.out _ _ _ _ _ BB.out.now.1).mono ?_
    rintro e w3 ⟨a4, n4, c4, m4, a5, n5, c5, rfl, hr, hb3⟩
    have BB := Lib.hid (((BB.out.go hb3).rat hr).box3 (.slice a4 n4 c4) (.bool m4) (.slice a5 n5 c5) 30)
    clear hb3 hr
    have q0 := BB.out.now.2.2.2.2.1.cell
    go_wp2_with fail
    go_at_call 43
    refine (ON.out _ BB.out.now.2.2.2.2.2.2.1).mono ?_
    rintro e w4 ⟨rfl, hb4⟩
    have BB := Lib.hid (BB.out.go hb4)
    clear hb4 q0
    have hs0 := BB.out.now.1
    have q0 := hs0.cell
    have q1 := hs0.cell1
    have q2 := hs0.cell2
    have hs := BB.out.now.2.2.2.1
    have r0 := hs.cell
    have r1 := hs.cell1
    have r2 := hs.cell2
    have g0 := hs.free
    have g1 := hs.free1
    have g2 := hs.free2
    have HS := hs.set (.slice a4 n4 c4) (.bool m4) (.slice a5 n5 c5)
    have HE := Lib.hid (RatTold.done BB.out.below (by omega) hs BB.out.now.2.1)
    clear hs hs0
    subst hm
    go_wp2
    exact bodyPost_ret (v := .agg #[.slice a4 n4 c4, .bool m4, .slice a5 n5 c5]) (by simp [results, Tryz.results46, go_sem, HS]) rfl HE.out
  · rw [decide_eq_false hm] at ON
    go_enter Tryz.func46, Tryz.ntmps46
    go_wp2_with fail
    go_at_call 36
    refine (OF.out _ BB.out.now.2.2.2.2.1).mono ?_
    rintro e w2 ⟨a3, n3, c3, m3, rfl, hi, hb2⟩
    have BB := Lib.hid ((BB.out.go hb2).int hi)
    clear hb2 hi
    go_wp2_with fail
    go_at_call 41
    refine (WH.out _ _ _ _ _ BB.out.now.1).mono ?_
    rintro e w3 ⟨a4, n4, c4, m4, a5, n5, c5, rfl, hr, hb3⟩
    have hk : w.heap.size + 1 + 1 < w3.heap.size := (BB.out.go hb3).now.2.1.lt
    have BB := Lib.hid (((BB.out.go hb3).rat hr).box3 (.slice a4 n4 c4) (.bool m4) (.slice a5 n5 c5) 30)
    clear hb3 hr
    have q0 := BB.out.now.2.2.2.2.1.cell
    go_wp2_with fail
    go_at_call 43
    refine (ON.out _ BB.out.now.2.2.2.2.2.2.1).mono ?_
    rintro e w4 ⟨rfl, hb4⟩
    have BB := Lib.hid (BB.out.go hb4)
    clear hb4 q0
    have hs0 := BB.out.now.1
    have q3 := BB.out.now.2.2.2.2.1.cell
    have p2 := hs0.cell2
    have pf := hs0.free2
    have hs1 := hs0.set1 (.slice a2 n2 c2)
    have q0 := hs1.cell
    have q1 := hs1.cell1
    have q2 := hs1.cell2
    have hs := BB.out.now.2.2.2.1.set1o (o := 2) (k := w3.heap.size) (by omega) (.slice a2 n2 c2)
    have r0 := hs.cell
    have r1 := hs.cell1
    have r2 := hs.cell2
    have g0 := hs.free
    have g1 := hs.free1
    have g2 := hs.free2
    have HS := hs.set (.slice a4 n4 c4) (.bool m4) (.slice a2 n2 c2)
    have hx : RatAt (w4.setCell ⟨w3.heap.size, 2, none⟩ (.slice a2 n2 c2)) a4 n4 c4 m4 a2 n2 c2 P M := by
      have h1 := BB.out.now.2.1.1
      have h2 := BB.out.now.2.2.2.2.2.2.1
      refine ⟨⟨h1.1, h1.2.storeAt hs0.cell2 (fun _ _ h => by cases h) _⟩, ?_⟩
      rw [show lowN M = M from if_neg hm]
      exact h2.storeAt hs0.cell2 (fun _ _ h => by cases h) _
    have HE := Lib.hid (RatTold.done (BB.out.below.setCell (p := ⟨w3.heap.size, 2, none⟩) (show w.heap.size ≤ w3.heap.size by omega) _) (by omega) hs hx)
    clear hs hs0 hs1 hx
    go_wp2
    exact bodyPost_ret (v := .agg #[.slice a4 n4 c4, .bool m4, .slice a2 n2 c2]) (by simp [results, Tryz.results46, go_sem, HS]) rfl HE.out


theorem Slot.set0 {w : World} {k : Nat} {x : Value} (h : Slot w k x) (t : Value) : Slot (w.setCell ⟨k, 0, none⟩ t) k t :=
  ⟨World.cell?_setCell_same _ _ _ h.cell, by simp [h.free], by simpa using h.lt⟩
theorem Slot.seto {w : World} {k j : Nat} {x : Value} (h : Slot w j x) (e : j ≠ k) (t : Value) : Slot (w.setCell ⟨k, 0, none⟩ t) j x := by
  refine ⟨?_, by simp [h.free], by simpa using h.lt⟩
  rw [World.cell?_setCell_other _ _ _ _ (fun e' => by cases e'; exact e rfl)]; exact h.cell
theorem Slot2.seto {w : World} {k j : Nat} {x y : Value} (h : Slot2 w j x y) (e : j ≠ k) (t : Value) : Slot2 (w.setCell ⟨k, 0, none⟩ t) j x y := by
  refine ⟨?_, ?_, by simp [h.free], by simp [h.free1], by simpa using h.lt⟩
  · rw [World.cell?_setCell_other _ _ _ _ (fun e' => by cases e'; exact e rfl)]; exact h.cell
  · rw [World.cell?_setCell_other _ _ _ _ (fun e' => by cases e')]; exact h.cell1

/-- Three cells of another block stored. -/
theorem Slot.set3o {w : World} {k j : Nat} {x : Value} (h : Slot w j x) (e : j ≠ k) (u v t : Value) : Slot (((w.setCell ⟨k, 0, none⟩ u).setCell ⟨k, 1, none⟩ v).setCell ⟨k, 2, none⟩ t) j x := by
  have hn : ∀ o : Nat, (⟨k, o, none⟩ : Addr) ≠ ⟨j, 0, none⟩ := fun o h => e (by cases h; rfl)
  refine ⟨?_, by simp [h.free], by simpa using h.lt⟩
  rw [World.cell?_setCell_other _ _ _ _ (hn _), World.cell?_setCell_other _ _ _ _ (hn _), World.cell?_setCell_other _ _ _ _ (hn _)]; exact h.cell
theorem Slot2.set3o {w : World} {k j : Nat} {x y : Value} (h : Slot2 w j x y) (e : j ≠ k) (u v t : Value) : Slot2 (((w.setCell ⟨k, 0, none⟩ u).setCell ⟨k, 1, none⟩ v).setCell ⟨k, 2, none⟩ t) j x y := by
  have hn : ∀ o o' : Nat, (⟨k, o, none⟩ : Addr) ≠ ⟨j, o', none⟩ := fun o o' h => e (by cases h; rfl)
  refine ⟨?_, ?_, by simp [h.free], by simp [h.free1], by simpa using h.lt⟩
  · rw [World.cell?_setCell_other _ _ _ _ (hn _ _), World.cell?_setCell_other _ _ _ _ (hn _ _), World.cell?_setCell_other _ _ _ _ (hn _ _)]; exact h.cell
  · rw [World.cell?_setCell_other _ _ _ _ (hn _ _), World.cell?_setCell_other _ _ _ _ (hn _ _), World.cell?_setCell_other _ _ _ _ (hn _ _)]; exact h.cell1
theorem Slot3.set3o {w : World} {k j : Nat} {x y z : Value} (h : Slot3 w j x y z) (e : j ≠ k) (u v t : Value) : Slot3 (((w.setCell ⟨k, 0, none⟩ u).setCell ⟨k, 1, none⟩ v).setCell ⟨k, 2, none⟩ t) j x y z :=
  (h.set2o e u v).set1o e t

theorem divMod3_any (a : Option Addr) (n c : Nat) (a2 : Option Addr) (n2 c2 : Nat) (N M : Nat) (w : World) (h : NatIs w (.agg #[.slice a n c]) N) (g : NatIs w (.agg #[.slice a2 n2 c2]) M) (k : Nat) (hk : k ≤ 900000) (hN : N < 4294967296 ^ k) (hM : 0 < M) :
    Calls Tryz.prog 45 #[.agg #[.slice a n c], .agg #[.slice a2 n2 c2]] w fun e w' => DivOf3 w w' e (N / M) (modz N M) true := by
  refine (divMod_any _ _ N M w h g k hk hN).mono ?_
  rintro e w' ⟨v, u, rfl, hv, hu, hb⟩
  obtain ⟨a, n, c, f, rfl, hs, hv, ht⟩ := hv
  obtain ⟨a2, n2, c2, f2, rfl, hs2, hv2, ht2⟩ := hu
  exact ⟨a, n, c, a2, n2, c2, by rw [decide_eq_true (by omega)], ⟨a, n, c, f, rfl, hs, hv, ht⟩, ⟨a2, n2, c2, f2, rfl, hs2, hv2, ht2⟩, hb⟩

set_option maxHeartbeats 3200000 in
set_option maxRecDepth 100000 in
theorem lowest_any (a : Option Addr) (n c : Nat) (m : Bool) (P : Int) (a2 : Option Addr) (n2 c2 Q : Nat) (w : World) (h : IntAt w a n c m P) (g : NatIs w (.agg #[.slice a2 n2 c2]) Q) (hQ : 0 < Q)
    (K : Nat) (hK : K ≤ 900000) (hPK : P.natAbs < 4294967296 ^ K) (hQK : Q < 4294967296 ^ K) :
    Calls Tryz.prog 20 #[.agg #[.slice a n c, .bool m], .agg #[.slice a2 n2 c2]] w fun e w' => RatTold w w' e (loP P Q) (loQ P Q) := by
  have ON := Lib.hid (fun wz (h : NatIs wz (.agg #[.slice a2 n2 c2]) Q) => one_any _ Q wz h)
  have B0 := (((((Bag.start w).int h).nat g).box2 (.slice a n c) (.bool m) 28).box (.slice a2 n2 c2) 26).box3 (.slice none 0 0) (.bool false) (.slice none 0 0) 30
  simp only [World.size_alloc] at B0
  have BB := Lib.hid B0
  by_cases hq : Q = 1
  · subst hq
    have hlo : loP P 1 = P ∧ loQ P 1 = 1 := lo_one (Nat.gcd_one_right _)
    rw [hlo.1, hlo.2]
    rw [decide_eq_true rfl] at ON
    have WH := Lib.hid (fun wz (h : IntAt wz a n c m P) => whole_any a n c m P wz h)
    clear h g B0 hlo hPK hQK
    go_enter Tryz.func20, Tryz.ntmps20
    have q0 := BB.out.now.2.1.cell
    have q1 := BB.out.now.2.2.1.cell
    have q2 := BB.out.now.2.2.1.cell1
    go_wp2_with fail
    go_at_call 43
    refine (ON.out _ BB.out.now.2.2.2.1).mono ?_
    rintro e w2 ⟨rfl, hb2⟩
    have BB := Lib.hid (BB.out.go hb2)
    clear hb2 q0 q1 q2
    have q0 := BB.out.now.2.1.cell
    have q1 := BB.out.now.2.2.1.cell
    have q2 := BB.out.now.2.2.1.cell1
    go_wp2_with fail
    go_at_call 41
    refine (WH.out _ BB.out.now.2.2.2.2.1).mono ?_
    rintro e w3 ⟨a3, n3, c3, m3, a4, n4, c4, rfl, hr, hb3⟩
    have BB := Lib.hid (BB.out.go hb3)
    have hs := BB.out.now.1
    have r0 := hs.cell
    have r1 := hs.cell1
    have r2 := hs.cell2
    have g0 := hs.free
    have g1 := hs.free1
    have g2 := hs.free2
    have HS := hs.set (.slice a3 n3 c3) (.bool m3) (.slice a4 n4 c4)
    have HE := Lib.hid (RatTold.done BB.out.below (by omega) hs hr)
    clear hb3 hs hr
    go_wp2
    exact bodyPost_ret (v := .agg #[.slice a3 n3 c3, .bool m3, .slice a4 n4 c4]) (by simp [results, Tryz.results20, go_sem, HS]) rfl HE.out
  · rw [decide_eq_false hq] at ON
    have SZ := Lib.hid (fun wz (h : IntAt wz a n c m P) => size_any a n c m P wz h)
    have NG := Lib.hid (fun wz (h : IntAt wz a n c m P) => neg_any a n c m P wz h)
    have GC : Hid (∀ wz, NatIs wz (.agg #[.slice a n c]) P.natAbs → NatIs wz (.agg #[.slice a2 n2 c2]) Q → Calls Tryz.prog 44 #[.agg #[.slice a n c], .agg #[.slice a2 n2 c2]] wz fun e w' => NatOf3 wz w' e (Nat.gcd P.natAbs Q)) := fun wz h g => gcd_any a n c a2 n2 c2 P.natAbs Q wz h g K hK hPK hQK
    have ON2 := Lib.hid (fun a n c wz (h : NatIs wz (.agg #[.slice a n c]) (Nat.gcd P.natAbs Q)) => one_any _ (Nat.gcd P.natAbs Q) wz h)
    unfold NatTold2 at SZ
    by_cases hg : Nat.gcd P.natAbs Q = 1
    · have hlo : loP P Q = P ∧ loQ P Q = Q := lo_one hg
      rw [hlo.1, hlo.2]
      rw [hg] at ON2 GC
      rw [decide_eq_true rfl] at ON2
      have FR := Lib.hid (fun wz (h : NatIs wz (.agg #[.slice a n c]) P.natAbs) (g : NatIs wz (.agg #[.slice a2 n2 c2]) Q) => fraction_any m a n c P.natAbs a2 n2 c2 Q wz h g hQ)
      rw [h.1, sgn_self, ← h.1] at FR
      clear h g B0 hlo hPK hQK hQ hg
      go_enter Tryz.func20, Tryz.ntmps20
      have q0 := BB.out.now.2.1.cell
      have q1 := BB.out.now.2.2.1.cell
      have q2 := BB.out.now.2.2.1.cell1
      go_wp2_with (first
        | (go_at_call 43; (with_reducible refine (ON.out _ BB.out.now.2.2.2.1).mono ?_); rintro e w2 ⟨rfl, hb2⟩; have BB := Lib.hid (BB.out.go hb2); clear hb2; have q0 := BB.out.now.2.1.cell; have q1 := BB.out.now.2.2.1.cell; have q2 := BB.out.now.2.2.1.cell1)
        | (go_at_call 38; (with_reducible refine (SZ.out _ BB.out.now.2.2.2.2.1).mono ?_); rintro e w3 ⟨rfl, hn3, hb3⟩; have hk3 : w.heap.size + 1 + 1 < w3.heap.size := (BB.out.go hb3).now.1.lt; have BB := Lib.hid (((BB.out.go hb3).nat hn3).box (.slice a n c) 26); clear hb3 hn3; have q0 := BB.out.now.2.2.2.1.cell; have q1 := BB.out.now.2.2.2.2.1.cell; have q2 := BB.out.now.2.2.2.2.1.cell1; have q3 := BB.out.now.1.cell)
        | (go_at_call 44; (with_reducible refine (GC.out _ BB.out.now.2.1 BB.out.now.2.2.2.2.2.1).mono ?_); rintro e w4 ⟨a5, n5, c5, rfl, hn5, hb4⟩; have hk4 : w3.heap.size < w4.heap.size := (BB.out.go hb4).now.1.lt; have BB := Lib.hid (((BB.out.go hb4).nat hn5).box (.slice a5 n5 c5) 26); clear hb4 hn5; have q0 := BB.out.now.2.2.2.2.2.1.cell; have q1 := BB.out.now.2.2.2.2.2.2.1.cell; have q2 := BB.out.now.2.2.2.2.2.2.1.cell1; have q3 := BB.out.now.2.2.1.cell; have q4 := BB.out.now.1.cell)
        | (go_at_call 43; (with_reducible refine (ON2.out a5 n5 c5 _ BB.out.now.2.1).mono ?_); rintro e w5 ⟨rfl, hb5⟩; have BB := Lib.hid (BB.out.go hb5); clear hb5; have q0 := BB.out.now.2.2.2.2.2.1.cell; have q1 := BB.out.now.2.2.2.2.2.2.1.cell; have q2 := BB.out.now.2.2.2.2.2.2.1.cell1; have q3 := BB.out.now.2.2.1.cell; have q4 := BB.out.now.1.cell))
      have BB := Lib.hid BB.out.drew
      have he : w.heap.size ≠ w.heap.size + 1 + 1 ∧ w.heap.size + 1 ≠ w.heap.size + 1 + 1 ∧ w3.heap.size ≠ w.heap.size + 1 + 1 := by omega
      go_region_held3 (fun y => y.cell? ⟨w.heap.size, 0, none⟩ = some (.slice a n c) ∧ y.cell? ⟨w.heap.size, 1, none⟩ = some (.bool m) ∧ y.cell? ⟨w.heap.size + 1, 0, none⟩ = some (.slice a2 n2 c2) ∧ y.cell? ⟨w3.heap.size, 0, none⟩ = some (.slice a n c))
        (first
          | (exact ⟨BB.out.now.2.2.2.2.2.2.1.cell, BB.out.now.2.2.2.2.2.2.1.cell1, BB.out.now.2.2.2.2.2.1.cell, BB.out.now.2.2.1.cell⟩)
          | (exact ⟨z0.cell, z0.cell1, z1.cell, z2.cell⟩))
        (first
          | (go_at_call 37; (with_reducible refine (NG.out _ BB.out.now.2.2.2.2.2.2.2.2.1).mono ?_); rintro e w6 ⟨rfl, hb6⟩; have BB := Lib.hid (BB.out.go hb6); clear hb6)
          | (go_at_call 46; (with_reducible refine (FR.out _ BB.out.now.2.2.2.1 BB.out.now.2.2.2.2.2.2.2.1).mono ?_); rintro e w7 ⟨a6, n6, c6, m6, a7, n7, c7, rfl, hr, hb7⟩; have BB := Lib.hid (BB.out.go hb7); have hs := BB.out.now.2.2.2.2.1; have r0 := hs.cell; have r1 := hs.cell1; have r2 := hs.cell2; have g0 := hs.free; have g1 := hs.free1; have g2 := hs.free2; have HS := hs.set (.slice a6 n6 c6) (.bool m6) (.slice a7 n7 c7); have z0 := BB.out.now.2.2.2.2.2.2.1.set3o he.1 (.slice a6 n6 c6) (.bool m6) (.slice a7 n7 c7); have z1 := BB.out.now.2.2.2.2.2.1.set3o he.2.1 (.slice a6 n6 c6) (.bool m6) (.slice a7 n7 c7); have z2 := BB.out.now.2.2.1.set3o he.2.2 (.slice a6 n6 c6) (.bool m6) (.slice a7 n7 c7); have HE := Lib.hid (RatTold.done BB.out.below (by omega) hs hr); clear hb7 hs hr))
      go_wp2
      exact bodyPost_ret (v := .agg #[.slice a6 n6 c6, .bool m6, .slice a7 n7 c7]) (by simp [results, Tryz.results20, go_sem, HS]) rfl HE.out
    · have DM := Lib.hid (fun a5 n5 c5 wz (h : NatIs wz (.agg #[.slice a n c]) P.natAbs) (g : NatIs wz (.agg #[.slice a5 n5 c5]) (Nat.gcd P.natAbs Q)) => divMod3_any a n c a5 n5 c5 P.natAbs (Nat.gcd P.natAbs Q) wz h g K hK hPK (rg_pos P hQ))
      have DQ := Lib.hid (fun a5 n5 c5 wz (h : NatIs wz (.agg #[.slice a2 n2 c2]) Q) (g : NatIs wz (.agg #[.slice a5 n5 c5]) (Nat.gcd P.natAbs Q)) => divMod3_any a2 n2 c2 a5 n5 c5 Q (Nat.gcd P.natAbs Q) wz h g K hK hQK (rg_pos P hQ))
      have FR := Lib.hid (fun a n c a2 n2 c2 wz (h : NatIs wz (.agg #[.slice a n c]) (P.natAbs / Nat.gcd P.natAbs Q)) (g : NatIs wz (.agg #[.slice a2 n2 c2]) (Q / Nat.gcd P.natAbs Q)) => fraction_any m a n c (P.natAbs / Nat.gcd P.natAbs Q) a2 n2 c2 (Q / Nat.gcd P.natAbs Q) wz h g (loQ_pos P hQ))
      have hx : sgn m (P.natAbs / Nat.gcd P.natAbs Q) = loP P Q := by rw [h.1]; rfl
      rw [hx, show Q / Nat.gcd P.natAbs Q = loQ P Q from rfl] at FR
      rw [show Q / Nat.gcd P.natAbs Q = loQ P Q from rfl] at DQ
      rw [decide_eq_false hg] at ON2
      unfold DivOf3 at DM DQ
      generalize loP P Q = P1 at *
      generalize loQ P Q = Q1 at *
      generalize P.natAbs / Nat.gcd P.natAbs Q = N1 at *
      generalize Nat.gcd P.natAbs Q = G at *
      clear h g B0 hPK hQK hQ hg hx
      go_enter Tryz.func20, Tryz.ntmps20
      have q0 := BB.out.now.2.1.cell
      have q1 := BB.out.now.2.2.1.cell
      have q2 := BB.out.now.2.2.1.cell1
      go_wp2_with (first
        | (go_at_call 43; (with_reducible refine (ON.out _ BB.out.now.2.2.2.1).mono ?_); rintro e w2 ⟨rfl, hb2⟩; have BB := Lib.hid (BB.out.go hb2); clear hb2; have q0 := BB.out.now.2.1.cell; have q1 := BB.out.now.2.2.1.cell; have q2 := BB.out.now.2.2.1.cell1)
        | (go_at_call 38; (with_reducible refine (SZ.out _ BB.out.now.2.2.2.2.1).mono ?_); rintro e w3 ⟨rfl, hn3, hb3⟩; have hk3 : w.heap.size + 1 + 1 < w3.heap.size := (BB.out.go hb3).now.1.lt; have BB := Lib.hid (((BB.out.go hb3).nat hn3).box (.slice a n c) 26); clear hb3 hn3; have q0 := BB.out.now.2.2.2.1.cell; have q1 := BB.out.now.2.2.2.2.1.cell; have q2 := BB.out.now.2.2.2.2.1.cell1; have q3 := BB.out.now.1.cell)
        | (go_at_call 44; (with_reducible refine (GC.out _ BB.out.now.2.1 BB.out.now.2.2.2.2.2.1).mono ?_); rintro e w4 ⟨a5, n5, c5, rfl, hn5, hb4⟩; have hk4 : w3.heap.size < w4.heap.size := (BB.out.go hb4).now.1.lt; have BB := Lib.hid (((BB.out.go hb4).nat hn5).box (.slice a5 n5 c5) 26); clear hb4 hn5; have q0 := BB.out.now.2.2.2.2.2.1.cell; have q1 := BB.out.now.2.2.2.2.2.2.1.cell; have q2 := BB.out.now.2.2.2.2.2.2.1.cell1; have q3 := BB.out.now.2.2.1.cell; have q4 := BB.out.now.1.cell)
        | (go_at_call 43; (with_reducible refine (ON2.out a5 n5 c5 _ BB.out.now.2.1).mono ?_); rintro e w5 ⟨rfl, hb5⟩; have BB := Lib.hid (BB.out.go hb5); clear hb5; have q0 := BB.out.now.2.2.2.2.2.1.cell; have q1 := BB.out.now.2.2.2.2.2.2.1.cell; have q2 := BB.out.now.2.2.2.2.2.2.1.cell1; have q3 := BB.out.now.2.2.1.cell; have q4 := BB.out.now.1.cell))
      go_at_call 45
      (with_reducible refine (DM.out _ _ _ _ BB.out.now.2.2.2.1 BB.out.now.2.1).mono ?_)
      rintro e w6 ⟨a6, n6, c6, a7, n7, c7, rfl, hv, _, hb6⟩
      have B6 := BB.out.go hb6
      have u0 := B6.now.2.2.1
      have hc := u0.cell
      have hf := u0.free
      have hni : ∀ (x : Option Addr) (y z : Nat) (ki : IntKind) (i : Int), (Value.slice x y z) ≠ .int ki i := fun _ _ _ _ _ h => by cases h
      have B7 := (Bag.start w).go (B6.below.setCell (p := ⟨w3.heap.size, 0, none⟩) (show w.heap.size ≤ w3.heap.size by omega) (.slice a6 n6 c6))
      have B7 := B7.int (a := a) (n := n) (c := c) (m := m) (Z := P) ⟨B6.now.2.2.2.2.2.2.2.2.1.1, B6.now.2.2.2.2.2.2.2.2.1.2.storeAt hc (hni _ _ _) _⟩
      have B7 := B7.nat (B6.now.2.2.2.2.2.2.2.1.storeAt hc (hni _ _ _) _)
      have B7 := B7.slot2 (B6.now.2.2.2.2.2.2.1.seto (by omega) _)
      have B7 := B7.slot (B6.now.2.2.2.2.2.1.seto (by omega) _)
      have B7 := B7.slot3 (B6.now.2.2.2.2.1.set1o (by omega) _)
      have B7 := B7.nat (B6.now.2.1.storeAt hc (hni _ _ _) _)
      have B7 := B7.slot (B6.now.1.seto (by omega) _)
      have B7 := B7.slot (u0.set0 _)
      have B7 := B7.nat (hv.storeAt hc (hni _ _ _) _)
      have BB := Lib.hid B7
      have q0 := B7.now.2.2.2.2.2.1.cell
      have q3 := B7.now.2.1.cell
      have q4 := B7.now.2.2.1.cell
      clear hv hb6 B6 u0 B7
      go_wp2_with fail
      go_at_call 45
      (with_reducible refine (DQ.out _ _ _ _ BB.out.now.2.2.2.2.2.2.2.1 BB.out.now.2.2.2.1).mono ?_)
      rintro e w7 ⟨a8, n8, c8, a9, n9, c9, rfl, hv, _, hb7⟩
      have B8 := BB.out.go hb7
      have u0 := B8.now.2.2.2.2.2.1
      have hc := u0.cell
      have hf := u0.free
      have B9 := (Bag.start w).go (B8.below.setCell (p := ⟨w.heap.size + 1, 0, none⟩) (show w.heap.size ≤ w.heap.size + 1 by omega) (.slice a8 n8 c8))
      have B9 := B9.int (a := a) (n := n) (c := c) (m := m) (Z := P) ⟨B8.now.2.2.2.2.2.2.2.2.1.1, B8.now.2.2.2.2.2.2.2.2.1.2.storeAt hc (hni _ _ _) _⟩
      have B9 := B9.slot2 (B8.now.2.2.2.2.2.2.1.seto (by omega) _)
      have B9 := B9.slot (u0.set0 _)
      have B9 := B9.slot3 (B8.now.2.2.2.2.1.set1o (by omega) _)
      have B9 := B9.nat (B8.now.2.2.2.1.storeAt hc (hni _ _ _) _)
      have B9 := B9.slot (B8.now.2.2.1.seto (by omega) _)
      have B9 := B9.slot (B8.now.2.1.seto (by omega) _)
      have B9 := B9.nat (B8.now.1.storeAt hc (hni _ _ _) _)
      have B9 := B9.nat (hv.storeAt hc (hni _ _ _) _)
      have BB := Lib.hid B9
      clear hv hb7 B8 u0 B9 q0 q3 q4
      go_wp2_with fail
      have BB := Lib.hid BB.out.drew
      have he : w.heap.size ≠ w.heap.size + 1 + 1 ∧ w.heap.size + 1 ≠ w.heap.size + 1 + 1 ∧ w3.heap.size ≠ w.heap.size + 1 + 1 := by omega
      go_region_held3 (fun y => y.cell? ⟨w.heap.size, 0, none⟩ = some (.slice a n c) ∧ y.cell? ⟨w.heap.size, 1, none⟩ = some (.bool m) ∧ y.cell? ⟨w.heap.size + 1, 0, none⟩ = some (.slice a8 n8 c8) ∧ y.cell? ⟨w3.heap.size, 0, none⟩ = some (.slice a6 n6 c6))
        (first
          | (exact ⟨BB.out.now.2.2.2.2.2.2.2.1.cell, BB.out.now.2.2.2.2.2.2.2.1.cell1, BB.out.now.2.2.2.2.2.2.1.cell, BB.out.now.2.2.1.cell⟩)
          | (exact ⟨z0.cell, z0.cell1, z1.cell, z2.cell⟩))
        (first
          | (go_at_call 37; (with_reducible refine (NG.out _ BB.out.now.2.2.2.2.2.2.2.2.1).mono ?_); rintro e w8 ⟨rfl, hb8⟩; have BB := Lib.hid (BB.out.go hb8); clear hb8)
          | (go_at_call 46; (with_reducible refine (FR.out _ _ _ _ _ _ _ BB.out.now.2.1 BB.out.now.1).mono ?_); rintro e w9 ⟨a10, n10, c10, m10, a11, n11, c11, rfl, hr, hb9⟩; have BB := Lib.hid (BB.out.go hb9); have hs := BB.out.now.2.2.2.2.2.1; have r0 := hs.cell; have r1 := hs.cell1; have r2 := hs.cell2; have g0 := hs.free; have g1 := hs.free1; have g2 := hs.free2; have HS := hs.set (.slice a10 n10 c10) (.bool m10) (.slice a11 n11 c11); have z0 := BB.out.now.2.2.2.2.2.2.2.1.set3o he.1 (.slice a10 n10 c10) (.bool m10) (.slice a11 n11 c11); have z1 := BB.out.now.2.2.2.2.2.2.1.set3o he.2.1 (.slice a10 n10 c10) (.bool m10) (.slice a11 n11 c11); have z2 := BB.out.now.2.2.1.set3o he.2.2 (.slice a10 n10 c10) (.bool m10) (.slice a11 n11 c11); have HE := Lib.hid (RatTold.done BB.out.below (by omega) hs hr); clear hb9 hs hr))
      go_wp2
      exact bodyPost_ret (v := .agg #[.slice a10 n10 c10, .bool m10, .slice a11 n11 c11]) (by simp [results, Tryz.results20, go_sem, HS]) rfl HE.out

end Go.Proofs.YthklcdcikmninaaGreatDoor

namespace Go.Proofs.YthklcdcikmninaaGreatDoor
open Go.RowKit
attribute [local go_sem ↓] Go.wp_at_zero Go.wp_at_succ

def RatTold3 (w w' : World) (e : Ending) (P : Int) (Q : Nat) (ok : Bool) : Prop := ∃ a n c m a2 n2 c2, e = .returned (.tuple #[.agg #[.slice a n c, .bool m, .slice a2 n2 c2], .bool ok]) ∧ RatAt w' a n c m a2 n2 c2 P Q ∧ Below w.heap.size w w'
theorem RatTold3.done {w w2 : World} {k : Nat} {a0 : Option Addr} {n0 c0 : Nat} {m0 : Bool} {a1 : Option Addr} {n1 c1 : Nat} {a : Option Addr} {n c : Nat} {m : Bool} {a2 : Option Addr} {n2 c2 : Nat} {P : Int} {Q : Nat} (ok : Bool) (hb : Below w.heap.size w w2) (hk : w.heap.size ≤ k)
    (hs : Slot3 w2 k (.slice a0 n0 c0) (.bool m0) (.slice a1 n1 c1)) (h : RatAt w2 a n c m a2 n2 c2 P Q) :
    RatTold3 w (((w2.setCell ⟨k, 0, none⟩ (.slice a n c)).setCell ⟨k, 1, none⟩ (.bool m)).setCell ⟨k, 2, none⟩ (.slice a2 n2 c2)) (.returned (.tuple #[.agg #[.slice a n c, .bool m, .slice a2 n2 c2], .bool ok])) P Q ok := by
  obtain ⟨a', n', c', m', a2', n2', c2', he, h1, h2⟩ := RatTold.done hb hk hs h
  cases he
  exact ⟨a, n, c, m, a2, n2, c2, rfl, h1, h2⟩
theorem IntAt.nt {w : World} {a : Option Addr} {n c : Nat} {m : Bool} {Z : Int} (h : IntAt w a n c m Z) : NatIs w (.agg #[.slice a n c]) Z.natAbs := h.2
theorem RatAt.int {w : World} {a : Option Addr} {n c : Nat} {m : Bool} {a2 : Option Addr} {n2 c2 : Nat} {P : Int} {Q : Nat} (h : RatAt w a n c m a2 n2 c2 P Q) : IntAt w a n c m P := h.1
theorem RatAt.low {w : World} {a : Option Addr} {n c : Nat} {m : Bool} {a2 : Option Addr} {n2 c2 : Nat} {P : Int} {Q : Nat} (h : RatAt w a n c m a2 n2 c2 P Q) : NatIs w (.agg #[.slice a2 n2 c2]) (lowN Q) := h.2
theorem RatAt.zero (w : World) : RatAt w none 0 0 false none 0 0 0 1 := ⟨⟨rfl, NatIs.zero w⟩, NatIs.zero w⟩
theorem Slot2.set2 {w : World} {k : Nat} {x y : Value} (h : Slot2 w k x y) (u v : Value) : Slot2 ((w.setCell ⟨k, 0, none⟩ u).setCell ⟨k, 1, none⟩ v) k u v :=
  ⟨(h.set u v).1, (h.set u v).2, by simp [h.free], by simp [h.free1], by simpa using h.lt⟩
theorem Slot2.set2o {w : World} {k j : Nat} {x y : Value} (h : Slot2 w j x y) (e : j ≠ k) (u v : Value) : Slot2 ((w.setCell ⟨k, 0, none⟩ u).setCell ⟨k, 1, none⟩ v) j x y := by
  have hn : ∀ o o' : Nat, (⟨k, o, none⟩ : Addr) ≠ ⟨j, o', none⟩ := fun o o' h => e (by cases h; rfl)
  refine ⟨?_, ?_, by simp [h.free], by simp [h.free1], by simpa using h.lt⟩
  · rw [World.cell?_setCell_other _ _ _ _ (hn _ _), World.cell?_setCell_other _ _ _ _ (hn _ _)]; exact h.cell
  · rw [World.cell?_setCell_other _ _ _ _ (hn _ _), World.cell?_setCell_other _ _ _ _ (hn _ _)]; exact h.cell1
theorem NatIs.set2b {w : World} {k : Nat} {x y : Value} {v : Value} {N : Nat} (q : NatIs w v N) (h : Slot2 w k x y) (hx : ∀ ki i, x ≠ .int ki i) (hy : ∀ ki i, y ≠ .int ki i) (u v' : Value) :
    NatIs ((w.setCell ⟨k, 0, none⟩ u).setCell ⟨k, 1, none⟩ v') v N := by
  refine (q.storeAt h.cell hx _).storeAt (x := y) ?_ hy _
  rw [World.cell?_setCell_other _ _ _ _ (fun e => by cases e)]
  exact h.cell1

def nwP (P Y : Int) : Int := loP (upZ P Y) Y.natAbs
def nwQ (P Y : Int) : Nat := loQ (upZ P Y) Y.natAbs

set_option maxHeartbeats 1600000 in
set_option maxRecDepth 100000 in
theorem new_zero (a : Option Addr) (n c : Nat) (m : Bool) (P : Int) (a2 : Option Addr) (n2 c2 : Nat) (m2 : Bool) (w : World) (h : IntAt w a n c m P) (g : IntAt w a2 n2 c2 m2 0) :
    Calls Tryz.prog 15 #[.agg #[.slice a n c, .bool m], .agg #[.slice a2 n2 c2, .bool m2]] w fun e w' => RatTold3 w w' e 0 1 false := by
  have ZE := Lib.hid (fun wz (h : NatIs wz (.agg #[.slice a2 n2 c2]) (0 : Int).natAbs) => zero_any _ (0 : Int).natAbs wz h)
  rw [decide_eq_true (show (0 : Int).natAbs = 0 from rfl)] at ZE
  have B0 := ((((Bag.start w).int h).int g).box2 (.slice a n c) (.bool m) 28).box2 (.slice a2 n2 c2) (.bool m2) 28 |>.box3 (.slice none 0 0) (.bool false) (.slice none 0 0) 30
  simp only [World.size_alloc] at B0
  have BB := Lib.hid B0
  have q0 := B0.now.2.1.cell
  clear h g B0
  go_enter Tryz.func15, Tryz.ntmps15
  go_wp2_with fail
  go_at_call 35
  (with_reducible refine (ZE.out _ BB.out.now.2.2.2.1.nt).mono ?_)
  rintro e w2 ⟨rfl, hb2⟩
  have BB := Lib.hid (BB.out.go hb2)
  have hs := BB.out.now.1
  have r0 := hs.cell
  have r1 := hs.cell1
  have r2 := hs.cell2
  have g0 := hs.free
  have g1 := hs.free1
  have g2 := hs.free2
  have HS := hs.set (.slice none 0 0) (.bool false) (.slice none 0 0)
  have HE := Lib.hid (RatTold3.done false BB.out.below (by omega) hs (RatAt.zero w2))
  clear hb2 hs
  go_wp2
  exact bodyPost_ret (v := .tuple #[.agg #[.slice none 0 0, .bool false, .slice none 0 0], .bool false]) (by simp [results, Tryz.results15, go_sem, HS]) rfl HE.out

set_option maxHeartbeats 3200000 in
set_option maxRecDepth 100000 in
theorem new_some (a : Option Addr) (n c : Nat) (m : Bool) (P : Int) (a2 : Option Addr) (n2 c2 : Nat) (m2 : Bool) (Y : Int) (w : World) (h : IntAt w a n c m P) (g : IntAt w a2 n2 c2 m2 Y) (hY : Y ≠ 0)
    (K : Nat) (hK : K ≤ 900000) (hPK : P.natAbs < 4294967296 ^ K) (hYK : Y.natAbs < 4294967296 ^ K) :
    Calls Tryz.prog 15 #[.agg #[.slice a n c, .bool m], .agg #[.slice a2 n2 c2, .bool m2]] w fun e w' => RatTold3 w w' e (nwP P Y) (nwQ P Y) true := by
  have ZE := Lib.hid (fun wz (h : NatIs wz (.agg #[.slice a2 n2 c2]) Y.natAbs) => zero_any _ Y.natAbs wz h)
  rw [decide_eq_false (show ¬ Y.natAbs = 0 by omega)] at ZE
  have NG := Lib.hid (fun wz (h : IntAt wz a2 n2 c2 m2 Y) => neg_any a2 n2 c2 m2 Y wz h)
  have MN := Lib.hid (fun wz (h : IntAt wz a n c m P) => minus_any a n c m P wz h)
  have SZ := Lib.hid (fun wz (h : IntAt wz a2 n2 c2 m2 Y) => size_any a2 n2 c2 m2 Y wz h)
  unfold NatTold2 at SZ
  have hup : upZ P Y = if m2 then -P else P := by
    unfold upZ; rw [g.1]
    by_cases h1 : Y < 0
    · rw [if_pos h1, decide_eq_true h1]; rfl
    · rw [if_neg h1, decide_eq_false h1]; rfl
  have LW := Lib.hid (fun a n c m wz (h : IntAt wz a n c m (upZ P Y)) (g : NatIs wz (.agg #[.slice a2 n2 c2]) Y.natAbs) => lowest_any a n c m (upZ P Y) a2 n2 c2 Y.natAbs wz h g (by omega) K hK (by rw [upZ_abs]; exact hPK) hYK)
  rw [show loP (upZ P Y) Y.natAbs = nwP P Y from rfl, show loQ (upZ P Y) Y.natAbs = nwQ P Y from rfl] at LW
  rw [hup] at LW
  generalize nwP P Y = P1 at *
  generalize nwQ P Y = Q1 at *
  have B0 := ((((Bag.start w).int h).int g).box2 (.slice a n c) (.bool m) 28).box2 (.slice a2 n2 c2) (.bool m2) 28 |>.box3 (.slice none 0 0) (.bool false) (.slice none 0 0) 30
  simp only [World.size_alloc] at B0
  have BB := Lib.hid B0
  have q0 := B0.now.2.1.cell
  have q1 := B0.now.2.1.cell1
  have he : w.heap.size ≠ w.heap.size + 1 + 1 ∧ w.heap.size + 1 ≠ w.heap.size + 1 + 1 ∧ w.heap.size + 1 ≠ w.heap.size := by omega
  clear h g B0 hPK hYK hup
  cases m2 with
  | false =>
    rw [if_neg (by decide)] at LW
    go_enter Tryz.func15, Tryz.ntmps15
    go_wp2_with (first
      | (go_at_call 35; (with_reducible refine (ZE.out _ BB.out.now.2.2.2.1.nt).mono ?_); rintro e w2 ⟨rfl, hb2⟩; have BB := Lib.hid (BB.out.go hb2); have q0 := BB.out.now.2.1.cell; have q1 := BB.out.now.2.1.cell1; clear hb2)
      | (go_at_call 37; (with_reducible refine (NG.out _ BB.out.now.2.2.2.1).mono ?_); rintro e w3 ⟨rfl, hb3⟩; have BB := Lib.hid (BB.out.go hb3); have q0 := BB.out.now.2.1.cell; have q1 := BB.out.now.2.1.cell1; clear hb3))
    have BB := Lib.hid BB.out.drew
    go_region_held3 (fun y => y.cell? ⟨w.heap.size, 0, none⟩ = some (.slice a n c) ∧ y.cell? ⟨w.heap.size, 1, none⟩ = some (.bool m) ∧ y.cell? ⟨w.heap.size + 1, 0, none⟩ = some (.slice a2 n2 c2) ∧ y.cell? ⟨w.heap.size + 1, 1, none⟩ = some (.bool false))
      (first
        | (exact ⟨BB.out.now.2.2.1.cell, BB.out.now.2.2.1.cell1, BB.out.now.2.1.cell, BB.out.now.2.1.cell1⟩)
        | (exact ⟨z0.cell, z0.cell1, z1.cell, z1.cell1⟩))
      (first
        | (go_at_call 38; (with_reducible refine (SZ.out _ BB.out.now.2.2.2.1).mono ?_); rintro e w6 ⟨rfl, hn6, hb6⟩; have BB := Lib.hid (BB.out.go hb6))
        | (go_at_call 20; (with_reducible refine (LW.out _ _ _ _ _ BB.out.now.2.2.2.2.1 hn6).mono ?_); rintro e w7 ⟨a6, n6, c6, m6, a7, n7, c7, rfl, hr, hb7⟩; have BB := Lib.hid (BB.out.go hb7); have hs := BB.out.now.1; have r0 := hs.cell; have r1 := hs.cell1; have r2 := hs.cell2; have g0 := hs.free; have g1 := hs.free1; have g2 := hs.free2; have HS := hs.set (.slice a6 n6 c6) (.bool m6) (.slice a7 n7 c7); have z0 := BB.out.now.2.2.1.set3o he.1 (.slice a6 n6 c6) (.bool m6) (.slice a7 n7 c7); have z1 := BB.out.now.2.1.set3o he.2.1 (.slice a6 n6 c6) (.bool m6) (.slice a7 n7 c7); have HE := Lib.hid (RatTold3.done true BB.out.below (by omega) hs hr); clear hb7 hs hr))
    go_wp2
    exact bodyPost_ret (v := .tuple #[.agg #[.slice a6 n6 c6, .bool m6, .slice a7 n7 c7], .bool true]) (by simp [results, Tryz.results15, go_sem, HS]) rfl HE.out
  | true =>
    rw [if_pos rfl] at LW
    go_enter Tryz.func15, Tryz.ntmps15
    go_wp2_with (first
      | (go_at_call 35; (with_reducible refine (ZE.out _ BB.out.now.2.2.2.1.nt).mono ?_); rintro e w2 ⟨rfl, hb2⟩; have BB := Lib.hid (BB.out.go hb2); have q0 := BB.out.now.2.1.cell; have q1 := BB.out.now.2.1.cell1; clear hb2)
      | (go_at_call 37; (with_reducible refine (NG.out _ BB.out.now.2.2.2.1).mono ?_); rintro e w3 ⟨rfl, hb3⟩; have BB := Lib.hid (BB.out.go hb3); have q0 := BB.out.now.2.2.1.cell; have q1 := BB.out.now.2.2.1.cell1; clear hb3))
    go_at_call 26
    (with_reducible refine (MN.out _ BB.out.now.2.2.2.2.1).mono ?_)
    rintro e w4 ⟨a3, n3, c3, m3, rfl, hi, hb4⟩
    have B4 := BB.out.go hb4
    have u0 := B4.now.2.2.1
    have hc := u0.cell
    have hc1 := u0.cell1
    have hf := u0.free
    have hf1 := u0.free1
    have hni : ∀ (x : Option Addr) (y z : Nat) (ki : IntKind) (i : Int), (Value.slice x y z) ≠ .int ki i := fun _ _ _ _ _ h => by cases h
    have hnb : ∀ (x : Bool) (ki : IntKind) (i : Int), (Value.bool x) ≠ .int ki i := fun _ _ _ h => by cases h
    have B5 := (Bag.start w).go ((B4.below.setCell (p := ⟨w.heap.size, 0, none⟩) (Nat.le_refl _) (.slice a3 n3 c3)).setCell (p := ⟨w.heap.size, 1, none⟩) (Nat.le_refl _) (.bool m3))
    have B5 := B5.int (a := a3) (n := n3) (c := c3) (m := m3) (Z := -P) ⟨hi.1, hi.2.set2b u0 (hni _ _ _) (hnb _) _ _⟩
    have B5 := B5.int (a := a2) (n := n2) (c := c2) (m := true) (Z := Y) ⟨B4.now.2.2.2.1.1, B4.now.2.2.2.1.2.set2b u0 (hni _ _ _) (hnb _) _ _⟩
    have B5 := B5.slot2 (u0.set2 (.slice a3 n3 c3) (.bool m3))
    have B5 := B5.slot2 (B4.now.2.1.set2o he.2.2 (.slice a3 n3 c3) (.bool m3))
    have B5 := B5.slot3 (B4.now.1.set2o (k := w.heap.size) (by omega) (.slice a3 n3 c3) (.bool m3))
    have BB := Lib.hid B5
    clear hi hb4 B4 u0 B5 q0 q1
    go_wp2_with fail
    have BB := Lib.hid BB.out.drew
    go_region_held3 (fun y => y.cell? ⟨w.heap.size, 0, none⟩ = some (.slice a3 n3 c3) ∧ y.cell? ⟨w.heap.size, 1, none⟩ = some (.bool m3) ∧ y.cell? ⟨w.heap.size + 1, 0, none⟩ = some (.slice a2 n2 c2) ∧ y.cell? ⟨w.heap.size + 1, 1, none⟩ = some (.bool true))
      (first
        | (exact ⟨BB.out.now.2.2.1.cell, BB.out.now.2.2.1.cell1, BB.out.now.2.1.cell, BB.out.now.2.1.cell1⟩)
        | (exact ⟨z0.cell, z0.cell1, z1.cell, z1.cell1⟩))
      (first
        | (go_at_call 38; (with_reducible refine (SZ.out _ BB.out.now.2.2.2.1).mono ?_); rintro e w6 ⟨rfl, hn6, hb6⟩; have BB := Lib.hid (BB.out.go hb6))
        | (go_at_call 20; (with_reducible refine (LW.out _ _ _ _ _ BB.out.now.2.2.2.2.1 hn6).mono ?_); rintro e w7 ⟨a6, n6, c6, m6, a7, n7, c7, rfl, hr, hb7⟩; have BB := Lib.hid (BB.out.go hb7); have hs := BB.out.now.1; have r0 := hs.cell; have r1 := hs.cell1; have r2 := hs.cell2; have g0 := hs.free; have g1 := hs.free1; have g2 := hs.free2; have HS := hs.set (.slice a6 n6 c6) (.bool m6) (.slice a7 n7 c7); have z0 := BB.out.now.2.2.1.set3o he.1 (.slice a6 n6 c6) (.bool m6) (.slice a7 n7 c7); have z1 := BB.out.now.2.1.set3o he.2.1 (.slice a6 n6 c6) (.bool m6) (.slice a7 n7 c7); have HE := Lib.hid (RatTold3.done true BB.out.below (by omega) hs hr); clear hb7 hs hr))
    go_wp2
    exact bodyPost_ret (v := .tuple #[.agg #[.slice a6 n6 c6, .bool m6, .slice a7 n7 c7], .bool true]) (by simp [results, Tryz.results15, go_sem, HS]) rfl HE.out

theorem RatAt.set3 {w : World} {k : Nat} {a0 : Option Addr} {n0 c0 : Nat} {m0 : Bool} {a1 : Option Addr} {n1 c1 : Nat} {a : Option Addr} {n c : Nat} {m : Bool} {a2 : Option Addr} {n2 c2 : Nat} {P : Int} {Q : Nat} (q : RatAt w a n c m a2 n2 c2 P Q)
    (h : Slot3 w k (.slice a0 n0 c0) (.bool m0) (.slice a1 n1 c1)) (u v t : Value) : RatAt (((w.setCell ⟨k, 0, none⟩ u).setCell ⟨k, 1, none⟩ v).setCell ⟨k, 2, none⟩ t) a n c m a2 n2 c2 P Q :=
  ⟨⟨q.1.1, q.1.2.set3 h (fun _ _ h => by cases h) (fun _ _ h => by cases h) (fun _ _ h => by cases h) _ _ _⟩, q.2.set3 h (fun _ _ h => by cases h) (fun _ _ h => by cases h) (fun _ _ h => by cases h) _ _ _⟩

end Go.Proofs.YthklcdcikmninaaGreatDoor

namespace Go.Proofs.YthklcdcikmninaaGreatDoor
open Go.RowKit

theorem str_inj {l : List UInt8} {s : ByteArray} : str l = s ↔ l = s.data.toList := by
  constructor
  · intro h; rw [← h]; rfl
  · intro h; rw [h]; rfl
theorem lo_gcd1 {N M : Nat} (hM : 0 < M) (h : M / Nat.gcd N M = M) : Nat.gcd N M = 1 := by
  have hg : 0 < Nat.gcd N M := Nat.gcd_pos_of_pos_right _ hM
  rcases Nat.lt_or_ge 1 (Nat.gcd N M) with h1 | h1
  · have := Nat.div_lt_self hM h1; omega
  · omega

/-- A number's digits are in lowest terms and without a needless sign. -/
theorem of_right (b : Bool) (s t : ByteArray) (hM : 0 < numOf t.data.toList) :
    decide (rB (loP (sgn b (numOf s.data.toList)) (numOf t.data.toList)) = b ∧ rS (loP (sgn b (numOf s.data.toList)) (numOf t.data.toList)) = s ∧ str (dec (loQ (sgn b (numOf s.data.toList)) (numOf t.data.toList))) = t)
      = (decide (str (dec (numOf s.data.toList)) = s) && (decide (str (dec (numOf t.data.toList)) = t) && (decide (Nat.gcd (numOf s.data.toList) (numOf t.data.toList) = 1) && !(b && decide (numOf s.data.toList = 0))))) := by
  have ha : (sgn b (numOf s.data.toList)).natAbs = numOf s.data.toList := sgn_abs _ _
  have e1 : (loP (sgn b (numOf s.data.toList)) (numOf t.data.toList)).natAbs = numOf s.data.toList / Nat.gcd (numOf s.data.toList) (numOf t.data.toList) := by rw [loP_abs]; unfold rg; rw [ha]
  have e2 : loQ (sgn b (numOf s.data.toList)) (numOf t.data.toList) = numOf t.data.toList / Nat.gcd (numOf s.data.toList) (numOf t.data.toList) := by unfold loQ rg; rw [ha]
  have e3 : rB (loP (sgn b (numOf s.data.toList)) (numOf t.data.toList)) = (b && !decide (numOf s.data.toList = 0)) := by
    unfold rB; rw [loP_neg]; exact sgn_neg _ _
  rw [e2, e3]
  unfold rS
  rw [e1]
  rw [Bool.eq_iff_iff, decide_eq_true_eq, Bool.and_eq_true, Bool.and_eq_true, Bool.and_eq_true, decide_eq_true_eq, decide_eq_true_eq, decide_eq_true_eq]
  constructor
  · rintro ⟨h1, h2, h3⟩
    have n1 : numOf s.data.toList / Nat.gcd (numOf s.data.toList) (numOf t.data.toList) = numOf s.data.toList := by
      have := congrArg numOf (str_inj.1 h2); rw [numOf_dec] at this; exact this
    have n2 : numOf t.data.toList / Nat.gcd (numOf s.data.toList) (numOf t.data.toList) = numOf t.data.toList := by
      have := congrArg numOf (str_inj.1 h3); rw [numOf_dec] at this; exact this
    rw [n1] at h2
    rw [n2] at h3
    refine ⟨h2, h3, lo_gcd1 hM n2, ?_⟩
    cases b
    · rfl
    · simpa using h1
  · rintro ⟨h1, h2, h3, h4⟩
    rw [h3, Nat.div_one, Nat.div_one]
    refine ⟨?_, h1, h2⟩
    cases b
    · rfl
    · simpa using h4

end Go.Proofs.YthklcdcikmninaaGreatDoor

