/-
  Texts of this seat, laid together.
-/
import Derived.Test.YtnpoakaffafdiaaGreatDoorShelf
import Derived.Test.YtnpoakaffafdiaaGreatDoorM1
import Derived.Test.YtnpoakaffafdiaaGreatDoorM2
import Derived.Test.YtnpoakaffafdiaaGreatDoorM3
import Derived.Test.YtnpoakaffafdiaaGreatDoorM4

namespace Go.Proofs.YtnpoakaffafdiaaGreatDoor
open Go.RowKit
/-- The numerator and the denominator in lowest terms. -/
def rg (P : Int) (Q : Nat) : Nat := Nat.gcd P.natAbs Q
def loP (P : Int) (Q : Nat) : Int := sgn (decide (P < 0)) (P.natAbs / rg P Q)
def loQ (P : Int) (Q : Nat) : Nat := Q / rg P Q
theorem rg_pos (P : Int) {Q : Nat} (h : 0 < Q) : 0 < rg P Q := Nat.gcd_pos_of_pos_right _ h
theorem loP_abs (P : Int) (Q : Nat) : (loP P Q).natAbs = P.natAbs / rg P Q := sgn_abs _ _
theorem loP_absle (P : Int) (Q : Nat) : (loP P Q).natAbs ≤ P.natAbs := by rw [loP_abs]; exact Nat.div_le_self _ _
theorem loQ_le (P : Int) (Q : Nat) : loQ P Q ≤ Q := Nat.div_le_self _ _
theorem loQ_pos (P : Int) {Q : Nat} (h : 0 < Q) : 0 < loQ P Q :=
  Nat.div_pos (Nat.le_of_dvd h (Nat.gcd_dvd_right _ _)) (rg_pos P h)
theorem sgn_times (b : Bool) (N M : Nat) : sgn b (N * M) = N * sgn b M := by
  cases b <;> simp [sgn, Int.mul_neg]
theorem loP_mul (P : Int) (Q : Nat) : (rg P Q : Int) * loP P Q = P := by
  unfold loP
  rw [← sgn_times, show rg P Q * (P.natAbs / rg P Q) = P.natAbs from Nat.mul_div_cancel' (Nat.gcd_dvd_left _ _), sgn_self]
theorem loP_zero {P : Int} {Q : Nat} : loP P Q = 0 ↔ P = 0 := by
  constructor
  · intro h1
    have := loP_mul P Q
    rw [h1] at this; omega
  · intro h1
    have := loP_absle P Q
    rw [h1] at this ⊢
    omega
theorem loP_neg {P : Int} {Q : Nat} : decide (loP P Q < 0) = decide (P < 0) := by
  have h1 : (P.natAbs / rg P Q = 0) ↔ P = 0 := by
    rw [← loP_abs]
    have := loP_zero (P := P) (Q := Q)
    constructor
    · intro h2; exact this.1 (by omega)
    · intro h2; rw [this.2 h2]; rfl
  unfold loP
  rw [sgn_neg]
  by_cases h2 : P < 0
  · rw [decide_eq_true h2, decide_eq_false (fun h3 => by have := h1.1 h3; omega)]; rfl
  · rw [decide_eq_false h2]; rfl
theorem lo_cop (P : Int) {Q : Nat} (h : 0 < Q) : Nat.gcd (loP P Q).natAbs (loQ P Q) = 1 := by
  rw [loP_abs]
  exact Nat.Coprime.gcd_eq_one (Nat.coprime_div_gcd_div_gcd (rg_pos P h))
theorem lo_one {P : Int} {Q : Nat} (h : Nat.gcd P.natAbs Q = 1) : loP P Q = P ∧ loQ P Q = Q := by
  have h1 : rg P Q = 1 := h
  unfold loP loQ
  rw [h1, Nat.div_one, Nat.div_one, sgn_self]
  exact ⟨rfl, rfl⟩
/-- The sign of the denominator goes up. -/
def upZ (P Y : Int) : Int := if Y < 0 then -P else P
theorem upZ_abs (P Y : Int) : (upZ P Y).natAbs = P.natAbs := by unfold upZ; split <;> omega
end Go.Proofs.YtnpoakaffafdiaaGreatDoor
namespace Go.Proofs.YtnpoakaffafdiaaGreatDoor
open Go.RowKit
attribute [local go_sem ↓] Go.wp_at_zero Go.wp_at_succ
/-- Three cells of a block. -/
structure Slot3 (w : World) (k : Nat) (x y z : Value) : Prop where
  cell : w.cell? ⟨k, 0, none⟩ = some x
  cell1 : w.cell? ⟨k, 1, none⟩ = some y
  cell2 : w.cell? ⟨k, 2, none⟩ = some z
  free : w.frozen? ⟨k, 0, none⟩ = false
  free1 : w.frozen? ⟨k, 1, none⟩ = false
  free2 : w.frozen? ⟨k, 2, none⟩ = false
  lt : k < w.heap.size
theorem Slot3.below {w w' : World} {k : Nat} {x y z : Value} (h : Slot3 w k x y z) (hb : Below w.heap.size w w') : Slot3 w' k x y z :=
  ⟨(hb.cell (p := ⟨k, 0, none⟩) h.lt).trans h.cell, (hb.cell (p := ⟨k, 1, none⟩) h.lt).trans h.cell1, (hb.cell (p := ⟨k, 2, none⟩) h.lt).trans h.cell2,
    (hb.frozen (p := ⟨k, 0, none⟩) h.lt).trans h.free, (hb.frozen (p := ⟨k, 1, none⟩) h.lt).trans h.free1, (hb.frozen (p := ⟨k, 2, none⟩) h.lt).trans h.free2, Nat.lt_of_lt_of_le h.lt hb.size⟩
theorem Slot3.new (w : World) (x y z : Value) (t : TypeId) : Slot3 (w.alloc (.cells #[x, y, z] t)) w.heap.size x y z := by
  refine ⟨?_, ?_, ?_, World.frozen?_alloc_new _ _ _ _, World.frozen?_alloc_new _ _ _ _, World.frozen?_alloc_new _ _ _ _, by rw [World.size_alloc]; omega⟩
  · rw [World.cell?_alloc_new]; rfl
  · rw [World.cell?_alloc_new]; rfl
  · rw [World.cell?_alloc_new]; rfl
theorem Bag.slot3 {w0 w : World} {P : World → Prop} {k : Nat} {x y z : Value} (h : Bag w0 P w) (q : Slot3 w k x y z) : Bag w0 (fun v => Slot3 v k x y z ∧ P v) w := h.add (fun _ _ hb q => q.below hb) q
theorem Bag.box3 {w0 w : World} {P : World → Prop} (h : Bag w0 P w) (x y z : Value) (t : TypeId) : Bag w0 (fun v => Slot3 v w.heap.size x y z ∧ P v) (w.alloc (.cells #[x, y, z] t)) :=
  (h.alloc _).slot3 (Slot3.new w x y z t)
/-- The denominator as it is kept. -/
def lowN (Q : Nat) : Nat := if Q = 1 then 0 else Q
/-- The fields of a number, read as P by Q. -/
def RatAt (w : World) (a : Option Addr) (n c : Nat) (m : Bool) (a2 : Option Addr) (n2 c2 : Nat) (P : Int) (Q : Nat) : Prop := IntAt w a n c m P ∧ NatIs w (.agg #[.slice a2 n2 c2]) (lowN Q)
theorem RatAt.below {w w' : World} {a : Option Addr} {n c : Nat} {m : Bool} {a2 : Option Addr} {n2 c2 : Nat} {P : Int} {Q : Nat} (h : RatAt w a n c m a2 n2 c2 P Q) (hb : Below w.heap.size w w') : RatAt w' a n c m a2 n2 c2 P Q := ⟨h.1.below hb, h.2.below hb⟩
theorem Bag.rat {w0 w : World} {B : World → Prop} {a : Option Addr} {n c : Nat} {m : Bool} {a2 : Option Addr} {n2 c2 : Nat} {P : Int} {Q : Nat} (h : Bag w0 B w) (q : RatAt w a n c m a2 n2 c2 P Q) : Bag w0 (fun y => RatAt y a n c m a2 n2 c2 P Q ∧ B y) w := h.add (fun _ _ hb q => q.below hb) q
def RatTold (w w' : World) (e : Ending) (P : Int) (Q : Nat) : Prop := ∃ a n c m a2 n2 c2, e = .returned (.agg #[.slice a n c, .bool m, .slice a2 n2 c2]) ∧ RatAt w' a n c m a2 n2 c2 P Q ∧ Below w.heap.size w w'
def IntTold2 (w w' : World) (e : Ending) (a : Option Addr) (n c : Nat) (m : Bool) (Z : Int) : Prop := e = .returned (.agg #[.slice a n c, .bool m]) ∧ IntAt w' a n c m Z ∧ Below w.heap.size w w'
/-- Three cells of a block stored. -/
theorem Slot3.set {w : World} {k : Nat} {x y z : Value} (h : Slot3 w k x y z) (u v t : Value) :
    (((w.setCell ⟨k, 0, none⟩ u).setCell ⟨k, 1, none⟩ v).setCell ⟨k, 2, none⟩ t).cell? ⟨k, 0, none⟩ = some u ∧ (((w.setCell ⟨k, 0, none⟩ u).setCell ⟨k, 1, none⟩ v).setCell ⟨k, 2, none⟩ t).cell? ⟨k, 1, none⟩ = some v ∧ (((w.setCell ⟨k, 0, none⟩ u).setCell ⟨k, 1, none⟩ v).setCell ⟨k, 2, none⟩ t).cell? ⟨k, 2, none⟩ = some t := by
  refine ⟨?_, ?_, ?_⟩
  · rw [World.cell?_setCell_other _ _ _ _ (fun e => by cases e), World.cell?_setCell_other _ _ _ _ (fun e => by cases e)]
    exact World.cell?_setCell_same _ _ _ h.cell
  · rw [World.cell?_setCell_other _ _ _ _ (fun e => by cases e)]
    refine World.cell?_setCell_same (u := y) _ _ _ ?_
    rw [World.cell?_setCell_other _ _ _ _ (fun e => by cases e)]
    exact h.cell1
  · refine World.cell?_setCell_same (u := z) _ _ _ ?_
    rw [World.cell?_setCell_other _ _ _ _ (fun e => by cases e), World.cell?_setCell_other _ _ _ _ (fun e => by cases e)]
    exact h.cell2
theorem NatIs.set3 {w : World} {k : Nat} {x y z : Value} {v : Value} {N : Nat} (q : NatIs w v N) (h : Slot3 w k x y z) (hx : ∀ ki i, x ≠ .int ki i) (hy : ∀ ki i, y ≠ .int ki i) (hz : ∀ ki i, z ≠ .int ki i) (u v' t : Value) :
    NatIs (((w.setCell ⟨k, 0, none⟩ u).setCell ⟨k, 1, none⟩ v').setCell ⟨k, 2, none⟩ t) v N := by
  refine ((q.storeAt h.cell hx _).storeAt (x := y) ?_ hy _).storeAt (x := z) ?_ hz _
  · rw [World.cell?_setCell_other _ _ _ _ (fun e => by cases e)]
    exact h.cell1
  · rw [World.cell?_setCell_other _ _ _ _ (fun e => by cases e), World.cell?_setCell_other _ _ _ _ (fun e => by cases e)]
    exact h.cell2
theorem Slot3.set2 {w : World} {k : Nat} {x y z : Value} (h : Slot3 w k x y z) (u v : Value) : Slot3 ((w.setCell ⟨k, 0, none⟩ u).setCell ⟨k, 1, none⟩ v) k u v z := by
  refine ⟨?_, ?_, ?_, by simp [h.free], by simp [h.free1], by simp [h.free2], by simpa using h.lt⟩
  · rw [World.cell?_setCell_other _ _ _ _ (fun e => by cases e)]
    exact World.cell?_setCell_same _ _ _ h.cell
  · refine World.cell?_setCell_same (u := y) _ _ _ ?_
    rw [World.cell?_setCell_other _ _ _ _ (fun e => by cases e)]
    exact h.cell1
  · rw [World.cell?_setCell_other _ _ _ _ (fun e => by cases e), World.cell?_setCell_other _ _ _ _ (fun e => by cases e)]
    exact h.cell2
theorem Slot3.set2o {w : World} {k j : Nat} {x y z : Value} (h : Slot3 w j x y z) (e : j ≠ k) (u v : Value) : Slot3 ((w.setCell ⟨k, 0, none⟩ u).setCell ⟨k, 1, none⟩ v) j x y z := by
  have hn : ∀ o o' : Nat, (⟨k, o', none⟩ : Addr) ≠ ⟨j, o, none⟩ := fun o o' h => e (by cases h; rfl)
  refine ⟨?_, ?_, ?_, by simp [h.free], by simp [h.free1], by simp [h.free2], by simpa using h.lt⟩
  · rw [World.cell?_setCell_other _ _ _ _ (hn _ _), World.cell?_setCell_other _ _ _ _ (hn _ _)]; exact h.cell
  · rw [World.cell?_setCell_other _ _ _ _ (hn _ _), World.cell?_setCell_other _ _ _ _ (hn _ _)]; exact h.cell1
  · rw [World.cell?_setCell_other _ _ _ _ (hn _ _), World.cell?_setCell_other _ _ _ _ (hn _ _)]; exact h.cell2
theorem NatIs.set2 {w : World} {k : Nat} {x y z : Value} {v : Value} {N : Nat} (q : NatIs w v N) (h : Slot3 w k x y z) (hx : ∀ ki i, x ≠ .int ki i) (hy : ∀ ki i, y ≠ .int ki i) (u v' : Value) :
    NatIs ((w.setCell ⟨k, 0, none⟩ u).setCell ⟨k, 1, none⟩ v') v N := by
  refine (q.storeAt h.cell hx _).storeAt (x := y) ?_ hy _
  rw [World.cell?_setCell_other _ _ _ _ (fun e => by cases e)]
  exact h.cell1
theorem RatTold.done {w w2 : World} {k : Nat} {a0 : Option Addr} {n0 c0 : Nat} {m0 : Bool} {a1 : Option Addr} {n1 c1 : Nat} {a : Option Addr} {n c : Nat} {m : Bool} {a2 : Option Addr} {n2 c2 : Nat} {P : Int} {Q : Nat} (hb : Below w.heap.size w w2) (hk : w.heap.size ≤ k)
    (hs : Slot3 w2 k (.slice a0 n0 c0) (.bool m0) (.slice a1 n1 c1)) (h : RatAt w2 a n c m a2 n2 c2 P Q) :
    RatTold w (((w2.setCell ⟨k, 0, none⟩ (.slice a n c)).setCell ⟨k, 1, none⟩ (.bool m)).setCell ⟨k, 2, none⟩ (.slice a2 n2 c2)) (.returned (.agg #[.slice a n c, .bool m, .slice a2 n2 c2])) P Q :=
  ⟨a, n, c, m, a2, n2, c2, rfl, ⟨⟨h.1.1, h.1.2.set3 hs (fun _ _ h => by cases h) (fun _ _ h => by cases h) (fun _ _ h => by cases h) _ _ _⟩, h.2.set3 hs (fun _ _ h => by cases h) (fun _ _ h => by cases h) (fun _ _ h => by cases h) _ _ _⟩,
    ((hb.setCell hk _).setCell hk _).setCell hk _⟩
theorem NatTold.done {w w2 : World} {k : Nat} {a0 : Option Addr} {n0 c0 : Nat} {a : Option Addr} {n c N : Nat} (hb : Below w.heap.size w w2) (hk : w.heap.size ≤ k) (hs : Slot w2 k (.slice a0 n0 c0)) (h : NatIs w2 (.agg #[.slice a n c]) N) :
    NatTold w (w2.setCell ⟨k, 0, none⟩ (.slice a n c)) (.returned (.agg #[.slice a n c])) N :=
  ⟨a, n, c, rfl, h.storeAt hs.cell (fun _ _ h => by cases h) _, hb.setCell hk _⟩
theorem lowN_zero {Q : Nat} (h : 0 < Q) : decide (lowN Q = 0) = decide (Q = 1) := by
  unfold lowN
  by_cases h1 : Q = 1
  · rw [if_pos h1, decide_eq_true rfl, decide_eq_true h1]
  · rw [if_neg h1, decide_eq_false (by omega), decide_eq_false h1]
set_option maxHeartbeats 800000 in
set_option maxRecDepth 100000 in
theorem whole_any (a : Option Addr) (n c : Nat) (m : Bool) (Z : Int) (w : World) (h : IntAt w a n c m Z) :
    Calls Tryz.prog 84 #[.agg #[.slice a n c, .bool m]] w fun e w' => RatTold w w' e Z 1 := by
  have B0 := (((Bag.start w).int h).box2 (.slice a n c) (.bool m) 58).box3 (.slice a n c) (.bool m) (.slice none 0 0) 60
  have HE : Hid (RatTold w ((w.alloc (.cells #[.slice a n c, .bool m] 58)).alloc (.cells #[.slice a n c, .bool m, .slice none 0 0] 60)) (.returned (.agg #[.slice a n c, .bool m, .slice none 0 0])) Z 1) :=
    ⟨a, n, c, m, none, 0, 0, rfl, ⟨B0.now.2.2.1, NatIs.zero _⟩, B0.below⟩
  clear h B0
  go_enter Tryz.func84, Tryz.ntmps84
  go_wp2
  exact bodyPost_ret (v := .agg #[.slice a n c, .bool m, .slice none 0 0]) (by simp [results, Tryz.results84, go_sem]) rfl HE.out
set_option maxHeartbeats 800000 in
set_option maxRecDepth 100000 in
theorem top_any (a : Option Addr) (n c : Nat) (m : Bool) (a2 : Option Addr) (n2 c2 : Nat) (P : Int) (Q : Nat) (w : World) (h : RatAt w a n c m a2 n2 c2 P Q) :
    Calls Tryz.prog 162 #[.agg #[.slice a n c, .bool m, .slice a2 n2 c2]] w fun e w' => IntTold2 w w' e a n c m P := by
  have B0 := (((Bag.start w).int h.1).box3 (.slice a n c) (.bool m) (.slice a2 n2 c2) 60).box2 (.slice a n c) (.bool m) 58
  have HE : Hid (IntTold2 w ((w.alloc (.cells #[.slice a n c, .bool m, .slice a2 n2 c2] 60)).alloc (.cells #[.slice a n c, .bool m] 58)) (.returned (.agg #[.slice a n c, .bool m])) a n c m P) :=
    ⟨rfl, B0.now.2.2.1, B0.below⟩
  clear h B0
  go_enter Tryz.func162, Tryz.ntmps162
  go_wp2
  exact bodyPost_ret (v := .agg #[.slice a n c, .bool m]) (by simp [results, Tryz.results162, go_sem]) rfl HE.out
set_option maxHeartbeats 800000 in
set_option maxRecDepth 100000 in
theorem isWhole_any (a : Option Addr) (n c : Nat) (m : Bool) (a2 : Option Addr) (n2 c2 : Nat) (P : Int) (Q : Nat) (w : World) (h : RatAt w a n c m a2 n2 c2 P Q) (hQ : 0 < Q) :
    Calls Tryz.prog 80 #[.agg #[.slice a n c, .bool m, .slice a2 n2 c2]] w fun e w' => e = .returned (.bool (decide (Q = 1))) ∧ Below w.heap.size w w' := by
  have BB := Lib.hid (((Bag.start w).nat h.2).box3 (.slice a n c) (.bool m) (.slice a2 n2 c2) 60)
  have HZ := Lib.hid (fun wz hz => zero_any (.agg #[.slice a2 n2 c2]) (lowN Q) wz hz)
  rw [lowN_zero hQ] at HZ
  clear h hQ
  generalize decide (Q = 1) = q at *
  go_enter Tryz.func80, Tryz.ntmps80
  go_wp2_with (go_at_call 107; refine (HZ.out _ BB.out.now.2.1).mono ?_; rintro e w2 ⟨rfl, hb2⟩; have HB := Lib.hid (BB.out.go hb2).below; clear hb2)
  go_ret
  exact ⟨rfl, HB.out⟩
set_option maxHeartbeats 800000 in
set_option maxRecDepth 100000 in
theorem ratSign_any (a : Option Addr) (n c : Nat) (m : Bool) (a2 : Option Addr) (n2 c2 : Nat) (P : Int) (Q : Nat) (w : World) (h : RatAt w a n c m a2 n2 c2 P Q) :
    Calls Tryz.prog 29 #[.agg #[.slice a n c, .bool m, .slice a2 n2 c2]] w fun e w' => e = .returned (.int .i64 (sgnI P)) ∧ Below w.heap.size w w' := by
  have BB := Lib.hid (((Bag.start w).int h.1).box3 (.slice a n c) (.bool m) (.slice a2 n2 c2) 60)
  have HS := Lib.hid (fun wz hz => sign_any a n c m P wz hz)
  clear h
  generalize sgnI P = s at *
  go_enter Tryz.func29, Tryz.ntmps29
  go_wp2_with (go_at_call 77; refine (HS.out _ BB.out.now.2.1).mono ?_; rintro e w2 ⟨rfl, hb2⟩; have HB := Lib.hid (BB.out.go hb2).below; clear hb2)
  go_ret
  exact ⟨rfl, HB.out⟩
set_option maxHeartbeats 1600000 in
set_option maxRecDepth 100000 in
theorem bot_any (a : Option Addr) (n c : Nat) (m : Bool) (a2 : Option Addr) (n2 c2 : Nat) (P : Int) (Q : Nat) (w : World) (h : RatAt w a n c m a2 n2 c2 P Q) (hQ : 0 < Q) :
    Calls Tryz.prog 61 #[.agg #[.slice a n c, .bool m, .slice a2 n2 c2]] w fun e w' => NatTold w w' e Q := by
  have B0 := (((Bag.start w).rat h).box3 (.slice a n c) (.bool m) (.slice a2 n2 c2) 60).box (.slice none 0 0) 56
  rw [World.size_alloc] at B0
  have IW := Lib.hid (fun wz hz => isWhole_any a n c m a2 n2 c2 P Q wz hz hQ)
  have BB := Lib.hid B0
  by_cases h1 : Q = 1
  · subst h1
    have OF := Lib.hid (fun wz => of_told 1 wz (by omega))
    rw [decide_eq_true rfl] at IW
    clear h hQ B0
    go_enter Tryz.func61, Tryz.ntmps61
    go_wp2_with fail
    go_at_call 80
    refine (IW.out _ BB.out.now.2.2.1).mono ?_
    rintro e w2 ⟨rfl, hb2⟩
    have BB := Lib.hid (BB.out.go hb2)
    clear hb2
    go_wp2_with fail
    go_at_call 113
    refine (OF.out _).mono ?_
    rintro e w3 ⟨a3, n3, c3, rfl, hv, hb3⟩
    have BB := Lib.hid (BB.out.go hb3)
    have hs := BB.out.now.1
    have hc := hs.cell
    have hf := hs.free
    have HS := World.cell?_setCell_same w3 ⟨w.heap.size + 1, 0, none⟩ (.slice a3 n3 c3) hc
    have HE := Lib.hid (NatTold.done BB.out.below (by omega) hs hv)
    clear hb3 hs
    go_wp2
    exact bodyPost_ret (v := .agg #[.slice a3 n3 c3]) (by simp [results, Tryz.results61, go_sem, HS]) rfl HE.out
  · rw [decide_eq_false h1] at IW
    have hl : lowN Q = Q := if_neg h1
    have hx := h.2
    rw [hl] at hx
    have q0 := B0.now.2.1.cell2
    clear h hQ B0
    go_enter Tryz.func61, Tryz.ntmps61
    go_wp2_with fail
    go_at_call 80
    refine (IW.out _ BB.out.now.2.2.1).mono ?_
    rintro e w2 ⟨rfl, hb2⟩
    have BB := Lib.hid (BB.out.go hb2)
    clear hb2
    have q0 := BB.out.now.2.1.cell2
    have hs := BB.out.now.1
    have hc := hs.cell
    have hf := hs.free
    have HS := World.cell?_setCell_same w2 ⟨w.heap.size + 1, 0, none⟩ (.slice a2 n2 c2) hc
    have HE := Lib.hid (NatTold.done BB.out.below (by omega) hs (hl ▸ BB.out.now.2.2.1.2))
    clear hs
    go_wp2
    exact bodyPost_ret (v := .agg #[.slice a2 n2 c2]) (by simp [results, Tryz.results61, go_sem, HS]) rfl HE.out
set_option maxHeartbeats 1600000 in
set_option maxRecDepth 100000 in
theorem below_any (a : Option Addr) (n c : Nat) (m : Bool) (a2 : Option Addr) (n2 c2 : Nat) (P : Int) (Q : Nat) (w : World) (h : RatAt w a n c m a2 n2 c2 P Q) (hQ : 0 < Q) :
    Calls Tryz.prog 83 #[.agg #[.slice a n c, .bool m, .slice a2 n2 c2]] w fun e w' => IntTold w w' e (Q : Int) := by
  have B0 := (((Bag.start w).rat h).box3 (.slice a n c) (.bool m) (.slice a2 n2 c2) 60).box2 (.slice none 0 0) (.bool false) 58
  rw [World.size_alloc] at B0
  have BT := Lib.hid (fun wz hz => bot_any a n c m a2 n2 c2 P Q wz hz hQ)
  have OF := Lib.hid (fun a n c wz (h : NatIs wz (.agg #[.slice a n c]) Q) => wof_any false a n c Q wz h)
  rw [show sgn false Q = (Q : Int) from rfl] at OF
  have BB := Lib.hid B0
  clear h hQ B0
  go_enter Tryz.func83, Tryz.ntmps83
  go_wp2_with fail
  go_at_call 61
  refine (BT.out _ BB.out.now.2.2.1).mono ?_
  rintro e w2 ⟨a3, n3, c3, rfl, hv, hb2⟩
  have BB := Lib.hid ((BB.out.go hb2).nat hv)
  clear hb2 hv
  go_wp2_with fail
  go_at_call 119
  refine (OF.out _ _ _ _ BB.out.now.1).mono ?_
  rintro e w3 ⟨a4, n4, c4, m4, rfl, hi, hb3⟩
  have BB := Lib.hid (BB.out.go hb3)
  have hs := BB.out.now.2.1
  have hc := hs.cell
  have hc1 := hs.cell1
  have hf := hs.free
  have hf1 := hs.free1
  have HS := hs.set (.slice a4 n4 c4) (.bool m4)
  have HE := Lib.hid (IntTold.done BB.out.below (by omega) hs (fun _ _ h => by cases h) hi)
  clear hb3 hs
  go_wp2
  exact bodyPost_ret (v := .agg #[.slice a4 n4 c4, .bool m4]) (by simp [results, Tryz.results83, go_sem, HS]) rfl HE.out
set_option maxHeartbeats 1600000 in
set_option maxRecDepth 100000 in
theorem ratFrom_any (X : Int) (w : World) (h : -9223372036854775808 ≤ X ∧ X ≤ 9223372036854775807) :
    Calls Tryz.prog 33 #[.int .i64 X] w fun e w' => RatTold w w' e X 1 := by
  have BB := Lib.hid ((Bag.start w).box3 (.slice none 0 0) (.bool false) (.slice none 0 0) 60)
  have FR := Lib.hid (fun wz => from_any X wz h)
  have WH := Lib.hid (fun a n c m wz (h : IntAt wz a n c m X) => whole_any a n c m X wz h)
  clear h
  go_enter Tryz.func33, Tryz.ntmps33
  go_wp2_with fail
  go_at_call 85
  refine (FR.out _).mono ?_
  rintro e w2 ⟨a, n, c, m, rfl, hi, hb2⟩
  have BB := Lib.hid ((BB.out.go hb2).int hi)
  clear hb2 hi
  go_wp2_with fail
  go_at_call 84
  refine (WH.out _ _ _ _ _ BB.out.now.1).mono ?_
  rintro e w3 ⟨a3, n3, c3, m3, a4, n4, c4, rfl, hr, hb3⟩
  have BB := Lib.hid (BB.out.go hb3)
  have hs := BB.out.now.2.1
  have hc := hs.cell
  have hc1 := hs.cell1
  have hc2 := hs.cell2
  have hf := hs.free
  have hf1 := hs.free1
  have hf2 := hs.free2
  have HS := hs.set (.slice a3 n3 c3) (.bool m3) (.slice a4 n4 c4)
  have HE := Lib.hid (RatTold.done BB.out.below (by omega) hs hr)
  clear hb3 hs hr
  go_wp2
  exact bodyPost_ret (v := .agg #[.slice a3 n3 c3, .bool m3, .slice a4 n4 c4]) (by simp [results, Tryz.results33, go_sem, HS]) rfl HE.out
set_option maxHeartbeats 1600000 in
set_option maxRecDepth 100000 in
theorem ratMinus_any (a : Option Addr) (n c : Nat) (m : Bool) (a2 : Option Addr) (n2 c2 : Nat) (P : Int) (Q : Nat) (w : World) (h : RatAt w a n c m a2 n2 c2 P Q) :
    Calls Tryz.prog 31 #[.agg #[.slice a n c, .bool m, .slice a2 n2 c2]] w fun e w' => RatTold w w' e (-P) Q := by
  have B0 := (((Bag.start w).rat h).box3 (.slice a n c) (.bool m) (.slice a2 n2 c2) 60).box3 (.slice none 0 0) (.bool false) (.slice none 0 0) 60
  rw [World.size_alloc] at B0
  have MN := Lib.hid (fun wz (h : IntAt wz a n c m P) => minus_any a n c m P wz h)
  have BB := Lib.hid B0
  clear h B0
  go_enter Tryz.func31, Tryz.ntmps31
  go_wp2_with fail
  go_at_call 79
  refine (MN.out _ BB.out.now.2.2.1.1).mono ?_
  rintro e w3 ⟨a3, n3, c3, m3, rfl, hi, hb3⟩
  have BB := Lib.hid (BB.out.go hb3)
  have hs0 := BB.out.now.2.1
  have hs := BB.out.now.1
  have hc := hs0.cell
  have hc1 := hs0.cell1
  have hf := hs0.free
  have hf1 := hs0.free1
  have hs3 := hs0.set2 (.slice a3 n3 c3) (.bool m3)
  have hs4 := hs.set2o (k := w.heap.size) (by omega) (.slice a3 n3 c3) (.bool m3)
  have q0 := hs3.cell
  have q1 := hs3.cell1
  have q2 := hs3.cell2
  have r0 := hs4.cell
  have r1 := hs4.cell1
  have r2 := hs4.cell2
  have g0 := hs4.free
  have g1 := hs4.free1
  have g2 := hs4.free2
  have hx : RatAt ((w3.setCell ⟨w.heap.size, 0, none⟩ (.slice a3 n3 c3)).setCell ⟨w.heap.size, 1, none⟩ (.bool m3)) a3 n3 c3 m3 a2 n2 c2 (-P) Q :=
    ⟨⟨hi.1, hi.2.set2 hs0 (fun _ _ h => by cases h) (fun _ _ h => by cases h) _ _⟩, BB.out.now.2.2.1.2.set2 hs0 (fun _ _ h => by cases h) (fun _ _ h => by cases h) _ _⟩
  have HS := hs4.set (.slice a3 n3 c3) (.bool m3) (.slice a2 n2 c2)
  have HE := Lib.hid (RatTold.done ((BB.out.below.setCell (Nat.le_refl _) _).setCell (Nat.le_refl _) _) (by omega) hs4 hx)
  clear hb3 hs hs0 hs3 hs4 hx hi
  go_wp2
  exact bodyPost_ret (v := .agg #[.slice a3 n3 c3, .bool m3, .slice a2 n2 c2]) (by simp [results, Tryz.results31, go_sem, HS]) rfl HE.out
end Go.Proofs.YtnpoakaffafdiaaGreatDoor
namespace Go.Proofs.YtnpoakaffafdiaaGreatDoor
open Go.RowKit
attribute [local go_sem ↓] Go.wp_at_zero Go.wp_at_succ
theorem Slot3.set1 {w : World} {k : Nat} {x y z : Value} (h : Slot3 w k x y z) (t : Value) : Slot3 (w.setCell ⟨k, 2, none⟩ t) k x y t := by
  refine ⟨?_, ?_, World.cell?_setCell_same _ _ _ h.cell2, by simp [h.free], by simp [h.free1], by simp [h.free2], by simpa using h.lt⟩
  · rw [World.cell?_setCell_other _ _ _ _ (fun e => by cases e)]; exact h.cell
  · rw [World.cell?_setCell_other _ _ _ _ (fun e => by cases e)]; exact h.cell1
theorem Slot3.set1o {w : World} {k j o : Nat} {x y z : Value} (h : Slot3 w j x y z) (e : j ≠ k) (t : Value) : Slot3 (w.setCell ⟨k, o, none⟩ t) j x y z := by
  have hn : ∀ o' : Nat, (⟨k, o, none⟩ : Addr) ≠ ⟨j, o', none⟩ := fun o' h => e (by cases h; rfl)
  refine ⟨?_, ?_, ?_, by simp [h.free], by simp [h.free1], by simp [h.free2], by simpa using h.lt⟩
  · rw [World.cell?_setCell_other _ _ _ _ (hn _)]; exact h.cell
  · rw [World.cell?_setCell_other _ _ _ _ (hn _)]; exact h.cell1
  · rw [World.cell?_setCell_other _ _ _ _ (hn _)]; exact h.cell2
set_option maxHeartbeats 3200000 in
set_option maxRecDepth 100000 in
theorem fraction_any (b : Bool) (a : Option Addr) (n c N : Nat) (a2 : Option Addr) (n2 c2 M : Nat) (w : World) (h : NatIs w (.agg #[.slice a n c]) N) (g : NatIs w (.agg #[.slice a2 n2 c2]) M) (hM : 0 < M) :
    Calls Tryz.prog 158 #[.bool b, .agg #[.slice a n c], .agg #[.slice a2 n2 c2]] w fun e w' => RatTold w w' e (sgn b N) M := by
  have OF := Lib.hid (fun wz (h : NatIs wz (.agg #[.slice a n c]) N) => wof_any b a n c N wz h)
  have WH := Lib.hid (fun a n c m wz (h : IntAt wz a n c m (sgn b N)) => whole_any a n c m (sgn b N) wz h)
  have ON := Lib.hid (fun wz (h : NatIs wz (.agg #[.slice a2 n2 c2]) M) => one_any _ M wz h)
  have B0 := (((((Bag.start w).nat h).nat g).box (.slice a n c) 56).box (.slice a2 n2 c2) 56).box3 (.slice none 0 0) (.bool false) (.slice none 0 0) 60
  simp only [World.size_alloc] at B0
  have BB := Lib.hid B0
  generalize sgn b N = P at *
  clear h g B0
  by_cases hm : M = 1
  · rw [decide_eq_true hm] at ON
    go_enter Tryz.func158, Tryz.ntmps158
    go_wp2_with fail
    go_at_call 119
    refine (OF.out _ BB.out.now.2.2.2.2.1).mono ?_
    rintro e w2 ⟨a3, n3, c3, m3, rfl, hi, hb2⟩
    have BB := Lib.hid ((BB.out.go hb2).int hi)
    clear hb2 hi
    go_wp2_with fail
    go_at_call 84
    refine (WH.out _ _ _ _ _ BB.out.now.1).mono ?_
    rintro e w3 ⟨a4, n4, c4, m4, a5, n5, c5, rfl, hr, hb3⟩
    have BB := Lib.hid (((BB.out.go hb3).rat hr).box3 (.slice a4 n4 c4) (.bool m4) (.slice a5 n5 c5) 60)
    clear hb3 hr
    have q0 := BB.out.now.2.2.2.2.1.cell
    go_wp2_with fail
    go_at_call 154
    refine (ON.out _ BB.out.now.2.2.2.2.2.2.1).mono ?_
    rintro e w4 ⟨rfl, hb4⟩
    have BB := Lib.hid (BB.out.go hb4)
    clear hb4 q0
    have hs0 := BB.out.now.1
    have q0 := hs0.cell
    have q1 := hs0.cell1
    have q2 := hs0.cell2
    have hs := BB.out.now.2.2.2.1
    have r0 := hs.cell
    have r1 := hs.cell1
    have r2 := hs.cell2
    have g0 := hs.free
    have g1 := hs.free1
    have g2 := hs.free2
    have HS := hs.set (.slice a4 n4 c4) (.bool m4) (.slice a5 n5 c5)
    have HE := Lib.hid (RatTold.done BB.out.below (by omega) hs BB.out.now.2.1)
    clear hs hs0
    subst hm
    go_wp2
    exact bodyPost_ret (v := .agg #[.slice a4 n4 c4, .bool m4, .slice a5 n5 c5]) (by simp [results, Tryz.results158, go_sem, HS]) rfl HE.out
  · rw [decide_eq_false hm] at ON
    go_enter Tryz.func158, Tryz.ntmps158
    go_wp2_with fail
    go_at_call 119
    refine (OF.out _ BB.out.now.2.2.2.2.1).mono ?_
    rintro e w2 ⟨a3, n3, c3, m3, rfl, hi, hb2⟩
    have BB := Lib.hid ((BB.out.go hb2).int hi)
    clear hb2 hi
    go_wp2_with fail
    go_at_call 84
    refine (WH.out _ _ _ _ _ BB.out.now.1).mono ?_
    rintro e w3 ⟨a4, n4, c4, m4, a5, n5, c5, rfl, hr, hb3⟩
    have hk : w.heap.size + 1 + 1 < w3.heap.size := (BB.out.go hb3).now.2.1.lt
    have BB := Lib.hid (((BB.out.go hb3).rat hr).box3 (.slice a4 n4 c4) (.bool m4) (.slice a5 n5 c5) 60)
    clear hb3 hr
    have q0 := BB.out.now.2.2.2.2.1.cell
    go_wp2_with fail
    go_at_call 154
    refine (ON.out _ BB.out.now.2.2.2.2.2.2.1).mono ?_
    rintro e w4 ⟨rfl, hb4⟩
    have BB := Lib.hid (BB.out.go hb4)
    clear hb4 q0
    have hs0 := BB.out.now.1
    have q3 := BB.out.now.2.2.2.2.1.cell
    have p2 := hs0.cell2
    have pf := hs0.free2
    have hs1 := hs0.set1 (.slice a2 n2 c2)
    have q0 := hs1.cell
    have q1 := hs1.cell1
    have q2 := hs1.cell2
    have hs := BB.out.now.2.2.2.1.set1o (o := 2) (k := w3.heap.size) (by omega) (.slice a2 n2 c2)
    have r0 := hs.cell
    have r1 := hs.cell1
    have r2 := hs.cell2
    have g0 := hs.free
    have g1 := hs.free1
    have g2 := hs.free2
    have HS := hs.set (.slice a4 n4 c4) (.bool m4) (.slice a2 n2 c2)
    have hx : RatAt (w4.setCell ⟨w3.heap.size, 2, none⟩ (.slice a2 n2 c2)) a4 n4 c4 m4 a2 n2 c2 P M := by
      have h1 := BB.out.now.2.1.1
      have h2 := BB.out.now.2.2.2.2.2.2.1
      refine ⟨⟨h1.1, h1.2.storeAt hs0.cell2 (fun _ _ h => by cases h) _⟩, ?_⟩
      rw [show lowN M = M from if_neg hm]
      exact h2.storeAt hs0.cell2 (fun _ _ h => by cases h) _
    have HE := Lib.hid (RatTold.done (BB.out.below.setCell (p := ⟨w3.heap.size, 2, none⟩) (show w.heap.size ≤ w3.heap.size by omega) _) (by omega) hs hx)
    clear hs hs0 hs1 hx
    go_wp2
    exact bodyPost_ret (v := .agg #[.slice a4 n4 c4, .bool m4, .slice a2 n2 c2]) (by simp [results, Tryz.results158, go_sem, HS]) rfl HE.out
theorem Slot.set0 {w : World} {k : Nat} {x : Value} (h : Slot w k x) (t : Value) : Slot (w.setCell ⟨k, 0, none⟩ t) k t :=
  ⟨World.cell?_setCell_same _ _ _ h.cell, by simp [h.free], by simpa using h.lt⟩
theorem Slot.seto {w : World} {k j : Nat} {x : Value} (h : Slot w j x) (e : j ≠ k) (t : Value) : Slot (w.setCell ⟨k, 0, none⟩ t) j x := by
  refine ⟨?_, by simp [h.free], by simpa using h.lt⟩
  rw [World.cell?_setCell_other _ _ _ _ (fun e' => by cases e'; exact e rfl)]; exact h.cell
theorem Slot2.seto {w : World} {k j : Nat} {x y : Value} (h : Slot2 w j x y) (e : j ≠ k) (t : Value) : Slot2 (w.setCell ⟨k, 0, none⟩ t) j x y := by
  refine ⟨?_, ?_, by simp [h.free], by simp [h.free1], by simpa using h.lt⟩
  · rw [World.cell?_setCell_other _ _ _ _ (fun e' => by cases e'; exact e rfl)]; exact h.cell
  · rw [World.cell?_setCell_other _ _ _ _ (fun e' => by cases e')]; exact h.cell1
/-- Three cells of another block stored. -/
theorem Slot.set3o {w : World} {k j : Nat} {x : Value} (h : Slot w j x) (e : j ≠ k) (u v t : Value) : Slot (((w.setCell ⟨k, 0, none⟩ u).setCell ⟨k, 1, none⟩ v).setCell ⟨k, 2, none⟩ t) j x := by
  have hn : ∀ o : Nat, (⟨k, o, none⟩ : Addr) ≠ ⟨j, 0, none⟩ := fun o h => e (by cases h; rfl)
  refine ⟨?_, by simp [h.free], by simpa using h.lt⟩
  rw [World.cell?_setCell_other _ _ _ _ (hn _), World.cell?_setCell_other _ _ _ _ (hn _), World.cell?_setCell_other _ _ _ _ (hn _)]; exact h.cell
theorem Slot2.set3o {w : World} {k j : Nat} {x y : Value} (h : Slot2 w j x y) (e : j ≠ k) (u v t : Value) : Slot2 (((w.setCell ⟨k, 0, none⟩ u).setCell ⟨k, 1, none⟩ v).setCell ⟨k, 2, none⟩ t) j x y := by
  have hn : ∀ o o' : Nat, (⟨k, o, none⟩ : Addr) ≠ ⟨j, o', none⟩ := fun o o' h => e (by cases h; rfl)
  refine ⟨?_, ?_, by simp [h.free], by simp [h.free1], by simpa using h.lt⟩
  · rw [World.cell?_setCell_other _ _ _ _ (hn _ _), World.cell?_setCell_other _ _ _ _ (hn _ _), World.cell?_setCell_other _ _ _ _ (hn _ _)]; exact h.cell
  · rw [World.cell?_setCell_other _ _ _ _ (hn _ _), World.cell?_setCell_other _ _ _ _ (hn _ _), World.cell?_setCell_other _ _ _ _ (hn _ _)]; exact h.cell1
theorem Slot3.set3o {w : World} {k j : Nat} {x y z : Value} (h : Slot3 w j x y z) (e : j ≠ k) (u v t : Value) : Slot3 (((w.setCell ⟨k, 0, none⟩ u).setCell ⟨k, 1, none⟩ v).setCell ⟨k, 2, none⟩ t) j x y z :=
  (h.set2o e u v).set1o e t
theorem divMod3_any (a : Option Addr) (n c : Nat) (a2 : Option Addr) (n2 c2 : Nat) (N M : Nat) (w : World) (h : NatIs w (.agg #[.slice a n c]) N) (g : NatIs w (.agg #[.slice a2 n2 c2]) M) (k : Nat) (hk : k ≤ 900000) (hN : N < 4294967296 ^ k) (hM : 0 < M) :
    Calls Tryz.prog 157 #[.agg #[.slice a n c], .agg #[.slice a2 n2 c2]] w fun e w' => DivOf3 w w' e (N / M) (modz N M) true := by
  refine (divMod_any _ _ N M w h g k hk hN).mono ?_
  rintro e w' ⟨v, u, rfl, hv, hu, hb⟩
  obtain ⟨a, n, c, f, rfl, hs, hv, ht⟩ := hv
  obtain ⟨a2, n2, c2, f2, rfl, hs2, hv2, ht2⟩ := hu
  exact ⟨a, n, c, a2, n2, c2, by rw [decide_eq_true (by omega)], ⟨a, n, c, f, rfl, hs, hv, ht⟩, ⟨a2, n2, c2, f2, rfl, hs2, hv2, ht2⟩, hb⟩
set_option maxHeartbeats 3200000 in
set_option maxRecDepth 100000 in
theorem lowest_any (a : Option Addr) (n c : Nat) (m : Bool) (P : Int) (a2 : Option Addr) (n2 c2 Q : Nat) (w : World) (h : IntAt w a n c m P) (g : NatIs w (.agg #[.slice a2 n2 c2]) Q) (hQ : 0 < Q)
    (K : Nat) (hK : K ≤ 900000) (hPK : P.natAbs < 4294967296 ^ K) (hQK : Q < 4294967296 ^ K) :
    Calls Tryz.prog 118 #[.agg #[.slice a n c, .bool m], .agg #[.slice a2 n2 c2]] w fun e w' => RatTold w w' e (loP P Q) (loQ P Q) := by
  have ON := Lib.hid (fun wz (h : NatIs wz (.agg #[.slice a2 n2 c2]) Q) => one_any _ Q wz h)
  have B0 := (((((Bag.start w).int h).nat g).box2 (.slice a n c) (.bool m) 58).box (.slice a2 n2 c2) 56).box3 (.slice none 0 0) (.bool false) (.slice none 0 0) 60
  simp only [World.size_alloc] at B0
  have BB := Lib.hid B0
  by_cases hq : Q = 1
  · subst hq
    have hlo : loP P 1 = P ∧ loQ P 1 = 1 := lo_one (Nat.gcd_one_right _)
    rw [hlo.1, hlo.2]
    rw [decide_eq_true rfl] at ON
    have WH := Lib.hid (fun wz (h : IntAt wz a n c m P) => whole_any a n c m P wz h)
    clear h g B0 hlo hPK hQK
    go_enter Tryz.func118, Tryz.ntmps118
    have q0 := BB.out.now.2.1.cell
    have q1 := BB.out.now.2.2.1.cell
    have q2 := BB.out.now.2.2.1.cell1
    go_wp2_with fail
    go_at_call 154
    refine (ON.out _ BB.out.now.2.2.2.1).mono ?_
    rintro e w2 ⟨rfl, hb2⟩
    have BB := Lib.hid (BB.out.go hb2)
    clear hb2 q0 q1 q2
    have q0 := BB.out.now.2.1.cell
    have q1 := BB.out.now.2.2.1.cell
    have q2 := BB.out.now.2.2.1.cell1
    go_wp2_with fail
    go_at_call 84
    refine (WH.out _ BB.out.now.2.2.2.2.1).mono ?_
    rintro e w3 ⟨a3, n3, c3, m3, a4, n4, c4, rfl, hr, hb3⟩
    have BB := Lib.hid (BB.out.go hb3)
    have hs := BB.out.now.1
    have r0 := hs.cell
    have r1 := hs.cell1
    have r2 := hs.cell2
    have g0 := hs.free
    have g1 := hs.free1
    have g2 := hs.free2
    have HS := hs.set (.slice a3 n3 c3) (.bool m3) (.slice a4 n4 c4)
    have HE := Lib.hid (RatTold.done BB.out.below (by omega) hs hr)
    clear hb3 hs hr
    go_wp2
    exact bodyPost_ret (v := .agg #[.slice a3 n3 c3, .bool m3, .slice a4 n4 c4]) (by simp [results, Tryz.results118, go_sem, HS]) rfl HE.out
  · rw [decide_eq_false hq] at ON
    have SZ := Lib.hid (fun wz (h : IntAt wz a n c m P) => size_any a n c m P wz h)
    have NG := Lib.hid (fun wz (h : IntAt wz a n c m P) => neg_any a n c m P wz h)
    have GC : Hid (∀ wz, NatIs wz (.agg #[.slice a n c]) P.natAbs → NatIs wz (.agg #[.slice a2 n2 c2]) Q → Calls Tryz.prog 156 #[.agg #[.slice a n c], .agg #[.slice a2 n2 c2]] wz fun e w' => NatOf3 wz w' e (Nat.gcd P.natAbs Q)) := fun wz h g => gcd_any a n c a2 n2 c2 P.natAbs Q wz h g K hK hPK hQK
    have ON2 := Lib.hid (fun a n c wz (h : NatIs wz (.agg #[.slice a n c]) (Nat.gcd P.natAbs Q)) => one_any _ (Nat.gcd P.natAbs Q) wz h)
    unfold NatTold2 at SZ
    by_cases hg : Nat.gcd P.natAbs Q = 1
    · have hlo : loP P Q = P ∧ loQ P Q = Q := lo_one hg
      rw [hlo.1, hlo.2]
      rw [hg] at ON2 GC
      rw [decide_eq_true rfl] at ON2
      have FR := Lib.hid (fun wz (h : NatIs wz (.agg #[.slice a n c]) P.natAbs) (g : NatIs wz (.agg #[.slice a2 n2 c2]) Q) => fraction_any m a n c P.natAbs a2 n2 c2 Q wz h g hQ)
      rw [h.1, sgn_self, ← h.1] at FR
      clear h g B0 hlo hPK hQK hQ hg
      go_enter Tryz.func118, Tryz.ntmps118
      have q0 := BB.out.now.2.1.cell
      have q1 := BB.out.now.2.2.1.cell
      have q2 := BB.out.now.2.2.1.cell1
      go_wp2_with (first
        | (go_at_call 154; (with_reducible refine (ON.out _ BB.out.now.2.2.2.1).mono ?_); rintro e w2 ⟨rfl, hb2⟩; have BB := Lib.hid (BB.out.go hb2); clear hb2; have q0 := BB.out.now.2.1.cell; have q1 := BB.out.now.2.2.1.cell; have q2 := BB.out.now.2.2.1.cell1)
        | (go_at_call 155; (with_reducible refine (SZ.out _ BB.out.now.2.2.2.2.1).mono ?_); rintro e w3 ⟨rfl, hn3, hb3⟩; have hk3 : w.heap.size + 1 + 1 < w3.heap.size := (BB.out.go hb3).now.1.lt; have BB := Lib.hid (((BB.out.go hb3).nat hn3).box (.slice a n c) 56); clear hb3 hn3; have q0 := BB.out.now.2.2.2.1.cell; have q1 := BB.out.now.2.2.2.2.1.cell; have q2 := BB.out.now.2.2.2.2.1.cell1; have q3 := BB.out.now.1.cell)
        | (go_at_call 156; (with_reducible refine (GC.out _ BB.out.now.2.1 BB.out.now.2.2.2.2.2.1).mono ?_); rintro e w4 ⟨a5, n5, c5, rfl, hn5, hb4⟩; have hk4 : w3.heap.size < w4.heap.size := (BB.out.go hb4).now.1.lt; have BB := Lib.hid (((BB.out.go hb4).nat hn5).box (.slice a5 n5 c5) 56); clear hb4 hn5; have q0 := BB.out.now.2.2.2.2.2.1.cell; have q1 := BB.out.now.2.2.2.2.2.2.1.cell; have q2 := BB.out.now.2.2.2.2.2.2.1.cell1; have q3 := BB.out.now.2.2.1.cell; have q4 := BB.out.now.1.cell)
        | (go_at_call 154; (with_reducible refine (ON2.out a5 n5 c5 _ BB.out.now.2.1).mono ?_); rintro e w5 ⟨rfl, hb5⟩; have BB := Lib.hid (BB.out.go hb5); clear hb5; have q0 := BB.out.now.2.2.2.2.2.1.cell; have q1 := BB.out.now.2.2.2.2.2.2.1.cell; have q2 := BB.out.now.2.2.2.2.2.2.1.cell1; have q3 := BB.out.now.2.2.1.cell; have q4 := BB.out.now.1.cell))
      have BB := Lib.hid BB.out.drew
      have he : w.heap.size ≠ w.heap.size + 1 + 1 ∧ w.heap.size + 1 ≠ w.heap.size + 1 + 1 ∧ w3.heap.size ≠ w.heap.size + 1 + 1 := by omega
      go_region_held3 (fun y => y.cell? ⟨w.heap.size, 0, none⟩ = some (.slice a n c) ∧ y.cell? ⟨w.heap.size, 1, none⟩ = some (.bool m) ∧ y.cell? ⟨w.heap.size + 1, 0, none⟩ = some (.slice a2 n2 c2) ∧ y.cell? ⟨w3.heap.size, 0, none⟩ = some (.slice a n c))
        (first
          | (exact ⟨BB.out.now.2.2.2.2.2.2.1.cell, BB.out.now.2.2.2.2.2.2.1.cell1, BB.out.now.2.2.2.2.2.1.cell, BB.out.now.2.2.1.cell⟩)
          | (exact ⟨z0.cell, z0.cell1, z1.cell, z2.cell⟩))
        (first
          | (go_at_call 136; (with_reducible refine (NG.out _ BB.out.now.2.2.2.2.2.2.2.2.1).mono ?_); rintro e w6 ⟨rfl, hb6⟩; have BB := Lib.hid (BB.out.go hb6); clear hb6)
          | (go_at_call 158; (with_reducible refine (FR.out _ BB.out.now.2.2.2.1 BB.out.now.2.2.2.2.2.2.2.1).mono ?_); rintro e w7 ⟨a6, n6, c6, m6, a7, n7, c7, rfl, hr, hb7⟩; have BB := Lib.hid (BB.out.go hb7); have hs := BB.out.now.2.2.2.2.1; have r0 := hs.cell; have r1 := hs.cell1; have r2 := hs.cell2; have g0 := hs.free; have g1 := hs.free1; have g2 := hs.free2; have HS := hs.set (.slice a6 n6 c6) (.bool m6) (.slice a7 n7 c7); have z0 := BB.out.now.2.2.2.2.2.2.1.set3o he.1 (.slice a6 n6 c6) (.bool m6) (.slice a7 n7 c7); have z1 := BB.out.now.2.2.2.2.2.1.set3o he.2.1 (.slice a6 n6 c6) (.bool m6) (.slice a7 n7 c7); have z2 := BB.out.now.2.2.1.set3o he.2.2 (.slice a6 n6 c6) (.bool m6) (.slice a7 n7 c7); have HE := Lib.hid (RatTold.done BB.out.below (by omega) hs hr); clear hb7 hs hr))
      go_wp2
      exact bodyPost_ret (v := .agg #[.slice a6 n6 c6, .bool m6, .slice a7 n7 c7]) (by simp [results, Tryz.results118, go_sem, HS]) rfl HE.out
    · have DM := Lib.hid (fun a5 n5 c5 wz (h : NatIs wz (.agg #[.slice a n c]) P.natAbs) (g : NatIs wz (.agg #[.slice a5 n5 c5]) (Nat.gcd P.natAbs Q)) => divMod3_any a n c a5 n5 c5 P.natAbs (Nat.gcd P.natAbs Q) wz h g K hK hPK (rg_pos P hQ))
      have DQ := Lib.hid (fun a5 n5 c5 wz (h : NatIs wz (.agg #[.slice a2 n2 c2]) Q) (g : NatIs wz (.agg #[.slice a5 n5 c5]) (Nat.gcd P.natAbs Q)) => divMod3_any a2 n2 c2 a5 n5 c5 Q (Nat.gcd P.natAbs Q) wz h g K hK hQK (rg_pos P hQ))
      have FR := Lib.hid (fun a n c a2 n2 c2 wz (h : NatIs wz (.agg #[.slice a n c]) (P.natAbs / Nat.gcd P.natAbs Q)) (g : NatIs wz (.agg #[.slice a2 n2 c2]) (Q / Nat.gcd P.natAbs Q)) => fraction_any m a n c (P.natAbs / Nat.gcd P.natAbs Q) a2 n2 c2 (Q / Nat.gcd P.natAbs Q) wz h g (loQ_pos P hQ))
      have hx : sgn m (P.natAbs / Nat.gcd P.natAbs Q) = loP P Q := by rw [h.1]; rfl
      rw [hx, show Q / Nat.gcd P.natAbs Q = loQ P Q from rfl] at FR
      rw [show Q / Nat.gcd P.natAbs Q = loQ P Q from rfl] at DQ
      rw [decide_eq_false hg] at ON2
      unfold DivOf3 at DM DQ
      generalize loP P Q = P1 at *
      generalize loQ P Q = Q1 at *
      generalize P.natAbs / Nat.gcd P.natAbs Q = N1 at *
      generalize Nat.gcd P.natAbs Q = G at *
      clear h g B0 hPK hQK hQ hg hx
      go_enter Tryz.func118, Tryz.ntmps118
      have q0 := BB.out.now.2.1.cell
      have q1 := BB.out.now.2.2.1.cell
      have q2 := BB.out.now.2.2.1.cell1
      go_wp2_with (first
        | (go_at_call 154; (with_reducible refine (ON.out _ BB.out.now.2.2.2.1).mono ?_); rintro e w2 ⟨rfl, hb2⟩; have BB := Lib.hid (BB.out.go hb2); clear hb2; have q0 := BB.out.now.2.1.cell; have q1 := BB.out.now.2.2.1.cell; have q2 := BB.out.now.2.2.1.cell1)
        | (go_at_call 155; (with_reducible refine (SZ.out _ BB.out.now.2.2.2.2.1).mono ?_); rintro e w3 ⟨rfl, hn3, hb3⟩; have hk3 : w.heap.size + 1 + 1 < w3.heap.size := (BB.out.go hb3).now.1.lt; have BB := Lib.hid (((BB.out.go hb3).nat hn3).box (.slice a n c) 56); clear hb3 hn3; have q0 := BB.out.now.2.2.2.1.cell; have q1 := BB.out.now.2.2.2.2.1.cell; have q2 := BB.out.now.2.2.2.2.1.cell1; have q3 := BB.out.now.1.cell)
        | (go_at_call 156; (with_reducible refine (GC.out _ BB.out.now.2.1 BB.out.now.2.2.2.2.2.1).mono ?_); rintro e w4 ⟨a5, n5, c5, rfl, hn5, hb4⟩; have hk4 : w3.heap.size < w4.heap.size := (BB.out.go hb4).now.1.lt; have BB := Lib.hid (((BB.out.go hb4).nat hn5).box (.slice a5 n5 c5) 56); clear hb4 hn5; have q0 := BB.out.now.2.2.2.2.2.1.cell; have q1 := BB.out.now.2.2.2.2.2.2.1.cell; have q2 := BB.out.now.2.2.2.2.2.2.1.cell1; have q3 := BB.out.now.2.2.1.cell; have q4 := BB.out.now.1.cell)
        | (go_at_call 154; (with_reducible refine (ON2.out a5 n5 c5 _ BB.out.now.2.1).mono ?_); rintro e w5 ⟨rfl, hb5⟩; have BB := Lib.hid (BB.out.go hb5); clear hb5; have q0 := BB.out.now.2.2.2.2.2.1.cell; have q1 := BB.out.now.2.2.2.2.2.2.1.cell; have q2 := BB.out.now.2.2.2.2.2.2.1.cell1; have q3 := BB.out.now.2.2.1.cell; have q4 := BB.out.now.1.cell))
      go_at_call 157
      (with_reducible refine (DM.out _ _ _ _ BB.out.now.2.2.2.1 BB.out.now.2.1).mono ?_)
      rintro e w6 ⟨a6, n6, c6, a7, n7, c7, rfl, hv, _, hb6⟩
      have B6 := BB.out.go hb6
      have u0 := B6.now.2.2.1
      have hc := u0.cell
      have hf := u0.free
      have hni : ∀ (x : Option Addr) (y z : Nat) (ki : IntKind) (i : Int), (Value.slice x y z) ≠ .int ki i := fun _ _ _ _ _ h => by cases h
      have B7 := (Bag.start w).go (B6.below.setCell (p := ⟨w3.heap.size, 0, none⟩) (show w.heap.size ≤ w3.heap.size by omega) (.slice a6 n6 c6))
      have B7 := B7.int (a := a) (n := n) (c := c) (m := m) (Z := P) ⟨B6.now.2.2.2.2.2.2.2.2.1.1, B6.now.2.2.2.2.2.2.2.2.1.2.storeAt hc (hni _ _ _) _⟩
      have B7 := B7.nat (B6.now.2.2.2.2.2.2.2.1.storeAt hc (hni _ _ _) _)
      have B7 := B7.slot2 (B6.now.2.2.2.2.2.2.1.seto (by omega) _)
      have B7 := B7.slot (B6.now.2.2.2.2.2.1.seto (by omega) _)
      have B7 := B7.slot3 (B6.now.2.2.2.2.1.set1o (by omega) _)
      have B7 := B7.nat (B6.now.2.1.storeAt hc (hni _ _ _) _)
      have B7 := B7.slot (B6.now.1.seto (by omega) _)
      have B7 := B7.slot (u0.set0 _)
      have B7 := B7.nat (hv.storeAt hc (hni _ _ _) _)
      have BB := Lib.hid B7
      have q0 := B7.now.2.2.2.2.2.1.cell
      have q3 := B7.now.2.1.cell
      have q4 := B7.now.2.2.1.cell
      clear hv hb6 B6 u0 B7
      go_wp2_with fail
      go_at_call 157
      (with_reducible refine (DQ.out _ _ _ _ BB.out.now.2.2.2.2.2.2.2.1 BB.out.now.2.2.2.1).mono ?_)
      rintro e w7 ⟨a8, n8, c8, a9, n9, c9, rfl, hv, _, hb7⟩
      have B8 := BB.out.go hb7
      have u0 := B8.now.2.2.2.2.2.1
      have hc := u0.cell
      have hf := u0.free
      have B9 := (Bag.start w).go (B8.below.setCell (p := ⟨w.heap.size + 1, 0, none⟩) (show w.heap.size ≤ w.heap.size + 1 by omega) (.slice a8 n8 c8))
      have B9 := B9.int (a := a) (n := n) (c := c) (m := m) (Z := P) ⟨B8.now.2.2.2.2.2.2.2.2.1.1, B8.now.2.2.2.2.2.2.2.2.1.2.storeAt hc (hni _ _ _) _⟩
      have B9 := B9.slot2 (B8.now.2.2.2.2.2.2.1.seto (by omega) _)
      have B9 := B9.slot (u0.set0 _)
      have B9 := B9.slot3 (B8.now.2.2.2.2.1.set1o (by omega) _)
      have B9 := B9.nat (B8.now.2.2.2.1.storeAt hc (hni _ _ _) _)
      have B9 := B9.slot (B8.now.2.2.1.seto (by omega) _)
      have B9 := B9.slot (B8.now.2.1.seto (by omega) _)
      have B9 := B9.nat (B8.now.1.storeAt hc (hni _ _ _) _)
      have B9 := B9.nat (hv.storeAt hc (hni _ _ _) _)
      have BB := Lib.hid B9
      clear hv hb7 B8 u0 B9 q0 q3 q4
      go_wp2_with fail
      have BB := Lib.hid BB.out.drew
      have he : w.heap.size ≠ w.heap.size + 1 + 1 ∧ w.heap.size + 1 ≠ w.heap.size + 1 + 1 ∧ w3.heap.size ≠ w.heap.size + 1 + 1 := by omega
      go_region_held3 (fun y => y.cell? ⟨w.heap.size, 0, none⟩ = some (.slice a n c) ∧ y.cell? ⟨w.heap.size, 1, none⟩ = some (.bool m) ∧ y.cell? ⟨w.heap.size + 1, 0, none⟩ = some (.slice a8 n8 c8) ∧ y.cell? ⟨w3.heap.size, 0, none⟩ = some (.slice a6 n6 c6))
        (first
          | (exact ⟨BB.out.now.2.2.2.2.2.2.2.1.cell, BB.out.now.2.2.2.2.2.2.2.1.cell1, BB.out.now.2.2.2.2.2.2.1.cell, BB.out.now.2.2.1.cell⟩)
          | (exact ⟨z0.cell, z0.cell1, z1.cell, z2.cell⟩))
        (first
          | (go_at_call 136; (with_reducible refine (NG.out _ BB.out.now.2.2.2.2.2.2.2.2.1).mono ?_); rintro e w8 ⟨rfl, hb8⟩; have BB := Lib.hid (BB.out.go hb8); clear hb8)
          | (go_at_call 158; (with_reducible refine (FR.out _ _ _ _ _ _ _ BB.out.now.2.1 BB.out.now.1).mono ?_); rintro e w9 ⟨a10, n10, c10, m10, a11, n11, c11, rfl, hr, hb9⟩; have BB := Lib.hid (BB.out.go hb9); have hs := BB.out.now.2.2.2.2.2.1; have r0 := hs.cell; have r1 := hs.cell1; have r2 := hs.cell2; have g0 := hs.free; have g1 := hs.free1; have g2 := hs.free2; have HS := hs.set (.slice a10 n10 c10) (.bool m10) (.slice a11 n11 c11); have z0 := BB.out.now.2.2.2.2.2.2.2.1.set3o he.1 (.slice a10 n10 c10) (.bool m10) (.slice a11 n11 c11); have z1 := BB.out.now.2.2.2.2.2.2.1.set3o he.2.1 (.slice a10 n10 c10) (.bool m10) (.slice a11 n11 c11); have z2 := BB.out.now.2.2.1.set3o he.2.2 (.slice a10 n10 c10) (.bool m10) (.slice a11 n11 c11); have HE := Lib.hid (RatTold.done BB.out.below (by omega) hs hr); clear hb9 hs hr))
      go_wp2
      exact bodyPost_ret (v := .agg #[.slice a10 n10 c10, .bool m10, .slice a11 n11 c11]) (by simp [results, Tryz.results118, go_sem, HS]) rfl HE.out
end Go.Proofs.YtnpoakaffafdiaaGreatDoor
namespace Go.Proofs.YtnpoakaffafdiaaGreatDoor
open Go.RowKit
attribute [local go_sem ↓] Go.wp_at_zero Go.wp_at_succ
def RatTold3 (w w' : World) (e : Ending) (P : Int) (Q : Nat) (ok : Bool) : Prop := ∃ a n c m a2 n2 c2, e = .returned (.tuple #[.agg #[.slice a n c, .bool m, .slice a2 n2 c2], .bool ok]) ∧ RatAt w' a n c m a2 n2 c2 P Q ∧ Below w.heap.size w w'
theorem RatTold3.done {w w2 : World} {k : Nat} {a0 : Option Addr} {n0 c0 : Nat} {m0 : Bool} {a1 : Option Addr} {n1 c1 : Nat} {a : Option Addr} {n c : Nat} {m : Bool} {a2 : Option Addr} {n2 c2 : Nat} {P : Int} {Q : Nat} (ok : Bool) (hb : Below w.heap.size w w2) (hk : w.heap.size ≤ k)
    (hs : Slot3 w2 k (.slice a0 n0 c0) (.bool m0) (.slice a1 n1 c1)) (h : RatAt w2 a n c m a2 n2 c2 P Q) :
    RatTold3 w (((w2.setCell ⟨k, 0, none⟩ (.slice a n c)).setCell ⟨k, 1, none⟩ (.bool m)).setCell ⟨k, 2, none⟩ (.slice a2 n2 c2)) (.returned (.tuple #[.agg #[.slice a n c, .bool m, .slice a2 n2 c2], .bool ok])) P Q ok := by
  obtain ⟨a', n', c', m', a2', n2', c2', he, h1, h2⟩ := RatTold.done hb hk hs h
  cases he
  exact ⟨a, n, c, m, a2, n2, c2, rfl, h1, h2⟩
theorem IntAt.nt {w : World} {a : Option Addr} {n c : Nat} {m : Bool} {Z : Int} (h : IntAt w a n c m Z) : NatIs w (.agg #[.slice a n c]) Z.natAbs := h.2
theorem RatAt.int {w : World} {a : Option Addr} {n c : Nat} {m : Bool} {a2 : Option Addr} {n2 c2 : Nat} {P : Int} {Q : Nat} (h : RatAt w a n c m a2 n2 c2 P Q) : IntAt w a n c m P := h.1
theorem RatAt.low {w : World} {a : Option Addr} {n c : Nat} {m : Bool} {a2 : Option Addr} {n2 c2 : Nat} {P : Int} {Q : Nat} (h : RatAt w a n c m a2 n2 c2 P Q) : NatIs w (.agg #[.slice a2 n2 c2]) (lowN Q) := h.2
theorem RatAt.zero (w : World) : RatAt w none 0 0 false none 0 0 0 1 := ⟨⟨rfl, NatIs.zero w⟩, NatIs.zero w⟩
theorem Slot2.set2 {w : World} {k : Nat} {x y : Value} (h : Slot2 w k x y) (u v : Value) : Slot2 ((w.setCell ⟨k, 0, none⟩ u).setCell ⟨k, 1, none⟩ v) k u v :=
  ⟨(h.set u v).1, (h.set u v).2, by simp [h.free], by simp [h.free1], by simpa using h.lt⟩
theorem Slot2.set2o {w : World} {k j : Nat} {x y : Value} (h : Slot2 w j x y) (e : j ≠ k) (u v : Value) : Slot2 ((w.setCell ⟨k, 0, none⟩ u).setCell ⟨k, 1, none⟩ v) j x y := by
  have hn : ∀ o o' : Nat, (⟨k, o, none⟩ : Addr) ≠ ⟨j, o', none⟩ := fun o o' h => e (by cases h; rfl)
  refine ⟨?_, ?_, by simp [h.free], by simp [h.free1], by simpa using h.lt⟩
  · rw [World.cell?_setCell_other _ _ _ _ (hn _ _), World.cell?_setCell_other _ _ _ _ (hn _ _)]; exact h.cell
  · rw [World.cell?_setCell_other _ _ _ _ (hn _ _), World.cell?_setCell_other _ _ _ _ (hn _ _)]; exact h.cell1
theorem NatIs.set2b {w : World} {k : Nat} {x y : Value} {v : Value} {N : Nat} (q : NatIs w v N) (h : Slot2 w k x y) (hx : ∀ ki i, x ≠ .int ki i) (hy : ∀ ki i, y ≠ .int ki i) (u v' : Value) :
    NatIs ((w.setCell ⟨k, 0, none⟩ u).setCell ⟨k, 1, none⟩ v') v N := by
  refine (q.storeAt h.cell hx _).storeAt (x := y) ?_ hy _
  rw [World.cell?_setCell_other _ _ _ _ (fun e => by cases e)]
  exact h.cell1
def nwP (P Y : Int) : Int := loP (upZ P Y) Y.natAbs
def nwQ (P Y : Int) : Nat := loQ (upZ P Y) Y.natAbs
set_option maxHeartbeats 1600000 in
set_option maxRecDepth 100000 in
theorem new_zero (a : Option Addr) (n c : Nat) (m : Bool) (P : Int) (a2 : Option Addr) (n2 c2 : Nat) (m2 : Bool) (w : World) (h : IntAt w a n c m P) (g : IntAt w a2 n2 c2 m2 0) :
    Calls Tryz.prog 185 #[.agg #[.slice a n c, .bool m], .agg #[.slice a2 n2 c2, .bool m2]] w fun e w' => RatTold3 w w' e 0 1 false := by
  have ZE := Lib.hid (fun wz (h : NatIs wz (.agg #[.slice a2 n2 c2]) (0 : Int).natAbs) => zero_any _ (0 : Int).natAbs wz h)
  rw [decide_eq_true (show (0 : Int).natAbs = 0 from rfl)] at ZE
  have B0 := ((((Bag.start w).int h).int g).box2 (.slice a n c) (.bool m) 58).box2 (.slice a2 n2 c2) (.bool m2) 58 |>.box3 (.slice none 0 0) (.bool false) (.slice none 0 0) 60
  simp only [World.size_alloc] at B0
  have BB := Lib.hid B0
  have q0 := B0.now.2.1.cell
  clear h g B0
  go_enter Tryz.func185, Tryz.ntmps185
  go_wp2_with fail
  go_at_call 107
  (with_reducible refine (ZE.out _ BB.out.now.2.2.2.1.nt).mono ?_)
  rintro e w2 ⟨rfl, hb2⟩
  have BB := Lib.hid (BB.out.go hb2)
  have hs := BB.out.now.1
  have r0 := hs.cell
  have r1 := hs.cell1
  have r2 := hs.cell2
  have g0 := hs.free
  have g1 := hs.free1
  have g2 := hs.free2
  have HS := hs.set (.slice none 0 0) (.bool false) (.slice none 0 0)
  have HE := Lib.hid (RatTold3.done false BB.out.below (by omega) hs (RatAt.zero w2))
  clear hb2 hs
  go_wp2
  exact bodyPost_ret (v := .tuple #[.agg #[.slice none 0 0, .bool false, .slice none 0 0], .bool false]) (by simp [results, Tryz.results185, go_sem, HS]) rfl HE.out
set_option maxHeartbeats 3200000 in
set_option maxRecDepth 100000 in
theorem new_some (a : Option Addr) (n c : Nat) (m : Bool) (P : Int) (a2 : Option Addr) (n2 c2 : Nat) (m2 : Bool) (Y : Int) (w : World) (h : IntAt w a n c m P) (g : IntAt w a2 n2 c2 m2 Y) (hY : Y ≠ 0)
    (K : Nat) (hK : K ≤ 900000) (hPK : P.natAbs < 4294967296 ^ K) (hYK : Y.natAbs < 4294967296 ^ K) :
    Calls Tryz.prog 185 #[.agg #[.slice a n c, .bool m], .agg #[.slice a2 n2 c2, .bool m2]] w fun e w' => RatTold3 w w' e (nwP P Y) (nwQ P Y) true := by
  have ZE := Lib.hid (fun wz (h : NatIs wz (.agg #[.slice a2 n2 c2]) Y.natAbs) => zero_any _ Y.natAbs wz h)
  rw [decide_eq_false (show ¬ Y.natAbs = 0 by omega)] at ZE
  have NG := Lib.hid (fun wz (h : IntAt wz a2 n2 c2 m2 Y) => neg_any a2 n2 c2 m2 Y wz h)
  have MN := Lib.hid (fun wz (h : IntAt wz a n c m P) => minus_any a n c m P wz h)
  have SZ := Lib.hid (fun wz (h : IntAt wz a2 n2 c2 m2 Y) => size_any a2 n2 c2 m2 Y wz h)
  unfold NatTold2 at SZ
  have hup : upZ P Y = if m2 then -P else P := by
    unfold upZ; rw [g.1]
    by_cases h1 : Y < 0
    · rw [if_pos h1, decide_eq_true h1]; rfl
    · rw [if_neg h1, decide_eq_false h1]; rfl
  have LW := Lib.hid (fun a n c m wz (h : IntAt wz a n c m (upZ P Y)) (g : NatIs wz (.agg #[.slice a2 n2 c2]) Y.natAbs) => lowest_any a n c m (upZ P Y) a2 n2 c2 Y.natAbs wz h g (by omega) K hK (by rw [upZ_abs]; exact hPK) hYK)
  rw [show loP (upZ P Y) Y.natAbs = nwP P Y from rfl, show loQ (upZ P Y) Y.natAbs = nwQ P Y from rfl] at LW
  rw [hup] at LW
  generalize nwP P Y = P1 at *
  generalize nwQ P Y = Q1 at *
  have B0 := ((((Bag.start w).int h).int g).box2 (.slice a n c) (.bool m) 58).box2 (.slice a2 n2 c2) (.bool m2) 58 |>.box3 (.slice none 0 0) (.bool false) (.slice none 0 0) 60
  simp only [World.size_alloc] at B0
  have BB := Lib.hid B0
  have q0 := B0.now.2.1.cell
  have q1 := B0.now.2.1.cell1
  have he : w.heap.size ≠ w.heap.size + 1 + 1 ∧ w.heap.size + 1 ≠ w.heap.size + 1 + 1 ∧ w.heap.size + 1 ≠ w.heap.size := by omega
  clear h g B0 hPK hYK hup
  cases m2 with
  | false =>
    rw [if_neg (by decide)] at LW
    go_enter Tryz.func185, Tryz.ntmps185
    go_wp2_with (first
      | (go_at_call 107; (with_reducible refine (ZE.out _ BB.out.now.2.2.2.1.nt).mono ?_); rintro e w2 ⟨rfl, hb2⟩; have BB := Lib.hid (BB.out.go hb2); have q0 := BB.out.now.2.1.cell; have q1 := BB.out.now.2.1.cell1; clear hb2)
      | (go_at_call 136; (with_reducible refine (NG.out _ BB.out.now.2.2.2.1).mono ?_); rintro e w3 ⟨rfl, hb3⟩; have BB := Lib.hid (BB.out.go hb3); have q0 := BB.out.now.2.1.cell; have q1 := BB.out.now.2.1.cell1; clear hb3))
    have BB := Lib.hid BB.out.drew
    go_region_held3 (fun y => y.cell? ⟨w.heap.size, 0, none⟩ = some (.slice a n c) ∧ y.cell? ⟨w.heap.size, 1, none⟩ = some (.bool m) ∧ y.cell? ⟨w.heap.size + 1, 0, none⟩ = some (.slice a2 n2 c2) ∧ y.cell? ⟨w.heap.size + 1, 1, none⟩ = some (.bool false))
      (first
        | (exact ⟨BB.out.now.2.2.1.cell, BB.out.now.2.2.1.cell1, BB.out.now.2.1.cell, BB.out.now.2.1.cell1⟩)
        | (exact ⟨z0.cell, z0.cell1, z1.cell, z1.cell1⟩))
      (first
        | (go_at_call 155; (with_reducible refine (SZ.out _ BB.out.now.2.2.2.1).mono ?_); rintro e w6 ⟨rfl, hn6, hb6⟩; have BB := Lib.hid (BB.out.go hb6))
        | (go_at_call 118; (with_reducible refine (LW.out _ _ _ _ _ BB.out.now.2.2.2.2.1 hn6).mono ?_); rintro e w7 ⟨a6, n6, c6, m6, a7, n7, c7, rfl, hr, hb7⟩; have BB := Lib.hid (BB.out.go hb7); have hs := BB.out.now.1; have r0 := hs.cell; have r1 := hs.cell1; have r2 := hs.cell2; have g0 := hs.free; have g1 := hs.free1; have g2 := hs.free2; have HS := hs.set (.slice a6 n6 c6) (.bool m6) (.slice a7 n7 c7); have z0 := BB.out.now.2.2.1.set3o he.1 (.slice a6 n6 c6) (.bool m6) (.slice a7 n7 c7); have z1 := BB.out.now.2.1.set3o he.2.1 (.slice a6 n6 c6) (.bool m6) (.slice a7 n7 c7); have HE := Lib.hid (RatTold3.done true BB.out.below (by omega) hs hr); clear hb7 hs hr))
    go_wp2
    exact bodyPost_ret (v := .tuple #[.agg #[.slice a6 n6 c6, .bool m6, .slice a7 n7 c7], .bool true]) (by simp [results, Tryz.results185, go_sem, HS]) rfl HE.out
  | true =>
    rw [if_pos rfl] at LW
    go_enter Tryz.func185, Tryz.ntmps185
    go_wp2_with (first
      | (go_at_call 107; (with_reducible refine (ZE.out _ BB.out.now.2.2.2.1.nt).mono ?_); rintro e w2 ⟨rfl, hb2⟩; have BB := Lib.hid (BB.out.go hb2); have q0 := BB.out.now.2.1.cell; have q1 := BB.out.now.2.1.cell1; clear hb2)
      | (go_at_call 136; (with_reducible refine (NG.out _ BB.out.now.2.2.2.1).mono ?_); rintro e w3 ⟨rfl, hb3⟩; have BB := Lib.hid (BB.out.go hb3); have q0 := BB.out.now.2.2.1.cell; have q1 := BB.out.now.2.2.1.cell1; clear hb3))
    go_at_call 79
    (with_reducible refine (MN.out _ BB.out.now.2.2.2.2.1).mono ?_)
    rintro e w4 ⟨a3, n3, c3, m3, rfl, hi, hb4⟩
    have B4 := BB.out.go hb4
    have u0 := B4.now.2.2.1
    have hc := u0.cell
    have hc1 := u0.cell1
    have hf := u0.free
    have hf1 := u0.free1
    have hni : ∀ (x : Option Addr) (y z : Nat) (ki : IntKind) (i : Int), (Value.slice x y z) ≠ .int ki i := fun _ _ _ _ _ h => by cases h
    have hnb : ∀ (x : Bool) (ki : IntKind) (i : Int), (Value.bool x) ≠ .int ki i := fun _ _ _ h => by cases h
    have B5 := (Bag.start w).go ((B4.below.setCell (p := ⟨w.heap.size, 0, none⟩) (Nat.le_refl _) (.slice a3 n3 c3)).setCell (p := ⟨w.heap.size, 1, none⟩) (Nat.le_refl _) (.bool m3))
    have B5 := B5.int (a := a3) (n := n3) (c := c3) (m := m3) (Z := -P) ⟨hi.1, hi.2.set2b u0 (hni _ _ _) (hnb _) _ _⟩
    have B5 := B5.int (a := a2) (n := n2) (c := c2) (m := true) (Z := Y) ⟨B4.now.2.2.2.1.1, B4.now.2.2.2.1.2.set2b u0 (hni _ _ _) (hnb _) _ _⟩
    have B5 := B5.slot2 (u0.set2 (.slice a3 n3 c3) (.bool m3))
    have B5 := B5.slot2 (B4.now.2.1.set2o he.2.2 (.slice a3 n3 c3) (.bool m3))
    have B5 := B5.slot3 (B4.now.1.set2o (k := w.heap.size) (by omega) (.slice a3 n3 c3) (.bool m3))
    have BB := Lib.hid B5
    clear hi hb4 B4 u0 B5 q0 q1
    go_wp2_with fail
    have BB := Lib.hid BB.out.drew
    go_region_held3 (fun y => y.cell? ⟨w.heap.size, 0, none⟩ = some (.slice a3 n3 c3) ∧ y.cell? ⟨w.heap.size, 1, none⟩ = some (.bool m3) ∧ y.cell? ⟨w.heap.size + 1, 0, none⟩ = some (.slice a2 n2 c2) ∧ y.cell? ⟨w.heap.size + 1, 1, none⟩ = some (.bool true))
      (first
        | (exact ⟨BB.out.now.2.2.1.cell, BB.out.now.2.2.1.cell1, BB.out.now.2.1.cell, BB.out.now.2.1.cell1⟩)
        | (exact ⟨z0.cell, z0.cell1, z1.cell, z1.cell1⟩))
      (first
        | (go_at_call 155; (with_reducible refine (SZ.out _ BB.out.now.2.2.2.1).mono ?_); rintro e w6 ⟨rfl, hn6, hb6⟩; have BB := Lib.hid (BB.out.go hb6))
        | (go_at_call 118; (with_reducible refine (LW.out _ _ _ _ _ BB.out.now.2.2.2.2.1 hn6).mono ?_); rintro e w7 ⟨a6, n6, c6, m6, a7, n7, c7, rfl, hr, hb7⟩; have BB := Lib.hid (BB.out.go hb7); have hs := BB.out.now.1; have r0 := hs.cell; have r1 := hs.cell1; have r2 := hs.cell2; have g0 := hs.free; have g1 := hs.free1; have g2 := hs.free2; have HS := hs.set (.slice a6 n6 c6) (.bool m6) (.slice a7 n7 c7); have z0 := BB.out.now.2.2.1.set3o he.1 (.slice a6 n6 c6) (.bool m6) (.slice a7 n7 c7); have z1 := BB.out.now.2.1.set3o he.2.1 (.slice a6 n6 c6) (.bool m6) (.slice a7 n7 c7); have HE := Lib.hid (RatTold3.done true BB.out.below (by omega) hs hr); clear hb7 hs hr))
    go_wp2
    exact bodyPost_ret (v := .tuple #[.agg #[.slice a6 n6 c6, .bool m6, .slice a7 n7 c7], .bool true]) (by simp [results, Tryz.results185, go_sem, HS]) rfl HE.out
theorem RatAt.set3 {w : World} {k : Nat} {a0 : Option Addr} {n0 c0 : Nat} {m0 : Bool} {a1 : Option Addr} {n1 c1 : Nat} {a : Option Addr} {n c : Nat} {m : Bool} {a2 : Option Addr} {n2 c2 : Nat} {P : Int} {Q : Nat} (q : RatAt w a n c m a2 n2 c2 P Q)
    (h : Slot3 w k (.slice a0 n0 c0) (.bool m0) (.slice a1 n1 c1)) (u v t : Value) : RatAt (((w.setCell ⟨k, 0, none⟩ u).setCell ⟨k, 1, none⟩ v).setCell ⟨k, 2, none⟩ t) a n c m a2 n2 c2 P Q :=
  ⟨⟨q.1.1, q.1.2.set3 h (fun _ _ h => by cases h) (fun _ _ h => by cases h) (fun _ _ h => by cases h) _ _ _⟩, q.2.set3 h (fun _ _ h => by cases h) (fun _ _ h => by cases h) (fun _ _ h => by cases h) _ _ _⟩
end Go.Proofs.YtnpoakaffafdiaaGreatDoor
namespace Go.Proofs.YtnpoakaffafdiaaGreatDoor
open Go.RowKit
theorem str_inj {l : List UInt8} {s : ByteArray} : str l = s ↔ l = s.data.toList := by
  constructor
  · intro h; rw [← h]; rfl
  · intro h; rw [h]; rfl
theorem lo_gcd1 {N M : Nat} (hM : 0 < M) (h : M / Nat.gcd N M = M) : Nat.gcd N M = 1 := by
  have hg : 0 < Nat.gcd N M := Nat.gcd_pos_of_pos_right _ hM
  rcases Nat.lt_or_ge 1 (Nat.gcd N M) with h1 | h1
  · have := Nat.div_lt_self hM h1; omega
  · omega
/-- A number's digits are in lowest terms and without a needless sign. -/
theorem of_right (b : Bool) (s t : ByteArray) (hM : 0 < numOf t.data.toList) :
    decide (rB (loP (sgn b (numOf s.data.toList)) (numOf t.data.toList)) = b ∧ rS (loP (sgn b (numOf s.data.toList)) (numOf t.data.toList)) = s ∧ str (dec (loQ (sgn b (numOf s.data.toList)) (numOf t.data.toList))) = t)
      = (decide (str (dec (numOf s.data.toList)) = s) && (decide (str (dec (numOf t.data.toList)) = t) && (decide (Nat.gcd (numOf s.data.toList) (numOf t.data.toList) = 1) && !(b && decide (numOf s.data.toList = 0))))) := by
  have ha : (sgn b (numOf s.data.toList)).natAbs = numOf s.data.toList := sgn_abs _ _
  have e1 : (loP (sgn b (numOf s.data.toList)) (numOf t.data.toList)).natAbs = numOf s.data.toList / Nat.gcd (numOf s.data.toList) (numOf t.data.toList) := by rw [loP_abs]; unfold rg; rw [ha]
  have e2 : loQ (sgn b (numOf s.data.toList)) (numOf t.data.toList) = numOf t.data.toList / Nat.gcd (numOf s.data.toList) (numOf t.data.toList) := by unfold loQ rg; rw [ha]
  have e3 : rB (loP (sgn b (numOf s.data.toList)) (numOf t.data.toList)) = (b && !decide (numOf s.data.toList = 0)) := by
    unfold rB; rw [loP_neg]; exact sgn_neg _ _
  rw [e2, e3]
  unfold rS
  rw [e1]
  rw [Bool.eq_iff_iff, decide_eq_true_eq, Bool.and_eq_true, Bool.and_eq_true, Bool.and_eq_true, decide_eq_true_eq, decide_eq_true_eq, decide_eq_true_eq]
  constructor
  · rintro ⟨h1, h2, h3⟩
    have n1 : numOf s.data.toList / Nat.gcd (numOf s.data.toList) (numOf t.data.toList) = numOf s.data.toList := by
      have := congrArg numOf (str_inj.1 h2); rw [numOf_dec] at this; exact this
    have n2 : numOf t.data.toList / Nat.gcd (numOf s.data.toList) (numOf t.data.toList) = numOf t.data.toList := by
      have := congrArg numOf (str_inj.1 h3); rw [numOf_dec] at this; exact this
    rw [n1] at h2
    rw [n2] at h3
    refine ⟨h2, h3, lo_gcd1 hM n2, ?_⟩
    cases b
    · rfl
    · simpa using h1
  · rintro ⟨h1, h2, h3, h4⟩
    rw [h3, Nat.div_one, Nat.div_one]
    refine ⟨?_, h1, h2⟩
    cases b
    · rfl
    · simpa using h4
end Go.Proofs.YtnpoakaffafdiaaGreatDoor

namespace Go.Proofs.YtnpoakaffafdiaaGreatDoor
open Go.RowKit Go.WideMaps Go.WideElems
theorem limbs_of_bits {N n : Nat} (h1 : N < 4294967296 ^ n) (h2 : 0 < n → 4294967296 ^ (n - 1) ≤ N) : (nbits N + 31) / 32 = n := by
  have e : ∀ k, (4294967296 : Nat) ^ k = 2 ^ (32 * k) := fun k => by rw [Nat.pow_mul]
  have h3 : nbits N ≤ 32 * n := nbits_le.2 (by rw [← e]; exact h1)
  rcases Nat.eq_zero_or_pos n with h0 | h0
  · omega
  · have h4 := h2 h0
    have h5 : ¬ nbits N ≤ 32 * (n - 1) := fun h => by
      have := nbits_le.1 h
      rw [← e] at this; omega
    omega
def LimbsOut (w w' : World) (e : Ending) (N : Nat) : Prop := e = .returned (.int .i64 ((nbits N + 31) / 32 : Nat)) ∧ Below w.heap.size w w'
theorem limbs_bits (v : Value) (N : Nat) (w : World) (h : NatIs w v N) : Calls Tryz.prog 127 #[v] w fun e w' => LimbsOut w w' e N := by
  refine (limbs_any v N w h).mono ?_
  rintro e w' ⟨n, rfl, _, _, h1, hb⟩
  exact ⟨by rw [limbs_of_bits h1.out.1 h1.out.2], hb⟩
theorem dec_eq_digit (N d : Nat) (hd : d < 10) : ((str (dec N)).toList == [UInt8.ofNat (48 + d)]) = decide (N = d) := by
  rw [Bool.eq_iff_iff, beq_iff_eq, decide_eq_true_eq, ByteArray.toList_eq, str_toList, ← dec_small hd]
  constructor
  · intro h
    have := congrArg numOf h
    rw [numOf_dec, numOf_dec] at this
    exact this
  · intro h; rw [h]
end Go.Proofs.YtnpoakaffafdiaaGreatDoor
namespace Go.Proofs.YtnpoakaffafdiaaGreatDoor
open Go.RowKit
end Go.Proofs.YtnpoakaffafdiaaGreatDoor
namespace Go.Proofs.YtnpoakaffafdiaaGreatDoor
open Go.RowKit
end Go.Proofs.YtnpoakaffafdiaaGreatDoor
namespace Go.Proofs.YtnpoakaffafdiaaGreatDoor
open Go.RowKit
theorem NatIs.store {w : World} {v : Value} {N k : Nat} {x : Value} (h : NatIs w v N) (hs : w.cell? ⟨k, 0, none⟩ = some x) (hx : ∀ ki z, x ≠ .int ki z) (u : Value) : NatIs (w.setCell ⟨k, 0, none⟩ u) v N := by
  obtain ⟨a, n, c, f, rfl, ⟨h1, h2, h3, h4⟩, hv, ht⟩ := h
  refine ⟨a, n, c, f, rfl, ⟨h1, h2, h3, ?_⟩, hv, ht⟩
  rcases h4 with h4 | ⟨b, off, rfl, hb, hc⟩
  · exact .inl h4
  · refine .inr ⟨b, off, rfl, by simpa using hb, fun j hj => ?_⟩
    rw [World.cell?_setCell_other _ _ _ _ (fun e' => ?_)]
    · exact hc j hj
    · have h5 := hc j hj
      rw [show (⟨b, off + j, none⟩ : Addr) = ⟨k, 0, none⟩ from by first | exact e' | exact e'.symm, hs] at h5
      exact hx _ _ (Option.some.inj h5)
def PowTold (w w' : World) (e : Ending) (N : Nat) (b : Bool) : Prop := ∃ a n c, e = .returned (.tuple #[.agg #[.slice a n c], .bool b]) ∧ NatIs w' (.agg #[.slice a n c]) N ∧ Below w.heap.size w w'
/-- Within Pow: the base in its cell, and the answer's cell still empty. -/
structure PI (w wr : World) (x : Value) (X : Nat) : Prop where
  below : Below w.heap.size w wr
  s1 : Slot wr w.heap.size x
  s2 : Slot wr (w.heap.size + 1) (.slice none 0 0)
  xs : NatIs wr (.agg #[x]) X
theorem PI.go {w wr w2 : World} {x : Value} {X : Nat} (h : PI w wr x X) (hb : Below wr.heap.size wr w2) : PI w w2 x X :=
  ⟨h.below.trans (hb.mono h.below.size), h.s1.below hb, h.s2.below hb, h.xs.below hb⟩
theorem PI.done {w wr : World} {x : Value} {X : Nat} (h : PI w wr x X) {a : Option Addr} {n c N : Nat} (hv : NatIs wr (.agg #[.slice a n c]) N) (b : Bool) :
    PowTold w (wr.setCell ⟨w.heap.size + 1, 0, none⟩ (.slice a n c)) (.returned (.tuple #[.agg #[.slice a n c], .bool b])) N b :=
  ⟨a, n, c, rfl, hv.store h.s2.cell (fun _ _ h => by cases h) _, h.below.setCell (show w.heap.size ≤ w.heap.size + 1 by omega) _⟩
theorem PI.start {w : World} {a : Option Addr} {n c X : Nat} (h : NatIs w (.agg #[.slice a n c]) X) : PI w ((w.alloc (.cells #[.slice a n c] 56)).alloc (.cells #[.slice none 0 0] 56)) (.slice a n c) X :=
  have hb : Below w.heap.size w ((w.alloc (.cells #[.slice a n c] 56)).alloc (.cells #[.slice none 0 0] 56)) := ((Below.refl _ _).alloc (Nat.le_refl _) _).alloc (by rw [World.size_alloc]; omega) _
  ⟨hb, (Slot.new w _ _).alloc _, Slot.new1 w _ _ _, h.below hb⟩
set_option maxRecDepth 100000 in
theorem pow_one (v : Value) (X : Nat) (n most : Int) (w : World) (h : NatIs w v X) (hn : n ≤ 0 ∨ X = 1) :
    Calls Tryz.prog 182 #[v, .int .i64 n, .int .i64 most] w fun e w' => PowTold w w' e 1 true := by
  obtain ⟨a, k, c, f, rfl, hs, hv, ht⟩ := h
  have HP := Lib.hid (PI.start (w := w) ⟨a, k, c, f, rfl, hs, hv, ht⟩)
  have hON := Lib.hid (one_any (.agg #[.slice a k c]) X _ HP.out.xs)
  clear hs hv ht
  by_cases c1 : n ≤ 0
  · have d1 : decide (n ≤ 0) = true := decide_eq_true c1
    go_enter Tryz.func182, Tryz.ntmps182
    go_wp2_with fail
    go_at_call 113
    refine (of_told 1 _ (by omega)).mono ?_
    rintro e w3 ⟨a3, n3, c3, rfl, hn3, hb3⟩
    have HQ := HP.out.go hb3
    have hc := HQ.s2.cell
    have hf := HQ.s2.free
    have HE := Lib.hid (HQ.done hn3 true)
    clear HQ hn3 hb3
    go_wp2
    exact bodyPost_ret (v := .tuple #[.agg #[.slice a3 n3 c3], .bool true]) (by simp [results, Tryz.results182, go_sem, hc]) rfl HE.out
  · have d1 : decide (n ≤ 0) = false := decide_eq_false c1
    have hX1 : X = 1 := by omega
    rw [decide_eq_true hX1] at hON
    have hc0 := HP.out.s1.cell
    go_enter Tryz.func182, Tryz.ntmps182
    go_wp2_with fail
    go_at_call 154
    refine hON.out.mono ?_
    rintro e w2 ⟨rfl, hb2⟩
    have HP2 := Lib.hid (HP.out.go hb2)
    clear hb2 hc0
    go_wp2_with fail
    go_at_call 113
    refine (of_told 1 _ (by omega)).mono ?_
    rintro e w3 ⟨a3, n3, c3, rfl, hn3, hb3⟩
    have HQ := HP2.out.go hb3
    have hc := HQ.s2.cell
    have hf := HQ.s2.free
    have HE := Lib.hid (HQ.done hn3 true)
    clear HQ hn3 hb3
    go_wp2
    exact bodyPost_ret (v := .tuple #[.agg #[.slice a3 n3 c3], .bool true]) (by simp [results, Tryz.results182, go_sem, hc]) rfl HE.out
set_option maxRecDepth 100000 in
theorem pow_zero (v : Value) (n most : Int) (w : World) (h : NatIs w v 0) (hn : 0 < n) :
    Calls Tryz.prog 182 #[v, .int .i64 n, .int .i64 most] w fun e w' => PowTold w w' e 0 true := by
  obtain ⟨a, k, c, f, rfl, hs, hv, ht⟩ := h
  have HP := Lib.hid (PI.start (w := w) ⟨a, k, c, f, rfl, hs, hv, ht⟩)
  have hON := Lib.hid (one_any (.agg #[.slice a k c]) 0 _ HP.out.xs)
  have hZN := Lib.hid (fun wz h => zero_any (.agg #[.slice a k c]) 0 wz h)
  clear hs hv ht
  have d1 : decide (n ≤ 0) = false := decide_eq_false (by omega)
  have hc0 := HP.out.s1.cell
  go_enter Tryz.func182, Tryz.ntmps182
  go_wp2_with fail
  go_at_call 154
  refine hON.out.mono ?_
  rintro e w2 ⟨rfl, hb2⟩
  have HP2 := Lib.hid (HP.out.go hb2)
  have hc1 := HP2.out.s1.cell
  clear hb2 hc0
  go_wp2_with fail
  go_at_call 107
  refine (hZN.out _ HP2.out.xs).mono ?_
  rintro e w3 ⟨rfl, hb3⟩
  have HQ := HP2.out.go hb3
  have hc := HQ.s2.cell
  have hf := HQ.s2.free
  have HE := Lib.hid (HQ.done (NatIs.zero _) true)
  clear HQ hb3
  go_wp2
  exact bodyPost_ret (v := .tuple #[.agg #[.slice none 0 0], .bool true]) (by simp [results, Tryz.results182, go_sem, hc]) rfl HE.out
end Go.Proofs.YtnpoakaffafdiaaGreatDoor
namespace Go.Proofs.YtnpoakaffafdiaaGreatDoor
open Go.RowKit
/-- Within the loop: the power in its cell. -/
structure PS (w wr : World) (x : Value) (X z8 E : Nat) (p : Value) : Prop where
  pi : PI w wr x X
  lt8 : w.heap.size + 1 < z8
  s8 : Slot wr z8 p
  np : NatIs wr (.agg #[p]) (X ^ E)
theorem PS.go {w wr w2 : World} {x p : Value} {X z8 E : Nat} (h : PS w wr x X z8 E p) (hb : Below wr.heap.size wr w2) : PS w w2 x X z8 E p :=
  ⟨h.pi.go hb, h.lt8, h.s8.below hb, h.np.below hb⟩
theorem PS.put {w wr : World} {x : Value} {X z8 E E2 : Nat} {a a2 : Option Addr} {n c n2 c2 : Nat} (h : PS w wr x X z8 E (.slice a n c)) (hv : NatIs wr (.agg #[.slice a2 n2 c2]) (X ^ E2)) :
    PS w (wr.setCell ⟨z8, 0, none⟩ (.slice a2 n2 c2)) x X z8 E2 (.slice a2 n2 c2) := by
  have hlt := h.lt8
  have hw : Wrote z8 0 1 wr (wr.setCell ⟨z8, 0, none⟩ (.slice a2 n2 c2)) := (Wrote.refl z8 0 1 wr).setCell (Nat.le_refl _) (by omega) _
  refine ⟨⟨h.pi.below.setCell (show w.heap.size ≤ z8 by omega) _, h.pi.s1.wrote hw (by omega), h.pi.s2.wrote hw (by omega), h.pi.xs.store h.s8.cell (fun _ _ h => by cases h) _⟩, hlt, ⟨World.cell?_setCell_same _ _ _ h.s8.cell, by simp [h.s8.free], by simpa using h.s8.lt⟩, hv.store h.s8.cell (fun _ _ h => by cases h) _⟩
end Go.Proofs.YtnpoakaffafdiaaGreatDoor

namespace Go.Proofs.YtnpoakaffafdiaaGreatDoor
open Go.RowKit
attribute [local go_sem ↓] Go.wp_at_zero Go.wp_at_succ
set_option maxHeartbeats 1600000 in
set_option maxRecDepth 100000 in
theorem limited_any (a : Option Addr) (n c : Nat) (m : Bool) (a2 : Option Addr) (n2 c2 : Nat) (P : Int) (Q : Nat) (w : World) (h : RatAt w a n c m a2 n2 c2 P Q) (hQ : 0 < Q) :
    Calls Tryz.prog 121 #[.agg #[.slice a n c, .bool m, .slice a2 n2 c2]] w fun e w' => e = .returned (.bool (decide (Q = 1) && (decide (P.natAbs = 0) || decide (P.natAbs = 1)))) ∧ Below w.heap.size w w' := by
  have B0 := ((Bag.start w).rat h).box3 (.slice a n c) (.bool m) (.slice a2 n2 c2) 60
  have IW := Lib.hid (fun wz hz => isWhole_any a n c m a2 n2 c2 P Q wz hz hQ)
  have ZE := Lib.hid (fun wz (h : NatIs wz (.agg #[.slice a n c]) P.natAbs) => zero_any _ P.natAbs wz h)
  have ON := Lib.hid (fun wz (h : NatIs wz (.agg #[.slice a n c]) P.natAbs) => one_any _ P.natAbs wz h)
  have BB := Lib.hid B0
  have q0 := B0.now.1.cell
  have q1 := B0.now.1.cell1
  have q2 := B0.now.1.cell2
  generalize decide (Q = 1) = x at *
  generalize decide (P.natAbs = 0) = y at *
  generalize decide (P.natAbs = 1) = z at *
  clear h hQ B0
  cases x
  · go_enter Tryz.func121, Tryz.ntmps121
    go_wp2_with (first
      | (go_at_call 80; (with_reducible refine (IW.out _ BB.out.now.2.1).mono ?_); rintro e w2 ⟨rfl, hb2⟩; have BB := Lib.hid (BB.out.go hb2); clear hb2))
    go_ret
    exact ⟨rfl, BB.out.below⟩
  · cases y
    all_goals
      go_enter Tryz.func121, Tryz.ntmps121
      go_wp2_with (first
        | (go_at_call 80; (with_reducible refine (IW.out _ BB.out.now.2.1).mono ?_); rintro e w2 ⟨rfl, hb2⟩; have BB := Lib.hid (BB.out.go hb2); clear hb2; have q0 := BB.out.now.1.cell; have q1 := BB.out.now.1.cell1; have q2 := BB.out.now.1.cell2)
        | (go_at_call 107; (with_reducible refine (ZE.out _ BB.out.now.2.1.int.nt).mono ?_); rintro e w3 ⟨rfl, hb3⟩; have BB := Lib.hid (BB.out.go hb3); clear hb3; have q0 := BB.out.now.1.cell; have q1 := BB.out.now.1.cell1; have q2 := BB.out.now.1.cell2)
        | (go_at_call 154; (with_reducible refine (ON.out _ BB.out.now.2.1.int.nt).mono ?_); rintro e w4 ⟨rfl, hb4⟩; have BB := Lib.hid (BB.out.go hb4); clear hb4))
      go_ret
      exact ⟨rfl, BB.out.below⟩
def lbs (N : Nat) : Nat := (nbits N + 31) / 32
set_option maxHeartbeats 1600000 in
set_option maxRecDepth 100000 in
theorem ratLimbs_any (a : Option Addr) (n c : Nat) (m : Bool) (a2 : Option Addr) (n2 c2 : Nat) (P : Int) (Q : Nat) (w : World) (h : RatAt w a n c m a2 n2 c2 P Q) (hQ : 0 < Q) :
    Calls Tryz.prog 67 #[.agg #[.slice a n c, .bool m, .slice a2 n2 c2]] w fun e w' => e = .returned (.int .i64 (max (lbs P.natAbs : Int) (lbs Q : Int))) ∧ Below w.heap.size w w' := by
  have B0 := ((Bag.start w).rat h).box3 (.slice a n c) (.bool m) (.slice a2 n2 c2) 60
  have BT := Lib.hid (fun wz hz => bot_any a n c m a2 n2 c2 P Q wz hz hQ)
  have L1 : Hid (∀ wz, NatIs wz (.agg #[.slice a n c]) P.natAbs → Calls Tryz.prog 127 #[.agg #[.slice a n c]] wz fun e w' => e = .returned (.int .i64 (lbs P.natAbs : Nat)) ∧ Below wz.heap.size wz w') := fun wz h => limbs_bits _ P.natAbs wz h
  have L2 : Hid (∀ a n c wz, NatIs wz (.agg #[.slice a n c]) Q → Calls Tryz.prog 127 #[.agg #[.slice a n c]] wz fun e w' => e = .returned (.int .i64 (lbs Q : Nat)) ∧ Below wz.heap.size wz w') := fun a n c wz h => limbs_bits _ Q wz h
  have BB := Lib.hid B0
  generalize lbs P.natAbs = x at *
  generalize lbs Q = y at *
  clear h hQ B0
  go_enter Tryz.func67, Tryz.ntmps67
  go_wp2_with fail
  have BB := Lib.hid BB.out.drew
  go_region_held3 (fun y => y.cell? ⟨w.heap.size, 0, none⟩ = some (.slice a n c) ∧ y.cell? ⟨w.heap.size, 1, none⟩ = some (.bool m) ∧ y.cell? ⟨w.heap.size, 2, none⟩ = some (.slice a2 n2 c2))
    (exact ⟨BB.out.now.1.cell, BB.out.now.1.cell1, BB.out.now.1.cell2⟩)
    (first
      | (go_at_call 127; (with_reducible refine (L1.out _ BB.out.now.2.1.int.nt).mono ?_); rintro e w2 ⟨rfl, hb2⟩; have BB := Lib.hid (BB.out.go hb2))
      | (go_at_call 61; (with_reducible refine (BT.out _ BB.out.now.2.1).mono ?_); rintro e w3 ⟨a3, n3, c3, rfl, hn3, hb3⟩; have BB := Lib.hid (BB.out.go hb3))
      | (go_at_call 127; (with_reducible refine (L2.out _ _ _ _ hn3).mono ?_); rintro e w4 ⟨rfl, hb4⟩; have BB := Lib.hid (BB.out.go hb4)))
  go_wp2
  go_ret
  exact ⟨rfl, BB.out.below⟩
end Go.Proofs.YtnpoakaffafdiaaGreatDoor
namespace Go.Proofs.YtnpoakaffafdiaaGreatDoor
open Go.RowKit
attribute [local go_sem ↓] Go.wp_at_zero Go.wp_at_succ
set_option maxHeartbeats 3200000 in
set_option maxRecDepth 100000 in
theorem by_walk (a : Option Addr) (n c : Nat) (m : Bool) (a2 : Option Addr) (n2 c2 : Nat) (P : Int) (Q : Nat) (b : Option Addr) (k l : Nat) (v : Bool) (b2 : Option Addr) (k2 l2 : Nat) (P' : Int) (Q' : Nat) (w : World)
    (h : RatAt w a n c m a2 n2 c2 P Q) (g : RatAt w b k l v b2 k2 l2 P' Q') (hQ : 0 < Q) (hQ' : 0 < Q') (K : Nat) (hK : K ≤ 400000) (h1 : P.natAbs < 4294967296 ^ K) (h2 : Q < 4294967296 ^ K) (h3 : P'.natAbs < 4294967296 ^ K) (h4 : Q' < 4294967296 ^ K)
    (X1 : Int) (X2 : Nat) (ok : Bool) (NW : Hid (∀ a n c m b k l v wz, IntAt wz a n c m (P * Q') → IntAt wz b k l v (P' * Q) → Calls Tryz.prog 185 #[.agg #[.slice a n c, .bool m], .agg #[.slice b k l, .bool v]] wz fun e w' => RatTold3 wz w' e X1 X2 ok)) :
    Calls Tryz.prog 160 #[.agg #[.slice a n c, .bool m, .slice a2 n2 c2], .agg #[.slice b k l, .bool v, .slice b2 k2 l2]] w fun e w' => RatTold3 w w' e X1 X2 ok := by
  have B0 := (((((Bag.start w).rat h).rat g).box3 (.slice a n c) (.bool m) (.slice a2 n2 c2) 60).box3 (.slice b k l) (.bool v) (.slice b2 k2 l2) 60).box3 (.slice none 0 0) (.bool false) (.slice none 0 0) 60
  simp only [World.size_alloc] at B0
  have BL := Lib.hid (fun wz (h : RatAt wz a n c m a2 n2 c2 P Q) => below_any a n c m a2 n2 c2 P Q wz h hQ)
  have BL' := Lib.hid (fun wz (h : RatAt wz b k l v b2 k2 l2 P' Q') => below_any b k l v b2 k2 l2 P' Q' wz h hQ')
  have T1 := Lib.hid (fun sa wz (h : IntAt wz a n c m P) (g : IntsAt wz sa 1 1 (fun _ => (Q' : Int))) => times1_any a n c m P sa Q' wz h g K hK h1 (by rw [Int.natAbs_natCast]; exact h4))
  have T2 := Lib.hid (fun sa wz (h : IntAt wz b k l v P') (g : IntsAt wz sa 1 1 (fun _ => (Q : Int))) => times1_any b k l v P' sa Q wz h g K hK h3 (by rw [Int.natAbs_natCast]; exact h2))
  have BB := Lib.hid B0.drew
  have he : w.heap.size ≠ w.heap.size + 1 + 1 ∧ w.heap.size + 1 ≠ w.heap.size + 1 + 1 := by omega
  unfold RatTold3 at NW
  generalize P * (Q' : Int) = X at *
  generalize P' * (Q : Int) = Y at *
  clear h g B0 h1 h2 h3 h4 hQ hQ'
  go_enter Tryz.func160, Tryz.ntmps160
  go_wp2_with fail
  go_region_held3 (fun y => (y.cell? ⟨w.heap.size, 0, none⟩ = some (.slice a n c) ∧ y.cell? ⟨w.heap.size, 1, none⟩ = some (.bool m) ∧ y.cell? ⟨w.heap.size, 2, none⟩ = some (.slice a2 n2 c2)) ∧ y.cell? ⟨w.heap.size + 1, 0, none⟩ = some (.slice b k l) ∧ y.cell? ⟨w.heap.size + 1, 1, none⟩ = some (.bool v) ∧ y.cell? ⟨w.heap.size + 1, 2, none⟩ = some (.slice b2 k2 l2))
    (first
      | (exact ⟨⟨z0.cell, z0.cell1, z0.cell2⟩, z1.cell, z1.cell1, z1.cell2⟩)
      | (exact ⟨⟨BB.out.now.2.2.1.cell, BB.out.now.2.2.1.cell1, BB.out.now.2.2.1.cell2⟩, BB.out.now.2.1.cell, BB.out.now.2.1.cell1, BB.out.now.2.1.cell2⟩)
      | (exact (fun B9 : Bag w _ _ => ⟨⟨B9.now.2.2.1.cell, B9.now.2.2.1.cell1, B9.now.2.2.1.cell2⟩, B9.now.2.1.cell, B9.now.2.1.cell1, B9.now.2.1.cell2⟩) (BB.out.alloc _)))
    (first
      | (go_at_call 83; (with_reducible refine (BL'.out _ BB.out.now.2.2.2.1).mono ?_); rintro e w5 ⟨a5, n5, c5, m5, rfl, hi5, hb5⟩; have BB := Lib.hid (BB.out.go hb5))
      | (go_at_call 82; (with_reducible refine (T1.out _ _ ?_ ?_).mono ?_); exact (BB.out.alloc _).now.2.2.2.2.1.int; exact IntsAt.mk1 rfl (hi5.below ((Below.refl _ _).alloc (Nat.le_refl _) _)); rintro e w6 ⟨a6, n6, c6, m6, rfl, hi6, hb6⟩; have BB := Lib.hid ((BB.out.alloc _).go hb6))
      | (go_at_call 83; (with_reducible refine (BL.out _ BB.out.now.2.2.2.2.1).mono ?_); rintro e w7 ⟨a7, n7, c7, m7, rfl, hi7, hb7⟩; have BB := Lib.hid (BB.out.go hb7))
      | (go_at_call 82; (with_reducible refine (T2.out _ _ ?_ ?_).mono ?_); exact (BB.out.alloc _).now.2.2.2.1.int; exact IntsAt.mk1 rfl (hi7.below ((Below.refl _ _).alloc (Nat.le_refl _) _)); rintro e w8 ⟨a8, n8, c8, m8, rfl, hi8, hb8⟩; have BB := Lib.hid ((BB.out.alloc _).go hb8))
      | (go_at_call 185; (with_reducible refine (NW.out _ _ _ _ _ _ _ _ _ (((hi6.below hb7).below ((Below.refl _ _).alloc (Nat.le_refl _) _)).below hb8) hi8).mono ?_); rintro e w9 ⟨a9, n9, c9, m9, a10, n10, c10, rfl, hr, hb9⟩; have BB := Lib.hid (BB.out.go hb9); have hs := BB.out.now.1; have r0 := hs.cell; have r1 := hs.cell1; have r2 := hs.cell2; have g0 := hs.free; have g1 := hs.free1; have g2 := hs.free2; have HS := hs.set (.slice a9 n9 c9) (.bool m9) (.slice a10 n10 c10); have z0 := BB.out.now.2.2.1.set3o he.1 (.slice a9 n9 c9) (.bool m9) (.slice a10 n10 c10); have z1 := BB.out.now.2.1.set3o he.2 (.slice a9 n9 c9) (.bool m9) (.slice a10 n10 c10); have HE := Lib.hid (RatTold3.done ok BB.out.below (by omega) hs hr)))
  go_wp2
  exact bodyPost_ret (v := .tuple #[.agg #[.slice a9 n9 c9, .bool m9, .slice a10 n10 c10], .bool ok]) (by simp [results, Tryz.results160, go_sem, HS]) rfl HE.out
theorem mul_lt32 {X Y K : Nat} (h : X < 4294967296 ^ K) (g : Y < 4294967296 ^ K) : X * Y < 4294967296 ^ (K + K) := by rw [Nat.pow_add]; exact Nat.mul_lt_mul'' h g
theorem mulZ_lt32 {X : Int} {Y K : Nat} (h : X.natAbs < 4294967296 ^ K) (g : Y < 4294967296 ^ K) : (X * Y).natAbs < 4294967296 ^ (K + K) := by
  rw [Int.natAbs_mul, Int.natAbs_natCast]; exact mul_lt32 h g
theorem by_zero (a : Option Addr) (n c : Nat) (m : Bool) (a2 : Option Addr) (n2 c2 : Nat) (P : Int) (Q : Nat) (b : Option Addr) (k l : Nat) (v : Bool) (b2 : Option Addr) (k2 l2 : Nat) (Q' : Nat) (w : World)
    (h : RatAt w a n c m a2 n2 c2 P Q) (g : RatAt w b k l v b2 k2 l2 0 Q') (hQ : 0 < Q) (hQ' : 0 < Q') (K : Nat) (hK : K ≤ 400000) (h1 : P.natAbs < 4294967296 ^ K) (h2 : Q < 4294967296 ^ K) (h4 : Q' < 4294967296 ^ K) :
    Calls Tryz.prog 160 #[.agg #[.slice a n c, .bool m, .slice a2 n2 c2], .agg #[.slice b k l, .bool v, .slice b2 k2 l2]] w fun e w' => RatTold3 w w' e 0 1 false :=
  by_walk a n c m a2 n2 c2 P Q b k l v b2 k2 l2 0 Q' w h g hQ hQ' K hK h1 h2 (Nat.pow_pos (by omega)) h4 0 1 false (Lib.hid fun a n c m b k l v wz h g => by
    rw [Int.zero_mul] at g; exact new_zero a n c m (P * Q') b k l v wz h g)
theorem by_some (a : Option Addr) (n c : Nat) (m : Bool) (a2 : Option Addr) (n2 c2 : Nat) (P : Int) (Q : Nat) (b : Option Addr) (k l : Nat) (v : Bool) (b2 : Option Addr) (k2 l2 : Nat) (P' : Int) (Q' : Nat) (w : World)
    (h : RatAt w a n c m a2 n2 c2 P Q) (g : RatAt w b k l v b2 k2 l2 P' Q') (hQ : 0 < Q) (hQ' : 0 < Q') (hP : P' ≠ 0) (K : Nat) (hK : K ≤ 400000) (h1 : P.natAbs < 4294967296 ^ K) (h2 : Q < 4294967296 ^ K) (h3 : P'.natAbs < 4294967296 ^ K) (h4 : Q' < 4294967296 ^ K) :
    Calls Tryz.prog 160 #[.agg #[.slice a n c, .bool m, .slice a2 n2 c2], .agg #[.slice b k l, .bool v, .slice b2 k2 l2]] w fun e w' => RatTold3 w w' e (nwP (P * Q') (P' * Q)) (nwQ (P * Q') (P' * Q)) true :=
  by_walk a n c m a2 n2 c2 P Q b k l v b2 k2 l2 P' Q' w h g hQ hQ' K hK h1 h2 h3 h4 _ _ true (Lib.hid fun a n c m b k l v wz h g =>
    new_some a n c m (P * Q') b k l v (P' * Q) wz h g (Int.mul_ne_zero hP (by omega)) (K + K) (by omega) (mulZ_lt32 h1 h4) (mulZ_lt32 h3 h2))
end Go.Proofs.YtnpoakaffafdiaaGreatDoor
namespace Go.Proofs.YtnpoakaffafdiaaGreatDoor
open Go.RowKit
attribute [local go_sem ↓] Go.wp_at_zero Go.wp_at_succ
/-- A number as digits. -/
def NumTold (w w' : World) (e : Ending) (P : Int) (Q : Nat) : Prop := e = .returned (.agg #[.bool (rB P), .string (rS P), .string (str (dec Q))]) ∧ Below w.heap.size w w'
theorem NumTold.done {w w2 : World} {k : Nat} (P : Int) (Q : Nat) (hb : Below w.heap.size w w2) (hk : w.heap.size ≤ k) {b : Bool} {s t : ByteArray} (h1 : rB P = b) (h2 : rS P = s) (h3 : str (dec Q) = t) :
    NumTold w (((w2.setCell ⟨k, 0, none⟩ (.bool b)).setCell ⟨k, 1, none⟩ (.string s)).setCell ⟨k, 2, none⟩ (.string t)) (.returned (.agg #[.bool b, .string s, .string t])) P Q :=
  ⟨by rw [h1, h2, h3], ((hb.setCell hk _).setCell hk _).setCell hk _⟩
set_option maxHeartbeats 3200000 in
set_option maxRecDepth 100000 in
theorem num_any (a : Option Addr) (n c : Nat) (m : Bool) (a2 : Option Addr) (n2 c2 : Nat) (P : Int) (Q : Nat) (w : World) (h : RatAt w a n c m a2 n2 c2 P Q) (hQ : 0 < Q)
    (K : Nat) (hK : K ≤ 100000) (h1 : P.natAbs < 4294967296 ^ K) (h2 : Q < 4294967296 ^ K) :
    Calls Tryz.prog 22 #[.agg #[.slice a n c, .bool m, .slice a2 n2 c2]] w fun e w' => NumTold w w' e P Q := by
  have B0 := (((Bag.start w).rat h).box3 (.slice a n c) (.bool m) (.slice a2 n2 c2) 60).box3 (.bool false) (.string ⟨#[]⟩) (.string ⟨#[]⟩) 53
  simp only [World.size_alloc] at B0
  have SG := Lib.hid (fun wz hz => ratSign_any a n c m a2 n2 c2 P Q wz hz)
  have BT := Lib.hid (fun wz hz => bot_any a n c m a2 n2 c2 P Q wz hz hQ)
  have X1 : Hid (∀ wz, NatIs wz (.agg #[.slice a n c]) P.natAbs → Calls Tryz.prog 60 #[.agg #[.slice a n c]] wz fun e w' => e = .returned (.string (rS P)) ∧ Below wz.heap.size wz w') := fun wz h => text_any _ P.natAbs wz h K hK h1
  have X2 := Lib.hid (fun a n c wz (h : NatIs wz (.agg #[.slice a n c]) Q) => text_any (.agg #[.slice a n c]) Q wz h K hK h2)
  have BB := Lib.hid B0.drew
  have he : w.heap.size ≠ w.heap.size + 1 := by omega
  have ND := Lib.hid (fun w2 b s t (hb : Below w.heap.size w w2) (h1 : rB P = b) (h2 : rS P = s) (h3 : str (dec Q) = t) => NumTold.done (k := w.heap.size + 1) P Q hb (by omega) h1 h2 h3)
  obtain ⟨s, hs⟩ : ∃ s, rS P = s := ⟨_, rfl⟩
  obtain ⟨t, ht⟩ : ∃ t, str (dec Q) = t := ⟨_, rfl⟩
  rw [hs] at X1
  rw [ht] at X2
  have HS0 := Lib.hid hs
  have HT0 := Lib.hid ht
  have hv : ∃ x b, sgnI P = x ∧ rB P = b ∧ ((x = -1 ∧ b = true) ∨ (x = 0 ∧ b = false) ∨ (x = 1 ∧ b = false)) := by
    refine ⟨_, _, rfl, rfl, ?_⟩
    unfold sgnI rB
    by_cases e1 : P < 0
    · rw [if_pos e1, decide_eq_true e1]; exact .inl ⟨rfl, rfl⟩
    · rw [if_neg e1, decide_eq_false e1]
      by_cases e2 : P = 0
      · rw [if_pos e2]; exact .inr (.inl ⟨rfl, rfl⟩)
      · rw [if_neg e2]; exact .inr (.inr ⟨rfl, rfl⟩)
  obtain ⟨x, b, hx, hb0, hxb⟩ := hv
  rw [hx] at SG
  have HB0 := Lib.hid hb0
  clear h hQ B0 h1 h2 hs ht hx hb0
  rcases hxb with ⟨rfl, rfl⟩ | ⟨rfl, rfl⟩ | ⟨rfl, rfl⟩
  · go_enter Tryz.func22, Tryz.ntmps22
    go_wp2_with fail
    go_region_held3 (fun y => y.cell? ⟨w.heap.size, 0, none⟩ = some (.slice a n c) ∧ y.cell? ⟨w.heap.size, 1, none⟩ = some (.bool m) ∧ y.cell? ⟨w.heap.size, 2, none⟩ = some (.slice a2 n2 c2))
      (first
        | (exact ⟨z0.cell, z0.cell1, z0.cell2⟩)
        | (exact ⟨BB.out.now.2.1.cell, BB.out.now.2.1.cell1, BB.out.now.2.1.cell2⟩))
      (first
        | (go_at_call 29; (with_reducible refine (SG.out _ BB.out.now.2.2.1).mono ?_); rintro e w2 ⟨rfl, hb2⟩; have BB := Lib.hid (BB.out.go hb2))
        | (go_at_call 60; (with_reducible refine (X1.out _ BB.out.now.2.2.1.int.nt).mono ?_); rintro e w3 ⟨rfl, hb3⟩; have BB := Lib.hid (BB.out.go hb3))
        | (go_at_call 61; (with_reducible refine (BT.out _ BB.out.now.2.2.1).mono ?_); rintro e w4 ⟨a3, n3, c3, rfl, hn3, hb4⟩; have BB := Lib.hid (BB.out.go hb4))
        | (go_at_call 60; (with_reducible refine (X2.out _ _ _ _ hn3).mono ?_); rintro e w5 ⟨rfl, hb5⟩; have BB := Lib.hid (BB.out.go hb5); have hs := BB.out.now.1; have r0 := hs.cell; have r1 := hs.cell1; have r2 := hs.cell2; have g0 := hs.free; have g1 := hs.free1; have g2 := hs.free2; have z0 := BB.out.now.2.1.set3o he (.bool true) (.string s) (.string t); have HS := hs.set (.bool true) (.string s) (.string t); have HE := Lib.hid (ND.out _ _ _ _ BB.out.below HB0.out HS0.out HT0.out)))
    go_wp2
    exact bodyPost_ret (v := .agg #[.bool true, .string s, .string t]) (by simp [results, Tryz.results22, go_sem, HS]) rfl HE.out
  · go_enter Tryz.func22, Tryz.ntmps22
    go_wp2_with fail
    go_region_held3 (fun y => y.cell? ⟨w.heap.size, 0, none⟩ = some (.slice a n c) ∧ y.cell? ⟨w.heap.size, 1, none⟩ = some (.bool m) ∧ y.cell? ⟨w.heap.size, 2, none⟩ = some (.slice a2 n2 c2))
      (first
        | (exact ⟨z0.cell, z0.cell1, z0.cell2⟩)
        | (exact ⟨BB.out.now.2.1.cell, BB.out.now.2.1.cell1, BB.out.now.2.1.cell2⟩))
      (first
        | (go_at_call 29; (with_reducible refine (SG.out _ BB.out.now.2.2.1).mono ?_); rintro e w2 ⟨rfl, hb2⟩; have BB := Lib.hid (BB.out.go hb2))
        | (go_at_call 60; (with_reducible refine (X1.out _ BB.out.now.2.2.1.int.nt).mono ?_); rintro e w3 ⟨rfl, hb3⟩; have BB := Lib.hid (BB.out.go hb3))
        | (go_at_call 61; (with_reducible refine (BT.out _ BB.out.now.2.2.1).mono ?_); rintro e w4 ⟨a3, n3, c3, rfl, hn3, hb4⟩; have BB := Lib.hid (BB.out.go hb4))
        | (go_at_call 60; (with_reducible refine (X2.out _ _ _ _ hn3).mono ?_); rintro e w5 ⟨rfl, hb5⟩; have BB := Lib.hid (BB.out.go hb5); have hs := BB.out.now.1; have r0 := hs.cell; have r1 := hs.cell1; have r2 := hs.cell2; have g0 := hs.free; have g1 := hs.free1; have g2 := hs.free2; have z0 := BB.out.now.2.1.set3o he (.bool false) (.string s) (.string t); have HS := hs.set (.bool false) (.string s) (.string t); have HE := Lib.hid (ND.out _ _ _ _ BB.out.below HB0.out HS0.out HT0.out)))
    go_wp2
    exact bodyPost_ret (v := .agg #[.bool false, .string s, .string t]) (by simp [results, Tryz.results22, go_sem, HS]) rfl HE.out
  · go_enter Tryz.func22, Tryz.ntmps22
    go_wp2_with fail
    go_region_held3 (fun y => y.cell? ⟨w.heap.size, 0, none⟩ = some (.slice a n c) ∧ y.cell? ⟨w.heap.size, 1, none⟩ = some (.bool m) ∧ y.cell? ⟨w.heap.size, 2, none⟩ = some (.slice a2 n2 c2))
      (first
        | (exact ⟨z0.cell, z0.cell1, z0.cell2⟩)
        | (exact ⟨BB.out.now.2.1.cell, BB.out.now.2.1.cell1, BB.out.now.2.1.cell2⟩))
      (first
        | (go_at_call 29; (with_reducible refine (SG.out _ BB.out.now.2.2.1).mono ?_); rintro e w2 ⟨rfl, hb2⟩; have BB := Lib.hid (BB.out.go hb2))
        | (go_at_call 60; (with_reducible refine (X1.out _ BB.out.now.2.2.1.int.nt).mono ?_); rintro e w3 ⟨rfl, hb3⟩; have BB := Lib.hid (BB.out.go hb3))
        | (go_at_call 61; (with_reducible refine (BT.out _ BB.out.now.2.2.1).mono ?_); rintro e w4 ⟨a3, n3, c3, rfl, hn3, hb4⟩; have BB := Lib.hid (BB.out.go hb4))
        | (go_at_call 60; (with_reducible refine (X2.out _ _ _ _ hn3).mono ?_); rintro e w5 ⟨rfl, hb5⟩; have BB := Lib.hid (BB.out.go hb5); have hs := BB.out.now.1; have r0 := hs.cell; have r1 := hs.cell1; have r2 := hs.cell2; have g0 := hs.free; have g1 := hs.free1; have g2 := hs.free2; have z0 := BB.out.now.2.1.set3o he (.bool false) (.string s) (.string t); have HS := hs.set (.bool false) (.string s) (.string t); have HE := Lib.hid (ND.out _ _ _ _ BB.out.below HB0.out HS0.out HT0.out)))
    go_wp2
    exact bodyPost_ret (v := .agg #[.bool false, .string s, .string t]) (by simp [results, Tryz.results22, go_sem, HS]) rfl HE.out
end Go.Proofs.YtnpoakaffafdiaaGreatDoor
namespace Go.Proofs.YtnpoakaffafdiaaGreatDoor
open Go.RowKit
attribute [local go_sem ↓] Go.wp_at_zero Go.wp_at_succ
set_option maxHeartbeats 1600000 in
set_option maxRecDepth 100000 in
theorem shifted0_any (a : Option Addr) (n c : Nat) (k : Int) (w : World) (h : NatIs w (.agg #[.slice a n c]) 0) :
    Calls Tryz.prog 152 #[.agg #[.slice a n c], .int .i64 k] w fun e w' => NatTold2 w w' e (.agg #[.slice a n c]) 0 := by
  have B0 := (((Bag.start w).nat h).box (.slice a n c) 56).box (.slice none 0 0) 56
  simp only [World.size_alloc] at B0
  have ZE := Lib.hid (fun wz (h : NatIs wz (.agg #[.slice a n c]) 0) => zero_any _ 0 wz h)
  rw [decide_eq_true rfl] at ZE
  have BB := Lib.hid B0
  have q0 := B0.now.2.1.cell
  clear h B0
  go_enter Tryz.func152, Tryz.ntmps152
  go_wp2_with fail
  go_at_call 107
  (with_reducible refine (ZE.out _ BB.out.now.2.2.1).mono ?_)
  rintro e w2 ⟨rfl, hb2⟩
  have BB := Lib.hid (BB.out.go hb2)
  have q0 := BB.out.now.2.1.cell
  have hs := BB.out.now.1
  have hc := hs.cell
  have hf := hs.free
  have HS := World.cell?_setCell_same w2 ⟨w.heap.size + 1, 0, none⟩ (.slice a n c) hc
  have HE : Hid (NatTold2 w (w2.setCell ⟨w.heap.size + 1, 0, none⟩ (.slice a n c)) (.returned (.agg #[.slice a n c])) (.agg #[.slice a n c]) 0) := ⟨rfl, BB.out.now.2.2.1.storeAt hc (fun _ _ h => by cases h) _, BB.out.below.setCell (p := ⟨w.heap.size + 1, 0, none⟩) (show w.heap.size ≤ w.heap.size + 1 by omega) _⟩
  clear hb2 hs
  go_wp2
  exact bodyPost_ret (v := .agg #[.slice a n c]) (by simp [results, Tryz.results152, go_sem, HS]) rfl HE.out
set_option maxHeartbeats 3200000 in
set_option maxRecDepth 100000 in
theorem ratRead_yes (s : ByteArray) (w : World) (hs : s.size ≤ 2000) (hok : okB s.data.toList = true) :
    Calls Tryz.prog 117 #[.string s] w fun e w' => SubOf3 w w' e (numOf s.data.toList) true := by
  have B0 := (Bag.start w).box (.slice none 0 0) 56 |>.box (.slice none 0 0) 56
  simp only [World.size_alloc] at B0
  have PA := Lib.hid (fun wz => parse_any s wz (by unfold maxLen; omega))
  unfold ParseOut at PA
  rw [hok] at PA
  have BB := Lib.hid B0
  go_enter Tryz.func117, Tryz.ntmps117
  go_wp2
  have hsz : ¬ ((s.size : Int) > 2000) := by omega
  go_loopw [0] (fun i wr => i = .string s ∧ wr = ((w.alloc (.cells #[.slice none 0 0] 56)).alloc (.cells #[.slice none 0 0] 56))) (fun _ _ => 0)
  case atStart => exact ⟨rfl, rfl⟩
  case round =>
    obtain ⟨rfl, rfl⟩ := hrel
    go_wp2_with fail
    go_at_call 151
    (with_reducible refine (PA.out _).mono ?_)
    rintro e w2 ⟨a, n, c, rfl, hv, _, hb2⟩
    rw [if_pos trivial] at hv
    have hk2 := (BB.out.go hb2).now.1.lt
    have BB := Lib.hid (((BB.out.go hb2).nat hv).box (.slice a n c) 56)
    have he : w.heap.size + 1 ≠ w.heap.size ∧ w2.heap.size ≠ w.heap.size := by omega
    have SH := Lib.hid (fun k wz => shifted0_any none 0 0 k wz (NatIs.zero wz))
    unfold NatTold2 at SH
    obtain ⟨K, hK⟩ : ∃ K, K = 2000 := ⟨_, rfl⟩
    have hN : numOf s.data.toList < 4294967296 ^ K := by
      obtain ⟨g1, g2, g3⟩ := okB_digs hok
      have h1 := numOf_lt _ g3
      have h2 : s.data.toList.length = s.size := rfl
      exact Nat.lt_of_lt_of_le h1 (Nat.le_trans (Nat.pow_le_pow_right (by omega) (show s.data.toList.length ≤ K by omega)) (Nat.pow_le_pow_left (by omega) K))
    have AD : Hid (∀ a n c b k l wz, NatIs wz (.agg #[.slice a n c]) 0 → NatIs wz (.agg #[.slice b k l]) (numOf s.data.toList) → Calls Tryz.prog 153 #[.agg #[.slice a n c], .agg #[.slice b k l]] wz fun e w' => NatTold wz w' e (numOf s.data.toList)) := fun a n c b k l wz h g => by
      have := (add_any _ _ 0 (numOf s.data.toList) wz h g K (by omega) (Nat.pow_pos (by omega)) hN).mono fun _ _ h => h.told
      rw [Nat.zero_add] at this
      exact this
    clear hv hb2 hN B0
    go_wp2_with fail
    have BB := Lib.hid BB.out.drew
    go_region_held3 (fun y => y.cell? ⟨w.heap.size + 1, 0, none⟩ = some (.slice none 0 0) ∧ y.cell? ⟨w2.heap.size, 0, none⟩ = some (.slice a n c))
      (first
        | (exact ⟨z0.cell, z1.cell⟩)
        | (exact ⟨BB.out.now.2.2.1.cell, BB.out.now.1.cell⟩))
      (first
        | (go_at_call 152; (with_reducible refine (SH.out _ _).mono ?_); rintro e w3 ⟨rfl, hn3, hb3⟩; have BB := Lib.hid (BB.out.go hb3))
        | (go_at_call 153; (with_reducible refine (AD.out _ _ _ _ _ _ _ hn3 BB.out.now.2.1).mono ?_); rintro e w4 ⟨a5, n5, c5, rfl, hn5, hb4⟩; have BB := Lib.hid (BB.out.go hb4); have hs4 := BB.out.now.2.2.2.1; have hc := hs4.cell; have hf := hs4.free; have z0 := BB.out.now.2.2.1.seto he.1 (.slice a5 n5 c5); have z1 := BB.out.now.1.seto he.2 (.slice a5 n5 c5); have HS := World.cell?_setCell_same w4 ⟨w.heap.size, 0, none⟩ (.slice a5 n5 c5) hc; have HE : Hid (SubOf3 w (w4.setCell ⟨w.heap.size, 0, none⟩ (.slice a5 n5 c5)) (.returned (.tuple #[.agg #[.slice a5 n5 c5], .bool true])) (numOf s.data.toList) true) := ⟨a5, n5, c5, rfl, hn5.storeAt hc (fun _ _ h => by cases h) _, BB.out.below.setCell (p := ⟨w.heap.size, 0, none⟩) (Nat.le_refl _) _⟩))
    go_wp2
    exact bodyPost_ret (v := .tuple #[.agg #[.slice a5 n5 c5], .bool true]) (by simp [results, Tryz.results117, go_sem, HS]) rfl HE.out
set_option maxHeartbeats 3200000 in
set_option maxRecDepth 100000 in
theorem ratRead_no (s : ByteArray) (w : World) (hs : s.size ≤ 2000) (hok : okB s.data.toList = false) :
    Calls Tryz.prog 117 #[.string s] w fun e w' => SubOf3 w w' e 0 false := by
  have B0 := (Bag.start w).box (.slice none 0 0) 56 |>.box (.slice none 0 0) 56
  simp only [World.size_alloc] at B0
  have PA := Lib.hid (fun wz => parse_any s wz (by unfold maxLen; omega))
  unfold ParseOut at PA
  rw [hok] at PA
  have BB := Lib.hid B0
  go_enter Tryz.func117, Tryz.ntmps117
  go_wp2
  have hsz : ¬ ((s.size : Int) > 2000) := by omega
  go_loopw [0] (fun i wr => i = .string s ∧ wr = ((w.alloc (.cells #[.slice none 0 0] 56)).alloc (.cells #[.slice none 0 0] 56))) (fun _ _ => 0)
  case atStart => exact ⟨rfl, rfl⟩
  case round =>
    obtain ⟨rfl, rfl⟩ := hrel
    go_wp2_with fail
    go_at_call 151
    (with_reducible refine (PA.out _).mono ?_)
    rintro e w2 ⟨a, n, c, rfl, hv, _, hb2⟩
    have BB := Lib.hid ((BB.out.go hb2).box (.slice a n c) 56)
    have hs4 := BB.out.now.2.2.1
    have hc := hs4.cell
    have hf := hs4.free
    have HS := World.cell?_setCell_same _ ⟨w.heap.size, 0, none⟩ (.slice none 0 0) hc
    have HE := Lib.hid (show SubOf3 w _ (.returned (.tuple #[.agg #[.slice none 0 0], .bool false])) 0 false from ⟨none, 0, 0, rfl, NatIs.zero _, BB.out.below.setCell (p := ⟨w.heap.size, 0, none⟩) (Nat.le_refl _) (.slice none 0 0)⟩)
    clear hv hb2 B0 hs4
    go_wp2
    exact bodyPost_ret (v := .tuple #[.agg #[.slice none 0 0], .bool false]) (by simp [results, Tryz.results117, go_sem, HS]) rfl HE.out
end Go.Proofs.YtnpoakaffafdiaaGreatDoor

namespace Go.Proofs.YtnpoakaffafdiaaGreatDoor
open Go.RowKit
def fac : Nat → Nat
  | 0 => 1
  | n + 1 => fac n * (n + 1)
theorem fac_pos : ∀ n, 0 < fac n
  | 0 => by decide
  | n + 1 => Nat.mul_pos (fac_pos n) (by omega)
theorem fac_mono {m n : Nat} (h : m ≤ n) : fac m ≤ fac n := by
  induction n with
  | zero => obtain rfl : m = 0 := by omega
            exact Nat.le_refl _
  | succ n ih =>
    by_cases e : m = n + 1
    · rw [e]; exact Nat.le_refl _
    · exact Nat.le_trans (ih (by omega)) (Nat.le_mul_of_pos_right _ (by omega))
theorem fac_two : ∀ n, 2 ^ n ≤ fac (n + 1)
  | 0 => by decide
  | n + 1 => by
    rw [Nat.pow_succ]
    show 2 ^ n * 2 ≤ fac (n + 1) * (n + 1 + 1)
    exact Nat.mul_le_mul (fac_two n) (by omega)
theorem lbs_le {N k : Nat} : lbs N ≤ k ↔ N < 2 ^ (32 * k) := by
  rw [← nbits_le]
  unfold lbs
  omega
theorem lbs_mono {N M : Nat} (h : N ≤ M) : lbs N ≤ lbs M := lbs_le.2 (Nat.lt_of_le_of_lt h (lbs_le.1 (Nat.le_refl _)))
theorem lbs_one : lbs 1 = 1 := by decide +kernel
theorem lbs_pos {N : Nat} (h : 0 < N) : 1 ≤ lbs N := by
  have := lbs_mono (show 1 ≤ N from h)
  rw [lbs_one] at this
  exact this
theorem pow32 (k : Nat) : 4294967296 ^ k = 2 ^ (32 * k) := by rw [Nat.pow_mul]
theorem lbs_le32 {N k : Nat} : lbs N ≤ k ↔ N < 4294967296 ^ k := by rw [lbs_le, pow32]
/-- A factorial of few limbs is one of a small number. -/
theorem fac_lim {n : Nat} (h : lbs (fac n) ≤ 64) : n ≤ 2048 := by
  have h1 := lbs_le.1 h
  by_cases e : n ≤ 2048
  · exact e
  · have h2 := fac_two (n - 1)
    rw [show n - 1 + 1 = n by omega] at h2
    have h3 := Nat.pow_le_pow_right (show 0 < 2 by omega) (show 32 * 64 ≤ n - 1 by omega)
    omega
/-- Which signs are functions of one number. -/
def hasB (c : Int) : Bool := decide (c = 43 ∨ c = 45 ∨ c = 124 ∨ c = 42 ∨ c = 33 ∨ c = 126 ∨ c = 215 ∨ c = 247 ∨ c = 8968 ∨ c = 8970 ∨ c = 9055 ∨ c = 9675)
def limZ (P : Int) (Q : Nat) : Int := max (lbs P.natAbs : Int) (lbs Q : Int)
/-- Is it something? -/
def aN (c P : Int) (Q : Nat) : Bool := (decide (c = 43) || decide (c = 45) || decide (c = 215) || decide (c = 8968) || decide (c = 8970) || decide (c = 124)) || ((decide (c = 247) && !decide (P = 0)) || (decide (c = 33) && (decide (Q = 1) && decide (0 ≤ P))))
def aP (c P : Int) (Q : Nat) : Int := if c = 43 then P else if c = 45 then -P else if c = 215 then sgnI P else if c = 8968 then -(flQ (-P) Q) else if c = 8970 then flQ P Q else if c = 124 then (P.natAbs : Nat) else if c = 247 then (if P < 0 then -(Q : Int) else (Q : Int)) else (fac P.toNat : Nat)
def aQ (c P : Int) (Q : Nat) : Nat := if c = 43 then Q else if c = 45 then Q else if c = 215 then 1 else if c = 8968 then 1 else if c = 8970 then 1 else if c = 124 then Q else if c = 247 then P.natAbs else 1
def oE (c P : Int) (Q : Nat) (l : Int) : Int := if hasB c = false then 20 else if c = 126 then (if Q = 1 ∧ (P = 0 ∨ P = 1) then 0 else 22) else if aN c P Q = false then 22 else if l < limZ (aP c P Q) (aQ c P Q) then 26 else 0
def oP (c P : Int) (Q : Nat) (l : Int) : Int := if oE c P Q l = 0 then (if c = 126 then 1 - P else aP c P Q) else 0
def oQ (c P : Int) (Q : Nat) (l : Int) : Nat := if oE c P Q l = 0 then (if c = 126 then 1 else aQ c P Q) else 1
/-- What applied answers. -/
def Fits (c P : Int) (Q : Nat) (l : Int) (P' : Int) (Q' : Nat) (E' : Int) : Prop :=
  0 < Q' ∧ (E' = 0 ∨ E' = 22 ∨ E' = 26) ∧ (E' ≠ 0 → oE c P Q l = E') ∧ (E' = 0 → if l < limZ P' Q' then oE c P Q l = 26 else oE c P Q l = 0 ∧ oP c P Q l = P' ∧ oQ c P Q l = Q')
theorem fits_ok {c P : Int} {Q : Nat} {l : Int} (hc : hasB c = true) (h : c ≠ 126) (hn : aN c P Q = true) (hQ : 0 < aQ c P Q) : Fits c P Q l (aP c P Q) (aQ c P Q) 0 := by
  have e : oE c P Q l = if l < limZ (aP c P Q) (aQ c P Q) then 26 else 0 := by
    unfold oE
    rw [hc, if_neg (by decide), if_neg h, hn, if_neg (by decide)]
  refine ⟨hQ, .inl rfl, fun h => absurd rfl h, fun _ => ?_⟩
  rw [e]
  split
  · rfl
  · refine ⟨rfl, ?_, ?_⟩
    · unfold oP
      rename_i h1
      rw [e, if_neg h1, if_pos rfl, if_neg h]
    · unfold oQ
      rename_i h1
      rw [e, if_neg h1, if_pos rfl, if_neg h]
theorem fits_no {c P : Int} {Q : Nat} {l : Int} (hc : hasB c = true) (h : c ≠ 126) (hn : aN c P Q = false) : Fits c P Q l 0 1 22 := by
  refine ⟨by omega, .inr (.inl rfl), fun _ => ?_, fun h => by omega⟩
  unfold oE
  rw [hc, if_neg (by decide), if_neg h, hn, if_pos rfl]
/-- The factorial, or one of the first ones, which is too long. -/
theorem fits_fac {P : Int} {l : Int} {m : Nat} (h0 : 0 ≤ P) (hm : m ≤ P.toNat) (h : m = P.toNat ∨ l < lbs (fac m)) : Fits 33 P 1 l (fac m : Nat) 1 0 := by
  have hp := lbs_pos (fac_pos m)
  have hlz : limZ (fac m : Nat) 1 = (lbs (fac m) : Int) := by
    unfold limZ
    rw [Int.natAbs_natCast, lbs_one]
    omega
  rcases h with h | h
  · subst h
    exact fits_ok (c := 33) (P := P) (Q := 1) (by decide) (by decide) (by unfold aN; simp [h0]) Nat.one_pos
  · refine ⟨by omega, .inl rfl, fun h => absurd rfl h, fun _ => ?_⟩
    rw [if_pos (by rw [hlz]; exact h)]
    have h2 := lbs_mono (fac_mono hm)
    have e : aN 33 P 1 = true := by unfold aN; simp [h0]
    have hlz2 : limZ (aP 33 P 1) (aQ 33 P 1) = (lbs (fac P.toNat) : Int) := by
      show limZ ((fac P.toNat : Nat) : Int) 1 = _
      unfold limZ
      rw [Int.natAbs_natCast, lbs_one]
      have := lbs_pos (fac_pos P.toNat)
      omega
    unfold oE
    rw [show hasB 33 = true from rfl, if_neg (by decide), if_neg (by decide), e, if_neg (by decide), if_pos (by rw [hlz2]; omega)]
/-- The factorial of what is beyond 64 bits. -/
theorem fits_far {P : Int} {l : Int} (h0 : 2100 ≤ P) (hl : l ≤ 64) : Fits 33 P 1 l 0 1 26 := by
  refine ⟨by omega, .inr (.inr rfl), fun _ => ?_, fun h => by omega⟩
  have e : aN 33 P 1 = true := by unfold aN; simp; omega
  have hlz2 : limZ (aP 33 P 1) (aQ 33 P 1) = (lbs (fac P.toNat) : Int) := by
    show limZ ((fac P.toNat : Nat) : Int) 1 = _
    unfold limZ
    rw [Int.natAbs_natCast, lbs_one]
    have := lbs_pos (fac_pos P.toNat)
    omega
  have h3 : ¬ lbs (fac P.toNat) ≤ 64 := fun h => by
    have := fac_lim h
    omega
  unfold oE
  rw [show hasB 33 = true from rfl, if_neg (by decide), if_neg (by decide), e, if_neg (by decide), if_pos (by rw [hlz2]; omega)]
end Go.Proofs.YtnpoakaffafdiaaGreatDoor

namespace Go.Proofs.YtnpoakaffafdiaaGreatDoor
open Go.RowKit
/-- What follows a piece of code, given a name. -/
theorem wp_capture {P : Program} {c : Code} {Q : Exit → Act → World → Prop} {a : Act} {w : World} (h : ∀ R : Exit → Act → World → Prop, (∀ e a w, R e a w = Q e a w) → Code.wp P c R a w) : Code.wp P c Q a w := h Q (fun _ _ _ => rfl)
end Go.Proofs.YtnpoakaffafdiaaGreatDoor

namespace Go.Proofs.YtnpoakaffafdiaaGreatDoor
open Go.RowKit
attribute [local go_sem ↓] Go.wp_at_zero Go.wp_at_succ
theorem IntAt.set2b {w : World} {k : Nat} {a0 : Option Addr} {n0 c0 : Nat} {m0 : Bool} {a : Option Addr} {n c : Nat} {m : Bool} {Z : Int} (q : IntAt w a n c m Z) (h : Slot2 w k (.slice a0 n0 c0) (.bool m0)) (u v : Value) :
    IntAt ((w.setCell ⟨k, 0, none⟩ u).setCell ⟨k, 1, none⟩ v) a n c m Z :=
  ⟨q.1, q.2.set2b h (fun _ _ h => by cases h) (fun _ _ h => by cases h) _ _⟩
end Go.Proofs.YtnpoakaffafdiaaGreatDoor
namespace Go.Proofs.YtnpoakaffafdiaaGreatDoor
open Go.RowKit
attribute [local go_sem ↓] Go.wp_at_zero Go.wp_at_succ
/-- A row of numbers. -/
def RatsAt (w : World) (sa : Option Addr) (n c : Nat) (fP : Nat → Int) (fQ : Nat → Nat) : Prop := n ≤ c ∧ n ≤ 1000 ∧ (n = 0 ∨ ∃ b off, sa = some ⟨b, off, none⟩ ∧ b < w.heap.size ∧
  ∀ j, j < n → ∃ a' n' c' m' a2' n2' c2', w.cell? ⟨b, off + j * 3, none⟩ = some (.slice a' n' c') ∧ w.cell? ⟨b, off + j * 3 + 1, none⟩ = some (.bool m') ∧ w.cell? ⟨b, off + j * 3 + 2, none⟩ = some (.slice a2' n2' c2') ∧ RatAt w a' n' c' m' a2' n2' c2' (fP j) (fQ j))
theorem RatsAt.below {w w' : World} {sa : Option Addr} {n c : Nat} {fP : Nat → Int} {fQ : Nat → Nat} (h : RatsAt w sa n c fP fQ) (hb : Below w.heap.size w w') : RatsAt w' sa n c fP fQ := by
  obtain ⟨h0, h1, h2⟩ := h
  refine ⟨h0, h1, ?_⟩
  rcases h2 with h2 | ⟨b, off, rfl, hl, hc⟩
  · exact .inl h2
  · refine .inr ⟨b, off, rfl, Nat.lt_of_lt_of_le hl hb.size, fun j hj => ?_⟩
    obtain ⟨a', n', c', m', a2', n2', c2', e1, e2, e3, hr⟩ := hc j hj
    exact ⟨a', n', c', m', a2', n2', c2', (hb.cell (p := ⟨b, _, none⟩) hl).trans e1, (hb.cell (p := ⟨b, _, none⟩) hl).trans e2, (hb.cell (p := ⟨b, _, none⟩) hl).trans e3, hr.below hb⟩
theorem RatsAt.get {w : World} {sa : Option Addr} {n c : Nat} {fP : Nat → Int} {fQ : Nat → Nat} (h : RatsAt w sa n c fP fQ) {j : Nat} (hj : j < n) :
    ∃ b off a' n' c' m' a2' n2' c2', sa = some ⟨b, off, none⟩ ∧ b < w.heap.size ∧ w.cell? ⟨b, off + j * 3, none⟩ = some (.slice a' n' c') ∧ w.cell? ⟨b, off + j * 3 + 1, none⟩ = some (.bool m') ∧ w.cell? ⟨b, off + j * 3 + 2, none⟩ = some (.slice a2' n2' c2') ∧ RatAt w a' n' c' m' a2' n2' c2' (fP j) (fQ j) := by
  obtain ⟨h0, h1, h2⟩ := h
  rcases h2 with h2 | ⟨b, off, rfl, hl, hc⟩
  · omega
  · obtain ⟨a', n', c', m', a2', n2', c2', e⟩ := hc j hj
    exact ⟨b, off, a', n', c', m', a2', n2', c2', rfl, hl, e⟩
end Go.Proofs.YtnpoakaffafdiaaGreatDoor
namespace Go.Proofs.YtnpoakaffafdiaaGreatDoor
open Go.RowKit
attribute [local go_sem ↓] Go.wp_at_zero Go.wp_at_succ
end Go.Proofs.YtnpoakaffafdiaaGreatDoor

namespace Go.Proofs.YtnpoakaffafdiaaGreatDoor
open Go.RowKit
/-- How many divisions Euclid's rounds take. -/
def eus (A B : Nat) : Nat := if h : B = 0 then 0 else eus B (A % B) + 1
termination_by B
decreasing_by exact Nat.mod_lt _ (Nat.pos_of_ne_zero h)
theorem eus_zero (A : Nat) : eus A 0 = 0 := by unfold eus; rw [dif_pos rfl]
theorem eus_step (A : Nat) {B : Nat} (h : B ≠ 0) : eus A B = eus B (A % B) + 1 := by rw [eus, dif_neg h]
theorem eus_le : ∀ k A B, B < 2 ^ k → eus A B ≤ 2 * k + 1 := by
  intro k
  induction k with
  | zero =>
    intro A B h
    obtain rfl : B = 0 := by simpa using h
    rw [eus_zero]; omega
  | succ k ih =>
    intro A B h
    by_cases h0 : B = 0
    · subst h0; rw [eus_zero]; omega
    · rw [eus_step A h0]
      have h1 := Nat.mod_lt A (Nat.pos_of_ne_zero h0)
      obtain ⟨C, hC⟩ : ∃ C, A % B = C := ⟨_, rfl⟩
      rw [hC] at h1 ⊢
      by_cases hc0 : C = 0
      · subst hc0; rw [eus_zero]; omega
      · rw [eus_step B hc0]
        have h2 := Nat.mod_lt B (Nat.pos_of_ne_zero hc0)
        have h3 := Nat.div_add_mod B C
        have h4 : 1 ≤ B / C := Nat.div_pos (by omega) (Nat.pos_of_ne_zero hc0)
        have h5 : C * 1 ≤ C * (B / C) := Nat.mul_le_mul_left _ h4
        have h6 : B % C < 2 ^ k := by rw [Nat.pow_succ] at h; omega
        have := ih C (B % C) h6
        omega
theorem gcd_step (A B : Nat) : Nat.gcd B (A % B) = Nat.gcd A B := by
  rw [Nat.gcd_comm A B, Nat.gcd_rec B A, Nat.gcd_comm]
theorem dec_isnt0 (N : Nat) : ((str (dec N)).toList == [48]) = decide (N = 0) := by
  have e : (str (dec N)).toList = dec N := by rw [ByteArray.toList_eq]; rfl
  rw [e, Bool.eq_iff_iff, beq_iff_eq, decide_eq_true_eq]
  constructor
  · intro h
    have := congrArg numOf h
    unfold dec at this
    rw [numOf_sdig, Nat.mod_eq_of_lt (dl_lt N)] at this
    simpa [numOf] using this
  · intro h; rw [h, dec_zero]
theorem dl_mod {A B : Nat} (h : 0 < B) : dl (A % B) ≤ dl B := dl_le _ _ (dl_pos B) (Nat.lt_trans (Nat.mod_lt _ h) (dl_lt B))
set_option maxHeartbeats 1600000 in
set_option maxRecDepth 100000 in
theorem rgcd_any (x y : Nat) (w : World) (hx : dl x ≤ 900) (hy : dl y ≤ 900) (k0 : Nat) (hk0 : k0 ≤ 4000) (hy2 : y < 2 ^ k0) :
    Calls Tryz.prog 116 #[.string (str (dec x)), .string (str (dec y))] w fun e w' => e = .returned (.string (str (dec (Nat.gcd x y)))) ∧ Below w.heap.size w w' := by
  have hst : 0 + eus x y ≤ 10000 := by have := eus_le k0 x y hy2; omega
  obtain ⟨a0, ha0⟩ : ∃ a0, str (dec x) = a0 := ⟨_, rfl⟩
  obtain ⟨b0, hb0⟩ : ∃ b0, str (dec y) = b0 := ⟨_, rfl⟩
  rw [ha0, hb0]
  have H0 : Hid (a0 = str (dec x) ∧ b0 = str (dec y) ∧ dl x ≤ 900 ∧ dl y ≤ 900 ∧ 0 + eus x y ≤ 10000) := ⟨ha0.symm, hb0.symm, hx, hy, hst⟩
  clear hst ha0 hb0 hx hy hy2 hk0
  go_enter Tryz.func116, Tryz.ntmps116
  go_wp2
  go_loopw [0, 1, 5] (fun a b i wr => ∃ (k A B : Nat) (s t : ByteArray), a = .string s ∧ b = .string t ∧ i = .int .i64 k ∧ k ≤ 10000 ∧ Hid (s = str (dec A) ∧ t = str (dec B) ∧ dl A ≤ 900 ∧ dl B ≤ 900 ∧ k + eus A B ≤ 10000 ∧ Nat.gcd A B = Nat.gcd x y) ∧ Below w.heap.size w wr)
    (fun _ _ i _ => 20000 - (intOf i).toNat)
  case atStart => exact ⟨0, x, y, _, _, rfl, rfl, rfl, by omega, ⟨H0.out.1, H0.out.2.1, H0.out.2.2.1, H0.out.2.2.2.1, H0.out.2.2.2.2, rfl⟩, Below.refl _ _⟩
  case round =>
    obtain ⟨k, A, B, s, t, rfl, rfl, rfl, hk, hr, hbl⟩ := hrel
    have hz := dec_isnt0 B
    rw [← hr.out.2.1] at hz
    have d1 : decide ((k : Int) < 20000) = true := decide_eq_true (by omega)
    by_cases h0 : B = 0
    · rw [decide_eq_true h0] at hz
      have HE : Hid (s = str (dec (Nat.gcd x y))) := by
        show _ = _
        rw [hr.out.1, ← hr.out.2.2.2.2.2, h0, Nat.gcd_zero_right]
      have HBL := Lib.hid hbl
      clear hr hbl h0
      go_wp2
      go_ret
      exact ⟨ret_str HE.out, HBL.out⟩
    · rw [decide_eq_false h0] at hz
      have hB0 : 0 < B := Nat.pos_of_ne_zero h0
      have DM := fun wz => rdivMod_any A B wz hr.out.2.2.1 hr.out.2.2.2.1 hB0
      rw [← hr.out.1, ← hr.out.2.1] at DM
      obtain ⟨u, hu⟩ : ∃ u, str (dec (A / B)) = u := ⟨_, rfl⟩
      obtain ⟨v, hv⟩ : ∃ v, str (dec (A % B)) = v := ⟨_, rfl⟩
      rw [hu, hv] at DM
      have hes := eus_step A h0
      have hkk : k + 1 ≤ 10000 := by have := hr.out.2.2.2.2.1; omega
      have HN : Hid (t = str (dec B) ∧ v = str (dec (A % B)) ∧ dl B ≤ 900 ∧ dl (A % B) ≤ 900 ∧ (k + 1) + eus B (A % B) ≤ 10000 ∧ Nat.gcd B (A % B) = Nat.gcd x y) :=
        ⟨hr.out.2.1, hv.symm, hr.out.2.2.2.1, Nat.le_trans (dl_mod hB0) hr.out.2.2.2.1, by have := hr.out.2.2.2.2.1; omega, by rw [gcd_step]; exact hr.out.2.2.2.2.2⟩
      have HD := Lib.hid DM
      have HBL := Lib.hid hbl
      clear DM hu hv hes hr hbl h0 hB0
      go_wp2_with fail
      go_at_call 150
      (with_reducible refine (HD.out _).mono ?_)
      rintro e w2 ⟨rfl, hb2⟩
      have HB2 := Lib.hid (HBL.out.trans (hb2.mono HBL.out.size))
      clear hb2
      go_wp2
      go_roundw
      case rel => exact ⟨k + 1, B, A % B, _, _, rfl, rfl, by go_num, hkk, HN.out, HB2.out⟩
      case measure => simp [intOf]; omega
end Go.Proofs.YtnpoakaffafdiaaGreatDoor
namespace Go.Proofs.YtnpoakaffafdiaaGreatDoor
open Go.RowKit
attribute [local go_sem ↓] Go.wp_at_zero Go.wp_at_succ
theorem dec0 : str (dec 0) = ⟨#[48]⟩ := by rw [dec_small (by omega)]; rfl
theorem dec1 : str (dec 1) = ⟨#[49]⟩ := by rw [dec_small (by omega)]; rfl
set_option maxHeartbeats 1600000 in
set_option maxRecDepth 100000 in
theorem r3Zero_any (w : World) : Calls Tryz.prog 68 #[] w fun e w' => NumTold w w' e 0 1 := by
  have B0 := (Bag.start w).alloc (.cells #[.bool false, .string ⟨#[48]⟩, .string ⟨#[49]⟩] 53)
  have HE : Hid (NumTold w (w.alloc (.cells #[.bool false, .string ⟨#[48]⟩, .string ⟨#[49]⟩] 53)) (.returned (.agg #[.bool false, .string ⟨#[48]⟩, .string ⟨#[49]⟩])) 0 1) := ⟨by rw [show rB 0 = false from rfl, show rS 0 = str (dec 0) from rfl, dec0, dec1], B0.below⟩
  go_enter Tryz.func68, Tryz.ntmps68
  go_wp2
  exact bodyPost_ret (v := .agg #[.bool false, .string ⟨#[48]⟩, .string ⟨#[49]⟩]) (by simp [results, Tryz.results68, go_sem]) rfl HE.out
set_option maxHeartbeats 1600000 in
set_option maxRecDepth 100000 in
theorem r3Whole_any (Z : Int) (w : World) : Calls Tryz.prog 73 #[.agg #[.bool (rB Z), .string (rS Z)]] w fun e w' => NumTold w w' e Z 1 := by
  have B0 := ((Bag.start w).alloc (.cells #[.bool (rB Z), .string (rS Z)] 116)).alloc (.cells #[.bool (rB Z), .string (rS Z), .string ⟨#[49]⟩] 53)
  have HE : Hid (NumTold w ((w.alloc (.cells #[.bool (rB Z), .string (rS Z)] 116)).alloc (.cells #[.bool (rB Z), .string (rS Z), .string ⟨#[49]⟩] 53)) (.returned (.agg #[.bool (rB Z), .string (rS Z), .string ⟨#[49]⟩])) Z 1) := ⟨by rw [dec1], B0.below⟩
  generalize rB Z = b at *
  generalize rS Z = s at *
  clear B0
  go_enter Tryz.func73, Tryz.ntmps73
  go_wp2
  exact bodyPost_ret (v := .agg #[.bool b, .string s, .string ⟨#[49]⟩]) (by simp [results, Tryz.results73, go_sem]) rfl HE.out
set_option maxHeartbeats 1600000 in
set_option maxRecDepth 100000 in
theorem r3Top_any (P : Int) (t : ByteArray) (w : World) (hl : dl P.natAbs ≤ 10000000) : Calls Tryz.prog 72 #[.agg #[.bool (rB P), .string (rS P), .string t]] w fun e w' => RTold w w' e P := by
  have B0 := ((Bag.start w).box3 (.bool (rB P)) (.string (rS P)) (.string t) 53).box2 (.bool false) (.string ⟨#[]⟩) 116
  simp only [World.size_alloc] at B0
  have OF : Hid (∀ wz, Calls Tryz.prog 129 #[.bool (rB P), .string (rS P)] wz fun e w' => RTold wz w' e P) := by
    intro wz
    have h1 := rOf_dec (rB P) P.natAbs wz hl
    rw [show sgn (rB P) P.natAbs = P from sgn_self P] at h1
    exact h1
  have BB := Lib.hid B0
  have HF := Lib.hid (fun w2 b s (hb : Below w.heap.size w w2) (h1 : rB P = b) (h2 : rS P = s) => RTold.fin (Y := P) hb (show w.heap.size ≤ w.heap.size + 1 by omega) h1 h2)
  obtain ⟨b, hb⟩ : ∃ b, rB P = b := ⟨_, rfl⟩
  obtain ⟨s, hs⟩ : ∃ s, rS P = s := ⟨_, rfl⟩
  have HB := Lib.hid hb
  have HS2 := Lib.hid hs
  unfold RTold at OF
  rw [hb, hs] at OF BB
  rw [hb, hs]
  clear B0 hl hb hs
  go_enter Tryz.func72, Tryz.ntmps72
  go_wp2_with fail
  go_at_call 129
  (with_reducible refine (OF.out _).mono ?_)
  rintro e w2 ⟨rfl, hb2⟩
  have BB := Lib.hid (BB.out.go hb2)
  have hs2 := BB.out.now.1
  have hc1 := hs2.cell
  have hc2 := hs2.cell1
  have hf1 := hs2.free
  have hf2 := hs2.free1
  have HS := hs2.set (.bool b) (.string s)
  have HE := Lib.hid (HF.out w2 b s BB.out.below HB.out HS2.out)
  unfold put2 at HE
  clear hb2 hs2
  go_wp2
  exact bodyPost_ret (v := .agg #[.bool b, .string s]) (by simp [results, Tryz.results72, go_sem, HS]) rfl HE.out
end Go.Proofs.YtnpoakaffafdiaaGreatDoor
namespace Go.Proofs.YtnpoakaffafdiaaGreatDoor
open Go.RowKit
attribute [local go_sem ↓] Go.wp_at_zero Go.wp_at_succ
theorem rB_nat (Q : Nat) : rB (Q : Int) = false := by unfold rB; exact decide_eq_false (by omega)
theorem rS_nat (Q : Nat) : rS (Q : Int) = str (dec Q) := by unfold rS; rw [Int.natAbs_natCast]
set_option maxHeartbeats 1600000 in
set_option maxRecDepth 100000 in
theorem r3Bot_any (b : Bool) (s : ByteArray) (Q : Nat) (w : World) (hl : dl Q ≤ 10000000) : Calls Tryz.prog 132 #[.agg #[.bool b, .string s, .string (str (dec Q))]] w fun e w' => RTold w w' e (Q : Int) := by
  have B0 := ((Bag.start w).box3 (.bool b) (.string s) (.string (str (dec Q))) 53).box2 (.bool false) (.string ⟨#[]⟩) 116
  simp only [World.size_alloc] at B0
  have OF : Hid (∀ wz, Calls Tryz.prog 129 #[.bool false, .string (str (dec Q))] wz fun e w' => RTold wz w' e (Q : Int)) := by
    intro wz
    have h1 := rOf_dec false Q wz hl
    rw [show sgn false Q = (Q : Int) from rfl] at h1
    exact h1
  have BB := Lib.hid B0
  have HF := Lib.hid (fun w2 b s (hb : Below w.heap.size w w2) (h1 : rB (Q : Int) = b) (h2 : rS (Q : Int) = s) => RTold.fin (Y := Q) hb (show w.heap.size ≤ w.heap.size + 1 by omega) h1 h2)
  unfold RTold at OF
  rw [rB_nat, rS_nat] at OF
  rw [rB_nat, rS_nat] at HF
  generalize str (dec Q) = t at *
  clear B0 hl
  go_enter Tryz.func132, Tryz.ntmps132
  go_wp2_with fail
  go_at_call 129
  (with_reducible refine (OF.out _).mono ?_)
  rintro e w2 ⟨rfl, hb2⟩
  have BB := Lib.hid (BB.out.go hb2)
  have hs2 := BB.out.now.1
  have hc1 := hs2.cell
  have hc2 := hs2.cell1
  have hf1 := hs2.free
  have hf2 := hs2.free1
  have HS := hs2.set (.bool false) (.string t)
  have HE := Lib.hid (HF.out w2 false t BB.out.below rfl rfl)
  unfold put2 at HE
  clear hb2 hs2
  go_wp2
  exact bodyPost_ret (v := .agg #[.bool false, .string t]) (by simp [results, Tryz.results132, go_sem, HS]) rfl HE.out
end Go.Proofs.YtnpoakaffafdiaaGreatDoor
namespace Go.Proofs.YtnpoakaffafdiaaGreatDoor
open Go.RowKit
attribute [local go_sem ↓] Go.wp_at_zero Go.wp_at_succ
theorem dec_is1 (N : Nat) : ((str (dec N)).toList == [49]) = decide (N = 1) := dec_eq_digit N 1 (by omega)
theorem dec_is0' (N : Nat) : ((str (dec N)).toList == [48]) = decide (N = 0) := dec_eq_digit N 0 (by omega)
set_option maxHeartbeats 1600000 in
set_option maxRecDepth 100000 in
theorem r3From_any (X : Int) (w : World) (h : -9223372036854775808 ≤ X ∧ X ≤ 9223372036854775807) : Calls Tryz.prog 64 #[.int .i64 X] w fun e w' => NumTold w w' e X 1 := by
  have FR := Lib.hid (fun wz => rFrom_any X wz h)
  unfold RTold at FR
  have BB := Lib.hid ((Bag.start w).box3 (.bool false) (.string ⟨#[]⟩) (.string ⟨#[]⟩) 53)
  have HF := Lib.hid (fun w2 b x y (hb : Below w.heap.size w w2) (h1 : rB X = b) (h2 : rS X = x) (h3 : str (dec 1) = y) => NumTold.done (k := w.heap.size) X 1 hb (Nat.le_refl _) h1 h2 h3)
  obtain ⟨b, hb⟩ : ∃ b, rB X = b := ⟨_, rfl⟩
  obtain ⟨s, hs⟩ : ∃ s, rS X = s := ⟨_, rfl⟩
  have HB := Lib.hid hb
  have HS2 := Lib.hid hs
  rw [hb, hs] at FR
  clear hb hs h
  go_enter Tryz.func64, Tryz.ntmps64
  go_wp2_with fail
  go_at_call 120
  (with_reducible refine (FR.out _).mono ?_)
  rintro e w2 ⟨rfl, hb2⟩
  have BB := Lib.hid ((BB.out.go hb2).box2 (.bool b) (.string s) 116)
  have q0 := BB.out.now.1.cell
  have q1 := BB.out.now.1.cell1
  have hs := BB.out.now.2.1
  have u0 := hs.cell
  have u1 := hs.cell1
  have u2 := hs.cell2
  have g0 := hs.free
  have g1 := hs.free1
  have g2 := hs.free2
  have HS := hs.set (.bool b) (.string s) (.string ⟨#[49]⟩)
  have HE := Lib.hid (HF.out _ b s ⟨#[49]⟩ BB.out.below HB.out HS2.out dec1)
  clear hs hb2
  go_wp2
  exact bodyPost_ret (v := .agg #[.bool b, .string s, .string ⟨#[49]⟩]) (by simp [results, Tryz.results64, go_sem, HS]) rfl HE.out
set_option maxHeartbeats 1600000 in
set_option maxRecDepth 100000 in
theorem r3Minus_any (P : Int) (Q : Nat) (w : World) : Calls Tryz.prog 70 #[.agg #[.bool (rB P), .string (rS P), .string (str (dec Q))]] w fun e w' => NumTold w w' e (-P) Q := by
  have h2 := rS_is0 P
  have BB := Lib.hid (((Bag.start w).box3 (.bool (rB P)) (.string (rS P)) (.string (str (dec Q))) 53).box3 (.bool false) (.string ⟨#[]⟩) (.string ⟨#[]⟩) 53)
  simp only [World.size_alloc] at BB
  have hn : rB (-P) = (!rB P && !decide (P = 0)) := by
    unfold rB
    by_cases e1 : P < 0
    · rw [decide_eq_false (by omega), decide_eq_true e1]; rfl
    · rw [decide_eq_false e1]
      by_cases e2 : P = 0
      · rw [decide_eq_false (by omega), decide_eq_true e2]; rfl
      · rw [decide_eq_true (by omega), decide_eq_false e2]; rfl
  have hs : rS (-P) = rS P := by unfold rS; rw [Int.natAbs_neg]
  have HF2 := Lib.hid (fun V (hv : (!rB P && !decide (P = 0)) = V) => (show NumTold w ((w.alloc (.cells #[.bool V, .string (rS P), .string (str (dec Q))] 53)).alloc (.cells #[.bool V, .string (rS P), .string (str (dec Q))] 53)) (.returned (.agg #[.bool V, .string (rS P), .string (str (dec Q))])) (-P) Q from
    ⟨by rw [hn, hs, hv], ((Bag.start w).alloc _).alloc _ |>.below⟩))
  generalize rS P = s at *
  generalize str (dec Q) = t at *
  generalize rB P = b at *
  generalize decide (P = 0) = z at *
  have q0 := BB.out.now.2.1.cell
  have q1 := BB.out.now.2.1.cell1
  have q2 := BB.out.now.2.1.cell2
  clear hn hs
  cases b <;> cases z
  all_goals
    go_enter Tryz.func70, Tryz.ntmps70
    go_wp2
    first
      | exact bodyPost_ret (v := .agg #[.bool true, .string s, .string t]) (by simp [results, Tryz.results70, go_sem]) rfl (HF2.out true rfl)
      | exact bodyPost_ret (v := .agg #[.bool false, .string s, .string t]) (by simp [results, Tryz.results70, go_sem]) rfl (HF2.out false rfl)
set_option maxHeartbeats 1600000 in
set_option maxRecDepth 100000 in
theorem r3Limbs_any (b : Bool) (P : Int) (Q E : Nat) (w : World) (hl : dl P.natAbs ≤ 1000) (hl2 : dl Q ≤ 1000) (hE : E ≤ 200) (h1 : P.natAbs < 65536 ^ E) (h2 : Q < 65536 ^ E) :
    Calls Tryz.prog 128 #[.agg #[.bool b, .string (rS P), .string (str (dec Q))]] w fun e w' => e = .returned (.int .i64 (max ((nbits P.natAbs + 31) / 32 : Nat) ((nbits Q + 31) / 32 : Nat) : Nat)) ∧ Below w.heap.size w w' := by
  have L1 := Lib.hid (fun wz => rlimbs_any P.natAbs E wz hl hE h1)
  have L2 := Lib.hid (fun wz => rlimbs_any Q E wz hl2 hE h2)
  have BB := Lib.hid ((Bag.start w).box3 (.bool b) (.string (rS P)) (.string (str (dec Q))) 53)
  unfold rS at *
  generalize str (dec P.natAbs) = s at *
  generalize str (dec Q) = t at *
  generalize (nbits P.natAbs + 31) / 32 = x at *
  generalize (nbits Q + 31) / 32 = y at *
  have q0 := BB.out.now.1.cell
  have q1 := BB.out.now.1.cell1
  have q2 := BB.out.now.1.cell2
  clear hl hl2 hE h1 h2
  by_cases hxy : y < x
  · have hxy2 : (y : Int) < (x : Int) := by omega
    rw [show max x y = x by omega]
    go_enter Tryz.func128, Tryz.ntmps128
    go_wp2_with fail
    have BB := Lib.hid BB.out.drew
    go_region_held3 (fun y => y.cell? ⟨w.heap.size, 0, none⟩ = some (.bool b) ∧ y.cell? ⟨w.heap.size, 1, none⟩ = some (.string s) ∧ y.cell? ⟨w.heap.size, 2, none⟩ = some (.string t))
      (exact ⟨BB.out.now.1.cell, BB.out.now.1.cell1, BB.out.now.1.cell2⟩)
      (first
        | (go_at_call 135; (with_reducible refine (L1.out _).mono ?_); rintro e w2 ⟨rfl, hb2⟩; have BB := Lib.hid (BB.out.go hb2))
        | (go_at_call 135; (with_reducible refine (L2.out _).mono ?_); rintro e w3 ⟨rfl, hb3⟩; have BB := Lib.hid (BB.out.go hb3)))
    go_wp2
    go_ret
    exact ⟨rfl, BB.out.below⟩
  · have hxy2 : ¬ (y : Int) < (x : Int) := by omega
    rw [show max x y = y by omega]
    go_enter Tryz.func128, Tryz.ntmps128
    go_wp2_with fail
    have BB := Lib.hid BB.out.drew
    go_region_held3 (fun y => y.cell? ⟨w.heap.size, 0, none⟩ = some (.bool b) ∧ y.cell? ⟨w.heap.size, 1, none⟩ = some (.string s) ∧ y.cell? ⟨w.heap.size, 2, none⟩ = some (.string t))
      (exact ⟨BB.out.now.1.cell, BB.out.now.1.cell1, BB.out.now.1.cell2⟩)
      (first
        | (go_at_call 135; (with_reducible refine (L1.out _).mono ?_); rintro e w2 ⟨rfl, hb2⟩; have BB := Lib.hid (BB.out.go hb2))
        | (go_at_call 135; (with_reducible refine (L2.out _).mono ?_); rintro e w3 ⟨rfl, hb3⟩; have BB := Lib.hid (BB.out.go hb3)))
    go_wp2
    go_ret
    exact ⟨rfl, BB.out.below⟩
end Go.Proofs.YtnpoakaffafdiaaGreatDoor
namespace Go.Proofs.YtnpoakaffafdiaaGreatDoor
open Go.RowKit
attribute [local go_sem ↓] Go.wp_at_zero Go.wp_at_succ
end Go.Proofs.YtnpoakaffafdiaaGreatDoor

namespace Go.Proofs.YtnpoakaffafdiaaGreatDoor
open Go.RowKit
attribute [local go_sem ↓] Go.wp_at_zero Go.wp_at_succ
theorem RX.lt {w : World} {k : Nat} (h : RX w k) : k < w.heap.size := by
  obtain ⟨x, z, h1⟩ := h; exact h1.lt
/-- What Floor keeps: its two numbers' blocks and the answers'. -/
def RF (k : Nat) (b : Bool) (s : ByteArray) (b2 : Bool) (s2 : ByteArray) (y : World) : Prop := RX y (k + 1 + 1) ∧ RX y (k + 1 + 1 + 1) ∧ Slot2 y (k + 1) (.bool b2) (.string s2) ∧ Slot2 y k (.bool b) (.string s)
theorem RF.stay {k : Nat} {b : Bool} {s : ByteArray} {b2 : Bool} {s2 : ByteArray} : ∀ x y, Below x.heap.size x y → RF k b s b2 s2 x → RF k b s b2 s2 y := fun _ _ hb h => ⟨h.1.below hb, h.2.1.below hb, h.2.2.1.below hb, h.2.2.2.below hb⟩
theorem RF.start (w : World) (b : Bool) (s : ByteArray) (b2 : Bool) (s2 : ByteArray) : Bag w (RF w.heap.size b s b2 s2) ((((w.alloc (.cells #[.bool b, .string s] 116)).alloc (.cells #[.bool b2, .string s2] 116)).alloc (.cells #[.bool false, .string ⟨#[]⟩] 116)).alloc (.cells #[.bool false, .string ⟨#[]⟩] 116)) := by
  have B0 := ((((Bag.start w).box2 (.bool b) (.string s) 116).box2 (.bool b2) (.string s2) 116).box2 (.bool false) (.string ⟨#[]⟩) 116).box2 (.bool false) (.string ⟨#[]⟩) 116
  simp only [World.size_alloc] at B0
  exact ⟨B0.below, RF.stay, ⟨_, _, B0.now.2.1⟩, ⟨_, _, B0.now.1⟩, B0.now.2.2.1, B0.now.2.2.2.1⟩
theorem RF.put2 {k j : Nat} {b : Bool} {s : ByteArray} {b2 : Bool} {s2 : ByteArray} {y : World} (h : RF k b s b2 s2 y) (h1 : k ≠ j) (h2 : k + 1 ≠ j) (u v : Value) : RF k b s b2 s2 (put2 y j u v) := ⟨h.1.put2 u v, h.2.1.put2 u v, h.2.2.1.put2o h2 u v, h.2.2.2.put2o h1 u v⟩
def RFloor (w w' : World) (e : Ending) (Q R : Int) : Prop := e = .returned (.tuple #[.agg #[.bool (rB Q), .string (rS Q)], .agg #[.bool (rB R), .string (rS R)]]) ∧ Below w.heap.size w w'
/-- Quotient and rest out of the sizes. -/
theorem fl_times {Z Y : Int} (hY : Y ≠ 0) : Z = flQ Z Y * Y + flR Z Y := by
  obtain ⟨q, hq⟩ : ∃ q, Z.natAbs / Y.natAbs = q := ⟨_, rfl⟩
  obtain ⟨r, hr⟩ : ∃ r, Z.natAbs % Y.natAbs = r := ⟨_, rfl⟩
  have e := Nat.div_add_mod Z.natAbs Y.natAbs
  have hrl : r < Y.natAbs := by rw [← hr]; exact Nat.mod_lt _ (by omega)
  rw [hq, hr] at e
  unfold flQ flR flU flA
  rw [hq, hr]
  by_cases hz : Z < 0
  · obtain ⟨z, rfl⟩ : ∃ z : Nat, Z = -(z : Int) := ⟨Z.natAbs, by omega⟩
    by_cases hy : Y < 0
    · obtain ⟨y, rfl⟩ : ∃ y : Nat, Y = -(y : Int) := ⟨Y.natAbs, by omega⟩
      rw [decide_eq_true hz, decide_eq_true hy]
      simp only [Int.natAbs_neg, Int.natAbs_natCast] at e
      have e' : (y : Int) * (q : Int) + (r : Int) = (z : Int) := by exact_mod_cast e
      simp [sgn]
      rw [Int.mul_neg, Int.mul_comm (q : Int)]; omega
    · obtain ⟨y, rfl⟩ : ∃ y : Nat, Y = (y : Int) := ⟨Y.natAbs, by omega⟩
      rw [decide_eq_true hz, decide_eq_false hy]
      simp at e hrl
      have e' : (y : Int) * (q : Int) + (r : Int) = (z : Int) := by exact_mod_cast e
      by_cases h0 : r = 0
      · subst h0
        simp [sgn]
        rw [Int.neg_mul, Int.mul_comm (q : Int)]; omega
      · simp [sgn, h0]
        rw [Int.neg_mul, Int.add_mul, Int.mul_comm (q : Int)]; omega
  · obtain ⟨z, rfl⟩ : ∃ z : Nat, Z = (z : Int) := ⟨Z.natAbs, by omega⟩
    by_cases hy : Y < 0
    · obtain ⟨y, rfl⟩ : ∃ y : Nat, Y = -(y : Int) := ⟨Y.natAbs, by omega⟩
      rw [decide_eq_false hz, decide_eq_true hy]
      simp at e hrl
      have e' : (y : Int) * (q : Int) + (r : Int) = (z : Int) := by exact_mod_cast e
      by_cases h0 : r = 0
      · subst h0
        simp [sgn]
        rw [Int.neg_mul_neg, Int.mul_comm (q : Int)]; omega
      · simp [sgn, h0]
        rw [Int.neg_mul_neg, Int.add_mul, Int.mul_comm (q : Int)]; omega
    · obtain ⟨y, rfl⟩ : ∃ y : Nat, Y = (y : Int) := ⟨Y.natAbs, by omega⟩
      rw [decide_eq_false hz, decide_eq_false hy]
      simp [sgn] at e ⊢
      have e' : (y : Int) * (q : Int) + (r : Int) = (z : Int) := by exact_mod_cast e
      rw [Int.mul_comm (q : Int)]; omega
theorem flA_rB (Z Y : Int) : flA Z Y = (rB Z != rB Y) := rfl
theorem rB_of_nonneg {Z : Int} (h : 0 ≤ Z) : rB Z = false := decide_eq_false (by omega)
set_option maxHeartbeats 3200000 in
set_option maxRecDepth 100000 in
theorem rFloor_same (Z Y : Int) (w : World) (hl : dl Z.natAbs ≤ 400) (hl2 : dl Y.natAbs ≤ 400) (hY : Y ≠ 0) (hs : rB Z = rB Y) :
    Calls Tryz.prog 131 #[.agg #[.bool (rB Z), .string (rS Z)], .agg #[.bool (rB Y), .string (rS Y)]] w fun e w' => RFloor w w' e (flQ Z Y) (flR Z Y) := by
  have ha : flA Z Y = false := by rw [flA_rB, hs]; cases rB Y <;> rfl
  have hqe : flQ Z Y = ((Z.natAbs / Y.natAbs : Nat) : Int) := by unfold flQ flU; rw [ha]; simp [sgn]
  have hqd : dl (flQ Z Y).natAbs ≤ 400 := by rw [hqe, Int.natAbs_natCast]; exact Nat.le_trans (dl_mono (Nat.div_le_self _ _)) hl
  have hqb : rB (flQ Z Y) = false := rB_of_nonneg (by rw [hqe]; exact Int.natCast_nonneg _)
  have hqs : rS (flQ Z Y) = str (dec (Z.natAbs / Y.natAbs)) := by unfold rS; rw [hqe, Int.natAbs_natCast]
  have hpd : dl (flQ Z Y * Y).natAbs ≤ 800 := by rw [Int.natAbs_mul]; exact dl_mul_le hqd hl2
  have hR : Z + -(flQ Z Y * Y) = flR Z Y := by have := fl_times (Z := Z) hY; omega
  have DM : Hid (∀ wz, Calls Tryz.prog 150 #[.string (rS Z), .string (rS Y)] wz fun e w' => e = .returned (.tuple #[.string (str (dec (Z.natAbs / Y.natAbs))), .string (str (dec (Z.natAbs % Y.natAbs)))]) ∧ Below wz.heap.size wz w') := fun wz => rdivMod_any _ _ wz (by omega) (by omega) (by omega)
  have OF : Hid (∀ wz, Calls Tryz.prog 129 #[.bool false, .string (str (dec (Z.natAbs / Y.natAbs)))] wz fun e w' => RTold wz w' e (flQ Z Y)) := by
    intro wz
    have h1 := rOf_dec false (Z.natAbs / Y.natAbs) wz (Nat.le_trans (dl_mono (Nat.div_le_self _ _)) (by omega))
    rw [show sgn false (Z.natAbs / Y.natAbs) = flQ Z Y from by rw [hqe]; rfl] at h1
    exact h1
  have MU : Hid (∀ wz, Calls Tryz.prog 165 #[.agg #[.bool (rB (flQ Z Y)), .string (rS (flQ Z Y))], .agg #[.bool (rB Y), .string (rS Y)]] wz fun e w' => RTold wz w' e (flQ Z Y * Y)) := fun wz => rMul_any _ _ wz (by omega) (by omega)
  have MI : Hid (∀ wz, Calls Tryz.prog 130 #[.agg #[.bool (rB (flQ Z Y * Y)), .string (rS (flQ Z Y * Y))]] wz fun e w' => RTold wz w' e (-(flQ Z Y * Y))) := fun wz => rMinus_any _ wz (by omega)
  have AD : Hid (∀ wz, Calls Tryz.prog 166 #[.agg #[.bool (rB Z), .string (rS Z)], .agg #[.bool (rB (-(flQ Z Y * Y))), .string (rS (-(flQ Z Y * Y)))]] wz fun e w' => RTold wz w' e (flR Z Y)) := by
    intro wz
    have h1 := rAdd_any Z (-(flQ Z Y * Y)) wz (by omega) (by rw [Int.natAbs_neg]; omega)
    rw [hR] at h1; exact h1
  unfold RTold at OF MU MI AD
  rw [hqb] at OF MU
  rw [← hqs] at OF DM
  have hb : rB Z = rB Y := hs
  obtain ⟨b, hbe⟩ : ∃ b, rB Y = b := ⟨_, rfl⟩
  rw [hbe] at hb MU ⊢
  rw [hb] at AD ⊢
  obtain ⟨sq, hsq⟩ : ∃ sq, rS (flQ Z Y) = sq := ⟨_, rfl⟩
  obtain ⟨R, hRe⟩ : ∃ R, flR Z Y = R := ⟨_, rfl⟩
  obtain ⟨V, hV⟩ : ∃ V, flQ Z Y * Y = V := ⟨_, rfl⟩
  have HQ : Hid (Ending.returned (.tuple #[.agg #[.bool false, .string sq], .agg #[.bool (rB R), .string (rS R)]]) = .returned (.tuple #[.agg #[.bool (rB (flQ Z Y)), .string (rS (flQ Z Y))], .agg #[.bool (rB (flR Z Y)), .string (rS (flR Z Y))]])) := Lib.hid (by rw [hqb, hsq, hRe])
  rw [hsq] at OF DM MU
  rw [hRe] at AD
  rw [hV] at MU MI AD
  obtain ⟨s, hse⟩ : ∃ s, rS Z = s := ⟨_, rfl⟩
  obtain ⟨s2, hse2⟩ : ∃ s2, rS Y = s2 := ⟨_, rfl⟩
  rw [hse] at DM AD ⊢
  rw [hse2] at DM MU ⊢
  obtain ⟨b2, hb2e⟩ : ∃ b2, b = b2 := ⟨_, rfl⟩
  have BB := Lib.hid (RF.start w b s b s2)
  have q0 := BB.out.now.2.2.2.cell
  have q1 := BB.out.now.2.2.2.cell1
  have q2 := BB.out.now.2.2.1.cell
  have q3 := BB.out.now.2.2.1.cell1
  clear hl hl2 hY hs ha hqe hqd hqb hqs hpd hR hb hbe hsq hRe hV hse hse2 hb2e b2
  cases b
  · go_enter Tryz.func131, Tryz.ntmps131
    go_wp2_with (first
      | (go_at_call 150; (with_reducible refine (DM.out _).mono ?_); rintro e w2 ⟨rfl, hb2⟩; have BB := Lib.hid (BB.out.go hb2); have q0 := BB.out.now.2.2.2.cell; have q1 := BB.out.now.2.2.2.cell1; have q2 := BB.out.now.2.2.1.cell; have q3 := BB.out.now.2.2.1.cell1; clear hb2)
      | (go_at_call 129; (with_reducible refine (OF.out _).mono ?_); rintro e w3 ⟨rfl, hb3⟩; have hk3 : w.heap.size + 1 + 1 + 1 < w3.heap.size := RX.lt (BB.out.go hb3).now.2.1; have BB := Lib.hid ((BB.out.go hb3).box2 (.bool false) (.string sq) 116); have q0 := BB.out.now.2.2.2.2.cell; have q1 := BB.out.now.2.2.2.2.cell1; have q2 := BB.out.now.2.2.2.1.cell; have q3 := BB.out.now.2.2.2.1.cell1; have q4 := BB.out.now.1.cell; have q5 := BB.out.now.1.cell1; clear hb3))
    go_region_held3 (fun y => (y.cell? ⟨w.heap.size, 0, none⟩ = some (.bool false) ∧ y.cell? ⟨w.heap.size, 1, none⟩ = some (.string s) ∧ y.cell? ⟨w.heap.size + 1, 0, none⟩ = some (.bool false) ∧ y.cell? ⟨w.heap.size + 1, 1, none⟩ = some (.string s2) ∧ y.cell? ⟨w3.heap.size, 0, none⟩ = some (.bool false) ∧ y.cell? ⟨w3.heap.size, 1, none⟩ = some (.string sq)) ∧ Bag w (fun y => Slot2 y w3.heap.size (.bool false) (.string sq) ∧ RF w.heap.size false s false s2 y) y)
      (first
        | (have B9 := BB.out.drew; exact ⟨⟨B9.now.2.2.2.2.cell, B9.now.2.2.2.2.cell1, B9.now.2.2.2.1.cell, B9.now.2.2.2.1.cell1, B9.now.1.cell, B9.now.1.cell1⟩, B9⟩)
        | (have B9 := Bag.go (show Bag w (fun y => Slot2 y w3.heap.size (.bool false) (.string sq) ∧ RF w.heap.size false s false s2 y) _ from by go_split_ands; assumption) hb2; exact ⟨⟨B9.now.2.2.2.2.cell, B9.now.2.2.2.2.cell1, B9.now.2.2.2.1.cell, B9.now.2.2.2.1.cell1, B9.now.1.cell, B9.now.1.cell1⟩, B9⟩)
        | (have B9 := Bag.put2 (show Bag w (fun y => Slot2 y w3.heap.size (.bool false) (.string sq) ∧ RF w.heap.size false s false s2 y) _ from by go_split_ands; assumption) (k := w.heap.size + 1 + 1) (u := .bool false) (v := .string sq) (by omega) (fun h => ⟨h.1.put2o (by omega) _ _, h.2.put2 (by omega) (by omega) _ _⟩); exact ⟨⟨B9.now.2.2.2.2.cell, B9.now.2.2.2.2.cell1, B9.now.2.2.2.1.cell, B9.now.2.2.2.1.cell1, B9.now.1.cell, B9.now.1.cell1⟩, B9⟩)
        | (have B9 := Bag.put2 (show Bag w (fun y => Slot2 y w3.heap.size (.bool false) (.string sq) ∧ RF w.heap.size false s false s2 y) _ from by go_split_ands; assumption) (k := w.heap.size + 1 + 1 + 1) (u := .bool (rB R)) (v := .string (rS R)) (by omega) (fun h => ⟨h.1.put2o (by omega) _ _, h.2.put2 (by omega) (by omega) _ _⟩); exact ⟨⟨B9.now.2.2.2.2.cell, B9.now.2.2.2.2.cell1, B9.now.2.2.2.1.cell, B9.now.2.2.2.1.cell1, B9.now.1.cell, B9.now.1.cell1⟩, B9⟩))
      (first
        | (go_at_call 165; (with_reducible refine (MU.out _).mono ?_); rintro e w2 ⟨rfl, hb2⟩)
        | (go_at_call 130; (with_reducible refine (MI.out _).mono ?_); rintro e w2 ⟨rfl, hb2⟩)
        | (go_at_call 166; (with_reducible refine (AD.out _).mono ?_); rintro e w2 ⟨rfl, hb2⟩;
            have B7 := Bag.go (show Bag w (fun y => Slot2 y w3.heap.size (.bool false) (.string sq) ∧ RF w.heap.size false s false s2 y) _ from by go_split_ands; assumption) hb2;
            obtain ⟨x8, z8, hs8⟩ := B7.now.2.1;
            obtain ⟨x9, z9, hs9⟩ := B7.now.2.2.1;
            have hc1 := hs8.cell; have hc2 := hs8.cell1; have hc3 := hs9.cell; have hc4 := hs9.cell1; have hf1 := hs8.free; have hf2 := hs8.free1; have hf3 := hs9.free; have hf4 := hs9.free1;
            have HA := (hs8.put2s (.bool false) (.string sq)).put2o (show w.heap.size + 1 + 1 ≠ w.heap.size + 1 + 1 + 1 by omega) (.bool (rB R)) (.string (rS R));
            have HB := (hs9.put2o (show w.heap.size + 1 + 1 + 1 ≠ w.heap.size + 1 + 1 by omega) (.bool false) (.string sq)).put2s (.bool (rB R)) (.string (rS R));
            have e1 := HA.cell; have e2 := HA.cell1; have e3 := HB.cell; have e4 := HB.cell1;
            have HE : Hid (RFloor w (put2 (put2 w2 (w.heap.size + 1 + 1) (.bool false) (.string sq)) (w.heap.size + 1 + 1 + 1) (.bool (rB R)) (.string (rS R))) (.returned (.tuple #[.agg #[.bool false, .string sq], .agg #[.bool (rB R), .string (rS R)]])) (flQ Z Y) (flR Z Y)) := ⟨HQ.out, (((B7.below.setCell (show w.heap.size ≤ w.heap.size + 1 + 1 by omega) _).setCell (show w.heap.size ≤ w.heap.size + 1 + 1 by omega) _).setCell (show w.heap.size ≤ w.heap.size + 1 + 1 + 1 by omega) _).setCell (show w.heap.size ≤ w.heap.size + 1 + 1 + 1 by omega) _⟩;
            unfold put2 at HE e1 e2 e3 e4; clear hs8 hs9 HA HB B7))
    all_goals
      go_wp2
      exact bodyPost_ret (v := .tuple #[.agg #[.bool false, .string sq], .agg #[.bool (rB R), .string (rS R)]]) (by simp [results, Tryz.results131, go_sem, e1, e2, e3, e4]) rfl HE.out
  · go_enter Tryz.func131, Tryz.ntmps131
    go_wp2_with (first
      | (go_at_call 150; (with_reducible refine (DM.out _).mono ?_); rintro e w2 ⟨rfl, hb2⟩; have BB := Lib.hid (BB.out.go hb2); have q0 := BB.out.now.2.2.2.cell; have q1 := BB.out.now.2.2.2.cell1; have q2 := BB.out.now.2.2.1.cell; have q3 := BB.out.now.2.2.1.cell1; clear hb2)
      | (go_at_call 129; (with_reducible refine (OF.out _).mono ?_); rintro e w3 ⟨rfl, hb3⟩; have hk3 : w.heap.size + 1 + 1 + 1 < w3.heap.size := RX.lt (BB.out.go hb3).now.2.1; have BB := Lib.hid ((BB.out.go hb3).box2 (.bool false) (.string sq) 116); have q0 := BB.out.now.2.2.2.2.cell; have q1 := BB.out.now.2.2.2.2.cell1; have q2 := BB.out.now.2.2.2.1.cell; have q3 := BB.out.now.2.2.2.1.cell1; have q4 := BB.out.now.1.cell; have q5 := BB.out.now.1.cell1; clear hb3))
    go_region_held3 (fun y => (y.cell? ⟨w.heap.size, 0, none⟩ = some (.bool true) ∧ y.cell? ⟨w.heap.size, 1, none⟩ = some (.string s) ∧ y.cell? ⟨w.heap.size + 1, 0, none⟩ = some (.bool true) ∧ y.cell? ⟨w.heap.size + 1, 1, none⟩ = some (.string s2) ∧ y.cell? ⟨w3.heap.size, 0, none⟩ = some (.bool false) ∧ y.cell? ⟨w3.heap.size, 1, none⟩ = some (.string sq)) ∧ Bag w (fun y => Slot2 y w3.heap.size (.bool false) (.string sq) ∧ RF w.heap.size true s true s2 y) y)
      (first
        | (have B9 := BB.out.drew; exact ⟨⟨B9.now.2.2.2.2.cell, B9.now.2.2.2.2.cell1, B9.now.2.2.2.1.cell, B9.now.2.2.2.1.cell1, B9.now.1.cell, B9.now.1.cell1⟩, B9⟩)
        | (have B9 := Bag.go (show Bag w (fun y => Slot2 y w3.heap.size (.bool false) (.string sq) ∧ RF w.heap.size true s true s2 y) _ from by go_split_ands; assumption) hb2; exact ⟨⟨B9.now.2.2.2.2.cell, B9.now.2.2.2.2.cell1, B9.now.2.2.2.1.cell, B9.now.2.2.2.1.cell1, B9.now.1.cell, B9.now.1.cell1⟩, B9⟩)
        | (have B9 := Bag.put2 (show Bag w (fun y => Slot2 y w3.heap.size (.bool false) (.string sq) ∧ RF w.heap.size true s true s2 y) _ from by go_split_ands; assumption) (k := w.heap.size + 1 + 1) (u := .bool false) (v := .string sq) (by omega) (fun h => ⟨h.1.put2o (by omega) _ _, h.2.put2 (by omega) (by omega) _ _⟩); exact ⟨⟨B9.now.2.2.2.2.cell, B9.now.2.2.2.2.cell1, B9.now.2.2.2.1.cell, B9.now.2.2.2.1.cell1, B9.now.1.cell, B9.now.1.cell1⟩, B9⟩)
        | (have B9 := Bag.put2 (show Bag w (fun y => Slot2 y w3.heap.size (.bool false) (.string sq) ∧ RF w.heap.size true s true s2 y) _ from by go_split_ands; assumption) (k := w.heap.size + 1 + 1 + 1) (u := .bool (rB R)) (v := .string (rS R)) (by omega) (fun h => ⟨h.1.put2o (by omega) _ _, h.2.put2 (by omega) (by omega) _ _⟩); exact ⟨⟨B9.now.2.2.2.2.cell, B9.now.2.2.2.2.cell1, B9.now.2.2.2.1.cell, B9.now.2.2.2.1.cell1, B9.now.1.cell, B9.now.1.cell1⟩, B9⟩))
      (first
        | (go_at_call 165; (with_reducible refine (MU.out _).mono ?_); rintro e w2 ⟨rfl, hb2⟩)
        | (go_at_call 130; (with_reducible refine (MI.out _).mono ?_); rintro e w2 ⟨rfl, hb2⟩)
        | (go_at_call 166; (with_reducible refine (AD.out _).mono ?_); rintro e w2 ⟨rfl, hb2⟩;
            have B7 := Bag.go (show Bag w (fun y => Slot2 y w3.heap.size (.bool false) (.string sq) ∧ RF w.heap.size true s true s2 y) _ from by go_split_ands; assumption) hb2;
            obtain ⟨x8, z8, hs8⟩ := B7.now.2.1;
            obtain ⟨x9, z9, hs9⟩ := B7.now.2.2.1;
            have hc1 := hs8.cell; have hc2 := hs8.cell1; have hc3 := hs9.cell; have hc4 := hs9.cell1; have hf1 := hs8.free; have hf2 := hs8.free1; have hf3 := hs9.free; have hf4 := hs9.free1;
            have HA := (hs8.put2s (.bool false) (.string sq)).put2o (show w.heap.size + 1 + 1 ≠ w.heap.size + 1 + 1 + 1 by omega) (.bool (rB R)) (.string (rS R));
            have HB := (hs9.put2o (show w.heap.size + 1 + 1 + 1 ≠ w.heap.size + 1 + 1 by omega) (.bool false) (.string sq)).put2s (.bool (rB R)) (.string (rS R));
            have e1 := HA.cell; have e2 := HA.cell1; have e3 := HB.cell; have e4 := HB.cell1;
            have HE : Hid (RFloor w (put2 (put2 w2 (w.heap.size + 1 + 1) (.bool false) (.string sq)) (w.heap.size + 1 + 1 + 1) (.bool (rB R)) (.string (rS R))) (.returned (.tuple #[.agg #[.bool false, .string sq], .agg #[.bool (rB R), .string (rS R)]])) (flQ Z Y) (flR Z Y)) := ⟨HQ.out, (((B7.below.setCell (show w.heap.size ≤ w.heap.size + 1 + 1 by omega) _).setCell (show w.heap.size ≤ w.heap.size + 1 + 1 by omega) _).setCell (show w.heap.size ≤ w.heap.size + 1 + 1 + 1 by omega) _).setCell (show w.heap.size ≤ w.heap.size + 1 + 1 + 1 by omega) _⟩;
            unfold put2 at HE e1 e2 e3 e4; clear hs8 hs9 HA HB B7))
    all_goals
      go_wp2
      exact bodyPost_ret (v := .tuple #[.agg #[.bool false, .string sq], .agg #[.bool (rB R), .string (rS R)]]) (by simp [results, Tryz.results131, go_sem, e1, e2, e3, e4]) rfl HE.out
end Go.Proofs.YtnpoakaffafdiaaGreatDoor
