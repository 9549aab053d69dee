/-
  Package ratio: what a number in memory is; Whole, Top, IsWhole, Bot, below, Sign, by contract.
-/
import Derived.Test.YtocifhahfeajiaaGreatDoorRat0
import Derived.Test.YtocifhahfeajiaaGreatDoorK6
namespace Go.Proofs.YtocifhahfeajiaaGreatDoor
open Go.RowKit
attribute [local go_sem ↓] Go.wp_at_zero Go.wp_at_succ

/-- Three cells of a block. -/
structure Slot3 (w : World) (k : Nat) (x y z : Value) : Prop where
  cell : w.cell? ⟨k, 0, none⟩ = some x
  cell1 : w.cell? ⟨k, 1, none⟩ = some y
  cell2 : w.cell? ⟨k, 2, none⟩ = some z
  free : w.frozen? ⟨k, 0, none⟩ = false
  free1 : w.frozen? ⟨k, 1, none⟩ = false
  free2 : w.frozen? ⟨k, 2, none⟩ = false
  lt : k < w.heap.size
theorem Slot3.below {w w' : World} {k : Nat} {x y z : Value} (h : Slot3 w k x y z) (hb : Below w.heap.size w w') : Slot3 w' k x y z :=
  ⟨(hb.cell (p := ⟨k, 0, none⟩) h.lt).trans h.cell, (hb.cell (p := ⟨k, 1, none⟩) h.lt).trans h.cell1, (hb.cell (p := ⟨k, 2, none⟩) h.lt).trans h.cell2,
    (hb.frozen (p := ⟨k, 0, none⟩) h.lt).trans h.free, (hb.frozen (p := ⟨k, 1, none⟩) h.lt).trans h.free1, (hb.frozen (p := ⟨k, 2, none⟩) h.lt).trans h.free2, Nat.lt_of_lt_of_le h.lt hb.size⟩
theorem Slot3.new (w : World) (x y z : Value) (t : TypeId) : Slot3 (w.alloc (.cells #[x, y, z] t)) w.heap.size x y z := by
  refine ⟨?_, ?_, ?_, World.frozen?_alloc_new _ _ _ _, World.frozen?_alloc_new _ _ _ _, World.frozen?_alloc_new _ _ _ _, by rw [World.size_alloc]; omega⟩
  · rw [World.cell?_alloc_new]; rfl
  · rw [World.cell?_alloc_new]; rfl
  · rw [World.cell?_alloc_new]; rfl
theorem Bag.slot3 {w0 w : World} {P : World → Prop} {k : Nat} {x y z : Value} (h : Bag w0 P w) (q : Slot3 w k x y z) : Bag w0 (fun v => Slot3 v k x y z ∧ P v) w := h.add (fun _ _ hb q => q.below hb) q
theorem Bag.box3 {w0 w : World} {P : World → Prop} (h : Bag w0 P w) (x y z : Value) (t : TypeId) : Bag w0 (fun v => Slot3 v w.heap.size x y z ∧ P v) (w.alloc (.cells #[x, y, z] t)) :=
  (h.alloc _).slot3 (Slot3.new w x y z t)

/-- The denominator as it is kept. -/
def lowN (Q : Nat) : Nat := if Q = 1 then 0 else Q
/-- The fields of a number, read as P by Q. -/
def RatAt (w : World) (a : Option Addr) (n c : Nat) (m : Bool) (a2 : Option Addr) (n2 c2 : Nat) (P : Int) (Q : Nat) : Prop := IntAt w a n c m P ∧ NatIs w (.agg #[.slice a2 n2 c2]) (lowN Q)
theorem RatAt.below {w w' : World} {a : Option Addr} {n c : Nat} {m : Bool} {a2 : Option Addr} {n2 c2 : Nat} {P : Int} {Q : Nat} (h : RatAt w a n c m a2 n2 c2 P Q) (hb : Below w.heap.size w w') : RatAt w' a n c m a2 n2 c2 P Q := ⟨h.1.below hb, h.2.below hb⟩
theorem Bag.rat {w0 w : World} {B : World → Prop} {a : Option Addr} {n c : Nat} {m : Bool} {a2 : Option Addr} {n2 c2 : Nat} {P : Int} {Q : Nat} (h : Bag w0 B w) (q : RatAt w a n c m a2 n2 c2 P Q) : Bag w0 (fun y => RatAt y a n c m a2 n2 c2 P Q ∧ B y) w := h.add (fun _ _ hb q => q.below hb) q
def RatTold (w w' : World) (e : Ending) (P : Int) (Q : Nat) : Prop := ∃ a n c m a2 n2 c2, e = .returned (.agg #[.slice a n c, .bool m, .slice a2 n2 c2]) ∧ RatAt w' a n c m a2 n2 c2 P Q ∧ Below w.heap.size w w'
def IntTold2 (w w' : World) (e : Ending) (a : Option Addr) (n c : Nat) (m : Bool) (Z : Int) : Prop := e = .returned (.agg #[.slice a n c, .bool m]) ∧ IntAt w' a n c m Z ∧ Below w.heap.size w w'

/-- Three cells of a block stored. -/
theorem Slot3.set {w : World} {k : Nat} {x y z : Value} (h : Slot3 w k x y z) (u v t : Value) :
    (((w.setCell ⟨k, 0, none⟩ u).setCell ⟨k, 1, none⟩ v).setCell ⟨k, 2, none⟩ t).cell? ⟨k, 0, none⟩ = some u ∧ (((w.setCell ⟨k, 0, none⟩ u).setCell ⟨k, 1, none⟩ v).setCell ⟨k, 2, none⟩ t).cell? ⟨k, 1, none⟩ = some v ∧ (((w.setCell ⟨k, 0, none⟩ u).setCell ⟨k, 1, none⟩ v).setCell ⟨k, 2, none⟩ t).cell? ⟨k, 2, none⟩ = some t := by
  refine ⟨?_, ?_, ?_⟩
  · rw [World.cell?_setCell_other _ _ _ _ (fun e => by cases e), World.cell?_setCell_other _ _ _ _ (fun e => by cases e)]
    exact World.cell?_setCell_same _ _ _ h.cell
  · rw [World.cell?_setCell_other _ _ _ _ (fun e => by cases e)]
    refine World.cell?_setCell_same (u := y) _ _ _ ?_
    rw [World.cell?_setCell_other _ _ _ _ (fun e => by cases e)]
    exact h.cell1
  · refine World.cell?_setCell_same (u := z) _ _ _ ?_
    rw [World.cell?_setCell_other _ _ _ _ (fun e => by cases e), World.cell?_setCell_other _ _ _ _ (fun e => by cases e)]
    exact h.cell2
theorem NatIs.set3 {w : World} {k : Nat} {x y z : Value} {v : Value} {N : Nat} (q : NatIs w v N) (h : Slot3 w k x y z) (hx : ∀ ki i, x ≠ .int ki i) (hy : ∀ ki i, y ≠ .int ki i) (hz : ∀ ki i, z ≠ .int ki i) (u v' t : Value) :
    NatIs (((w.setCell ⟨k, 0, none⟩ u).setCell ⟨k, 1, none⟩ v').setCell ⟨k, 2, none⟩ t) v N := by
  refine ((q.storeAt h.cell hx _).storeAt (x := y) ?_ hy _).storeAt (x := z) ?_ hz _
  · rw [World.cell?_setCell_other _ _ _ _ (fun e => by cases e)]
    exact h.cell1
  · rw [World.cell?_setCell_other _ _ _ _ (fun e => by cases e), World.cell?_setCell_other _ _ _ _ (fun e => by cases e)]
    exact h.cell2
theorem Slot3.set2 {w : World} {k : Nat} {x y z : Value} (h : Slot3 w k x y z) (u v : Value) : Slot3 ((w.setCell ⟨k, 0, none⟩ u).setCell ⟨k, 1, none⟩ v) k u v z := by
  refine ⟨?_, ?_, ?_, by simp [h.free], by simp [h.free1], by simp [h.free2], by simpa using h.lt⟩
  · rw [World.cell?_setCell_other _ _ _ _ (fun e => by cases e)]
    exact World.cell?_setCell_same _ _ _ h.cell
  · refine World.cell?_setCell_same (u := y) _ _ _ ?_
    rw [World.cell?_setCell_other _ _ _ _ (fun e => by cases e)]
    exact h.cell1
  · rw [World.cell?_setCell_other _ _ _ _ (fun e => by cases e), World.cell?_setCell_other _ _ _ _ (fun e => by cases e)]
    exact h.cell2
theorem Slot3.set2o {w : World} {k j : Nat} {x y z : Value} (h : Slot3 w j x y z) (e : j ≠ k) (u v : Value) : Slot3 ((w.setCell ⟨k, 0, none⟩ u).setCell ⟨k, 1, none⟩ v) j x y z := by
  have hn : ∀ o o' : Nat, (⟨k, o', none⟩ : Addr) ≠ ⟨j, o, none⟩ := fun o o' h => e (by cases h; rfl)
  refine ⟨?_, ?_, ?_, by simp [h.free], by simp [h.free1], by simp [h.free2], by simpa using h.lt⟩
  · rw [World.cell?_setCell_other _ _ _ _ (hn _ _), World.cell?_setCell_other _ _ _ _ (hn _ _)]; exact h.cell
  · rw [World.cell?_setCell_other _ _ _ _ (hn _ _), World.cell?_setCell_other _ _ _ _ (hn _ _)]; exact h.cell1
  · rw [World.cell?_setCell_other _ _ _ _ (hn _ _), World.cell?_setCell_other _ _ _ _ (hn _ _)]; exact h.cell2
theorem NatIs.set2 {w : World} {k : Nat} {x y z : Value} {v : Value} {N : Nat} (q : NatIs w v N) (h : Slot3 w k x y z) (hx : ∀ ki i, x ≠ .int ki i) (hy : ∀ ki i, y ≠ .int ki i) (u v' : Value) :
    NatIs ((w.setCell ⟨k, 0, none⟩ u).setCell ⟨k, 1, none⟩ v') v N := by
  refine (q.storeAt h.cell hx _).storeAt (x := y) ?_ hy _
  rw [World.cell?_setCell_other _ _ _ _ (fun e => by cases e)]
  exact h.cell1
theorem RatTold.done {w w2 : World} {k : Nat} {a0 : Option Addr} {n0 c0 : Nat} {m0 : Bool} {a1 : Option Addr} {n1 c1 : Nat} {a : Option Addr} {n c : Nat} {m : Bool} {a2 : Option Addr} {n2 c2 : Nat} {P : Int} {Q : Nat} (hb : Below w.heap.size w w2) (hk : w.heap.size ≤ k)
    (hs : Slot3 w2 k (.slice a0 n0 c0) (.bool m0) (.slice a1 n1 c1)) (h : RatAt w2 a n c m a2 n2 c2 P Q) :
    RatTold w (((w2.setCell ⟨k, 0, none⟩ (.slice a n c)).setCell ⟨k, 1, none⟩ (.bool m)).setCell ⟨k, 2, none⟩ (.slice a2 n2 c2)) (.returned (.agg #[.slice a n c, .bool m, .slice a2 n2 c2])) P Q :=
  ⟨a, n, c, m, a2, n2, c2, rfl, ⟨⟨h.1.1, h.1.2.set3 hs (fun _ _ h => by cases h) (fun _ _ h => by cases h) (fun _ _ h => by cases h) _ _ _⟩, h.2.set3 hs (fun _ _ h => by cases h) (fun _ _ h => by cases h) (fun _ _ h => by cases h) _ _ _⟩,
    ((hb.setCell hk _).setCell hk _).setCell hk _⟩
theorem NatTold.done {w w2 : World} {k : Nat} {a0 : Option Addr} {n0 c0 : Nat} {a : Option Addr} {n c N : Nat} (hb : Below w.heap.size w w2) (hk : w.heap.size ≤ k) (hs : Slot w2 k (.slice a0 n0 c0)) (h : NatIs w2 (.agg #[.slice a n c]) N) :
    NatTold w (w2.setCell ⟨k, 0, none⟩ (.slice a n c)) (.returned (.agg #[.slice a n c])) N :=
  ⟨a, n, c, rfl, h.storeAt hs.cell (fun _ _ h => by cases h) _, hb.setCell hk _⟩

theorem lowN_zero {Q : Nat} (h : 0 < Q) : decide (lowN Q = 0) = decide (Q = 1) := by
  unfold lowN
  by_cases h1 : Q = 1
  · rw [if_pos h1, decide_eq_true rfl, decide_eq_true h1]
  · rw [if_neg h1, decide_eq_false (by omega), decide_eq_false h1]

set_option maxHeartbeats 800000 in
set_option maxRecDepth 100000 in
theorem whole_any (a : Option Addr) (n c : Nat) (m : Bool) (Z : Int) (w : World) (h : IntAt w a n c m Z) :
    Calls Tryz.prog 73 #[.agg #[.slice a n c, .bool m]] w fun e w' => RatTold w w' e Z 1 := by
  have B0 := (((Bag.start w).int h).box2 (.slice a n c) (.bool m) 28).box3 (.slice a n c) (.bool m) (.slice none 0 0) 30
  have HE : Hid (RatTold w ((w.alloc (.cells #[.slice a n c, .bool m] 28)).alloc (.cells #[.slice a n c, .bool m, .slice none 0 0] 30)) (.returned (.agg #[.slice a n c, .bool m, .slice none 0 0])) Z 1) :=
    ⟨a, n, c, m, none, 0, 0, rfl, ⟨B0.now.2.2.1, NatIs.zero _⟩, B0.below⟩
  clear h B0
  go_enter Tryz.func73, Tryz.ntmps73
  go_wp2
  exact bodyPost_ret (v := .agg #[.slice a n c, .bool m, .slice none 0 0]) (by simp [results, Tryz.results73, go_sem]) rfl HE.out

set_option maxHeartbeats 800000 in
set_option maxRecDepth 100000 in
theorem top_any (a : Option Addr) (n c : Nat) (m : Bool) (a2 : Option Addr) (n2 c2 : Nat) (P : Int) (Q : Nat) (w : World) (h : RatAt w a n c m a2 n2 c2 P Q) :
    Calls Tryz.prog 55 #[.agg #[.slice a n c, .bool m, .slice a2 n2 c2]] w fun e w' => IntTold2 w w' e a n c m P := by
  have B0 := (((Bag.start w).int h.1).box3 (.slice a n c) (.bool m) (.slice a2 n2 c2) 30).box2 (.slice a n c) (.bool m) 28
  have HE : Hid (IntTold2 w ((w.alloc (.cells #[.slice a n c, .bool m, .slice a2 n2 c2] 30)).alloc (.cells #[.slice a n c, .bool m] 28)) (.returned (.agg #[.slice a n c, .bool m])) a n c m P) :=
    ⟨rfl, B0.now.2.2.1, B0.below⟩
  clear h B0
  go_enter Tryz.func55, Tryz.ntmps55
  go_wp2
  exact bodyPost_ret (v := .agg #[.slice a n c, .bool m]) (by simp [results, Tryz.results55, go_sem]) rfl HE.out

set_option maxHeartbeats 800000 in
set_option maxRecDepth 100000 in
theorem isWhole_any (a : Option Addr) (n c : Nat) (m : Bool) (a2 : Option Addr) (n2 c2 : Nat) (P : Int) (Q : Nat) (w : World) (h : RatAt w a n c m a2 n2 c2 P Q) (hQ : 0 < Q) :
    Calls Tryz.prog 39 #[.agg #[.slice a n c, .bool m, .slice a2 n2 c2]] w fun e w' => e = .returned (.bool (decide (Q = 1))) ∧ Below w.heap.size w w' := by
  have BB := Lib.hid (((Bag.start w).nat h.2).box3 (.slice a n c) (.bool m) (.slice a2 n2 c2) 30)
  have HZ := Lib.hid (fun wz hz => zero_any (.agg #[.slice a2 n2 c2]) (lowN Q) wz hz)
  rw [lowN_zero hQ] at HZ
  clear h hQ
  generalize decide (Q = 1) = q at *
  go_enter Tryz.func39, Tryz.ntmps39
  go_wp2_with (go_at_call 68; refine (HZ.out _ BB.out.now.2.1).mono ?_; rintro e w2 ⟨rfl, hb2⟩; have HB := Lib.hid (BB.out.go hb2).below; clear hb2)
  go_ret
  exact ⟨rfl, HB.out⟩

set_option maxHeartbeats 800000 in
set_option maxRecDepth 100000 in
theorem ratSign_any (a : Option Addr) (n c : Nat) (m : Bool) (a2 : Option Addr) (n2 c2 : Nat) (P : Int) (Q : Nat) (w : World) (h : RatAt w a n c m a2 n2 c2 P Q) :
    Calls Tryz.prog 14 #[.agg #[.slice a n c, .bool m, .slice a2 n2 c2]] w fun e w' => e = .returned (.int .i64 (sgnI P)) ∧ Below w.heap.size w w' := by
  have BB := Lib.hid (((Bag.start w).int h.1).box3 (.slice a n c) (.bool m) (.slice a2 n2 c2) 30)
  have HS := Lib.hid (fun wz hz => sign_any a n c m P wz hz)
  clear h
  generalize sgnI P = s at *
  go_enter Tryz.func14, Tryz.ntmps14
  go_wp2_with (go_at_call 41; refine (HS.out _ BB.out.now.2.1).mono ?_; rintro e w2 ⟨rfl, hb2⟩; have HB := Lib.hid (BB.out.go hb2).below; clear hb2)
  go_ret
  exact ⟨rfl, HB.out⟩

set_option maxHeartbeats 1600000 in
set_option maxRecDepth 100000 in
theorem bot_any (a : Option Addr) (n c : Nat) (m : Bool) (a2 : Option Addr) (n2 c2 : Nat) (P : Int) (Q : Nat) (w : World) (h : RatAt w a n c m a2 n2 c2 P Q) (hQ : 0 < Q) :
    Calls Tryz.prog 34 #[.agg #[.slice a n c, .bool m, .slice a2 n2 c2]] w fun e w' => NatTold w w' e Q := by
  have B0 := (((Bag.start w).rat h).box3 (.slice a n c) (.bool m) (.slice a2 n2 c2) 30).box (.slice none 0 0) 26
  rw [World.size_alloc] at B0
  have IW := Lib.hid (fun wz hz => isWhole_any a n c m a2 n2 c2 P Q wz hz hQ)
  have BB := Lib.hid B0
  by_cases h1 : Q = 1
  · subst h1
    have OF := Lib.hid (fun wz => of_told 1 wz (by omega))
    rw [decide_eq_true rfl] at IW
    clear h hQ B0
    go_enter Tryz.func34, Tryz.ntmps34
    go_wp2_with fail
    go_at_call 39
    refine (IW.out _ BB.out.now.2.2.1).mono ?_
    rintro e w2 ⟨rfl, hb2⟩
    have BB := Lib.hid (BB.out.go hb2)
    clear hb2
    go_wp2_with fail
    go_at_call 71
    refine (OF.out _).mono ?_
    rintro e w3 ⟨a3, n3, c3, rfl, hv, hb3⟩
    have BB := Lib.hid (BB.out.go hb3)
    have hs := BB.out.now.1
    have hc := hs.cell
    have hf := hs.free
    have HS := World.cell?_setCell_same w3 ⟨w.heap.size + 1, 0, none⟩ (.slice a3 n3 c3) hc
    have HE := Lib.hid (NatTold.done BB.out.below (by omega) hs hv)
    clear hb3 hs
    go_wp2
    exact bodyPost_ret (v := .agg #[.slice a3 n3 c3]) (by simp [results, Tryz.results34, go_sem, HS]) rfl HE.out
  · rw [decide_eq_false h1] at IW
    have hl : lowN Q = Q := if_neg h1
    have hx := h.2
    rw [hl] at hx
    have q0 := B0.now.2.1.cell2
    clear h hQ B0
    go_enter Tryz.func34, Tryz.ntmps34
    go_wp2_with fail
    go_at_call 39
    refine (IW.out _ BB.out.now.2.2.1).mono ?_
    rintro e w2 ⟨rfl, hb2⟩
    have BB := Lib.hid (BB.out.go hb2)
    clear hb2
    have q0 := BB.out.now.2.1.cell2
    have hs := BB.out.now.1
    have hc := hs.cell
    have hf := hs.free
    have HS := World.cell?_setCell_same w2 ⟨w.heap.size + 1, 0, none⟩ (.slice a2 n2 c2) hc
    have HE := Lib.hid (NatTold.done BB.out.below (by omega) hs (hl ▸ BB.out.now.2.2.1.2))
    clear hs
    go_wp2
    exact bodyPost_ret (v := .agg #[.slice a2 n2 c2]) (by simp [results, Tryz.results34, go_sem, HS]) rfl HE.out

set_option maxHeartbeats 1600000 in
set_option maxRecDepth 100000 in
theorem below_any (a : Option Addr) (n c : Nat) (m : Bool) (a2 : Option Addr) (n2 c2 : Nat) (P : Int) (Q : Nat) (w : World) (h : RatAt w a n c m a2 n2 c2 P Q) (hQ : 0 < Q) :
    Calls Tryz.prog 36 #[.agg #[.slice a n c, .bool m, .slice a2 n2 c2]] w fun e w' => IntTold w w' e (Q : Int) := by
  have B0 := (((Bag.start w).rat h).box3 (.slice a n c) (.bool m) (.slice a2 n2 c2) 30).box2 (.slice none 0 0) (.bool false) 28
  rw [World.size_alloc] at B0
  have BT := Lib.hid (fun wz hz => bot_any a n c m a2 n2 c2 P Q wz hz hQ)
  have OF := Lib.hid (fun a n c wz (h : NatIs wz (.agg #[.slice a n c]) Q) => wof_any false a n c Q wz h)
  rw [show sgn false Q = (Q : Int) from rfl] at OF
  have BB := Lib.hid B0
  clear h hQ B0
  go_enter Tryz.func36, Tryz.ntmps36
  go_wp2_with fail
  go_at_call 34
  refine (BT.out _ BB.out.now.2.2.1).mono ?_
  rintro e w2 ⟨a3, n3, c3, rfl, hv, hb2⟩
  have BB := Lib.hid ((BB.out.go hb2).nat hv)
  clear hb2 hv
  go_wp2_with fail
  go_at_call 69
  refine (OF.out _ _ _ _ BB.out.now.1).mono ?_
  rintro e w3 ⟨a4, n4, c4, m4, rfl, hi, hb3⟩
  have BB := Lib.hid (BB.out.go hb3)
  have hs := BB.out.now.2.1
  have hc := hs.cell
  have hc1 := hs.cell1
  have hf := hs.free
  have hf1 := hs.free1
  have HS := hs.set (.slice a4 n4 c4) (.bool m4)
  have HE := Lib.hid (IntTold.done BB.out.below (by omega) hs (fun _ _ h => by cases h) hi)
  clear hb3 hs
  go_wp2
  exact bodyPost_ret (v := .agg #[.slice a4 n4 c4, .bool m4]) (by simp [results, Tryz.results36, go_sem, HS]) rfl HE.out

set_option maxHeartbeats 1600000 in
set_option maxRecDepth 100000 in
theorem ratFrom_any (X : Int) (w : World) (h : -9223372036854775808 ≤ X ∧ X ≤ 9223372036854775807) :
    Calls Tryz.prog 30 #[.int .i64 X] w fun e w' => RatTold w w' e X 1 := by
  have BB := Lib.hid ((Bag.start w).box3 (.slice none 0 0) (.bool false) (.slice none 0 0) 30)
  have FR := Lib.hid (fun wz => from_any X wz h)
  have WH := Lib.hid (fun a n c m wz (h : IntAt wz a n c m X) => whole_any a n c m X wz h)
  clear h
  go_enter Tryz.func30, Tryz.ntmps30
  go_wp2_with fail
  go_at_call 28
  refine (FR.out _).mono ?_
  rintro e w2 ⟨a, n, c, m, rfl, hi, hb2⟩
  have BB := Lib.hid ((BB.out.go hb2).int hi)
  clear hb2 hi
  go_wp2_with fail
  go_at_call 73
  refine (WH.out _ _ _ _ _ BB.out.now.1).mono ?_
  rintro e w3 ⟨a3, n3, c3, m3, a4, n4, c4, rfl, hr, hb3⟩
  have BB := Lib.hid (BB.out.go hb3)
  have hs := BB.out.now.2.1
  have hc := hs.cell
  have hc1 := hs.cell1
  have hc2 := hs.cell2
  have hf := hs.free
  have hf1 := hs.free1
  have hf2 := hs.free2
  have HS := hs.set (.slice a3 n3 c3) (.bool m3) (.slice a4 n4 c4)
  have HE := Lib.hid (RatTold.done BB.out.below (by omega) hs hr)
  clear hb3 hs hr
  go_wp2
  exact bodyPost_ret (v := .agg #[.slice a3 n3 c3, .bool m3, .slice a4 n4 c4]) (by simp [results, Tryz.results30, go_sem, HS]) rfl HE.out

set_option maxHeartbeats 1600000 in
set_option maxRecDepth 100000 in
theorem ratMinus_any (a : Option Addr) (n c : Nat) (m : Bool) (a2 : Option Addr) (n2 c2 : Nat) (P : Int) (Q : Nat) (w : World) (h : RatAt w a n c m a2 n2 c2 P Q) :
    Calls Tryz.prog 12 #[.agg #[.slice a n c, .bool m, .slice a2 n2 c2]] w fun e w' => RatTold w w' e (-P) Q := by
  have B0 := (((Bag.start w).rat h).box3 (.slice a n c) (.bool m) (.slice a2 n2 c2) 30).box3 (.slice none 0 0) (.bool false) (.slice none 0 0) 30
  rw [World.size_alloc] at B0
  have MN := Lib.hid (fun wz (h : IntAt wz a n c m P) => minus_any a n c m P wz h)
  have BB := Lib.hid B0
  clear h B0
  go_enter Tryz.func12, Tryz.ntmps12
  go_wp2_with fail
  go_at_call 38
  refine (MN.out _ BB.out.now.2.2.1.1).mono ?_
  rintro e w3 ⟨a3, n3, c3, m3, rfl, hi, hb3⟩
  have BB := Lib.hid (BB.out.go hb3)
  have hs0 := BB.out.now.2.1
  have hs := BB.out.now.1
  have hc := hs0.cell
  have hc1 := hs0.cell1
  have hf := hs0.free
  have hf1 := hs0.free1
  have hs3 := hs0.set2 (.slice a3 n3 c3) (.bool m3)
  have hs4 := hs.set2o (k := w.heap.size) (by omega) (.slice a3 n3 c3) (.bool m3)
  have q0 := hs3.cell
  have q1 := hs3.cell1
  have q2 := hs3.cell2
  have r0 := hs4.cell
  have r1 := hs4.cell1
  have r2 := hs4.cell2
  have g0 := hs4.free
  have g1 := hs4.free1
  have g2 := hs4.free2
  have hx : RatAt ((w3.setCell ⟨w.heap.size, 0, none⟩ (.slice a3 n3 c3)).setCell ⟨w.heap.size, 1, none⟩ (.bool m3)) a3 n3 c3 m3 a2 n2 c2 (-P) Q :=
    ⟨⟨hi.1, hi.2.set2 hs0 (fun _ _ h => by cases h) (fun _ _ h => by cases h) _ _⟩, BB.out.now.2.2.1.2.set2 hs0 (fun _ _ h => by cases h) (fun _ _ h => by cases h) _ _⟩
  have HS := hs4.set (.slice a3 n3 c3) (.bool m3) (.slice a2 n2 c2)
  have HE := Lib.hid (RatTold.done ((BB.out.below.setCell (Nat.le_refl _) _).setCell (Nat.le_refl _) _) (by omega) hs4 hx)
  clear hb3 hs hs0 hs3 hs4 hx hi
  go_wp2
  exact bodyPost_ret (v := .agg #[.slice a3 n3 c3, .bool m3, .slice a2 n2 c2]) (by simp [results, Tryz.results12, go_sem, HS]) rfl HE.out

end Go.Proofs.YtocifhahfeajiaaGreatDoor
