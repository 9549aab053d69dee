/-
  Texts of this seat, laid together.
-/
import Derived.BigRegion
import Derived.RegionTactic
import Derived.Deep.RegionWith
import Derived.Deep.RegionHeld3
import Derived.Deep.DrawnRows
import Derived.IntWalk
import Derived.Laws.BitsLemmas
import Derived.Deep.MidRow
import Derived.Lib.SliceRun
import Derived.Lib.Walk
import Derived.Deep.AppendLies
import Derived.Deep.RegionLaw
import Derived.Deep.QuietTactic
import Derived.BigQuiet
import Derived.Test.YtifnamlgkooacaaGreatDoorShelf
import Derived.Test.YtifnamlgkooacaaGreatDoorQ1

namespace Go.Proofs.YtifnamlgkooacaaGreatDoor
open Go.RowKit
structure Bag (w0 : World) (P : World → Prop) (w : World) : Prop where
  below : Below w0.heap.size w0 w
  stay : ∀ a b, Below a.heap.size a b → P a → P b
  now : P w
theorem Bag.start (w : World) : Bag w (fun _ => True) w := ⟨Below.refl _ _, fun _ _ _ _ => trivial, trivial⟩
theorem Bag.go {w0 w w' : World} {P : World → Prop} (h : Bag w0 P w) (hb : Below w.heap.size w w') : Bag w0 P w' :=
  ⟨h.below.trans (hb.mono h.below.size), h.stay, h.stay _ _ hb h.now⟩
theorem Bag.add {w0 w : World} {P Q : World → Prop} (h : Bag w0 P w) (hs : ∀ a b, Below a.heap.size a b → Q a → Q b) (q : Q w) : Bag w0 (fun x => Q x ∧ P x) w :=
  ⟨h.below, fun a b hb ⟨h1, h2⟩ => ⟨hs a b hb h1, h.stay a b hb h2⟩, q, h.now⟩
theorem Bag.nat {w0 w : World} {P : World → Prop} {v : Value} {N : Nat} (h : Bag w0 P w) (q : NatIs w v N) : Bag w0 (fun x => NatIs x v N ∧ P x) w := h.add (fun _ _ hb q => q.below hb) q
theorem Bag.alloc {w0 w : World} {P : World → Prop} (h : Bag w0 P w) (o : Obj) : Bag w0 P (w.alloc o) := h.go ((Below.refl _ _).alloc (Nat.le_refl _) _)
theorem Bag.slot {w0 w : World} {P : World → Prop} {k : Nat} {x : Value} (h : Bag w0 P w) (q : Slot w k x) : Bag w0 (fun y => Slot y k x ∧ P y) w := h.add (fun _ _ hb q => q.below hb) q
theorem Bag.box {w0 w : World} {P : World → Prop} (h : Bag w0 P w) (x : Value) (t : TypeId) : Bag w0 (fun y => Slot y w.heap.size x ∧ P y) (w.alloc (.cells #[x] t)) :=
  (h.alloc _).slot (Slot.new w x t)
theorem Bag.drewN {w0 w : World} {P : World → Prop} (h : Bag w0 P w) (n : Nat) : Bag w0 P (w.drewN n) := h.go (below_drewN (Below.refl _ _) n)
theorem Bag.drew {w0 w : World} {P : World → Prop} (h : Bag w0 P w) : Bag w0 P w.drew := h.go (Below.refl _ _).drew
/-- A block of two cells. -/
structure Slot2 (w : World) (k : Nat) (x y : Value) : Prop where
  cell : w.cell? ⟨k, 0, none⟩ = some x
  cell1 : w.cell? ⟨k, 1, none⟩ = some y
  free : w.frozen? ⟨k, 0, none⟩ = false
  free1 : w.frozen? ⟨k, 1, none⟩ = false
  lt : k < w.heap.size
theorem Slot2.below {w w' : World} {k : Nat} {x y : Value} (h : Slot2 w k x y) (hb : Below w.heap.size w w') : Slot2 w' k x y :=
  ⟨(hb.cell (p := ⟨k, 0, none⟩) h.lt).trans h.cell, (hb.cell (p := ⟨k, 1, none⟩) h.lt).trans h.cell1, (hb.frozen (p := ⟨k, 0, none⟩) h.lt).trans h.free, (hb.frozen (p := ⟨k, 1, none⟩) h.lt).trans h.free1, Nat.lt_of_lt_of_le h.lt hb.size⟩
theorem Slot2.new (w : World) (x y : Value) (t : TypeId) : Slot2 (w.alloc (.cells #[x, y] t)) w.heap.size x y := by
  refine ⟨?_, ?_, World.frozen?_alloc_new _ _ _ _, World.frozen?_alloc_new _ _ _ _, by rw [World.size_alloc]; omega⟩
  · rw [World.cell?_alloc_new]; rfl
  · rw [World.cell?_alloc_new]; rfl
theorem Bag.slot2 {w0 w : World} {P : World → Prop} {k : Nat} {x z : Value} (h : Bag w0 P w) (q : Slot2 w k x z) : Bag w0 (fun y => Slot2 y k x z ∧ P y) w := h.add (fun _ _ hb q => q.below hb) q
theorem Bag.box2 {w0 w : World} {P : World → Prop} (h : Bag w0 P w) (x z : Value) (t : TypeId) : Bag w0 (fun y => Slot2 y w.heap.size x z ∧ P y) (w.alloc (.cells #[x, z] t)) :=
  (h.alloc _).slot2 (Slot2.new w x z t)
end Go.Proofs.YtifnamlgkooacaaGreatDoor
namespace Go.Proofs.YtifnamlgkooacaaGreatDoor
open Go.RowKit
attribute [local go_sem ↓] Go.wp_at_zero Go.wp_at_succ
/-- The fields of an integer, read as the number Z: the sign stands for less than 0 alone. -/
def IntAt (w : World) (a : Option Addr) (n c : Nat) (m : Bool) (Z : Int) : Prop := m = decide (Z < 0) ∧ NatIs w (.agg #[.slice a n c]) Z.natAbs
theorem IntAt.below {w w' : World} {a : Option Addr} {n c : Nat} {m : Bool} {Z : Int} (h : IntAt w a n c m Z) (hb : Below w.heap.size w w') : IntAt w' a n c m Z := ⟨h.1, h.2.below hb⟩
def IntTold (w w' : World) (e : Ending) (Z : Int) : Prop := ∃ a n c m, e = .returned (.agg #[.slice a n c, .bool m]) ∧ IntAt w' a n c m Z ∧ Below w.heap.size w w'
/-- A number with a sign. -/
def sgn (b : Bool) (N : Nat) : Int := if b then -(N : Int) else N
theorem sgn_abs (b : Bool) (N : Nat) : (sgn b N).natAbs = N := by unfold sgn; split <;> omega
theorem sgn_neg (b : Bool) (N : Nat) : decide (sgn b N < 0) = (b && !decide (N = 0)) := by
  cases b
  · simp [sgn]
  · by_cases h : N = 0
    · simp [sgn, h]
    · simp [sgn, h]; omega
theorem NatIs.storeAt {w : World} {v : Value} {N : Nat} {p : Addr} {x : Value} (h : NatIs w v N) (hs : w.cell? p = some x) (hx : ∀ ki z, x ≠ .int ki z) (u : Value) : NatIs (w.setCell p u) v N := by
  obtain ⟨a, n, c, f, rfl, ⟨h1, h2, h3, h4⟩, hv, ht⟩ := h
  refine ⟨a, n, c, f, rfl, ⟨h1, h2, h3, ?_⟩, hv, ht⟩
  rcases h4 with h4 | ⟨b, off, rfl, hb, hc⟩
  · exact .inl h4
  · refine .inr ⟨b, off, rfl, by simpa using hb, fun j hj => ?_⟩
    rw [World.cell?_setCell_other _ _ _ _ (fun e' => ?_)]
    · exact hc j hj
    · have h5 := hc j hj
      rw [show (⟨b, off + j, none⟩ : Addr) = p from by first | exact e' | exact e'.symm, hs] at h5
      exact hx _ _ (Option.some.inj h5)
/-- An integer's block, written whole. -/
theorem IntTold.done {w w2 : World} {k : Nat} {x : Value} {m0 : Bool} {a : Option Addr} {n c : Nat} {m : Bool} {Z : Int} (hb : Below w.heap.size w w2) (hk : w.heap.size ≤ k) (hs : Slot2 w2 k x (.bool m0)) (hx : ∀ ki z, x ≠ .int ki z) (h : IntAt w2 a n c m Z) :
    IntTold w ((w2.setCell ⟨k, 0, none⟩ (.slice a n c)).setCell ⟨k, 1, none⟩ (.bool m)) (.returned (.agg #[.slice a n c, .bool m])) Z := by
  refine ⟨a, n, c, m, rfl, ⟨h.1, ?_⟩, (hb.setCell hk _).setCell hk _⟩
  refine (h.2.storeAt hs.cell hx _).storeAt (x := .bool m0) ?_ (fun _ _ h => by cases h) _
  rw [World.cell?_setCell_other _ _ _ _ (fun e => by cases e)]
  exact hs.cell1
theorem Slot2.set {w : World} {k : Nat} {x y : Value} (h : Slot2 w k x y) (u v : Value) : ((w.setCell ⟨k, 0, none⟩ u).setCell ⟨k, 1, none⟩ v).cell? ⟨k, 0, none⟩ = some u ∧ ((w.setCell ⟨k, 0, none⟩ u).setCell ⟨k, 1, none⟩ v).cell? ⟨k, 1, none⟩ = some v := by
  refine ⟨?_, ?_⟩
  · rw [World.cell?_setCell_other _ _ _ _ (fun e => by cases e)]
    exact World.cell?_setCell_same _ _ _ h.cell
  · refine World.cell?_setCell_same (u := y) _ _ _ ?_
    rw [World.cell?_setCell_other _ _ _ _ (fun e => by cases e)]
    exact h.cell1
/-- An integer's block, whatever it holds. -/
def RS (y : World) (k : Nat) : Prop := ∃ x b, Slot2 y k x (.bool b) ∧ ∀ ki z, x ≠ .int ki z
theorem RS.below {w w' : World} {k : Nat} (h : RS w k) (hb : Below w.heap.size w w') : RS w' k := by
  obtain ⟨x, b, h1, h2⟩ := h; exact ⟨x, b, h1.below hb, h2⟩
theorem Slot2.rs {w : World} {k : Nat} {a : Option Addr} {n c : Nat} {b : Bool} (h : Slot2 w k (.slice a n c) (.bool b)) : RS w k := ⟨_, _, h, fun _ _ h => by cases h⟩
/-- An integer stored into its block. -/
def putI (y : World) (k : Nat) (a : Option Addr) (n c : Nat) (b : Bool) : World := (y.setCell ⟨k, 0, none⟩ (.slice a n c)).setCell ⟨k, 1, none⟩ (.bool b)
theorem RS.frozen {w : World} {k : Nat} (h : RS w k) : w.frozen? ⟨k, 0, none⟩ = false ∧ w.frozen? ⟨k, 1, none⟩ = false := by
  obtain ⟨x, b, h1, _⟩ := h; exact ⟨h1.free, h1.free1⟩
theorem RS.lt {w : World} {k : Nat} (h : RS w k) : k < w.heap.size := by
  obtain ⟨x, b, h1, _⟩ := h; exact h1.lt
theorem RS.ex {w : World} {k : Nat} (h : RS w k) : (∃ x, w.cell? ⟨k, 0, none⟩ = some x) ∧ ∃ x, w.cell? ⟨k, 1, none⟩ = some x := by
  obtain ⟨x, b, h1, _⟩ := h; exact ⟨⟨_, h1.cell⟩, ⟨_, h1.cell1⟩⟩
theorem RS.cells {w : World} {k : Nat} (h : RS w k) (a : Option Addr) (n c : Nat) (b : Bool) : (putI w k a n c b).cell? ⟨k, 0, none⟩ = some (.slice a n c) ∧ (putI w k a n c b).cell? ⟨k, 1, none⟩ = some (.bool b) := by
  obtain ⟨x, b', h1, _⟩ := h; exact h1.set _ _
theorem RS.put {w : World} {k j : Nat} (h : RS w j) (a : Option Addr) (n c : Nat) (b : Bool) : RS (putI w k a n c b) j := by
  obtain ⟨x, b', h1, h2⟩ := h
  by_cases e : j = k
  · subst e
    have := h1.set (.slice a n c) (.bool b)
    exact ⟨_, _, ⟨this.1, this.2, by simp [putI, h1.free], by simp [putI, h1.free1], by simpa [putI] using h1.lt⟩, fun _ _ h => by cases h⟩
  · refine ⟨x, b', ⟨?_, ?_, by simp [putI, h1.free], by simp [putI, h1.free1], by simpa [putI] using h1.lt⟩, h2⟩
    · unfold putI; rw [World.cell?_setCell_other _ _ _ _ (fun e' => by cases e'), World.cell?_setCell_other _ _ _ _ (fun e' => e (by cases e'; rfl))]; exact h1.cell
    · unfold putI; rw [World.cell?_setCell_other _ _ _ _ (fun e' => e (by cases e'; rfl)), World.cell?_setCell_other _ _ _ _ (fun e' => by cases e')]; exact h1.cell1
theorem Slot2.put {w : World} {k j : Nat} {x z : Value} (h1 : Slot2 w j x z) (e : j ≠ k) (a : Option Addr) (n c : Nat) (b : Bool) : Slot2 (putI w k a n c b) j x z := by
  refine ⟨?_, ?_, by simp [putI, h1.free], by simp [putI, h1.free1], by simpa [putI] using h1.lt⟩
  · unfold putI; rw [World.cell?_setCell_other _ _ _ _ (fun e' => by cases e' <;> exact e rfl), World.cell?_setCell_other _ _ _ _ (fun e' => by cases e' <;> exact e rfl)]; exact h1.cell
  · unfold putI; rw [World.cell?_setCell_other _ _ _ _ (fun e' => by cases e' <;> exact e rfl), World.cell?_setCell_other _ _ _ _ (fun e' => by cases e' <;> exact e rfl)]; exact h1.cell1
theorem Slot.put {w : World} {k j : Nat} {x : Value} (h1 : Slot w j x) (e : j ≠ k) (a : Option Addr) (n c : Nat) (b : Bool) : Slot (putI w k a n c b) j x := by
  refine ⟨?_, by simp [putI, h1.free], by simpa [putI] using h1.lt⟩
  unfold putI; rw [World.cell?_setCell_other _ _ _ _ (fun e' => by cases e' <;> exact e rfl), World.cell?_setCell_other _ _ _ _ (fun e' => by cases e' <;> exact e rfl)]; exact h1.cell
theorem NatIs.put {w : World} {k : Nat} {v : Value} {N : Nat} (q : NatIs w v N) (h : RS w k) (a : Option Addr) (n c : Nat) (b : Bool) : NatIs (putI w k a n c b) v N := by
  obtain ⟨x, b', h1, h2⟩ := h
  refine (q.storeAt h1.cell h2 _).storeAt (x := .bool b') ?_ (fun _ _ h => by cases h) _
  rw [World.cell?_setCell_other _ _ _ _ (fun e => by cases e)]
  exact h1.cell1
theorem IntAt.put {w : World} {k : Nat} {a' : Option Addr} {n' c' : Nat} {m : Bool} {Z : Int} (q : IntAt w a' n' c' m Z) (h : RS w k) (a : Option Addr) (n c : Nat) (b : Bool) : IntAt (putI w k a n c b) a' n' c' m Z := ⟨q.1, q.2.put h a n c b⟩
theorem Bag.put {w0 w : World} {P : World → Prop} (h : Bag w0 P w) {k : Nat} (hk : w0.heap.size ≤ k) {a : Option Addr} {n c : Nat} {b : Bool} (hp : P w → P (putI w k a n c b)) : Bag w0 P (putI w k a n c b) :=
  ⟨(h.below.setCell hk _).setCell hk _, h.stay, hp h.now⟩
theorem IntTold.fin {w w2 : World} {k : Nat} {a : Option Addr} {n c : Nat} {m : Bool} {Z : Int} (hb : Below w.heap.size w w2) (hk : w.heap.size ≤ k) (hs : RS w2 k) (h : IntAt w2 a n c m Z) :
    IntTold w (putI w2 k a n c m) (.returned (.agg #[.slice a n c, .bool m])) Z :=
  ⟨a, n, c, m, rfl, h.put hs a n c m, (hb.setCell hk _).setCell hk _⟩
set_option maxHeartbeats 800000 in
set_option maxRecDepth 100000 in
theorem wof_any (b : Bool) (a : Option Addr) (n c N : Nat) (w : World) (h : NatIs w (.agg #[.slice a n c]) N) :
    Calls Tryz.prog 104 #[.bool b, .agg #[.slice a n c]] w fun e w' => IntTold w w' e (sgn b N) := by
  cases b with
  | false =>
    have HE : Hid (IntTold w ((w.alloc (.cells #[.slice a n c] 73)).alloc (.cells #[.slice a n c, .bool false] 75)).drew (.returned (.agg #[.slice a n c, .bool false])) (sgn false N)) :=
      have B0 := (((Bag.start w).nat h).alloc (.cells #[.slice a n c] 73)).box2 (.slice a n c) (.bool false) 75
      ⟨a, n, c, false, rfl, ⟨by rw [sgn_neg]; rfl, by rw [sgn_abs]; exact B0.drew.now.2.1⟩, B0.drew.below⟩
    clear h
    go_enter Tryz.func104, Tryz.ntmps104
    go_wp2_with fail
    go_region
    all_goals
      go_wp2
      exact bodyPost_ret (v := .agg #[.slice a n c, .bool false]) (by simp [results, Tryz.results104, go_sem]) rfl HE.out
  | true =>
    have B0 := (((Bag.start w).nat h).box (.slice a n c) 73).box2 (.slice none 0 0) (.bool false) 75
    rw [World.size_alloc] at B0
    have BB := Lib.hid B0.drew
    have HZ := Lib.hid (zero_any _ N _ B0.drew.now.2.2.1)
    have q0 := B0.now.2.1.cell
    have HI : Hid (∀ wz, NatIs wz (.agg #[.slice a n c]) N → IntAt wz a n c (!decide (N = 0)) (sgn true N)) := fun wz hz => ⟨by rw [sgn_neg]; rfl, by rw [sgn_abs]; exact hz⟩
    obtain ⟨m, hm⟩ : ∃ m, (!decide (N = 0)) = m := ⟨_, rfl⟩
    obtain ⟨z, hz⟩ : ∃ z, decide (N = 0) = z := ⟨_, rfl⟩
    rw [hm] at HI
    rw [hz] at HZ hm
    subst hm
    clear B0 h hz
    go_enter Tryz.func104, Tryz.ntmps104
    go_wp2_with fail
    go_region_with (go_at_call 117; refine HZ.out.mono ?_; rintro e w2 ⟨rfl, hb2⟩; have B2 := BB.out.go hb2; have hq := B2.now.2.1.cell; have hs2 := B2.now.1; have hc1 := hs2.cell; have hc2 := hs2.cell1; have hf1 := hs2.free; have hf2 := hs2.free1; have HS := hs2.set (.slice a n c) (.bool (!z)); have HE := Lib.hid (IntTold.done B2.below (by omega) hs2 (fun _ _ h => by cases h) (HI.out _ B2.now.2.2.1)); clear hb2 B2 hs2)
    all_goals
      go_wp2
      exact bodyPost_ret (v := .agg #[.slice a n c, .bool (!z)]) (by simp [results, Tryz.results104, go_sem, HS]) rfl HE.out
end Go.Proofs.YtifnamlgkooacaaGreatDoor
namespace Go.Proofs.YtifnamlgkooacaaGreatDoor
open Go.RowKit
attribute [local go_sem ↓] Go.wp_at_zero Go.wp_at_succ
theorem Bag.int {w0 w : World} {P : World → Prop} {a : Option Addr} {n c : Nat} {m : Bool} {Z : Int} (h : Bag w0 P w) (q : IntAt w a n c m Z) : Bag w0 (fun y => IntAt y a n c m Z ∧ P y) w := h.add (fun _ _ hb q => q.below hb) q
set_option maxHeartbeats 800000 in
set_option maxRecDepth 100000 in
theorem neg_any (a : Option Addr) (n c : Nat) (m : Bool) (Z : Int) (w : World) (h : IntAt w a n c m Z) :
    Calls Tryz.prog 119 #[.agg #[.slice a n c, .bool m]] w fun e w' => e = .returned (.bool m) ∧ Below w.heap.size w w' := by
  have B0 := ((Bag.start w).nat h.2).box2 (.slice a n c) (.bool m) 75
  have q0 := B0.now.1.cell
  have q1 := B0.now.1.cell1
  have hz := zero_any _ _ _ B0.now.2.1
  have BB := Lib.hid B0
  cases m with
  | false =>
    clear h B0 hz
    go_enter Tryz.func119, Tryz.ntmps119
    go_wp2
    go_ret
    exact ⟨rfl, BB.out.below⟩
  | true =>
    have h0 : decide (Z.natAbs = 0) = false := by
      have := h.1
      rw [decide_eq_false]
      have h2 := of_decide_eq_true this.symm
      omega
    rw [h0] at hz
    have HZ := Lib.hid hz
    clear h B0 h0 hz
    go_enter Tryz.func119, Tryz.ntmps119
    go_wp2_with (go_at_call 117; refine HZ.out.mono ?_; rintro e w2 ⟨rfl, hb2⟩; have HB := Lib.hid (BB.out.go hb2).below; clear hb2)
    go_ret
    exact ⟨rfl, HB.out⟩
def sgnI (Z : Int) : Int := if Z < 0 then -1 else if Z = 0 then 0 else 1
set_option maxHeartbeats 800000 in
set_option maxRecDepth 100000 in
theorem sign_any (a : Option Addr) (n c : Nat) (m : Bool) (Z : Int) (w : World) (h : IntAt w a n c m Z) :
    Calls Tryz.prog 124 #[.agg #[.slice a n c, .bool m]] w fun e w' => e = .returned (.int .i64 (sgnI Z)) ∧ Below w.heap.size w w' := by
  have B0 := ((Bag.start w).int h).box2 (.slice a n c) (.bool m) 75
  have q0 := B0.now.1.cell
  have q1 := B0.now.1.cell1
  have hz := zero_any _ _ _ B0.now.2.1.2
  have BB := Lib.hid B0
  by_cases h0 : Z = 0
  · have d0 : decide (Z.natAbs = 0) = true := decide_eq_true (by omega)
    rw [d0] at hz
    have HZ := Lib.hid hz
    have HE : Hid (sgnI Z = 0) := by show _ = _; unfold sgnI; rw [if_neg (by omega), if_pos h0]
    clear h B0 h0 d0 hz
    go_enter Tryz.func124, Tryz.ntmps124
    go_wp2_with (go_at_call 117; refine HZ.out.mono ?_; rintro e w2 ⟨rfl, hb2⟩; have HB := Lib.hid (BB.out.go hb2).below; clear hb2)
    go_ret
    exact ⟨ret_int HE.out.symm, HB.out⟩
  · have d0 : decide (Z.natAbs = 0) = false := decide_eq_false (by omega)
    rw [d0] at hz
    have HZ := Lib.hid hz
    have HM := Lib.hid h.1
    have HE : Hid (sgnI Z = if m then -1 else 1) := by
      show _ = _
      rw [h.1]; unfold sgnI
      by_cases h2 : Z < 0
      · rw [if_pos h2, decide_eq_true h2]; rfl
      · rw [if_neg h2, if_neg h0, decide_eq_false h2]; rfl
    clear h B0 h0 d0 hz
    go_enter Tryz.func124, Tryz.ntmps124
    go_wp2_with fail
    go_at_call 117
    refine HZ.out.mono ?_
    rintro e w2 ⟨rfl, hb2⟩
    have B2 := Lib.hid (BB.out.go hb2)
    clear hb2 q0 q1
    have q0 := B2.out.now.1.cell
    have q1 := B2.out.now.1.cell1
    go_wp2_with fail
    go_at_call 119
    refine (neg_any a n c m Z _ B2.out.now.2.1).mono ?_
    rintro e w3 ⟨rfl, hb3⟩
    have B3 := Lib.hid (B2.out.go hb3)
    clear hb3 q0 q1
    cases m
    all_goals
      go_wp2
      go_ret
      exact ⟨ret_int HE.out.symm, B3.out.below⟩
end Go.Proofs.YtifnamlgkooacaaGreatDoor
namespace Go.Proofs.YtifnamlgkooacaaGreatDoor
open Go.RowKit
attribute [local go_sem ↓] Go.wp_at_zero Go.wp_at_succ
def cmpZ (Z Y : Int) : Int := if Z < Y then -1 else if Z = Y then 0 else 1
set_option maxHeartbeats 1600000 in
set_option maxRecDepth 100000 in
theorem icmp_any (a : Option Addr) (n c : Nat) (m : Bool) (Z : Int) (a2 : Option Addr) (n2 c2 : Nat) (m2 : Bool) (Y : Int) (w : World) (h : IntAt w a n c m Z) (g : IntAt w a2 n2 c2 m2 Y) :
    Calls Tryz.prog 110 #[.agg #[.slice a n c, .bool m], .agg #[.slice a2 n2 c2, .bool m2]] w fun e w' => e = .returned (.int .i64 (cmpZ Z Y)) ∧ Below w.heap.size w w' := by
  have B0 := ((((Bag.start w).int h).int g).box2 (.slice a n c) (.bool m) 75).box2 (.slice a2 n2 c2) (.bool m2) 75
  rw [World.size_alloc] at B0
  have q0 := B0.now.2.1.cell
  have q1 := B0.now.2.1.cell1
  have q2 := B0.now.1.cell
  have q3 := B0.now.1.cell1
  have BB := Lib.hid B0
  have N1 : Hid (∀ wz, IntAt wz a n c m Z → Calls Tryz.prog 119 #[.agg #[.slice a n c, .bool m]] wz fun e w' => e = .returned (.bool m) ∧ Below wz.heap.size wz w') := fun wz hz => neg_any a n c m Z wz hz
  have N2 : Hid (∀ wz, IntAt wz a2 n2 c2 m2 Y → Calls Tryz.prog 119 #[.agg #[.slice a2 n2 c2, .bool m2]] wz fun e w' => e = .returned (.bool m2) ∧ Below wz.heap.size wz w') := fun wz hz => neg_any a2 n2 c2 m2 Y wz hz
  have HE : Hid (cmpZ Z Y = if m then (if m2 then cmpI Y.natAbs Z.natAbs else -1) else (if m2 then 1 else cmpI Z.natAbs Y.natAbs)) := by
    show _ = _
    rw [h.1, g.1]; unfold cmpZ cmpI
    by_cases h2 : Z < 0
    · by_cases h3 : Y < 0
      · rw [decide_eq_true h2, decide_eq_true h3]; simp only [if_true]; (repeat' split) <;> omega
      · rw [decide_eq_true h2, decide_eq_false h3, if_pos (by omega)]; rfl
    · by_cases h3 : Y < 0
      · rw [decide_eq_false h2, decide_eq_true h3, if_neg (by omega), if_neg (by omega)]; rfl
      · rw [decide_eq_false h2, decide_eq_false h3]; simp only [Bool.false_eq_true, if_false]; (repeat' split) <;> omega
  have CM : Hid (∀ wz, IntAt wz a n c m Z → IntAt wz a2 n2 c2 m2 Y → Calls Tryz.prog 133 #[.agg #[.slice a n c], .agg #[.slice a2 n2 c2]] wz fun e w' => e = .returned (.int .i64 (cmpI Z.natAbs Y.natAbs)) ∧ Below wz.heap.size wz w') := fun wz hz hy => cmp_any _ _ _ _ wz hz.2 hy.2
  have CN : Hid (∀ wz, IntAt wz a n c m Z → IntAt wz a2 n2 c2 m2 Y → Calls Tryz.prog 133 #[.agg #[.slice a2 n2 c2], .agg #[.slice a n c]] wz fun e w' => e = .returned (.int .i64 (cmpI Y.natAbs Z.natAbs)) ∧ Below wz.heap.size wz w') := fun wz hz hy => cmp_any _ _ _ _ wz hy.2 hz.2
  clear h g B0
  go_enter Tryz.func110, Tryz.ntmps110
  go_wp2_with fail
  go_at_call 119
  refine (N1.out _ BB.out.now.2.2.2.1).mono ?_
  rintro e w2 ⟨rfl, hb2⟩
  have BB := Lib.hid (BB.out.go hb2)
  clear hb2 q0 q1 q2 q3
  have q0 := BB.out.now.2.1.cell
  have q1 := BB.out.now.2.1.cell1
  have q2 := BB.out.now.1.cell
  have q3 := BB.out.now.1.cell1
  cases m with
  | true =>
    go_wp2_with fail
    go_at_call 119
    refine (N2.out _ BB.out.now.2.2.1).mono ?_
    rintro e w3 ⟨rfl, hb2⟩
    have BB := Lib.hid (BB.out.go hb2)
    clear hb2 q0 q1 q2 q3
    have q0 := BB.out.now.2.1.cell
    have q1 := BB.out.now.2.1.cell1
    have q2 := BB.out.now.1.cell
    have q3 := BB.out.now.1.cell1
    cases m2 with
    | true =>
      go_wp2_with fail
      go_at_call 133
      refine (CN.out _ BB.out.now.2.2.2.1 BB.out.now.2.2.1).mono ?_
      rintro e w4 ⟨rfl, hb2⟩
      have BB := Lib.hid (BB.out.go hb2)
      clear hb2 q0 q1 q2 q3
      go_wp2
      go_ret
      exact ⟨ret_int HE.out.symm, BB.out.below⟩
    | false =>
      go_wp2_with fail
      go_at_call 119
      refine (N1.out _ BB.out.now.2.2.2.1).mono ?_
      rintro e w4 ⟨rfl, hb2⟩
      have BB := Lib.hid (BB.out.go hb2)
      clear hb2 q0 q1 q2 q3
      go_wp2
      go_ret
      exact ⟨ret_int HE.out.symm, BB.out.below⟩
  | false =>
    go_wp2_with fail
    go_at_call 119
    refine (N1.out _ BB.out.now.2.2.2.1).mono ?_
    rintro e w3 ⟨rfl, hb2⟩
    have BB := Lib.hid (BB.out.go hb2)
    clear hb2 q0 q1 q2 q3
    have q0 := BB.out.now.2.1.cell
    have q1 := BB.out.now.2.1.cell1
    have q2 := BB.out.now.1.cell
    have q3 := BB.out.now.1.cell1
    go_wp2_with fail
    go_at_call 119
    refine (N2.out _ BB.out.now.2.2.1).mono ?_
    rintro e w4 ⟨rfl, hb2⟩
    have BB := Lib.hid (BB.out.go hb2)
    clear hb2 q0 q1 q2 q3
    have q0 := BB.out.now.2.1.cell
    have q1 := BB.out.now.2.1.cell1
    have q2 := BB.out.now.1.cell
    have q3 := BB.out.now.1.cell1
    cases m2 with
    | true =>
      go_wp2
      go_ret
      exact ⟨ret_int HE.out.symm, BB.out.below⟩
    | false =>
      go_wp2_with fail
      go_at_call 133
      refine (CM.out _ BB.out.now.2.2.2.1 BB.out.now.2.2.1).mono ?_
      rintro e w5 ⟨rfl, hb2⟩
      have BB := Lib.hid (BB.out.go hb2)
      clear hb2 q0 q1 q2 q3
      go_wp2
      go_ret
      exact ⟨ret_int HE.out.symm, BB.out.below⟩
theorem of_pl2 (x : Nat) (w : World) (hx : x < 18446744073709551616) : Calls Tryz.prog 105 #[.int .u64 x] w fun e w' => ∃ a n c, e = .returned (.agg #[.slice a n c]) ∧ NatIs w' (.agg #[.slice a n c]) x ∧ Below w.heap.size w w' :=
  (of_any x w hx).mono fun _ _ ⟨v, h1, ⟨a, n, c, f, h2, h3, h4, h5⟩, h6⟩ => ⟨a, n, c, by rw [h1, h2], ⟨a, n, c, f, rfl, h3, h4, h5⟩, h6⟩
set_option maxHeartbeats 1600000 in
set_option maxRecDepth 100000 in
theorem from_any (X : Int) (w : World) (h : -9223372036854775808 ≤ X ∧ X ≤ 9223372036854775807) :
    Calls Tryz.prog 76 #[.int .i64 X] w fun e w' => IntTold w w' e X := by
  have B0 := Lib.hid ((Bag.start w).box2 (.slice none 0 0) (.bool false) 75)
  by_cases h0 : X < 0
  · obtain ⟨y, hy⟩ : ∃ y : Nat, (y : Int) = -X := ⟨(-X).toNat, by omega⟩
    have d0 : decide (X < 0) = true := decide_eq_true h0
    have e2 : IntKind.u64.wrap (-IntKind.u64.wrap X) = (y : Int) := by
      rw [IntKind.wrap_u64, IntKind.wrap_u64]; omega
    have hyl : y < 18446744073709551616 := by omega
    have HZ : Hid (sgn true y = X) := by show _ = _; unfold sgn; simp; omega
    have HO : Hid (∀ wz, Calls Tryz.prog 105 #[.int .u64 y] wz fun e w' => ∃ a n c, e = .returned (.agg #[.slice a n c]) ∧ NatIs w' (.agg #[.slice a n c]) y ∧ Below wz.heap.size wz w') := fun wz => of_pl2 y wz hyl
    clear hy h
    go_enter Tryz.func76, Tryz.ntmps76
    go_wp2_with fail
    go_at_call 105
    refine (HO.out _).mono ?_
    rintro e w2 ⟨a2, n2, c2, rfl, hi2, hb2⟩
    have BB := Lib.hid ((B0.out.go hb2).nat hi2)
    clear hi2 hb2
    go_wp2_with fail
    go_at_call 104
    refine (wof_any true a2 n2 c2 y _ BB.out.now.1).mono ?_
    rintro e w3 ⟨a3, n3, c3, m3, rfl, hi3, hb3⟩
    rw [HZ.out] at hi3
    have B3 := BB.out.go hb3
    have hs2 := B3.now.2.1
    have hc1 := hs2.cell
    have hc2 := hs2.cell1
    have hf1 := hs2.free
    have hf2 := hs2.free1
    have HS := hs2.set (.slice a3 n3 c3) (.bool m3)
    have HE := Lib.hid (IntTold.done B3.below (Nat.le_refl _) hs2 (fun _ _ h => by cases h) hi3)
    clear hb3 B3 hs2 hi3
    go_wp2
    exact bodyPost_ret (v := _) (by simp [results, Tryz.results76, go_sem, HS]) rfl HE.out
  · obtain ⟨y, rfl⟩ : ∃ y : Nat, X = (y : Int) := ⟨X.toNat, by omega⟩
    have d0 : decide ((y : Int) < 0) = false := decide_eq_false h0
    have hyl : y < 18446744073709551616 := by omega
    have HZ : Hid (sgn false y = (y : Int)) := by show _ = _; unfold sgn; simp
    have HO : Hid (∀ wz, Calls Tryz.prog 105 #[.int .u64 y] wz fun e w' => ∃ a n c, e = .returned (.agg #[.slice a n c]) ∧ NatIs w' (.agg #[.slice a n c]) y ∧ Below wz.heap.size wz w') := fun wz => of_pl2 y wz hyl
    have hy2 : (y : Int) ≤ 9223372036854775807 := h.2
    clear h
    go_enter Tryz.func76, Tryz.ntmps76
    go_wp2_with fail
    go_at_call 105
    refine (HO.out _).mono ?_
    rintro e w2 ⟨a2, n2, c2, rfl, hi2, hb2⟩
    have BB := Lib.hid ((B0.out.go hb2).nat hi2)
    clear hi2 hb2
    go_wp2_with fail
    go_at_call 104
    refine (wof_any false a2 n2 c2 y _ BB.out.now.1).mono ?_
    rintro e w3 ⟨a3, n3, c3, m3, rfl, hi3, hb3⟩
    rw [HZ.out] at hi3
    have B3 := BB.out.go hb3
    have hs2 := B3.now.2.1
    have hc1 := hs2.cell
    have hc2 := hs2.cell1
    have hf1 := hs2.free
    have hf2 := hs2.free1
    have HS := hs2.set (.slice a3 n3 c3) (.bool m3)
    have HE := Lib.hid (IntTold.done B3.below (Nat.le_refl _) hs2 (fun _ _ h => by cases h) hi3)
    clear hb3 B3 hs2 hi3
    go_wp2
    exact bodyPost_ret (v := _) (by simp [results, Tryz.results76, go_sem, HS]) rfl HE.out
/-- The number, if it fits 64 bits. -/
def fitB (Z : Int) : Bool := decide (-9223372036854775808 ≤ Z ∧ Z ≤ 9223372036854775807)
def fitI (Z : Int) : Int := if fitB Z then Z else 0
theorem ret_ib {k : IntKind} {a b : Int} {x y : Bool} (h : a = b) (h' : x = y) : Ending.returned (.tuple #[.int k a, .bool x]) = .returned (.tuple #[.int k b, .bool y]) := by rw [h, h']
set_option maxHeartbeats 1600000 in
set_option maxRecDepth 100000 in
theorem int_any (a : Option Addr) (n c : Nat) (m : Bool) (Z : Int) (w : World) (h : IntAt w a n c m Z) :
    Calls Tryz.prog 88 #[.agg #[.slice a n c, .bool m]] w fun e w' => e = .returned (.tuple #[.int .i64 (fitI Z), .bool (fitB Z)]) ∧ Below w.heap.size w w' := by
  have B0 := ((Bag.start w).int h).box2 (.slice a n c) (.bool m) 75
  have q0 := B0.now.1.cell
  have q1 := B0.now.1.cell1
  have hu := uint_any _ _ _ B0.now.2.1.2
  have BB := Lib.hid B0
  have hm := h.1
  obtain ⟨N, hN⟩ : ∃ N, Z.natAbs = N := ⟨_, rfl⟩
  rw [hN] at hu
  unfold UintOut at hu
  clear h B0
  by_cases hbig : N < 18446744073709551616
  · rw [if_pos hbig, decide_eq_true hbig] at hu
    have HU := Lib.hid hu
    clear hu
    by_cases hz : Z < 0
    · rw [decide_eq_true hz] at hm
      subst hm
      have hZN : Z = -(N : Int) := by omega
      by_cases h63 : N ≤ 9223372036854775808
      · have HE : Hid (fitI Z = -(N : Int) ∧ fitB Z = true) := by
          have : fitB Z = true := decide_eq_true (by omega)
          exact ⟨by unfold fitI; rw [this, if_pos rfl]; exact hZN, this⟩
        have d2 : decide ((N : Int) ≤ 9223372036854775808) = true := decide_eq_true (by omega)
        have e2 : IntKind.i64.wrap (IntKind.u64.wrap (-(N : Int))) = -(N : Int) := by
          rw [IntKind.wrap_i64, IntKind.wrap_u64]; omega
        clear hz hZN hN hbig
        by_cases h62 : N ≤ 9223372036854775807
        all_goals
          first
            | have d1 : decide ((N : Int) ≤ 9223372036854775807) = true := decide_eq_true (by omega)
            | have d1 : decide ((N : Int) ≤ 9223372036854775807) = false := decide_eq_false (by omega)
          clear h62 h63
          go_enter Tryz.func88, Tryz.ntmps88
          go_wp2_with (first
            | (go_at_call 118; refine HU.out.mono ?_; rintro e w2 ⟨rfl, hb2⟩; have BB := Lib.hid (BB.out.go hb2); clear hb2 q0 q1; have q0 := BB.out.now.1.cell; have q1 := BB.out.now.1.cell1)
            | (go_at_call 119; refine (neg_any a n c true Z _ BB.out.now.2.1).mono ?_; rintro e w2 ⟨rfl, hb2⟩; have BB := Lib.hid (BB.out.go hb2); clear hb2 q0 q1; have q0 := BB.out.now.1.cell; have q1 := BB.out.now.1.cell1))
          go_ret2
          exact ⟨ret_ib HE.out.1.symm HE.out.2.symm, BB.out.below⟩
      · have HE : Hid (fitI Z = 0 ∧ fitB Z = false) := by
          have : fitB Z = false := decide_eq_false (by omega)
          exact ⟨by unfold fitI; rw [this]; rfl, this⟩
        have d1 : decide ((N : Int) ≤ 9223372036854775807) = false := decide_eq_false (by omega)
        have d2 : decide ((N : Int) ≤ 9223372036854775808) = false := decide_eq_false (by omega)
        clear hz hZN hN hbig h63
        go_enter Tryz.func88, Tryz.ntmps88
        go_wp2_with (first
          | (go_at_call 118; refine HU.out.mono ?_; rintro e w2 ⟨rfl, hb2⟩; have BB := Lib.hid (BB.out.go hb2); clear hb2 q0 q1; have q0 := BB.out.now.1.cell; have q1 := BB.out.now.1.cell1))
        go_ret2
        exact ⟨ret_ib HE.out.1.symm HE.out.2.symm, BB.out.below⟩
    · rw [decide_eq_false hz] at hm
      subst hm
      have hZN : Z = (N : Int) := by omega
      by_cases h63 : N ≤ 9223372036854775807
      · have HE : Hid (fitI Z = (N : Int) ∧ fitB Z = true) := by
          have : fitB Z = true := decide_eq_true (by omega)
          exact ⟨by unfold fitI; rw [this, if_pos rfl]; exact hZN, this⟩
        have d1 : decide ((N : Int) ≤ 9223372036854775807) = true := decide_eq_true (by omega)
        have hl : (N : Int) ≤ 9223372036854775807 := by omega
        clear hz hZN hN hbig h63
        go_enter Tryz.func88, Tryz.ntmps88
        go_wp2_with (first
          | (go_at_call 118; refine HU.out.mono ?_; rintro e w2 ⟨rfl, hb2⟩; have BB := Lib.hid (BB.out.go hb2); clear hb2 q0 q1; have q0 := BB.out.now.1.cell; have q1 := BB.out.now.1.cell1)
          | (go_at_call 119; refine (neg_any a n c false Z _ BB.out.now.2.1).mono ?_; rintro e w2 ⟨rfl, hb2⟩; have BB := Lib.hid (BB.out.go hb2); clear hb2 q0 q1; have q0 := BB.out.now.1.cell; have q1 := BB.out.now.1.cell1))
        go_ret2
        exact ⟨ret_ib HE.out.1.symm HE.out.2.symm, BB.out.below⟩
      · have HE : Hid (fitI Z = 0 ∧ fitB Z = false) := by
          have : fitB Z = false := decide_eq_false (by omega)
          exact ⟨by unfold fitI; rw [this]; rfl, this⟩
        have d1 : decide ((N : Int) ≤ 9223372036854775807) = false := decide_eq_false (by omega)
        clear hz hZN hN hbig
        by_cases h62 : N ≤ 9223372036854775808
        all_goals
          first
            | have d2 : decide ((N : Int) ≤ 9223372036854775808) = true := decide_eq_true (by omega)
            | have d2 : decide ((N : Int) ≤ 9223372036854775808) = false := decide_eq_false (by omega)
          clear h62 h63
          go_enter Tryz.func88, Tryz.ntmps88
          go_wp2_with (first
            | (go_at_call 118; refine HU.out.mono ?_; rintro e w2 ⟨rfl, hb2⟩; have BB := Lib.hid (BB.out.go hb2); clear hb2 q0 q1; have q0 := BB.out.now.1.cell; have q1 := BB.out.now.1.cell1)
            | (go_at_call 119; refine (neg_any a n c false Z _ BB.out.now.2.1).mono ?_; rintro e w2 ⟨rfl, hb2⟩; have BB := Lib.hid (BB.out.go hb2); clear hb2 q0 q1; have q0 := BB.out.now.1.cell; have q1 := BB.out.now.1.cell1))
          go_ret2
          exact ⟨ret_ib HE.out.1.symm HE.out.2.symm, BB.out.below⟩
  · rw [if_neg hbig, decide_eq_false hbig] at hu
    have HU := Lib.hid hu
    have HE : Hid (fitI Z = 0 ∧ fitB Z = false) := by
      have : fitB Z = false := decide_eq_false (by omega)
      exact ⟨by unfold fitI; rw [this]; rfl, this⟩
    clear hu hbig hN hm
    go_enter Tryz.func88, Tryz.ntmps88
    go_wp2_with (first
      | (go_at_call 118; refine HU.out.mono ?_; rintro e w2 ⟨rfl, hb2⟩; have BB := Lib.hid (BB.out.go hb2); clear hb2 q0 q1; have q0 := BB.out.now.1.cell; have q1 := BB.out.now.1.cell1))
    go_ret2
    exact ⟨ret_ib HE.out.1.symm HE.out.2.symm, BB.out.below⟩
end Go.Proofs.YtifnamlgkooacaaGreatDoor
namespace Go.Proofs.YtifnamlgkooacaaGreatDoor
open Go.RowKit
theorem dec_small {N : Nat} (h : N < 10) : dec N = [UInt8.ofNat (48 + N)] := by
  have : dl N = 1 := by unfold dl; rw [dif_pos h]
  unfold dec; rw [this, sdig, sdig]
  unfold dgt
  rw [Nat.pow_zero, Nat.div_one, Nat.mod_eq_of_lt h]
/-- A number that is told, its value's parts named. -/
def NatTold (w w' : World) (e : Ending) (N : Nat) : Prop := ∃ a n c, e = .returned (.agg #[.slice a n c]) ∧ NatIs w' (.agg #[.slice a n c]) N ∧ Below w.heap.size w w'
theorem NatOut.told {w w' : World} {e : Ending} {N : Nat} (h : NatOut w w' e N) : NatTold w w' e N := by
  obtain ⟨v, rfl, hv, hb⟩ := h
  obtain ⟨a, n, c, f, rfl, hs, hv, ht⟩ := hv
  exact ⟨a, n, c, rfl, ⟨a, n, c, f, rfl, hs, hv, ht⟩, hb⟩
theorem NatIs.alloc {w : World} {v : Value} {N : Nat} (h : NatIs w v N) (o : Obj) : NatIs (w.alloc o) v N := h.below ((Below.refl _ _).alloc (Nat.le_refl _) _)
theorem of_told (x : Nat) (w : World) (hx : x < 18446744073709551616) : Calls Tryz.prog 105 #[.int .u64 x] w fun e w' => NatTold w w' e x :=
  (of_any x w hx).mono fun _ _ h => h.told
end Go.Proofs.YtifnamlgkooacaaGreatDoor

namespace Go.Proofs.YtifnamlgkooacaaGreatDoor
open Go.RowKit
/-- The cells of an array. -/
def arrC (ch : Bool) (more : Int) (d : Nat → Int) (na : Option Addr) (nn nc : Nat) (ta : Option Addr) (tn tc : Nat) : Array Value :=
  #[.bool ch, .int .i64 more, .int .i64 (d 0), .int .i64 (d 1), .int .i64 (d 2), .int .i64 (d 3), .int .i64 (d 4), .int .i64 (d 5), .int .i64 (d 6), .int .i64 (d 7), .slice na nn nc, .slice ta tn tc]
/-- The axes as they are kept. -/
def dm (f : Nat → Int) (n j : Nat) : Int := if j < n then f j else 0
/-- A block of cells, known whole, none of them frozen. -/
def Row (w : World) (g : Nat) (t : TypeId) (cs : Array Value) : Prop := w.heap[g]? = some (.cells cs t (0, 0))
theorem Row.lt {w : World} {g : Nat} {t : TypeId} {cs : Array Value} (h : Row w g t cs) : g < w.heap.size := by
  rcases Nat.lt_or_ge g w.heap.size with h1 | h1
  · exact h1
  · unfold Row at h; rw [Array.getElem?_eq_none h1] at h; cases h
theorem Row.below {w w' : World} {g : Nat} {t : TypeId} {cs : Array Value} (h : Row w g t cs) (hb : Below w.heap.size w w') : Row w' g t cs := (hb.block g h.lt).trans h
theorem Row.new (w : World) (t : TypeId) (cs : Array Value) : Row (w.alloc (.cells cs t)) w.heap.size t cs := heap_new _ _
theorem Row.cell {w : World} {g : Nat} {t : TypeId} {cs : Array Value} (h : Row w g t cs) (i : Nat) : w.cell? ⟨g, i, none⟩ = cs[i]? := cell_of_row w g i cs t (0, 0) h
theorem Row.free {w : World} {g : Nat} {t : TypeId} {cs : Array Value} (h : Row w g t cs) (i : Nat) : w.frozen? ⟨g, i, none⟩ = false := frozen_of_row w g i cs t h
theorem Bag.row {w0 w : World} {P : World → Prop} {g : Nat} {t : TypeId} {cs : Array Value} (h : Bag w0 P w) (q : Row w g t cs) : Bag w0 (fun y => Row y g t cs ∧ P y) w := h.add (fun _ _ hb q => q.below hb) q
theorem arrC_one (ch : Bool) (more : Int) (d : Nat → Int) (na : Option Addr) (nn nc : Nat) (ta : Option Addr) (tn tc : Nat) : (arrC ch more d na nn nc ta tn tc).all (·.oneCell') = true := by simp [arrC, Value.oneCell']
theorem arr12 : (Tryz.prog.info? 32).map (·.size) = some 12 := by kernel_rfl
/-- An array loaded, stored, as a whole. -/
theorem ld_arr {ops : Array Oper} {rest : List Oper} {o : Oper} {a : Act} {w : World} {Q : Exit → Act → World → Prop} (hgd : o.guard = none) (x : Operand) (ho : o.op = .load 32 x) (g : Nat) (hx : a.eval x = .pointer (some ⟨g, 0, none⟩))
    {ch : Bool} {more : Int} {d : Nat → Int} {na : Option Addr} {nn nc : Nat} {ta : Option Addr} {tn tc : Nat} (hg : Row w g 32 (arrC ch more d na nn nc ta tn tc))
    (h : wpList Tryz.prog ops Q rest (a.put o.dst (.agg (arrC ch more d na nn nc ta tn tc))) w) : wpList Tryz.prog ops Q (o :: rest) a w :=
  wpList_load_row hgd _ x ho g hx _ _ (0, 0) _ hg Tryz.underlying32 rfl arr12 h
theorem st_arr {ops : Array Oper} {rest : List Oper} {o : Oper} {a : Act} {w : World} {Q : Exit → Act → World → Prop} (hgd : o.guard = none) (x y : Operand) (ho : o.op = .store 32 x y) (g : Nat) (hx : a.eval x = .pointer (some ⟨g, 0, none⟩))
    (ch : Bool) (more : Int) (d : Nat → Int) (na : Option Addr) (nn nc : Nat) (ta : Option Addr) (tn tc : Nat) (hy : a.eval y = .agg (arrC ch more d na nn nc ta tn tc)) {old : Array Value} (hg : Row w g 32 old) (ho2 : old.size = 12)
    (h : wpList Tryz.prog ops Q rest (a.put o.dst undef) (w.setRow g (arrC ch more d na nn nc ta tn tc))) : wpList Tryz.prog ops Q (o :: rest) a w :=
  wpList_store_row hgd _ x y ho g _ hx hy _ old hg arr12 ho2 (arrC_one _ _ _ _ _ _ _ _ _) h
theorem Row.put {w : World} {g : Nat} {t : TypeId} {cs : Array Value} (h : Row w g t cs) (cs' : Array Value) : Row (w.setRow g cs') g t cs' := setRow_heap w g cs cs' t (0, 0) h
theorem Row.puto {w : World} {g k : Nat} {t : TypeId} {cs : Array Value} (h : Row w g t cs) (e : g ≠ k) (cs' : Array Value) : Row (w.setRow k cs') g t cs := (setRow_other w k g cs' e).trans h
theorem below_put {w w1 : World} {g : Nat} (h : Below w.heap.size w w1) (hg : w.heap.size ≤ g) (cs : Array Value) : Below w.heap.size w (w1.setRow g cs) :=
  ⟨h.os, h.tape, h.output, by simpa using h.size, fun k hk => (setRow_other w1 g k cs (by omega)).trans (h.block k hk)⟩
/-- The result of a function that answers an array, or an array and a truth. -/
theorem res_arr {fn : Func} {p : Tmp} {tmps : Array Value} {w : World} {g : Nat} {cs : Array Value} (h : fn.results = #[.cell p 32]) (hp : tmps.getD p undef = .pointer (some ⟨g, 0, none⟩)) (hg : Row w g 32 cs) (hs : cs.size = 12) :
    (results fn tmps).run Tryz.prog w = .ok (.agg cs) w :=
  results_cell_row h tmps w g _ cs (0, 0) _ hp hg Tryz.underlying32 rfl (by rw [arr12, hs])
theorem res_arr2 {fn : Func} {p q : Tmp} {tmps : Array Value} {w : World} {g : Nat} {cs : Array Value} {v : Value} (h : fn.results = #[.cell p 32, .tmp q]) (hp : tmps.getD p undef = .pointer (some ⟨g, 0, none⟩)) (hq : tmps.getD q undef = v) (hg : Row w g 32 cs) (hs : cs.size = 12) :
    (results fn tmps).run Tryz.prog w = .ok (.tuple #[.agg cs, v]) w := by
  have hp' : tmps[p]?.getD undef = .pointer (some ⟨g, 0, none⟩) := by simpa using hp
  have hq' : tmps[q]?.getD undef = v := by simpa using hq
  simp [results, h, hp', hq', asAddr, run_loadVar_row w g _ _ cs (0, 0) _ hg Tryz.underlying32 rfl (by rw [arr12, hs])]
/-- What bare answers. -/
def BareTold (b : Bool) (f : Nat → Int) (n : Nat) (w w' : World) (e : Ending) : Prop :=
  e = .returned (.tuple #[.agg (if b then arrC false ((n : Int) - 1) (dm f n) none 0 0 none 0 0 else arrC false 0 (fun _ => 0) none 0 0 none 0 0), .bool b]) ∧ Below w.heap.size w w'
theorem In64.le8 {f : Nat → Int} {n : Nat} (h : shB f n = true) : n ≤ 8 := by
  unfold shB at h
  rw [Bool.and_eq_true, decide_eq_true_eq] at h
  exact h.1
set_option maxHeartbeats 1600000 in
set_option maxRecDepth 100000 in
theorem bare_no (a : Option Addr) (n c : Nat) (f : Nat → Int) (m : Int) (w : World) (h : KRow w .i64 a n c f) (hf : In64 f n) (hno : (shB f n && decide (itm f n = m)) = false) :
    Calls Tryz.prog 77 #[.slice a n c, .int .i64 m] w fun e w' => BareTold false f n w w' e := by
  have CN := Lib.hid (fun wz (h : KRow wz .i64 a n c f) => count_any a n c f wz h hf)
  unfold CntTold cntI at CN
  have HB : Hid (Below w.heap.size w (w.alloc (.cells (arrC false 0 (fun _ => 0) none 0 0 none 0 0) 32))) := (Below.refl _ _).alloc (Nat.le_refl _) _
  have HE : Hid (BareTold false f n w (w.alloc (.cells (arrC false 0 (fun _ => 0) none 0 0 none 0 0) 32)) (.returned (.tuple #[.agg (arrC false 0 (fun _ => 0) none 0 0 none 0 0), .bool false]))) := ⟨rfl, HB.out⟩
  unfold arrC at HE
  have HK := Lib.hid h
  have hl := h.len
  clear h hf
  cases hs : shB f n with
  | false =>
    rw [hs] at CN
    rw [if_neg (by decide)] at CN
    clear hs hno
    go_enter Tryz.func77, Tryz.ntmps77
    go_wp2_with fail
    go_at_call 74
    (with_reducible refine (CN.out _ (HK.out.below ?_)).mono ?_)
    · exact HB.out
    rintro e w2 ⟨rfl, rfl⟩
    go_wp2
    exact bodyPost_ret (v := .tuple #[.agg #[.bool false, .int .i64 0, .int .i64 0, .int .i64 0, .int .i64 0, .int .i64 0, .int .i64 0, .int .i64 0, .int .i64 0, .int .i64 0, .slice none 0 0, .slice none 0 0], .bool false]) (by simp [results, Tryz.results77, go_sem]) rfl HE.out
  | true =>
    rw [hs] at CN hno
    rw [if_pos rfl] at CN
    rw [Bool.true_and, decide_eq_false_iff_not] at hno
    have hne : (itm f n != m) = true := bne_iff_ne.2 hno
    clear hs hno
    go_enter Tryz.func77, Tryz.ntmps77
    go_wp2_with fail
    go_at_call 74
    (with_reducible refine (CN.out _ (HK.out.below ?_)).mono ?_)
    · exact HB.out
    rintro e w2 ⟨rfl, rfl⟩
    go_wp2
    exact bodyPost_ret (v := .tuple #[.agg #[.bool false, .int .i64 0, .int .i64 0, .int .i64 0, .int .i64 0, .int .i64 0, .int .i64 0, .int .i64 0, .int .i64 0, .int .i64 0, .slice none 0 0, .slice none 0 0], .bool false]) (by simp [results, Tryz.results77, go_sem]) rfl HE.out
/-- The axes' lengths laid over noughts. -/
theorem dm_splice (f : Nat → Int) (n : Nat) (h : n ≤ 8) (x0 x1 x2 x3 : Value) (z : Value) (hz : z = .int .i64 0) :
    splice [x0, x1, z, z, z, z, z, z, z, z, x2, x3] 2 ((List.range n).map fun j => .int .i64 (f j)) =
    [x0, x1, .int .i64 (dm f n 0), .int .i64 (dm f n 1), .int .i64 (dm f n 2), .int .i64 (dm f n 3), .int .i64 (dm f n 4), .int .i64 (dm f n 5), .int .i64 (dm f n 6), .int .i64 (dm f n 7), x2, x3] := by
  subst hz
  have hn : n = 0 ∨ n = 1 ∨ n = 2 ∨ n = 3 ∨ n = 4 ∨ n = 5 ∨ n = 6 ∨ n = 7 ∨ n = 8 := by omega
  rcases hn with rfl | rfl | rfl | rfl | rfl | rfl | rfl | rfl | rfl <;> rfl
set_option maxHeartbeats 1600000 in
set_option maxRecDepth 100000 in
theorem bare_yes (a : Option Addr) (n c : Nat) (f : Nat → Int) (m : Int) (w : World) (h : KRow w .i64 a n c f) (hf : In64 f n) (hs : shB f n = true) (hm : itm f n = m) :
    Calls Tryz.prog 77 #[.slice a n c, .int .i64 m] w fun e w' => BareTold true f n w w' e := by
  have CN := Lib.hid (fun wz (h : KRow wz .i64 a n c f) => count_any a n c f wz h hf)
  unfold CntTold cntI at CN
  have HB : Hid (Below w.heap.size w (w.alloc (.cells (arrC false 0 (fun _ => 0) none 0 0 none 0 0) 32))) := (Below.refl _ _).alloc (Nat.le_refl _) _
  have HK := Lib.hid h
  have hl := h.len
  have h8 := In64.le8 hs
  have hne : (m != m) = false := bne_self_eq_false m
  rw [hs, if_pos rfl, hm] at CN
  have hw : IntKind.i64.wrap ((n : Int) - 1) = (n : Int) - 1 := IntWalk.i64_in _ (by omega)
  clear h hf hs hm
  go_enter Tryz.func77, Tryz.ntmps77
  go_wp2_with fail
  go_at_call 74
  (with_reducible refine (CN.out _ (HK.out.below ?_)).mono ?_)
  · exact HB.out
  rintro e w2 ⟨rfl, rfl⟩
  have H8 := Lib.hid h8
  clear h8
  go_wp2_with (refine wpList_copy_splice rfl (.tmp 27) (.tmp 28) 22 22 rfl 3 Tryz.underlying22 (by kernel_rfl) _ _ _ _ _ _ rfl rfl (w.heap.size + 1) 2 [.bool false, .int .i64 ((n : Int) - 1), .int .i64 0, .int .i64 0, .int .i64 0, .int .i64 0, .int .i64 0, .int .i64 0, .int .i64 0, .int .i64 0, .slice none 0 0, .slice none 0 0] 32 ?hg ((List.range n).map fun j => .int .i64 (f j)) ?hn ?hpos ?hfit ?h1 (w.heap.size + 1) (w.alloc (.cells #[.bool false, .int .i64 0, .int .i64 0, .int .i64 0, .int .i64 0, .int .i64 0, .int .i64 0, .int .i64 0, .int .i64 0, .int .i64 0, .slice none 0 0, .slice none 0 0] 32)) ?hb (Nat.le_refl _) ?_)
  case hg => exact heap_alloc2_new _ _ _
  case hn => rw [List.length_map, List.length_range]; exact (Nat.min_eq_left H8.out).symm
  case hpos =>
    intro h0
    have h0 : 0 < n := by simpa using h0
    obtain ⟨b, off, rfl, hb, hc⟩ := HK.out.2.2.resolve_left (by omega)
    refine ⟨_, rfl, fun j x hj => ?_⟩
    simp only [List.getElem?_eq_some_iff, List.getElem_range] at hj
    obtain ⟨hj1, rfl⟩ := hj
    rw [show (⟨b, off, none⟩ : Addr).add j = ⟨b, off + j, none⟩ by simp [Addr.add], ← hc j (by simpa using hj1)]
    rw [World.cell?_alloc_lt _ _ ⟨b, off + j, none⟩ (by simp; omega)]
    exact World.cell?_alloc_lt w _ ⟨b, off + j, none⟩ hb
  case hfit => have := H8.out; simp; omega
  case h1 =>
    intro v hv
    simp at hv
    obtain ⟨_, _, rfl⟩ := hv
    rfl
  case hb => exact (Below.refl _ _).alloc (by simp) _
  · intro w1 hg1 hb1
    have hr0 : Row w1 w.heap.size 32 _ := (hb1.block w.heap.size (by omega)).trans (heap_new _ _)
    have hr1 : Row w1 (w.heap.size + 1) 32 _ := hg1.out
    rw [dm_splice f n H8.out _ _ _ _ _ rfl] at hr1
    have hbw : Below w.heap.size w w1 := ((Below.refl w.heap.size w).alloc (Nat.le_refl _) _).trans (hb1.mono (Nat.le_succ _))
    clear hg1 hb1
    have HE : Hid (BareTold true f n w (w1.setRow w.heap.size (arrC false ((n : Int) - 1) (dm f n) none 0 0 none 0 0)) (.returned (.tuple #[.agg (arrC false ((n : Int) - 1) (dm f n) none 0 0 none 0 0), .bool true]))) := ⟨rfl, below_put hbw (Nat.le_refl _) _⟩
    go_wp2_with (first
      | (refine ld_arr rfl (.tmp 8) rfl (w.heap.size + 1) rfl (ch := false) (more := (n : Int) - 1) (d := dm f n) (na := none) (nn := 0) (nc := 0) (ta := none) (tn := 0) (tc := 0) hr1 ?_)
      | (refine st_arr rfl (.tmp 4) (.tmp 30) rfl w.heap.size rfl _ _ _ _ _ _ _ _ _ rfl hr0 rfl ?_))
    exact bodyPost_ret (res_arr2 Tryz.results77 rfl rfl (hr0.put _) rfl) rfl HE.out
theorem bare_any (a : Option Addr) (n c : Nat) (f : Nat → Int) (m : Int) (w : World) (h : KRow w .i64 a n c f) (hf : In64 f n) :
    Calls Tryz.prog 77 #[.slice a n c, .int .i64 m] w fun e w' => BareTold (shB f n && decide (itm f n = m)) f n w w' e := by
  cases hb : shB f n && decide (itm f n = m) with
  | false => exact bare_no a n c f m w h hf hb
  | true =>
    rw [Bool.and_eq_true, decide_eq_true_eq] at hb
    exact bare_yes a n c f m w h hf hb.1 hb.2
end Go.Proofs.YtifnamlgkooacaaGreatDoor

namespace Go.Proofs.YtifnamlgkooacaaGreatDoor
open Go.RowKit
theorem KRow.nought (w : World) (ki : IntKind) (a : Option Addr) (c : Nat) (hc : c ≤ maxLen) (f : Nat → Int) : KRow w ki a 0 c f := ⟨Nat.zero_le _, hc, .inl rfl⟩
theorem Bag.krow {w0 w : World} {B : World → Prop} {ki : IntKind} {a : Option Addr} {n c : Nat} {f : Nat → Int} (h : Bag w0 B w) (q : KRow w ki a n c f) : Bag w0 (fun y => KRow y ki a n c f ∧ B y) w := h.add (fun _ _ hb q => KRow.below q hb) q
theorem Bag.newRow {w0 w : World} {B : World → Prop} (h : Bag w0 B w) (cs : Array Value) (t : TypeId) : Bag w0 (fun y => Row y w.heap.size t cs ∧ B y) (w.alloc (.cells cs t)) := (h.alloc _).row (Row.new w t cs)
theorem Row.set {w : World} {g : Nat} {t : TypeId} {cs : Array Value} (h : Row w g t cs) (i : Nat) (v : Value) : Row (w.setCell ⟨g, i, none⟩ v) g t (cs.setIfInBounds i v) := heap_setCell_same w g i cs t v h
theorem Row.far {w : World} {g : Nat} {t : TypeId} {cs : Array Value} (h : Row w g t cs) {a : Addr} (e : g ≠ a.block) (v : Value) : Row (w.setCell a v) g t cs := (heap_setCell_other w a g v e).trans h
/-- Another world in which one block alone may have turned. -/
structure Far (g : Nat) (w w' : World) : Prop where
  size : w.heap.size ≤ w'.heap.size
  block : ∀ k, k ≠ g → k < w.heap.size → w'.heap[k]? = w.heap[k]?
theorem Far.setCell (w : World) (g o : Nat) (v : Value) : Far g w (w.setCell ⟨g, o, none⟩ v) := ⟨by simp, fun k hk _ => heap_setCell_other w ⟨g, o, none⟩ k v hk⟩
theorem Far.setRow (w : World) (g : Nat) (cs : Array Value) : Far g w (w.setRow g cs) := ⟨by simp, fun k hk _ => setRow_other w g k cs hk⟩
theorem Far.cell {g : Nat} {w w' : World} (h : Far g w w') {a : Addr} (hg : a.block ≠ g) (hl : a.block < w.heap.size) : w'.cell? a = w.cell? a := World.cell?_of_block (h.block _ hg hl)
/-- Are the first integers alike? -/
def sameB (f g : Nat → Int) : Nat → Bool
  | 0 => true
  | k + 1 => sameB f g k && decide (f k = g k)
theorem sameB_iff {f g : Nat → Int} {n : Nat} : sameB f g n = true ↔ ∀ j, j < n → f j = g j := by
  induction n with
  | zero => exact ⟨fun _ j h => absurd h (Nat.not_lt_zero _), fun _ => rfl⟩
  | succ n ih =>
    show (sameB f g n && decide (f n = g n)) = true ↔ _
    rw [Bool.and_eq_true, ih, decide_eq_true_eq]
    constructor
    · rintro ⟨h1, h2⟩ j hj
      rcases Nat.lt_or_ge j n with h | h
      · exact h1 j h
      · obtain rfl : j = n := by omega
        exact h2
    · exact fun h => ⟨fun j hj => h j (by omega), h n (by omega)⟩
/-- What IntsSame answers. -/
def SameTold (b : Bool) (w w' : World) (e : Ending) : Prop := e = .returned (.bool b) ∧ Below w.heap.size w w'
set_option maxHeartbeats 1600000 in
set_option maxRecDepth 100000 in
theorem r6Same_any (a : Option Addr) (n c : Nat) (f : Nat → Int) (a2 : Option Addr) (n2 c2 : Nat) (g : Nat → Int) (w : World) (h : KRow w .i64 a n c f) (h2 : KRow w .i64 a2 n2 c2 g) :
    Calls Tryz.prog 24 #[.slice a n c, .slice a2 n2 c2] w fun e w' => SameTold (decide (n = n2) && sameB f g n) w w' e := by
  have hl := h.len
  have hl2 := h2.len
  have H1 := Lib.hid h
  have H2 := Lib.hid h2
  clear h h2
  by_cases hn : n = n2
  · subst hn
    rw [decide_eq_true rfl, Bool.true_and]
    have dn : ((n : Int) != n) = false := bne_self_eq_false _
    go_enter Tryz.func24, Tryz.ntmps24
    go_wp2
    go_loopw [5] (fun i wr => ∃ k : Nat, k ≤ n ∧ i = .int .i64 k ∧ Hid (Below w.heap.size w wr ∧ sameB f g k = true)) (fun i _ => n - (intOf i).toNat)
    case atStart => exact ⟨0, by omega, rfl, Below.refl _ _, rfl⟩
    case round =>
      obtain ⟨k, hk, rfl, hrel⟩ := hrel
      obtain ⟨hbl, hsm⟩ := hrel.out
      by_cases hlt : k < n
      · obtain ⟨b, off, rfl, hb, hc⟩ := (H1.out.below hbl).get hlt
        obtain ⟨b2, off2, rfl, hb2, hc2⟩ := (H2.out.below hbl).get hlt
        have HBL := Lib.hid hbl
        have hk0 : (0 : Int) ≤ k := by omega
        have hk1 : (k : Int) < n := by omega
        have hk2 : (k : Int) ≤ n := by omega
        by_cases hq : f k = g k
        · have hsm2 : Hid (sameB f g (k + 1) = true) := by show (sameB f g k && _) = true; rw [hsm, decide_eq_true hq]; rfl
          have hne : (f k != g k) = false := by rw [hq]; exact bne_self_eq_false _
          clear hbl hsm
          rw [← hq] at hc2
          have hne : (f k != f k) = false := bne_self_eq_false _
          generalize f k = x at *
          clear hq
          go_wp2_with fail
          go_quiet (fail)
          have HBE : Hid (Below w.heap.size w (wr.drewN nq) ∧ sameB f g (k + 1) = true) := ⟨below_drewN HBL.out nq, hsm2.out⟩
          go_wp2
          go_roundw
          case rel => exact ⟨k + 1, by omega, by go_num, HBE.out⟩
          case measure => simp [intOf]; omega
        · have hno : sameB f g n = false := by
            cases hx : sameB f g n with
            | false => rfl
            | true => exact absurd ((sameB_iff.1 hx) k hlt) hq
          have HN := Lib.hid hno
          have hne : (f k != g k) = true := bne_iff_ne.2 hq
          clear hbl hsm hno
          generalize f k = x at *
          generalize g k = y at *
          clear hq
          go_wp2_with fail
          go_quiet (fail)
          have HBE : Hid (SameTold (sameB f g n) w (wr.drewN nq) (.returned (.bool false))) := ⟨by rw [HN.out], below_drewN HBL.out nq⟩
          go_wp2
          go_ret
          exact HBE.out
      · obtain rfl : k = n := by omega
        have HE : Hid (SameTold (sameB f g k) w wr (.returned (.bool true))) := ⟨by rw [hsm], hbl⟩
        clear hbl hsm
        go_wp2
        go_ret
        exact HE.out
  · rw [decide_eq_false hn, Bool.false_and]
    have dn : ((n : Int) != n2) = true := bne_iff_ne.2 (by omega)
    have HE : Hid (SameTold false w w (.returned (.bool false))) := ⟨rfl, Below.refl _ _⟩
    clear hn
    go_enter Tryz.func24, Tryz.ntmps24
    go_wp2
    go_ret
    exact HE.out
/-- Where a new slice lies. -/
def NewAt (w w' : World) (a : Option Addr) (n c : Nat) : Prop := (a = none ∧ n = 0 ∧ c = 0) ∨ ∃ g, a = some ⟨g, 0, none⟩ ∧ w.heap.size ≤ g ∧ Free w' g
set_option maxHeartbeats 1600000 in
set_option maxRecDepth 100000 in
theorem cloneI_new (a : Option Addr) (n c : Nat) (f : Nat → Int) (w : World) (h : KRow w .i64 a n c f) (hn : n ≤ 1000000) :
    Calls Tryz.prog 72 #[.slice a n c] w fun e w' => ∃ a' c', e = .returned (.slice a' n c') ∧ KRow w' .i64 a' n c' f ∧ NewAt w w' a' n c' ∧ Below w.heap.size w w' := by
  obtain ⟨i0, hi, hz0, hz1, hz2⟩ := info_parts infoI
  have q22 : ∀ (w : World) (a : Option Addr) (n c n' c' : Nat), (binOp .eql 22 (.slice a n c) (.slice none n' c')).run Tryz.prog w = .ok (.bool a.isNone) w := fun w a n c n' c' => Lib.run_eql_slice_nil w _ _ a n c n' c' Tryz.underlying22
  cases a with
  | none =>
    have h0 : n = 0 := by
      rcases h.2.2 with h | ⟨_, _, h, _⟩
      · exact h
      · cases h
    subst h0
    go_enter Tryz.func72, Tryz.ntmps72
    go_wp2
    go_ret
    exact ⟨none, 0, rfl, KRow.nought _ _ _ _ (Nat.zero_le _) _, .inl ⟨rfl, rfl, rfl⟩, Below.refl _ _⟩
  | some ad =>
    have hex : ∃ news : List Value, news.length = n * 1 ∧ (∀ j u, news[j]? = some u → w.cell? (ad.add j) = some u) ∧ (∀ u ∈ news, u.oneCell' = true) ∧ ∀ j, j < n → news[j]? = some (.int .i64 (f j)) := by
      rcases h.2.2 with h0 | ⟨b, off, he, hb, hc⟩
      · subst h0
        exact ⟨[], rfl, fun j u hu => by simp at hu, fun u hu => by simp at hu, fun j hj => by omega⟩
      · obtain rfl := Option.some.inj he
        have hg : ∀ j, j < n → ((List.range n).map fun j => Value.int .i64 (f j))[j]? = some (.int .i64 (f j)) := fun j hj => by rw [List.getElem?_map, List.getElem?_range hj]; rfl
        refine ⟨(List.range n).map fun j => .int .i64 (f j), by simp, fun j u hu => ?_, fun u hu => ?_, hg⟩
        · have hj : j < n := by
            have := (List.getElem?_eq_some_iff.1 hu).1
            simpa using this
          rw [hg j hj] at hu
          obtain rfl := Option.some.inj hu
          rw [show (⟨b, off, none⟩ : Addr).add j = ⟨b, off + j, none⟩ by simp [Addr.add]]
          exact hc j hj
        · obtain ⟨j, _, rfl⟩ := List.mem_map.1 hu
          rfl
    obtain ⟨news, hl, hcell, hone, hrat⟩ := hex
    have HC := Lib.hid hcell
    have HO := Lib.hid hone
    have HR := Lib.hid hrat
    have HL := Lib.hid hl
    have HN := Lib.hid hn
    clear hcell hone hrat hl h hn
    go_enter Tryz.func72, Tryz.ntmps72
    go_wp2_with (at_builtin; refine wpList_append_own _ rfl _ _ 22 rfl w.heap.size 3 i0 _ 1 8 Tryz.underlying22 hi hz0 hz1 hz2 rfl (by omega) _ _ _ rfl (World.ownsRow_made w #[] 0 (Nat.le_refl _) (Nat.zero_le _) (by simp)) ad n c news rfl ?qc1 ?qc2 ?qc3 ?qc4 ?qc5 ?qc6 ?_)
    case qc1 => exact HL.out
    case qc2 => exact fun j u hj => Lib.cell?_alloc_some _ (HC.out j u hj)
    case qc3 => exact HO.out
    case qc4 => have := HN.out; unfold maxLen; omega
    case qc5 => have := HN.out; omega
    case qc6 => simp
    intro v' w1 hown hgrow hnil
    have hb : Below w.heap.size w w1 := ((Below.refl _ w).alloc (Nat.le_refl _) _).grown hgrow (by simp) (by intro k hk; simp [Value.ownBlock] at hk; omega)
    have HE : Hid (∃ a' c', v' = .slice a' n c' ∧ KRow w1 .i64 a' n c' f ∧ NewAt w w1 a' n c') := by
      rcases hown.2 with ⟨rfl, h0⟩ | ⟨g, cap, cur, rfl, hge, hh, h1, h2, _, hcs⟩
      · subst h0
        exact ⟨none, 0, rfl, KRow.nought _ _ _ _ (Nat.zero_le _) _, .inl ⟨rfl, rfl, rfl⟩⟩
      · refine ⟨some ⟨g, 0, none⟩, cap, rfl, ⟨h1, h2, .inr ⟨g, 0, rfl, Row.lt (t := 3) hh, fun j hj => ?_⟩⟩, .inr ⟨g, rfl, hge, Free.of_block hh⟩⟩
        have := hown.cells (g := g) rfl j _ (HR.out j hj)
        rwa [show (⟨g, 0, none⟩ : Addr).add j = ⟨g, 0 + j, none⟩ by unfold Addr.add; split <;> simp_all] at this
    have HB := Lib.hid hb
    clear hown hgrow hnil hb
    go_wp2
    go_ret
    obtain ⟨a', c', rfl, hr, hn⟩ := HE.out
    exact ⟨a', c', rfl, hr, hn, HB.out⟩
set_option maxHeartbeats 400000 in
theorem cloneI_any (a : Option Addr) (n c : Nat) (f : Nat → Int) (w : World) (h : KRow w .i64 a n c f) (hn : n ≤ 1000000) :
    Calls Tryz.prog 72 #[.slice a n c] w fun e w' => ∃ a' c', e = .returned (.slice a' n c') ∧ KRow w' .i64 a' n c' f ∧ Below w.heap.size w w' :=
  (cloneI_new a n c f w h hn).mono fun _ _ ⟨a', c', h1, h2, _, h3⟩ => ⟨a', c', h1, h2, h3⟩
/-- The cells of the first integers. -/
def kcs (ki : IntKind) (f : Nat → Int) : Nat → List Value
  | 0 => []
  | k + 1 => kcs ki f k ++ [.int ki (f k)]
theorem kcs_length (ki : IntKind) (f : Nat → Int) : ∀ k, (kcs ki f k).length = k
  | 0 => rfl
  | k + 1 => by unfold kcs; rw [List.length_append, kcs_length ki f k]; rfl
theorem kcs_get (ki : IntKind) (f : Nat → Int) : ∀ k j, j < k → (kcs ki f k)[j]? = some (.int ki (f j))
  | 0, j, h => absurd h (Nat.not_lt_zero _)
  | k + 1, j, h => by
    have hl := kcs_length ki f k
    unfold kcs
    rcases Nat.lt_or_ge j k with h1 | h1
    · rw [List.getElem?_append_left (by omega)]
      exact kcs_get ki f k j h1
    · obtain rfl : j = k := by omega
      rw [List.getElem?_append_right (by omega), hl, Nat.sub_self]
      rfl
theorem KRow.of_own {w : World} {base : Nat} {e : TypeId} {v : Value} {n : Nat} {ki : IntKind} {f : Nat → Int} (h : w.ownsRow base e 1 v n (kcs ki f n)) : ∃ a c, v = .slice a n c ∧ KRow w ki a n c f := by
  rcases h.2 with ⟨rfl, rfl⟩ | ⟨g, cap, cur, rfl, _, hh, h1, h2, _, hcs⟩
  · exact ⟨none, 0, rfl, KRow.nought _ _ _ _ (Nat.zero_le _) _⟩
  · refine ⟨some ⟨g, 0, none⟩, cap, rfl, h1, h2, .inr ⟨g, 0, rfl, Row.lt (t := e) hh, fun j hj => ?_⟩⟩
    have := h.cells (g := g) rfl j _ (kcs_get ki f n j hj)
    rwa [show (⟨g, 0, none⟩ : Addr).add j = ⟨g, 0 + j, none⟩ by unfold Addr.add; split <;> simp_all] at this
theorem own_below {w w' : World} {base : Nat} {e : TypeId} {size : Nat} {v : Value} {n : Nat} {xs : List Value} (h : w.ownsRow base e size v n xs) (hb : Below w.heap.size w w') : w'.ownsRow base e size v n xs := by
  refine h.kept (row := none) ⟨hb.os, hb.tape, hb.output, hb.size, fun k hk _ => hb.block k hk⟩ ?_
  cases v.ownBlock with
  | none => exact .inl rfl
  | some k => exact .inr (by simp)
theorem own_setCell {w : World} {base : Nat} {e : TypeId} {size : Nat} {v : Value} {n : Nat} {xs : List Value} (h : w.ownsRow base e size v n xs) (k o : Nat) (u : Value) (hk : some k ≠ v.ownBlock) : (w.setCell ⟨k, o, none⟩ u).ownsRow base e size v n xs :=
  h.kept (row := some k) ⟨rfl, rfl, rfl, by simp, fun j hj hne => (Far.setCell w k o u).block j (fun e => hne (by rw [e])) hj⟩ (.inr (fun e => hk e.symm))
theorem Bag.own {w0 w : World} {B : World → Prop} {base : Nat} {e : TypeId} {size : Nat} {v : Value} {n : Nat} {xs : List Value} (h : Bag w0 B w) (q : w.ownsRow base e size v n xs) : Bag w0 (fun y => y.ownsRow base e size v n xs ∧ B y) w := h.add (fun _ _ hb q => own_below q hb) q
end Go.Proofs.YtifnamlgkooacaaGreatDoor

namespace Go.Proofs.YtifnamlgkooacaaGreatDoor
open Go.RowKit
attribute [local go_sem ↓] Go.wp_at_zero Go.wp_at_succ
def NatOf3 (w w' : World) (e : Ending) (N : Nat) : Prop := ∃ a n c, e = .returned (.agg #[.slice a n c]) ∧ NatIs w' (.agg #[.slice a n c]) N ∧ Below w.heap.size w w'
theorem NatOut.three {w w' : World} {e : Ending} {N : Nat} (h : NatOut w w' e N) : NatOf3 w w' e N := by
  obtain ⟨v, h1, ⟨a, n, c, f, h2, h3, h4, h5⟩, h6⟩ := h
  exact ⟨a, n, c, by rw [h1, h2], ⟨a, n, c, f, rfl, h3, h4, h5⟩, h6⟩
def SubOf3 (w w' : World) (e : Ending) (N : Nat) (b : Bool) : Prop := ∃ a n c, e = .returned (.tuple #[.agg #[.slice a n c], .bool b]) ∧ NatIs w' (.agg #[.slice a n c]) N ∧ Below w.heap.size w w'
theorem SubOut.three {w w' : World} {e : Ending} {N M : Nat} {b : Bool} (h : SubOut w w' e N M) (hb : decide (M ≤ N) = b) : SubOf3 w w' e (N - M) b := by
  obtain ⟨v, h1, ⟨a, n, c, f, h2, h3, h4, h5⟩, h6⟩ := h
  exact ⟨a, n, c, by rw [h1, h2, hb], ⟨a, n, c, f, rfl, h3, h4, h5⟩, h6⟩
/-- What plusOne keeps: its two numbers, their blocks, the answer's. -/
def PO (k : Nat) (a : Option Addr) (n c : Nat) (m : Bool) (Z : Int) (a2 : Option Addr) (n2 c2 : Nat) (m2 : Bool) (Y : Int) (y : World) : Prop :=
  RS y (k + 1 + 1) ∧ Slot2 y (k + 1) (.slice a2 n2 c2) (.bool m2) ∧ Slot2 y k (.slice a n c) (.bool m) ∧ IntAt y a2 n2 c2 m2 Y ∧ IntAt y a n c m Z
theorem PO.put {k : Nat} {a : Option Addr} {n c : Nat} {m : Bool} {Z : Int} {a2 : Option Addr} {n2 c2 : Nat} {m2 : Bool} {Y : Int} {y : World} (h : PO k a n c m Z a2 n2 c2 m2 Y y) (a3 : Option Addr) (n3 c3 : Nat) (b : Bool) : PO k a n c m Z a2 n2 c2 m2 Y (putI y (k + 1 + 1) a3 n3 c3 b) :=
  ⟨h.1.put _ _ _ _, h.2.1.put (by omega) _ _ _ _, h.2.2.1.put (by omega) _ _ _ _, h.2.2.2.1.put h.1 _ _ _ _, h.2.2.2.2.put h.1 _ _ _ _⟩
theorem PO.stay {k : Nat} {a : Option Addr} {n c : Nat} {m : Bool} {Z : Int} {a2 : Option Addr} {n2 c2 : Nat} {m2 : Bool} {Y : Int} : ∀ x y, Below x.heap.size x y → PO k a n c m Z a2 n2 c2 m2 Y x → PO k a n c m Z a2 n2 c2 m2 Y y :=
  fun _ _ hb h => ⟨h.1.below hb, h.2.1.below hb, h.2.2.1.below hb, h.2.2.2.1.below hb, h.2.2.2.2.below hb⟩
theorem PO.start {w : World} {a : Option Addr} {n c : Nat} {m : Bool} {Z : Int} {a2 : Option Addr} {n2 c2 : Nat} {m2 : Bool} {Y : Int} (h : IntAt w a n c m Z) (g : IntAt w a2 n2 c2 m2 Y) :
    Bag w (PO w.heap.size a n c m Z a2 n2 c2 m2 Y) (((w.alloc (.cells #[.slice a n c, .bool m] 75)).alloc (.cells #[.slice a2 n2 c2, .bool m2] 75)).alloc (.cells #[.slice none 0 0, .bool false] 75)) := by
  have B0 := (((((Bag.start w).int h).int g).box2 (.slice a n c) (.bool m) 75).box2 (.slice a2 n2 c2) (.bool m2) 75).box2 (.slice none 0 0) (.bool false) 75
  simp only [World.size_alloc] at B0
  exact ⟨B0.below, PO.stay, B0.now.1.rs, B0.now.2.1, B0.now.2.2.1, B0.now.2.2.2.1, B0.now.2.2.2.2.1⟩
/-- The cells that plusOne loads. -/
def POc (k : Nat) (a : Option Addr) (n c : Nat) (m : Bool) (a2 : Option Addr) (n2 c2 : Nat) (m2 : Bool) (y : World) : Prop :=
  y.cell? ⟨k, 0, none⟩ = some (.slice a n c) ∧ y.cell? ⟨k, 1, none⟩ = some (.bool m) ∧ y.cell? ⟨k + 1, 0, none⟩ = some (.slice a2 n2 c2) ∧ y.cell? ⟨k + 1, 1, none⟩ = some (.bool m2)
theorem PO.c {k : Nat} {a : Option Addr} {n c : Nat} {m : Bool} {Z : Int} {a2 : Option Addr} {n2 c2 : Nat} {m2 : Bool} {Y : Int} {y : World} (h : PO k a n c m Z a2 n2 c2 m2 Y y) : POc k a n c m a2 n2 c2 m2 y :=
  ⟨h.2.2.1.cell, h.2.2.1.cell1, h.2.1.cell, h.2.1.cell1⟩
end Go.Proofs.YtifnamlgkooacaaGreatDoor
namespace Go.Proofs.YtifnamlgkooacaaGreatDoor
open Go.RowKit
/-- A row of integers in memory. -/
def IntsAt (w : World) (sa : Option Addr) (n c : Nat) (f : Nat → Int) : Prop := n ≤ c ∧ n ≤ 1000 ∧ (n = 0 ∨ ∃ b off, sa = some ⟨b, off, none⟩ ∧ b < w.heap.size ∧
  ∀ j, j < n → ∃ a' n' c' m', w.cell? ⟨b, off + j * 2, none⟩ = some (.slice a' n' c') ∧ w.cell? ⟨b, off + j * 2 + 1, none⟩ = some (.bool m') ∧ IntAt w a' n' c' m' (f j))
theorem IntsAt.below {w w' : World} {sa : Option Addr} {n c : Nat} {f : Nat → Int} (h : IntsAt w sa n c f) (hb : Below w.heap.size w w') : IntsAt w' sa n c f := by
  obtain ⟨h0, h1, h2⟩ := h
  refine ⟨h0, h1, ?_⟩
  rcases h2 with h2 | ⟨b, off, rfl, hl, hc⟩
  · exact .inl h2
  · refine .inr ⟨b, off, rfl, Nat.lt_of_lt_of_le hl hb.size, fun j hj => ?_⟩
    obtain ⟨a', n', c', m', e1, e2, e3⟩ := hc j hj
    exact ⟨a', n', c', m', (hb.cell (p := ⟨b, _, none⟩) hl).trans e1, (hb.cell (p := ⟨b, _, none⟩) hl).trans e2, e3.below hb⟩
theorem IntsAt.get {w : World} {sa : Option Addr} {n c : Nat} {f : Nat → Int} (h : IntsAt w sa n c f) {j : Nat} (hj : j < n) :
    ∃ b off a' n' c' m', sa = some ⟨b, off, none⟩ ∧ b < w.heap.size ∧ w.cell? ⟨b, off + j * 2, none⟩ = some (.slice a' n' c') ∧ w.cell? ⟨b, off + j * 2 + 1, none⟩ = some (.bool m') ∧ IntAt w a' n' c' m' (f j) := by
  obtain ⟨h0, h1, h2⟩ := h
  rcases h2 with h2 | ⟨b, off, rfl, hl, hc⟩
  · omega
  · obtain ⟨a', n', c', m', e⟩ := hc j hj
    exact ⟨b, off, a', n', c', m', rfl, hl, e⟩
/-- At the head of a round: the sum so far. -/
def PL (w wr : World) (V : Int) : Prop := Below w.heap.size w wr ∧ RS wr (w.heap.size + 1) ∧ ∃ a n c m, Slot2 wr (w.heap.size + 1 + 1) (.slice a n c) (.bool m) ∧ IntAt wr a n c m V
end Go.Proofs.YtifnamlgkooacaaGreatDoor
namespace Go.Proofs.YtifnamlgkooacaaGreatDoor
open Go.RowKit
attribute [local go_sem ↓] Go.wp_at_zero Go.wp_at_succ
/-- What Floor keeps: its two numbers, their blocks, the answers'. -/
def FP (k : Nat) (a : Option Addr) (n c : Nat) (m : Bool) (Z : Int) (a2 : Option Addr) (n2 c2 : Nat) (m2 : Bool) (Y : Int) (y : World) : Prop :=
  RS y (k + 1 + 1) ∧ RS y (k + 1 + 1 + 1) ∧ Slot2 y (k + 1) (.slice a2 n2 c2) (.bool m2) ∧ Slot2 y k (.slice a n c) (.bool m) ∧ IntAt y a2 n2 c2 m2 Y ∧ IntAt y a n c m Z
theorem FP.stay {k : Nat} {a : Option Addr} {n c : Nat} {m : Bool} {Z : Int} {a2 : Option Addr} {n2 c2 : Nat} {m2 : Bool} {Y : Int} : ∀ x y, Below x.heap.size x y → FP k a n c m Z a2 n2 c2 m2 Y x → FP k a n c m Z a2 n2 c2 m2 Y y :=
  fun _ _ hb h => ⟨h.1.below hb, h.2.1.below hb, h.2.2.1.below hb, h.2.2.2.1.below hb, h.2.2.2.2.1.below hb, h.2.2.2.2.2.below hb⟩
theorem FP.start {w : World} {a : Option Addr} {n c : Nat} {m : Bool} {Z : Int} {a2 : Option Addr} {n2 c2 : Nat} {m2 : Bool} {Y : Int} (h : IntAt w a n c m Z) (g : IntAt w a2 n2 c2 m2 Y) :
    Bag w (FP w.heap.size a n c m Z a2 n2 c2 m2 Y) ((((w.alloc (.cells #[.slice a n c, .bool m] 75)).alloc (.cells #[.slice a2 n2 c2, .bool m2] 75)).alloc (.cells #[.slice none 0 0, .bool false] 75)).alloc (.cells #[.slice none 0 0, .bool false] 75)) := by
  have B0 := ((((((Bag.start w).int h).int g).box2 (.slice a n c) (.bool m) 75).box2 (.slice a2 n2 c2) (.bool m2) 75).box2 (.slice none 0 0) (.bool false) 75).box2 (.slice none 0 0) (.bool false) 75
  simp only [World.size_alloc] at B0
  exact ⟨B0.below, FP.stay, B0.now.2.1.rs, B0.now.1.rs, B0.now.2.2.1, B0.now.2.2.2.1, B0.now.2.2.2.2.1, B0.now.2.2.2.2.2.1⟩
theorem FP.put {k j : Nat} {a : Option Addr} {n c : Nat} {m : Bool} {Z : Int} {a2 : Option Addr} {n2 c2 : Nat} {m2 : Bool} {Y : Int} {y : World} (h : FP k a n c m Z a2 n2 c2 m2 Y y) (hj : RS y j) (h1 : k ≠ j) (h2 : k + 1 ≠ j) (a3 : Option Addr) (n3 c3 : Nat) (b : Bool) : FP k a n c m Z a2 n2 c2 m2 Y (putI y j a3 n3 c3 b) :=
  ⟨h.1.put _ _ _ _, h.2.1.put _ _ _ _, h.2.2.1.put h2 _ _ _ _, h.2.2.2.1.put h1 _ _ _ _, h.2.2.2.2.1.put hj _ _ _ _, h.2.2.2.2.2.put hj _ _ _ _⟩
def DivOf3 (w w' : World) (e : Ending) (N M : Nat) (b : Bool) : Prop := ∃ a n c a2 n2 c2, e = .returned (.tuple #[.agg #[.slice a n c], .agg #[.slice a2 n2 c2], .bool b]) ∧ NatIs w' (.agg #[.slice a n c]) N ∧ NatIs w' (.agg #[.slice a2 n2 c2]) M ∧ Below w.heap.size w w'
theorem DivOut.three {w w' : World} {e : Ending} {N M : Nat} {b : Bool} (h : DivOut w w' e N M) (hb : decide (M ≠ 0) = b) : DivOf3 w w' e (N / M) (modz N M) b := by
  obtain ⟨v, u, h1, ⟨a, n, c, f, h2, h3, h4, h5⟩, ⟨a', n', c', f', h2', h3', h4', h5'⟩, h6⟩ := h
  exact ⟨a, n, c, a', n', c', by rw [h1, h2, h2', hb], ⟨a, n, c, f, rfl, h3, h4, h5⟩, ⟨a', n', c', f', rfl, h3', h4', h5'⟩, h6⟩
end Go.Proofs.YtifnamlgkooacaaGreatDoor

namespace Go.Proofs.YtifnamlgkooacaaGreatDoor
open Go.RowKit
attribute [local go_sem ↓] Go.wp_at_zero Go.wp_at_succ
def pprod (Z : Int) (f : Nat → Int) : Nat → Int
  | 0 => Z
  | k + 1 => pprod Z f k * f k
theorem sgn_mul (Z Y : Int) : sgn (decide (Z < 0) != decide (Y < 0)) (Z.natAbs * Y.natAbs) = Z * Y := by
  by_cases hz : Z < 0
  · obtain ⟨x, rfl⟩ : ∃ x : Nat, Z = -(x : Int) := ⟨Z.natAbs, by omega⟩
    by_cases hy : Y < 0
    · obtain ⟨y, rfl⟩ : ∃ y : Nat, Y = -(y : Int) := ⟨Y.natAbs, by omega⟩
      rw [decide_eq_true hz, decide_eq_true hy]
      simp [sgn, Int.neg_mul_neg]
    · obtain ⟨y, rfl⟩ : ∃ y : Nat, Y = (y : Int) := ⟨Y.natAbs, by omega⟩
      rw [decide_eq_true hz, decide_eq_false hy]
      simp [sgn, Int.neg_mul]
  · obtain ⟨x, rfl⟩ : ∃ x : Nat, Z = (x : Int) := ⟨Z.natAbs, by omega⟩
    by_cases hy : Y < 0
    · obtain ⟨y, rfl⟩ : ∃ y : Nat, Y = -(y : Int) := ⟨Y.natAbs, by omega⟩
      rw [decide_eq_false hz, decide_eq_true hy]
      simp [sgn, Int.mul_neg]
    · obtain ⟨y, rfl⟩ : ∃ y : Nat, Y = (y : Int) := ⟨Y.natAbs, by omega⟩
      rw [decide_eq_false hz, decide_eq_false hy]
      simp [sgn]
/-- Within a round of Times: the product's block (k2), the factor's (k7), the answer's (k1). -/
def TP (k1 k2 k7 : Nat) (a : Option Addr) (n c : Nat) (m : Bool) (Z : Int) (a2 : Option Addr) (n2 c2 : Nat) (m2 : Bool) (Y : Int) (y : World) : Prop :=
  RS y k2 ∧ RS y k1 ∧ IntAt y a n c m Z ∧ IntAt y a2 n2 c2 m2 Y ∧ Slot2 y k7 (.slice a2 n2 c2) (.bool m2)
theorem TP.stay {k1 k2 k7 : Nat} {a : Option Addr} {n c : Nat} {m : Bool} {Z : Int} {a2 : Option Addr} {n2 c2 : Nat} {m2 : Bool} {Y : Int} : ∀ x y, Below x.heap.size x y → TP k1 k2 k7 a n c m Z a2 n2 c2 m2 Y x → TP k1 k2 k7 a n c m Z a2 n2 c2 m2 Y y :=
  fun _ _ hb h => ⟨h.1.below hb, h.2.1.below hb, h.2.2.1.below hb, h.2.2.2.1.below hb, h.2.2.2.2.below hb⟩
theorem TP.put {k1 k2 k7 : Nat} {a : Option Addr} {n c : Nat} {m : Bool} {Z : Int} {a2 : Option Addr} {n2 c2 : Nat} {m2 : Bool} {Y : Int} {y : World} (h : TP k1 k2 k7 a n c m Z a2 n2 c2 m2 Y y) (hk : k7 ≠ k2) (a3 : Option Addr) (n3 c3 : Nat) (b : Bool) : TP k1 k2 k7 a n c m Z a2 n2 c2 m2 Y (putI y k2 a3 n3 c3 b) :=
  ⟨h.1.put _ _ _ _, h.2.1.put _ _ _ _, h.2.2.1.put h.1 _ _ _ _, h.2.2.2.1.put h.1 _ _ _ _, h.2.2.2.2.put hk _ _ _ _⟩
theorem slot2_putI {w : World} {k : Nat} {x y : Value} (h : Slot2 w k x y) (a : Option Addr) (n c : Nat) (b : Bool) : Slot2 (putI w k a n c b) k (.slice a n c) (.bool b) :=
  ⟨(h.set _ _).1, (h.set _ _).2, by simp [putI, h.free], by simp [putI, h.free1], by simpa [putI] using h.lt⟩
set_option maxHeartbeats 3200000 in
set_option maxRecDepth 100000 in
theorem times_any (a : Option Addr) (n c : Nat) (m : Bool) (Z : Int) (sa : Option Addr) (ln lc : Nat) (f : Nat → Int) (w : World) (h : IntAt w a n c m Z) (g : IntsAt w sa ln lc f)
    (K : Nat) (hK : K ≤ 400000) (hb : ∀ k, k < ln → (pprod Z f k).natAbs < 4294967296 ^ K ∧ (f k).natAbs < 4294967296 ^ K) :
    Calls Tryz.prog 111 #[.agg #[.slice a n c, .bool m], .slice sa ln lc] w fun e w' => IntTold w w' e (pprod Z f ln) := by
  have B0 := (((((Bag.start w).int h).box2 (.slice a n c) (.bool m) 75).box2 (.slice none 0 0) (.bool false) 75)).box2 (.slice a n c) (.bool m) 75
  simp only [World.size_alloc] at B0
  have H0 : Hid (PL w _ (pprod Z f 0)) := ⟨B0.below, B0.now.2.1.rs, a, n, c, m, B0.now.1, B0.now.2.2.2.1⟩
  have q0 := B0.now.2.2.1.cell
  have q1 := B0.now.2.2.1.cell1
  have HG := Lib.hid g
  have hln : ln ≤ 1000 ∧ ln ≤ lc := ⟨g.2.1, g.1⟩
  have HB := Lib.hid hb
  clear B0 h g hb
  go_enter Tryz.func111, Tryz.ntmps111
  go_wp2
  go_loopw [11] (fun i wr => ∃ k : Nat, k ≤ ln ∧ i = .int .i64 k ∧ PL w wr (pprod Z f k)) (fun i _ => ln - (intOf i).toNat)
  case atStart => exact ⟨0, by omega, rfl, H0.out⟩
  case round =>
    obtain ⟨k, hk, rfl, hr⟩ := hrel
    by_cases hlt : k < ln
    · obtain ⟨hbl, hrs, a3, n3, c3, m3, hs3, hi3⟩ := hr
      obtain ⟨b, off, a', n', c', m', rfl, hlb, e1, e2, hi'⟩ := (HG.out.below hbl).get hlt
      have hwr : w.heap.size ≤ wr.heap.size := hbl.size
      have hw2 : w.heap.size + 1 + 1 < wr.heap.size := hs3.lt
      have hm3 := hi3.1
      have hm' := hi'.1
      have HBK := HB.out k hlt
      obtain ⟨ZZ, hZZ⟩ : ∃ ZZ, pprod Z f k = ZZ := ⟨_, rfl⟩
      obtain ⟨YY, hYY⟩ : ∃ YY, f k = YY := ⟨_, rfl⟩
      have hnext : pprod Z f (k + 1) = ZZ * YY := by rw [pprod, hZZ, hYY]
      rw [hZZ] at hi3 HBK hm3
      rw [hYY] at hi' HBK hm'
      have B1 : Bag w (TP (w.heap.size + 1) (w.heap.size + 1 + 1) wr.heap.size a3 n3 c3 m3 ZZ a' n' c' m' YY) (wr.alloc (.cells #[.slice a' n' c', .bool m'] 75)) := by
        have B1 := ((((Bag.start wr).int hi3).int hi').slot2 hs3).box2 (.slice a' n' c') (.bool m') 75
        exact ⟨hbl.trans (B1.below.mono hwr), TP.stay, B1.now.2.1.rs, hrs.below B1.below, B1.now.2.2.2.1, B1.now.2.2.1, B1.now.1⟩
      have N1 : Hid (∀ wz, TP (w.heap.size + 1) (w.heap.size + 1 + 1) wr.heap.size a3 n3 c3 m3 ZZ a' n' c' m' YY wz → Calls Tryz.prog 119 #[.agg #[.slice a3 n3 c3, .bool m3]] wz fun e w' => e = .returned (.bool m3) ∧ Below wz.heap.size wz w') := fun wz hz => neg_any a3 n3 c3 m3 ZZ wz hz.2.2.1
      have N2 : Hid (∀ wz, TP (w.heap.size + 1) (w.heap.size + 1 + 1) wr.heap.size a3 n3 c3 m3 ZZ a' n' c' m' YY wz → Calls Tryz.prog 119 #[.agg #[.slice a' n' c', .bool m']] wz fun e w' => e = .returned (.bool m') ∧ Below wz.heap.size wz w') := fun wz hz => neg_any a' n' c' m' YY wz hz.2.2.2.1
      have MU : Hid (∀ wz, TP (w.heap.size + 1) (w.heap.size + 1 + 1) wr.heap.size a3 n3 c3 m3 ZZ a' n' c' m' YY wz → Calls Tryz.prog 134 #[.agg #[.slice a3 n3 c3], .agg #[.slice a' n' c']] wz fun e w' => NatOf3 wz w' e (ZZ.natAbs * YY.natAbs)) := fun wz hz => (mul_any _ _ _ _ wz hz.2.2.1.2 hz.2.2.2.1.2 K hK HBK.1 HBK.2).mono fun _ _ h => h.three
      have OF : Hid (∀ a4 n4 c4 wz, NatIs wz (.agg #[.slice a4 n4 c4]) (ZZ.natAbs * YY.natAbs) → Calls Tryz.prog 104 #[.bool (!(m3 == m')), .agg #[.slice a4 n4 c4]] wz fun e w' => IntTold wz w' e (ZZ * YY)) := by
        intro a4 n4 c4 wz hi
        have := wof_any (m3 != m') a4 n4 c4 _ wz hi
        rw [hm3, hm', sgn_mul] at this
        rw [hm3, hm']; exact this
      have HBL := Lib.hid hbl
      have HRS := Lib.hid hrs
      have HNX := Lib.hid hnext
      have BB := Lib.hid B1.drew
      have SS : Hid (Slot2 (wr.alloc (.cells #[.slice a' n' c', .bool m'] 75)).drew (w.heap.size + 1 + 1) (.slice a3 n3 c3) (.bool m3)) := hs3.below (((Below.refl _ _).alloc (Nat.le_refl _) _).drew)
      have p2 := SS.out.cell
      have p3 := SS.out.cell1
      obtain ⟨mm, hmm⟩ : ∃ mm, (!(m3 == m')) = mm := ⟨_, rfl⟩
      rw [hmm] at OF
      clear hbl hrs hi3 hi' B1 HBK hs3 q0 q1 hZZ hYY hnext hm3 hm'
      go_wp2_with fail
      have p0 := BB.out.now.2.2.2.2.cell
      have p1 := BB.out.now.2.2.2.2.cell1
      go_region_with (first
          | (go_at_call 119; (with_reducible refine (N1.out _ BB.out.now).mono ?_); rintro e w2 ⟨rfl, hb2⟩; have BB := Lib.hid (BB.out.go hb2); have SS := Lib.hid (SS.out.below hb2); have p0 := BB.out.now.2.2.2.2.cell; have p1 := BB.out.now.2.2.2.2.cell1; have p2 := SS.out.cell; have p3 := SS.out.cell1; clear hb2)
          | (go_at_call 119; (with_reducible refine (N2.out _ BB.out.now).mono ?_); rintro e w2 ⟨rfl, hb2⟩; have BB := Lib.hid (BB.out.go hb2); have SS := Lib.hid (SS.out.below hb2); have p0 := BB.out.now.2.2.2.2.cell; have p1 := BB.out.now.2.2.2.2.cell1; have p2 := SS.out.cell; have p3 := SS.out.cell1; clear hb2)
          | (go_at_call 134; (with_reducible refine (MU.out _ BB.out.now).mono ?_); rintro e w2 ⟨a4, n4, c4, rfl, hi4, hb2⟩; have BB := Lib.hid (BB.out.go hb2); have SS := Lib.hid (SS.out.below hb2); have p0 := BB.out.now.2.2.2.2.cell; have p1 := BB.out.now.2.2.2.2.cell1; have p2 := SS.out.cell; have p3 := SS.out.cell1; clear hb2)
          | (go_at_call 104; (with_reducible refine (OF.out a4 n4 c4 _ hi4).mono ?_); rintro e w2 ⟨a5, n5, c5, m5, rfl, hi5, hb2⟩; have B7 := Bag.go BB.out hb2; have hs5 := SS.out.below hb2; have hc1 := hs5.cell; have hc2 := hs5.cell1; have hf1 := hs5.free; have hf2 := hs5.free1; have HN : Hid (PL w (putI w2 (w.heap.size + 1 + 1) a5 n5 c5 m5) (pprod Z f (k + 1))) := ⟨(B7.below.setCell (show w.heap.size ≤ w.heap.size + 1 + 1 by omega) _).setCell (show w.heap.size ≤ w.heap.size + 1 + 1 by omega) _, B7.now.2.1.put _ _ _ _, a5, n5, c5, m5, slot2_putI hs5 _ _ _ _, by rw [HNX.out]; exact hi5.put B7.now.1 _ _ _ _⟩; unfold putI at HN; clear B7))
      all_goals
        go_wp2
        go_roundw
        case rel => exact ⟨k + 1, by omega, by go_num, HN.out⟩
        case measure => simp [intOf]; omega
    · obtain rfl : k = ln := by omega
      obtain ⟨hbl, hrs, a3, n3, c3, m3, hs3, hi3⟩ := hr
      have HE := Lib.hid (IntTold.fin hbl (by omega) hrs hi3)
      have HS := hrs.cells a3 n3 c3 m3
      unfold putI at HS
      have p0 := hs3.cell
      have p1 := hs3.cell1
      obtain ⟨x8, b8, hs8, _⟩ := hrs
      have hc1 := hs8.cell
      have hc2 := hs8.cell1
      have hf1 := hs8.free
      have hf2 := hs8.free1
      clear hs8 hs3 hi3 hbl q0 q1
      go_wp2
      exact bodyPost_ret (v := _) (by simp [results, Tryz.results111, go_sem, HS]) rfl HE.out
end Go.Proofs.YtifnamlgkooacaaGreatDoor

namespace Go.Proofs.YtifnamlgkooacaaGreatDoor
open Go.RowKit
theorem d10_lt (Z k : Nat) : d10 Z k < 10 := Nat.mod_lt _ (by omega)
/-- One digit set anew. -/
theorem set_digit {Z Y p t : Nat} (ht : t < 10) (h : Y + d10 Z p * 10 ^ p = Z + t * 10 ^ p) : ∀ k, d10 Y k = if k = p then t else d10 Z k := by
  have hp : 0 < 10 ^ p := Nat.pow_pos (by omega)
  have e1 := Nat.div_add_mod Z (10 ^ p)
  have e2 := Nat.div_add_mod (Z / 10 ^ p) 10
  have e3 : Z / 10 ^ p % 10 = d10 Z p := rfl
  rw [e3] at e2
  -- Z = lo + 10^p * (10 * hi + d)
  obtain ⟨hi, hhi⟩ : ∃ hi, Z / 10 ^ p / 10 = hi := ⟨_, rfl⟩
  obtain ⟨lo, hlo⟩ : ∃ lo, Z % 10 ^ p = lo := ⟨_, rfl⟩
  have hlol : lo < 10 ^ p := by rw [← hlo]; exact Nat.mod_lt _ hp
  rw [hhi] at e2
  rw [hlo] at e1
  have hZ : Z = lo + 10 ^ p * (10 * hi + d10 Z p) := by rw [e2]; omega
  have hY : Y = lo + 10 ^ p * (10 * hi + t) := by
    have a1 : 10 ^ p * (10 * hi + d10 Z p) = 10 ^ p * (10 * hi) + d10 Z p * 10 ^ p := by rw [Nat.mul_add, Nat.mul_comm (10 ^ p) (d10 Z p)]
    have a2 : 10 ^ p * (10 * hi + t) = 10 ^ p * (10 * hi) + t * 10 ^ p := by rw [Nat.mul_add, Nat.mul_comm (10 ^ p) t]
    omega
  have gen : ∀ u, u < 10 → ∀ k, d10 (lo + 10 ^ p * (10 * hi + u)) k = if k < p then d10 lo k else if k = p then u else hi / 10 ^ (k - p - 1) % 10 := by
    intro u hu k
    unfold d10
    rcases Nat.lt_trichotomy k p with h | h | h
    · rw [if_pos h]
      obtain ⟨m, rfl⟩ : ∃ m, p = k + (m + 1) := ⟨p - k - 1, by omega⟩
      rw [Nat.pow_add, Nat.mul_assoc, Nat.add_mul_div_left _ _ (Nat.pow_pos (by omega)), Nat.pow_succ, Nat.mul_comm (10 ^ m) 10, Nat.mul_assoc]
      omega
    · subst h
      rw [if_neg (by omega), if_pos rfl, Nat.add_mul_div_left _ _ hp, Nat.div_eq_of_lt hlol]
      omega
    · rw [if_neg (by omega), if_neg (by omega)]
      obtain ⟨m, rfl⟩ : ∃ m, k = p + (m + 1) := ⟨k - p - 1, by omega⟩
      rw [Nat.pow_add, ← Nat.div_div_eq_div_mul, Nat.add_mul_div_left _ _ hp, Nat.div_eq_of_lt hlol, Nat.zero_add, Nat.pow_succ, Nat.mul_comm (10 ^ m) 10, ← Nat.div_div_eq_div_mul]
      rw [show (10 * hi + u) / 10 = hi by omega, show p + (m + 1) - p - 1 = m by omega]
  intro k
  rw [hY, gen t ht k]
  by_cases h1 : k = p
  · subst h1; rw [if_neg (by omega), if_pos rfl, if_pos rfl]
  · rw [if_neg h1, if_neg h1]
    have := gen (d10 Z p) (d10_lt Z p) k
    rw [← hZ, if_neg h1] at this
    rw [this]
/-- A row of digits of the call's own, that is the number Z. -/
structure ArrI (w wr : World) (b L Z : Nat) : Prop where
  below : Below w.heap.size w wr
  ge : w.heap.size ≤ b
  lt : b < wr.heap.size
  free : Free wr b
  row : Cells wr .i64 b 0 L (d10 Z)
theorem ArrI.set {w wr : World} {b L Z Y p t : Nat} (h : ArrI w wr b L Z) (hp : p < L) (ht : t < 10) (he : Y + d10 Z p * 10 ^ p = Z + t * 10 ^ p) (n : Nat) : ArrI w ((wr.drewN n).setCell ⟨b, p, none⟩ (.int .i64 t)) b L Y := by
  have hs := h.row.set (k := p) (x := t) hp
  rw [Nat.zero_add] at hs
  refine ⟨(below_drewN h.below n).setCell h.ge _, h.ge, by simpa using h.lt, (h.free).set _ _, fun j hj => ?_⟩
  have := hs j hj
  rw [set_digit ht he j]
  exact this
end Go.Proofs.YtifnamlgkooacaaGreatDoor
namespace Go.Proofs.YtifnamlgkooacaaGreatDoor
open Go.RowKit
end Go.Proofs.YtifnamlgkooacaaGreatDoor
namespace Go.Proofs.YtifnamlgkooacaaGreatDoor
open Go.RowKit
end Go.Proofs.YtifnamlgkooacaaGreatDoor
namespace Go.Proofs.YtifnamlgkooacaaGreatDoor
open Go.RowKit
end Go.Proofs.YtifnamlgkooacaaGreatDoor

namespace Go.Proofs.YtifnamlgkooacaaGreatDoor
open Go.RowKit
attribute [local go_sem ↓] Go.wp_at_zero Go.wp_at_succ
/-- A whole number's fields in the document's answers. -/
def rB (Z : Int) : Bool := decide (Z < 0)
def rS (Z : Int) : ByteArray := str (dec Z.natAbs)
def RTold (w w' : World) (e : Ending) (Z : Int) : Prop := e = .returned (.agg #[.bool (rB Z), .string (rS Z)]) ∧ Below w.heap.size w w'
/-- Two cells of a block stored. -/
def put2 (y : World) (k : Nat) (x z : Value) : World := (y.setCell ⟨k, 0, none⟩ x).setCell ⟨k, 1, none⟩ z
theorem RTold.fin {w w2 : World} {k : Nat} {Y : Int} {b : Bool} {t : ByteArray} (hb : Below w.heap.size w w2) (hk : w.heap.size ≤ k) (h1 : rB Y = b) (h2 : rS Y = t) : RTold w (put2 w2 k (.bool b) (.string t)) (.returned (.agg #[.bool b, .string t])) Y :=
  ⟨by rw [h1, h2], (hb.setCell hk _).setCell hk _⟩
set_option maxRecDepth 100000 in
theorem rFrom_any (X : Int) (w : World) (h : -9223372036854775808 ≤ X ∧ X ≤ 9223372036854775807) :
    Calls Tryz.prog 85 #[.int .i64 X] w fun e w' => RTold w w' e X := by
  have BB := Lib.hid ((Bag.start w).box2 (.bool false) (.string ⟨#[]⟩) 122)
  by_cases h0 : X < 0
  · obtain ⟨y, hy⟩ : ∃ y : Nat, (y : Int) = -X := ⟨(-X).toNat, by omega⟩
    obtain ⟨y1, hy1⟩ : ∃ y1 : Nat, (y1 : Int) = -X - 1 := ⟨(-X - 1).toNat, by omega⟩
    obtain ⟨X1, hX1⟩ : ∃ X1, X + 1 = X1 := ⟨_, rfl⟩
    have e2 : 0 - X1 = (y1 : Int) := by omega
    have e3 : (y1 : Int) + 1 = (y : Int) := by omega
    have d0 : decide (X < 0) = true := decide_eq_true h0
    have HB : Hid (rB X = true ∧ rS X = str (dec y)) := ⟨by unfold rB; exact d0, by unfold rS; rw [show X.natAbs = y by omega]⟩
    have HO := Lib.hid (fun wz => rof_any y wz (by omega))
    obtain ⟨t, ht⟩ : ∃ t, str (dec y) = t := ⟨_, rfl⟩
    rw [ht] at HO HB
    have hb1 : -9223372036854775807 ≤ X1 ∧ X1 ≤ 0 := by omega
    have hb3 : (y1 : Int) ≤ 9223372036854775807 := by omega
    have h' := h.1
    clear hy hy1 ht h
    go_enter Tryz.func85, Tryz.ntmps85
    go_wp2_with fail
    go_at_call 113
    refine (HO.out _).mono ?_
    rintro e w2 ⟨rfl, hb2⟩
    have B2 := BB.out.go hb2
    have hs2 := B2.now.1
    have hc1 := hs2.cell
    have hc2 := hs2.cell1
    have hf1 := hs2.free
    have hf2 := hs2.free1
    have HS := hs2.set (.bool true) (.string t)
    have HE := Lib.hid (RTold.fin B2.below (Nat.le_refl _) HB.out.1 HB.out.2)
    unfold put2 at HE
    clear hb2 B2 hs2
    go_wp2
    exact bodyPost_ret (v := .agg #[.bool true, .string t]) (by simp [results, Tryz.results85, go_sem, HS]) rfl HE.out
  · obtain ⟨y, rfl⟩ : ∃ y : Nat, X = (y : Int) := ⟨X.toNat, by omega⟩
    have d0 : decide ((y : Int) < 0) = false := decide_eq_false h0
    have HB : Hid (rB (y : Int) = false ∧ rS (y : Int) = str (dec y)) := ⟨by unfold rB; exact d0, by unfold rS; simp⟩
    have HO := Lib.hid (fun wz => rof_any y wz (by omega))
    obtain ⟨t, ht⟩ : ∃ t, str (dec y) = t := ⟨_, rfl⟩
    rw [ht] at HO HB
    have h' := h.2
    clear ht h
    go_enter Tryz.func85, Tryz.ntmps85
    go_wp2_with fail
    go_at_call 113
    refine (HO.out _).mono ?_
    rintro e w2 ⟨rfl, hb2⟩
    have B2 := BB.out.go hb2
    have hs2 := B2.now.1
    have hc1 := hs2.cell
    have hc2 := hs2.cell1
    have hf1 := hs2.free
    have hf2 := hs2.free1
    have HS := hs2.set (.bool false) (.string t)
    have HE := Lib.hid (RTold.fin B2.below (Nat.le_refl _) HB.out.1 HB.out.2)
    unfold put2 at HE
    clear hb2 B2 hs2
    go_wp2
    exact bodyPost_ret (v := .agg #[.bool false, .string t]) (by simp [results, Tryz.results85, go_sem, HS]) rfl HE.out
end Go.Proofs.YtifnamlgkooacaaGreatDoor
namespace Go.Proofs.YtifnamlgkooacaaGreatDoor
open Go.RowKit
attribute [local go_sem ↓] Go.wp_at_zero Go.wp_at_succ
def RX (y : World) (k : Nat) : Prop := ∃ x z, Slot2 y k x z
theorem RX.below {w w' : World} {k : Nat} (h : RX w k) (hb : Below w.heap.size w w') : RX w' k := by
  obtain ⟨x, z, h1⟩ := h; exact ⟨x, z, h1.below hb⟩
theorem Slot2.put2s {w : World} {k : Nat} {x z : Value} (h : Slot2 w k x z) (u v : Value) : Slot2 (put2 w k u v) k u v :=
  ⟨(h.set u v).1, (h.set u v).2, by simp [put2, h.free], by simp [put2, h.free1], by simpa [put2] using h.lt⟩
theorem Slot2.put2o {w : World} {k j : Nat} {x z : Value} (h1 : Slot2 w j x z) (e : j ≠ k) (u v : Value) : Slot2 (put2 w k u v) j x z := by
  refine ⟨?_, ?_, by simp [put2, h1.free], by simp [put2, h1.free1], by simpa [put2] using h1.lt⟩
  · unfold put2; rw [World.cell?_setCell_other _ _ _ _ (fun e' => by cases e' <;> exact e rfl), World.cell?_setCell_other _ _ _ _ (fun e' => by cases e' <;> exact e rfl)]; exact h1.cell
  · unfold put2; rw [World.cell?_setCell_other _ _ _ _ (fun e' => by cases e' <;> exact e rfl), World.cell?_setCell_other _ _ _ _ (fun e' => by cases e' <;> exact e rfl)]; exact h1.cell1
theorem RX.put2 {w : World} {k j : Nat} (h : RX w j) (u v : Value) : RX (put2 w k u v) j := by
  obtain ⟨x, z, h1⟩ := h
  by_cases e : j = k
  · subst e; exact ⟨_, _, h1.put2s u v⟩
  · exact ⟨_, _, h1.put2o e u v⟩
theorem Bag.put2 {w0 w : World} {P : World → Prop} (h : Bag w0 P w) {k : Nat} (hk : w0.heap.size ≤ k) {u v : Value} (hp : P w → P (put2 w k u v)) : Bag w0 P (put2 w k u v) :=
  ⟨(h.below.setCell hk _).setCell hk _, h.stay, hp h.now⟩
/-- Two numbers' blocks, and the answer's. -/
def BP (k : Nat) (b : Bool) (s : ByteArray) (b2 : Bool) (s2 : ByteArray) (y : World) : Prop := RX y (k + 1 + 1) ∧ Slot2 y (k + 1) (.bool b2) (.string s2) ∧ Slot2 y k (.bool b) (.string s)
theorem BP.stay {k : Nat} {b : Bool} {s : ByteArray} {b2 : Bool} {s2 : ByteArray} : ∀ x y, Below x.heap.size x y → BP k b s b2 s2 x → BP k b s b2 s2 y := fun _ _ hb h => ⟨h.1.below hb, h.2.1.below hb, h.2.2.below hb⟩
theorem BP.put2 {k : Nat} {b : Bool} {s : ByteArray} {b2 : Bool} {s2 : ByteArray} {y : World} (h : BP k b s b2 s2 y) (u v : Value) : BP k b s b2 s2 (put2 y (k + 1 + 1) u v) := ⟨h.1.put2 u v, h.2.1.put2o (by omega) u v, h.2.2.put2o (by omega) u v⟩
theorem BP.start (w : World) (b : Bool) (s : ByteArray) (b2 : Bool) (s2 : ByteArray) : Bag w (BP w.heap.size b s b2 s2) (((w.alloc (.cells #[.bool b, .string s] 122)).alloc (.cells #[.bool b2, .string s2] 122)).alloc (.cells #[.bool false, .string ⟨#[]⟩] 122)) := by
  have B0 := (((Bag.start w).box2 (.bool b) (.string s) 122).box2 (.bool b2) (.string s2) 122).box2 (.bool false) (.string ⟨#[]⟩) 122
  simp only [World.size_alloc] at B0
  exact ⟨B0.below, BP.stay, ⟨_, _, B0.now.1⟩, B0.now.2.1, B0.now.2.2.1⟩
end Go.Proofs.YtifnamlgkooacaaGreatDoor
namespace Go.Proofs.YtifnamlgkooacaaGreatDoor
open Go.RowKit
attribute [local go_sem ↓] Go.wp_at_zero Go.wp_at_succ
end Go.Proofs.YtifnamlgkooacaaGreatDoor

namespace Go.Proofs.YtifnamlgkooacaaGreatDoor
open Go.RowKit
attribute [local go_sem ↓] Go.wp_at_zero Go.wp_at_succ
theorem Slot.set1 {w : World} {k : Nat} {x : Value} (h : Slot w k x) (u : Value) : Slot (w.setCell ⟨k, 0, none⟩ u) k u :=
  ⟨World.cell?_setCell_same _ _ _ h.cell, by simp [h.free], by simpa using h.lt⟩
theorem Slot.other {w : World} {k j : Nat} {x : Value} (h : Slot w j x) (u : Value) (hj : j ≠ k) : Slot (w.setCell ⟨k, 0, none⟩ u) j x :=
  ⟨by rw [World.cell?_setCell_other _ _ _ _ (fun e' => by cases e' <;> exact hj rfl)]; exact h.cell, by simp [h.free], by simpa using h.lt⟩
theorem Slot2.other {w : World} {k j : Nat} {x z : Value} (h : Slot2 w j x z) (u : Value) (hj : j ≠ k) : Slot2 (w.setCell ⟨k, 0, none⟩ u) j x z :=
  ⟨by rw [World.cell?_setCell_other _ _ _ _ (fun e' => by cases e' <;> exact hj rfl)]; exact h.cell, by rw [World.cell?_setCell_other _ _ _ _ (fun e' => by cases e' <;> exact hj rfl)]; exact h.cell1, by simp [h.free], by simp [h.free1], by simpa using h.lt⟩
theorem RS.other {w : World} {k j : Nat} (h : RS w j) (u : Value) (hj : j ≠ k) : RS (w.setCell ⟨k, 0, none⟩ u) j := by
  obtain ⟨x, b, h1, h2⟩ := h; exact ⟨x, b, h1.other u hj, h2⟩
theorem FP.set1 {k j : Nat} {a : Option Addr} {n c : Nat} {m : Bool} {Z : Int} {a2 : Option Addr} {n2 c2 : Nat} {m2 : Bool} {Y : Int} {y : World} (h : FP k a n c m Z a2 n2 c2 m2 Y y) {a3 : Option Addr} {n3 c3 : Nat} (hj : y.cell? ⟨j, 0, none⟩ = some (.slice a3 n3 c3)) (hk : k + 3 < j) (u : Value) : FP k a n c m Z a2 n2 c2 m2 Y (y.setCell ⟨j, 0, none⟩ u) :=
  ⟨h.1.other u (by omega), h.2.1.other u (by omega), h.2.2.1.other u (by omega), h.2.2.2.1.other u (by omega), ⟨h.2.2.2.2.1.1, h.2.2.2.2.1.2.storeAt hj (fun _ _ h => by cases h) u⟩, ⟨h.2.2.2.2.2.1, h.2.2.2.2.2.2.storeAt hj (fun _ _ h => by cases h) u⟩⟩
end Go.Proofs.YtifnamlgkooacaaGreatDoor

namespace Go.Proofs.YtifnamlgkooacaaGreatDoor
open Go.RowKit
attribute [local go_sem ↓] Go.wp_at_zero Go.wp_at_succ
end Go.Proofs.YtifnamlgkooacaaGreatDoor
namespace Go.Proofs.YtifnamlgkooacaaGreatDoor
open Go.RowKit
attribute [local go_sem ↓] Go.wp_at_zero Go.wp_at_succ
/-- The block of a whole number of the document's answers. -/
def RT (y : World) (k : Nat) : Prop := ∃ b t, Slot2 y k (.bool b) (.string t)
theorem RT.below {w w' : World} {k : Nat} (h : RT w k) (hb : Below w.heap.size w w') : RT w' k := by
  obtain ⟨x, z, h1⟩ := h; exact ⟨x, z, h1.below hb⟩
theorem RT.put2 {w : World} {k : Nat} (h : RT w k) (b : Bool) (t : ByteArray) : RT (put2 w k (.bool b) (.string t)) k := by
  obtain ⟨x, z, h1⟩ := h; exact ⟨_, _, h1.put2s _ _⟩
theorem RT.putI {w : World} {k j : Nat} (h : RT w j) (e : j ≠ k) (a : Option Addr) (n c : Nat) (b : Bool) : RT (putI w k a n c b) j := by
  obtain ⟨x, z, h1⟩ := h; exact ⟨_, _, h1.put2o e _ _⟩
/-- What read keeps. -/
def LP (k0 k5 k7 : Nat) (b : Bool) (d : ByteArray) (a : Option Addr) (n c N : Nat) (y : World) : Prop := RS y k0 ∧ RT y (k0 + 1) ∧ Slot2 y k5 (.bool b) (.string d) ∧ Slot y k7 (.slice a n c) ∧ NatIs y (.agg #[.slice a n c]) N
theorem LP.stay {k0 k5 k7 : Nat} {b : Bool} {d : ByteArray} {a : Option Addr} {n c N : Nat} : ∀ x y, Below x.heap.size x y → LP k0 k5 k7 b d a n c N x → LP k0 k5 k7 b d a n c N y :=
  fun _ _ hb h => ⟨h.1.below hb, h.2.1.below hb, h.2.2.1.below hb, h.2.2.2.1.below hb, h.2.2.2.2.below hb⟩
theorem Slot.put2o {w : World} {k j : Nat} {x : Value} (h : Slot w j x) (e : j ≠ k) (u v : Value) : Slot (put2 w k u v) j x := by
  refine ⟨?_, by simp [put2, h.free], by simpa [put2] using h.lt⟩
  unfold put2; rw [World.cell?_setCell_other _ _ _ _ (fun e' => by cases e' <;> exact e rfl), World.cell?_setCell_other _ _ _ _ (fun e' => by cases e' <;> exact e rfl)]; exact h.cell
end Go.Proofs.YtifnamlgkooacaaGreatDoor
namespace Go.Proofs.YtifnamlgkooacaaGreatDoor
open Go.RowKit
theorem IntsAt.nought (w : World) (f : Nat → Int) : IntsAt w none 0 0 f := ⟨Nat.le_refl _, by omega, .inl rfl⟩
theorem IntsAt.mk1 {w : World} {k : Nat} (hk : w.heap.size = k) {a : Option Addr} {n c : Nat} {m : Bool} {Z : Int} {t : TypeId} (h : IntAt (w.alloc (.cells #[.slice a n c, .bool m] t)) a n c m Z) :
    IntsAt (w.alloc (.cells #[.slice a n c, .bool m] t)) (some ⟨k, 0, none⟩) 1 1 (fun _ => Z) := by
  subst hk
  have hs := Slot2.new w (.slice a n c) (.bool m) t
  refine ⟨Nat.le_refl _, by omega, .inr ⟨_, 0, rfl, by rw [World.size_alloc]; omega, fun j hj => ?_⟩⟩
  obtain rfl : j = 0 := by omega
  exact ⟨a, n, c, m, hs.cell, hs.cell1, h⟩
theorem times1_any (a : Option Addr) (n c : Nat) (m : Bool) (Z : Int) (sa : Option Addr) (Y : Int) (w : World) (h : IntAt w a n c m Z) (g : IntsAt w sa 1 1 (fun _ => Y)) (K : Nat) (hK : K ≤ 400000) (hZ : Z.natAbs < 4294967296 ^ K) (hY : Y.natAbs < 4294967296 ^ K) :
    Calls Tryz.prog 111 #[.agg #[.slice a n c, .bool m], .slice sa 1 1] w fun e w' => IntTold w w' e (Z * Y) :=
  times_any a n c m Z sa 1 1 (fun _ => Y) w h g K hK (fun k hk => by obtain rfl : k = 0 := by omega
                                                                     exact ⟨hZ, hY⟩)
end Go.Proofs.YtifnamlgkooacaaGreatDoor
namespace Go.Proofs.YtifnamlgkooacaaGreatDoor
open Go.RowKit
theorem Below.step {w a b : World} (hb : Below a.heap.size a b) (h : Below w.heap.size w a) : Below w.heap.size w b := h.trans (hb.mono h.size)
theorem Below.more {w a : World} (h : Below w.heap.size w a) (o : Obj) : Below w.heap.size w (a.alloc o) := h.alloc h.size o
end Go.Proofs.YtifnamlgkooacaaGreatDoor

namespace Go.Proofs.YtifnamlgkooacaaGreatDoor
open Go.RowKit
/-- The numerator and the denominator in lowest terms. -/
def rg (P : Int) (Q : Nat) : Nat := Nat.gcd P.natAbs Q
def loP (P : Int) (Q : Nat) : Int := sgn (decide (P < 0)) (P.natAbs / rg P Q)
def loQ (P : Int) (Q : Nat) : Nat := Q / rg P Q
theorem rg_pos (P : Int) {Q : Nat} (h : 0 < Q) : 0 < rg P Q := Nat.gcd_pos_of_pos_right _ h
theorem loP_abs (P : Int) (Q : Nat) : (loP P Q).natAbs = P.natAbs / rg P Q := sgn_abs _ _
theorem loQ_pos (P : Int) {Q : Nat} (h : 0 < Q) : 0 < loQ P Q :=
  Nat.div_pos (Nat.le_of_dvd h (Nat.gcd_dvd_right _ _)) (rg_pos P h)
theorem lo_cop (P : Int) {Q : Nat} (h : 0 < Q) : Nat.gcd (loP P Q).natAbs (loQ P Q) = 1 := by
  rw [loP_abs]
  exact Nat.Coprime.gcd_eq_one (Nat.coprime_div_gcd_div_gcd (rg_pos P h))
end Go.Proofs.YtifnamlgkooacaaGreatDoor
namespace Go.Proofs.YtifnamlgkooacaaGreatDoor
open Go.RowKit
attribute [local go_sem ↓] Go.wp_at_zero Go.wp_at_succ
/-- Three cells of a block. -/
structure Slot3 (w : World) (k : Nat) (x y z : Value) : Prop where
  cell : w.cell? ⟨k, 0, none⟩ = some x
  cell1 : w.cell? ⟨k, 1, none⟩ = some y
  cell2 : w.cell? ⟨k, 2, none⟩ = some z
  free : w.frozen? ⟨k, 0, none⟩ = false
  free1 : w.frozen? ⟨k, 1, none⟩ = false
  free2 : w.frozen? ⟨k, 2, none⟩ = false
  lt : k < w.heap.size
theorem Slot3.below {w w' : World} {k : Nat} {x y z : Value} (h : Slot3 w k x y z) (hb : Below w.heap.size w w') : Slot3 w' k x y z :=
  ⟨(hb.cell (p := ⟨k, 0, none⟩) h.lt).trans h.cell, (hb.cell (p := ⟨k, 1, none⟩) h.lt).trans h.cell1, (hb.cell (p := ⟨k, 2, none⟩) h.lt).trans h.cell2,
    (hb.frozen (p := ⟨k, 0, none⟩) h.lt).trans h.free, (hb.frozen (p := ⟨k, 1, none⟩) h.lt).trans h.free1, (hb.frozen (p := ⟨k, 2, none⟩) h.lt).trans h.free2, Nat.lt_of_lt_of_le h.lt hb.size⟩
theorem Slot3.new (w : World) (x y z : Value) (t : TypeId) : Slot3 (w.alloc (.cells #[x, y, z] t)) w.heap.size x y z := by
  refine ⟨?_, ?_, ?_, World.frozen?_alloc_new _ _ _ _, World.frozen?_alloc_new _ _ _ _, World.frozen?_alloc_new _ _ _ _, by rw [World.size_alloc]; omega⟩
  · rw [World.cell?_alloc_new]; rfl
  · rw [World.cell?_alloc_new]; rfl
  · rw [World.cell?_alloc_new]; rfl
theorem Bag.slot3 {w0 w : World} {P : World → Prop} {k : Nat} {x y z : Value} (h : Bag w0 P w) (q : Slot3 w k x y z) : Bag w0 (fun v => Slot3 v k x y z ∧ P v) w := h.add (fun _ _ hb q => q.below hb) q
theorem Bag.box3 {w0 w : World} {P : World → Prop} (h : Bag w0 P w) (x y z : Value) (t : TypeId) : Bag w0 (fun v => Slot3 v w.heap.size x y z ∧ P v) (w.alloc (.cells #[x, y, z] t)) :=
  (h.alloc _).slot3 (Slot3.new w x y z t)
/-- The denominator as it is kept. -/
def lowN (Q : Nat) : Nat := if Q = 1 then 0 else Q
/-- The fields of a number, read as P by Q. -/
def RatAt (w : World) (a : Option Addr) (n c : Nat) (m : Bool) (a2 : Option Addr) (n2 c2 : Nat) (P : Int) (Q : Nat) : Prop := IntAt w a n c m P ∧ NatIs w (.agg #[.slice a2 n2 c2]) (lowN Q)
theorem RatAt.below {w w' : World} {a : Option Addr} {n c : Nat} {m : Bool} {a2 : Option Addr} {n2 c2 : Nat} {P : Int} {Q : Nat} (h : RatAt w a n c m a2 n2 c2 P Q) (hb : Below w.heap.size w w') : RatAt w' a n c m a2 n2 c2 P Q := ⟨h.1.below hb, h.2.below hb⟩
theorem Bag.rat {w0 w : World} {B : World → Prop} {a : Option Addr} {n c : Nat} {m : Bool} {a2 : Option Addr} {n2 c2 : Nat} {P : Int} {Q : Nat} (h : Bag w0 B w) (q : RatAt w a n c m a2 n2 c2 P Q) : Bag w0 (fun y => RatAt y a n c m a2 n2 c2 P Q ∧ B y) w := h.add (fun _ _ hb q => q.below hb) q
def RatTold (w w' : World) (e : Ending) (P : Int) (Q : Nat) : Prop := ∃ a n c m a2 n2 c2, e = .returned (.agg #[.slice a n c, .bool m, .slice a2 n2 c2]) ∧ RatAt w' a n c m a2 n2 c2 P Q ∧ Below w.heap.size w w'
/-- Three cells of a block stored. -/
theorem Slot3.set {w : World} {k : Nat} {x y z : Value} (h : Slot3 w k x y z) (u v t : Value) :
    (((w.setCell ⟨k, 0, none⟩ u).setCell ⟨k, 1, none⟩ v).setCell ⟨k, 2, none⟩ t).cell? ⟨k, 0, none⟩ = some u ∧ (((w.setCell ⟨k, 0, none⟩ u).setCell ⟨k, 1, none⟩ v).setCell ⟨k, 2, none⟩ t).cell? ⟨k, 1, none⟩ = some v ∧ (((w.setCell ⟨k, 0, none⟩ u).setCell ⟨k, 1, none⟩ v).setCell ⟨k, 2, none⟩ t).cell? ⟨k, 2, none⟩ = some t := by
  refine ⟨?_, ?_, ?_⟩
  · rw [World.cell?_setCell_other _ _ _ _ (fun e => by cases e), World.cell?_setCell_other _ _ _ _ (fun e => by cases e)]
    exact World.cell?_setCell_same _ _ _ h.cell
  · rw [World.cell?_setCell_other _ _ _ _ (fun e => by cases e)]
    refine World.cell?_setCell_same (u := y) _ _ _ ?_
    rw [World.cell?_setCell_other _ _ _ _ (fun e => by cases e)]
    exact h.cell1
  · refine World.cell?_setCell_same (u := z) _ _ _ ?_
    rw [World.cell?_setCell_other _ _ _ _ (fun e => by cases e), World.cell?_setCell_other _ _ _ _ (fun e => by cases e)]
    exact h.cell2
theorem NatIs.set3 {w : World} {k : Nat} {x y z : Value} {v : Value} {N : Nat} (q : NatIs w v N) (h : Slot3 w k x y z) (hx : ∀ ki i, x ≠ .int ki i) (hy : ∀ ki i, y ≠ .int ki i) (hz : ∀ ki i, z ≠ .int ki i) (u v' t : Value) :
    NatIs (((w.setCell ⟨k, 0, none⟩ u).setCell ⟨k, 1, none⟩ v').setCell ⟨k, 2, none⟩ t) v N := by
  refine ((q.storeAt h.cell hx _).storeAt (x := y) ?_ hy _).storeAt (x := z) ?_ hz _
  · rw [World.cell?_setCell_other _ _ _ _ (fun e => by cases e)]
    exact h.cell1
  · rw [World.cell?_setCell_other _ _ _ _ (fun e => by cases e), World.cell?_setCell_other _ _ _ _ (fun e => by cases e)]
    exact h.cell2
theorem Slot3.set2 {w : World} {k : Nat} {x y z : Value} (h : Slot3 w k x y z) (u v : Value) : Slot3 ((w.setCell ⟨k, 0, none⟩ u).setCell ⟨k, 1, none⟩ v) k u v z := by
  refine ⟨?_, ?_, ?_, by simp [h.free], by simp [h.free1], by simp [h.free2], by simpa using h.lt⟩
  · rw [World.cell?_setCell_other _ _ _ _ (fun e => by cases e)]
    exact World.cell?_setCell_same _ _ _ h.cell
  · refine World.cell?_setCell_same (u := y) _ _ _ ?_
    rw [World.cell?_setCell_other _ _ _ _ (fun e => by cases e)]
    exact h.cell1
  · rw [World.cell?_setCell_other _ _ _ _ (fun e => by cases e), World.cell?_setCell_other _ _ _ _ (fun e => by cases e)]
    exact h.cell2
theorem Slot3.set2o {w : World} {k j : Nat} {x y z : Value} (h : Slot3 w j x y z) (e : j ≠ k) (u v : Value) : Slot3 ((w.setCell ⟨k, 0, none⟩ u).setCell ⟨k, 1, none⟩ v) j x y z := by
  have hn : ∀ o o' : Nat, (⟨k, o', none⟩ : Addr) ≠ ⟨j, o, none⟩ := fun o o' h => e (by cases h; rfl)
  refine ⟨?_, ?_, ?_, by simp [h.free], by simp [h.free1], by simp [h.free2], by simpa using h.lt⟩
  · rw [World.cell?_setCell_other _ _ _ _ (hn _ _), World.cell?_setCell_other _ _ _ _ (hn _ _)]; exact h.cell
  · rw [World.cell?_setCell_other _ _ _ _ (hn _ _), World.cell?_setCell_other _ _ _ _ (hn _ _)]; exact h.cell1
  · rw [World.cell?_setCell_other _ _ _ _ (hn _ _), World.cell?_setCell_other _ _ _ _ (hn _ _)]; exact h.cell2
theorem NatIs.set2 {w : World} {k : Nat} {x y z : Value} {v : Value} {N : Nat} (q : NatIs w v N) (h : Slot3 w k x y z) (hx : ∀ ki i, x ≠ .int ki i) (hy : ∀ ki i, y ≠ .int ki i) (u v' : Value) :
    NatIs ((w.setCell ⟨k, 0, none⟩ u).setCell ⟨k, 1, none⟩ v') v N := by
  refine (q.storeAt h.cell hx _).storeAt (x := y) ?_ hy _
  rw [World.cell?_setCell_other _ _ _ _ (fun e => by cases e)]
  exact h.cell1
theorem RatTold.done {w w2 : World} {k : Nat} {a0 : Option Addr} {n0 c0 : Nat} {m0 : Bool} {a1 : Option Addr} {n1 c1 : Nat} {a : Option Addr} {n c : Nat} {m : Bool} {a2 : Option Addr} {n2 c2 : Nat} {P : Int} {Q : Nat} (hb : Below w.heap.size w w2) (hk : w.heap.size ≤ k)
    (hs : Slot3 w2 k (.slice a0 n0 c0) (.bool m0) (.slice a1 n1 c1)) (h : RatAt w2 a n c m a2 n2 c2 P Q) :
    RatTold w (((w2.setCell ⟨k, 0, none⟩ (.slice a n c)).setCell ⟨k, 1, none⟩ (.bool m)).setCell ⟨k, 2, none⟩ (.slice a2 n2 c2)) (.returned (.agg #[.slice a n c, .bool m, .slice a2 n2 c2])) P Q :=
  ⟨a, n, c, m, a2, n2, c2, rfl, ⟨⟨h.1.1, h.1.2.set3 hs (fun _ _ h => by cases h) (fun _ _ h => by cases h) (fun _ _ h => by cases h) _ _ _⟩, h.2.set3 hs (fun _ _ h => by cases h) (fun _ _ h => by cases h) (fun _ _ h => by cases h) _ _ _⟩,
    ((hb.setCell hk _).setCell hk _).setCell hk _⟩
theorem NatTold.done {w w2 : World} {k : Nat} {a0 : Option Addr} {n0 c0 : Nat} {a : Option Addr} {n c N : Nat} (hb : Below w.heap.size w w2) (hk : w.heap.size ≤ k) (hs : Slot w2 k (.slice a0 n0 c0)) (h : NatIs w2 (.agg #[.slice a n c]) N) :
    NatTold w (w2.setCell ⟨k, 0, none⟩ (.slice a n c)) (.returned (.agg #[.slice a n c])) N :=
  ⟨a, n, c, rfl, h.storeAt hs.cell (fun _ _ h => by cases h) _, hb.setCell hk _⟩
theorem lowN_zero {Q : Nat} (h : 0 < Q) : decide (lowN Q = 0) = decide (Q = 1) := by
  unfold lowN
  by_cases h1 : Q = 1
  · rw [if_pos h1, decide_eq_true rfl, decide_eq_true h1]
  · rw [if_neg h1, decide_eq_false (by omega), decide_eq_false h1]
set_option maxHeartbeats 800000 in
set_option maxRecDepth 100000 in
theorem whole_any (a : Option Addr) (n c : Nat) (m : Bool) (Z : Int) (w : World) (h : IntAt w a n c m Z) :
    Calls Tryz.prog 75 #[.agg #[.slice a n c, .bool m]] w fun e w' => RatTold w w' e Z 1 := by
  have B0 := (((Bag.start w).int h).box2 (.slice a n c) (.bool m) 75).box3 (.slice a n c) (.bool m) (.slice none 0 0) 77
  have HE : Hid (RatTold w ((w.alloc (.cells #[.slice a n c, .bool m] 75)).alloc (.cells #[.slice a n c, .bool m, .slice none 0 0] 77)) (.returned (.agg #[.slice a n c, .bool m, .slice none 0 0])) Z 1) :=
    ⟨a, n, c, m, none, 0, 0, rfl, ⟨B0.now.2.2.1, NatIs.zero _⟩, B0.below⟩
  clear h B0
  go_enter Tryz.func75, Tryz.ntmps75
  go_wp2
  exact bodyPost_ret (v := .agg #[.slice a n c, .bool m, .slice none 0 0]) (by simp [results, Tryz.results75, go_sem]) rfl HE.out
set_option maxHeartbeats 800000 in
set_option maxRecDepth 100000 in
theorem isWhole_any (a : Option Addr) (n c : Nat) (m : Bool) (a2 : Option Addr) (n2 c2 : Nat) (P : Int) (Q : Nat) (w : World) (h : RatAt w a n c m a2 n2 c2 P Q) (hQ : 0 < Q) :
    Calls Tryz.prog 87 #[.agg #[.slice a n c, .bool m, .slice a2 n2 c2]] w fun e w' => e = .returned (.bool (decide (Q = 1))) ∧ Below w.heap.size w w' := by
  have BB := Lib.hid (((Bag.start w).nat h.2).box3 (.slice a n c) (.bool m) (.slice a2 n2 c2) 77)
  have HZ := Lib.hid (fun wz hz => zero_any (.agg #[.slice a2 n2 c2]) (lowN Q) wz hz)
  rw [lowN_zero hQ] at HZ
  clear h hQ
  generalize decide (Q = 1) = q at *
  go_enter Tryz.func87, Tryz.ntmps87
  go_wp2_with (go_at_call 117; refine (HZ.out _ BB.out.now.2.1).mono ?_; rintro e w2 ⟨rfl, hb2⟩; have HB := Lib.hid (BB.out.go hb2).below; clear hb2)
  go_ret
  exact ⟨rfl, HB.out⟩
set_option maxHeartbeats 800000 in
set_option maxRecDepth 100000 in
theorem ratSign_any (a : Option Addr) (n c : Nat) (m : Bool) (a2 : Option Addr) (n2 c2 : Nat) (P : Int) (Q : Nat) (w : World) (h : RatAt w a n c m a2 n2 c2 P Q) :
    Calls Tryz.prog 101 #[.agg #[.slice a n c, .bool m, .slice a2 n2 c2]] w fun e w' => e = .returned (.int .i64 (sgnI P)) ∧ Below w.heap.size w w' := by
  have BB := Lib.hid (((Bag.start w).int h.1).box3 (.slice a n c) (.bool m) (.slice a2 n2 c2) 77)
  have HS := Lib.hid (fun wz hz => sign_any a n c m P wz hz)
  clear h
  generalize sgnI P = s at *
  go_enter Tryz.func101, Tryz.ntmps101
  go_wp2_with (go_at_call 124; refine (HS.out _ BB.out.now.2.1).mono ?_; rintro e w2 ⟨rfl, hb2⟩; have HB := Lib.hid (BB.out.go hb2).below; clear hb2)
  go_ret
  exact ⟨rfl, HB.out⟩
set_option maxHeartbeats 1600000 in
set_option maxRecDepth 100000 in
theorem bot_any (a : Option Addr) (n c : Nat) (m : Bool) (a2 : Option Addr) (n2 c2 : Nat) (P : Int) (Q : Nat) (w : World) (h : RatAt w a n c m a2 n2 c2 P Q) (hQ : 0 < Q) :
    Calls Tryz.prog 103 #[.agg #[.slice a n c, .bool m, .slice a2 n2 c2]] w fun e w' => NatTold w w' e Q := by
  have B0 := (((Bag.start w).rat h).box3 (.slice a n c) (.bool m) (.slice a2 n2 c2) 77).box (.slice none 0 0) 73
  rw [World.size_alloc] at B0
  have IW := Lib.hid (fun wz hz => isWhole_any a n c m a2 n2 c2 P Q wz hz hQ)
  have BB := Lib.hid B0
  by_cases h1 : Q = 1
  · subst h1
    have OF := Lib.hid (fun wz => of_told 1 wz (by omega))
    rw [decide_eq_true rfl] at IW
    clear h hQ B0
    go_enter Tryz.func103, Tryz.ntmps103
    go_wp2_with fail
    go_at_call 87
    refine (IW.out _ BB.out.now.2.2.1).mono ?_
    rintro e w2 ⟨rfl, hb2⟩
    have BB := Lib.hid (BB.out.go hb2)
    clear hb2
    go_wp2_with fail
    go_at_call 105
    refine (OF.out _).mono ?_
    rintro e w3 ⟨a3, n3, c3, rfl, hv, hb3⟩
    have BB := Lib.hid (BB.out.go hb3)
    have hs := BB.out.now.1
    have hc := hs.cell
    have hf := hs.free
    have HS := World.cell?_setCell_same w3 ⟨w.heap.size + 1, 0, none⟩ (.slice a3 n3 c3) hc
    have HE := Lib.hid (NatTold.done BB.out.below (by omega) hs hv)
    clear hb3 hs
    go_wp2
    exact bodyPost_ret (v := .agg #[.slice a3 n3 c3]) (by simp [results, Tryz.results103, go_sem, HS]) rfl HE.out
  · rw [decide_eq_false h1] at IW
    have hl : lowN Q = Q := if_neg h1
    have hx := h.2
    rw [hl] at hx
    have q0 := B0.now.2.1.cell2
    clear h hQ B0
    go_enter Tryz.func103, Tryz.ntmps103
    go_wp2_with fail
    go_at_call 87
    refine (IW.out _ BB.out.now.2.2.1).mono ?_
    rintro e w2 ⟨rfl, hb2⟩
    have BB := Lib.hid (BB.out.go hb2)
    clear hb2
    have q0 := BB.out.now.2.1.cell2
    have hs := BB.out.now.1
    have hc := hs.cell
    have hf := hs.free
    have HS := World.cell?_setCell_same w2 ⟨w.heap.size + 1, 0, none⟩ (.slice a2 n2 c2) hc
    have HE := Lib.hid (NatTold.done BB.out.below (by omega) hs (hl ▸ BB.out.now.2.2.1.2))
    clear hs
    go_wp2
    exact bodyPost_ret (v := .agg #[.slice a2 n2 c2]) (by simp [results, Tryz.results103, go_sem, HS]) rfl HE.out
set_option maxHeartbeats 1600000 in
set_option maxRecDepth 100000 in
theorem below_any (a : Option Addr) (n c : Nat) (m : Bool) (a2 : Option Addr) (n2 c2 : Nat) (P : Int) (Q : Nat) (w : World) (h : RatAt w a n c m a2 n2 c2 P Q) (hQ : 0 < Q) :
    Calls Tryz.prog 112 #[.agg #[.slice a n c, .bool m, .slice a2 n2 c2]] w fun e w' => IntTold w w' e (Q : Int) := by
  have B0 := (((Bag.start w).rat h).box3 (.slice a n c) (.bool m) (.slice a2 n2 c2) 77).box2 (.slice none 0 0) (.bool false) 75
  rw [World.size_alloc] at B0
  have BT := Lib.hid (fun wz hz => bot_any a n c m a2 n2 c2 P Q wz hz hQ)
  have OF := Lib.hid (fun a n c wz (h : NatIs wz (.agg #[.slice a n c]) Q) => wof_any false a n c Q wz h)
  rw [show sgn false Q = (Q : Int) from rfl] at OF
  have BB := Lib.hid B0
  clear h hQ B0
  go_enter Tryz.func112, Tryz.ntmps112
  go_wp2_with fail
  go_at_call 103
  refine (BT.out _ BB.out.now.2.2.1).mono ?_
  rintro e w2 ⟨a3, n3, c3, rfl, hv, hb2⟩
  have BB := Lib.hid ((BB.out.go hb2).nat hv)
  clear hb2 hv
  go_wp2_with fail
  go_at_call 104
  refine (OF.out _ _ _ _ BB.out.now.1).mono ?_
  rintro e w3 ⟨a4, n4, c4, m4, rfl, hi, hb3⟩
  have BB := Lib.hid (BB.out.go hb3)
  have hs := BB.out.now.2.1
  have hc := hs.cell
  have hc1 := hs.cell1
  have hf := hs.free
  have hf1 := hs.free1
  have HS := hs.set (.slice a4 n4 c4) (.bool m4)
  have HE := Lib.hid (IntTold.done BB.out.below (by omega) hs (fun _ _ h => by cases h) hi)
  clear hb3 hs
  go_wp2
  exact bodyPost_ret (v := .agg #[.slice a4 n4 c4, .bool m4]) (by simp [results, Tryz.results112, go_sem, HS]) rfl HE.out
set_option maxHeartbeats 1600000 in
set_option maxRecDepth 100000 in
theorem ratFrom_any (X : Int) (w : World) (h : -9223372036854775808 ≤ X ∧ X ≤ 9223372036854775807) :
    Calls Tryz.prog 39 #[.int .i64 X] w fun e w' => RatTold w w' e X 1 := by
  have BB := Lib.hid ((Bag.start w).box3 (.slice none 0 0) (.bool false) (.slice none 0 0) 77)
  have FR := Lib.hid (fun wz => from_any X wz h)
  have WH := Lib.hid (fun a n c m wz (h : IntAt wz a n c m X) => whole_any a n c m X wz h)
  clear h
  go_enter Tryz.func39, Tryz.ntmps39
  go_wp2_with fail
  go_at_call 76
  refine (FR.out _).mono ?_
  rintro e w2 ⟨a, n, c, m, rfl, hi, hb2⟩
  have BB := Lib.hid ((BB.out.go hb2).int hi)
  clear hb2 hi
  go_wp2_with fail
  go_at_call 75
  refine (WH.out _ _ _ _ _ BB.out.now.1).mono ?_
  rintro e w3 ⟨a3, n3, c3, m3, a4, n4, c4, rfl, hr, hb3⟩
  have BB := Lib.hid (BB.out.go hb3)
  have hs := BB.out.now.2.1
  have hc := hs.cell
  have hc1 := hs.cell1
  have hc2 := hs.cell2
  have hf := hs.free
  have hf1 := hs.free1
  have hf2 := hs.free2
  have HS := hs.set (.slice a3 n3 c3) (.bool m3) (.slice a4 n4 c4)
  have HE := Lib.hid (RatTold.done BB.out.below (by omega) hs hr)
  clear hb3 hs hr
  go_wp2
  exact bodyPost_ret (v := .agg #[.slice a3 n3 c3, .bool m3, .slice a4 n4 c4]) (by simp [results, Tryz.results39, go_sem, HS]) rfl HE.out
end Go.Proofs.YtifnamlgkooacaaGreatDoor
namespace Go.Proofs.YtifnamlgkooacaaGreatDoor
open Go.RowKit
attribute [local go_sem ↓] Go.wp_at_zero Go.wp_at_succ
theorem Slot3.set1 {w : World} {k : Nat} {x y z : Value} (h : Slot3 w k x y z) (t : Value) : Slot3 (w.setCell ⟨k, 2, none⟩ t) k x y t := by
  refine ⟨?_, ?_, World.cell?_setCell_same _ _ _ h.cell2, by simp [h.free], by simp [h.free1], by simp [h.free2], by simpa using h.lt⟩
  · rw [World.cell?_setCell_other _ _ _ _ (fun e => by cases e)]; exact h.cell
  · rw [World.cell?_setCell_other _ _ _ _ (fun e => by cases e)]; exact h.cell1
theorem Slot3.set1o {w : World} {k j o : Nat} {x y z : Value} (h : Slot3 w j x y z) (e : j ≠ k) (t : Value) : Slot3 (w.setCell ⟨k, o, none⟩ t) j x y z := by
  have hn : ∀ o' : Nat, (⟨k, o, none⟩ : Addr) ≠ ⟨j, o', none⟩ := fun o' h => e (by cases h; rfl)
  refine ⟨?_, ?_, ?_, by simp [h.free], by simp [h.free1], by simp [h.free2], by simpa using h.lt⟩
  · rw [World.cell?_setCell_other _ _ _ _ (hn _)]; exact h.cell
  · rw [World.cell?_setCell_other _ _ _ _ (hn _)]; exact h.cell1
  · rw [World.cell?_setCell_other _ _ _ _ (hn _)]; exact h.cell2
/-- Three cells of another block stored. -/
theorem Slot.set3o {w : World} {k j : Nat} {x : Value} (h : Slot w j x) (e : j ≠ k) (u v t : Value) : Slot (((w.setCell ⟨k, 0, none⟩ u).setCell ⟨k, 1, none⟩ v).setCell ⟨k, 2, none⟩ t) j x := by
  have hn : ∀ o : Nat, (⟨k, o, none⟩ : Addr) ≠ ⟨j, 0, none⟩ := fun o h => e (by cases h; rfl)
  refine ⟨?_, by simp [h.free], by simpa using h.lt⟩
  rw [World.cell?_setCell_other _ _ _ _ (hn _), World.cell?_setCell_other _ _ _ _ (hn _), World.cell?_setCell_other _ _ _ _ (hn _)]; exact h.cell
theorem Slot2.set3o {w : World} {k j : Nat} {x y : Value} (h : Slot2 w j x y) (e : j ≠ k) (u v t : Value) : Slot2 (((w.setCell ⟨k, 0, none⟩ u).setCell ⟨k, 1, none⟩ v).setCell ⟨k, 2, none⟩ t) j x y := by
  have hn : ∀ o o' : Nat, (⟨k, o, none⟩ : Addr) ≠ ⟨j, o', none⟩ := fun o o' h => e (by cases h; rfl)
  refine ⟨?_, ?_, by simp [h.free], by simp [h.free1], by simpa using h.lt⟩
  · rw [World.cell?_setCell_other _ _ _ _ (hn _ _), World.cell?_setCell_other _ _ _ _ (hn _ _), World.cell?_setCell_other _ _ _ _ (hn _ _)]; exact h.cell
  · rw [World.cell?_setCell_other _ _ _ _ (hn _ _), World.cell?_setCell_other _ _ _ _ (hn _ _), World.cell?_setCell_other _ _ _ _ (hn _ _)]; exact h.cell1
theorem Slot3.set3o {w : World} {k j : Nat} {x y z : Value} (h : Slot3 w j x y z) (e : j ≠ k) (u v t : Value) : Slot3 (((w.setCell ⟨k, 0, none⟩ u).setCell ⟨k, 1, none⟩ v).setCell ⟨k, 2, none⟩ t) j x y z :=
  (h.set2o e u v).set1o e t
end Go.Proofs.YtifnamlgkooacaaGreatDoor
namespace Go.Proofs.YtifnamlgkooacaaGreatDoor
open Go.RowKit
attribute [local go_sem ↓] Go.wp_at_zero Go.wp_at_succ
def RatTold3 (w w' : World) (e : Ending) (P : Int) (Q : Nat) (ok : Bool) : Prop := ∃ a n c m a2 n2 c2, e = .returned (.tuple #[.agg #[.slice a n c, .bool m, .slice a2 n2 c2], .bool ok]) ∧ RatAt w' a n c m a2 n2 c2 P Q ∧ Below w.heap.size w w'
theorem RatTold3.done {w w2 : World} {k : Nat} {a0 : Option Addr} {n0 c0 : Nat} {m0 : Bool} {a1 : Option Addr} {n1 c1 : Nat} {a : Option Addr} {n c : Nat} {m : Bool} {a2 : Option Addr} {n2 c2 : Nat} {P : Int} {Q : Nat} (ok : Bool) (hb : Below w.heap.size w w2) (hk : w.heap.size ≤ k)
    (hs : Slot3 w2 k (.slice a0 n0 c0) (.bool m0) (.slice a1 n1 c1)) (h : RatAt w2 a n c m a2 n2 c2 P Q) :
    RatTold3 w (((w2.setCell ⟨k, 0, none⟩ (.slice a n c)).setCell ⟨k, 1, none⟩ (.bool m)).setCell ⟨k, 2, none⟩ (.slice a2 n2 c2)) (.returned (.tuple #[.agg #[.slice a n c, .bool m, .slice a2 n2 c2], .bool ok])) P Q ok := by
  obtain ⟨a', n', c', m', a2', n2', c2', he, h1, h2⟩ := RatTold.done hb hk hs h
  cases he
  exact ⟨a, n, c, m, a2, n2, c2, rfl, h1, h2⟩
theorem IntAt.nt {w : World} {a : Option Addr} {n c : Nat} {m : Bool} {Z : Int} (h : IntAt w a n c m Z) : NatIs w (.agg #[.slice a n c]) Z.natAbs := h.2
theorem RatAt.int {w : World} {a : Option Addr} {n c : Nat} {m : Bool} {a2 : Option Addr} {n2 c2 : Nat} {P : Int} {Q : Nat} (h : RatAt w a n c m a2 n2 c2 P Q) : IntAt w a n c m P := h.1
theorem RatAt.zero (w : World) : RatAt w none 0 0 false none 0 0 0 1 := ⟨⟨rfl, NatIs.zero w⟩, NatIs.zero w⟩
theorem Slot2.set2 {w : World} {k : Nat} {x y : Value} (h : Slot2 w k x y) (u v : Value) : Slot2 ((w.setCell ⟨k, 0, none⟩ u).setCell ⟨k, 1, none⟩ v) k u v :=
  ⟨(h.set u v).1, (h.set u v).2, by simp [h.free], by simp [h.free1], by simpa using h.lt⟩
theorem Slot2.set2o {w : World} {k j : Nat} {x y : Value} (h : Slot2 w j x y) (e : j ≠ k) (u v : Value) : Slot2 ((w.setCell ⟨k, 0, none⟩ u).setCell ⟨k, 1, none⟩ v) j x y := by
  have hn : ∀ o o' : Nat, (⟨k, o, none⟩ : Addr) ≠ ⟨j, o', none⟩ := fun o o' h => e (by cases h; rfl)
  refine ⟨?_, ?_, by simp [h.free], by simp [h.free1], by simpa using h.lt⟩
  · rw [World.cell?_setCell_other _ _ _ _ (hn _ _), World.cell?_setCell_other _ _ _ _ (hn _ _)]; exact h.cell
  · rw [World.cell?_setCell_other _ _ _ _ (hn _ _), World.cell?_setCell_other _ _ _ _ (hn _ _)]; exact h.cell1
theorem RatAt.set3 {w : World} {k : Nat} {a0 : Option Addr} {n0 c0 : Nat} {m0 : Bool} {a1 : Option Addr} {n1 c1 : Nat} {a : Option Addr} {n c : Nat} {m : Bool} {a2 : Option Addr} {n2 c2 : Nat} {P : Int} {Q : Nat} (q : RatAt w a n c m a2 n2 c2 P Q)
    (h : Slot3 w k (.slice a0 n0 c0) (.bool m0) (.slice a1 n1 c1)) (u v t : Value) : RatAt (((w.setCell ⟨k, 0, none⟩ u).setCell ⟨k, 1, none⟩ v).setCell ⟨k, 2, none⟩ t) a n c m a2 n2 c2 P Q :=
  ⟨⟨q.1.1, q.1.2.set3 h (fun _ _ h => by cases h) (fun _ _ h => by cases h) (fun _ _ h => by cases h) _ _ _⟩, q.2.set3 h (fun _ _ h => by cases h) (fun _ _ h => by cases h) (fun _ _ h => by cases h) _ _ _⟩
end Go.Proofs.YtifnamlgkooacaaGreatDoor
namespace Go.Proofs.YtifnamlgkooacaaGreatDoor
open Go.RowKit
end Go.Proofs.YtifnamlgkooacaaGreatDoor

namespace Go.Proofs.YtifnamlgkooacaaGreatDoor
open Go.RowKit Go.WideMaps Go.WideElems
end Go.Proofs.YtifnamlgkooacaaGreatDoor
namespace Go.Proofs.YtifnamlgkooacaaGreatDoor
open Go.RowKit
end Go.Proofs.YtifnamlgkooacaaGreatDoor
namespace Go.Proofs.YtifnamlgkooacaaGreatDoor
open Go.RowKit
end Go.Proofs.YtifnamlgkooacaaGreatDoor
namespace Go.Proofs.YtifnamlgkooacaaGreatDoor
open Go.RowKit
theorem NatIs.store {w : World} {v : Value} {N k : Nat} {x : Value} (h : NatIs w v N) (hs : w.cell? ⟨k, 0, none⟩ = some x) (hx : ∀ ki z, x ≠ .int ki z) (u : Value) : NatIs (w.setCell ⟨k, 0, none⟩ u) v N := by
  obtain ⟨a, n, c, f, rfl, ⟨h1, h2, h3, h4⟩, hv, ht⟩ := h
  refine ⟨a, n, c, f, rfl, ⟨h1, h2, h3, ?_⟩, hv, ht⟩
  rcases h4 with h4 | ⟨b, off, rfl, hb, hc⟩
  · exact .inl h4
  · refine .inr ⟨b, off, rfl, by simpa using hb, fun j hj => ?_⟩
    rw [World.cell?_setCell_other _ _ _ _ (fun e' => ?_)]
    · exact hc j hj
    · have h5 := hc j hj
      rw [show (⟨b, off + j, none⟩ : Addr) = ⟨k, 0, none⟩ from by first | exact e' | exact e'.symm, hs] at h5
      exact hx _ _ (Option.some.inj h5)
def PowTold (w w' : World) (e : Ending) (N : Nat) (b : Bool) : Prop := ∃ a n c, e = .returned (.tuple #[.agg #[.slice a n c], .bool b]) ∧ NatIs w' (.agg #[.slice a n c]) N ∧ Below w.heap.size w w'
/-- Within Pow: the base in its cell, and the answer's cell still empty. -/
structure PI (w wr : World) (x : Value) (X : Nat) : Prop where
  below : Below w.heap.size w wr
  s1 : Slot wr w.heap.size x
  s2 : Slot wr (w.heap.size + 1) (.slice none 0 0)
  xs : NatIs wr (.agg #[x]) X
theorem PI.go {w wr w2 : World} {x : Value} {X : Nat} (h : PI w wr x X) (hb : Below wr.heap.size wr w2) : PI w w2 x X :=
  ⟨h.below.trans (hb.mono h.below.size), h.s1.below hb, h.s2.below hb, h.xs.below hb⟩
theorem PI.done {w wr : World} {x : Value} {X : Nat} (h : PI w wr x X) {a : Option Addr} {n c N : Nat} (hv : NatIs wr (.agg #[.slice a n c]) N) (b : Bool) :
    PowTold w (wr.setCell ⟨w.heap.size + 1, 0, none⟩ (.slice a n c)) (.returned (.tuple #[.agg #[.slice a n c], .bool b])) N b :=
  ⟨a, n, c, rfl, hv.store h.s2.cell (fun _ _ h => by cases h) _, h.below.setCell (show w.heap.size ≤ w.heap.size + 1 by omega) _⟩
theorem PI.start {w : World} {a : Option Addr} {n c X : Nat} (h : NatIs w (.agg #[.slice a n c]) X) : PI w ((w.alloc (.cells #[.slice a n c] 73)).alloc (.cells #[.slice none 0 0] 73)) (.slice a n c) X :=
  have hb : Below w.heap.size w ((w.alloc (.cells #[.slice a n c] 73)).alloc (.cells #[.slice none 0 0] 73)) := ((Below.refl _ _).alloc (Nat.le_refl _) _).alloc (by rw [World.size_alloc]; omega) _
  ⟨hb, (Slot.new w _ _).alloc _, Slot.new1 w _ _ _, h.below hb⟩
set_option maxRecDepth 100000 in
theorem pow_one (v : Value) (X : Nat) (n most : Int) (w : World) (h : NatIs w v X) (hn : n ≤ 0 ∨ X = 1) :
    Calls Tryz.prog 157 #[v, .int .i64 n, .int .i64 most] w fun e w' => PowTold w w' e 1 true := by
  obtain ⟨a, k, c, f, rfl, hs, hv, ht⟩ := h
  have HP := Lib.hid (PI.start (w := w) ⟨a, k, c, f, rfl, hs, hv, ht⟩)
  have hON := Lib.hid (one_any (.agg #[.slice a k c]) X _ HP.out.xs)
  clear hs hv ht
  by_cases c1 : n ≤ 0
  · have d1 : decide (n ≤ 0) = true := decide_eq_true c1
    go_enter Tryz.func157, Tryz.ntmps157
    go_wp2_with fail
    go_at_call 105
    refine (of_told 1 _ (by omega)).mono ?_
    rintro e w3 ⟨a3, n3, c3, rfl, hn3, hb3⟩
    have HQ := HP.out.go hb3
    have hc := HQ.s2.cell
    have hf := HQ.s2.free
    have HE := Lib.hid (HQ.done hn3 true)
    clear HQ hn3 hb3
    go_wp2
    exact bodyPost_ret (v := .tuple #[.agg #[.slice a3 n3 c3], .bool true]) (by simp [results, Tryz.results157, go_sem, hc]) rfl HE.out
  · have d1 : decide (n ≤ 0) = false := decide_eq_false c1
    have hX1 : X = 1 := by omega
    rw [decide_eq_true hX1] at hON
    have hc0 := HP.out.s1.cell
    go_enter Tryz.func157, Tryz.ntmps157
    go_wp2_with fail
    go_at_call 141
    refine hON.out.mono ?_
    rintro e w2 ⟨rfl, hb2⟩
    have HP2 := Lib.hid (HP.out.go hb2)
    clear hb2 hc0
    go_wp2_with fail
    go_at_call 105
    refine (of_told 1 _ (by omega)).mono ?_
    rintro e w3 ⟨a3, n3, c3, rfl, hn3, hb3⟩
    have HQ := HP2.out.go hb3
    have hc := HQ.s2.cell
    have hf := HQ.s2.free
    have HE := Lib.hid (HQ.done hn3 true)
    clear HQ hn3 hb3
    go_wp2
    exact bodyPost_ret (v := .tuple #[.agg #[.slice a3 n3 c3], .bool true]) (by simp [results, Tryz.results157, go_sem, hc]) rfl HE.out
set_option maxRecDepth 100000 in
theorem pow_zero (v : Value) (n most : Int) (w : World) (h : NatIs w v 0) (hn : 0 < n) :
    Calls Tryz.prog 157 #[v, .int .i64 n, .int .i64 most] w fun e w' => PowTold w w' e 0 true := by
  obtain ⟨a, k, c, f, rfl, hs, hv, ht⟩ := h
  have HP := Lib.hid (PI.start (w := w) ⟨a, k, c, f, rfl, hs, hv, ht⟩)
  have hON := Lib.hid (one_any (.agg #[.slice a k c]) 0 _ HP.out.xs)
  have hZN := Lib.hid (fun wz h => zero_any (.agg #[.slice a k c]) 0 wz h)
  clear hs hv ht
  have d1 : decide (n ≤ 0) = false := decide_eq_false (by omega)
  have hc0 := HP.out.s1.cell
  go_enter Tryz.func157, Tryz.ntmps157
  go_wp2_with fail
  go_at_call 141
  refine hON.out.mono ?_
  rintro e w2 ⟨rfl, hb2⟩
  have HP2 := Lib.hid (HP.out.go hb2)
  have hc1 := HP2.out.s1.cell
  clear hb2 hc0
  go_wp2_with fail
  go_at_call 117
  refine (hZN.out _ HP2.out.xs).mono ?_
  rintro e w3 ⟨rfl, hb3⟩
  have HQ := HP2.out.go hb3
  have hc := HQ.s2.cell
  have hf := HQ.s2.free
  have HE := Lib.hid (HQ.done (NatIs.zero _) true)
  clear HQ hb3
  go_wp2
  exact bodyPost_ret (v := .tuple #[.agg #[.slice none 0 0], .bool true]) (by simp [results, Tryz.results157, go_sem, hc]) rfl HE.out
end Go.Proofs.YtifnamlgkooacaaGreatDoor
namespace Go.Proofs.YtifnamlgkooacaaGreatDoor
open Go.RowKit
/-- Within the loop: the power in its cell. -/
structure PS (w wr : World) (x : Value) (X z8 E : Nat) (p : Value) : Prop where
  pi : PI w wr x X
  lt8 : w.heap.size + 1 < z8
  s8 : Slot wr z8 p
  np : NatIs wr (.agg #[p]) (X ^ E)
theorem PS.go {w wr w2 : World} {x p : Value} {X z8 E : Nat} (h : PS w wr x X z8 E p) (hb : Below wr.heap.size wr w2) : PS w w2 x X z8 E p :=
  ⟨h.pi.go hb, h.lt8, h.s8.below hb, h.np.below hb⟩
theorem PS.put {w wr : World} {x : Value} {X z8 E E2 : Nat} {a a2 : Option Addr} {n c n2 c2 : Nat} (h : PS w wr x X z8 E (.slice a n c)) (hv : NatIs wr (.agg #[.slice a2 n2 c2]) (X ^ E2)) :
    PS w (wr.setCell ⟨z8, 0, none⟩ (.slice a2 n2 c2)) x X z8 E2 (.slice a2 n2 c2) := by
  have hlt := h.lt8
  have hw : Wrote z8 0 1 wr (wr.setCell ⟨z8, 0, none⟩ (.slice a2 n2 c2)) := (Wrote.refl z8 0 1 wr).setCell (Nat.le_refl _) (by omega) _
  refine ⟨⟨h.pi.below.setCell (show w.heap.size ≤ z8 by omega) _, h.pi.s1.wrote hw (by omega), h.pi.s2.wrote hw (by omega), h.pi.xs.store h.s8.cell (fun _ _ h => by cases h) _⟩, hlt, ⟨World.cell?_setCell_same _ _ _ h.s8.cell, by simp [h.s8.free], by simpa using h.s8.lt⟩, hv.store h.s8.cell (fun _ _ h => by cases h) _⟩
end Go.Proofs.YtifnamlgkooacaaGreatDoor

namespace Go.Proofs.YtifnamlgkooacaaGreatDoor
open Go.RowKit
attribute [local go_sem ↓] Go.wp_at_zero Go.wp_at_succ
set_option maxHeartbeats 1600000 in
set_option maxRecDepth 100000 in
theorem ratInt_any (a : Option Addr) (n c : Nat) (m : Bool) (a2 : Option Addr) (n2 c2 : Nat) (P : Int) (Q : Nat) (w : World) (h : RatAt w a n c m a2 n2 c2 P Q) (hQ : 0 < Q) :
    Calls Tryz.prog 50 #[.agg #[.slice a n c, .bool m, .slice a2 n2 c2]] w fun e w' => e = .returned (.tuple #[.int .i64 (if Q = 1 then fitI P else 0), .bool (decide (Q = 1) && fitB P)]) ∧ Below w.heap.size w w' := by
  have B0 := ((Bag.start w).rat h).box3 (.slice a n c) (.bool m) (.slice a2 n2 c2) 77
  have IW := Lib.hid (fun wz hz => isWhole_any a n c m a2 n2 c2 P Q wz hz hQ)
  have IN := Lib.hid (fun wz (h : IntAt wz a n c m P) => int_any a n c m P wz h)
  have BB := Lib.hid B0
  by_cases h1 : Q = 1
  · rw [decide_eq_true h1] at IW ⊢
    rw [if_pos h1, Bool.true_and]
    generalize fitI P = x at *
    generalize fitB P = y at *
    clear h hQ B0 h1
    go_enter Tryz.func50, Tryz.ntmps50
    go_wp2_with (first
      | (go_at_call 87; (with_reducible refine (IW.out _ BB.out.now.2.1).mono ?_); rintro e w2 ⟨rfl, hb2⟩; have BB := Lib.hid (BB.out.go hb2); clear hb2; have q0 := BB.out.now.1.cell; have q1 := BB.out.now.1.cell1)
      | (go_at_call 88; (with_reducible refine (IN.out _ BB.out.now.2.1.int).mono ?_); rintro e w3 ⟨rfl, hb3⟩; have BB := Lib.hid (BB.out.go hb3); clear hb3))
    go_ret2
    exact ⟨rfl, BB.out.below⟩
  · rw [decide_eq_false h1] at IW ⊢
    rw [if_neg h1, Bool.false_and]
    clear h hQ B0 h1 IN
    go_enter Tryz.func50, Tryz.ntmps50
    go_wp2_with (first
      | (go_at_call 87; (with_reducible refine (IW.out _ BB.out.now.2.1).mono ?_); rintro e w2 ⟨rfl, hb2⟩; have BB := Lib.hid (BB.out.go hb2); clear hb2))
    go_ret2
    exact ⟨rfl, BB.out.below⟩
set_option maxHeartbeats 3200000 in
set_option maxRecDepth 100000 in
theorem ratCmp_any (a : Option Addr) (n c : Nat) (m : Bool) (a2 : Option Addr) (n2 c2 : Nat) (P : Int) (Q : Nat) (b : Option Addr) (k l : Nat) (v : Bool) (b2 : Option Addr) (k2 l2 : Nat) (P' : Int) (Q' : Nat) (w : World)
    (h : RatAt w a n c m a2 n2 c2 P Q) (g : RatAt w b k l v b2 k2 l2 P' Q') (hQ : 0 < Q) (hQ' : 0 < Q') (K : Nat) (hK : K ≤ 400000) (h1 : P.natAbs < 4294967296 ^ K) (h2 : Q < 4294967296 ^ K) (h3 : P'.natAbs < 4294967296 ^ K) (h4 : Q' < 4294967296 ^ K) :
    Calls Tryz.prog 84 #[.agg #[.slice a n c, .bool m, .slice a2 n2 c2], .agg #[.slice b k l, .bool v, .slice b2 k2 l2]] w fun e w' => e = .returned (.int .i64 (cmpZ (P * Q') (P' * Q))) ∧ Below w.heap.size w w' := by
  have B0 := ((((Bag.start w).rat h).rat g).box3 (.slice a n c) (.bool m) (.slice a2 n2 c2) 77).box3 (.slice b k l) (.bool v) (.slice b2 k2 l2) 77
  simp only [World.size_alloc] at B0
  have IW := Lib.hid (fun wz hz => isWhole_any a n c m a2 n2 c2 P Q wz hz hQ)
  have IW' := Lib.hid (fun wz hz => isWhole_any b k l v b2 k2 l2 P' Q' wz hz hQ')
  have BB := Lib.hid B0
  have q0 := B0.now.2.1.cell
  have q1 := B0.now.2.1.cell1
  have q2 := B0.now.2.1.cell2
  have r0 := B0.now.1.cell
  have r1 := B0.now.1.cell1
  have r2 := B0.now.1.cell2
  by_cases hw : Q = 1 ∧ Q' = 1
  · obtain ⟨rfl, rfl⟩ := hw
    have CM := Lib.hid (fun wz (h : IntAt wz a n c m P) (g : IntAt wz b k l v P') => icmp_any a n c m P b k l v P' wz h g)
    rw [show P * ((1 : Nat) : Int) = P from Int.mul_one P, show P' * ((1 : Nat) : Int) = P' from Int.mul_one P']
    rw [decide_eq_true rfl] at IW IW'
    generalize cmpZ P P' = z at *
    clear h g B0 h1 h2 h3 h4 hQ hQ'
    go_enter Tryz.func84, Tryz.ntmps84
    go_wp2_with (first
      | (go_at_call 87; (with_reducible refine (IW.out _ BB.out.now.2.2.2.1).mono ?_); rintro e w2 ⟨rfl, hb2⟩; have BB := Lib.hid (BB.out.go hb2); clear hb2; have q0 := BB.out.now.2.1.cell; have q1 := BB.out.now.2.1.cell1; have r0 := BB.out.now.1.cell; have r1 := BB.out.now.1.cell1; have r2 := BB.out.now.1.cell2)
      | (go_at_call 87; (with_reducible refine (IW'.out _ BB.out.now.2.2.1).mono ?_); rintro e w3 ⟨rfl, hb3⟩; have BB := Lib.hid (BB.out.go hb3); clear hb3; have q0 := BB.out.now.2.1.cell; have q1 := BB.out.now.2.1.cell1; have r0 := BB.out.now.1.cell; have r1 := BB.out.now.1.cell1)
      | (go_at_call 110; (with_reducible refine (CM.out _ BB.out.now.2.2.2.1.int BB.out.now.2.2.1.int).mono ?_); rintro e w4 ⟨rfl, hb4⟩; have BB := Lib.hid (BB.out.go hb4); clear hb4))
    go_ret
    exact ⟨rfl, BB.out.below⟩
  · have BL := Lib.hid (fun wz (h : RatAt wz a n c m a2 n2 c2 P Q) => below_any a n c m a2 n2 c2 P Q wz h hQ)
    have BL' := Lib.hid (fun wz (h : RatAt wz b k l v b2 k2 l2 P' Q') => below_any b k l v b2 k2 l2 P' Q' wz h hQ')
    have T1 := Lib.hid (fun sa wz (h : IntAt wz a n c m P) (g : IntsAt wz sa 1 1 (fun _ => (Q' : Int))) => times1_any a n c m P sa Q' wz h g K hK h1 (by rw [Int.natAbs_natCast]; exact h4))
    have T2 := Lib.hid (fun sa wz (h : IntAt wz b k l v P') (g : IntsAt wz sa 1 1 (fun _ => (Q : Int))) => times1_any b k l v P' sa Q wz h g K hK h3 (by rw [Int.natAbs_natCast]; exact h2))
    have CM := Lib.hid (fun a n c m a2 n2 c2 m2 wz (h : IntAt wz a n c m (P * Q')) (g : IntAt wz a2 n2 c2 m2 (P' * Q)) => icmp_any a n c m (P * Q') a2 n2 c2 m2 (P' * Q) wz h g)
    generalize cmpZ (P * Q') (P' * Q) = z at *
    generalize P * (Q' : Int) = X at *
    generalize P' * (Q : Int) = Y at *
    have hx : ∃ x y : Bool, decide (Q = 1) = x ∧ decide (Q' = 1) = y ∧ (x && y) = false := ⟨_, _, rfl, rfl, by
      by_cases e1 : Q = 1
      · rw [decide_eq_false (fun e2 => hw ⟨e1, e2⟩)]; simp
      · rw [decide_eq_false e1]; rfl⟩
    obtain ⟨x, y, hx1, hx2, hxy⟩ := hx
    rw [hx1] at IW
    rw [hx2] at IW'
    clear h g B0 h1 h2 h3 h4 hQ hQ' hx1 hx2 hw
    cases x <;> cases y
    all_goals
      first
        | (exact absurd hxy (by decide))
        | skip
    all_goals
      clear hxy
      go_enter Tryz.func84, Tryz.ntmps84
      go_wp2_with (first
        | (go_at_call 87; (with_reducible refine (IW.out _ BB.out.now.2.2.2.1).mono ?_); rintro e w2 ⟨rfl, hb2⟩; have BB := Lib.hid (BB.out.go hb2); clear hb2; have q0 := BB.out.now.2.1.cell; have q1 := BB.out.now.2.1.cell1; have r0 := BB.out.now.1.cell; have r1 := BB.out.now.1.cell1; have r2 := BB.out.now.1.cell2)
        | (go_at_call 87; (with_reducible refine (IW'.out _ BB.out.now.2.2.1).mono ?_); rintro e w3 ⟨rfl, hb3⟩; have BB := Lib.hid (BB.out.go hb3); clear hb3; have q0 := BB.out.now.2.1.cell; have q1 := BB.out.now.2.1.cell1; have r0 := BB.out.now.1.cell; have r1 := BB.out.now.1.cell1))
      have BB := Lib.hid BB.out.drew
      go_region_held3 (fun y => (y.cell? ⟨w.heap.size, 0, none⟩ = some (.slice a n c) ∧ y.cell? ⟨w.heap.size, 1, none⟩ = some (.bool m) ∧ y.cell? ⟨w.heap.size, 2, none⟩ = some (.slice a2 n2 c2)) ∧ y.cell? ⟨w.heap.size + 1, 0, none⟩ = some (.slice b k l) ∧ y.cell? ⟨w.heap.size + 1, 1, none⟩ = some (.bool v) ∧ y.cell? ⟨w.heap.size + 1, 2, none⟩ = some (.slice b2 k2 l2))
        (first
          | (exact ⟨⟨BB.out.now.2.1.cell, BB.out.now.2.1.cell1, BB.out.now.2.1.cell2⟩, BB.out.now.1.cell, BB.out.now.1.cell1, BB.out.now.1.cell2⟩)
          | (exact (fun B9 : Bag w _ _ => ⟨⟨B9.now.2.1.cell, B9.now.2.1.cell1, B9.now.2.1.cell2⟩, B9.now.1.cell, B9.now.1.cell1, B9.now.1.cell2⟩) (BB.out.alloc _)))
        (first
          | (go_at_call 112; (with_reducible refine (BL'.out _ BB.out.now.2.2.1).mono ?_); rintro e w5 ⟨a5, n5, c5, m5, rfl, hi5, hb5⟩; have BB := Lib.hid (BB.out.go hb5))
          | (go_at_call 111; (with_reducible refine (T1.out _ _ ?_ ?_).mono ?_); exact (BB.out.alloc _).now.2.2.2.1.int; exact IntsAt.mk1 rfl (hi5.below ((Below.refl _ _).alloc (Nat.le_refl _) _)); rintro e w6 ⟨a6, n6, c6, m6, rfl, hi6, hb6⟩; have BB := Lib.hid ((BB.out.alloc _).go hb6))
          | (go_at_call 112; (with_reducible refine (BL.out _ BB.out.now.2.2.2.1).mono ?_); rintro e w7 ⟨a7, n7, c7, m7, rfl, hi7, hb7⟩; have BB := Lib.hid (BB.out.go hb7))
          | (go_at_call 111; (with_reducible refine (T2.out _ _ ?_ ?_).mono ?_); exact (BB.out.alloc _).now.2.2.1.int; exact IntsAt.mk1 rfl (hi7.below ((Below.refl _ _).alloc (Nat.le_refl _) _)); rintro e w8 ⟨a8, n8, c8, m8, rfl, hi8, hb8⟩; have BB := Lib.hid ((BB.out.alloc _).go hb8))
          | (go_at_call 110; (with_reducible refine (CM.out _ _ _ _ _ _ _ _ _ (((hi6.below hb7).below ((Below.refl _ _).alloc (Nat.le_refl _) _)).below hb8) hi8).mono ?_); rintro e w9 ⟨rfl, hb9⟩; have BB := Lib.hid (BB.out.go hb9)))
      go_wp2
      go_ret
      exact ⟨rfl, BB.out.below⟩
end Go.Proofs.YtifnamlgkooacaaGreatDoor
namespace Go.Proofs.YtifnamlgkooacaaGreatDoor
open Go.RowKit
attribute [local go_sem ↓] Go.wp_at_zero Go.wp_at_succ
end Go.Proofs.YtifnamlgkooacaaGreatDoor
namespace Go.Proofs.YtifnamlgkooacaaGreatDoor
open Go.RowKit
attribute [local go_sem ↓] Go.wp_at_zero Go.wp_at_succ
/-- A number as digits. -/
def NumTold (w w' : World) (e : Ending) (P : Int) (Q : Nat) : Prop := e = .returned (.agg #[.bool (rB P), .string (rS P), .string (str (dec Q))]) ∧ Below w.heap.size w w'
theorem NumTold.done {w w2 : World} {k : Nat} (P : Int) (Q : Nat) (hb : Below w.heap.size w w2) (hk : w.heap.size ≤ k) {b : Bool} {s t : ByteArray} (h1 : rB P = b) (h2 : rS P = s) (h3 : str (dec Q) = t) :
    NumTold w (((w2.setCell ⟨k, 0, none⟩ (.bool b)).setCell ⟨k, 1, none⟩ (.string s)).setCell ⟨k, 2, none⟩ (.string t)) (.returned (.agg #[.bool b, .string s, .string t])) P Q :=
  ⟨by rw [h1, h2, h3], ((hb.setCell hk _).setCell hk _).setCell hk _⟩
set_option maxHeartbeats 3200000 in
set_option maxRecDepth 100000 in
theorem num_any (a : Option Addr) (n c : Nat) (m : Bool) (a2 : Option Addr) (n2 c2 : Nat) (P : Int) (Q : Nat) (w : World) (h : RatAt w a n c m a2 n2 c2 P Q) (hQ : 0 < Q)
    (K : Nat) (hK : K ≤ 100000) (h1 : P.natAbs < 4294967296 ^ K) (h2 : Q < 4294967296 ^ K) :
    Calls Tryz.prog 71 #[.agg #[.slice a n c, .bool m, .slice a2 n2 c2]] w fun e w' => NumTold w w' e P Q := by
  have B0 := (((Bag.start w).rat h).box3 (.slice a n c) (.bool m) (.slice a2 n2 c2) 77).box3 (.bool false) (.string ⟨#[]⟩) (.string ⟨#[]⟩) 87
  simp only [World.size_alloc] at B0
  have SG := Lib.hid (fun wz hz => ratSign_any a n c m a2 n2 c2 P Q wz hz)
  have BT := Lib.hid (fun wz hz => bot_any a n c m a2 n2 c2 P Q wz hz hQ)
  have X1 : Hid (∀ wz, NatIs wz (.agg #[.slice a n c]) P.natAbs → Calls Tryz.prog 102 #[.agg #[.slice a n c]] wz fun e w' => e = .returned (.string (rS P)) ∧ Below wz.heap.size wz w') := fun wz h => text_any _ P.natAbs wz h K hK h1
  have X2 := Lib.hid (fun a n c wz (h : NatIs wz (.agg #[.slice a n c]) Q) => text_any (.agg #[.slice a n c]) Q wz h K hK h2)
  have BB := Lib.hid B0.drew
  have he : w.heap.size ≠ w.heap.size + 1 := by omega
  have ND := Lib.hid (fun w2 b s t (hb : Below w.heap.size w w2) (h1 : rB P = b) (h2 : rS P = s) (h3 : str (dec Q) = t) => NumTold.done (k := w.heap.size + 1) P Q hb (by omega) h1 h2 h3)
  obtain ⟨s, hs⟩ : ∃ s, rS P = s := ⟨_, rfl⟩
  obtain ⟨t, ht⟩ : ∃ t, str (dec Q) = t := ⟨_, rfl⟩
  rw [hs] at X1
  rw [ht] at X2
  have HS0 := Lib.hid hs
  have HT0 := Lib.hid ht
  have hv : ∃ x b, sgnI P = x ∧ rB P = b ∧ ((x = -1 ∧ b = true) ∨ (x = 0 ∧ b = false) ∨ (x = 1 ∧ b = false)) := by
    refine ⟨_, _, rfl, rfl, ?_⟩
    unfold sgnI rB
    by_cases e1 : P < 0
    · rw [if_pos e1, decide_eq_true e1]; exact .inl ⟨rfl, rfl⟩
    · rw [if_neg e1, decide_eq_false e1]
      by_cases e2 : P = 0
      · rw [if_pos e2]; exact .inr (.inl ⟨rfl, rfl⟩)
      · rw [if_neg e2]; exact .inr (.inr ⟨rfl, rfl⟩)
  obtain ⟨x, b, hx, hb0, hxb⟩ := hv
  rw [hx] at SG
  have HB0 := Lib.hid hb0
  clear h hQ B0 h1 h2 hs ht hx hb0
  rcases hxb with ⟨rfl, rfl⟩ | ⟨rfl, rfl⟩ | ⟨rfl, rfl⟩
  · go_enter Tryz.func71, Tryz.ntmps71
    go_wp2_with fail
    go_region_held3 (fun y => y.cell? ⟨w.heap.size, 0, none⟩ = some (.slice a n c) ∧ y.cell? ⟨w.heap.size, 1, none⟩ = some (.bool m) ∧ y.cell? ⟨w.heap.size, 2, none⟩ = some (.slice a2 n2 c2))
      (first
        | (exact ⟨z0.cell, z0.cell1, z0.cell2⟩)
        | (exact ⟨BB.out.now.2.1.cell, BB.out.now.2.1.cell1, BB.out.now.2.1.cell2⟩))
      (first
        | (go_at_call 101; (with_reducible refine (SG.out _ BB.out.now.2.2.1).mono ?_); rintro e w2 ⟨rfl, hb2⟩; have BB := Lib.hid (BB.out.go hb2))
        | (go_at_call 102; (with_reducible refine (X1.out _ BB.out.now.2.2.1.int.nt).mono ?_); rintro e w3 ⟨rfl, hb3⟩; have BB := Lib.hid (BB.out.go hb3))
        | (go_at_call 103; (with_reducible refine (BT.out _ BB.out.now.2.2.1).mono ?_); rintro e w4 ⟨a3, n3, c3, rfl, hn3, hb4⟩; have BB := Lib.hid (BB.out.go hb4))
        | (go_at_call 102; (with_reducible refine (X2.out _ _ _ _ hn3).mono ?_); rintro e w5 ⟨rfl, hb5⟩; have BB := Lib.hid (BB.out.go hb5); have hs := BB.out.now.1; have r0 := hs.cell; have r1 := hs.cell1; have r2 := hs.cell2; have g0 := hs.free; have g1 := hs.free1; have g2 := hs.free2; have z0 := BB.out.now.2.1.set3o he (.bool true) (.string s) (.string t); have HS := hs.set (.bool true) (.string s) (.string t); have HE := Lib.hid (ND.out _ _ _ _ BB.out.below HB0.out HS0.out HT0.out)))
    go_wp2
    exact bodyPost_ret (v := .agg #[.bool true, .string s, .string t]) (by simp [results, Tryz.results71, go_sem, HS]) rfl HE.out
  · go_enter Tryz.func71, Tryz.ntmps71
    go_wp2_with fail
    go_region_held3 (fun y => y.cell? ⟨w.heap.size, 0, none⟩ = some (.slice a n c) ∧ y.cell? ⟨w.heap.size, 1, none⟩ = some (.bool m) ∧ y.cell? ⟨w.heap.size, 2, none⟩ = some (.slice a2 n2 c2))
      (first
        | (exact ⟨z0.cell, z0.cell1, z0.cell2⟩)
        | (exact ⟨BB.out.now.2.1.cell, BB.out.now.2.1.cell1, BB.out.now.2.1.cell2⟩))
      (first
        | (go_at_call 101; (with_reducible refine (SG.out _ BB.out.now.2.2.1).mono ?_); rintro e w2 ⟨rfl, hb2⟩; have BB := Lib.hid (BB.out.go hb2))
        | (go_at_call 102; (with_reducible refine (X1.out _ BB.out.now.2.2.1.int.nt).mono ?_); rintro e w3 ⟨rfl, hb3⟩; have BB := Lib.hid (BB.out.go hb3))
        | (go_at_call 103; (with_reducible refine (BT.out _ BB.out.now.2.2.1).mono ?_); rintro e w4 ⟨a3, n3, c3, rfl, hn3, hb4⟩; have BB := Lib.hid (BB.out.go hb4))
        | (go_at_call 102; (with_reducible refine (X2.out _ _ _ _ hn3).mono ?_); rintro e w5 ⟨rfl, hb5⟩; have BB := Lib.hid (BB.out.go hb5); have hs := BB.out.now.1; have r0 := hs.cell; have r1 := hs.cell1; have r2 := hs.cell2; have g0 := hs.free; have g1 := hs.free1; have g2 := hs.free2; have z0 := BB.out.now.2.1.set3o he (.bool false) (.string s) (.string t); have HS := hs.set (.bool false) (.string s) (.string t); have HE := Lib.hid (ND.out _ _ _ _ BB.out.below HB0.out HS0.out HT0.out)))
    go_wp2
    exact bodyPost_ret (v := .agg #[.bool false, .string s, .string t]) (by simp [results, Tryz.results71, go_sem, HS]) rfl HE.out
  · go_enter Tryz.func71, Tryz.ntmps71
    go_wp2_with fail
    go_region_held3 (fun y => y.cell? ⟨w.heap.size, 0, none⟩ = some (.slice a n c) ∧ y.cell? ⟨w.heap.size, 1, none⟩ = some (.bool m) ∧ y.cell? ⟨w.heap.size, 2, none⟩ = some (.slice a2 n2 c2))
      (first
        | (exact ⟨z0.cell, z0.cell1, z0.cell2⟩)
        | (exact ⟨BB.out.now.2.1.cell, BB.out.now.2.1.cell1, BB.out.now.2.1.cell2⟩))
      (first
        | (go_at_call 101; (with_reducible refine (SG.out _ BB.out.now.2.2.1).mono ?_); rintro e w2 ⟨rfl, hb2⟩; have BB := Lib.hid (BB.out.go hb2))
        | (go_at_call 102; (with_reducible refine (X1.out _ BB.out.now.2.2.1.int.nt).mono ?_); rintro e w3 ⟨rfl, hb3⟩; have BB := Lib.hid (BB.out.go hb3))
        | (go_at_call 103; (with_reducible refine (BT.out _ BB.out.now.2.2.1).mono ?_); rintro e w4 ⟨a3, n3, c3, rfl, hn3, hb4⟩; have BB := Lib.hid (BB.out.go hb4))
        | (go_at_call 102; (with_reducible refine (X2.out _ _ _ _ hn3).mono ?_); rintro e w5 ⟨rfl, hb5⟩; have BB := Lib.hid (BB.out.go hb5); have hs := BB.out.now.1; have r0 := hs.cell; have r1 := hs.cell1; have r2 := hs.cell2; have g0 := hs.free; have g1 := hs.free1; have g2 := hs.free2; have z0 := BB.out.now.2.1.set3o he (.bool false) (.string s) (.string t); have HS := hs.set (.bool false) (.string s) (.string t); have HE := Lib.hid (ND.out _ _ _ _ BB.out.below HB0.out HS0.out HT0.out)))
    go_wp2
    exact bodyPost_ret (v := .agg #[.bool false, .string s, .string t]) (by simp [results, Tryz.results71, go_sem, HS]) rfl HE.out
end Go.Proofs.YtifnamlgkooacaaGreatDoor
namespace Go.Proofs.YtifnamlgkooacaaGreatDoor
open Go.RowKit
attribute [local go_sem ↓] Go.wp_at_zero Go.wp_at_succ
end Go.Proofs.YtifnamlgkooacaaGreatDoor
