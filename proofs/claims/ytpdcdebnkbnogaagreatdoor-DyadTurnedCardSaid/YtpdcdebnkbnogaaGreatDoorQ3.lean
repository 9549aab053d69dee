/-
  Texts of this seat, laid together.
-/
import Derived.BigRegion
import Derived.RegionTactic
import Derived.Deep.RegionWith
import Derived.Deep.RegionHeld3
import Derived.Deep.DrawnRows
import Derived.IntWalk
import Derived.Laws.BitsLemmas
import Derived.Deep.QuietTactic
import Derived.BigQuiet
import Derived.Test.YtpdcdebnkbnogaaGreatDoorQ1
import Derived.Test.YtpdcdebnkbnogaaGreatDoorQ2
set_option maxHeartbeats 12800000
set_option maxRecDepth 100000
set_option linter.unusedSimpArgs false
set_option linter.unusedVariables false
namespace Go.Proofs.YtpdcdebnkbnogaaGreatDoor
open Go.RowKit
structure Bag (w0 : World) (P : World -> Prop) (w : World) : Prop where
 below : Below w0.heap.size w0 w
 stay : ∀ a b, Below a.heap.size a b -> P a -> P b
 now : P w
theorem Bag.start (w : World) : Bag w (fun _ => True) w := ⟨Below.refl _ _, fun _ _ _ _ => trivial, trivial⟩
theorem Bag.go {w0 w w' : World} {P : World -> Prop} (h : Bag w0 P w) (hb : Below w.heap.size w w') : Bag w0 P w' :=
 ⟨h.below.trans (hb.mono h.below.size), h.stay, h.stay _ _ hb h.now⟩
theorem Bag.add {w0 w : World} {P Q : World -> Prop} (h : Bag w0 P w) (hs : ∀ a b, Below a.heap.size a b -> Q a -> Q b) (q : Q w) : Bag w0 (fun x => Q x /\ P x) w :=
 ⟨h.below, fun a b hb ⟨h1, h2⟩ => ⟨hs a b hb h1, h.stay a b hb h2⟩, q, h.now⟩
theorem Bag.nat {w0 w : World} {P : World -> Prop} {v : Value} {N : Nat} (h : Bag w0 P w) (q : NatIs w v N) : Bag w0 (fun x => NatIs x v N /\ P x) w := h.add (fun _ _ hb q => q.below hb) q
theorem Bag.alloc {w0 w : World} {P : World -> Prop} (h : Bag w0 P w) (o : Obj) : Bag w0 P (w.alloc o) := h.go ((Below.refl _ _).alloc (Nat.le_refl _) _)
theorem Bag.slot {w0 w : World} {P : World -> Prop} {k : Nat} {x : Value} (h : Bag w0 P w) (q : Slot w k x) : Bag w0 (fun y => Slot y k x /\ P y) w := h.add (fun _ _ hb q => q.below hb) q
theorem Bag.box {w0 w : World} {P : World -> Prop} (h : Bag w0 P w) (x : Value) (t : TypeId) : Bag w0 (fun y => Slot y w.heap.size x /\ P y) (w.alloc (.cells #[x] t)) :=
 (h.alloc _).slot (Slot.new w x t)
theorem Bag.drewN {w0 w : World} {P : World -> Prop} (h : Bag w0 P w) (n : Nat) : Bag w0 P (w.drewN n) := h.go (below_drewN (Below.refl _ _) n)
theorem Bag.drew {w0 w : World} {P : World -> Prop} (h : Bag w0 P w) : Bag w0 P w.drew := h.go (Below.refl _ _).drew
structure Slot2 (w : World) (k : Nat) (x y : Value) : Prop where
 cell : w.cell? ⟨k, 0, none⟩ = some x
 cell1 : w.cell? ⟨k, 1, none⟩ = some y
 free : w.frozen? ⟨k, 0, none⟩ = false
 free1 : w.frozen? ⟨k, 1, none⟩ = false
 lt : k < w.heap.size
theorem Slot2.below {w w' : World} {k : Nat} {x y : Value} (h : Slot2 w k x y) (hb : Below w.heap.size w w') : Slot2 w' k x y :=
 ⟨(hb.cell (p := ⟨k, 0, none⟩) h.lt).trans h.cell, (hb.cell (p := ⟨k, 1, none⟩) h.lt).trans h.cell1, (hb.frozen (p := ⟨k, 0, none⟩) h.lt).trans h.free, (hb.frozen (p := ⟨k, 1, none⟩) h.lt).trans h.free1, Nat.lt_of_lt_of_le h.lt hb.size⟩
theorem Slot2.new (w : World) (x y : Value) (t : TypeId) : Slot2 (w.alloc (.cells #[x, y] t)) w.heap.size x y := by
 refine ⟨?_, ?_, World.frozen?_alloc_new _ _ _ _, World.frozen?_alloc_new _ _ _ _, by rw [World.size_alloc]; omega⟩
 · rw [World.cell?_alloc_new]; rfl
 · rw [World.cell?_alloc_new]; rfl
theorem Bag.slot2 {w0 w : World} {P : World -> Prop} {k : Nat} {x z : Value} (h : Bag w0 P w) (q : Slot2 w k x z) : Bag w0 (fun y => Slot2 y k x z /\ P y) w := h.add (fun _ _ hb q => q.below hb) q
theorem Bag.box2 {w0 w : World} {P : World -> Prop} (h : Bag w0 P w) (x z : Value) (t : TypeId) : Bag w0 (fun y => Slot2 y w.heap.size x z /\ P y) (w.alloc (.cells #[x, z] t)) :=
 (h.alloc _).slot2 (Slot2.new w x z t)
end Go.Proofs.YtpdcdebnkbnogaaGreatDoor
namespace Go.Proofs.YtpdcdebnkbnogaaGreatDoor
open Go.RowKit
attribute [local go_sem ↓] Go.wp_at_zero Go.wp_at_succ
def IntAt (w : World) (a : Option Addr) (n c : Nat) (m : Bool) (Z : Int) : Prop := m = decide (Z < 0) /\ NatIs w (.agg #[.slice a n c]) Z.natAbs
theorem IntAt.below {w w' : World} {a : Option Addr} {n c : Nat} {m : Bool} {Z : Int} (h : IntAt w a n c m Z) (hb : Below w.heap.size w w') : IntAt w' a n c m Z := ⟨h.1, h.2.below hb⟩
def IntTold (w w' : World) (e : Ending) (Z : Int) : Prop := ∃ a n c m, e = .returned (.agg #[.slice a n c, .bool m]) /\ IntAt w' a n c m Z /\ Below w.heap.size w w'
def sgn (b : Bool) (N : Nat) : Int := if b then -(N : Int) else N
theorem sgn_abs (b : Bool) (N : Nat) : (sgn b N).natAbs = N := by unfold sgn; split <;> omega
theorem sgn_neg (b : Bool) (N : Nat) : decide (sgn b N < 0) = (b && !decide (N = 0)) := by
 cases b
 · simp [sgn]
 · by_cases h : N = 0
   · simp [sgn, h]
   · simp [sgn, h]; omega
theorem sgn_self (Z : Int) : sgn (decide (Z < 0)) Z.natAbs = Z := by
 by_cases h : Z < 0
 · rw [decide_eq_true h]; simp [sgn]; omega
 · rw [decide_eq_false h]; simp [sgn]; omega
def NatTold2 (w w' : World) (e : Ending) (v : Value) (N : Nat) : Prop := e = .returned v /\ NatIs w' v N /\ Below w.heap.size w w'
theorem NatIs.storeAt {w : World} {v : Value} {N : Nat} {p : Addr} {x : Value} (h : NatIs w v N) (hs : w.cell? p = some x) (hx : ∀ ki z, x ≠ .int ki z) (u : Value) : NatIs (w.setCell p u) v N := by
 obtain ⟨a, n, c, f, rfl, ⟨h1, h2, h3, h4⟩, hv, ht⟩ := h
 refine ⟨a, n, c, f, rfl, ⟨h1, h2, h3, ?_⟩, hv, ht⟩
 rcases h4 with h4 | ⟨b, off, rfl, hb, hc⟩
 · exact .inl h4
 · refine .inr ⟨b, off, rfl, by simpa using hb, fun j hj => ?_⟩
   rw [World.cell?_setCell_other _ _ _ _ (fun e' => ?_)]
   · exact hc j hj
   · have h5 := hc j hj
     rw [show (⟨b, off + j, none⟩ : Addr) = p from by first | exact e' | exact e'.symm, hs] at h5
     exact hx _ _ (Option.some.inj h5)
theorem IntTold.done {w w2 : World} {k : Nat} {x : Value} {m0 : Bool} {a : Option Addr} {n c : Nat} {m : Bool} {Z : Int} (hb : Below w.heap.size w w2) (hk : w.heap.size <= k) (hs : Slot2 w2 k x (.bool m0)) (hx : ∀ ki z, x ≠ .int ki z) (h : IntAt w2 a n c m Z) :
    IntTold w ((w2.setCell ⟨k, 0, none⟩ (.slice a n c)).setCell ⟨k, 1, none⟩ (.bool m)) (.returned (.agg #[.slice a n c, .bool m])) Z := by
 refine ⟨a, n, c, m, rfl, ⟨h.1, ?_⟩, (hb.setCell hk _).setCell hk _⟩
 refine (h.2.storeAt hs.cell hx _).storeAt (x := .bool m0) ?_ (fun _ _ h => by cases h) _
 rw [World.cell?_setCell_other _ _ _ _ (fun e => by cases e)]
 exact hs.cell1
theorem Slot2.set {w : World} {k : Nat} {x y : Value} (h : Slot2 w k x y) (u v : Value) : ((w.setCell ⟨k, 0, none⟩ u).setCell ⟨k, 1, none⟩ v).cell? ⟨k, 0, none⟩ = some u /\ ((w.setCell ⟨k, 0, none⟩ u).setCell ⟨k, 1, none⟩ v).cell? ⟨k, 1, none⟩ = some v := by
 refine ⟨?_, ?_⟩
 · rw [World.cell?_setCell_other _ _ _ _ (fun e => by cases e)]
   exact World.cell?_setCell_same _ _ _ h.cell
 · refine World.cell?_setCell_same (u := y) _ _ _ ?_
   rw [World.cell?_setCell_other _ _ _ _ (fun e => by cases e)]
   exact h.cell1
def RS (y : World) (k : Nat) : Prop := ∃ x b, Slot2 y k x (.bool b) /\ ∀ ki z, x ≠ .int ki z
theorem RS.below {w w' : World} {k : Nat} (h : RS w k) (hb : Below w.heap.size w w') : RS w' k := by
 obtain ⟨x, b, h1, h2⟩ := h; exact ⟨x, b, h1.below hb, h2⟩
theorem Slot2.rs {w : World} {k : Nat} {a : Option Addr} {n c : Nat} {b : Bool} (h : Slot2 w k (.slice a n c) (.bool b)) : RS w k := ⟨_, _, h, fun _ _ h => by cases h⟩
def putI (y : World) (k : Nat) (a : Option Addr) (n c : Nat) (b : Bool) : World := (y.setCell ⟨k, 0, none⟩ (.slice a n c)).setCell ⟨k, 1, none⟩ (.bool b)
theorem RS.frozen {w : World} {k : Nat} (h : RS w k) : w.frozen? ⟨k, 0, none⟩ = false /\ w.frozen? ⟨k, 1, none⟩ = false := by
 obtain ⟨x, b, h1, _⟩ := h; exact ⟨h1.free, h1.free1⟩
theorem RS.lt {w : World} {k : Nat} (h : RS w k) : k < w.heap.size := by
 obtain ⟨x, b, h1, _⟩ := h; exact h1.lt
theorem RS.cells {w : World} {k : Nat} (h : RS w k) (a : Option Addr) (n c : Nat) (b : Bool) : (putI w k a n c b).cell? ⟨k, 0, none⟩ = some (.slice a n c) /\ (putI w k a n c b).cell? ⟨k, 1, none⟩ = some (.bool b) := by
 obtain ⟨x, b', h1, _⟩ := h; exact h1.set _ _
theorem RS.slotted {w : World} {k : Nat} (h : RS w k) (a : Option Addr) (n c : Nat) (b : Bool) : Slot2 (putI w k a n c b) k (.slice a n c) (.bool b) := by
 obtain ⟨x, b', h1, _⟩ := h
 exact ⟨(h1.set _ _).1, (h1.set _ _).2, by simp [putI, h1.free], by simp [putI, h1.free1], by simpa [putI] using h1.lt⟩
theorem RS.put {w : World} {k j : Nat} (h : RS w j) (a : Option Addr) (n c : Nat) (b : Bool) : RS (putI w k a n c b) j := by
 obtain ⟨x, b', h1, h2⟩ := h
 by_cases e : j = k
 · subst e
   have := h1.set (.slice a n c) (.bool b)
   exact ⟨_, _, ⟨this.1, this.2, by simp [putI, h1.free], by simp [putI, h1.free1], by simpa [putI] using h1.lt⟩, fun _ _ h => by cases h⟩
 · refine ⟨x, b', ⟨?_, ?_, by simp [putI, h1.free], by simp [putI, h1.free1], by simpa [putI] using h1.lt⟩, h2⟩
   · unfold putI; rw [World.cell?_setCell_other _ _ _ _ (fun e' => by cases e'), World.cell?_setCell_other _ _ _ _ (fun e' => e (by cases e'; rfl))]; exact h1.cell
   · unfold putI; rw [World.cell?_setCell_other _ _ _ _ (fun e' => e (by cases e'; rfl)), World.cell?_setCell_other _ _ _ _ (fun e' => by cases e')]; exact h1.cell1
theorem Slot2.put {w : World} {k j : Nat} {x z : Value} (h1 : Slot2 w j x z) (e : j ≠ k) (a : Option Addr) (n c : Nat) (b : Bool) : Slot2 (putI w k a n c b) j x z := by
 refine ⟨?_, ?_, by simp [putI, h1.free], by simp [putI, h1.free1], by simpa [putI] using h1.lt⟩
 · unfold putI; rw [World.cell?_setCell_other _ _ _ _ (fun e' => by cases e' <;> exact e rfl), World.cell?_setCell_other _ _ _ _ (fun e' => by cases e' <;> exact e rfl)]; exact h1.cell
 · unfold putI; rw [World.cell?_setCell_other _ _ _ _ (fun e' => by cases e' <;> exact e rfl), World.cell?_setCell_other _ _ _ _ (fun e' => by cases e' <;> exact e rfl)]; exact h1.cell1
theorem Slot.put {w : World} {k j : Nat} {x : Value} (h1 : Slot w j x) (e : j ≠ k) (a : Option Addr) (n c : Nat) (b : Bool) : Slot (putI w k a n c b) j x := by
 refine ⟨?_, by simp [putI, h1.free], by simpa [putI] using h1.lt⟩
 unfold putI; rw [World.cell?_setCell_other _ _ _ _ (fun e' => by cases e' <;> exact e rfl), World.cell?_setCell_other _ _ _ _ (fun e' => by cases e' <;> exact e rfl)]; exact h1.cell
theorem NatIs.put {w : World} {k : Nat} {v : Value} {N : Nat} (q : NatIs w v N) (h : RS w k) (a : Option Addr) (n c : Nat) (b : Bool) : NatIs (putI w k a n c b) v N := by
 obtain ⟨x, b', h1, h2⟩ := h
 refine (q.storeAt h1.cell h2 _).storeAt (x := .bool b') ?_ (fun _ _ h => by cases h) _
 rw [World.cell?_setCell_other _ _ _ _ (fun e => by cases e)]
 exact h1.cell1
theorem IntAt.put {w : World} {k : Nat} {a' : Option Addr} {n' c' : Nat} {m : Bool} {Z : Int} (q : IntAt w a' n' c' m Z) (h : RS w k) (a : Option Addr) (n c : Nat) (b : Bool) : IntAt (putI w k a n c b) a' n' c' m Z := ⟨q.1, q.2.put h a n c b⟩
theorem Bag.put {w0 w : World} {P : World -> Prop} (h : Bag w0 P w) {k : Nat} (hk : w0.heap.size <= k) {a : Option Addr} {n c : Nat} {b : Bool} (hp : P w -> P (putI w k a n c b)) : Bag w0 P (putI w k a n c b) :=
 ⟨(h.below.setCell hk _).setCell hk _, h.stay, hp h.now⟩
theorem IntTold.fin {w w2 : World} {k : Nat} {a : Option Addr} {n c : Nat} {m : Bool} {Z : Int} (hb : Below w.heap.size w w2) (hk : w.heap.size <= k) (hs : RS w2 k) (h : IntAt w2 a n c m Z) :
    IntTold w (putI w2 k a n c m) (.returned (.agg #[.slice a n c, .bool m])) Z :=
 ⟨a, n, c, m, rfl, h.put hs a n c m, (hb.setCell hk _).setCell hk _⟩
theorem wof_any (b : Bool) (a : Option Addr) (n c N : Nat) (w : World) (h : NatIs w (.agg #[.slice a n c]) N) :
    Calls Tryz.prog 103 #[.bool b, .agg #[.slice a n c]] w fun e w' => IntTold w w' e (sgn b N) := by
 cases b with
 | false =>
  have HE : Hid (IntTold w ((w.alloc (.cells #[.slice a n c] 49)).alloc (.cells #[.slice a n c, .bool false] 51)).drew (.returned (.agg #[.slice a n c, .bool false])) (sgn false N)) :=
   have B0 := (((Bag.start w).nat h).alloc (.cells #[.slice a n c] 49)).box2 (.slice a n c) (.bool false) 51
   ⟨a, n, c, false, rfl, ⟨by rw [sgn_neg]; rfl, by rw [sgn_abs]; exact B0.drew.now.2.1⟩, B0.drew.below⟩
  clear h
  go_enter Tryz.func103, Tryz.ntmps103
  go_wp2_with fail
  go_region
  all_goals
   go_wp2
   exact bodyPost_ret (v := .agg #[.slice a n c, .bool false]) (by simp [results, Tryz.results103, go_sem]) rfl HE.out
 | true =>
  have B0 := (((Bag.start w).nat h).box (.slice a n c) 49).box2 (.slice none 0 0) (.bool false) 51
  rw [World.size_alloc] at B0
  have BB := Lib.hid B0.drew
  have HZ := Lib.hid (zero_any _ N _ B0.drew.now.2.2.1)
  have q0 := B0.now.2.1.cell
  have HI : Hid (∀ wz, NatIs wz (.agg #[.slice a n c]) N -> IntAt wz a n c (!decide (N = 0)) (sgn true N)) := fun wz hz => ⟨by rw [sgn_neg]; rfl, by rw [sgn_abs]; exact hz⟩
  obtain ⟨m, hm⟩ : ∃ m, (!decide (N = 0)) = m := ⟨_, rfl⟩
  obtain ⟨z, hz⟩ : ∃ z, decide (N = 0) = z := ⟨_, rfl⟩
  rw [hm] at HI
  rw [hz] at HZ hm
  subst hm
  clear B0 h hz
  go_enter Tryz.func103, Tryz.ntmps103
  go_wp2_with fail
  go_region_with (go_at_call 102; refine HZ.out.mono ?_; rintro e w2 ⟨rfl, hb2⟩; have B2 := BB.out.go hb2; have hq := B2.now.2.1.cell; have hs2 := B2.now.1; have hc1 := hs2.cell; have hc2 := hs2.cell1; have hf1 := hs2.free; have hf2 := hs2.free1; have HS := hs2.set (.slice a n c) (.bool (!z)); have HE := Lib.hid (IntTold.done B2.below (by omega) hs2 (fun _ _ h => by cases h) (HI.out _ B2.now.2.2.1)); clear hb2 B2 hs2)
  all_goals
   go_wp2
   exact bodyPost_ret (v := .agg #[.slice a n c, .bool (!z)]) (by simp [results, Tryz.results103, go_sem, HS]) rfl HE.out
theorem Bag.int {w0 w : World} {P : World -> Prop} {a : Option Addr} {n c : Nat} {m : Bool} {Z : Int} (h : Bag w0 P w) (q : IntAt w a n c m Z) : Bag w0 (fun y => IntAt y a n c m Z /\ P y) w := h.add (fun _ _ hb q => q.below hb) q
theorem neg_any (a : Option Addr) (n c : Nat) (m : Bool) (Z : Int) (w : World) (h : IntAt w a n c m Z) :
    Calls Tryz.prog 127 #[.agg #[.slice a n c, .bool m]] w fun e w' => e = .returned (.bool m) /\ Below w.heap.size w w' := by
 have B0 := ((Bag.start w).nat h.2).box2 (.slice a n c) (.bool m) 51
 have q0 := B0.now.1.cell
 have q1 := B0.now.1.cell1
 have hz := zero_any _ _ _ B0.now.2.1
 have BB := Lib.hid B0
 cases m with
 | false =>
  clear h B0 hz
  go_enter Tryz.func127, Tryz.ntmps127
  go_wp2
  go_ret
  exact ⟨rfl, BB.out.below⟩
 | true =>
  have h0 : decide (Z.natAbs = 0) = false := by
   have := h.1
   rw [decide_eq_false]
   have h2 := of_decide_eq_true this.symm
   omega
  rw [h0] at hz
  have HZ := Lib.hid hz
  clear h B0 h0 hz
  go_enter Tryz.func127, Tryz.ntmps127
  go_wp2_with (go_at_call 102; refine HZ.out.mono ?_; rintro e w2 ⟨rfl, hb2⟩; have HB := Lib.hid (BB.out.go hb2).below; clear hb2)
  go_ret
  exact ⟨rfl, HB.out⟩
theorem size_any (a : Option Addr) (n c : Nat) (m : Bool) (Z : Int) (w : World) (h : IntAt w a n c m Z) :
    Calls Tryz.prog 131 #[.agg #[.slice a n c, .bool m]] w fun e w' => NatTold2 w w' e (.agg #[.slice a n c]) Z.natAbs := by
 have B0 := (((Bag.start w).nat h.2).box2 (.slice a n c) (.bool m) 51).alloc (.cells #[.slice a n c] 49)
 have HE : Hid (NatTold2 w ((w.alloc (.cells #[.slice a n c, .bool m] 51)).alloc (.cells #[.slice a n c] 49)) (.returned (.agg #[.slice a n c])) (.agg #[.slice a n c]) Z.natAbs) := ⟨rfl, B0.now.2.1, B0.below⟩
 clear h B0
 go_enter Tryz.func131, Tryz.ntmps131
 go_wp2
 exact bodyPost_ret (v := .agg #[.slice a n c]) (by simp [results, Tryz.results131, go_sem]) rfl HE.out
def sgnI (Z : Int) : Int := if Z < 0 then -1 else if Z = 0 then 0 else 1
theorem sign_any (a : Option Addr) (n c : Nat) (m : Bool) (Z : Int) (w : World) (h : IntAt w a n c m Z) :
    Calls Tryz.prog 77 #[.agg #[.slice a n c, .bool m]] w fun e w' => e = .returned (.int .i64 (sgnI Z)) /\ Below w.heap.size w w' := by
 have B0 := ((Bag.start w).int h).box2 (.slice a n c) (.bool m) 51
 have q0 := B0.now.1.cell
 have q1 := B0.now.1.cell1
 have hz := zero_any _ _ _ B0.now.2.1.2
 have BB := Lib.hid B0
 by_cases h0 : Z = 0
 · have d0 : decide (Z.natAbs = 0) = true := decide_eq_true (by omega)
   rw [d0] at hz
   have HZ := Lib.hid hz
   have HE : Hid (sgnI Z = 0) := by show _ = _; unfold sgnI; rw [if_neg (by omega), if_pos h0]
   clear h B0 h0 d0 hz
   go_enter Tryz.func77, Tryz.ntmps77
   go_wp2_with (go_at_call 102; refine HZ.out.mono ?_; rintro e w2 ⟨rfl, hb2⟩; have HB := Lib.hid (BB.out.go hb2).below; clear hb2)
   go_ret
   exact ⟨ret_int HE.out.symm, HB.out⟩
 · have d0 : decide (Z.natAbs = 0) = false := decide_eq_false (by omega)
   rw [d0] at hz
   have HZ := Lib.hid hz
   have HM := Lib.hid h.1
   have HE : Hid (sgnI Z = if m then -1 else 1) := by
    show _ = _
    rw [h.1]; unfold sgnI
    by_cases h2 : Z < 0
    · rw [if_pos h2, decide_eq_true h2]; rfl
    · rw [if_neg h2, if_neg h0, decide_eq_false h2]; rfl
   clear h B0 h0 d0 hz
   go_enter Tryz.func77, Tryz.ntmps77
   go_wp2_with fail
   go_at_call 102
   refine HZ.out.mono ?_
   rintro e w2 ⟨rfl, hb2⟩
   have B2 := Lib.hid (BB.out.go hb2)
   clear hb2 q0 q1
   have q0 := B2.out.now.1.cell
   have q1 := B2.out.now.1.cell1
   go_wp2_with fail
   go_at_call 127
   refine (neg_any a n c m Z _ B2.out.now.2.1).mono ?_
   rintro e w3 ⟨rfl, hb3⟩
   have B3 := Lib.hid (B2.out.go hb3)
   clear hb3 q0 q1
   cases m
   all_goals
    go_wp2
    go_ret
    exact ⟨ret_int HE.out.symm, B3.out.below⟩
theorem minus_any (a : Option Addr) (n c : Nat) (m : Bool) (Z : Int) (w : World) (h : IntAt w a n c m Z) :
    Calls Tryz.prog 185 #[.agg #[.slice a n c, .bool m]] w fun e w' => IntTold w w' e (-Z) := by
 have B0 := (((Bag.start w).int h).box2 (.slice a n c) (.bool m) 51).box2 (.slice none 0 0) (.bool false) 51
 rw [World.size_alloc] at B0
 have q0 := B0.now.2.1.cell
 have q1 := B0.now.2.1.cell1
 have BB := Lib.hid B0.drew
 have NG : Hid (∀ wz, IntAt wz a n c m Z -> Calls Tryz.prog 127 #[.agg #[.slice a n c, .bool m]] wz fun e w' => e = .returned (.bool m) /\ Below wz.heap.size wz w') := fun wz hz => neg_any a n c m Z wz hz
 have OF : Hid (∀ wz, IntAt wz a n c m Z -> Calls Tryz.prog 103 #[.bool (!m), .agg #[.slice a n c]] wz fun e w' => IntTold wz w' e (-Z)) := by
  intro wz hz
  have h1 := wof_any (!m) a n c _ wz hz.2
  have e : sgn (!m) Z.natAbs = -Z := by
   rw [h.1]
   by_cases h2 : Z < 0
   · rw [decide_eq_true h2]; simp [sgn]; omega
   · rw [decide_eq_false h2]; simp [sgn]; omega
  rw [e] at h1
  exact h1
 clear h B0
 go_enter Tryz.func185, Tryz.ntmps185
 go_wp2_with fail
 go_region_with (first
  | (go_at_call 127; refine (NG.out _ BB.out.now.2.2.1).mono ?_; rintro e w2 ⟨rfl, hb2⟩; have BB := Lib.hid (BB.out.go hb2); have q0 := BB.out.now.2.1.cell; have q1 := BB.out.now.2.1.cell1; clear hb2)
  | (go_at_call 103; refine (OF.out _ BB.out.now.2.2.1).mono ?_; rintro e w2 ⟨a3, n3, c3, m3, rfl, hi3, hb2⟩; have B2 := BB.out.go hb2; have hs2 := B2.now.1; have hc1 := hs2.cell; have hc2 := hs2.cell1; have hf1 := hs2.free; have hf2 := hs2.free1; have HS := hs2.set (.slice a3 n3 c3) (.bool m3); have HE := Lib.hid (IntTold.done B2.below (by omega) hs2 (fun _ _ h => by cases h) hi3); clear hb2 B2 hs2 hi3))
 all_goals
  go_wp2
  exact bodyPost_ret (v := _) (by simp [results, Tryz.results185, go_sem, HS]) rfl HE.out
def cmpZ (Z Y : Int) : Int := if Z < Y then -1 else if Z = Y then 0 else 1
theorem icmp_any (a : Option Addr) (n c : Nat) (m : Bool) (Z : Int) (a2 : Option Addr) (n2 c2 : Nat) (m2 : Bool) (Y : Int) (w : World) (h : IntAt w a n c m Z) (g : IntAt w a2 n2 c2 m2 Y) :
    Calls Tryz.prog 69 #[.agg #[.slice a n c, .bool m], .agg #[.slice a2 n2 c2, .bool m2]] w fun e w' => e = .returned (.int .i64 (cmpZ Z Y)) /\ Below w.heap.size w w' := by
 have B0 := ((((Bag.start w).int h).int g).box2 (.slice a n c) (.bool m) 51).box2 (.slice a2 n2 c2) (.bool m2) 51
 rw [World.size_alloc] at B0
 have q0 := B0.now.2.1.cell
 have q1 := B0.now.2.1.cell1
 have q2 := B0.now.1.cell
 have q3 := B0.now.1.cell1
 have BB := Lib.hid B0
 have N1 : Hid (∀ wz, IntAt wz a n c m Z -> Calls Tryz.prog 127 #[.agg #[.slice a n c, .bool m]] wz fun e w' => e = .returned (.bool m) /\ Below wz.heap.size wz w') := fun wz hz => neg_any a n c m Z wz hz
 have N2 : Hid (∀ wz, IntAt wz a2 n2 c2 m2 Y -> Calls Tryz.prog 127 #[.agg #[.slice a2 n2 c2, .bool m2]] wz fun e w' => e = .returned (.bool m2) /\ Below wz.heap.size wz w') := fun wz hz => neg_any a2 n2 c2 m2 Y wz hz
 have HE : Hid (cmpZ Z Y = if m then (if m2 then cmpI Y.natAbs Z.natAbs else -1) else (if m2 then 1 else cmpI Z.natAbs Y.natAbs)) := by
  show _ = _
  rw [h.1, g.1]; unfold cmpZ cmpI
  by_cases h2 : Z < 0
  · by_cases h3 : Y < 0
    · rw [decide_eq_true h2, decide_eq_true h3]; simp only [if_true]; (repeat' split) <;> omega
    · rw [decide_eq_true h2, decide_eq_false h3, if_pos (by omega)]; rfl
  · by_cases h3 : Y < 0
    · rw [decide_eq_false h2, decide_eq_true h3, if_neg (by omega), if_neg (by omega)]; rfl
    · rw [decide_eq_false h2, decide_eq_false h3]; simp only [Bool.false_eq_true, if_false]; (repeat' split) <;> omega
 have CM : Hid (∀ wz, IntAt wz a n c m Z -> IntAt wz a2 n2 c2 m2 Y -> Calls Tryz.prog 128 #[.agg #[.slice a n c], .agg #[.slice a2 n2 c2]] wz fun e w' => e = .returned (.int .i64 (cmpI Z.natAbs Y.natAbs)) /\ Below wz.heap.size wz w') := fun wz hz hy => cmp_any _ _ _ _ wz hz.2 hy.2
 have CN : Hid (∀ wz, IntAt wz a n c m Z -> IntAt wz a2 n2 c2 m2 Y -> Calls Tryz.prog 128 #[.agg #[.slice a2 n2 c2], .agg #[.slice a n c]] wz fun e w' => e = .returned (.int .i64 (cmpI Y.natAbs Z.natAbs)) /\ Below wz.heap.size wz w') := fun wz hz hy => cmp_any _ _ _ _ wz hy.2 hz.2
 clear h g B0
 go_enter Tryz.func69, Tryz.ntmps69
 go_wp2_with fail
 go_at_call 127
 refine (N1.out _ BB.out.now.2.2.2.1).mono ?_
 rintro e w2 ⟨rfl, hb2⟩
 have BB := Lib.hid (BB.out.go hb2)
 clear hb2 q0 q1 q2 q3
 have q0 := BB.out.now.2.1.cell
 have q1 := BB.out.now.2.1.cell1
 have q2 := BB.out.now.1.cell
 have q3 := BB.out.now.1.cell1
 cases m with
 | true =>
  go_wp2_with fail
  go_at_call 127
  refine (N2.out _ BB.out.now.2.2.1).mono ?_
  rintro e w3 ⟨rfl, hb2⟩
  have BB := Lib.hid (BB.out.go hb2)
  clear hb2 q0 q1 q2 q3
  have q0 := BB.out.now.2.1.cell
  have q1 := BB.out.now.2.1.cell1
  have q2 := BB.out.now.1.cell
  have q3 := BB.out.now.1.cell1
  cases m2 with
  | true =>
   go_wp2_with fail
   go_at_call 128
   refine (CN.out _ BB.out.now.2.2.2.1 BB.out.now.2.2.1).mono ?_
   rintro e w4 ⟨rfl, hb2⟩
   have BB := Lib.hid (BB.out.go hb2)
   clear hb2 q0 q1 q2 q3
   go_wp2
   go_ret
   exact ⟨ret_int HE.out.symm, BB.out.below⟩
  | false =>
   go_wp2_with fail
   go_at_call 127
   refine (N1.out _ BB.out.now.2.2.2.1).mono ?_
   rintro e w4 ⟨rfl, hb2⟩
   have BB := Lib.hid (BB.out.go hb2)
   clear hb2 q0 q1 q2 q3
   go_wp2
   go_ret
   exact ⟨ret_int HE.out.symm, BB.out.below⟩
 | false =>
  go_wp2_with fail
  go_at_call 127
  refine (N1.out _ BB.out.now.2.2.2.1).mono ?_
  rintro e w3 ⟨rfl, hb2⟩
  have BB := Lib.hid (BB.out.go hb2)
  clear hb2 q0 q1 q2 q3
  have q0 := BB.out.now.2.1.cell
  have q1 := BB.out.now.2.1.cell1
  have q2 := BB.out.now.1.cell
  have q3 := BB.out.now.1.cell1
  go_wp2_with fail
  go_at_call 127
  refine (N2.out _ BB.out.now.2.2.1).mono ?_
  rintro e w4 ⟨rfl, hb2⟩
  have BB := Lib.hid (BB.out.go hb2)
  clear hb2 q0 q1 q2 q3
  have q0 := BB.out.now.2.1.cell
  have q1 := BB.out.now.2.1.cell1
  have q2 := BB.out.now.1.cell
  have q3 := BB.out.now.1.cell1
  cases m2 with
  | true =>
   go_wp2
   go_ret
   exact ⟨ret_int HE.out.symm, BB.out.below⟩
  | false =>
   go_wp2_with fail
   go_at_call 128
   refine (CM.out _ BB.out.now.2.2.2.1 BB.out.now.2.2.1).mono ?_
   rintro e w5 ⟨rfl, hb2⟩
   have BB := Lib.hid (BB.out.go hb2)
   clear hb2 q0 q1 q2 q3
   go_wp2
   go_ret
   exact ⟨ret_int HE.out.symm, BB.out.below⟩
theorem of_pl2 (x : Nat) (w : World) (hx : x < 18446744073709551616) : Calls Tryz.prog 126 #[.int .u64 x] w fun e w' => ∃ a n c, e = .returned (.agg #[.slice a n c]) /\ NatIs w' (.agg #[.slice a n c]) x /\ Below w.heap.size w w' :=
 (of_any x w hx).mono fun _ _ ⟨v, h1, ⟨a, n, c, f, h2, h3, h4, h5⟩, h6⟩ => ⟨a, n, c, by rw [h1, h2], ⟨a, n, c, f, rfl, h3, h4, h5⟩, h6⟩
theorem from_any (X : Int) (w : World) (h : -9223372036854775808 <= X /\ X <= 9223372036854775807) :
    Calls Tryz.prog 74 #[.int .i64 X] w fun e w' => IntTold w w' e X := by
 have B0 := Lib.hid ((Bag.start w).box2 (.slice none 0 0) (.bool false) 51)
 by_cases h0 : X < 0
 · obtain ⟨y, hy⟩ : ∃ y : Nat, (y : Int) = -X := ⟨(-X).toNat, by omega⟩
   have d0 : decide (X < 0) = true := decide_eq_true h0
   have e2 : IntKind.u64.wrap (-IntKind.u64.wrap X) = (y : Int) := by
    rw [IntKind.wrap_u64, IntKind.wrap_u64]; omega
   have hyl : y < 18446744073709551616 := by omega
   have HZ : Hid (sgn true y = X) := by show _ = _; unfold sgn; simp; omega
   have HO : Hid (∀ wz, Calls Tryz.prog 126 #[.int .u64 y] wz fun e w' => ∃ a n c, e = .returned (.agg #[.slice a n c]) /\ NatIs w' (.agg #[.slice a n c]) y /\ Below wz.heap.size wz w') := fun wz => of_pl2 y wz hyl
   clear hy h
   go_enter Tryz.func74, Tryz.ntmps74
   go_wp2_with fail
   go_at_call 126
   refine (HO.out _).mono ?_
   rintro e w2 ⟨a2, n2, c2, rfl, hi2, hb2⟩
   have BB := Lib.hid ((B0.out.go hb2).nat hi2)
   clear hi2 hb2
   go_wp2_with fail
   go_at_call 103
   refine (wof_any true a2 n2 c2 y _ BB.out.now.1).mono ?_
   rintro e w3 ⟨a3, n3, c3, m3, rfl, hi3, hb3⟩
   rw [HZ.out] at hi3
   have B3 := BB.out.go hb3
   have hs2 := B3.now.2.1
   have hc1 := hs2.cell
   have hc2 := hs2.cell1
   have hf1 := hs2.free
   have hf2 := hs2.free1
   have HS := hs2.set (.slice a3 n3 c3) (.bool m3)
   have HE := Lib.hid (IntTold.done B3.below (Nat.le_refl _) hs2 (fun _ _ h => by cases h) hi3)
   clear hb3 B3 hs2 hi3
   go_wp2
   exact bodyPost_ret (v := _) (by simp [results, Tryz.results74, go_sem, HS]) rfl HE.out
 · obtain ⟨y, rfl⟩ : ∃ y : Nat, X = (y : Int) := ⟨X.toNat, by omega⟩
   have d0 : decide ((y : Int) < 0) = false := decide_eq_false h0
   have hyl : y < 18446744073709551616 := by omega
   have HZ : Hid (sgn false y = (y : Int)) := by show _ = _; unfold sgn; simp
   have HO : Hid (∀ wz, Calls Tryz.prog 126 #[.int .u64 y] wz fun e w' => ∃ a n c, e = .returned (.agg #[.slice a n c]) /\ NatIs w' (.agg #[.slice a n c]) y /\ Below wz.heap.size wz w') := fun wz => of_pl2 y wz hyl
   have hy2 : (y : Int) <= 9223372036854775807 := h.2
   clear h
   go_enter Tryz.func74, Tryz.ntmps74
   go_wp2_with fail
   go_at_call 126
   refine (HO.out _).mono ?_
   rintro e w2 ⟨a2, n2, c2, rfl, hi2, hb2⟩
   have BB := Lib.hid ((B0.out.go hb2).nat hi2)
   clear hi2 hb2
   go_wp2_with fail
   go_at_call 103
   refine (wof_any false a2 n2 c2 y _ BB.out.now.1).mono ?_
   rintro e w3 ⟨a3, n3, c3, m3, rfl, hi3, hb3⟩
   rw [HZ.out] at hi3
   have B3 := BB.out.go hb3
   have hs2 := B3.now.2.1
   have hc1 := hs2.cell
   have hc2 := hs2.cell1
   have hf1 := hs2.free
   have hf2 := hs2.free1
   have HS := hs2.set (.slice a3 n3 c3) (.bool m3)
   have HE := Lib.hid (IntTold.done B3.below (Nat.le_refl _) hs2 (fun _ _ h => by cases h) hi3)
   clear hb3 B3 hs2 hi3
   go_wp2
   exact bodyPost_ret (v := _) (by simp [results, Tryz.results74, go_sem, HS]) rfl HE.out
def fitB (Z : Int) : Bool := decide (-9223372036854775808 <= Z /\ Z <= 9223372036854775807)
def fitI (Z : Int) : Int := if fitB Z then Z else 0
theorem ret_ib {k : IntKind} {a b : Int} {x y : Bool} (h : a = b) (h' : x = y) : Ending.returned (.tuple #[.int k a, .bool x]) = .returned (.tuple #[.int k b, .bool y]) := by rw [h, h']
theorem int_any (a : Option Addr) (n c : Nat) (m : Bool) (Z : Int) (w : World) (h : IntAt w a n c m Z) :
    Calls Tryz.prog 192 #[.agg #[.slice a n c, .bool m]] w fun e w' => e = .returned (.tuple #[.int .i64 (fitI Z), .bool (fitB Z)]) /\ Below w.heap.size w w' := by
 have B0 := ((Bag.start w).int h).box2 (.slice a n c) (.bool m) 51
 have q0 := B0.now.1.cell
 have q1 := B0.now.1.cell1
 have hu := uint_any _ _ _ B0.now.2.1.2
 have BB := Lib.hid B0
 have hm := h.1
 obtain ⟨N, hN⟩ : ∃ N, Z.natAbs = N := ⟨_, rfl⟩
 rw [hN] at hu
 unfold UintOut at hu
 clear h B0
 by_cases hbig : N < 18446744073709551616
 · rw [if_pos hbig, decide_eq_true hbig] at hu
   have HU := Lib.hid hu
   clear hu
   by_cases hz : Z < 0
   · rw [decide_eq_true hz] at hm
     subst hm
     have hZN : Z = -(N : Int) := by omega
     by_cases h63 : N <= 9223372036854775808
     · have HE : Hid (fitI Z = -(N : Int) /\ fitB Z = true) := by
         have : fitB Z = true := decide_eq_true (by omega)
         exact ⟨by unfold fitI; rw [this, if_pos rfl]; exact hZN, this⟩
       have d2 : decide ((N : Int) <= 9223372036854775808) = true := decide_eq_true (by omega)
       have e2 : IntKind.i64.wrap (IntKind.u64.wrap (-(N : Int))) = -(N : Int) := by
        rw [IntKind.wrap_i64, IntKind.wrap_u64]; omega
       clear hz hZN hN hbig
       by_cases h62 : N <= 9223372036854775807
       all_goals
        first
         | have d1 : decide ((N : Int) <= 9223372036854775807) = true := decide_eq_true (by omega)
         | have d1 : decide ((N : Int) <= 9223372036854775807) = false := decide_eq_false (by omega)
        clear h62 h63
        go_enter Tryz.func192, Tryz.ntmps192
        go_wp2_with (first
         | (go_at_call 214; refine HU.out.mono ?_; rintro e w2 ⟨rfl, hb2⟩; have BB := Lib.hid (BB.out.go hb2); clear hb2 q0 q1; have q0 := BB.out.now.1.cell; have q1 := BB.out.now.1.cell1)
         | (go_at_call 127; refine (neg_any a n c true Z _ BB.out.now.2.1).mono ?_; rintro e w2 ⟨rfl, hb2⟩; have BB := Lib.hid (BB.out.go hb2); clear hb2 q0 q1; have q0 := BB.out.now.1.cell; have q1 := BB.out.now.1.cell1))
        go_ret2
        exact ⟨ret_ib HE.out.1.symm HE.out.2.symm, BB.out.below⟩
     · have HE : Hid (fitI Z = 0 /\ fitB Z = false) := by
         have : fitB Z = false := decide_eq_false (by omega)
         exact ⟨by unfold fitI; rw [this]; rfl, this⟩
       have d1 : decide ((N : Int) <= 9223372036854775807) = false := decide_eq_false (by omega)
       have d2 : decide ((N : Int) <= 9223372036854775808) = false := decide_eq_false (by omega)
       clear hz hZN hN hbig h63
       go_enter Tryz.func192, Tryz.ntmps192
       go_wp2_with (first
        | (go_at_call 214; refine HU.out.mono ?_; rintro e w2 ⟨rfl, hb2⟩; have BB := Lib.hid (BB.out.go hb2); clear hb2 q0 q1; have q0 := BB.out.now.1.cell; have q1 := BB.out.now.1.cell1))
       go_ret2
       exact ⟨ret_ib HE.out.1.symm HE.out.2.symm, BB.out.below⟩
   · rw [decide_eq_false hz] at hm
     subst hm
     have hZN : Z = (N : Int) := by omega
     by_cases h63 : N <= 9223372036854775807
     · have HE : Hid (fitI Z = (N : Int) /\ fitB Z = true) := by
         have : fitB Z = true := decide_eq_true (by omega)
         exact ⟨by unfold fitI; rw [this, if_pos rfl]; exact hZN, this⟩
       have d1 : decide ((N : Int) <= 9223372036854775807) = true := decide_eq_true (by omega)
       have hl : (N : Int) <= 9223372036854775807 := by omega
       clear hz hZN hN hbig h63
       go_enter Tryz.func192, Tryz.ntmps192
       go_wp2_with (first
        | (go_at_call 214; refine HU.out.mono ?_; rintro e w2 ⟨rfl, hb2⟩; have BB := Lib.hid (BB.out.go hb2); clear hb2 q0 q1; have q0 := BB.out.now.1.cell; have q1 := BB.out.now.1.cell1)
        | (go_at_call 127; refine (neg_any a n c false Z _ BB.out.now.2.1).mono ?_; rintro e w2 ⟨rfl, hb2⟩; have BB := Lib.hid (BB.out.go hb2); clear hb2 q0 q1; have q0 := BB.out.now.1.cell; have q1 := BB.out.now.1.cell1))
       go_ret2
       exact ⟨ret_ib HE.out.1.symm HE.out.2.symm, BB.out.below⟩
     · have HE : Hid (fitI Z = 0 /\ fitB Z = false) := by
         have : fitB Z = false := decide_eq_false (by omega)
         exact ⟨by unfold fitI; rw [this]; rfl, this⟩
       have d1 : decide ((N : Int) <= 9223372036854775807) = false := decide_eq_false (by omega)
       clear hz hZN hN hbig
       by_cases h62 : N <= 9223372036854775808
       all_goals
        first
         | have d2 : decide ((N : Int) <= 9223372036854775808) = true := decide_eq_true (by omega)
         | have d2 : decide ((N : Int) <= 9223372036854775808) = false := decide_eq_false (by omega)
        clear h62 h63
        go_enter Tryz.func192, Tryz.ntmps192
        go_wp2_with (first
         | (go_at_call 214; refine HU.out.mono ?_; rintro e w2 ⟨rfl, hb2⟩; have BB := Lib.hid (BB.out.go hb2); clear hb2 q0 q1; have q0 := BB.out.now.1.cell; have q1 := BB.out.now.1.cell1)
         | (go_at_call 127; refine (neg_any a n c false Z _ BB.out.now.2.1).mono ?_; rintro e w2 ⟨rfl, hb2⟩; have BB := Lib.hid (BB.out.go hb2); clear hb2 q0 q1; have q0 := BB.out.now.1.cell; have q1 := BB.out.now.1.cell1))
        go_ret2
        exact ⟨ret_ib HE.out.1.symm HE.out.2.symm, BB.out.below⟩
 · rw [if_neg hbig, decide_eq_false hbig] at hu
   have HU := Lib.hid hu
   have HE : Hid (fitI Z = 0 /\ fitB Z = false) := by
    have : fitB Z = false := decide_eq_false (by omega)
    exact ⟨by unfold fitI; rw [this]; rfl, this⟩
   clear hu hbig hN hm
   go_enter Tryz.func192, Tryz.ntmps192
   go_wp2_with (first
    | (go_at_call 214; refine HU.out.mono ?_; rintro e w2 ⟨rfl, hb2⟩; have BB := Lib.hid (BB.out.go hb2); clear hb2 q0 q1; have q0 := BB.out.now.1.cell; have q1 := BB.out.now.1.cell1))
   go_ret2
   exact ⟨ret_ib HE.out.1.symm HE.out.2.symm, BB.out.below⟩
end Go.Proofs.YtpdcdebnkbnogaaGreatDoor
namespace Go.Proofs.YtpdcdebnkbnogaaGreatDoor
open Go.RowKit
theorem dec_small {N : Nat} (h : N < 10) : dec N = [UInt8.ofNat (48 + N)] := by
 have : dl N = 1 := by unfold dl; rw [dif_pos h]
 unfold dec; rw [this, sdig, sdig]
 unfold dgt
 rw [Nat.pow_zero, Nat.div_one, Nat.mod_eq_of_lt h]
def NatTold (w w' : World) (e : Ending) (N : Nat) : Prop := ∃ a n c, e = .returned (.agg #[.slice a n c]) /\ NatIs w' (.agg #[.slice a n c]) N /\ Below w.heap.size w w'
theorem NatOut.told {w w' : World} {e : Ending} {N : Nat} (h : NatOut w w' e N) : NatTold w w' e N := by
 obtain ⟨v, rfl, hv, hb⟩ := h
 obtain ⟨a, n, c, f, rfl, hs, hv, ht⟩ := hv
 exact ⟨a, n, c, rfl, ⟨a, n, c, f, rfl, hs, hv, ht⟩, hb⟩
theorem NatIs.alloc {w : World} {v : Value} {N : Nat} (h : NatIs w v N) (o : Obj) : NatIs (w.alloc o) v N := h.below ((Below.refl _ _).alloc (Nat.le_refl _) _)
theorem of_told (x : Nat) (w : World) (hx : x < 18446744073709551616) : Calls Tryz.prog 126 #[.int .u64 x] w fun e w' => NatTold w w' e x :=
 (of_any x w hx).mono fun _ _ h => h.told
end Go.Proofs.YtpdcdebnkbnogaaGreatDoor
namespace Go.Proofs.YtpdcdebnkbnogaaGreatDoor
open Go.RowKit
attribute [local go_sem ↓] Go.wp_at_zero Go.wp_at_succ
def NatOf3 (w w' : World) (e : Ending) (N : Nat) : Prop := ∃ a n c, e = .returned (.agg #[.slice a n c]) /\ NatIs w' (.agg #[.slice a n c]) N /\ Below w.heap.size w w'
theorem NatOut.three {w w' : World} {e : Ending} {N : Nat} (h : NatOut w w' e N) : NatOf3 w w' e N := by
 obtain ⟨v, h1, ⟨a, n, c, f, h2, h3, h4, h5⟩, h6⟩ := h
 exact ⟨a, n, c, by rw [h1, h2], ⟨a, n, c, f, rfl, h3, h4, h5⟩, h6⟩
def SubOf3 (w w' : World) (e : Ending) (N : Nat) (b : Bool) : Prop := ∃ a n c, e = .returned (.tuple #[.agg #[.slice a n c], .bool b]) /\ NatIs w' (.agg #[.slice a n c]) N /\ Below w.heap.size w w'
theorem SubOut.three {w w' : World} {e : Ending} {N M : Nat} {b : Bool} (h : SubOut w w' e N M) (hb : decide (M <= N) = b) : SubOf3 w w' e (N - M) b := by
 obtain ⟨v, h1, ⟨a, n, c, f, h2, h3, h4, h5⟩, h6⟩ := h
 exact ⟨a, n, c, by rw [h1, h2, hb], ⟨a, n, c, f, rfl, h3, h4, h5⟩, h6⟩
def PO (k : Nat) (a : Option Addr) (n c : Nat) (m : Bool) (Z : Int) (a2 : Option Addr) (n2 c2 : Nat) (m2 : Bool) (Y : Int) (y : World) : Prop :=
 RS y (k + 1 + 1) /\ Slot2 y (k + 1) (.slice a2 n2 c2) (.bool m2) /\ Slot2 y k (.slice a n c) (.bool m) /\ IntAt y a2 n2 c2 m2 Y /\ IntAt y a n c m Z
theorem PO.put {k : Nat} {a : Option Addr} {n c : Nat} {m : Bool} {Z : Int} {a2 : Option Addr} {n2 c2 : Nat} {m2 : Bool} {Y : Int} {y : World} (h : PO k a n c m Z a2 n2 c2 m2 Y y) (a3 : Option Addr) (n3 c3 : Nat) (b : Bool) : PO k a n c m Z a2 n2 c2 m2 Y (putI y (k + 1 + 1) a3 n3 c3 b) :=
 ⟨h.1.put _ _ _ _, h.2.1.put (by omega) _ _ _ _, h.2.2.1.put (by omega) _ _ _ _, h.2.2.2.1.put h.1 _ _ _ _, h.2.2.2.2.put h.1 _ _ _ _⟩
theorem PO.stay {k : Nat} {a : Option Addr} {n c : Nat} {m : Bool} {Z : Int} {a2 : Option Addr} {n2 c2 : Nat} {m2 : Bool} {Y : Int} : ∀ x y, Below x.heap.size x y -> PO k a n c m Z a2 n2 c2 m2 Y x -> PO k a n c m Z a2 n2 c2 m2 Y y :=
 fun _ _ hb h => ⟨h.1.below hb, h.2.1.below hb, h.2.2.1.below hb, h.2.2.2.1.below hb, h.2.2.2.2.below hb⟩
theorem PO.start {w : World} {a : Option Addr} {n c : Nat} {m : Bool} {Z : Int} {a2 : Option Addr} {n2 c2 : Nat} {m2 : Bool} {Y : Int} (h : IntAt w a n c m Z) (g : IntAt w a2 n2 c2 m2 Y) :
    Bag w (PO w.heap.size a n c m Z a2 n2 c2 m2 Y) (((w.alloc (.cells #[.slice a n c, .bool m] 51)).alloc (.cells #[.slice a2 n2 c2, .bool m2] 51)).alloc (.cells #[.slice none 0 0, .bool false] 51)) := by
 have B0 := (((((Bag.start w).int h).int g).box2 (.slice a n c) (.bool m) 51).box2 (.slice a2 n2 c2) (.bool m2) 51).box2 (.slice none 0 0) (.bool false) 51
 simp only [World.size_alloc] at B0
 exact ⟨B0.below, PO.stay, B0.now.1.rs, B0.now.2.1, B0.now.2.2.1, B0.now.2.2.2.1, B0.now.2.2.2.2.1⟩
def POc (k : Nat) (a : Option Addr) (n c : Nat) (m : Bool) (a2 : Option Addr) (n2 c2 : Nat) (m2 : Bool) (y : World) : Prop :=
 y.cell? ⟨k, 0, none⟩ = some (.slice a n c) /\ y.cell? ⟨k, 1, none⟩ = some (.bool m) /\ y.cell? ⟨k + 1, 0, none⟩ = some (.slice a2 n2 c2) /\ y.cell? ⟨k + 1, 1, none⟩ = some (.bool m2)
theorem PO.c {k : Nat} {a : Option Addr} {n c : Nat} {m : Bool} {Z : Int} {a2 : Option Addr} {n2 c2 : Nat} {m2 : Bool} {Y : Int} {y : World} (h : PO k a n c m Z a2 n2 c2 m2 Y y) : POc k a n c m a2 n2 c2 m2 y :=
 ⟨h.2.2.1.cell, h.2.2.1.cell1, h.2.1.cell, h.2.1.cell1⟩
theorem plusOne_same (a : Option Addr) (n c : Nat) (m : Bool) (Z : Int) (a2 : Option Addr) (n2 c2 : Nat) (m2 : Bool) (Y : Int) (w : World) (h : IntAt w a n c m Z) (g : IntAt w a2 n2 c2 m2 Y)
    (k : Nat) (hk : k <= 900000) (hZ : Z.natAbs < 4294967296 ^ k) (hY : Y.natAbs < 4294967296 ^ k) (hmm : m = m2) :
    Calls Tryz.prog 176 #[.agg #[.slice a n c, .bool m], .agg #[.slice a2 n2 c2, .bool m2]] w fun e w' => IntTold w w' e (Z + Y) := by
 have BB := Lib.hid (PO.start h g)
 have N1 : Hid (∀ wz, Bag w (PO w.heap.size a n c m Z a2 n2 c2 m2 Y) wz -> Calls Tryz.prog 127 #[.agg #[.slice a n c, .bool m]] wz fun e w' => e = .returned (.bool m) /\ Below wz.heap.size wz w') := fun wz hz => neg_any a n c m Z wz hz.now.2.2.2.2
 have N2 : Hid (∀ wz, Bag w (PO w.heap.size a n c m Z a2 n2 c2 m2 Y) wz -> Calls Tryz.prog 127 #[.agg #[.slice a2 n2 c2, .bool m2]] wz fun e w' => e = .returned (.bool m2) /\ Below wz.heap.size wz w') := fun wz hz => neg_any a2 n2 c2 m2 Y wz hz.now.2.2.2.1
 have hm1 := h.1
 have hm2 := g.1
 have hd : (m == m2) = true := by rw [hmm]; simp
 have AD : Hid (∀ wz, Bag w (PO w.heap.size a n c m Z a2 n2 c2 m2 Y) wz -> Calls Tryz.prog 145 #[.agg #[.slice a n c], .agg #[.slice a2 n2 c2]] wz fun e w' => NatOf3 wz w' e (Z.natAbs + Y.natAbs)) := fun wz hz => (add_any _ _ _ _ wz hz.now.2.2.2.2.2 hz.now.2.2.2.1.2 k hk hZ hY).mono fun _ _ h => h.three
 have hz : sgn m (Z.natAbs + Y.natAbs) = Z + Y := by
  rw [hm1] at hmm ⊢
  rw [hm2] at hmm
  by_cases h1 : Z < 0
  · rw [decide_eq_true h1] at hmm ⊢
    have := of_decide_eq_true hmm.symm
    simp [sgn]; omega
  · rw [decide_eq_false h1] at hmm ⊢
    have := of_decide_eq_false hmm.symm
    simp [sgn]; omega
 have OF : Hid (∀ a3 n3 c3 wz, NatIs wz (.agg #[.slice a3 n3 c3]) (Z.natAbs + Y.natAbs) -> Calls Tryz.prog 103 #[.bool m, .agg #[.slice a3 n3 c3]] wz fun e w' => IntTold wz w' e (Z + Y)) := by
  intro a3 n3 c3 wz hi
  have := wof_any m a3 n3 c3 _ wz hi
  rw [hz] at this; exact this
 clear h g hm1 hm2 hmm hZ hY hz
 go_enter Tryz.func176, Tryz.ntmps176
 go_wp2_with fail
 go_region_held3 (fun y => (y.cell? ⟨w.heap.size, 0, none⟩ = some (.slice a n c) /\ y.cell? ⟨w.heap.size, 1, none⟩ = some (.bool m) /\ y.cell? ⟨w.heap.size + 1, 0, none⟩ = some (.slice a2 n2 c2) /\ y.cell? ⟨w.heap.size + 1, 1, none⟩ = some (.bool m2)) /\ Bag w (PO w.heap.size a n c m Z a2 n2 c2 m2 Y) y)
  (first | (have B9 := BB.out.drew; exact ⟨B9.now.c, B9⟩) | (have B9 := Bag.go (by go_split_ands; assumption) hb2; exact ⟨B9.now.c, B9⟩))
  (first | (go_at_call 127; (with_reducible refine (N1.out _ ?_).mono ?_); (go_split_ands; assumption); rintro e w2 ⟨rfl, hb2⟩) | (go_at_call 127; (with_reducible refine (N2.out _ ?_).mono ?_); (go_split_ands; assumption); rintro e w2 ⟨rfl, hb2⟩))
 have B3 := Lib.hid (show Bag w (PO w.heap.size a n c m Z a2 n2 c2 m2 Y) _ from by go_split_ands; assumption)
 go_wp2_with fail
 go_region_held3 (fun y => (y.cell? ⟨w.heap.size, 0, none⟩ = some (.slice a n c) /\ y.cell? ⟨w.heap.size, 1, none⟩ = some (.bool m) /\ y.cell? ⟨w.heap.size + 1, 0, none⟩ = some (.slice a2 n2 c2) /\ y.cell? ⟨w.heap.size + 1, 1, none⟩ = some (.bool m2)) /\ Bag w (PO w.heap.size a n c m Z a2 n2 c2 m2 Y) y)
  (first | (have B9 := B3.out.drew; exact ⟨B9.now.c, B9⟩) | (have B9 := Bag.go (by go_split_ands; assumption) hb2; exact ⟨B9.now.c, B9⟩) | (exact ⟨B8.out.now.c, B8.out⟩))
  (first
    | (go_at_call 127; (with_reducible refine (N1.out _ ?_).mono ?_); (go_split_ands; assumption); rintro e w2 ⟨rfl, hb2⟩)
    | (go_at_call 145; (with_reducible refine (AD.out _ ?_).mono ?_); (go_split_ands; assumption); rintro e w2 ⟨a3, n3, c3, rfl, hi3, hb2⟩)
    | (go_at_call 103; (with_reducible refine (OF.out a3 n3 c3 _ hi3).mono ?_); rintro e w2 ⟨a4, n4, c4, m4, rfl, hi4, hb2⟩; have B7 := Bag.go (show Bag w (PO w.heap.size a n c m Z a2 n2 c2 m2 Y) _ from by go_split_ands; assumption) hb2; obtain ⟨x8, b8, hs8, _⟩ := B7.now.1; have hc1 := hs8.cell; have hc2 := hs8.cell1; have hf1 := hs8.free; have hf2 := hs8.free1; clear hs8; have HS := B7.now.1.cells a4 n4 c4 m4; have HE := Lib.hid (IntTold.fin B7.below (by omega) B7.now.1 hi4); have B8 := Lib.hid (B7.put (by omega) (a := a4) (n := n4) (c := c4) (b := m4) (fun h => h.put _ _ _ _)); unfold putI at HS; clear B7))
 go_wp2
 exact bodyPost_ret (v := _) (by simp [results, Tryz.results176, go_sem, HS]) rfl HE.out
theorem plusOne_less (a : Option Addr) (n c : Nat) (m : Bool) (Z : Int) (a2 : Option Addr) (n2 c2 : Nat) (m2 : Bool) (Y : Int) (w : World) (h : IntAt w a n c m Z) (g : IntAt w a2 n2 c2 m2 Y)
    (hmm : ¬ m = m2) (hle : Y.natAbs <= Z.natAbs) :
    Calls Tryz.prog 176 #[.agg #[.slice a n c, .bool m], .agg #[.slice a2 n2 c2, .bool m2]] w fun e w' => IntTold w w' e (Z + Y) := by
 have BB := Lib.hid (PO.start h g)
 have q0 := BB.out.now.c.1
 have q1 := BB.out.now.c.2.1
 have q2 := BB.out.now.c.2.2.1
 have q3 := BB.out.now.c.2.2.2
 have N1 : Hid (∀ wz, Bag w (PO w.heap.size a n c m Z a2 n2 c2 m2 Y) wz -> Calls Tryz.prog 127 #[.agg #[.slice a n c, .bool m]] wz fun e w' => e = .returned (.bool m) /\ Below wz.heap.size wz w') := fun wz hz => neg_any a n c m Z wz hz.now.2.2.2.2
 have N2 : Hid (∀ wz, Bag w (PO w.heap.size a n c m Z a2 n2 c2 m2 Y) wz -> Calls Tryz.prog 127 #[.agg #[.slice a2 n2 c2, .bool m2]] wz fun e w' => e = .returned (.bool m2) /\ Below wz.heap.size wz w') := fun wz hz => neg_any a2 n2 c2 m2 Y wz hz.now.2.2.2.1
 have hm1 := h.1
 have hm2 := g.1
 have hd : (m == m2) = false := by simpa using hmm
 have SB : Hid (∀ wz, Bag w (PO w.heap.size a n c m Z a2 n2 c2 m2 Y) wz -> Calls Tryz.prog 202 #[.agg #[.slice a n c], .agg #[.slice a2 n2 c2]] wz fun e w' => SubOf3 wz w' e (Z.natAbs - Y.natAbs) true) := fun wz hz => (sub_any _ _ _ _ wz hz.now.2.2.2.2.2 hz.now.2.2.2.1.2).mono fun _ _ h => h.three (decide_eq_true hle)
 have hz : sgn m (Z.natAbs - Y.natAbs) = Z + Y := by
  by_cases h1 : Z < 0
  · rw [decide_eq_true h1] at hm1
    rw [hm1] at hmm
    by_cases h2 : Y < 0
    · rw [decide_eq_true h2] at hm2; exact absurd hm2.symm hmm
    · rw [decide_eq_false h2] at hm2
      rw [hm1]; simp [sgn]; omega
  · rw [decide_eq_false h1] at hm1
    rw [hm1] at hmm
    by_cases h2 : Y < 0
    · rw [decide_eq_true h2] at hm2
      rw [hm1]; simp [sgn]; omega
    · rw [decide_eq_false h2] at hm2; exact absurd hm2.symm hmm
 have OF : Hid (∀ a3 n3 c3 wz, NatIs wz (.agg #[.slice a3 n3 c3]) (Z.natAbs - Y.natAbs) -> Calls Tryz.prog 103 #[.bool m, .agg #[.slice a3 n3 c3]] wz fun e w' => IntTold wz w' e (Z + Y)) := by
  intro a3 n3 c3 wz hi
  have := wof_any m a3 n3 c3 _ wz hi
  rw [hz] at this; exact this
 clear h g hm1 hm2 hmm hz hle
 go_enter Tryz.func176, Tryz.ntmps176
 go_wp2_with fail
 go_region_held3 (fun y => (y.cell? ⟨w.heap.size, 0, none⟩ = some (.slice a n c) /\ y.cell? ⟨w.heap.size, 1, none⟩ = some (.bool m) /\ y.cell? ⟨w.heap.size + 1, 0, none⟩ = some (.slice a2 n2 c2) /\ y.cell? ⟨w.heap.size + 1, 1, none⟩ = some (.bool m2)) /\ Bag w (PO w.heap.size a n c m Z a2 n2 c2 m2 Y) y)
  (first | (have B9 := BB.out.drew; exact ⟨B9.now.c, B9⟩) | (have B9 := Bag.go (by go_split_ands; assumption) hb2; exact ⟨B9.now.c, B9⟩))
  (first | (go_at_call 127; (with_reducible refine (N1.out _ ?_).mono ?_); (go_split_ands; assumption); rintro e w2 ⟨rfl, hb2⟩) | (go_at_call 127; (with_reducible refine (N2.out _ ?_).mono ?_); (go_split_ands; assumption); rintro e w2 ⟨rfl, hb2⟩))
 have B3 := Lib.hid (show Bag w (PO w.heap.size a n c m Z a2 n2 c2 m2 Y) _ from by go_split_ands; assumption)
 clear q0 q1 q2 q3
 have q0 := B3.out.now.c.1
 have q1 := B3.out.now.c.2.1
 have q2 := B3.out.now.c.2.2.1
 have q3 := B3.out.now.c.2.2.2
 go_wp2_with fail
 go_at_call 202
 (with_reducible refine (SB.out _ B3.out).mono ?_)
 rintro e w4 ⟨a3, n3, c3, rfl, hi3, hb4⟩
 have B4 := Lib.hid (((B3.out.go hb4).nat hi3).box (.slice a3 n3 c3) 49)
 have hk4 : w.heap.size + 1 + 1 < w4.heap.size := RS.lt (B3.out.go hb4).now.1
 clear hb4 hi3 q0 q1 q2 q3
 have q0 := B4.out.now.2.2.c.1
 have q1 := B4.out.now.2.2.c.2.1
 have q2 := B4.out.now.2.2.c.2.2.1
 have q3 := B4.out.now.2.2.c.2.2.2
 have q4 := B4.out.now.1.cell
 go_wp2_with fail
 go_region_held3 (fun y => (y.cell? ⟨w.heap.size, 0, none⟩ = some (.slice a n c) /\ y.cell? ⟨w.heap.size, 1, none⟩ = some (.bool m) /\ y.cell? ⟨w.heap.size + 1, 0, none⟩ = some (.slice a2 n2 c2) /\ y.cell? ⟨w.heap.size + 1, 1, none⟩ = some (.bool m2)) /\ y.cell? ⟨w4.heap.size, 0, none⟩ = some (.slice a3 n3 c3) /\ Bag w (fun y => Slot y w4.heap.size (.slice a3 n3 c3) /\ NatIs y (.agg #[.slice a3 n3 c3]) (Z.natAbs - Y.natAbs) /\ PO w.heap.size a n c m Z a2 n2 c2 m2 Y y) y)
  (first | (have B9 := B4.out.drew; exact ⟨B9.now.2.2.c, B9.now.1.cell, B9⟩) | (have B9 := Bag.go (by go_split_ands; assumption) hb2; exact ⟨B9.now.2.2.c, B9.now.1.cell, B9⟩) | (exact ⟨B8.out.now.2.2.c, B8.out.now.1.cell, B8.out⟩))
  (first
    | (go_at_call 127; (with_reducible refine (N1.out _ ?_).mono ?_); (have B6 := (show Bag w (fun y => Slot y w4.heap.size (.slice a3 n3 c3) /\ NatIs y (.agg #[.slice a3 n3 c3]) (Z.natAbs - Y.natAbs) /\ PO w.heap.size a n c m Z a2 n2 c2 m2 Y y) _ from by go_split_ands; assumption); exact ⟨B6.below, PO.stay, B6.now.2.2⟩); rintro e w2 ⟨rfl, hb2⟩)
    | (go_at_call 103; (with_reducible refine (OF.out a3 n3 c3 _ ?_).mono ?_); (have B6 := (show Bag w (fun y => Slot y w4.heap.size (.slice a3 n3 c3) /\ NatIs y (.agg #[.slice a3 n3 c3]) (Z.natAbs - Y.natAbs) /\ PO w.heap.size a n c m Z a2 n2 c2 m2 Y y) _ from by go_split_ands; assumption); exact B6.now.2.1); rintro e w2 ⟨a4, n4, c4, m4, rfl, hi4, hb2⟩; have B7 := Bag.go (show Bag w (fun y => Slot y w4.heap.size (.slice a3 n3 c3) /\ NatIs y (.agg #[.slice a3 n3 c3]) (Z.natAbs - Y.natAbs) /\ PO w.heap.size a n c m Z a2 n2 c2 m2 Y y) _ from by go_split_ands; assumption) hb2; obtain ⟨x8, b8, hs8, _⟩ := B7.now.2.2.1; have hc1 := hs8.cell; have hc2 := hs8.cell1; have hf1 := hs8.free; have hf2 := hs8.free1; clear hs8; have HS := B7.now.2.2.1.cells a4 n4 c4 m4; have HE := Lib.hid (IntTold.fin B7.below (by omega) B7.now.2.2.1 hi4); have B8 := Lib.hid (B7.put (by omega) (a := a4) (n := n4) (c := c4) (b := m4) (fun h => ⟨h.1.put (by omega) _ _ _ _, h.2.1.put h.2.2.1 _ _ _ _, h.2.2.put _ _ _ _⟩)); unfold putI at HS; clear B7))
 go_wp2
 exact bodyPost_ret (v := _) (by simp [results, Tryz.results176, go_sem, HS]) rfl HE.out
theorem plusOne_more (a : Option Addr) (n c : Nat) (m : Bool) (Z : Int) (a2 : Option Addr) (n2 c2 : Nat) (m2 : Bool) (Y : Int) (w : World) (h : IntAt w a n c m Z) (g : IntAt w a2 n2 c2 m2 Y)
    (hmm : ¬ m = m2) (hle : Z.natAbs < Y.natAbs) :
    Calls Tryz.prog 176 #[.agg #[.slice a n c, .bool m], .agg #[.slice a2 n2 c2, .bool m2]] w fun e w' => IntTold w w' e (Z + Y) := by
 have BB := Lib.hid (PO.start h g)
 have q0 := BB.out.now.c.1
 have q1 := BB.out.now.c.2.1
 have q2 := BB.out.now.c.2.2.1
 have q3 := BB.out.now.c.2.2.2
 have N1 : Hid (∀ wz, Bag w (PO w.heap.size a n c m Z a2 n2 c2 m2 Y) wz -> Calls Tryz.prog 127 #[.agg #[.slice a n c, .bool m]] wz fun e w' => e = .returned (.bool m) /\ Below wz.heap.size wz w') := fun wz hz => neg_any a n c m Z wz hz.now.2.2.2.2
 have N2 : Hid (∀ wz, Bag w (PO w.heap.size a n c m Z a2 n2 c2 m2 Y) wz -> Calls Tryz.prog 127 #[.agg #[.slice a2 n2 c2, .bool m2]] wz fun e w' => e = .returned (.bool m2) /\ Below wz.heap.size wz w') := fun wz hz => neg_any a2 n2 c2 m2 Y wz hz.now.2.2.2.1
 have hm1 := h.1
 have hm2 := g.1
 have hd : (m == m2) = false := by simpa using hmm
 have SB : Hid (∀ wz, Bag w (PO w.heap.size a n c m Z a2 n2 c2 m2 Y) wz -> Calls Tryz.prog 202 #[.agg #[.slice a n c], .agg #[.slice a2 n2 c2]] wz fun e w' => SubOf3 wz w' e (Z.natAbs - Y.natAbs) false) := fun wz hz => (sub_any _ _ _ _ wz hz.now.2.2.2.2.2 hz.now.2.2.2.1.2).mono fun _ _ h => h.three (decide_eq_false (by omega))
 have SB2 : Hid (∀ wz, Bag w (PO w.heap.size a n c m Z a2 n2 c2 m2 Y) wz -> Calls Tryz.prog 202 #[.agg #[.slice a2 n2 c2], .agg #[.slice a n c]] wz fun e w' => SubOf3 wz w' e (Y.natAbs - Z.natAbs) true) := fun wz hz => (sub_any _ _ _ _ wz hz.now.2.2.2.1.2 hz.now.2.2.2.2.2).mono fun _ _ h => h.three (decide_eq_true (by omega))
 have hz : sgn m2 (Y.natAbs - Z.natAbs) = Z + Y := by
  by_cases h1 : Z < 0
  · rw [decide_eq_true h1] at hm1
    rw [hm1] at hmm
    by_cases h2 : Y < 0
    · rw [decide_eq_true h2] at hm2; exact absurd hm2.symm hmm
    · rw [decide_eq_false h2] at hm2
      rw [hm2]; simp [sgn]; omega
  · rw [decide_eq_false h1] at hm1
    rw [hm1] at hmm
    by_cases h2 : Y < 0
    · rw [decide_eq_true h2] at hm2
      rw [hm2]; simp [sgn]; omega
    · rw [decide_eq_false h2] at hm2; exact absurd hm2.symm hmm
 have OF : Hid (∀ a3 n3 c3 wz, NatIs wz (.agg #[.slice a3 n3 c3]) (Y.natAbs - Z.natAbs) -> Calls Tryz.prog 103 #[.bool m2, .agg #[.slice a3 n3 c3]] wz fun e w' => IntTold wz w' e (Z + Y)) := by
  intro a3 n3 c3 wz hi
  have := wof_any m2 a3 n3 c3 _ wz hi
  rw [hz] at this; exact this
 clear h g hm1 hm2 hmm hz hle
 go_enter Tryz.func176, Tryz.ntmps176
 go_wp2_with fail
 go_region_held3 (fun y => (y.cell? ⟨w.heap.size, 0, none⟩ = some (.slice a n c) /\ y.cell? ⟨w.heap.size, 1, none⟩ = some (.bool m) /\ y.cell? ⟨w.heap.size + 1, 0, none⟩ = some (.slice a2 n2 c2) /\ y.cell? ⟨w.heap.size + 1, 1, none⟩ = some (.bool m2)) /\ Bag w (PO w.heap.size a n c m Z a2 n2 c2 m2 Y) y)
  (first | (have B9 := BB.out.drew; exact ⟨B9.now.c, B9⟩) | (have B9 := Bag.go (by go_split_ands; assumption) hb2; exact ⟨B9.now.c, B9⟩))
  (first | (go_at_call 127; (with_reducible refine (N1.out _ ?_).mono ?_); (go_split_ands; assumption); rintro e w2 ⟨rfl, hb2⟩) | (go_at_call 127; (with_reducible refine (N2.out _ ?_).mono ?_); (go_split_ands; assumption); rintro e w2 ⟨rfl, hb2⟩))
 have B3 := Lib.hid (show Bag w (PO w.heap.size a n c m Z a2 n2 c2 m2 Y) _ from by go_split_ands; assumption)
 clear q0 q1 q2 q3
 have q0 := B3.out.now.c.1
 have q1 := B3.out.now.c.2.1
 have q2 := B3.out.now.c.2.2.1
 have q3 := B3.out.now.c.2.2.2
 go_wp2_with fail
 go_at_call 202
 (with_reducible refine (SB.out _ B3.out).mono ?_)
 rintro e w4 ⟨a3, n3, c3, rfl, hi3, hb4⟩
 have B3 := Lib.hid ((B3.out.go hb4).alloc (.cells #[.slice a3 n3 c3] 49))
 clear hb4 hi3 q0 q1 q2 q3
 have q0 := B3.out.now.c.1
 have q1 := B3.out.now.c.2.1
 have q2 := B3.out.now.c.2.2.1
 have q3 := B3.out.now.c.2.2.2
 go_wp2_with fail
 go_at_call 202
 (with_reducible refine (SB2.out _ B3.out).mono ?_)
 rintro e w4 ⟨a3, n3, c3, rfl, hi3, hb4⟩
 have B4 := Lib.hid (((B3.out.go hb4).nat hi3).box (.slice a3 n3 c3) 49)
 have hk4 : w.heap.size + 1 + 1 < w4.heap.size := RS.lt (B3.out.go hb4).now.1
 clear hb4 hi3 q0 q1 q2 q3
 have q0 := B4.out.now.2.2.c.1
 have q1 := B4.out.now.2.2.c.2.1
 have q2 := B4.out.now.2.2.c.2.2.1
 have q3 := B4.out.now.2.2.c.2.2.2
 have q4 := B4.out.now.1.cell
 go_wp2_with fail
 go_region_held3 (fun y => (y.cell? ⟨w.heap.size, 0, none⟩ = some (.slice a n c) /\ y.cell? ⟨w.heap.size, 1, none⟩ = some (.bool m) /\ y.cell? ⟨w.heap.size + 1, 0, none⟩ = some (.slice a2 n2 c2) /\ y.cell? ⟨w.heap.size + 1, 1, none⟩ = some (.bool m2)) /\ y.cell? ⟨w4.heap.size, 0, none⟩ = some (.slice a3 n3 c3) /\ Bag w (fun y => Slot y w4.heap.size (.slice a3 n3 c3) /\ NatIs y (.agg #[.slice a3 n3 c3]) (Y.natAbs - Z.natAbs) /\ PO w.heap.size a n c m Z a2 n2 c2 m2 Y y) y)
  (first | (have B9 := B4.out.drew; exact ⟨B9.now.2.2.c, B9.now.1.cell, B9⟩) | (have B9 := Bag.go (by go_split_ands; assumption) hb2; exact ⟨B9.now.2.2.c, B9.now.1.cell, B9⟩) | (exact ⟨B8.out.now.2.2.c, B8.out.now.1.cell, B8.out⟩))
  (first
    | (go_at_call 127; (with_reducible refine (N2.out _ ?_).mono ?_); (have B6 := (show Bag w (fun y => Slot y w4.heap.size (.slice a3 n3 c3) /\ NatIs y (.agg #[.slice a3 n3 c3]) (Y.natAbs - Z.natAbs) /\ PO w.heap.size a n c m Z a2 n2 c2 m2 Y y) _ from by go_split_ands; assumption); exact ⟨B6.below, PO.stay, B6.now.2.2⟩); rintro e w2 ⟨rfl, hb2⟩)
    | (go_at_call 103; (with_reducible refine (OF.out a3 n3 c3 _ ?_).mono ?_); (have B6 := (show Bag w (fun y => Slot y w4.heap.size (.slice a3 n3 c3) /\ NatIs y (.agg #[.slice a3 n3 c3]) (Y.natAbs - Z.natAbs) /\ PO w.heap.size a n c m Z a2 n2 c2 m2 Y y) _ from by go_split_ands; assumption); exact B6.now.2.1); rintro e w2 ⟨a4, n4, c4, m4, rfl, hi4, hb2⟩; have B7 := Bag.go (show Bag w (fun y => Slot y w4.heap.size (.slice a3 n3 c3) /\ NatIs y (.agg #[.slice a3 n3 c3]) (Y.natAbs - Z.natAbs) /\ PO w.heap.size a n c m Z a2 n2 c2 m2 Y y) _ from by go_split_ands; assumption) hb2; obtain ⟨x8, b8, hs8, _⟩ := B7.now.2.2.1; have hc1 := hs8.cell; have hc2 := hs8.cell1; have hf1 := hs8.free; have hf2 := hs8.free1; clear hs8; have HS := B7.now.2.2.1.cells a4 n4 c4 m4; have HE := Lib.hid (IntTold.fin B7.below (by omega) B7.now.2.2.1 hi4); have B8 := Lib.hid (B7.put (by omega) (a := a4) (n := n4) (c := c4) (b := m4) (fun h => ⟨h.1.put (by omega) _ _ _ _, h.2.1.put h.2.2.1 _ _ _ _, h.2.2.put _ _ _ _⟩)); unfold putI at HS; clear B7))
 go_wp2
 exact bodyPost_ret (v := _) (by simp [results, Tryz.results176, go_sem, HS]) rfl HE.out
theorem plusOne_any (a : Option Addr) (n c : Nat) (m : Bool) (Z : Int) (a2 : Option Addr) (n2 c2 : Nat) (m2 : Bool) (Y : Int) (w : World) (h : IntAt w a n c m Z) (g : IntAt w a2 n2 c2 m2 Y)
    (k : Nat) (hk : k <= 900000) (hZ : Z.natAbs < 4294967296 ^ k) (hY : Y.natAbs < 4294967296 ^ k) :
    Calls Tryz.prog 176 #[.agg #[.slice a n c, .bool m], .agg #[.slice a2 n2 c2, .bool m2]] w fun e w' => IntTold w w' e (Z + Y) := by
 by_cases hmm : m = m2
 · exact plusOne_same a n c m Z a2 n2 c2 m2 Y w h g k hk hZ hY hmm
 · rcases Nat.lt_or_ge Z.natAbs Y.natAbs with hl | hl
   · exact plusOne_more a n c m Z a2 n2 c2 m2 Y w h g hmm hl
   · exact plusOne_less a n c m Z a2 n2 c2 m2 Y w h g hmm hl
end Go.Proofs.YtpdcdebnkbnogaaGreatDoor
namespace Go.Proofs.YtpdcdebnkbnogaaGreatDoor
open Go.RowKit
def IntsAt (w : World) (sa : Option Addr) (n c : Nat) (f : Nat -> Int) : Prop := n <= c /\ n <= 1000 /\ (n = 0 ∨ ∃ b off, sa = some ⟨b, off, none⟩ /\ b < w.heap.size /\
 ∀ j, j < n -> ∃ a' n' c' m', w.cell? ⟨b, off + j * 2, none⟩ = some (.slice a' n' c') /\ w.cell? ⟨b, off + j * 2 + 1, none⟩ = some (.bool m') /\ IntAt w a' n' c' m' (f j))
theorem IntsAt.below {w w' : World} {sa : Option Addr} {n c : Nat} {f : Nat -> Int} (h : IntsAt w sa n c f) (hb : Below w.heap.size w w') : IntsAt w' sa n c f := by
 obtain ⟨h0, h1, h2⟩ := h
 refine ⟨h0, h1, ?_⟩
 rcases h2 with h2 | ⟨b, off, rfl, hl, hc⟩
 · exact .inl h2
 · refine .inr ⟨b, off, rfl, Nat.lt_of_lt_of_le hl hb.size, fun j hj => ?_⟩
   obtain ⟨a', n', c', m', e1, e2, e3⟩ := hc j hj
   exact ⟨a', n', c', m', (hb.cell (p := ⟨b, _, none⟩) hl).trans e1, (hb.cell (p := ⟨b, _, none⟩) hl).trans e2, e3.below hb⟩
theorem IntsAt.get {w : World} {sa : Option Addr} {n c : Nat} {f : Nat -> Int} (h : IntsAt w sa n c f) {j : Nat} (hj : j < n) :
    ∃ b off a' n' c' m', sa = some ⟨b, off, none⟩ /\ b < w.heap.size /\ w.cell? ⟨b, off + j * 2, none⟩ = some (.slice a' n' c') /\ w.cell? ⟨b, off + j * 2 + 1, none⟩ = some (.bool m') /\ IntAt w a' n' c' m' (f j) := by
 obtain ⟨h0, h1, h2⟩ := h
 rcases h2 with h2 | ⟨b, off, rfl, hl, hc⟩
 · omega
 · obtain ⟨a', n', c', m', e⟩ := hc j hj
   exact ⟨b, off, a', n', c', m', rfl, hl, e⟩
def psum (Z : Int) (f : Nat -> Int) : Nat -> Int
 | 0 => Z
 | k + 1 => psum Z f k + f k
def asum (f : Nat -> Int) : Nat -> Nat
 | 0 => 0
 | k + 1 => asum f k + (f k).natAbs
theorem asum_mono (f : Nat -> Int) {k n : Nat} (h : k <= n) : asum f k <= asum f n := by
 induction n with
 | zero => obtain rfl : k = 0 := by omega
           exact Nat.le_refl _
 | succ n ih =>
  rcases Nat.lt_or_ge k (n + 1) with h1 | h1
  · have := ih (by omega); rw [asum]; omega
  · obtain rfl : k = n + 1 := by omega
    exact Nat.le_refl _
theorem psum_abs (Z : Int) (f : Nat -> Int) : ∀ k, (psum Z f k).natAbs <= Z.natAbs + asum f k
 | 0 => by simp [psum, asum]
 | k + 1 => by have := psum_abs Z f k; rw [psum, asum]; omega
theorem asum_get (f : Nat -> Int) {k n : Nat} (h : k < n) : (f k).natAbs <= asum f n := by
 have := asum_mono f (show k + 1 <= n from h); rw [asum] at this; omega
def PL (w wr : World) (V : Int) : Prop := Below w.heap.size w wr /\ RS wr (w.heap.size + 1) /\ ∃ a n c m, Slot2 wr (w.heap.size + 1 + 1) (.slice a n c) (.bool m) /\ IntAt wr a n c m V
theorem plus_any (a : Option Addr) (n c : Nat) (m : Bool) (Z : Int) (sa : Option Addr) (ln lc : Nat) (f : Nat -> Int) (w : World) (h : IntAt w a n c m Z) (g : IntsAt w sa ln lc f)
    (K : Nat) (hK : K <= 900000) (hb : Z.natAbs + asum f ln < 4294967296 ^ K) :
    Calls Tryz.prog 129 #[.agg #[.slice a n c, .bool m], .slice sa ln lc] w fun e w' => IntTold w w' e (psum Z f ln) := by
 have B0 := (((((Bag.start w).int h).box2 (.slice a n c) (.bool m) 51).box2 (.slice none 0 0) (.bool false) 51)).box2 (.slice a n c) (.bool m) 51
 simp only [World.size_alloc] at B0
 have H0 : Hid (PL w _ (psum Z f 0)) := ⟨B0.below, B0.now.2.1.rs, a, n, c, m, B0.now.1, B0.now.2.2.2.1⟩
 have q0 := B0.now.2.2.1.cell
 have q1 := B0.now.2.2.1.cell1
 have HG := Lib.hid g
 have hln : ln <= 1000 /\ ln <= lc := ⟨g.2.1, g.1⟩
 have HB : Hid (∀ k, k < ln -> (psum Z f k).natAbs < 4294967296 ^ K /\ (f k).natAbs < 4294967296 ^ K) := fun k hk => by
  have h1 := psum_abs Z f k
  have h2 := asum_mono f (Nat.le_of_lt hk)
  have h3 := asum_get f hk
  exact ⟨by omega, by omega⟩
 clear B0 h g hb
 go_enter Tryz.func129, Tryz.ntmps129
 go_wp2
 go_loopw [11] (fun i wr => ∃ k : Nat, k <= ln /\ i = .int .i64 k /\ PL w wr (psum Z f k)) (fun i _ => ln - (intOf i).toNat)
 case atStart => exact ⟨0, by omega, rfl, H0.out⟩
 case round =>
  obtain ⟨k, hk, rfl, hr⟩ := hrel
  by_cases hlt : k < ln
  · obtain ⟨hbl, hrs, a3, n3, c3, m3, hs3, hi3⟩ := hr
    obtain ⟨b, off, a', n', c', m', rfl, hlb, e1, e2, hi'⟩ := (HG.out.below hbl).get hlt
    have B1 := ((((Bag.start wr).int hi3).int hi').slot2 hs3).box2 (.slice a' n' c') (.bool m') 51
    have HBK := HB.out k hlt
    have PO1 := Lib.hid (plusOne_any a3 n3 c3 m3 (psum Z f k) a' n' c' m' (f k) _ B1.now.2.2.2.1 B1.now.2.2.1 K hK HBK.1 HBK.2)
    have HBL := Lib.hid hbl
    have HRS := Lib.hid hrs
    have p0 := B1.now.2.1.cell
    have p1 := B1.now.2.1.cell1
    have BB := Lib.hid B1
    have hwr : w.heap.size <= wr.heap.size := hbl.size
    clear hbl hrs hi3 hi' B1 HBK hs3 q0 q1
    go_wp2_with fail
    go_at_call 176
    (with_reducible refine PO1.out.mono ?_)
    rintro e w4 ⟨a5, n5, c5, m5, rfl, hi5, hb5⟩
    have B5 := BB.out.go hb5
    have hs5 := B5.now.2.1
    have hc1 := hs5.cell
    have hc2 := hs5.cell1
    have hf1 := hs5.free
    have hf2 := hs5.free1
    have hb6 := HBL.out.trans (B5.below.mono hwr)
    have HN : Hid (PL w (putI w4 (w.heap.size + 1 + 1) a5 n5 c5 m5) (psum Z f (k + 1))) := by
     refine ⟨(hb6.setCell (show w.heap.size <= w.heap.size + 1 + 1 by omega) _).setCell (show w.heap.size <= w.heap.size + 1 + 1 by omega) _, ?_, a5, n5, c5, m5, ?_, hi5.put hs5.rs _ _ _ _⟩
     · exact (HRS.out.below B5.below).put _ _ _ _
     · have := hs5.set (.slice a5 n5 c5) (.bool m5)
       exact ⟨this.1, this.2, by simp [putI, hs5.free], by simp [putI, hs5.free1], by simpa [putI] using hs5.lt⟩
    unfold putI at HN
    clear hb5 hi5 B5 hs5 hb6 p0 p1
    go_wp2
    go_roundw
    case rel => exact ⟨k + 1, by omega, by go_num, HN.out⟩
    case measure => simp [intOf]; omega
  · obtain rfl : k = ln := by omega
    obtain ⟨hbl, hrs, a3, n3, c3, m3, hs3, hi3⟩ := hr
    have HE := Lib.hid (IntTold.fin hbl (by omega) hrs hi3)
    have HS := hrs.cells a3 n3 c3 m3
    unfold putI at HS
    have p0 := hs3.cell
    have p1 := hs3.cell1
    obtain ⟨x8, b8, hs8, _⟩ := hrs
    have hc1 := hs8.cell
    have hc2 := hs8.cell1
    have hf1 := hs8.free
    have hf2 := hs8.free1
    clear hs8 hs3 hi3 hbl q0 q1
    go_wp2
    exact bodyPost_ret (v := _) (by simp [results, Tryz.results129, go_sem, HS]) rfl HE.out
end Go.Proofs.YtpdcdebnkbnogaaGreatDoor
namespace Go.Proofs.YtpdcdebnkbnogaaGreatDoor
open Go.RowKit
attribute [local go_sem ↓] Go.wp_at_zero Go.wp_at_succ
def flA (Z Y : Int) : Bool := decide (Z < 0) != decide (Y < 0)
def flU (Z Y : Int) : Bool := flA Z Y && !decide (Z.natAbs % Y.natAbs = 0)
def flQ (Z Y : Int) : Int := sgn (flA Z Y) (if flU Z Y then Z.natAbs / Y.natAbs + 1 else Z.natAbs / Y.natAbs)
def flR (Z Y : Int) : Int := sgn (decide (Y < 0)) (if flU Z Y then Y.natAbs - Z.natAbs % Y.natAbs else Z.natAbs % Y.natAbs)
def FP (k : Nat) (a : Option Addr) (n c : Nat) (m : Bool) (Z : Int) (a2 : Option Addr) (n2 c2 : Nat) (m2 : Bool) (Y : Int) (y : World) : Prop :=
 RS y (k + 1 + 1) /\ RS y (k + 1 + 1 + 1) /\ Slot2 y (k + 1) (.slice a2 n2 c2) (.bool m2) /\ Slot2 y k (.slice a n c) (.bool m) /\ IntAt y a2 n2 c2 m2 Y /\ IntAt y a n c m Z
theorem FP.stay {k : Nat} {a : Option Addr} {n c : Nat} {m : Bool} {Z : Int} {a2 : Option Addr} {n2 c2 : Nat} {m2 : Bool} {Y : Int} : ∀ x y, Below x.heap.size x y -> FP k a n c m Z a2 n2 c2 m2 Y x -> FP k a n c m Z a2 n2 c2 m2 Y y :=
 fun _ _ hb h => ⟨h.1.below hb, h.2.1.below hb, h.2.2.1.below hb, h.2.2.2.1.below hb, h.2.2.2.2.1.below hb, h.2.2.2.2.2.below hb⟩
theorem FP.start {w : World} {a : Option Addr} {n c : Nat} {m : Bool} {Z : Int} {a2 : Option Addr} {n2 c2 : Nat} {m2 : Bool} {Y : Int} (h : IntAt w a n c m Z) (g : IntAt w a2 n2 c2 m2 Y) :
    Bag w (FP w.heap.size a n c m Z a2 n2 c2 m2 Y) ((((w.alloc (.cells #[.slice a n c, .bool m] 51)).alloc (.cells #[.slice a2 n2 c2, .bool m2] 51)).alloc (.cells #[.slice none 0 0, .bool false] 51)).alloc (.cells #[.slice none 0 0, .bool false] 51)) := by
 have B0 := ((((((Bag.start w).int h).int g).box2 (.slice a n c) (.bool m) 51).box2 (.slice a2 n2 c2) (.bool m2) 51).box2 (.slice none 0 0) (.bool false) 51).box2 (.slice none 0 0) (.bool false) 51
 simp only [World.size_alloc] at B0
 exact ⟨B0.below, FP.stay, B0.now.2.1.rs, B0.now.1.rs, B0.now.2.2.1, B0.now.2.2.2.1, B0.now.2.2.2.2.1, B0.now.2.2.2.2.2.1⟩
theorem FP.put {k j : Nat} {a : Option Addr} {n c : Nat} {m : Bool} {Z : Int} {a2 : Option Addr} {n2 c2 : Nat} {m2 : Bool} {Y : Int} {y : World} (h : FP k a n c m Z a2 n2 c2 m2 Y y) (hj : RS y j) (h1 : k ≠ j) (h2 : k + 1 ≠ j) (a3 : Option Addr) (n3 c3 : Nat) (b : Bool) : FP k a n c m Z a2 n2 c2 m2 Y (putI y j a3 n3 c3 b) :=
 ⟨h.1.put _ _ _ _, h.2.1.put _ _ _ _, h.2.2.1.put h2 _ _ _ _, h.2.2.2.1.put h1 _ _ _ _, h.2.2.2.2.1.put hj _ _ _ _, h.2.2.2.2.2.put hj _ _ _ _⟩
def DivOf3 (w w' : World) (e : Ending) (N M : Nat) (b : Bool) : Prop := ∃ a n c a2 n2 c2, e = .returned (.tuple #[.agg #[.slice a n c], .agg #[.slice a2 n2 c2], .bool b]) /\ NatIs w' (.agg #[.slice a n c]) N /\ NatIs w' (.agg #[.slice a2 n2 c2]) M /\ Below w.heap.size w w'
theorem DivOut.three {w w' : World} {e : Ending} {N M : Nat} {b : Bool} (h : DivOut w w' e N M) (hb : decide (M ≠ 0) = b) : DivOf3 w w' e (N / M) (modz N M) b := by
 obtain ⟨v, u, h1, ⟨a, n, c, f, h2, h3, h4, h5⟩, ⟨a', n', c', f', h2', h3', h4', h5'⟩, h6⟩ := h
 exact ⟨a, n, c, a', n', c', by rw [h1, h2, h2', hb], ⟨a, n, c, f, rfl, h3, h4, h5⟩, ⟨a', n', c', f', rfl, h3', h4', h5'⟩, h6⟩
def FloorTold (w w' : World) (e : Ending) (Q R : Int) : Prop := ∃ a n c m a2 n2 c2 m2, e = .returned (.tuple #[.agg #[.slice a n c, .bool m], .agg #[.slice a2 n2 c2, .bool m2], .bool true]) /\ IntAt w' a n c m Q /\ IntAt w' a2 n2 c2 m2 R /\ Below w.heap.size w w'
def pprod (Z : Int) (f : Nat -> Int) : Nat -> Int
 | 0 => Z
 | k + 1 => pprod Z f k * f k
theorem sgn_mul (Z Y : Int) : sgn (decide (Z < 0) != decide (Y < 0)) (Z.natAbs * Y.natAbs) = Z * Y := by
 by_cases hz : Z < 0
 · obtain ⟨x, rfl⟩ : ∃ x : Nat, Z = -(x : Int) := ⟨Z.natAbs, by omega⟩
   by_cases hy : Y < 0
   · obtain ⟨y, rfl⟩ : ∃ y : Nat, Y = -(y : Int) := ⟨Y.natAbs, by omega⟩
     rw [decide_eq_true hz, decide_eq_true hy]
     simp [sgn, Int.neg_mul_neg]
   · obtain ⟨y, rfl⟩ : ∃ y : Nat, Y = (y : Int) := ⟨Y.natAbs, by omega⟩
     rw [decide_eq_true hz, decide_eq_false hy]
     simp [sgn, Int.neg_mul]
 · obtain ⟨x, rfl⟩ : ∃ x : Nat, Z = (x : Int) := ⟨Z.natAbs, by omega⟩
   by_cases hy : Y < 0
   · obtain ⟨y, rfl⟩ : ∃ y : Nat, Y = -(y : Int) := ⟨Y.natAbs, by omega⟩
     rw [decide_eq_false hz, decide_eq_true hy]
     simp [sgn, Int.mul_neg]
   · obtain ⟨y, rfl⟩ : ∃ y : Nat, Y = (y : Int) := ⟨Y.natAbs, by omega⟩
     rw [decide_eq_false hz, decide_eq_false hy]
     simp [sgn]
def TP (k1 k2 k7 : Nat) (a : Option Addr) (n c : Nat) (m : Bool) (Z : Int) (a2 : Option Addr) (n2 c2 : Nat) (m2 : Bool) (Y : Int) (y : World) : Prop :=
 RS y k2 /\ RS y k1 /\ IntAt y a n c m Z /\ IntAt y a2 n2 c2 m2 Y /\ Slot2 y k7 (.slice a2 n2 c2) (.bool m2)
theorem TP.stay {k1 k2 k7 : Nat} {a : Option Addr} {n c : Nat} {m : Bool} {Z : Int} {a2 : Option Addr} {n2 c2 : Nat} {m2 : Bool} {Y : Int} : ∀ x y, Below x.heap.size x y -> TP k1 k2 k7 a n c m Z a2 n2 c2 m2 Y x -> TP k1 k2 k7 a n c m Z a2 n2 c2 m2 Y y :=
 fun _ _ hb h => ⟨h.1.below hb, h.2.1.below hb, h.2.2.1.below hb, h.2.2.2.1.below hb, h.2.2.2.2.below hb⟩
theorem TP.put {k1 k2 k7 : Nat} {a : Option Addr} {n c : Nat} {m : Bool} {Z : Int} {a2 : Option Addr} {n2 c2 : Nat} {m2 : Bool} {Y : Int} {y : World} (h : TP k1 k2 k7 a n c m Z a2 n2 c2 m2 Y y) (hk : k7 ≠ k2) (a3 : Option Addr) (n3 c3 : Nat) (b : Bool) : TP k1 k2 k7 a n c m Z a2 n2 c2 m2 Y (putI y k2 a3 n3 c3 b) :=
 ⟨h.1.put _ _ _ _, h.2.1.put _ _ _ _, h.2.2.1.put h.1 _ _ _ _, h.2.2.2.1.put h.1 _ _ _ _, h.2.2.2.2.put hk _ _ _ _⟩
theorem slot2_putI {w : World} {k : Nat} {x y : Value} (h : Slot2 w k x y) (a : Option Addr) (n c : Nat) (b : Bool) : Slot2 (putI w k a n c b) k (.slice a n c) (.bool b) :=
 ⟨(h.set _ _).1, (h.set _ _).2, by simp [putI, h.free], by simp [putI, h.free1], by simpa [putI] using h.lt⟩
theorem times_any (a : Option Addr) (n c : Nat) (m : Bool) (Z : Int) (sa : Option Addr) (ln lc : Nat) (f : Nat -> Int) (w : World) (h : IntAt w a n c m Z) (g : IntsAt w sa ln lc f)
    (K : Nat) (hK : K <= 400000) (hb : ∀ k, k < ln -> (pprod Z f k).natAbs < 4294967296 ^ K /\ (f k).natAbs < 4294967296 ^ K) :
    Calls Tryz.prog 70 #[.agg #[.slice a n c, .bool m], .slice sa ln lc] w fun e w' => IntTold w w' e (pprod Z f ln) := by
 have B0 := (((((Bag.start w).int h).box2 (.slice a n c) (.bool m) 51).box2 (.slice none 0 0) (.bool false) 51)).box2 (.slice a n c) (.bool m) 51
 simp only [World.size_alloc] at B0
 have H0 : Hid (PL w _ (pprod Z f 0)) := ⟨B0.below, B0.now.2.1.rs, a, n, c, m, B0.now.1, B0.now.2.2.2.1⟩
 have q0 := B0.now.2.2.1.cell
 have q1 := B0.now.2.2.1.cell1
 have HG := Lib.hid g
 have hln : ln <= 1000 /\ ln <= lc := ⟨g.2.1, g.1⟩
 have HB := Lib.hid hb
 clear B0 h g hb
 go_enter Tryz.func70, Tryz.ntmps70
 go_wp2
 go_loopw [11] (fun i wr => ∃ k : Nat, k <= ln /\ i = .int .i64 k /\ PL w wr (pprod Z f k)) (fun i _ => ln - (intOf i).toNat)
 case atStart => exact ⟨0, by omega, rfl, H0.out⟩
 case round =>
  obtain ⟨k, hk, rfl, hr⟩ := hrel
  by_cases hlt : k < ln
  · obtain ⟨hbl, hrs, a3, n3, c3, m3, hs3, hi3⟩ := hr
    obtain ⟨b, off, a', n', c', m', rfl, hlb, e1, e2, hi'⟩ := (HG.out.below hbl).get hlt
    have hwr : w.heap.size <= wr.heap.size := hbl.size
    have hw2 : w.heap.size + 1 + 1 < wr.heap.size := hs3.lt
    have hm3 := hi3.1
    have hm' := hi'.1
    have HBK := HB.out k hlt
    obtain ⟨ZZ, hZZ⟩ : ∃ ZZ, pprod Z f k = ZZ := ⟨_, rfl⟩
    obtain ⟨YY, hYY⟩ : ∃ YY, f k = YY := ⟨_, rfl⟩
    have hnext : pprod Z f (k + 1) = ZZ * YY := by rw [pprod, hZZ, hYY]
    rw [hZZ] at hi3 HBK hm3
    rw [hYY] at hi' HBK hm'
    have B1 : Bag w (TP (w.heap.size + 1) (w.heap.size + 1 + 1) wr.heap.size a3 n3 c3 m3 ZZ a' n' c' m' YY) (wr.alloc (.cells #[.slice a' n' c', .bool m'] 51)) := by
     have B1 := ((((Bag.start wr).int hi3).int hi').slot2 hs3).box2 (.slice a' n' c') (.bool m') 51
     exact ⟨hbl.trans (B1.below.mono hwr), TP.stay, B1.now.2.1.rs, hrs.below B1.below, B1.now.2.2.2.1, B1.now.2.2.1, B1.now.1⟩
    have N1 : Hid (∀ wz, TP (w.heap.size + 1) (w.heap.size + 1 + 1) wr.heap.size a3 n3 c3 m3 ZZ a' n' c' m' YY wz -> Calls Tryz.prog 127 #[.agg #[.slice a3 n3 c3, .bool m3]] wz fun e w' => e = .returned (.bool m3) /\ Below wz.heap.size wz w') := fun wz hz => neg_any a3 n3 c3 m3 ZZ wz hz.2.2.1
    have N2 : Hid (∀ wz, TP (w.heap.size + 1) (w.heap.size + 1 + 1) wr.heap.size a3 n3 c3 m3 ZZ a' n' c' m' YY wz -> Calls Tryz.prog 127 #[.agg #[.slice a' n' c', .bool m']] wz fun e w' => e = .returned (.bool m') /\ Below wz.heap.size wz w') := fun wz hz => neg_any a' n' c' m' YY wz hz.2.2.2.1
    have MU : Hid (∀ wz, TP (w.heap.size + 1) (w.heap.size + 1 + 1) wr.heap.size a3 n3 c3 m3 ZZ a' n' c' m' YY wz -> Calls Tryz.prog 76 #[.agg #[.slice a3 n3 c3], .agg #[.slice a' n' c']] wz fun e w' => NatOf3 wz w' e (ZZ.natAbs * YY.natAbs)) := fun wz hz => (mul_any _ _ _ _ wz hz.2.2.1.2 hz.2.2.2.1.2 K hK HBK.1 HBK.2).mono fun _ _ h => h.three
    have OF : Hid (∀ a4 n4 c4 wz, NatIs wz (.agg #[.slice a4 n4 c4]) (ZZ.natAbs * YY.natAbs) -> Calls Tryz.prog 103 #[.bool (!(m3 == m')), .agg #[.slice a4 n4 c4]] wz fun e w' => IntTold wz w' e (ZZ * YY)) := by
     intro a4 n4 c4 wz hi
     have := wof_any (m3 != m') a4 n4 c4 _ wz hi
     rw [hm3, hm', sgn_mul] at this
     rw [hm3, hm']; exact this
    have HBL := Lib.hid hbl
    have HRS := Lib.hid hrs
    have HNX := Lib.hid hnext
    have BB := Lib.hid B1.drew
    have SS : Hid (Slot2 (wr.alloc (.cells #[.slice a' n' c', .bool m'] 51)).drew (w.heap.size + 1 + 1) (.slice a3 n3 c3) (.bool m3)) := hs3.below (((Below.refl _ _).alloc (Nat.le_refl _) _).drew)
    have p2 := SS.out.cell
    have p3 := SS.out.cell1
    obtain ⟨mm, hmm⟩ : ∃ mm, (!(m3 == m')) = mm := ⟨_, rfl⟩
    rw [hmm] at OF
    clear hbl hrs hi3 hi' B1 HBK hs3 q0 q1 hZZ hYY hnext hm3 hm'
    go_wp2_with fail
    have p0 := BB.out.now.2.2.2.2.cell
    have p1 := BB.out.now.2.2.2.2.cell1
    go_region_with (first
        | (go_at_call 127; (with_reducible refine (N1.out _ BB.out.now).mono ?_); rintro e w2 ⟨rfl, hb2⟩; have BB := Lib.hid (BB.out.go hb2); have SS := Lib.hid (SS.out.below hb2); have p0 := BB.out.now.2.2.2.2.cell; have p1 := BB.out.now.2.2.2.2.cell1; have p2 := SS.out.cell; have p3 := SS.out.cell1; clear hb2)
        | (go_at_call 127; (with_reducible refine (N2.out _ BB.out.now).mono ?_); rintro e w2 ⟨rfl, hb2⟩; have BB := Lib.hid (BB.out.go hb2); have SS := Lib.hid (SS.out.below hb2); have p0 := BB.out.now.2.2.2.2.cell; have p1 := BB.out.now.2.2.2.2.cell1; have p2 := SS.out.cell; have p3 := SS.out.cell1; clear hb2)
        | (go_at_call 76; (with_reducible refine (MU.out _ BB.out.now).mono ?_); rintro e w2 ⟨a4, n4, c4, rfl, hi4, hb2⟩; have BB := Lib.hid (BB.out.go hb2); have SS := Lib.hid (SS.out.below hb2); have p0 := BB.out.now.2.2.2.2.cell; have p1 := BB.out.now.2.2.2.2.cell1; have p2 := SS.out.cell; have p3 := SS.out.cell1; clear hb2)
        | (go_at_call 103; (with_reducible refine (OF.out a4 n4 c4 _ hi4).mono ?_); rintro e w2 ⟨a5, n5, c5, m5, rfl, hi5, hb2⟩; have B7 := Bag.go BB.out hb2; have hs5 := SS.out.below hb2; have hc1 := hs5.cell; have hc2 := hs5.cell1; have hf1 := hs5.free; have hf2 := hs5.free1; have HN : Hid (PL w (putI w2 (w.heap.size + 1 + 1) a5 n5 c5 m5) (pprod Z f (k + 1))) := ⟨(B7.below.setCell (show w.heap.size <= w.heap.size + 1 + 1 by omega) _).setCell (show w.heap.size <= w.heap.size + 1 + 1 by omega) _, B7.now.2.1.put _ _ _ _, a5, n5, c5, m5, slot2_putI hs5 _ _ _ _, by rw [HNX.out]; exact hi5.put B7.now.1 _ _ _ _⟩; unfold putI at HN; clear B7))
    all_goals
     go_wp2
     go_roundw
     case rel => exact ⟨k + 1, by omega, by go_num, HN.out⟩
     case measure => simp [intOf]; omega
  · obtain rfl : k = ln := by omega
    obtain ⟨hbl, hrs, a3, n3, c3, m3, hs3, hi3⟩ := hr
    have HE := Lib.hid (IntTold.fin hbl (by omega) hrs hi3)
    have HS := hrs.cells a3 n3 c3 m3
    unfold putI at HS
    have p0 := hs3.cell
    have p1 := hs3.cell1
    obtain ⟨x8, b8, hs8, _⟩ := hrs
    have hc1 := hs8.cell
    have hc2 := hs8.cell1
    have hf1 := hs8.free
    have hf2 := hs8.free1
    clear hs8 hs3 hi3 hbl q0 q1
    go_wp2
    exact bodyPost_ret (v := _) (by simp [results, Tryz.results70, go_sem, HS]) rfl HE.out
end Go.Proofs.YtpdcdebnkbnogaaGreatDoor
namespace Go.Proofs.YtpdcdebnkbnogaaGreatDoor
open Go.RowKit
theorem d10_lt (Z k : Nat) : d10 Z k < 10 := Nat.mod_lt _ (by omega)
theorem set_digit {Z Y p t : Nat} (ht : t < 10) (h : Y + d10 Z p * 10 ^ p = Z + t * 10 ^ p) : ∀ k, d10 Y k = if k = p then t else d10 Z k := by
 have hp : 0 < 10 ^ p := Nat.pow_pos (by omega)
 have e1 := Nat.div_add_mod Z (10 ^ p)
 have e2 := Nat.div_add_mod (Z / 10 ^ p) 10
 have e3 : Z / 10 ^ p % 10 = d10 Z p := rfl
 rw [e3] at e2
 -- Z = lo + 10^p * (10 * hi + d)
 obtain ⟨hi, hhi⟩ : ∃ hi, Z / 10 ^ p / 10 = hi := ⟨_, rfl⟩
 obtain ⟨lo, hlo⟩ : ∃ lo, Z % 10 ^ p = lo := ⟨_, rfl⟩
 have hlol : lo < 10 ^ p := by rw [← hlo]; exact Nat.mod_lt _ hp
 rw [hhi] at e2
 rw [hlo] at e1
 have hZ : Z = lo + 10 ^ p * (10 * hi + d10 Z p) := by rw [e2]; omega
 have hY : Y = lo + 10 ^ p * (10 * hi + t) := by
  have a1 : 10 ^ p * (10 * hi + d10 Z p) = 10 ^ p * (10 * hi) + d10 Z p * 10 ^ p := by rw [Nat.mul_add, Nat.mul_comm (10 ^ p) (d10 Z p)]
  have a2 : 10 ^ p * (10 * hi + t) = 10 ^ p * (10 * hi) + t * 10 ^ p := by rw [Nat.mul_add, Nat.mul_comm (10 ^ p) t]
  omega
 have gen : ∀ u, u < 10 -> ∀ k, d10 (lo + 10 ^ p * (10 * hi + u)) k = if k < p then d10 lo k else if k = p then u else hi / 10 ^ (k - p - 1) % 10 := by
  intro u hu k
  unfold d10
  rcases Nat.lt_trichotomy k p with h | h | h
  · rw [if_pos h]
    obtain ⟨m, rfl⟩ : ∃ m, p = k + (m + 1) := ⟨p - k - 1, by omega⟩
    rw [Nat.pow_add, Nat.mul_assoc, Nat.add_mul_div_left _ _ (Nat.pow_pos (by omega)), Nat.pow_succ, Nat.mul_comm (10 ^ m) 10, Nat.mul_assoc]
    omega
  · subst h
    rw [if_neg (by omega), if_pos rfl, Nat.add_mul_div_left _ _ hp, Nat.div_eq_of_lt hlol]
    omega
  · rw [if_neg (by omega), if_neg (by omega)]
    obtain ⟨m, rfl⟩ : ∃ m, k = p + (m + 1) := ⟨k - p - 1, by omega⟩
    rw [Nat.pow_add, ← Nat.div_div_eq_div_mul, Nat.add_mul_div_left _ _ hp, Nat.div_eq_of_lt hlol, Nat.zero_add, Nat.pow_succ, Nat.mul_comm (10 ^ m) 10, ← Nat.div_div_eq_div_mul]
    rw [show (10 * hi + u) / 10 = hi by omega, show p + (m + 1) - p - 1 = m by omega]
 intro k
 rw [hY, gen t ht k]
 by_cases h1 : k = p
 · subst h1; rw [if_neg (by omega), if_pos rfl, if_pos rfl]
 · rw [if_neg h1, if_neg h1]
   have := gen (d10 Z p) (d10_lt Z p) k
   rw [← hZ, if_neg h1] at this
   rw [this]
structure ArrI (w wr : World) (b L Z : Nat) : Prop where
 below : Below w.heap.size w wr
 ge : w.heap.size <= b
 lt : b < wr.heap.size
 free : Free wr b
 row : Cells wr .i64 b 0 L (d10 Z)
theorem ArrI.set {w wr : World} {b L Z Y p t : Nat} (h : ArrI w wr b L Z) (hp : p < L) (ht : t < 10) (he : Y + d10 Z p * 10 ^ p = Z + t * 10 ^ p) (n : Nat) : ArrI w ((wr.drewN n).setCell ⟨b, p, none⟩ (.int .i64 t)) b L Y := by
 have hs := h.row.set (k := p) (x := t) hp
 rw [Nat.zero_add] at hs
 refine ⟨(below_drewN h.below n).setCell h.ge _, h.ge, by simpa using h.lt, (h.free).set _ _, fun j hj => ?_⟩
 have := hs j hj
 rw [set_digit ht he j]
 exact this
end Go.Proofs.YtpdcdebnkbnogaaGreatDoor
namespace Go.Proofs.YtpdcdebnkbnogaaGreatDoor
open Go.RowKit
attribute [local go_sem ↓] Go.wp_at_zero Go.wp_at_succ
def rB (Z : Int) : Bool := decide (Z < 0)
def rS (Z : Int) : ByteArray := str (dec Z.natAbs)
def RTold (w w' : World) (e : Ending) (Z : Int) : Prop := e = .returned (.agg #[.bool (rB Z), .string (rS Z)]) /\ Below w.heap.size w w'
def put2 (y : World) (k : Nat) (x z : Value) : World := (y.setCell ⟨k, 0, none⟩ x).setCell ⟨k, 1, none⟩ z
theorem RTold.fin {w w2 : World} {k : Nat} {Y : Int} {b : Bool} {t : ByteArray} (hb : Below w.heap.size w w2) (hk : w.heap.size <= k) (h1 : rB Y = b) (h2 : rS Y = t) : RTold w (put2 w2 k (.bool b) (.string t)) (.returned (.agg #[.bool b, .string t])) Y :=
 ⟨by rw [h1, h2], (hb.setCell hk _).setCell hk _⟩
theorem rFrom_any (X : Int) (w : World) (h : -9223372036854775808 <= X /\ X <= 9223372036854775807) :
    Calls Tryz.prog 104 #[.int .i64 X] w fun e w' => RTold w w' e X := by
 have BB := Lib.hid ((Bag.start w).box2 (.bool false) (.string ⟨#[]⟩) 145)
 by_cases h0 : X < 0
 · obtain ⟨y, hy⟩ : ∃ y : Nat, (y : Int) = -X := ⟨(-X).toNat, by omega⟩
   obtain ⟨y1, hy1⟩ : ∃ y1 : Nat, (y1 : Int) = -X - 1 := ⟨(-X - 1).toNat, by omega⟩
   obtain ⟨X1, hX1⟩ : ∃ X1, X + 1 = X1 := ⟨_, rfl⟩
   have e2 : 0 - X1 = (y1 : Int) := by omega
   have e3 : (y1 : Int) + 1 = (y : Int) := by omega
   have d0 : decide (X < 0) = true := decide_eq_true h0
   have HB : Hid (rB X = true /\ rS X = str (dec y)) := ⟨by unfold rB; exact d0, by unfold rS; rw [show X.natAbs = y by omega]⟩
   have HO := Lib.hid (fun wz => rof_any y wz (by omega))
   obtain ⟨t, ht⟩ : ∃ t, str (dec y) = t := ⟨_, rfl⟩
   rw [ht] at HO HB
   have hb1 : -9223372036854775807 <= X1 /\ X1 <= 0 := by omega
   have hb3 : (y1 : Int) <= 9223372036854775807 := by omega
   have h' := h.1
   clear hy hy1 ht h
   go_enter Tryz.func104, Tryz.ntmps104
   go_wp2_with fail
   go_at_call 146
   refine (HO.out _).mono ?_
   rintro e w2 ⟨rfl, hb2⟩
   have B2 := BB.out.go hb2
   have hs2 := B2.now.1
   have hc1 := hs2.cell
   have hc2 := hs2.cell1
   have hf1 := hs2.free
   have hf2 := hs2.free1
   have HS := hs2.set (.bool true) (.string t)
   have HE := Lib.hid (RTold.fin B2.below (Nat.le_refl _) HB.out.1 HB.out.2)
   unfold put2 at HE
   clear hb2 B2 hs2
   go_wp2
   exact bodyPost_ret (v := .agg #[.bool true, .string t]) (by simp [results, Tryz.results104, go_sem, HS]) rfl HE.out
 · obtain ⟨y, rfl⟩ : ∃ y : Nat, X = (y : Int) := ⟨X.toNat, by omega⟩
   have d0 : decide ((y : Int) < 0) = false := decide_eq_false h0
   have HB : Hid (rB (y : Int) = false /\ rS (y : Int) = str (dec y)) := ⟨by unfold rB; exact d0, by unfold rS; simp⟩
   have HO := Lib.hid (fun wz => rof_any y wz (by omega))
   obtain ⟨t, ht⟩ : ∃ t, str (dec y) = t := ⟨_, rfl⟩
   rw [ht] at HO HB
   have h' := h.2
   clear ht h
   go_enter Tryz.func104, Tryz.ntmps104
   go_wp2_with fail
   go_at_call 146
   refine (HO.out _).mono ?_
   rintro e w2 ⟨rfl, hb2⟩
   have B2 := BB.out.go hb2
   have hs2 := B2.now.1
   have hc1 := hs2.cell
   have hc2 := hs2.cell1
   have hf1 := hs2.free
   have hf2 := hs2.free1
   have HS := hs2.set (.bool false) (.string t)
   have HE := Lib.hid (RTold.fin B2.below (Nat.le_refl _) HB.out.1 HB.out.2)
   unfold put2 at HE
   clear hb2 B2 hs2
   go_wp2
   exact bodyPost_ret (v := .agg #[.bool false, .string t]) (by simp [results, Tryz.results104, go_sem, HS]) rfl HE.out
def RX (y : World) (k : Nat) : Prop := ∃ x z, Slot2 y k x z
theorem RX.below {w w' : World} {k : Nat} (h : RX w k) (hb : Below w.heap.size w w') : RX w' k := by
 obtain ⟨x, z, h1⟩ := h; exact ⟨x, z, h1.below hb⟩
theorem Slot2.put2s {w : World} {k : Nat} {x z : Value} (h : Slot2 w k x z) (u v : Value) : Slot2 (put2 w k u v) k u v :=
 ⟨(h.set u v).1, (h.set u v).2, by simp [put2, h.free], by simp [put2, h.free1], by simpa [put2] using h.lt⟩
theorem Slot2.put2o {w : World} {k j : Nat} {x z : Value} (h1 : Slot2 w j x z) (e : j ≠ k) (u v : Value) : Slot2 (put2 w k u v) j x z := by
 refine ⟨?_, ?_, by simp [put2, h1.free], by simp [put2, h1.free1], by simpa [put2] using h1.lt⟩
 · unfold put2; rw [World.cell?_setCell_other _ _ _ _ (fun e' => by cases e' <;> exact e rfl), World.cell?_setCell_other _ _ _ _ (fun e' => by cases e' <;> exact e rfl)]; exact h1.cell
 · unfold put2; rw [World.cell?_setCell_other _ _ _ _ (fun e' => by cases e' <;> exact e rfl), World.cell?_setCell_other _ _ _ _ (fun e' => by cases e' <;> exact e rfl)]; exact h1.cell1
theorem RX.put2 {w : World} {k j : Nat} (h : RX w j) (u v : Value) : RX (put2 w k u v) j := by
 obtain ⟨x, z, h1⟩ := h
 by_cases e : j = k
 · subst e; exact ⟨_, _, h1.put2s u v⟩
 · exact ⟨_, _, h1.put2o e u v⟩
theorem Bag.put2 {w0 w : World} {P : World -> Prop} (h : Bag w0 P w) {k : Nat} (hk : w0.heap.size <= k) {u v : Value} (hp : P w -> P (put2 w k u v)) : Bag w0 P (put2 w k u v) :=
 ⟨(h.below.setCell hk _).setCell hk _, h.stay, hp h.now⟩
def BP (k : Nat) (b : Bool) (s : ByteArray) (b2 : Bool) (s2 : ByteArray) (y : World) : Prop := RX y (k + 1 + 1) /\ Slot2 y (k + 1) (.bool b2) (.string s2) /\ Slot2 y k (.bool b) (.string s)
theorem BP.stay {k : Nat} {b : Bool} {s : ByteArray} {b2 : Bool} {s2 : ByteArray} : ∀ x y, Below x.heap.size x y -> BP k b s b2 s2 x -> BP k b s b2 s2 y := fun _ _ hb h => ⟨h.1.below hb, h.2.1.below hb, h.2.2.below hb⟩
theorem BP.put2 {k : Nat} {b : Bool} {s : ByteArray} {b2 : Bool} {s2 : ByteArray} {y : World} (h : BP k b s b2 s2 y) (u v : Value) : BP k b s b2 s2 (put2 y (k + 1 + 1) u v) := ⟨h.1.put2 u v, h.2.1.put2o (by omega) u v, h.2.2.put2o (by omega) u v⟩
theorem BP.start (w : World) (b : Bool) (s : ByteArray) (b2 : Bool) (s2 : ByteArray) : Bag w (BP w.heap.size b s b2 s2) (((w.alloc (.cells #[.bool b, .string s] 145)).alloc (.cells #[.bool b2, .string s2] 145)).alloc (.cells #[.bool false, .string ⟨#[]⟩] 145)) := by
 have B0 := (((Bag.start w).box2 (.bool b) (.string s) 145).box2 (.bool b2) (.string s2) 145).box2 (.bool false) (.string ⟨#[]⟩) 145
 simp only [World.size_alloc] at B0
 exact ⟨B0.below, BP.stay, ⟨_, _, B0.now.1⟩, B0.now.2.1, B0.now.2.2.1⟩
theorem dl_mono {x y : Nat} (h : x <= y) : dl x <= dl y := dl_le _ _ (dl_pos y) (Nat.lt_of_le_of_lt h (dl_lt y))
theorem Slot.set1 {w : World} {k : Nat} {x : Value} (h : Slot w k x) (u : Value) : Slot (w.setCell ⟨k, 0, none⟩ u) k u :=
 ⟨World.cell?_setCell_same _ _ _ h.cell, by simp [h.free], by simpa using h.lt⟩
theorem Slot.other {w : World} {k j : Nat} {x : Value} (h : Slot w j x) (u : Value) (hj : j ≠ k) : Slot (w.setCell ⟨k, 0, none⟩ u) j x :=
 ⟨by rw [World.cell?_setCell_other _ _ _ _ (fun e' => by cases e' <;> exact hj rfl)]; exact h.cell, by simp [h.free], by simpa using h.lt⟩
theorem Slot2.other {w : World} {k j : Nat} {x z : Value} (h : Slot2 w j x z) (u : Value) (hj : j ≠ k) : Slot2 (w.setCell ⟨k, 0, none⟩ u) j x z :=
 ⟨by rw [World.cell?_setCell_other _ _ _ _ (fun e' => by cases e' <;> exact hj rfl)]; exact h.cell, by rw [World.cell?_setCell_other _ _ _ _ (fun e' => by cases e' <;> exact hj rfl)]; exact h.cell1, by simp [h.free], by simp [h.free1], by simpa using h.lt⟩
theorem RS.other {w : World} {k j : Nat} (h : RS w j) (u : Value) (hj : j ≠ k) : RS (w.setCell ⟨k, 0, none⟩ u) j := by
 obtain ⟨x, b, h1, h2⟩ := h; exact ⟨x, b, h1.other u hj, h2⟩
theorem FP.set1 {k j : Nat} {a : Option Addr} {n c : Nat} {m : Bool} {Z : Int} {a2 : Option Addr} {n2 c2 : Nat} {m2 : Bool} {Y : Int} {y : World} (h : FP k a n c m Z a2 n2 c2 m2 Y y) {a3 : Option Addr} {n3 c3 : Nat} (hj : y.cell? ⟨j, 0, none⟩ = some (.slice a3 n3 c3)) (hk : k + 3 < j) (u : Value) : FP k a n c m Z a2 n2 c2 m2 Y (y.setCell ⟨j, 0, none⟩ u) :=
 ⟨h.1.other u (by omega), h.2.1.other u (by omega), h.2.2.1.other u (by omega), h.2.2.2.1.other u (by omega), ⟨h.2.2.2.2.1.1, h.2.2.2.2.1.2.storeAt hj (fun _ _ h => by cases h) u⟩, ⟨h.2.2.2.2.2.1, h.2.2.2.2.2.2.storeAt hj (fun _ _ h => by cases h) u⟩⟩
theorem Bag.drewT {w0 w : World} {P : World -> Prop} (h : Bag w0 P w) : Bag w0 P w.drew := h.drew
theorem floor_odd (a : Option Addr) (n c : Nat) (m : Bool) (Z : Int) (a2 : Option Addr) (n2 c2 : Nat) (m2 : Bool) (Y : Int) (w : World) (h : IntAt w a n c m Z) (g : IntAt w a2 n2 c2 m2 Y) (K : Nat) (hK : K <= 800000) (hZ : Z.natAbs < 4294967296 ^ K) (hY : Y ≠ 0)
    (hap : (m != m2) = true) (hr0 : Z.natAbs % Y.natAbs ≠ 0) :
    Calls Tryz.prog 193 #[.agg #[.slice a n c, .bool m], .agg #[.slice a2 n2 c2, .bool m2]] w fun e w' => FloorTold w w' e (flQ Z Y) (flR Z Y) := by
 have hfu : flA Z Y = true /\ flQ Z Y = sgn true (Z.natAbs / Y.natAbs + 1) /\ flR Z Y = sgn m2 (Y.natAbs - Z.natAbs % Y.natAbs) := by
  have e1 : flA Z Y = true := by unfold flA; rw [← h.1, ← g.1]; exact hap
  refine ⟨e1, ?_, ?_⟩
  · unfold flQ flU; rw [e1]; simp [hr0]
  · unfold flR flU; rw [e1, ← g.1]; simp [hr0]
 obtain ⟨_, hfq, hfr⟩ := hfu
 have BB := Lib.hid (FP.start h g)
 have q0 := BB.out.now.2.2.2.1.cell
 have q1 := BB.out.now.2.2.2.1.cell1
 have q2 := BB.out.now.2.2.1.cell
 have q3 := BB.out.now.2.2.1.cell1
 have N1 : Hid (∀ wz, FP w.heap.size a n c m Z a2 n2 c2 m2 Y wz -> Calls Tryz.prog 127 #[.agg #[.slice a n c, .bool m]] wz fun e w' => e = .returned (.bool m) /\ Below wz.heap.size wz w') := fun wz hz => neg_any a n c m Z wz hz.2.2.2.2.2
 have N2 : Hid (∀ wz, FP w.heap.size a n c m Z a2 n2 c2 m2 Y wz -> Calls Tryz.prog 127 #[.agg #[.slice a2 n2 c2, .bool m2]] wz fun e w' => e = .returned (.bool m2) /\ Below wz.heap.size wz w') := fun wz hz => neg_any a2 n2 c2 m2 Y wz hz.2.2.2.2.1
 have DM : Hid (∀ wz, FP w.heap.size a n c m Z a2 n2 c2 m2 Y wz -> Calls Tryz.prog 133 #[.agg #[.slice a n c], .agg #[.slice a2 n2 c2]] wz fun e w' => DivOf3 wz w' e (Z.natAbs / Y.natAbs) (Z.natAbs % Y.natAbs) true) := fun wz hz => (divMod_any _ _ _ _ wz hz.2.2.2.2.2.2 hz.2.2.2.2.1.2 K (by omega) hZ).mono fun _ _ h => by
  have := h.three (b := true) (by simp; omega)
  unfold modz at this
  rw [if_neg (by omega)] at this
  exact this
 have OF1 : Hid (∀ a3 n3 c3 wz, NatIs wz (.agg #[.slice a3 n3 c3]) (Z.natAbs / Y.natAbs + 1) -> Calls Tryz.prog 103 #[.bool true, .agg #[.slice a3 n3 c3]] wz fun e w' => IntTold wz w' e (flQ Z Y)) := by
  intro a3 n3 c3 wz hi
  have := wof_any true a3 n3 c3 _ wz hi
  rw [← hfq] at this; exact this
 have OF2 : Hid (∀ a3 n3 c3 wz, NatIs wz (.agg #[.slice a3 n3 c3]) (Y.natAbs - Z.natAbs % Y.natAbs) -> Calls Tryz.prog 103 #[.bool m2, .agg #[.slice a3 n3 c3]] wz fun e w' => IntTold wz w' e (flR Z Y)) := by
  intro a3 n3 c3 wz hi
  have := wof_any m2 a3 n3 c3 _ wz hi
  rw [← hfr] at this; exact this
 obtain ⟨N, hN⟩ : ∃ N, Z.natAbs = N := ⟨_, rfl⟩
 obtain ⟨M, hM⟩ : ∃ M, Y.natAbs = M := ⟨_, rfl⟩
 have hM0 : 0 < M := by omega
 have hgM := g.1
 have hNK : N < 4294967296 ^ K := by omega
 have SB : Hid (∀ a3 n3 c3 wz, FP w.heap.size a n c m Z a2 n2 c2 m2 Y wz -> NatIs wz (.agg #[.slice a3 n3 c3]) (N % M) -> Calls Tryz.prog 202 #[.agg #[.slice a2 n2 c2], .agg #[.slice a3 n3 c3]] wz fun e w' => SubOf3 wz w' e (M - N % M) true) := fun a3 n3 c3 wz hz hi => (sub_any _ _ M (N % M) wz (by rw [← hM]; exact hz.2.2.2.2.1.2) hi).mono fun _ _ h => h.three (decide_eq_true (Nat.le_of_lt (Nat.mod_lt N hM0)))
 have AD : Hid (∀ a3 n3 c3 a4 n4 c4 wz, NatIs wz (.agg #[.slice a3 n3 c3]) (N / M) -> NatIs wz (.agg #[.slice a4 n4 c4]) 1 -> Calls Tryz.prog 145 #[.agg #[.slice a3 n3 c3], .agg #[.slice a4 n4 c4]] wz fun e w' => NatOf3 wz w' e (N / M + 1)) := fun a3 n3 c3 a4 n4 c4 wz hi hj => (add_any _ _ _ _ wz hi hj (K + 1) (by omega) (by
     have := Nat.div_le_self N M
     have h2 := pow_mono32 (show K <= K + 1 by omega)
     omega) (by
     have := pow_mono32 (show 1 <= K + 1 by omega)
     rw [Nat.pow_one] at this
     omega)).mono fun _ _ h => h.three
 rw [hN, hM] at DM OF1 OF2
 have hd : (m == m2) = false := by simpa using hap
 have ZR : Hid (∀ a3 n3 c3 wz, NatIs wz (.agg #[.slice a3 n3 c3]) (N % M) -> Calls Tryz.prog 102 #[.agg #[.slice a3 n3 c3]] wz fun e w' => e = .returned (.bool false) /\ Below wz.heap.size wz w') := by
  intro a3 n3 c3 wz hi
  have h1 := zero_any _ _ wz hi
  rw [show decide (N % M = 0) = false from by rw [← hN, ← hM]; exact decide_eq_false hr0] at h1
  exact h1
 clear hr0
 clear h g hZ hY hfq hfr hap hN hM hgM hNK hM0
 go_enter Tryz.func193, Tryz.ntmps193
 go_wp2_with fail
 go_at_call 133
 (with_reducible refine (DM.out _ BB.out.now).mono ?_)
 rintro e w4 ⟨aq, nq, cq, ar, nr, cr, rfl, hi3, hi4, hb4⟩
 have hk4 : w.heap.size + 1 + 1 + 1 < w4.heap.size := RS.lt (BB.out.go hb4).now.2.1
 have BQ := ((((BB.out.go hb4).nat hi4).nat hi3).box (.slice aq nq cq) 49).box (.slice ar nr cr) 49
 rw [World.size_alloc] at BQ
 have BB : Hid (Bag w (fun y => Slot y w4.heap.size (.slice aq nq cq) /\ NatIs y (.agg #[.slice aq nq cq]) (N / M) /\ Slot y (w4.heap.size + 1) (.slice ar nr cr) /\ NatIs y (.agg #[.slice ar nr cr]) (N % M) /\ FP w.heap.size a n c m Z a2 n2 c2 m2 Y y) _) := ⟨BQ.below, fun x y hb h => ⟨h.1.below hb, h.2.1.below hb, h.2.2.1.below hb, h.2.2.2.1.below hb, FP.stay x y hb h.2.2.2.2⟩, BQ.now.2.1, BQ.now.2.2.1, BQ.now.1, BQ.now.2.2.2.1, BQ.now.2.2.2.2⟩
 clear hb4 hi3 hi4 q0 q1 q2 q3 BQ
 go_wp2_with fail
 go_region_held3 (fun y => (y.cell? ⟨w.heap.size, 0, none⟩ = some (.slice a n c) /\ y.cell? ⟨w.heap.size, 1, none⟩ = some (.bool m) /\ y.cell? ⟨w.heap.size + 1, 0, none⟩ = some (.slice a2 n2 c2) /\ y.cell? ⟨w.heap.size + 1, 1, none⟩ = some (.bool m2)) /\ Bag w (fun y => Slot y w4.heap.size (.slice aq nq cq) /\ NatIs y (.agg #[.slice aq nq cq]) (N / M) /\ Slot y (w4.heap.size + 1) (.slice ar nr cr) /\ NatIs y (.agg #[.slice ar nr cr]) (N % M) /\ FP w.heap.size a n c m Z a2 n2 c2 m2 Y y) y)
  (first | (have B9 := BB.out.drew; exact ⟨⟨B9.now.2.2.2.2.2.2.2.1.cell, B9.now.2.2.2.2.2.2.2.1.cell1, B9.now.2.2.2.2.2.2.1.cell, B9.now.2.2.2.2.2.2.1.cell1⟩, B9⟩) | (have B9 := Bag.go (show Bag w (fun y => Slot y w4.heap.size (.slice aq nq cq) /\ NatIs y (.agg #[.slice aq nq cq]) (N / M) /\ Slot y (w4.heap.size + 1) (.slice ar nr cr) /\ NatIs y (.agg #[.slice ar nr cr]) (N % M) /\ FP w.heap.size a n c m Z a2 n2 c2 m2 Y y) _ from by go_split_ands; assumption) hb2; exact ⟨⟨B9.now.2.2.2.2.2.2.2.1.cell, B9.now.2.2.2.2.2.2.2.1.cell1, B9.now.2.2.2.2.2.2.1.cell, B9.now.2.2.2.2.2.2.1.cell1⟩, B9⟩))
  (first
    | (go_at_call 127; (with_reducible refine (N1.out _ ?_).mono ?_); exact (show Bag w (fun y => Slot y w4.heap.size (.slice aq nq cq) /\ NatIs y (.agg #[.slice aq nq cq]) (N / M) /\ Slot y (w4.heap.size + 1) (.slice ar nr cr) /\ NatIs y (.agg #[.slice ar nr cr]) (N % M) /\ FP w.heap.size a n c m Z a2 n2 c2 m2 Y y) _ from by go_split_ands; assumption).now.2.2.2.2; rintro e w2 ⟨rfl, hb2⟩)
    | (go_at_call 127; (with_reducible refine (N2.out _ ?_).mono ?_); exact (show Bag w (fun y => Slot y w4.heap.size (.slice aq nq cq) /\ NatIs y (.agg #[.slice aq nq cq]) (N / M) /\ Slot y (w4.heap.size + 1) (.slice ar nr cr) /\ NatIs y (.agg #[.slice ar nr cr]) (N % M) /\ FP w.heap.size a n c m Z a2 n2 c2 m2 Y y) _ from by go_split_ands; assumption).now.2.2.2.2; rintro e w2 ⟨rfl, hb2⟩))
 have BB := Lib.hid (show Bag w (fun y => Slot y w4.heap.size (.slice aq nq cq) /\ NatIs y (.agg #[.slice aq nq cq]) (N / M) /\ Slot y (w4.heap.size + 1) (.slice ar nr cr) /\ NatIs y (.agg #[.slice ar nr cr]) (N % M) /\ FP w.heap.size a n c m Z a2 n2 c2 m2 Y y) _ from by go_split_ands; assumption)
 have q5 := BB.out.now.2.2.1.cell
 go_wp2_with fail
 go_at_call 102
 (with_reducible refine (ZR.out ar nr cr _ BB.out.now.2.2.2.1).mono ?_)
 rintro e w6 ⟨rfl, hb6⟩
 have BB := Lib.hid (BB.out.go hb6)
 clear hb6 q5
 have q5 := BB.out.now.1.cell
 go_wp2_with fail
 go_region_with (first
  | (go_at_call 126; refine (of_pl2 1 _ (by omega)).mono ?_; rintro e w2 ⟨a8, n8, c8, rfl, hi8, hb2⟩; have BB := Lib.hid (Bag.go (BB.out.drewT) hb2); have q5 := BB.out.now.1.cell; clear hb2)
  | (go_at_call 145; (with_reducible refine (AD.out aq nq cq a8 n8 c8 _ BB.out.now.2.1 hi8).mono ?_); rintro e w2 ⟨a9, n9, c9, rfl, hi9, hb2⟩; have B7 := BB.out.go hb2; have hc := B7.now.1.cell; have hf := B7.now.1.free; have B8 : Hid (Bag w (fun y => Slot y w4.heap.size (.slice a9 n9 c9) /\ NatIs y (.agg #[.slice a9 n9 c9]) (N / M + 1) /\ Slot y (w4.heap.size + 1) (.slice ar nr cr) /\ NatIs y (.agg #[.slice ar nr cr]) (N % M) /\ FP w.heap.size a n c m Z a2 n2 c2 m2 Y y) (w2.setCell ⟨w4.heap.size, 0, none⟩ (.slice a9 n9 c9))) := ⟨B7.below.setCell (show w.heap.size <= w4.heap.size by omega) _, fun x y hb h => ⟨h.1.below hb, h.2.1.below hb, h.2.2.1.below hb, h.2.2.2.1.below hb, FP.stay x y hb h.2.2.2.2⟩, B7.now.1.set1 _, hi9.storeAt hc (fun _ _ h => by cases h) _, B7.now.2.2.1.other _ (by omega), B7.now.2.2.2.1.storeAt hc (fun _ _ h => by cases h) _, B7.now.2.2.2.2.set1 hc (by omega) _⟩; clear B7 hb2))
 all_goals
  have q5 := B8.out.now.2.2.1.cell
  have q6 := B8.out.now.2.2.2.2.2.2.1.cell
  go_wp2_with fail
  go_at_call 202
  (with_reducible refine (SB.out ar nr cr _ B8.out.now.2.2.2.2 B8.out.now.2.2.2.1).mono ?_)
  rintro e w7 ⟨a10, n10, c10, rfl, hi10, hb7⟩
  have B7 := B8.out.go hb7
  have hc := B7.now.2.2.1.cell
  have hf := B7.now.2.2.1.free
  have BB : Hid (Bag w (fun y => Slot y w4.heap.size (.slice a9 n9 c9) /\ NatIs y (.agg #[.slice a9 n9 c9]) (N / M + 1) /\ Slot y (w4.heap.size + 1) (.slice a10 n10 c10) /\ NatIs y (.agg #[.slice a10 n10 c10]) (M - N % M) /\ FP w.heap.size a n c m Z a2 n2 c2 m2 Y y) (w7.setCell ⟨w4.heap.size + 1, 0, none⟩ (.slice a10 n10 c10))) := ⟨B7.below.setCell (show w.heap.size <= w4.heap.size + 1 by omega) _, fun x y hb h => ⟨h.1.below hb, h.2.1.below hb, h.2.2.1.below hb, h.2.2.2.1.below hb, FP.stay x y hb h.2.2.2.2⟩, B7.now.1.other _ (by omega), B7.now.2.1.storeAt hc (fun _ _ h => by cases h) _, B7.now.2.2.1.set1 _, hi10.storeAt hc (fun _ _ h => by cases h) _, B7.now.2.2.2.2.set1 hc (by omega) _⟩
  clear B7 hb7 hi10 q5 q6
  go_wp2_with fail
  go_region_held3 (fun y => (y.cell? ⟨w4.heap.size, 0, none⟩ = some (.slice a9 n9 c9) /\ y.cell? ⟨w4.heap.size + 1, 0, none⟩ = some (.slice a10 n10 c10) /\ y.cell? ⟨w.heap.size + 1, 0, none⟩ = some (.slice a2 n2 c2) /\ y.cell? ⟨w.heap.size + 1, 1, none⟩ = some (.bool m2)) /\ Bag w (fun y => Slot y w4.heap.size (.slice a9 n9 c9) /\ NatIs y (.agg #[.slice a9 n9 c9]) (N / M + 1) /\ Slot y (w4.heap.size + 1) (.slice a10 n10 c10) /\ NatIs y (.agg #[.slice a10 n10 c10]) (M - N % M) /\ FP w.heap.size a n c m Z a2 n2 c2 m2 Y y) y)
   (first
     | (have B9 := BB.out.drew; exact ⟨⟨B9.now.1.cell, B9.now.2.2.1.cell, B9.now.2.2.2.2.2.2.1.cell, B9.now.2.2.2.2.2.2.1.cell1⟩, B9⟩)
     | (have B9 := Bag.go (show Bag w (fun y => Slot y w4.heap.size (.slice a9 n9 c9) /\ NatIs y (.agg #[.slice a9 n9 c9]) (N / M + 1) /\ Slot y (w4.heap.size + 1) (.slice a10 n10 c10) /\ NatIs y (.agg #[.slice a10 n10 c10]) (M - N % M) /\ FP w.heap.size a n c m Z a2 n2 c2 m2 Y y) _ from by go_split_ands; assumption) hb2; exact ⟨⟨B9.now.1.cell, B9.now.2.2.1.cell, B9.now.2.2.2.2.2.2.1.cell, B9.now.2.2.2.2.2.2.1.cell1⟩, B9⟩)
     | (have B9 := Bag.put (show Bag w (fun y => Slot y w4.heap.size (.slice a9 n9 c9) /\ NatIs y (.agg #[.slice a9 n9 c9]) (N / M + 1) /\ Slot y (w4.heap.size + 1) (.slice a10 n10 c10) /\ NatIs y (.agg #[.slice a10 n10 c10]) (M - N % M) /\ FP w.heap.size a n c m Z a2 n2 c2 m2 Y y) _ from by go_split_ands; assumption) (k := w.heap.size + 1 + 1) (a := a5) (n := n5) (c := c5) (b := m5) (by omega) (fun h => ⟨h.1.put (by omega) _ _ _ _, h.2.1.put h.2.2.2.2.1 _ _ _ _, h.2.2.1.put (by omega) _ _ _ _, h.2.2.2.1.put h.2.2.2.2.1 _ _ _ _, h.2.2.2.2.put h.2.2.2.2.1 (by omega) (by omega) _ _ _ _⟩); exact ⟨⟨B9.now.1.cell, B9.now.2.2.1.cell, B9.now.2.2.2.2.2.2.1.cell, B9.now.2.2.2.2.2.2.1.cell1⟩, B9⟩)
     | (have B9 := Bag.put (show Bag w (fun y => Slot y w4.heap.size (.slice a9 n9 c9) /\ NatIs y (.agg #[.slice a9 n9 c9]) (N / M + 1) /\ Slot y (w4.heap.size + 1) (.slice a10 n10 c10) /\ NatIs y (.agg #[.slice a10 n10 c10]) (M - N % M) /\ FP w.heap.size a n c m Z a2 n2 c2 m2 Y y) _ from by go_split_ands; assumption) (k := w.heap.size + 1 + 1 + 1) (a := a6) (n := n6) (c := c6) (b := m6) (by omega) (fun h => ⟨h.1.put (by omega) _ _ _ _, h.2.1.put h.2.2.2.2.2.1 _ _ _ _, h.2.2.1.put (by omega) _ _ _ _, h.2.2.2.1.put h.2.2.2.2.2.1 _ _ _ _, h.2.2.2.2.put h.2.2.2.2.2.1 (by omega) (by omega) _ _ _ _⟩); exact ⟨⟨B9.now.1.cell, B9.now.2.2.1.cell, B9.now.2.2.2.2.2.2.1.cell, B9.now.2.2.2.2.2.2.1.cell1⟩, B9⟩))
   (first
     | (go_at_call 103; (with_reducible refine (OF1.out a9 n9 c9 _ ?_).mono ?_); exact (show Bag w (fun y => Slot y w4.heap.size (.slice a9 n9 c9) /\ NatIs y (.agg #[.slice a9 n9 c9]) (N / M + 1) /\ Slot y (w4.heap.size + 1) (.slice a10 n10 c10) /\ NatIs y (.agg #[.slice a10 n10 c10]) (M - N % M) /\ FP w.heap.size a n c m Z a2 n2 c2 m2 Y y) _ from by go_split_ands; assumption).now.2.1; rintro e w2 ⟨a5, n5, c5, m5, rfl, hi5, hb2⟩)
     | (go_at_call 127; (with_reducible refine (N2.out _ ?_).mono ?_); exact (show Bag w (fun y => Slot y w4.heap.size (.slice a9 n9 c9) /\ NatIs y (.agg #[.slice a9 n9 c9]) (N / M + 1) /\ Slot y (w4.heap.size + 1) (.slice a10 n10 c10) /\ NatIs y (.agg #[.slice a10 n10 c10]) (M - N % M) /\ FP w.heap.size a n c m Z a2 n2 c2 m2 Y y) _ from by go_split_ands; assumption).now.2.2.2.2; rintro e w2 ⟨rfl, hb2⟩; have hi5 := hi5.below hb2)
     | (go_at_call 103; (with_reducible refine (OF2.out a10 n10 c10 _ ?_).mono ?_); exact (show Bag w (fun y => Slot y w4.heap.size (.slice a9 n9 c9) /\ NatIs y (.agg #[.slice a9 n9 c9]) (N / M + 1) /\ Slot y (w4.heap.size + 1) (.slice a10 n10 c10) /\ NatIs y (.agg #[.slice a10 n10 c10]) (M - N % M) /\ FP w.heap.size a n c m Z a2 n2 c2 m2 Y y) _ from by go_split_ands; assumption).now.2.2.2.1; rintro e w2 ⟨a6, n6, c6, m6, rfl, hi6, hb2⟩; have hi5 := hi5.below hb2;
         have B7 := Bag.go (show Bag w (fun y => Slot y w4.heap.size (.slice a9 n9 c9) /\ NatIs y (.agg #[.slice a9 n9 c9]) (N / M + 1) /\ Slot y (w4.heap.size + 1) (.slice a10 n10 c10) /\ NatIs y (.agg #[.slice a10 n10 c10]) (M - N % M) /\ FP w.heap.size a n c m Z a2 n2 c2 m2 Y y) _ from by go_split_ands; assumption) hb2;
         obtain ⟨x8, b8, hs8, _⟩ := B7.now.2.2.2.2.1;
         obtain ⟨x9, b9, hs9, _⟩ := B7.now.2.2.2.2.2.1;
         have hc1 := hs8.cell; have hc2 := hs8.cell1; have hc3 := hs9.cell; have hc4 := hs9.cell1; have hf1 := hs8.free; have hf2 := hs8.free1; have hf3 := hs9.free; have hf4 := hs9.free1;
         have HA := Slot2.put (B7.now.2.2.2.2.1.slotted a5 n5 c5 m5) (show w.heap.size + 1 + 1 ≠ w.heap.size + 1 + 1 + 1 by omega) a6 n6 c6 m6;
         have HB := (B7.now.2.2.2.2.2.1.put (k := w.heap.size + 1 + 1) a5 n5 c5 m5).slotted a6 n6 c6 m6;
         have e1 := HA.cell; have e2 := HA.cell1; have e3 := HB.cell; have e4 := HB.cell1;
         have HE : Hid (FloorTold w (putI (putI w2 (w.heap.size + 1 + 1) a5 n5 c5 m5) (w.heap.size + 1 + 1 + 1) a6 n6 c6 m6) (.returned (.tuple #[.agg #[.slice a5 n5 c5, .bool m5], .agg #[.slice a6 n6 c6, .bool m6], .bool true])) (flQ Z Y) (flR Z Y)) := ⟨a5, n5, c5, m5, a6, n6, c6, m6, rfl, (hi5.put B7.now.2.2.2.2.1 _ _ _ _).put (B7.now.2.2.2.2.2.1.put (k := w.heap.size + 1 + 1) a5 n5 c5 m5) _ _ _ _, (hi6.put B7.now.2.2.2.2.1 _ _ _ _).put (B7.now.2.2.2.2.2.1.put (k := w.heap.size + 1 + 1) a5 n5 c5 m5) _ _ _ _, (((B7.below.setCell (show w.heap.size <= w.heap.size + 1 + 1 by omega) _).setCell (show w.heap.size <= w.heap.size + 1 + 1 by omega) _).setCell (show w.heap.size <= w.heap.size + 1 + 1 + 1 by omega) _).setCell (show w.heap.size <= w.heap.size + 1 + 1 + 1 by omega) _⟩;
         unfold putI at HE e1 e2 e3 e4; clear hs8 hs9 HA HB B7))
  all_goals
   go_wp2
   exact bodyPost_ret (v := .tuple #[.agg #[.slice a5 n5 c5, .bool m5], .agg #[.slice a6 n6 c6, .bool m6], .bool true]) (by simp [results, Tryz.results193, go_sem, e1, e2, e3, e4]) rfl HE.out
end Go.Proofs.YtpdcdebnkbnogaaGreatDoor
namespace Go.Proofs.YtpdcdebnkbnogaaGreatDoor
open Go.RowKit
def readN (w : World) (k : Nat) : Nat :=
 match w.cell? ⟨k, 0, none⟩ with
 | some (.slice (some ad) n _) => val (fun j => match w.cell? ⟨ad.block, ad.off + j, none⟩ with
  | some (.int _ x) => x.toNat
  | _ => 0) n
 | _ => 0
theorem readN_is {w : World} {k : Nat} {a : Option Addr} {n c N : Nat} (hs : Slot w k (.slice a n c)) (h : NatIs w (.agg #[.slice a n c]) N) : readN w k = N := by
 obtain ⟨a', n', c', f, e, ⟨h1, h2, h3, h4⟩, hv, ht⟩ := h
 cases e
 unfold readN
 rw [hs.cell]
 rcases h4 with ⟨rfl, hc⟩ | ⟨b, off, rfl, hb, hcc⟩
 · have hn : n = 0 := by omega
   subst hn
   simp only []
   rw [← hv]; rfl
 · simp only []
   rw [← hv]
   refine val_congr n (fun j hj => ?_)
   rw [hcc j hj]
   simp
def GI (w wr : World) (A B : Nat) : Prop := Below w.heap.size w wr /\ ∃ a n c a2 n2 c2, Slot wr w.heap.size (.slice a n c) /\ NatIs wr (.agg #[.slice a n c]) A /\ Slot wr (w.heap.size + 1) (.slice a2 n2 c2) /\ NatIs wr (.agg #[.slice a2 n2 c2]) B /\ Slot wr (w.heap.size + 1 + 1) (.slice none 0 0)
theorem gcd_any (a0 : Option Addr) (n0 c0 : Nat) (b0 : Option Addr) (m0 d0 : Nat) (X Y : Nat) (w : World) (h : NatIs w (.agg #[.slice a0 n0 c0]) X) (g : NatIs w (.agg #[.slice b0 m0 d0]) Y)
    (K : Nat) (hK : K <= 900000) (hX : X < 4294967296 ^ K) (hY : Y < 4294967296 ^ K) :
    Calls Tryz.prog 132 #[.agg #[.slice a0 n0 c0], .agg #[.slice b0 m0 d0]] w fun e w' => NatOf3 w w' e (Nat.gcd X Y) := by
 have B0 := ((((Bag.start w).nat h).nat g).box (.slice a0 n0 c0) 49).box (.slice b0 m0 d0) 49 |>.box (.slice none 0 0) 49
 simp only [World.size_alloc] at B0
 have H0 : Hid (GI w _ X Y) := ⟨B0.below, a0, n0, c0, b0, m0, d0, B0.now.2.2.1, B0.now.2.2.2.2.1, B0.now.2.1, B0.now.2.2.2.1, B0.now.1⟩
 have HXY : Hid (X < 4294967296 ^ K /\ Y < 4294967296 ^ K) := ⟨hX, hY⟩
 clear B0 h g hX hY
 go_enter Tryz.func132, Tryz.ntmps132
 go_wp2
 go_loopw [] (fun wr => ∃ A B : Nat, GI w wr A B /\ Hid (Nat.gcd A B = Nat.gcd X Y /\ A < 4294967296 ^ K /\ B < 4294967296 ^ K)) (fun wr => readN wr (w.heap.size + 1))
 case atStart => exact ⟨X, Y, H0.out, rfl, HXY.out.1, HXY.out.2⟩
 case round =>
  obtain ⟨A, B, ⟨hbl, a, n, c, a2, n2, c2, s1, i1, s2, i2, s3⟩, hh⟩ := hrel
  by_cases h0 : B = 0
  · have HZ := Lib.hid (zero_any _ B wr i2)
    rw [decide_eq_true h0] at HZ
    have hAg : A = Nat.gcd X Y := by have := hh.out.1; rw [h0, Nat.gcd_zero_right] at this; exact this
    subst hAg
    have BB := Lib.hid ((((((⟨hbl, fun _ _ _ _ => trivial, trivial⟩ : Bag w (fun _ => True) wr).slot s3).slot s2).slot s1).nat i1))
    have q2 := s2.cell
    clear h0 s1 s2 s3 i1 i2 hbl hh
    go_wp2_with fail
    go_at_call 102
    (with_reducible refine HZ.out.mono ?_)
    rintro e w1 ⟨rfl, hb1⟩
    have B1 := BB.out.go hb1
    have BB := Lib.hid B1
    obtain ⟨_, _, _, f, he, hs, hv, ht⟩ := B1.now.1
    cases he
    have hnl := NatIs.len hs
    have HS := Lib.hid hs
    have HV := Lib.hid hv
    clear hb1 B1 hs hv ht q2
    have q1 := BB.out.now.2.1.cell
    go_wp2_with fail
    go_at_call 121
    refine (copied_own a n c f n w1 HS.out (Nat.le_refl _) hnl).mono ?_
    rintro e w2 ⟨b, rfl, ho, hb2⟩
    have hbb : w.heap.size + 1 + 1 < b := Nat.lt_of_lt_of_le BB.out.now.2.2.2.1.lt ho.ge
    have BB := Lib.hid (BB.out.go hb2)
    obtain ⟨gg, hg, hgv⟩ := ho.slAt hnl
    have HG := Lib.hid hg
    have HGV := Lib.hid (hgv.trans HV.out)
    clear ho hb2 hg hgv q1
    go_wp2_with fail
    go_at_call 123
    refine (trimmed_pl _ n n gg w2 HG.out).mono ?_
    rintro e w3 ⟨a3, n3, c3, f3, rfl, hs3, hv3, ht3, hp3, hb3⟩
    have B3 := BB.out.go hb3
    have hc4 := B3.now.2.2.2.1.cell
    have hf4 := B3.now.2.2.2.1.free
    have HE := Lib.hid (natOut_store (u := .slice a3 n3 c3) (k := w.heap.size + 1 + 1) B3.below (by omega) hs3 (hv3.trans HGV.out) ht3 (by rintro x rfl; rcases hp3 with h | h <;> cases h; simp; omega)).three
    clear hs3 hv3 ht3 hb3 hp3 B3
    go_wp2
    exact bodyPost_ret (v := .agg #[.slice a3 n3 c3]) (by simp [results, Tryz.results132, go_sem, hc4]) rfl HE.out
  · have HZ := Lib.hid (zero_any _ B wr i2)
    rw [decide_eq_false h0] at HZ
    have DM : Hid (∀ wz, NatIs wz (.agg #[.slice a n c]) A -> NatIs wz (.agg #[.slice a2 n2 c2]) B -> Calls Tryz.prog 133 #[.agg #[.slice a n c], .agg #[.slice a2 n2 c2]] wz fun e w' => DivOf3 wz w' e (A / B) (A % B) true) := fun wz h g => (divMod_any _ _ _ _ wz h g K hK hh.out.2.1).mono fun _ _ h => by
     have := h.three (b := true) (by simp; exact h0)
     unfold modz at this
     rw [if_neg h0] at this
     exact this
    have hlt : A % B < B := Nat.mod_lt _ (Nat.pos_of_ne_zero h0)
    have HH : Hid (Nat.gcd B (A % B) = Nat.gcd X Y /\ B < 4294967296 ^ K /\ A % B < 4294967296 ^ K) := ⟨by rw [Nat.gcd_comm B, ← Nat.gcd_rec, Nat.gcd_comm]; exact hh.out.1, hh.out.2.2, by have := hh.out.2.2; omega⟩
    have HR : Hid (readN wr (w.heap.size + 1) = B) := readN_is s2 i2
    have HL := Lib.hid hlt
    have BB := Lib.hid ((((((⟨hbl, fun _ _ _ _ => trivial, trivial⟩ : Bag w (fun _ => True) wr).slot s3).slot s2).slot s1).nat i2).nat i1)
    have q2 := s2.cell
    clear h0 s1 s2 s3 i1 i2 hbl hh hlt
    go_wp2_with fail
    go_at_call 102
    (with_reducible refine HZ.out.mono ?_)
    rintro e w1 ⟨rfl, hb1⟩
    have BB := Lib.hid (BB.out.go hb1)
    clear hb1 q2
    have q1 := BB.out.now.2.2.1.cell
    have q2 := BB.out.now.2.2.2.1.cell
    go_wp2_with fail
    go_at_call 133
    (with_reducible refine (DM.out _ BB.out.now.1 BB.out.now.2.1).mono ?_)
    rintro e w2 ⟨aq, nq, cq, ar, nr, cr, rfl, hiq, hir, hb2⟩
    have hks : w.heap.size + 1 + 1 < w2.heap.size := (BB.out.go hb2).now.2.2.2.2.1.lt
    have B2 := (((BB.out.go hb2).nat hir).box (.slice aq nq cq) 49).box (.slice ar nr cr) 49
    rw [World.size_alloc] at B2
    clear hiq hir hb2 q1 q2
    obtain ⟨t6, t5, ir, ia, ib, t1, t2, t3, _⟩ := B2.now
    have c1 := t1.cell
    have f1 := t1.free
    have c2' := t2.cell
    have f2 := t2.free
    have c6 := t6.cell
    have HN : Hid (GI w (((((w2.alloc (.cells #[.slice aq nq cq] 49)).alloc (.cells #[.slice ar nr cr] 49)).setCell ⟨w.heap.size, 0, none⟩ (.slice a2 n2 c2)).setCell ⟨w.heap.size + 1, 0, none⟩ (.slice ar nr cr)).drew) B (A % B)) := by
     have u1 := t1.set1 (.slice a2 n2 c2)
     have u2 := t2.other (k := w.heap.size) (.slice a2 n2 c2) (by omega)
     have u3 := t3.other (k := w.heap.size) (.slice a2 n2 c2) (by omega)
     have jb := ib.storeAt t1.cell (fun _ _ h => by cases h) (.slice a2 n2 c2)
     have jr := ir.storeAt t1.cell (fun _ _ h => by cases h) (.slice a2 n2 c2)
     exact ⟨((B2.below.setCell (Nat.le_refl _) _).setCell (show w.heap.size <= w.heap.size + 1 by omega) _).drew, a2, n2, c2, ar, nr, cr, (u1.other (k := w.heap.size + 1) (.slice ar nr cr) (by omega)).below (Below.refl _ _).drew, (jb.storeAt u2.cell (fun _ _ h => by cases h) _).below (Below.refl _ _).drew, (u2.set1 (.slice ar nr cr)).below (Below.refl _ _).drew, (jr.storeAt u2.cell (fun _ _ h => by cases h) _).below (Below.refl _ _).drew, (u3.other (k := w.heap.size + 1) (.slice ar nr cr) (by omega)).below (Below.refl _ _).drew⟩
    have HM : Hid (readN (((((w2.alloc (.cells #[.slice aq nq cq] 49)).alloc (.cells #[.slice ar nr cr] 49)).setCell ⟨w.heap.size, 0, none⟩ (.slice a2 n2 c2)).setCell ⟨w.heap.size + 1, 0, none⟩ (.slice ar nr cr)).drew) (w.heap.size + 1) < readN wr (w.heap.size + 1)) := by
     show _ < _
     obtain ⟨_, x1, x2, x3, y1, y2, y3, _, _, v1, v2, _⟩ := HN.out
     rw [HR.out, readN_is v1 v2]; exact HL.out
    clear t6 t5 ir ia ib t1 t2 t3 B2
    go_wp2_with fail
    go_region
    all_goals
     go_wp2
     go_roundw
     case rel => exact ⟨B, A % B, HN.out, HH.out⟩
     case measure => exact HM.out
end Go.Proofs.YtpdcdebnkbnogaaGreatDoor
namespace Go.Proofs.YtpdcdebnkbnogaaGreatDoor
open Go.RowKit
attribute [local go_sem ↓] Go.wp_at_zero Go.wp_at_succ
theorem floor_same (a : Option Addr) (n c : Nat) (m : Bool) (Z : Int) (a2 : Option Addr) (n2 c2 : Nat) (m2 : Bool) (Y : Int) (w : World) (h : IntAt w a n c m Z) (g : IntAt w a2 n2 c2 m2 Y) (K : Nat) (hK : K <= 800000) (hZ : Z.natAbs < 4294967296 ^ K) (hY : Y ≠ 0)
    (hap : (m != m2) = false) :
    Calls Tryz.prog 193 #[.agg #[.slice a n c, .bool m], .agg #[.slice a2 n2 c2, .bool m2]] w fun e w' => FloorTold w w' e (flQ Z Y) (flR Z Y) := by
 have hfu : flA Z Y = false /\ flQ Z Y = sgn false (Z.natAbs / Y.natAbs) /\ flR Z Y = sgn m2 (Z.natAbs % Y.natAbs) := by
  have e1 : flA Z Y = false := by unfold flA; rw [← h.1, ← g.1]; exact hap
  refine ⟨e1, ?_, ?_⟩
  · unfold flQ flU; rw [e1]; simp 
  · unfold flR flU; rw [e1, ← g.1]; simp 
 obtain ⟨_, hfq, hfr⟩ := hfu
 have BB := Lib.hid (FP.start h g)
 have q0 := BB.out.now.2.2.2.1.cell
 have q1 := BB.out.now.2.2.2.1.cell1
 have q2 := BB.out.now.2.2.1.cell
 have q3 := BB.out.now.2.2.1.cell1
 have N1 : Hid (∀ wz, FP w.heap.size a n c m Z a2 n2 c2 m2 Y wz -> Calls Tryz.prog 127 #[.agg #[.slice a n c, .bool m]] wz fun e w' => e = .returned (.bool m) /\ Below wz.heap.size wz w') := fun wz hz => neg_any a n c m Z wz hz.2.2.2.2.2
 have N2 : Hid (∀ wz, FP w.heap.size a n c m Z a2 n2 c2 m2 Y wz -> Calls Tryz.prog 127 #[.agg #[.slice a2 n2 c2, .bool m2]] wz fun e w' => e = .returned (.bool m2) /\ Below wz.heap.size wz w') := fun wz hz => neg_any a2 n2 c2 m2 Y wz hz.2.2.2.2.1
 have DM : Hid (∀ wz, FP w.heap.size a n c m Z a2 n2 c2 m2 Y wz -> Calls Tryz.prog 133 #[.agg #[.slice a n c], .agg #[.slice a2 n2 c2]] wz fun e w' => DivOf3 wz w' e (Z.natAbs / Y.natAbs) (Z.natAbs % Y.natAbs) true) := fun wz hz => (divMod_any _ _ _ _ wz hz.2.2.2.2.2.2 hz.2.2.2.2.1.2 K (by omega) hZ).mono fun _ _ h => by
  have := h.three (b := true) (by simp; omega)
  unfold modz at this
  rw [if_neg (by omega)] at this
  exact this
 have OF1 : Hid (∀ a3 n3 c3 wz, NatIs wz (.agg #[.slice a3 n3 c3]) (Z.natAbs / Y.natAbs) -> Calls Tryz.prog 103 #[.bool false, .agg #[.slice a3 n3 c3]] wz fun e w' => IntTold wz w' e (flQ Z Y)) := by
  intro a3 n3 c3 wz hi
  have := wof_any false a3 n3 c3 _ wz hi
  rw [← hfq] at this; exact this
 have OF2 : Hid (∀ a3 n3 c3 wz, NatIs wz (.agg #[.slice a3 n3 c3]) (Z.natAbs % Y.natAbs) -> Calls Tryz.prog 103 #[.bool m2, .agg #[.slice a3 n3 c3]] wz fun e w' => IntTold wz w' e (flR Z Y)) := by
  intro a3 n3 c3 wz hi
  have := wof_any m2 a3 n3 c3 _ wz hi
  rw [← hfr] at this; exact this
 obtain ⟨N, hN⟩ : ∃ N, Z.natAbs = N := ⟨_, rfl⟩
 obtain ⟨M, hM⟩ : ∃ M, Y.natAbs = M := ⟨_, rfl⟩
 have hM0 : 0 < M := by omega
 have hgM := g.1
 have hNK : N < 4294967296 ^ K := by omega
 have SB : Hid (∀ a3 n3 c3 wz, FP w.heap.size a n c m Z a2 n2 c2 m2 Y wz -> NatIs wz (.agg #[.slice a3 n3 c3]) (N % M) -> Calls Tryz.prog 202 #[.agg #[.slice a2 n2 c2], .agg #[.slice a3 n3 c3]] wz fun e w' => SubOf3 wz w' e (M - N % M) true) := fun a3 n3 c3 wz hz hi => (sub_any _ _ M (N % M) wz (by rw [← hM]; exact hz.2.2.2.2.1.2) hi).mono fun _ _ h => h.three (decide_eq_true (Nat.le_of_lt (Nat.mod_lt N hM0)))
 have AD : Hid (∀ a3 n3 c3 a4 n4 c4 wz, NatIs wz (.agg #[.slice a3 n3 c3]) (N / M) -> NatIs wz (.agg #[.slice a4 n4 c4]) 1 -> Calls Tryz.prog 145 #[.agg #[.slice a3 n3 c3], .agg #[.slice a4 n4 c4]] wz fun e w' => NatOf3 wz w' e (N / M + 1)) := fun a3 n3 c3 a4 n4 c4 wz hi hj => (add_any _ _ _ _ wz hi hj (K + 1) (by omega) (by
     have := Nat.div_le_self N M
     have h2 := pow_mono32 (show K <= K + 1 by omega)
     omega) (by
     have := pow_mono32 (show 1 <= K + 1 by omega)
     rw [Nat.pow_one] at this
     omega)).mono fun _ _ h => h.three
 rw [hN, hM] at DM OF1 OF2
 have hd : (m == m2) = true := by simpa using hap
 clear h g hZ hY hfq hfr hap hN hM hgM hNK hM0
 go_enter Tryz.func193, Tryz.ntmps193
 go_wp2_with fail
 go_at_call 133
 (with_reducible refine (DM.out _ BB.out.now).mono ?_)
 rintro e w4 ⟨aq, nq, cq, ar, nr, cr, rfl, hi3, hi4, hb4⟩
 have hk4 : w.heap.size + 1 + 1 + 1 < w4.heap.size := RS.lt (BB.out.go hb4).now.2.1
 have BQ := ((((BB.out.go hb4).nat hi4).nat hi3).box (.slice aq nq cq) 49).box (.slice ar nr cr) 49
 rw [World.size_alloc] at BQ
 have BB : Hid (Bag w (fun y => Slot y w4.heap.size (.slice aq nq cq) /\ NatIs y (.agg #[.slice aq nq cq]) (N / M) /\ Slot y (w4.heap.size + 1) (.slice ar nr cr) /\ NatIs y (.agg #[.slice ar nr cr]) (N % M) /\ FP w.heap.size a n c m Z a2 n2 c2 m2 Y y) _) := ⟨BQ.below, fun x y hb h => ⟨h.1.below hb, h.2.1.below hb, h.2.2.1.below hb, h.2.2.2.1.below hb, FP.stay x y hb h.2.2.2.2⟩, BQ.now.2.1, BQ.now.2.2.1, BQ.now.1, BQ.now.2.2.2.1, BQ.now.2.2.2.2⟩
 clear hb4 hi3 hi4 q0 q1 q2 q3 BQ
 go_wp2_with fail
 go_region_held3 (fun y => (y.cell? ⟨w.heap.size, 0, none⟩ = some (.slice a n c) /\ y.cell? ⟨w.heap.size, 1, none⟩ = some (.bool m) /\ y.cell? ⟨w.heap.size + 1, 0, none⟩ = some (.slice a2 n2 c2) /\ y.cell? ⟨w.heap.size + 1, 1, none⟩ = some (.bool m2)) /\ Bag w (fun y => Slot y w4.heap.size (.slice aq nq cq) /\ NatIs y (.agg #[.slice aq nq cq]) (N / M) /\ Slot y (w4.heap.size + 1) (.slice ar nr cr) /\ NatIs y (.agg #[.slice ar nr cr]) (N % M) /\ FP w.heap.size a n c m Z a2 n2 c2 m2 Y y) y)
  (first | (have B9 := BB.out.drew; exact ⟨⟨B9.now.2.2.2.2.2.2.2.1.cell, B9.now.2.2.2.2.2.2.2.1.cell1, B9.now.2.2.2.2.2.2.1.cell, B9.now.2.2.2.2.2.2.1.cell1⟩, B9⟩) | (have B9 := Bag.go (show Bag w (fun y => Slot y w4.heap.size (.slice aq nq cq) /\ NatIs y (.agg #[.slice aq nq cq]) (N / M) /\ Slot y (w4.heap.size + 1) (.slice ar nr cr) /\ NatIs y (.agg #[.slice ar nr cr]) (N % M) /\ FP w.heap.size a n c m Z a2 n2 c2 m2 Y y) _ from by go_split_ands; assumption) hb2; exact ⟨⟨B9.now.2.2.2.2.2.2.2.1.cell, B9.now.2.2.2.2.2.2.2.1.cell1, B9.now.2.2.2.2.2.2.1.cell, B9.now.2.2.2.2.2.2.1.cell1⟩, B9⟩))
  (first
    | (go_at_call 127; (with_reducible refine (N1.out _ ?_).mono ?_); exact (show Bag w (fun y => Slot y w4.heap.size (.slice aq nq cq) /\ NatIs y (.agg #[.slice aq nq cq]) (N / M) /\ Slot y (w4.heap.size + 1) (.slice ar nr cr) /\ NatIs y (.agg #[.slice ar nr cr]) (N % M) /\ FP w.heap.size a n c m Z a2 n2 c2 m2 Y y) _ from by go_split_ands; assumption).now.2.2.2.2; rintro e w2 ⟨rfl, hb2⟩)
    | (go_at_call 127; (with_reducible refine (N2.out _ ?_).mono ?_); exact (show Bag w (fun y => Slot y w4.heap.size (.slice aq nq cq) /\ NatIs y (.agg #[.slice aq nq cq]) (N / M) /\ Slot y (w4.heap.size + 1) (.slice ar nr cr) /\ NatIs y (.agg #[.slice ar nr cr]) (N % M) /\ FP w.heap.size a n c m Z a2 n2 c2 m2 Y y) _ from by go_split_ands; assumption).now.2.2.2.2; rintro e w2 ⟨rfl, hb2⟩))
 have BB := Lib.hid (show Bag w (fun y => Slot y w4.heap.size (.slice aq nq cq) /\ NatIs y (.agg #[.slice aq nq cq]) (N / M) /\ Slot y (w4.heap.size + 1) (.slice ar nr cr) /\ NatIs y (.agg #[.slice ar nr cr]) (N % M) /\ FP w.heap.size a n c m Z a2 n2 c2 m2 Y y) _ from by go_split_ands; assumption)
 go_wp2_with fail
 go_region_held3 (fun y => (y.cell? ⟨w4.heap.size, 0, none⟩ = some (.slice aq nq cq) /\ y.cell? ⟨w4.heap.size + 1, 0, none⟩ = some (.slice ar nr cr) /\ y.cell? ⟨w.heap.size + 1, 0, none⟩ = some (.slice a2 n2 c2) /\ y.cell? ⟨w.heap.size + 1, 1, none⟩ = some (.bool m2)) /\ Bag w (fun y => Slot y w4.heap.size (.slice aq nq cq) /\ NatIs y (.agg #[.slice aq nq cq]) (N / M) /\ Slot y (w4.heap.size + 1) (.slice ar nr cr) /\ NatIs y (.agg #[.slice ar nr cr]) (N % M) /\ FP w.heap.size a n c m Z a2 n2 c2 m2 Y y) y)
  (first
    | (have B9 := BB.out.drew; exact ⟨⟨B9.now.1.cell, B9.now.2.2.1.cell, B9.now.2.2.2.2.2.2.1.cell, B9.now.2.2.2.2.2.2.1.cell1⟩, B9⟩)
    | (have B9 := Bag.go (show Bag w (fun y => Slot y w4.heap.size (.slice aq nq cq) /\ NatIs y (.agg #[.slice aq nq cq]) (N / M) /\ Slot y (w4.heap.size + 1) (.slice ar nr cr) /\ NatIs y (.agg #[.slice ar nr cr]) (N % M) /\ FP w.heap.size a n c m Z a2 n2 c2 m2 Y y) _ from by go_split_ands; assumption) hb2; exact ⟨⟨B9.now.1.cell, B9.now.2.2.1.cell, B9.now.2.2.2.2.2.2.1.cell, B9.now.2.2.2.2.2.2.1.cell1⟩, B9⟩)
    | (have B9 := Bag.put (show Bag w (fun y => Slot y w4.heap.size (.slice aq nq cq) /\ NatIs y (.agg #[.slice aq nq cq]) (N / M) /\ Slot y (w4.heap.size + 1) (.slice ar nr cr) /\ NatIs y (.agg #[.slice ar nr cr]) (N % M) /\ FP w.heap.size a n c m Z a2 n2 c2 m2 Y y) _ from by go_split_ands; assumption) (k := w.heap.size + 1 + 1) (a := a5) (n := n5) (c := c5) (b := m5) (by omega) (fun h => ⟨h.1.put (by omega) _ _ _ _, h.2.1.put h.2.2.2.2.1 _ _ _ _, h.2.2.1.put (by omega) _ _ _ _, h.2.2.2.1.put h.2.2.2.2.1 _ _ _ _, h.2.2.2.2.put h.2.2.2.2.1 (by omega) (by omega) _ _ _ _⟩); exact ⟨⟨B9.now.1.cell, B9.now.2.2.1.cell, B9.now.2.2.2.2.2.2.1.cell, B9.now.2.2.2.2.2.2.1.cell1⟩, B9⟩)
    | (have B9 := Bag.put (show Bag w (fun y => Slot y w4.heap.size (.slice aq nq cq) /\ NatIs y (.agg #[.slice aq nq cq]) (N / M) /\ Slot y (w4.heap.size + 1) (.slice ar nr cr) /\ NatIs y (.agg #[.slice ar nr cr]) (N % M) /\ FP w.heap.size a n c m Z a2 n2 c2 m2 Y y) _ from by go_split_ands; assumption) (k := w.heap.size + 1 + 1 + 1) (a := a6) (n := n6) (c := c6) (b := m6) (by omega) (fun h => ⟨h.1.put (by omega) _ _ _ _, h.2.1.put h.2.2.2.2.2.1 _ _ _ _, h.2.2.1.put (by omega) _ _ _ _, h.2.2.2.1.put h.2.2.2.2.2.1 _ _ _ _, h.2.2.2.2.put h.2.2.2.2.2.1 (by omega) (by omega) _ _ _ _⟩); exact ⟨⟨B9.now.1.cell, B9.now.2.2.1.cell, B9.now.2.2.2.2.2.2.1.cell, B9.now.2.2.2.2.2.2.1.cell1⟩, B9⟩))
  (first
    | (go_at_call 103; (with_reducible refine (OF1.out aq nq cq _ ?_).mono ?_); exact (show Bag w (fun y => Slot y w4.heap.size (.slice aq nq cq) /\ NatIs y (.agg #[.slice aq nq cq]) (N / M) /\ Slot y (w4.heap.size + 1) (.slice ar nr cr) /\ NatIs y (.agg #[.slice ar nr cr]) (N % M) /\ FP w.heap.size a n c m Z a2 n2 c2 m2 Y y) _ from by go_split_ands; assumption).now.2.1; rintro e w2 ⟨a5, n5, c5, m5, rfl, hi5, hb2⟩)
    | (go_at_call 127; (with_reducible refine (N2.out _ ?_).mono ?_); exact (show Bag w (fun y => Slot y w4.heap.size (.slice aq nq cq) /\ NatIs y (.agg #[.slice aq nq cq]) (N / M) /\ Slot y (w4.heap.size + 1) (.slice ar nr cr) /\ NatIs y (.agg #[.slice ar nr cr]) (N % M) /\ FP w.heap.size a n c m Z a2 n2 c2 m2 Y y) _ from by go_split_ands; assumption).now.2.2.2.2; rintro e w2 ⟨rfl, hb2⟩; have hi5 := hi5.below hb2)
    | (go_at_call 103; (with_reducible refine (OF2.out ar nr cr _ ?_).mono ?_); exact (show Bag w (fun y => Slot y w4.heap.size (.slice aq nq cq) /\ NatIs y (.agg #[.slice aq nq cq]) (N / M) /\ Slot y (w4.heap.size + 1) (.slice ar nr cr) /\ NatIs y (.agg #[.slice ar nr cr]) (N % M) /\ FP w.heap.size a n c m Z a2 n2 c2 m2 Y y) _ from by go_split_ands; assumption).now.2.2.2.1; rintro e w2 ⟨a6, n6, c6, m6, rfl, hi6, hb2⟩; have hi5 := hi5.below hb2;
        have B7 := Bag.go (show Bag w (fun y => Slot y w4.heap.size (.slice aq nq cq) /\ NatIs y (.agg #[.slice aq nq cq]) (N / M) /\ Slot y (w4.heap.size + 1) (.slice ar nr cr) /\ NatIs y (.agg #[.slice ar nr cr]) (N % M) /\ FP w.heap.size a n c m Z a2 n2 c2 m2 Y y) _ from by go_split_ands; assumption) hb2;
        obtain ⟨x8, b8, hs8, _⟩ := B7.now.2.2.2.2.1;
        obtain ⟨x9, b9, hs9, _⟩ := B7.now.2.2.2.2.2.1;
        have hc1 := hs8.cell; have hc2 := hs8.cell1; have hc3 := hs9.cell; have hc4 := hs9.cell1; have hf1 := hs8.free; have hf2 := hs8.free1; have hf3 := hs9.free; have hf4 := hs9.free1;
        have HA := Slot2.put (B7.now.2.2.2.2.1.slotted a5 n5 c5 m5) (show w.heap.size + 1 + 1 ≠ w.heap.size + 1 + 1 + 1 by omega) a6 n6 c6 m6;
        have HB := (B7.now.2.2.2.2.2.1.put (k := w.heap.size + 1 + 1) a5 n5 c5 m5).slotted a6 n6 c6 m6;
        have e1 := HA.cell; have e2 := HA.cell1; have e3 := HB.cell; have e4 := HB.cell1;
        have HE : Hid (FloorTold w (putI (putI w2 (w.heap.size + 1 + 1) a5 n5 c5 m5) (w.heap.size + 1 + 1 + 1) a6 n6 c6 m6) (.returned (.tuple #[.agg #[.slice a5 n5 c5, .bool m5], .agg #[.slice a6 n6 c6, .bool m6], .bool true])) (flQ Z Y) (flR Z Y)) := ⟨a5, n5, c5, m5, a6, n6, c6, m6, rfl, (hi5.put B7.now.2.2.2.2.1 _ _ _ _).put (B7.now.2.2.2.2.2.1.put (k := w.heap.size + 1 + 1) a5 n5 c5 m5) _ _ _ _, (hi6.put B7.now.2.2.2.2.1 _ _ _ _).put (B7.now.2.2.2.2.2.1.put (k := w.heap.size + 1 + 1) a5 n5 c5 m5) _ _ _ _, (((B7.below.setCell (show w.heap.size <= w.heap.size + 1 + 1 by omega) _).setCell (show w.heap.size <= w.heap.size + 1 + 1 by omega) _).setCell (show w.heap.size <= w.heap.size + 1 + 1 + 1 by omega) _).setCell (show w.heap.size <= w.heap.size + 1 + 1 + 1 by omega) _⟩;
        unfold putI at HE e1 e2 e3 e4; clear hs8 hs9 HA HB B7))
 all_goals
  go_wp2
  exact bodyPost_ret (v := .tuple #[.agg #[.slice a5 n5 c5, .bool m5], .agg #[.slice a6 n6 c6, .bool m6], .bool true]) (by simp [results, Tryz.results193, go_sem, e1, e2, e3, e4]) rfl HE.out
theorem floor_even (a : Option Addr) (n c : Nat) (m : Bool) (Z : Int) (a2 : Option Addr) (n2 c2 : Nat) (m2 : Bool) (Y : Int) (w : World) (h : IntAt w a n c m Z) (g : IntAt w a2 n2 c2 m2 Y) (K : Nat) (hK : K <= 800000) (hZ : Z.natAbs < 4294967296 ^ K) (hY : Y ≠ 0)
    (hap : (m != m2) = true) (hr0 : Z.natAbs % Y.natAbs = 0) :
    Calls Tryz.prog 193 #[.agg #[.slice a n c, .bool m], .agg #[.slice a2 n2 c2, .bool m2]] w fun e w' => FloorTold w w' e (flQ Z Y) (flR Z Y) := by
 have hfu : flA Z Y = true /\ flQ Z Y = sgn true (Z.natAbs / Y.natAbs) /\ flR Z Y = sgn m2 (Z.natAbs % Y.natAbs) := by
  have e1 : flA Z Y = true := by unfold flA; rw [← h.1, ← g.1]; exact hap
  refine ⟨e1, ?_, ?_⟩
  · unfold flQ flU; rw [e1]; simp [hr0]
  · unfold flR flU; rw [e1, ← g.1, hr0]; simp
 obtain ⟨_, hfq, hfr⟩ := hfu
 have BB := Lib.hid (FP.start h g)
 have q0 := BB.out.now.2.2.2.1.cell
 have q1 := BB.out.now.2.2.2.1.cell1
 have q2 := BB.out.now.2.2.1.cell
 have q3 := BB.out.now.2.2.1.cell1
 have N1 : Hid (∀ wz, FP w.heap.size a n c m Z a2 n2 c2 m2 Y wz -> Calls Tryz.prog 127 #[.agg #[.slice a n c, .bool m]] wz fun e w' => e = .returned (.bool m) /\ Below wz.heap.size wz w') := fun wz hz => neg_any a n c m Z wz hz.2.2.2.2.2
 have N2 : Hid (∀ wz, FP w.heap.size a n c m Z a2 n2 c2 m2 Y wz -> Calls Tryz.prog 127 #[.agg #[.slice a2 n2 c2, .bool m2]] wz fun e w' => e = .returned (.bool m2) /\ Below wz.heap.size wz w') := fun wz hz => neg_any a2 n2 c2 m2 Y wz hz.2.2.2.2.1
 have DM : Hid (∀ wz, FP w.heap.size a n c m Z a2 n2 c2 m2 Y wz -> Calls Tryz.prog 133 #[.agg #[.slice a n c], .agg #[.slice a2 n2 c2]] wz fun e w' => DivOf3 wz w' e (Z.natAbs / Y.natAbs) (Z.natAbs % Y.natAbs) true) := fun wz hz => (divMod_any _ _ _ _ wz hz.2.2.2.2.2.2 hz.2.2.2.2.1.2 K (by omega) hZ).mono fun _ _ h => by
  have := h.three (b := true) (by simp; omega)
  unfold modz at this
  rw [if_neg (by omega)] at this
  exact this
 have OF1 : Hid (∀ a3 n3 c3 wz, NatIs wz (.agg #[.slice a3 n3 c3]) (Z.natAbs / Y.natAbs) -> Calls Tryz.prog 103 #[.bool true, .agg #[.slice a3 n3 c3]] wz fun e w' => IntTold wz w' e (flQ Z Y)) := by
  intro a3 n3 c3 wz hi
  have := wof_any true a3 n3 c3 _ wz hi
  rw [← hfq] at this; exact this
 have OF2 : Hid (∀ a3 n3 c3 wz, NatIs wz (.agg #[.slice a3 n3 c3]) (Z.natAbs % Y.natAbs) -> Calls Tryz.prog 103 #[.bool m2, .agg #[.slice a3 n3 c3]] wz fun e w' => IntTold wz w' e (flR Z Y)) := by
  intro a3 n3 c3 wz hi
  have := wof_any m2 a3 n3 c3 _ wz hi
  rw [← hfr] at this; exact this
 obtain ⟨N, hN⟩ : ∃ N, Z.natAbs = N := ⟨_, rfl⟩
 obtain ⟨M, hM⟩ : ∃ M, Y.natAbs = M := ⟨_, rfl⟩
 have hM0 : 0 < M := by omega
 have hgM := g.1
 have hNK : N < 4294967296 ^ K := by omega
 have SB : Hid (∀ a3 n3 c3 wz, FP w.heap.size a n c m Z a2 n2 c2 m2 Y wz -> NatIs wz (.agg #[.slice a3 n3 c3]) (N % M) -> Calls Tryz.prog 202 #[.agg #[.slice a2 n2 c2], .agg #[.slice a3 n3 c3]] wz fun e w' => SubOf3 wz w' e (M - N % M) true) := fun a3 n3 c3 wz hz hi => (sub_any _ _ M (N % M) wz (by rw [← hM]; exact hz.2.2.2.2.1.2) hi).mono fun _ _ h => h.three (decide_eq_true (Nat.le_of_lt (Nat.mod_lt N hM0)))
 have AD : Hid (∀ a3 n3 c3 a4 n4 c4 wz, NatIs wz (.agg #[.slice a3 n3 c3]) (N / M) -> NatIs wz (.agg #[.slice a4 n4 c4]) 1 -> Calls Tryz.prog 145 #[.agg #[.slice a3 n3 c3], .agg #[.slice a4 n4 c4]] wz fun e w' => NatOf3 wz w' e (N / M + 1)) := fun a3 n3 c3 a4 n4 c4 wz hi hj => (add_any _ _ _ _ wz hi hj (K + 1) (by omega) (by
     have := Nat.div_le_self N M
     have h2 := pow_mono32 (show K <= K + 1 by omega)
     omega) (by
     have := pow_mono32 (show 1 <= K + 1 by omega)
     rw [Nat.pow_one] at this
     omega)).mono fun _ _ h => h.three
 rw [hN, hM] at DM OF1 OF2
 have hd : (m == m2) = false := by simpa using hap
 have ZR : Hid (∀ a3 n3 c3 wz, NatIs wz (.agg #[.slice a3 n3 c3]) (N % M) -> Calls Tryz.prog 102 #[.agg #[.slice a3 n3 c3]] wz fun e w' => e = .returned (.bool true) /\ Below wz.heap.size wz w') := by
  intro a3 n3 c3 wz hi
  have h1 := zero_any _ _ wz hi
  rw [show decide (N % M = 0) = true from by rw [← hN, ← hM]; exact decide_eq_true hr0] at h1
  exact h1
 clear hr0
 clear h g hZ hY hfq hfr hap hN hM hgM hNK hM0
 go_enter Tryz.func193, Tryz.ntmps193
 go_wp2_with fail
 go_at_call 133
 (with_reducible refine (DM.out _ BB.out.now).mono ?_)
 rintro e w4 ⟨aq, nq, cq, ar, nr, cr, rfl, hi3, hi4, hb4⟩
 have hk4 : w.heap.size + 1 + 1 + 1 < w4.heap.size := RS.lt (BB.out.go hb4).now.2.1
 have BQ := ((((BB.out.go hb4).nat hi4).nat hi3).box (.slice aq nq cq) 49).box (.slice ar nr cr) 49
 rw [World.size_alloc] at BQ
 have BB : Hid (Bag w (fun y => Slot y w4.heap.size (.slice aq nq cq) /\ NatIs y (.agg #[.slice aq nq cq]) (N / M) /\ Slot y (w4.heap.size + 1) (.slice ar nr cr) /\ NatIs y (.agg #[.slice ar nr cr]) (N % M) /\ FP w.heap.size a n c m Z a2 n2 c2 m2 Y y) _) := ⟨BQ.below, fun x y hb h => ⟨h.1.below hb, h.2.1.below hb, h.2.2.1.below hb, h.2.2.2.1.below hb, FP.stay x y hb h.2.2.2.2⟩, BQ.now.2.1, BQ.now.2.2.1, BQ.now.1, BQ.now.2.2.2.1, BQ.now.2.2.2.2⟩
 clear hb4 hi3 hi4 q0 q1 q2 q3 BQ
 go_wp2_with fail
 go_region_held3 (fun y => (y.cell? ⟨w.heap.size, 0, none⟩ = some (.slice a n c) /\ y.cell? ⟨w.heap.size, 1, none⟩ = some (.bool m) /\ y.cell? ⟨w.heap.size + 1, 0, none⟩ = some (.slice a2 n2 c2) /\ y.cell? ⟨w.heap.size + 1, 1, none⟩ = some (.bool m2)) /\ Bag w (fun y => Slot y w4.heap.size (.slice aq nq cq) /\ NatIs y (.agg #[.slice aq nq cq]) (N / M) /\ Slot y (w4.heap.size + 1) (.slice ar nr cr) /\ NatIs y (.agg #[.slice ar nr cr]) (N % M) /\ FP w.heap.size a n c m Z a2 n2 c2 m2 Y y) y)
  (first | (have B9 := BB.out.drew; exact ⟨⟨B9.now.2.2.2.2.2.2.2.1.cell, B9.now.2.2.2.2.2.2.2.1.cell1, B9.now.2.2.2.2.2.2.1.cell, B9.now.2.2.2.2.2.2.1.cell1⟩, B9⟩) | (have B9 := Bag.go (show Bag w (fun y => Slot y w4.heap.size (.slice aq nq cq) /\ NatIs y (.agg #[.slice aq nq cq]) (N / M) /\ Slot y (w4.heap.size + 1) (.slice ar nr cr) /\ NatIs y (.agg #[.slice ar nr cr]) (N % M) /\ FP w.heap.size a n c m Z a2 n2 c2 m2 Y y) _ from by go_split_ands; assumption) hb2; exact ⟨⟨B9.now.2.2.2.2.2.2.2.1.cell, B9.now.2.2.2.2.2.2.2.1.cell1, B9.now.2.2.2.2.2.2.1.cell, B9.now.2.2.2.2.2.2.1.cell1⟩, B9⟩))
  (first
    | (go_at_call 127; (with_reducible refine (N1.out _ ?_).mono ?_); exact (show Bag w (fun y => Slot y w4.heap.size (.slice aq nq cq) /\ NatIs y (.agg #[.slice aq nq cq]) (N / M) /\ Slot y (w4.heap.size + 1) (.slice ar nr cr) /\ NatIs y (.agg #[.slice ar nr cr]) (N % M) /\ FP w.heap.size a n c m Z a2 n2 c2 m2 Y y) _ from by go_split_ands; assumption).now.2.2.2.2; rintro e w2 ⟨rfl, hb2⟩)
    | (go_at_call 127; (with_reducible refine (N2.out _ ?_).mono ?_); exact (show Bag w (fun y => Slot y w4.heap.size (.slice aq nq cq) /\ NatIs y (.agg #[.slice aq nq cq]) (N / M) /\ Slot y (w4.heap.size + 1) (.slice ar nr cr) /\ NatIs y (.agg #[.slice ar nr cr]) (N % M) /\ FP w.heap.size a n c m Z a2 n2 c2 m2 Y y) _ from by go_split_ands; assumption).now.2.2.2.2; rintro e w2 ⟨rfl, hb2⟩))
 have BB := Lib.hid (show Bag w (fun y => Slot y w4.heap.size (.slice aq nq cq) /\ NatIs y (.agg #[.slice aq nq cq]) (N / M) /\ Slot y (w4.heap.size + 1) (.slice ar nr cr) /\ NatIs y (.agg #[.slice ar nr cr]) (N % M) /\ FP w.heap.size a n c m Z a2 n2 c2 m2 Y y) _ from by go_split_ands; assumption)
 have q5 := BB.out.now.2.2.1.cell
 go_wp2_with fail
 go_at_call 102
 (with_reducible refine (ZR.out ar nr cr _ BB.out.now.2.2.2.1).mono ?_)
 rintro e w6 ⟨rfl, hb6⟩
 have BB := Lib.hid (BB.out.go hb6)
 clear hb6 q5
 go_wp2_with fail
 go_region_held3 (fun y => (y.cell? ⟨w4.heap.size, 0, none⟩ = some (.slice aq nq cq) /\ y.cell? ⟨w4.heap.size + 1, 0, none⟩ = some (.slice ar nr cr) /\ y.cell? ⟨w.heap.size + 1, 0, none⟩ = some (.slice a2 n2 c2) /\ y.cell? ⟨w.heap.size + 1, 1, none⟩ = some (.bool m2)) /\ Bag w (fun y => Slot y w4.heap.size (.slice aq nq cq) /\ NatIs y (.agg #[.slice aq nq cq]) (N / M) /\ Slot y (w4.heap.size + 1) (.slice ar nr cr) /\ NatIs y (.agg #[.slice ar nr cr]) (N % M) /\ FP w.heap.size a n c m Z a2 n2 c2 m2 Y y) y)
  (first
    | (have B9 := BB.out.drew; exact ⟨⟨B9.now.1.cell, B9.now.2.2.1.cell, B9.now.2.2.2.2.2.2.1.cell, B9.now.2.2.2.2.2.2.1.cell1⟩, B9⟩)
    | (have B9 := Bag.go (show Bag w (fun y => Slot y w4.heap.size (.slice aq nq cq) /\ NatIs y (.agg #[.slice aq nq cq]) (N / M) /\ Slot y (w4.heap.size + 1) (.slice ar nr cr) /\ NatIs y (.agg #[.slice ar nr cr]) (N % M) /\ FP w.heap.size a n c m Z a2 n2 c2 m2 Y y) _ from by go_split_ands; assumption) hb2; exact ⟨⟨B9.now.1.cell, B9.now.2.2.1.cell, B9.now.2.2.2.2.2.2.1.cell, B9.now.2.2.2.2.2.2.1.cell1⟩, B9⟩)
    | (have B9 := Bag.put (show Bag w (fun y => Slot y w4.heap.size (.slice aq nq cq) /\ NatIs y (.agg #[.slice aq nq cq]) (N / M) /\ Slot y (w4.heap.size + 1) (.slice ar nr cr) /\ NatIs y (.agg #[.slice ar nr cr]) (N % M) /\ FP w.heap.size a n c m Z a2 n2 c2 m2 Y y) _ from by go_split_ands; assumption) (k := w.heap.size + 1 + 1) (a := a5) (n := n5) (c := c5) (b := m5) (by omega) (fun h => ⟨h.1.put (by omega) _ _ _ _, h.2.1.put h.2.2.2.2.1 _ _ _ _, h.2.2.1.put (by omega) _ _ _ _, h.2.2.2.1.put h.2.2.2.2.1 _ _ _ _, h.2.2.2.2.put h.2.2.2.2.1 (by omega) (by omega) _ _ _ _⟩); exact ⟨⟨B9.now.1.cell, B9.now.2.2.1.cell, B9.now.2.2.2.2.2.2.1.cell, B9.now.2.2.2.2.2.2.1.cell1⟩, B9⟩)
    | (have B9 := Bag.put (show Bag w (fun y => Slot y w4.heap.size (.slice aq nq cq) /\ NatIs y (.agg #[.slice aq nq cq]) (N / M) /\ Slot y (w4.heap.size + 1) (.slice ar nr cr) /\ NatIs y (.agg #[.slice ar nr cr]) (N % M) /\ FP w.heap.size a n c m Z a2 n2 c2 m2 Y y) _ from by go_split_ands; assumption) (k := w.heap.size + 1 + 1 + 1) (a := a6) (n := n6) (c := c6) (b := m6) (by omega) (fun h => ⟨h.1.put (by omega) _ _ _ _, h.2.1.put h.2.2.2.2.2.1 _ _ _ _, h.2.2.1.put (by omega) _ _ _ _, h.2.2.2.1.put h.2.2.2.2.2.1 _ _ _ _, h.2.2.2.2.put h.2.2.2.2.2.1 (by omega) (by omega) _ _ _ _⟩); exact ⟨⟨B9.now.1.cell, B9.now.2.2.1.cell, B9.now.2.2.2.2.2.2.1.cell, B9.now.2.2.2.2.2.2.1.cell1⟩, B9⟩))
  (first
    | (go_at_call 103; (with_reducible refine (OF1.out aq nq cq _ ?_).mono ?_); exact (show Bag w (fun y => Slot y w4.heap.size (.slice aq nq cq) /\ NatIs y (.agg #[.slice aq nq cq]) (N / M) /\ Slot y (w4.heap.size + 1) (.slice ar nr cr) /\ NatIs y (.agg #[.slice ar nr cr]) (N % M) /\ FP w.heap.size a n c m Z a2 n2 c2 m2 Y y) _ from by go_split_ands; assumption).now.2.1; rintro e w2 ⟨a5, n5, c5, m5, rfl, hi5, hb2⟩)
    | (go_at_call 127; (with_reducible refine (N2.out _ ?_).mono ?_); exact (show Bag w (fun y => Slot y w4.heap.size (.slice aq nq cq) /\ NatIs y (.agg #[.slice aq nq cq]) (N / M) /\ Slot y (w4.heap.size + 1) (.slice ar nr cr) /\ NatIs y (.agg #[.slice ar nr cr]) (N % M) /\ FP w.heap.size a n c m Z a2 n2 c2 m2 Y y) _ from by go_split_ands; assumption).now.2.2.2.2; rintro e w2 ⟨rfl, hb2⟩; have hi5 := hi5.below hb2)
    | (go_at_call 103; (with_reducible refine (OF2.out ar nr cr _ ?_).mono ?_); exact (show Bag w (fun y => Slot y w4.heap.size (.slice aq nq cq) /\ NatIs y (.agg #[.slice aq nq cq]) (N / M) /\ Slot y (w4.heap.size + 1) (.slice ar nr cr) /\ NatIs y (.agg #[.slice ar nr cr]) (N % M) /\ FP w.heap.size a n c m Z a2 n2 c2 m2 Y y) _ from by go_split_ands; assumption).now.2.2.2.1; rintro e w2 ⟨a6, n6, c6, m6, rfl, hi6, hb2⟩; have hi5 := hi5.below hb2;
        have B7 := Bag.go (show Bag w (fun y => Slot y w4.heap.size (.slice aq nq cq) /\ NatIs y (.agg #[.slice aq nq cq]) (N / M) /\ Slot y (w4.heap.size + 1) (.slice ar nr cr) /\ NatIs y (.agg #[.slice ar nr cr]) (N % M) /\ FP w.heap.size a n c m Z a2 n2 c2 m2 Y y) _ from by go_split_ands; assumption) hb2;
        obtain ⟨x8, b8, hs8, _⟩ := B7.now.2.2.2.2.1;
        obtain ⟨x9, b9, hs9, _⟩ := B7.now.2.2.2.2.2.1;
        have hc1 := hs8.cell; have hc2 := hs8.cell1; have hc3 := hs9.cell; have hc4 := hs9.cell1; have hf1 := hs8.free; have hf2 := hs8.free1; have hf3 := hs9.free; have hf4 := hs9.free1;
        have HA := Slot2.put (B7.now.2.2.2.2.1.slotted a5 n5 c5 m5) (show w.heap.size + 1 + 1 ≠ w.heap.size + 1 + 1 + 1 by omega) a6 n6 c6 m6;
        have HB := (B7.now.2.2.2.2.2.1.put (k := w.heap.size + 1 + 1) a5 n5 c5 m5).slotted a6 n6 c6 m6;
        have e1 := HA.cell; have e2 := HA.cell1; have e3 := HB.cell; have e4 := HB.cell1;
        have HE : Hid (FloorTold w (putI (putI w2 (w.heap.size + 1 + 1) a5 n5 c5 m5) (w.heap.size + 1 + 1 + 1) a6 n6 c6 m6) (.returned (.tuple #[.agg #[.slice a5 n5 c5, .bool m5], .agg #[.slice a6 n6 c6, .bool m6], .bool true])) (flQ Z Y) (flR Z Y)) := ⟨a5, n5, c5, m5, a6, n6, c6, m6, rfl, (hi5.put B7.now.2.2.2.2.1 _ _ _ _).put (B7.now.2.2.2.2.2.1.put (k := w.heap.size + 1 + 1) a5 n5 c5 m5) _ _ _ _, (hi6.put B7.now.2.2.2.2.1 _ _ _ _).put (B7.now.2.2.2.2.2.1.put (k := w.heap.size + 1 + 1) a5 n5 c5 m5) _ _ _ _, (((B7.below.setCell (show w.heap.size <= w.heap.size + 1 + 1 by omega) _).setCell (show w.heap.size <= w.heap.size + 1 + 1 by omega) _).setCell (show w.heap.size <= w.heap.size + 1 + 1 + 1 by omega) _).setCell (show w.heap.size <= w.heap.size + 1 + 1 + 1 by omega) _⟩;
        unfold putI at HE e1 e2 e3 e4; clear hs8 hs9 HA HB B7))
 all_goals
  go_wp2
  exact bodyPost_ret (v := .tuple #[.agg #[.slice a5 n5 c5, .bool m5], .agg #[.slice a6 n6 c6, .bool m6], .bool true]) (by simp [results, Tryz.results193, go_sem, e1, e2, e3, e4]) rfl HE.out
theorem floor_any (a : Option Addr) (n c : Nat) (m : Bool) (Z : Int) (a2 : Option Addr) (n2 c2 : Nat) (m2 : Bool) (Y : Int) (w : World) (h : IntAt w a n c m Z) (g : IntAt w a2 n2 c2 m2 Y) (K : Nat) (hK : K <= 800000) (hZ : Z.natAbs < 4294967296 ^ K) (hY : Y ≠ 0) :
    Calls Tryz.prog 193 #[.agg #[.slice a n c, .bool m], .agg #[.slice a2 n2 c2, .bool m2]] w fun e w' => FloorTold w w' e (flQ Z Y) (flR Z Y) := by
 cases hap : (m != m2) with
 | false => exact floor_same a n c m Z a2 n2 c2 m2 Y w h g K hK hZ hY hap
 | true =>
  by_cases hr : Z.natAbs % Y.natAbs = 0
  · exact floor_even a n c m Z a2 n2 c2 m2 Y w h g K hK hZ hY hap hr
  · exact floor_odd a n c m Z a2 n2 c2 m2 Y w h g K hK hZ hY hap hr
def RT (y : World) (k : Nat) : Prop := ∃ b t, Slot2 y k (.bool b) (.string t)
theorem RT.below {w w' : World} {k : Nat} (h : RT w k) (hb : Below w.heap.size w w') : RT w' k := by
 obtain ⟨x, z, h1⟩ := h; exact ⟨x, z, h1.below hb⟩
theorem RT.put2 {w : World} {k : Nat} (h : RT w k) (b : Bool) (t : ByteArray) : RT (put2 w k (.bool b) (.string t)) k := by
 obtain ⟨x, z, h1⟩ := h; exact ⟨_, _, h1.put2s _ _⟩
theorem RT.putI {w : World} {k j : Nat} (h : RT w j) (e : j ≠ k) (a : Option Addr) (n c : Nat) (b : Bool) : RT (putI w k a n c b) j := by
 obtain ⟨x, z, h1⟩ := h; exact ⟨_, _, h1.put2o e _ _⟩
def LP (k0 k5 k7 : Nat) (b : Bool) (d : ByteArray) (a : Option Addr) (n c N : Nat) (y : World) : Prop := RS y k0 /\ RT y (k0 + 1) /\ Slot2 y k5 (.bool b) (.string d) /\ Slot y k7 (.slice a n c) /\ NatIs y (.agg #[.slice a n c]) N
theorem LP.stay {k0 k5 k7 : Nat} {b : Bool} {d : ByteArray} {a : Option Addr} {n c N : Nat} : ∀ x y, Below x.heap.size x y -> LP k0 k5 k7 b d a n c N x -> LP k0 k5 k7 b d a n c N y :=
 fun _ _ hb h => ⟨h.1.below hb, h.2.1.below hb, h.2.2.1.below hb, h.2.2.2.1.below hb, h.2.2.2.2.below hb⟩
theorem Slot.put2o {w : World} {k j : Nat} {x : Value} (h : Slot w j x) (e : j ≠ k) (u v : Value) : Slot (put2 w k u v) j x := by
 refine ⟨?_, by simp [put2, h.free], by simpa [put2] using h.lt⟩
 unfold put2; rw [World.cell?_setCell_other _ _ _ _ (fun e' => by cases e' <;> exact e rfl), World.cell?_setCell_other _ _ _ _ (fun e' => by cases e' <;> exact e rfl)]; exact h.cell
end Go.Proofs.YtpdcdebnkbnogaaGreatDoor
namespace Go.Proofs.YtpdcdebnkbnogaaGreatDoor
open Go.RowKit
theorem IntsAt.mk1 {w : World} {k : Nat} (hk : w.heap.size = k) {a : Option Addr} {n c : Nat} {m : Bool} {Z : Int} {t : TypeId} (h : IntAt (w.alloc (.cells #[.slice a n c, .bool m] t)) a n c m Z) :
    IntsAt (w.alloc (.cells #[.slice a n c, .bool m] t)) (some ⟨k, 0, none⟩) 1 1 (fun _ => Z) := by
 subst hk
 have hs := Slot2.new w (.slice a n c) (.bool m) t
 refine ⟨Nat.le_refl _, by omega, .inr ⟨_, 0, rfl, by rw [World.size_alloc]; omega, fun j hj => ?_⟩⟩
 obtain rfl : j = 0 := by omega
 exact ⟨a, n, c, m, hs.cell, hs.cell1, h⟩
theorem plus1_any (a : Option Addr) (n c : Nat) (m : Bool) (Z : Int) (sa : Option Addr) (Y : Int) (w : World) (h : IntAt w a n c m Z) (g : IntsAt w sa 1 1 (fun _ => Y)) (K : Nat) (hK : K <= 900000) (hZ : Z.natAbs + Y.natAbs < 4294967296 ^ K) :
    Calls Tryz.prog 129 #[.agg #[.slice a n c, .bool m], .slice sa 1 1] w fun e w' => IntTold w w' e (Z + Y) :=
 plus_any a n c m Z sa 1 1 (fun _ => Y) w h g K hK (by simp [asum]; exact hZ)
theorem times1_any (a : Option Addr) (n c : Nat) (m : Bool) (Z : Int) (sa : Option Addr) (Y : Int) (w : World) (h : IntAt w a n c m Z) (g : IntsAt w sa 1 1 (fun _ => Y)) (K : Nat) (hK : K <= 400000) (hZ : Z.natAbs < 4294967296 ^ K) (hY : Y.natAbs < 4294967296 ^ K) :
    Calls Tryz.prog 70 #[.agg #[.slice a n c, .bool m], .slice sa 1 1] w fun e w' => IntTold w w' e (Z * Y) :=
 times_any a n c m Z sa 1 1 (fun _ => Y) w h g K hK (fun k hk => by obtain rfl : k = 0 := by omega
                                                                    exact ⟨hZ, hY⟩)
theorem Below.step {w a b : World} (hb : Below a.heap.size a b) (h : Below w.heap.size w a) : Below w.heap.size w b := h.trans (hb.mono h.size)
theorem Below.more {w a : World} (h : Below w.heap.size w a) (o : Obj) : Below w.heap.size w (a.alloc o) := h.alloc h.size o
theorem IntsAt.old1 {wk w : World} {k : Nat} {a : Option Addr} {n c : Nat} {m : Bool} {Z : Int} {t : TypeId} (hb : Below (wk.alloc (.cells #[.slice a n c, .bool m] t)).heap.size (wk.alloc (.cells #[.slice a n c, .bool m] t)) w)
    (hk : wk.heap.size = k) (h : IntAt w a n c m Z) : IntsAt w (some ⟨k, 0, none⟩) 1 1 (fun _ => Z) := by
 subst hk
 have hs := (Slot2.new wk (.slice a n c) (.bool m) t).below hb
 refine ⟨Nat.le_refl _, by omega, .inr ⟨_, 0, rfl, hs.lt, fun j hj => ?_⟩⟩
 obtain rfl : j = 0 := by omega
 exact ⟨a, n, c, m, hs.cell, hs.cell1, h⟩
end Go.Proofs.YtpdcdebnkbnogaaGreatDoor
