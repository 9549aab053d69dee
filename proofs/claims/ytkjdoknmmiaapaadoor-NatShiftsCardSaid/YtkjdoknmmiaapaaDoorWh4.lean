/-
  Package whole: plusOne, by contract.
-/
import Derived.Test.YtkjdoknmmiaapaaDoorWh2
namespace Go.Proofs.YtkjdoknmmiaapaaDoor
open Go.RowKit
attribute [local go_sem ↓] Go.wp_at_zero Go.wp_at_succ

def NatOf3 (w w' : World) (e : Ending) (N : Nat) : Prop := ∃ a n c, e = .returned (.agg #[.slice a n c]) ∧ NatIs w' (.agg #[.slice a n c]) N ∧ Below w.heap.size w w'
theorem NatOut.three {w w' : World} {e : Ending} {N : Nat} (h : NatOut w w' e N) : NatOf3 w w' e N := by
  obtain ⟨v, h1, ⟨a, n, c, f, h2, h3, h4, h5⟩, h6⟩ := h
  exact ⟨a, n, c, by rw [h1, h2], ⟨a, n, c, f, rfl, h3, h4, h5⟩, h6⟩
def SubOf3 (w w' : World) (e : Ending) (N : Nat) (b : Bool) : Prop := ∃ a n c, e = .returned (.tuple #[.agg #[.slice a n c], .bool b]) ∧ NatIs w' (.agg #[.slice a n c]) N ∧ Below w.heap.size w w'
theorem SubOut.three {w w' : World} {e : Ending} {N M : Nat} {b : Bool} (h : SubOut w w' e N M) (hb : decide (M ≤ N) = b) : SubOf3 w w' e (N - M) b := by
  obtain ⟨v, h1, ⟨a, n, c, f, h2, h3, h4, h5⟩, h6⟩ := h
  exact ⟨a, n, c, by rw [h1, h2, hb], ⟨a, n, c, f, rfl, h3, h4, h5⟩, h6⟩

/-- What plusOne keeps: its two numbers, their blocks, the answer's. -/
def PO (k : Nat) (a : Option Addr) (n c : Nat) (m : Bool) (Z : Int) (a2 : Option Addr) (n2 c2 : Nat) (m2 : Bool) (Y : Int) (y : World) : Prop :=
  RS y (k + 1 + 1) ∧ Slot2 y (k + 1) (.slice a2 n2 c2) (.bool m2) ∧ Slot2 y k (.slice a n c) (.bool m) ∧ IntAt y a2 n2 c2 m2 Y ∧ IntAt y a n c m Z
theorem PO.put {k : Nat} {a : Option Addr} {n c : Nat} {m : Bool} {Z : Int} {a2 : Option Addr} {n2 c2 : Nat} {m2 : Bool} {Y : Int} {y : World} (h : PO k a n c m Z a2 n2 c2 m2 Y y) (a3 : Option Addr) (n3 c3 : Nat) (b : Bool) : PO k a n c m Z a2 n2 c2 m2 Y (putI y (k + 1 + 1) a3 n3 c3 b) :=
  ⟨h.1.put _ _ _ _, h.2.1.put (by omega) _ _ _ _, h.2.2.1.put (by omega) _ _ _ _, h.2.2.2.1.put h.1 _ _ _ _, h.2.2.2.2.put h.1 _ _ _ _⟩
theorem PO.stay {k : Nat} {a : Option Addr} {n c : Nat} {m : Bool} {Z : Int} {a2 : Option Addr} {n2 c2 : Nat} {m2 : Bool} {Y : Int} : ∀ x y, Below x.heap.size x y → PO k a n c m Z a2 n2 c2 m2 Y x → PO k a n c m Z a2 n2 c2 m2 Y y :=
  fun _ _ hb h => ⟨h.1.below hb, h.2.1.below hb, h.2.2.1.below hb, h.2.2.2.1.below hb, h.2.2.2.2.below hb⟩
theorem PO.start {w : World} {a : Option Addr} {n c : Nat} {m : Bool} {Z : Int} {a2 : Option Addr} {n2 c2 : Nat} {m2 : Bool} {Y : Int} (h : IntAt w a n c m Z) (g : IntAt w a2 n2 c2 m2 Y) :
    Bag w (PO w.heap.size a n c m Z a2 n2 c2 m2 Y) (((w.alloc (.cells #[.slice a n c, .bool m] 60)).alloc (.cells #[.slice a2 n2 c2, .bool m2] 60)).alloc (.cells #[.slice none 0 0, .bool false] 60)) := by
  have B0 := (((((Bag.start w).int h).int g).box2 (.slice a n c) (.bool m) 60).box2 (.slice a2 n2 c2) (.bool m2) 60).box2 (.slice none 0 0) (.bool false) 60
  simp only [World.size_alloc] at B0
  exact ⟨B0.below, PO.stay, B0.now.1.rs, B0.now.2.1, B0.now.2.2.1, B0.now.2.2.2.1, B0.now.2.2.2.2.1⟩
/-- The cells that plusOne loads. -/
def POc (k : Nat) (a : Option Addr) (n c : Nat) (m : Bool) (a2 : Option Addr) (n2 c2 : Nat) (m2 : Bool) (y : World) : Prop :=
  y.cell? ⟨k, 0, none⟩ = some (.slice a n c) ∧ y.cell? ⟨k, 1, none⟩ = some (.bool m) ∧ y.cell? ⟨k + 1, 0, none⟩ = some (.slice a2 n2 c2) ∧ y.cell? ⟨k + 1, 1, none⟩ = some (.bool m2)
theorem PO.c {k : Nat} {a : Option Addr} {n c : Nat} {m : Bool} {Z : Int} {a2 : Option Addr} {n2 c2 : Nat} {m2 : Bool} {Y : Int} {y : World} (h : PO k a n c m Z a2 n2 c2 m2 Y y) : POc k a n c m a2 n2 c2 m2 y :=
  ⟨h.2.2.1.cell, h.2.2.1.cell1, h.2.1.cell, h.2.1.cell1⟩

set_option maxHeartbeats 1600000 in
set_option maxRecDepth 100000 in
theorem plusOne_same (a : Option Addr) (n c : Nat) (m : Bool) (Z : Int) (a2 : Option Addr) (n2 c2 : Nat) (m2 : Bool) (Y : Int) (w : World) (h : IntAt w a n c m Z) (g : IntAt w a2 n2 c2 m2 Y)
    (k : Nat) (hk : k ≤ 900000) (hZ : Z.natAbs < 4294967296 ^ k) (hY : Y.natAbs < 4294967296 ^ k) (hmm : m = m2) :
    Calls Tryd.prog 94 #[.agg #[.slice a n c, .bool m], .agg #[.slice a2 n2 c2, .bool m2]] w fun e w' => IntTold w w' e (Z + Y) := by
  have BB := Lib.hid (PO.start h g)
  have N1 : Hid (∀ wz, Bag w (PO w.heap.size a n c m Z a2 n2 c2 m2 Y) wz → Calls Tryd.prog 53 #[.agg #[.slice a n c, .bool m]] wz fun e w' => e = .returned (.bool m) ∧ Below wz.heap.size wz w') := fun wz hz => neg_any a n c m Z wz hz.now.2.2.2.2
  have N2 : Hid (∀ wz, Bag w (PO w.heap.size a n c m Z a2 n2 c2 m2 Y) wz → Calls Tryd.prog 53 #[.agg #[.slice a2 n2 c2, .bool m2]] wz fun e w' => e = .returned (.bool m2) ∧ Below wz.heap.size wz w') := fun wz hz => neg_any a2 n2 c2 m2 Y wz hz.now.2.2.2.1
  have hm1 := h.1
  have hm2 := g.1
  have hd : (m == m2) = true := by rw [hmm]; simp
  have AD : Hid (∀ wz, Bag w (PO w.heap.size a n c m Z a2 n2 c2 m2 Y) wz → Calls Tryd.prog 35 #[.agg #[.slice a n c], .agg #[.slice a2 n2 c2]] wz fun e w' => NatOf3 wz w' e (Z.natAbs + Y.natAbs)) := fun wz hz => (add_any _ _ _ _ wz hz.now.2.2.2.2.2 hz.now.2.2.2.1.2 k hk hZ hY).mono fun _ _ h => h.three
  have hz : sgn m (Z.natAbs + Y.natAbs) = Z + Y := by
    rw [hm1] at hmm ⊢
    rw [hm2] at hmm
    by_cases h1 : Z < 0
    · rw [decide_eq_true h1] at hmm ⊢
      have := of_decide_eq_true hmm.symm
      simp [sgn]; omega
    · rw [decide_eq_false h1] at hmm ⊢
      have := of_decide_eq_false hmm.symm
      simp [sgn]; omega
  have OF : Hid (∀ a3 n3 c3 wz, NatIs wz (.agg #[.slice a3 n3 c3]) (Z.natAbs + Y.natAbs) → Calls Tryd.prog 92 #[.bool m, .agg #[.slice a3 n3 c3]] wz fun e w' => IntTold wz w' e (Z + Y)) := by
    intro a3 n3 c3 wz hi
    have := wof_any m a3 n3 c3 _ wz hi
    rw [hz] at this; exact this
  clear h g hm1 hm2 hmm hZ hY hz
  go_enter Tryd.func94, Tryd.ntmps94
  go_wp2_with fail
  go_region_held3 (fun y => (y.cell? ⟨w.heap.size, 0, none⟩ = some (.slice a n c) ∧ y.cell? ⟨w.heap.size, 1, none⟩ = some (.bool m) ∧ y.cell? ⟨w.heap.size + 1, 0, none⟩ = some (.slice a2 n2 c2) ∧ y.cell? ⟨w.heap.size + 1, 1, none⟩ = some (.bool m2)) ∧ Bag w (PO w.heap.size a n c m Z a2 n2 c2 m2 Y) y)
    (first | (have B9 := BB.out.drew; exact ⟨B9.now.c, B9⟩) | (have B9 := Bag.go (by go_split_ands; assumption) hb2; exact ⟨B9.now.c, B9⟩))
    (first | (go_at_call 53; (with_reducible refine (N1.out _ ?_).mono ?_); (go_split_ands; assumption); rintro e w2 ⟨rfl, hb2⟩) | (go_at_call 53; (with_reducible refine (N2.out _ ?_).mono ?_); (go_split_ands; assumption); rintro e w2 ⟨rfl, hb2⟩))
  have B3 := Lib.hid (show Bag w (PO w.heap.size a n c m Z a2 n2 c2 m2 Y) _ from by go_split_ands; assumption)
  go_wp2_with fail
  go_region_held3 (fun y => (y.cell? ⟨w.heap.size, 0, none⟩ = some (.slice a n c) ∧ y.cell? ⟨w.heap.size, 1, none⟩ = some (.bool m) ∧ y.cell? ⟨w.heap.size + 1, 0, none⟩ = some (.slice a2 n2 c2) ∧ y.cell? ⟨w.heap.size + 1, 1, none⟩ = some (.bool m2)) ∧ Bag w (PO w.heap.size a n c m Z a2 n2 c2 m2 Y) y)
    (first | (have B9 := B3.out.drew; exact ⟨B9.now.c, B9⟩) | (have B9 := Bag.go (by go_split_ands; assumption) hb2; exact ⟨B9.now.c, B9⟩) | (exact ⟨B8.out.now.c, B8.out⟩))
    (first
      | (go_at_call 53; (with_reducible refine (N1.out _ ?_).mono ?_); (go_split_ands; assumption); rintro e w2 ⟨rfl, hb2⟩)
      | (go_at_call 35; (with_reducible refine (AD.out _ ?_).mono ?_); (go_split_ands; assumption); rintro e w2 ⟨a3, n3, c3, rfl, hi3, hb2⟩)
      | (go_at_call 92; (with_reducible refine (OF.out a3 n3 c3 _ hi3).mono ?_); rintro e w2 ⟨a4, n4, c4, m4, rfl, hi4, hb2⟩; have B7 := Bag.go (show Bag w (PO w.heap.size a n c m Z a2 n2 c2 m2 Y) _ from by go_split_ands; assumption) hb2; obtain ⟨x8, b8, hs8, _⟩ := B7.now.1; have hc1 := hs8.cell; have hc2 := hs8.cell1; have hf1 := hs8.free; have hf2 := hs8.free1; clear hs8; have HS := B7.now.1.cells a4 n4 c4 m4; have HE := Lib.hid (IntTold.fin B7.below (by omega) B7.now.1 hi4); have B8 := Lib.hid (B7.put (by omega) (a := a4) (n := n4) (c := c4) (b := m4) (fun h => h.put _ _ _ _)); unfold putI at HS; clear B7))
  go_wp2
  exact bodyPost_ret (v := _) (by simp [results, Tryd.results94, go_sem, HS]) rfl HE.out

set_option maxHeartbeats 1600000 in
set_option maxRecDepth 100000 in
theorem plusOne_less (a : Option Addr) (n c : Nat) (m : Bool) (Z : Int) (a2 : Option Addr) (n2 c2 : Nat) (m2 : Bool) (Y : Int) (w : World) (h : IntAt w a n c m Z) (g : IntAt w a2 n2 c2 m2 Y)
    (hmm : ¬ m = m2) (hle : Y.natAbs ≤ Z.natAbs) :
    Calls Tryd.prog 94 #[.agg #[.slice a n c, .bool m], .agg #[.slice a2 n2 c2, .bool m2]] w fun e w' => IntTold w w' e (Z + Y) := by
  have BB := Lib.hid (PO.start h g)
  have q0 := BB.out.now.c.1
  have q1 := BB.out.now.c.2.1
  have q2 := BB.out.now.c.2.2.1
  have q3 := BB.out.now.c.2.2.2
  have N1 : Hid (∀ wz, Bag w (PO w.heap.size a n c m Z a2 n2 c2 m2 Y) wz → Calls Tryd.prog 53 #[.agg #[.slice a n c, .bool m]] wz fun e w' => e = .returned (.bool m) ∧ Below wz.heap.size wz w') := fun wz hz => neg_any a n c m Z wz hz.now.2.2.2.2
  have N2 : Hid (∀ wz, Bag w (PO w.heap.size a n c m Z a2 n2 c2 m2 Y) wz → Calls Tryd.prog 53 #[.agg #[.slice a2 n2 c2, .bool m2]] wz fun e w' => e = .returned (.bool m2) ∧ Below wz.heap.size wz w') := fun wz hz => neg_any a2 n2 c2 m2 Y wz hz.now.2.2.2.1
  have hm1 := h.1
  have hm2 := g.1
  have hd : (m == m2) = false := by simpa using hmm
  have SB : Hid (∀ wz, Bag w (PO w.heap.size a n c m Z a2 n2 c2 m2 Y) wz → Calls Tryd.prog 32 #[.agg #[.slice a n c], .agg #[.slice a2 n2 c2]] wz fun e w' => SubOf3 wz w' e (Z.natAbs - Y.natAbs) true) := fun wz hz => (sub_any _ _ _ _ wz hz.now.2.2.2.2.2 hz.now.2.2.2.1.2).mono fun _ _ h => h.three (decide_eq_true hle)
  have hz : sgn m (Z.natAbs - Y.natAbs) = Z + Y := by
    by_cases h1 : Z < 0
    · rw [decide_eq_true h1] at hm1
      rw [hm1] at hmm
      by_cases h2 : Y < 0
      · rw [decide_eq_true h2] at hm2; exact absurd hm2.symm hmm
      · rw [decide_eq_false h2] at hm2
        rw [hm1]; simp [sgn]; omega
    · rw [decide_eq_false h1] at hm1
      rw [hm1] at hmm
      by_cases h2 : Y < 0
      · rw [decide_eq_true h2] at hm2
        rw [hm1]; simp [sgn]; omega
      · rw [decide_eq_false h2] at hm2; exact absurd hm2.symm hmm
  have OF : Hid (∀ a3 n3 c3 wz, NatIs wz (.agg #[.slice a3 n3 c3]) (Z.natAbs - Y.natAbs) → Calls Tryd.prog 92 #[.bool m, .agg #[.slice a3 n3 c3]] wz fun e w' => IntTold wz w' e (Z + Y)) := by
    intro a3 n3 c3 wz hi
    have := wof_any m a3 n3 c3 _ wz hi
    rw [hz] at this; exact this
  clear h g hm1 hm2 hmm hz hle
  go_enter Tryd.func94, Tryd.ntmps94
  go_wp2_with fail
  go_region_held3 (fun y => (y.cell? ⟨w.heap.size, 0, none⟩ = some (.slice a n c) ∧ y.cell? ⟨w.heap.size, 1, none⟩ = some (.bool m) ∧ y.cell? ⟨w.heap.size + 1, 0, none⟩ = some (.slice a2 n2 c2) ∧ y.cell? ⟨w.heap.size + 1, 1, none⟩ = some (.bool m2)) ∧ Bag w (PO w.heap.size a n c m Z a2 n2 c2 m2 Y) y)
    (first | (have B9 := BB.out.drew; exact ⟨B9.now.c, B9⟩) | (have B9 := Bag.go (by go_split_ands; assumption) hb2; exact ⟨B9.now.c, B9⟩))
    (first | (go_at_call 53; (with_reducible refine (N1.out _ ?_).mono ?_); (go_split_ands; assumption); rintro e w2 ⟨rfl, hb2⟩) | (go_at_call 53; (with_reducible refine (N2.out _ ?_).mono ?_); (go_split_ands; assumption); rintro e w2 ⟨rfl, hb2⟩))
  have B3 := Lib.hid (show Bag w (PO w.heap.size a n c m Z a2 n2 c2 m2 Y) _ from by go_split_ands; assumption)
  clear q0 q1 q2 q3
  have q0 := B3.out.now.c.1
  have q1 := B3.out.now.c.2.1
  have q2 := B3.out.now.c.2.2.1
  have q3 := B3.out.now.c.2.2.2
  go_wp2_with fail
  go_at_call 32
  (with_reducible refine (SB.out _ B3.out).mono ?_)
  rintro e w4 ⟨a3, n3, c3, rfl, hi3, hb4⟩
  have B4 := Lib.hid (((B3.out.go hb4).nat hi3).box (.slice a3 n3 c3) 25)
  have hk4 : w.heap.size + 1 + 1 < w4.heap.size := RS.lt (B3.out.go hb4).now.1
  clear hb4 hi3 q0 q1 q2 q3
  have q0 := B4.out.now.2.2.c.1
  have q1 := B4.out.now.2.2.c.2.1
  have q2 := B4.out.now.2.2.c.2.2.1
  have q3 := B4.out.now.2.2.c.2.2.2
  have q4 := B4.out.now.1.cell
  go_wp2_with fail
  go_region_held3 (fun y => (y.cell? ⟨w.heap.size, 0, none⟩ = some (.slice a n c) ∧ y.cell? ⟨w.heap.size, 1, none⟩ = some (.bool m) ∧ y.cell? ⟨w.heap.size + 1, 0, none⟩ = some (.slice a2 n2 c2) ∧ y.cell? ⟨w.heap.size + 1, 1, none⟩ = some (.bool m2)) ∧ y.cell? ⟨w4.heap.size, 0, none⟩ = some (.slice a3 n3 c3) ∧ Bag w (fun y => Slot y w4.heap.size (.slice a3 n3 c3) ∧ NatIs y (.agg #[.slice a3 n3 c3]) (Z.natAbs - Y.natAbs) ∧ PO w.heap.size a n c m Z a2 n2 c2 m2 Y y) y)
    (first | (have B9 := B4.out.drew; exact ⟨B9.now.2.2.c, B9.now.1.cell, B9⟩) | (have B9 := Bag.go (by go_split_ands; assumption) hb2; exact ⟨B9.now.2.2.c, B9.now.1.cell, B9⟩) | (exact ⟨B8.out.now.2.2.c, B8.out.now.1.cell, B8.out⟩))
    (first
      | (go_at_call 53; (with_reducible refine (N1.out _ ?_).mono ?_); (have B6 := (show Bag w (fun y => Slot y w4.heap.size (.slice a3 n3 c3) ∧ NatIs y (.agg #[.slice a3 n3 c3]) (Z.natAbs - Y.natAbs) ∧ PO w.heap.size a n c m Z a2 n2 c2 m2 Y y) _ from by go_split_ands; assumption); exact ⟨B6.below, PO.stay, B6.now.2.2⟩); rintro e w2 ⟨rfl, hb2⟩)
      | (go_at_call 92; (with_reducible refine (OF.out a3 n3 c3 _ ?_).mono ?_); (have B6 := (show Bag w (fun y => Slot y w4.heap.size (.slice a3 n3 c3) ∧ NatIs y (.agg #[.slice a3 n3 c3]) (Z.natAbs - Y.natAbs) ∧ PO w.heap.size a n c m Z a2 n2 c2 m2 Y y) _ from by go_split_ands; assumption); exact B6.now.2.1); rintro e w2 ⟨a4, n4, c4, m4, rfl, hi4, hb2⟩; have B7 := Bag.go (show Bag w (fun y => Slot y w4.heap.size (.slice a3 n3 c3) ∧ NatIs y (.agg #[.slice a3 n3 c3]) (Z.natAbs - Y.natAbs) ∧ PO w.heap.size a n c m Z a2 n2 c2 m2 Y y) _ from by go_split_ands; assumption) hb2; obtain ⟨x8, b8, hs8, _⟩ := B7.now.2.2.1; have hc1 := hs8.cell; have hc2 := hs8.cell1; have hf1 := hs8.free; have hf2 := hs8.free1; clear hs8; have HS := B7.now.2.2.1.cells a4 n4 c4 m4; have HE := Lib.hid (IntTold.fin B7.below (by omega) B7.now.2.2.1 hi4); have B8 := Lib.hid (B7.put (by omega) (a := a4) (n := n4) (c := c4) (b := m4) (fun h => ⟨h.1.put (by omega) _ _ _ _, h.2.1.put h.2.2.1 _ _ _ _, h.2.2.put _ _ _ _⟩)); unfold putI at HS; clear B7))
  go_wp2
  exact bodyPost_ret (v := _) (by simp [results, Tryd.results94, go_sem, HS]) rfl HE.out

set_option maxHeartbeats 1600000 in
set_option maxRecDepth 100000 in
theorem plusOne_more (a : Option Addr) (n c : Nat) (m : Bool) (Z : Int) (a2 : Option Addr) (n2 c2 : Nat) (m2 : Bool) (Y : Int) (w : World) (h : IntAt w a n c m Z) (g : IntAt w a2 n2 c2 m2 Y)
    (hmm : ¬ m = m2) (hle : Z.natAbs < Y.natAbs) :
    Calls Tryd.prog 94 #[.agg #[.slice a n c, .bool m], .agg #[.slice a2 n2 c2, .bool m2]] w fun e w' => IntTold w w' e (Z + Y) := by
  have BB := Lib.hid (PO.start h g)
  have q0 := BB.out.now.c.1
  have q1 := BB.out.now.c.2.1
  have q2 := BB.out.now.c.2.2.1
  have q3 := BB.out.now.c.2.2.2
  have N1 : Hid (∀ wz, Bag w (PO w.heap.size a n c m Z a2 n2 c2 m2 Y) wz → Calls Tryd.prog 53 #[.agg #[.slice a n c, .bool m]] wz fun e w' => e = .returned (.bool m) ∧ Below wz.heap.size wz w') := fun wz hz => neg_any a n c m Z wz hz.now.2.2.2.2
  have N2 : Hid (∀ wz, Bag w (PO w.heap.size a n c m Z a2 n2 c2 m2 Y) wz → Calls Tryd.prog 53 #[.agg #[.slice a2 n2 c2, .bool m2]] wz fun e w' => e = .returned (.bool m2) ∧ Below wz.heap.size wz w') := fun wz hz => neg_any a2 n2 c2 m2 Y wz hz.now.2.2.2.1
  have hm1 := h.1
  have hm2 := g.1
  have hd : (m == m2) = false := by simpa using hmm
  have SB : Hid (∀ wz, Bag w (PO w.heap.size a n c m Z a2 n2 c2 m2 Y) wz → Calls Tryd.prog 32 #[.agg #[.slice a n c], .agg #[.slice a2 n2 c2]] wz fun e w' => SubOf3 wz w' e (Z.natAbs - Y.natAbs) false) := fun wz hz => (sub_any _ _ _ _ wz hz.now.2.2.2.2.2 hz.now.2.2.2.1.2).mono fun _ _ h => h.three (decide_eq_false (by omega))
  have SB2 : Hid (∀ wz, Bag w (PO w.heap.size a n c m Z a2 n2 c2 m2 Y) wz → Calls Tryd.prog 32 #[.agg #[.slice a2 n2 c2], .agg #[.slice a n c]] wz fun e w' => SubOf3 wz w' e (Y.natAbs - Z.natAbs) true) := fun wz hz => (sub_any _ _ _ _ wz hz.now.2.2.2.1.2 hz.now.2.2.2.2.2).mono fun _ _ h => h.three (decide_eq_true (by omega))
  have hz : sgn m2 (Y.natAbs - Z.natAbs) = Z + Y := by
    by_cases h1 : Z < 0
    · rw [decide_eq_true h1] at hm1
      rw [hm1] at hmm
      by_cases h2 : Y < 0
      · rw [decide_eq_true h2] at hm2; exact absurd hm2.symm hmm
      · rw [decide_eq_false h2] at hm2
        rw [hm2]; simp [sgn]; omega
    · rw [decide_eq_false h1] at hm1
      rw [hm1] at hmm
      by_cases h2 : Y < 0
      · rw [decide_eq_true h2] at hm2
        rw [hm2]; simp [sgn]; omega
      · rw [decide_eq_false h2] at hm2; exact absurd hm2.symm hmm
  have OF : Hid (∀ a3 n3 c3 wz, NatIs wz (.agg #[.slice a3 n3 c3]) (Y.natAbs - Z.natAbs) → Calls Tryd.prog 92 #[.bool m2, .agg #[.slice a3 n3 c3]] wz fun e w' => IntTold wz w' e (Z + Y)) := by
    intro a3 n3 c3 wz hi
    have := wof_any m2 a3 n3 c3 _ wz hi
    rw [hz] at this; exact this
  clear h g hm1 hm2 hmm hz hle
  go_enter Tryd.func94, Tryd.ntmps94
  go_wp2_with fail
  go_region_held3 (fun y => (y.cell? ⟨w.heap.size, 0, none⟩ = some (.slice a n c) ∧ y.cell? ⟨w.heap.size, 1, none⟩ = some (.bool m) ∧ y.cell? ⟨w.heap.size + 1, 0, none⟩ = some (.slice a2 n2 c2) ∧ y.cell? ⟨w.heap.size + 1, 1, none⟩ = some (.bool m2)) ∧ Bag w (PO w.heap.size a n c m Z a2 n2 c2 m2 Y) y)
    (first | (have B9 := BB.out.drew; exact ⟨B9.now.c, B9⟩) | (have B9 := Bag.go (by go_split_ands; assumption) hb2; exact ⟨B9.now.c, B9⟩))
    (first | (go_at_call 53; (with_reducible refine (N1.out _ ?_).mono ?_); (go_split_ands; assumption); rintro e w2 ⟨rfl, hb2⟩) | (go_at_call 53; (with_reducible refine (N2.out _ ?_).mono ?_); (go_split_ands; assumption); rintro e w2 ⟨rfl, hb2⟩))
  have B3 := Lib.hid (show Bag w (PO w.heap.size a n c m Z a2 n2 c2 m2 Y) _ from by go_split_ands; assumption)
  clear q0 q1 q2 q3
  have q0 := B3.out.now.c.1
  have q1 := B3.out.now.c.2.1
  have q2 := B3.out.now.c.2.2.1
  have q3 := B3.out.now.c.2.2.2
  go_wp2_with fail
  go_at_call 32
  (with_reducible refine (SB.out _ B3.out).mono ?_)
  rintro e w4 ⟨a3, n3, c3, rfl, hi3, hb4⟩
  have B3 := Lib.hid ((B3.out.go hb4).alloc (.cells #[.slice a3 n3 c3] 25))
  clear hb4 hi3 q0 q1 q2 q3
  have q0 := B3.out.now.c.1
  have q1 := B3.out.now.c.2.1
  have q2 := B3.out.now.c.2.2.1
  have q3 := B3.out.now.c.2.2.2
  go_wp2_with fail
  go_at_call 32
  (with_reducible refine (SB2.out _ B3.out).mono ?_)
  rintro e w4 ⟨a3, n3, c3, rfl, hi3, hb4⟩
  have B4 := Lib.hid (((B3.out.go hb4).nat hi3).box (.slice a3 n3 c3) 25)
  have hk4 : w.heap.size + 1 + 1 < w4.heap.size := RS.lt (B3.out.go hb4).now.1
  clear hb4 hi3 q0 q1 q2 q3
  have q0 := B4.out.now.2.2.c.1
  have q1 := B4.out.now.2.2.c.2.1
  have q2 := B4.out.now.2.2.c.2.2.1
  have q3 := B4.out.now.2.2.c.2.2.2
  have q4 := B4.out.now.1.cell
  go_wp2_with fail
  go_region_held3 (fun y => (y.cell? ⟨w.heap.size, 0, none⟩ = some (.slice a n c) ∧ y.cell? ⟨w.heap.size, 1, none⟩ = some (.bool m) ∧ y.cell? ⟨w.heap.size + 1, 0, none⟩ = some (.slice a2 n2 c2) ∧ y.cell? ⟨w.heap.size + 1, 1, none⟩ = some (.bool m2)) ∧ y.cell? ⟨w4.heap.size, 0, none⟩ = some (.slice a3 n3 c3) ∧ Bag w (fun y => Slot y w4.heap.size (.slice a3 n3 c3) ∧ NatIs y (.agg #[.slice a3 n3 c3]) (Y.natAbs - Z.natAbs) ∧ PO w.heap.size a n c m Z a2 n2 c2 m2 Y y) y)
    (first | (have B9 := B4.out.drew; exact ⟨B9.now.2.2.c, B9.now.1.cell, B9⟩) | (have B9 := Bag.go (by go_split_ands; assumption) hb2; exact ⟨B9.now.2.2.c, B9.now.1.cell, B9⟩) | (exact ⟨B8.out.now.2.2.c, B8.out.now.1.cell, B8.out⟩))
    (first
      | (go_at_call 53; (with_reducible refine (N2.out _ ?_).mono ?_); (have B6 := (show Bag w (fun y => Slot y w4.heap.size (.slice a3 n3 c3) ∧ NatIs y (.agg #[.slice a3 n3 c3]) (Y.natAbs - Z.natAbs) ∧ PO w.heap.size a n c m Z a2 n2 c2 m2 Y y) _ from by go_split_ands; assumption); exact ⟨B6.below, PO.stay, B6.now.2.2⟩); rintro e w2 ⟨rfl, hb2⟩)
      | (go_at_call 92; (with_reducible refine (OF.out a3 n3 c3 _ ?_).mono ?_); (have B6 := (show Bag w (fun y => Slot y w4.heap.size (.slice a3 n3 c3) ∧ NatIs y (.agg #[.slice a3 n3 c3]) (Y.natAbs - Z.natAbs) ∧ PO w.heap.size a n c m Z a2 n2 c2 m2 Y y) _ from by go_split_ands; assumption); exact B6.now.2.1); rintro e w2 ⟨a4, n4, c4, m4, rfl, hi4, hb2⟩; have B7 := Bag.go (show Bag w (fun y => Slot y w4.heap.size (.slice a3 n3 c3) ∧ NatIs y (.agg #[.slice a3 n3 c3]) (Y.natAbs - Z.natAbs) ∧ PO w.heap.size a n c m Z a2 n2 c2 m2 Y y) _ from by go_split_ands; assumption) hb2; obtain ⟨x8, b8, hs8, _⟩ := B7.now.2.2.1; have hc1 := hs8.cell; have hc2 := hs8.cell1; have hf1 := hs8.free; have hf2 := hs8.free1; clear hs8; have HS := B7.now.2.2.1.cells a4 n4 c4 m4; have HE := Lib.hid (IntTold.fin B7.below (by omega) B7.now.2.2.1 hi4); have B8 := Lib.hid (B7.put (by omega) (a := a4) (n := n4) (c := c4) (b := m4) (fun h => ⟨h.1.put (by omega) _ _ _ _, h.2.1.put h.2.2.1 _ _ _ _, h.2.2.put _ _ _ _⟩)); unfold putI at HS; clear B7))
  go_wp2
  exact bodyPost_ret (v := _) (by simp [results, Tryd.results94, go_sem, HS]) rfl HE.out

theorem plusOne_any (a : Option Addr) (n c : Nat) (m : Bool) (Z : Int) (a2 : Option Addr) (n2 c2 : Nat) (m2 : Bool) (Y : Int) (w : World) (h : IntAt w a n c m Z) (g : IntAt w a2 n2 c2 m2 Y)
    (k : Nat) (hk : k ≤ 900000) (hZ : Z.natAbs < 4294967296 ^ k) (hY : Y.natAbs < 4294967296 ^ k) :
    Calls Tryd.prog 94 #[.agg #[.slice a n c, .bool m], .agg #[.slice a2 n2 c2, .bool m2]] w fun e w' => IntTold w w' e (Z + Y) := by
  by_cases hmm : m = m2
  · exact plusOne_same a n c m Z a2 n2 c2 m2 Y w h g k hk hZ hY hmm
  · rcases Nat.lt_or_ge Z.natAbs Y.natAbs with hl | hl
    · exact plusOne_more a n c m Z a2 n2 c2 m2 Y w h g hmm hl
    · exact plusOne_less a n c m Z a2 n2 c2 m2 Y w h g hmm hl

end Go.Proofs.YtkjdoknmmiaapaaDoor
