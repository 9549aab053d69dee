/-
  Package whole: plusOne, by contract.
  Package whole: Plus, by contract.
  Package whole: Floor, by contract.
-/
import Derived.Test.YthklcdcikmninaaGreatDoorK6
namespace Go.Proofs.YthklcdcikmninaaGreatDoor
open Go.RowKit
attribute [local go_sem ↓] Go.wp_at_zero Go.wp_at_succ

def NatOf3 (w w' : World) (e : Ending) (N : Nat) : Prop := ∃ a n c, e = .returned (.agg #[.slice a n c]) ∧ NatIs w' (.agg #[.slice a n c]) N ∧ Below w.heap.size w w'
theorem NatOut.three {w w' : World} {e : Ending} {N : Nat} (h : NatOut w w' e N) : NatOf3 w w' e N := by
  obtain ⟨v, h1, ⟨a, n, c, f, h2, h3, h4, h5⟩, h6⟩ := h
  exact ⟨a, n, c, by rw [h1, h2], ⟨a, n, c, f, rfl, h3, h4, h5⟩, h6⟩
def SubOf3 (w w' : World) (e : Ending) (N : Nat) (b : Bool) : Prop := ∃ a n c, e = .returned (.tuple #[.agg #[.slice a n c], .bool b]) ∧ NatIs w' (.agg #[.slice a n c]) N ∧ Below w.heap.size w w'
theorem SubOut.three {w w' : World} {e : Ending} {N M : Nat} {b : Bool} (h : SubOut w w' e N M) (hb : decide (M ≤ N) = b) : SubOf3 w w' e (N - M) b := by
  obtain ⟨v, h1, ⟨a, n, c, f, h2, h3, h4, h5⟩, h6⟩ := h
  exact ⟨a, n, c, by rw [h1, h2, hb], ⟨a, n, c, f, rfl, h3, h4, h5⟩, h6⟩

/-- What plusOne keeps: its two numbers, their blocks, the answer's. -/
def PO (k : Nat) (a : Option Addr) (n c : Nat) (m : Bool) (Z : Int) (a2 : Option Addr) (n2 c2 : Nat) (m2 : Bool) (Y : Int) (y : World) : Prop :=
  RS y (k + 1 + 1) ∧ Slot2 y (k + 1) (.slice a2 n2 c2) (.bool m2) ∧ Slot2 y k (.slice a n c) (.bool m) ∧ IntAt y a2 n2 c2 m2 Y ∧ IntAt y a n c m Z
theorem PO.put {k : Nat} {a : Option Addr} {n c : Nat} {m : Bool} {Z : Int} {a2 : Option Addr} {n2 c2 : Nat} {m2 : Bool} {Y : Int} {y : World} (h : PO k a n c m Z a2 n2 c2 m2 Y y) (a3 : Option Addr) (n3 c3 : Nat) (b : Bool) : PO k a n c m Z a2 n2 c2 m2 Y (putI y (k + 1 + 1) a3 n3 c3 b) :=
  ⟨h.1.put _ _ _ _, h.2.1.put (by omega) _ _ _ _, h.2.2.1.put (by omega) _ _ _ _, h.2.2.2.1.put h.1 _ _ _ _, h.2.2.2.2.put h.1 _ _ _ _⟩
theorem PO.stay {k : Nat} {a : Option Addr} {n c : Nat} {m : Bool} {Z : Int} {a2 : Option Addr} {n2 c2 : Nat} {m2 : Bool} {Y : Int} : ∀ x y, Below x.heap.size x y → PO k a n c m Z a2 n2 c2 m2 Y x → PO k a n c m Z a2 n2 c2 m2 Y y :=
  fun _ _ hb h => ⟨h.1.below hb, h.2.1.below hb, h.2.2.1.below hb, h.2.2.2.1.below hb, h.2.2.2.2.below hb⟩
theorem PO.start {w : World} {a : Option Addr} {n c : Nat} {m : Bool} {Z : Int} {a2 : Option Addr} {n2 c2 : Nat} {m2 : Bool} {Y : Int} (h : IntAt w a n c m Z) (g : IntAt w a2 n2 c2 m2 Y) :
    Bag w (PO w.heap.size a n c m Z a2 n2 c2 m2 Y) (((w.alloc (.cells #[.slice a n c, .bool m] 28)).alloc (.cells #[.slice a2 n2 c2, .bool m2] 28)).alloc (.cells #[.slice none 0 0, .bool false] 28)) := by
  have B0 := (((((Bag.start w).int h).int g).box2 (.slice a n c) (.bool m) 28).box2 (.slice a2 n2 c2) (.bool m2) 28).box2 (.slice none 0 0) (.bool false) 28
  simp only [World.size_alloc] at B0
  exact ⟨B0.below, PO.stay, B0.now.1.rs, B0.now.2.1, B0.now.2.2.1, B0.now.2.2.2.1, B0.now.2.2.2.2.1⟩
/-- The cells that plusOne loads. -/
def POc (k : Nat) (a : Option Addr) (n c : Nat) (m : Bool) (a2 : Option Addr) (n2 c2 : Nat) (m2 : Bool) (y : World) : Prop :=
  y.cell? ⟨k, 0, none⟩ = some (.slice a n c) ∧ y.cell? ⟨k, 1, none⟩ = some (.bool m) ∧ y.cell? ⟨k + 1, 0, none⟩ = some (.slice a2 n2 c2) ∧ y.cell? ⟨k + 1, 1, none⟩ = some (.bool m2)
theorem PO.c {k : Nat} {a : Option Addr} {n c : Nat} {m : Bool} {Z : Int} {a2 : Option Addr} {n2 c2 : Nat} {m2 : Bool} {Y : Int} {y : World} (h : PO k a n c m Z a2 n2 c2 m2 Y y) : POc k a n c m a2 n2 c2 m2 y :=
  ⟨h.2.2.1.cell, h.2.2.1.cell1, h.2.1.cell, h.2.1.cell1⟩

set_option maxHeartbeats 1600000 in
set_option maxRecDepth 100000 in
theorem plusOne_same (a : Option Addr) (n c : Nat) (m : Bool) (Z : Int) (a2 : Option Addr) (n2 c2 : Nat) (m2 : Bool) (Y : Int) (w : World) (h : IntAt w a n c m Z) (g : IntAt w a2 n2 c2 m2 Y)
    (k : Nat) (hk : k ≤ 900000) (hZ : Z.natAbs < 4294967296 ^ k) (hY : Y.natAbs < 4294967296 ^ k) (hmm : m = m2) :
    Calls Tryz.prog 62 #[.agg #[.slice a n c, .bool m], .agg #[.slice a2 n2 c2, .bool m2]] w fun e w' => IntTold w w' e (Z + Y) := by
  have BB := Lib.hid (PO.start h g)
  have N1 : Hid (∀ wz, Bag w (PO w.heap.size a n c m Z a2 n2 c2 m2 Y) wz → Calls Tryz.prog 37 #[.agg #[.slice a n c, .bool m]] wz fun e w' => e = .returned (.bool m) ∧ Below wz.heap.size wz w') := fun wz hz => neg_any a n c m Z wz hz.now.2.2.2.2
  have N2 : Hid (∀ wz, Bag w (PO w.heap.size a n c m Z a2 n2 c2 m2 Y) wz → Calls Tryz.prog 37 #[.agg #[.slice a2 n2 c2, .bool m2]] wz fun e w' => e = .returned (.bool m2) ∧ Below wz.heap.size wz w') := fun wz hz => neg_any a2 n2 c2 m2 Y wz hz.now.2.2.2.1
  have hm1 := h.1
  have hm2 := g.1
  have hd : (m == m2) = true := by rw [hmm]; simp
  have AD : Hid (∀ wz, Bag w (PO w.heap.size a n c m Z a2 n2 c2 m2 Y) wz → Calls Tryz.prog 58 #[.agg #[.slice a n c], .agg #[.slice a2 n2 c2]] wz fun e w' => NatOf3 wz w' e (Z.natAbs + Y.natAbs)) := fun wz hz => (add_any _ _ _ _ wz hz.now.2.2.2.2.2 hz.now.2.2.2.1.2 k hk hZ hY).mono fun _ _ h => h.three
  have hz : sgn m (Z.natAbs + Y.natAbs) = Z + Y := by
    rw [hm1] at hmm ⊢
    rw [hm2] at hmm
    by_cases h1 : Z < 0
    · rw [decide_eq_true h1] at hmm ⊢
      have := of_decide_eq_true hmm.symm
      simp [sgn]; omega
    · rw [decide_eq_false h1] at hmm ⊢
      have := of_decide_eq_false hmm.symm
      simp [sgn]; omega
  have OF : Hid (∀ a3 n3 c3 wz, NatIs wz (.agg #[.slice a3 n3 c3]) (Z.natAbs + Y.natAbs) → Calls Tryz.prog 36 #[.bool m, .agg #[.slice a3 n3 c3]] wz fun e w' => IntTold wz w' e (Z + Y)) := by
    intro a3 n3 c3 wz hi
    have := wof_any m a3 n3 c3 _ wz hi
    rw [hz] at this; exact this
  clear h g hm1 hm2 hmm hZ hY hz
  go_enter Tryz.func62, Tryz.ntmps62
  go_wp2_with fail
  go_region_held3 (fun y => (y.cell? ⟨w.heap.size, 0, none⟩ = some (.slice a n c) ∧ y.cell? ⟨w.heap.size, 1, none⟩ = some (.bool m) ∧ y.cell? ⟨w.heap.size + 1, 0, none⟩ = some (.slice a2 n2 c2) ∧ y.cell? ⟨w.heap.size + 1, 1, none⟩ = some (.bool m2)) ∧ Bag w (PO w.heap.size a n c m Z a2 n2 c2 m2 Y) y)
    (first | (have B9 := BB.out.drew; exact ⟨B9.now.c, B9⟩) | (have B9 := Bag.go (by go_split_ands; assumption) hb2; exact ⟨B9.now.c, B9⟩))
    (first | (go_at_call 37; (with_reducible refine (N1.out _ ?_).mono ?_); (go_split_ands; assumption); rintro e w2 ⟨rfl, hb2⟩) | (go_at_call 37; (with_reducible refine (N2.out _ ?_).mono ?_); (go_split_ands; assumption); rintro e w2 ⟨rfl, hb2⟩))
  have B3 := Lib.hid (show Bag w (PO w.heap.size a n c m Z a2 n2 c2 m2 Y) _ from by go_split_ands; assumption)
  go_wp2_with fail
  go_region_held3 (fun y => (y.cell? ⟨w.heap.size, 0, none⟩ = some (.slice a n c) ∧ y.cell? ⟨w.heap.size, 1, none⟩ = some (.bool m) ∧ y.cell? ⟨w.heap.size + 1, 0, none⟩ = some (.slice a2 n2 c2) ∧ y.cell? ⟨w.heap.size + 1, 1, none⟩ = some (.bool m2)) ∧ Bag w (PO w.heap.size a n c m Z a2 n2 c2 m2 Y) y)
    (first | (have B9 := B3.out.drew; exact ⟨B9.now.c, B9⟩) | (have B9 := Bag.go (by go_split_ands; assumption) hb2; exact ⟨B9.now.c, B9⟩) | (exact ⟨B8.out.now.c, B8.out⟩))
    (first
      | (go_at_call 37; (with_reducible refine (N1.out _ ?_).mono ?_); (go_split_ands; assumption); rintro e w2 ⟨rfl, hb2⟩)
      | (go_at_call 58; (with_reducible refine (AD.out _ ?_).mono ?_); (go_split_ands; assumption); rintro e w2 ⟨a3, n3, c3, rfl, hi3, hb2⟩)
      | (go_at_call 36; (with_reducible refine (OF.out a3 n3 c3 _ hi3).mono ?_); rintro e w2 ⟨a4, n4, c4, m4, rfl, hi4, hb2⟩; have B7 := Bag.go (show Bag w (PO w.heap.size a n c m Z a2 n2 c2 m2 Y) _ from by go_split_ands; assumption) hb2; obtain ⟨x8, b8, hs8, _⟩ := B7.now.1; have hc1 := hs8.cell; have hc2 := hs8.cell1; have hf1 := hs8.free; have hf2 := hs8.free1; clear hs8; have HS := B7.now.1.cells a4 n4 c4 m4; have HE := Lib.hid (IntTold.fin B7.below (by omega) B7.now.1 hi4); have B8 := Lib.hid (B7.put (by omega) (a := a4) (n := n4) (c := c4) (b := m4) (fun h => h.put _ _ _ _)); unfold putI at HS; clear B7))
  go_wp2
  exact bodyPost_ret (v := _) (by simp [results, Tryz.results62, go_sem, HS]) rfl HE.out

set_option maxHeartbeats 1600000 in
set_option maxRecDepth 100000 in
theorem plusOne_less (a : Option Addr) (n c : Nat) (m : Bool) (Z : Int) (a2 : Option Addr) (n2 c2 : Nat) (m2 : Bool) (Y : Int) (w : World) (h : IntAt w a n c m Z) (g : IntAt w a2 n2 c2 m2 Y)
    (hmm : ¬ m = m2) (hle : Y.natAbs ≤ Z.natAbs) :
    Calls Tryz.prog 62 #[.agg #[.slice a n c, .bool m], .agg #[.slice a2 n2 c2, .bool m2]] w fun e w' => IntTold w w' e (Z + Y) := by
  have BB := Lib.hid (PO.start h g)
  have q0 := BB.out.now.c.1
  have q1 := BB.out.now.c.2.1
  have q2 := BB.out.now.c.2.2.1
  have q3 := BB.out.now.c.2.2.2
  have N1 : Hid (∀ wz, Bag w (PO w.heap.size a n c m Z a2 n2 c2 m2 Y) wz → Calls Tryz.prog 37 #[.agg #[.slice a n c, .bool m]] wz fun e w' => e = .returned (.bool m) ∧ Below wz.heap.size wz w') := fun wz hz => neg_any a n c m Z wz hz.now.2.2.2.2
  have N2 : Hid (∀ wz, Bag w (PO w.heap.size a n c m Z a2 n2 c2 m2 Y) wz → Calls Tryz.prog 37 #[.agg #[.slice a2 n2 c2, .bool m2]] wz fun e w' => e = .returned (.bool m2) ∧ Below wz.heap.size wz w') := fun wz hz => neg_any a2 n2 c2 m2 Y wz hz.now.2.2.2.1
  have hm1 := h.1
  have hm2 := g.1
  have hd : (m == m2) = false := by simpa using hmm
  have SB : Hid (∀ wz, Bag w (PO w.heap.size a n c m Z a2 n2 c2 m2 Y) wz → Calls Tryz.prog 76 #[.agg #[.slice a n c], .agg #[.slice a2 n2 c2]] wz fun e w' => SubOf3 wz w' e (Z.natAbs - Y.natAbs) true) := fun wz hz => (sub_any _ _ _ _ wz hz.now.2.2.2.2.2 hz.now.2.2.2.1.2).mono fun _ _ h => h.three (decide_eq_true hle)
  have hz : sgn m (Z.natAbs - Y.natAbs) = Z + Y := by
    by_cases h1 : Z < 0
    · rw [decide_eq_true h1] at hm1
      rw [hm1] at hmm
      by_cases h2 : Y < 0
      · rw [decide_eq_true h2] at hm2; exact absurd hm2.symm hmm
      · rw [decide_eq_false h2] at hm2
        rw [hm1]; simp [sgn]; omega
    · rw [decide_eq_false h1] at hm1
      rw [hm1] at hmm
      by_cases h2 : Y < 0
      · rw [decide_eq_true h2] at hm2
        rw [hm1]; simp [sgn]; omega
      · rw [decide_eq_false h2] at hm2; exact absurd hm2.symm hmm
  have OF : Hid (∀ a3 n3 c3 wz, NatIs wz (.agg #[.slice a3 n3 c3]) (Z.natAbs - Y.natAbs) → Calls Tryz.prog 36 #[.bool m, .agg #[.slice a3 n3 c3]] wz fun e w' => IntTold wz w' e (Z + Y)) := by
    intro a3 n3 c3 wz hi
    have := wof_any m a3 n3 c3 _ wz hi
    rw [hz] at this; exact this
  clear h g hm1 hm2 hmm hz hle
  go_enter Tryz.func62, Tryz.ntmps62
  go_wp2_with fail
  go_region_held3 (fun y => (y.cell? ⟨w.heap.size, 0, none⟩ = some (.slice a n c) ∧ y.cell? ⟨w.heap.size, 1, none⟩ = some (.bool m) ∧ y.cell? ⟨w.heap.size + 1, 0, none⟩ = some (.slice a2 n2 c2) ∧ y.cell? ⟨w.heap.size + 1, 1, none⟩ = some (.bool m2)) ∧ Bag w (PO w.heap.size a n c m Z a2 n2 c2 m2 Y) y)
    (first | (have B9 := BB.out.drew; exact ⟨B9.now.c, B9⟩) | (have B9 := Bag.go (by go_split_ands; assumption) hb2; exact ⟨B9.now.c, B9⟩))
    (first | (go_at_call 37; (with_reducible refine (N1.out _ ?_).mono ?_); (go_split_ands; assumption); rintro e w2 ⟨rfl, hb2⟩) | (go_at_call 37; (with_reducible refine (N2.out _ ?_).mono ?_); (go_split_ands; assumption); rintro e w2 ⟨rfl, hb2⟩))
  have B3 := Lib.hid (show Bag w (PO w.heap.size a n c m Z a2 n2 c2 m2 Y) _ from by go_split_ands; assumption)
  clear q0 q1 q2 q3
  have q0 := B3.out.now.c.1
  have q1 := B3.out.now.c.2.1
  have q2 := B3.out.now.c.2.2.1
  have q3 := B3.out.now.c.2.2.2
  go_wp2_with fail
  go_at_call 76
  (with_reducible refine (SB.out _ B3.out).mono ?_)
  rintro e w4 ⟨a3, n3, c3, rfl, hi3, hb4⟩
  have B4 := Lib.hid (((B3.out.go hb4).nat hi3).box (.slice a3 n3 c3) 26)
  have hk4 : w.heap.size + 1 + 1 < w4.heap.size := RS.lt (B3.out.go hb4).now.1
  clear hb4 hi3 q0 q1 q2 q3
  have q0 := B4.out.now.2.2.c.1
  have q1 := B4.out.now.2.2.c.2.1
  have q2 := B4.out.now.2.2.c.2.2.1
  have q3 := B4.out.now.2.2.c.2.2.2
  have q4 := B4.out.now.1.cell
  go_wp2_with fail
  go_region_held3 (fun y => (y.cell? ⟨w.heap.size, 0, none⟩ = some (.slice a n c) ∧ y.cell? ⟨w.heap.size, 1, none⟩ = some (.bool m) ∧ y.cell? ⟨w.heap.size + 1, 0, none⟩ = some (.slice a2 n2 c2) ∧ y.cell? ⟨w.heap.size + 1, 1, none⟩ = some (.bool m2)) ∧ y.cell? ⟨w4.heap.size, 0, none⟩ = some (.slice a3 n3 c3) ∧ Bag w (fun y => Slot y w4.heap.size (.slice a3 n3 c3) ∧ NatIs y (.agg #[.slice a3 n3 c3]) (Z.natAbs - Y.natAbs) ∧ PO w.heap.size a n c m Z a2 n2 c2 m2 Y y) y)
    (first | (have B9 := B4.out.drew; exact ⟨B9.now.2.2.c, B9.now.1.cell, B9⟩) | (have B9 := Bag.go (by go_split_ands; assumption) hb2; exact ⟨B9.now.2.2.c, B9.now.1.cell, B9⟩) | (exact ⟨B8.out.now.2.2.c, B8.out.now.1.cell, B8.out⟩))
    (first
      | (go_at_call 37; (with_reducible refine (N1.out _ ?_).mono ?_); (have B6 := (show Bag w (fun y => Slot y w4.heap.size (.slice a3 n3 c3) ∧ NatIs y (.agg #[.slice a3 n3 c3]) (Z.natAbs - Y.natAbs) ∧ PO w.heap.size a n c m Z a2 n2 c2 m2 Y y) _ from by go_split_ands; assumption); exact ⟨B6.below, PO.stay, B6.now.2.2⟩); rintro e w2 ⟨rfl, hb2⟩)
      | (go_at_call 36; (with_reducible refine (OF.out a3 n3 c3 _ ?_).mono ?_); (have B6 := (show Bag w (fun y => Slot y w4.heap.size (.slice a3 n3 c3) ∧ NatIs y (.agg #[.slice a3 n3 c3]) (Z.natAbs - Y.natAbs) ∧ PO w.heap.size a n c m Z a2 n2 c2 m2 Y y) _ from by go_split_ands; assumption); exact B6.now.2.1); rintro e w2 ⟨a4, n4, c4, m4, rfl, hi4, hb2⟩; have B7 := Bag.go (show Bag w (fun y => Slot y w4.heap.size (.slice a3 n3 c3) ∧ NatIs y (.agg #[.slice a3 n3 c3]) (Z.natAbs - Y.natAbs) ∧ PO w.heap.size a n c m Z a2 n2 c2 m2 Y y) _ from by go_split_ands; assumption) hb2; obtain ⟨x8, b8, hs8, _⟩ := B7.now.2.2.1; have hc1 := hs8.cell; have hc2 := hs8.cell1; have hf1 := hs8.free; have hf2 := hs8.free1; clear hs8; have HS := B7.now.2.2.1.cells a4 n4 c4 m4; have HE := Lib.hid (IntTold.fin B7.below (by omega) B7.now.2.2.1 hi4); have B8 := Lib.hid (B7.put (by omega) (a := a4) (n := n4) (c := c4) (b := m4) (fun h => ⟨h.1.put (by omega) _ _ _ _, h.2.1.put h.2.2.1 _ _ _ _, h.2.2.put _ _ _ _⟩)); unfold putI at HS; clear B7))
  go_wp2
  exact bodyPost_ret (v := _) (by simp [results, Tryz.results62, go_sem, HS]) rfl HE.out

set_option maxHeartbeats 1600000 in
set_option maxRecDepth 100000 in
theorem plusOne_more (a : Option Addr) (n c : Nat) (m : Bool) (Z : Int) (a2 : Option Addr) (n2 c2 : Nat) (m2 : Bool) (Y : Int) (w : World) (h : IntAt w a n c m Z) (g : IntAt w a2 n2 c2 m2 Y)
    (hmm : ¬ m = m2) (hle : Z.natAbs < Y.natAbs) :
    Calls Tryz.prog 62 #[.agg #[.slice a n c, .bool m], .agg #[.slice a2 n2 c2, .bool m2]] w fun e w' => IntTold w w' e (Z + Y) := by
  have BB := Lib.hid (PO.start h g)
  have q0 := BB.out.now.c.1
  have q1 := BB.out.now.c.2.1
  have q2 := BB.out.now.c.2.2.1
  have q3 := BB.out.now.c.2.2.2
  have N1 : Hid (∀ wz, Bag w (PO w.heap.size a n c m Z a2 n2 c2 m2 Y) wz → Calls Tryz.prog 37 #[.agg #[.slice a n c, .bool m]] wz fun e w' => e = .returned (.bool m) ∧ Below wz.heap.size wz w') := fun wz hz => neg_any a n c m Z wz hz.now.2.2.2.2
  have N2 : Hid (∀ wz, Bag w (PO w.heap.size a n c m Z a2 n2 c2 m2 Y) wz → Calls Tryz.prog 37 #[.agg #[.slice a2 n2 c2, .bool m2]] wz fun e w' => e = .returned (.bool m2) ∧ Below wz.heap.size wz w') := fun wz hz => neg_any a2 n2 c2 m2 Y wz hz.now.2.2.2.1
  have hm1 := h.1
  have hm2 := g.1
  have hd : (m == m2) = false := by simpa using hmm
  have SB : Hid (∀ wz, Bag w (PO w.heap.size a n c m Z a2 n2 c2 m2 Y) wz → Calls Tryz.prog 76 #[.agg #[.slice a n c], .agg #[.slice a2 n2 c2]] wz fun e w' => SubOf3 wz w' e (Z.natAbs - Y.natAbs) false) := fun wz hz => (sub_any _ _ _ _ wz hz.now.2.2.2.2.2 hz.now.2.2.2.1.2).mono fun _ _ h => h.three (decide_eq_false (by omega))
  have SB2 : Hid (∀ wz, Bag w (PO w.heap.size a n c m Z a2 n2 c2 m2 Y) wz → Calls Tryz.prog 76 #[.agg #[.slice a2 n2 c2], .agg #[.slice a n c]] wz fun e w' => SubOf3 wz w' e (Y.natAbs - Z.natAbs) true) := fun wz hz => (sub_any _ _ _ _ wz hz.now.2.2.2.1.2 hz.now.2.2.2.2.2).mono fun _ _ h => h.three (decide_eq_true (by omega))
  have hz : sgn m2 (Y.natAbs - Z.natAbs) = Z + Y := by
    by_cases h1 : Z < 0
    · rw [decide_eq_true h1] at hm1
      rw [hm1] at hmm
      by_cases h2 : Y < 0
      · rw [decide_eq_true h2] at hm2; exact absurd hm2.symm hmm
      · rw [decide_eq_false h2] at hm2
        rw [hm2]; simp [sgn]; omega
    · rw [decide_eq_false h1] at hm1
      rw [hm1] at hmm
      by_cases h2 : Y < 0
      · rw [decide_eq_true h2] at hm2
        rw [hm2]; simp [sgn]; omega
      · rw [decide_eq_false h2] at hm2; exact absurd hm2.symm hmm
  have OF : Hid (∀ a3 n3 c3 wz, NatIs wz (.agg #[.slice a3 n3 c3]) (Y.natAbs - Z.natAbs) → Calls Tryz.prog 36 #[.bool m2, .agg #[.slice a3 n3 c3]] wz fun e w' => IntTold wz w' e (Z + Y)) := by
    intro a3 n3 c3 wz hi
    have := wof_any m2 a3 n3 c3 _ wz hi
    rw [hz] at this; exact this
  clear h g hm1 hm2 hmm hz hle
  go_enter Tryz.func62, Tryz.ntmps62
  go_wp2_with fail
  go_region_held3 (fun y => (y.cell? ⟨w.heap.size, 0, none⟩ = some (.slice a n c) ∧ y.cell? ⟨w.heap.size, 1, none⟩ = some (.bool m) ∧ y.cell? ⟨w.heap.size + 1, 0, none⟩ = some (.slice a2 n2 c2) ∧ y.cell? ⟨w.heap.size + 1, 1, none⟩ = some (.bool m2)) ∧ Bag w (PO w.heap.size a n c m Z a2 n2 c2 m2 Y) y)
    (first | (have B9 := BB.out.drew; exact ⟨B9.now.c, B9⟩) | (have B9 := Bag.go (by go_split_ands; assumption) hb2; exact ⟨B9.now.c, B9⟩))
    (first | (go_at_call 37; (with_reducible refine (N1.out _ ?_).mono ?_); (go_split_ands; assumption); rintro e w2 ⟨rfl, hb2⟩) | (go_at_call 37; (with_reducible refine (N2.out _ ?_).mono ?_); (go_split_ands; assumption); rintro e w2 ⟨rfl, hb2⟩))
  have B3 := Lib.hid (show Bag w (PO w.heap.size a n c m Z a2 n2 c2 m2 Y) _ from by go_split_ands; assumption)
  clear q0 q1 q2 q3
  have q0 := B3.out.now.c.1
  have q1 := B3.out.now.c.2.1
  have q2 := B3.out.now.c.2.2.1
  have q3 := B3.out.now.c.2.2.2
  go_wp2_with fail
  go_at_call 76
  (with_reducible refine (SB.out _ B3.out).mono ?_)
  rintro e w4 ⟨a3, n3, c3, rfl, hi3, hb4⟩
  have B3 := Lib.hid ((B3.out.go hb4).alloc (.cells #[.slice a3 n3 c3] 26))
  clear hb4 hi3 q0 q1 q2 q3
  have q0 := B3.out.now.c.1
  have q1 := B3.out.now.c.2.1
  have q2 := B3.out.now.c.2.2.1
  have q3 := B3.out.now.c.2.2.2
  go_wp2_with fail
  go_at_call 76
  (with_reducible refine (SB2.out _ B3.out).mono ?_)
  rintro e w4 ⟨a3, n3, c3, rfl, hi3, hb4⟩
  have B4 := Lib.hid (((B3.out.go hb4).nat hi3).box (.slice a3 n3 c3) 26)
  have hk4 : w.heap.size + 1 + 1 < w4.heap.size := RS.lt (B3.out.go hb4).now.1
  clear hb4 hi3 q0 q1 q2 q3
  have q0 := B4.out.now.2.2.c.1
  have q1 := B4.out.now.2.2.c.2.1
  have q2 := B4.out.now.2.2.c.2.2.1
  have q3 := B4.out.now.2.2.c.2.2.2
  have q4 := B4.out.now.1.cell
  go_wp2_with fail
  go_region_held3 (fun y => (y.cell? ⟨w.heap.size, 0, none⟩ = some (.slice a n c) ∧ y.cell? ⟨w.heap.size, 1, none⟩ = some (.bool m) ∧ y.cell? ⟨w.heap.size + 1, 0, none⟩ = some (.slice a2 n2 c2) ∧ y.cell? ⟨w.heap.size + 1, 1, none⟩ = some (.bool m2)) ∧ y.cell? ⟨w4.heap.size, 0, none⟩ = some (.slice a3 n3 c3) ∧ Bag w (fun y => Slot y w4.heap.size (.slice a3 n3 c3) ∧ NatIs y (.agg #[.slice a3 n3 c3]) (Y.natAbs - Z.natAbs) ∧ PO w.heap.size a n c m Z a2 n2 c2 m2 Y y) y)
    (first | (have B9 := B4.out.drew; exact ⟨B9.now.2.2.c, B9.now.1.cell, B9⟩) | (have B9 := Bag.go (by go_split_ands; assumption) hb2; exact ⟨B9.now.2.2.c, B9.now.1.cell, B9⟩) | (exact ⟨B8.out.now.2.2.c, B8.out.now.1.cell, B8.out⟩))
    (first
      | (go_at_call 37; (with_reducible refine (N2.out _ ?_).mono ?_); (have B6 := (show Bag w (fun y => Slot y w4.heap.size (.slice a3 n3 c3) ∧ NatIs y (.agg #[.slice a3 n3 c3]) (Y.natAbs - Z.natAbs) ∧ PO w.heap.size a n c m Z a2 n2 c2 m2 Y y) _ from by go_split_ands; assumption); exact ⟨B6.below, PO.stay, B6.now.2.2⟩); rintro e w2 ⟨rfl, hb2⟩)
      | (go_at_call 36; (with_reducible refine (OF.out a3 n3 c3 _ ?_).mono ?_); (have B6 := (show Bag w (fun y => Slot y w4.heap.size (.slice a3 n3 c3) ∧ NatIs y (.agg #[.slice a3 n3 c3]) (Y.natAbs - Z.natAbs) ∧ PO w.heap.size a n c m Z a2 n2 c2 m2 Y y) _ from by go_split_ands; assumption); exact B6.now.2.1); rintro e w2 ⟨a4, n4, c4, m4, rfl, hi4, hb2⟩; have B7 := Bag.go (show Bag w (fun y => Slot y w4.heap.size (.slice a3 n3 c3) ∧ NatIs y (.agg #[.slice a3 n3 c3]) (Y.natAbs - Z.natAbs) ∧ PO w.heap.size a n c m Z a2 n2 c2 m2 Y y) _ from by go_split_ands; assumption) hb2; obtain ⟨x8, b8, hs8, _⟩ := B7.now.2.2.1; have hc1 := hs8.cell; have hc2 := hs8.cell1; have hf1 := hs8.free; have hf2 := hs8.free1; clear hs8; have HS := B7.now.2.2.1.cells a4 n4 c4 m4; have HE := Lib.hid (IntTold.fin B7.below (by omega) B7.now.2.2.1 hi4); have B8 := Lib.hid (B7.put (by omega) (a := a4) (n := n4) (c := c4) (b := m4) (fun h => ⟨h.1.put (by omega) _ _ _ _, h.2.1.put h.2.2.1 _ _ _ _, h.2.2.put _ _ _ _⟩)); unfold putI at HS; clear B7))
  go_wp2
  exact bodyPost_ret (v := _) (by simp [results, Tryz.results62, go_sem, HS]) rfl HE.out

theorem plusOne_any (a : Option Addr) (n c : Nat) (m : Bool) (Z : Int) (a2 : Option Addr) (n2 c2 : Nat) (m2 : Bool) (Y : Int) (w : World) (h : IntAt w a n c m Z) (g : IntAt w a2 n2 c2 m2 Y)
    (k : Nat) (hk : k ≤ 900000) (hZ : Z.natAbs < 4294967296 ^ k) (hY : Y.natAbs < 4294967296 ^ k) :
    Calls Tryz.prog 62 #[.agg #[.slice a n c, .bool m], .agg #[.slice a2 n2 c2, .bool m2]] w fun e w' => IntTold w w' e (Z + Y) := by
  by_cases hmm : m = m2
  · exact plusOne_same a n c m Z a2 n2 c2 m2 Y w h g k hk hZ hY hmm
  · rcases Nat.lt_or_ge Z.natAbs Y.natAbs with hl | hl
    · exact plusOne_more a n c m Z a2 n2 c2 m2 Y w h g hmm hl
    · exact plusOne_less a n c m Z a2 n2 c2 m2 Y w h g hmm hl

end Go.Proofs.YthklcdcikmninaaGreatDoor

namespace Go.Proofs.YthklcdcikmninaaGreatDoor
open Go.RowKit

/-- A row of integers in memory. -/
def IntsAt (w : World) (sa : Option Addr) (n c : Nat) (f : Nat → Int) : Prop := n ≤ c ∧ n ≤ 1000 ∧ (n = 0 ∨ ∃ b off, sa = some ⟨b, off, none⟩ ∧ b < w.heap.size ∧
  ∀ j, j < n → ∃ a' n' c' m', w.cell? ⟨b, off + j * 2, none⟩ = some (.slice a' n' c') ∧ w.cell? ⟨b, off + j * 2 + 1, none⟩ = some (.bool m') ∧ IntAt w a' n' c' m' (f j))
theorem IntsAt.below {w w' : World} {sa : Option Addr} {n c : Nat} {f : Nat → Int} (h : IntsAt w sa n c f) (hb : Below w.heap.size w w') : IntsAt w' sa n c f := by
  obtain ⟨h0, h1, h2⟩ := h
  refine ⟨h0, h1, ?_⟩
  rcases h2 with h2 | ⟨b, off, rfl, hl, hc⟩
  · exact .inl h2
  · refine .inr ⟨b, off, rfl, Nat.lt_of_lt_of_le hl hb.size, fun j hj => ?_⟩
    obtain ⟨a', n', c', m', e1, e2, e3⟩ := hc j hj
    exact ⟨a', n', c', m', (hb.cell (p := ⟨b, _, none⟩) hl).trans e1, (hb.cell (p := ⟨b, _, none⟩) hl).trans e2, e3.below hb⟩
theorem IntsAt.get {w : World} {sa : Option Addr} {n c : Nat} {f : Nat → Int} (h : IntsAt w sa n c f) {j : Nat} (hj : j < n) :
    ∃ b off a' n' c' m', sa = some ⟨b, off, none⟩ ∧ b < w.heap.size ∧ w.cell? ⟨b, off + j * 2, none⟩ = some (.slice a' n' c') ∧ w.cell? ⟨b, off + j * 2 + 1, none⟩ = some (.bool m') ∧ IntAt w a' n' c' m' (f j) := by
  obtain ⟨h0, h1, h2⟩ := h
  rcases h2 with h2 | ⟨b, off, rfl, hl, hc⟩
  · omega
  · obtain ⟨a', n', c', m', e⟩ := hc j hj
    exact ⟨b, off, a', n', c', m', rfl, hl, e⟩

def psum (Z : Int) (f : Nat → Int) : Nat → Int
  | 0 => Z
  | k + 1 => psum Z f k + f k
def asum (f : Nat → Int) : Nat → Nat
  | 0 => 0
  | k + 1 => asum f k + (f k).natAbs
theorem asum_mono (f : Nat → Int) {k n : Nat} (h : k ≤ n) : asum f k ≤ asum f n := by
  induction n with
  | zero => obtain rfl : k = 0 := by omega
            exact Nat.le_refl _
  | succ n ih =>
    rcases Nat.lt_or_ge k (n + 1) with h1 | h1
    · have := ih (by omega); rw [asum]; omega
    · obtain rfl : k = n + 1 := by omega
      exact Nat.le_refl _
theorem psum_abs (Z : Int) (f : Nat → Int) : ∀ k, (psum Z f k).natAbs ≤ Z.natAbs + asum f k
  | 0 => by simp [psum, asum]
  | k + 1 => by have := psum_abs Z f k; rw [psum, asum]; omega
theorem asum_get (f : Nat → Int) {k n : Nat} (h : k < n) : (f k).natAbs ≤ asum f n := by
  have := asum_mono f (show k + 1 ≤ n from h); rw [asum] at this; omega

/-- At the head of a round: the sum so far. -/
def PL (w wr : World) (V : Int) : Prop := Below w.heap.size w wr ∧ RS wr (w.heap.size + 1) ∧ ∃ a n c m, Slot2 wr (w.heap.size + 1 + 1) (.slice a n c) (.bool m) ∧ IntAt wr a n c m V

set_option maxHeartbeats 1600000 in
set_option maxRecDepth 100000 in
theorem plus_any (a : Option Addr) (n c : Nat) (m : Bool) (Z : Int) (sa : Option Addr) (ln lc : Nat) (f : Nat → Int) (w : World) (h : IntAt w a n c m Z) (g : IntsAt w sa ln lc f)
    (K : Nat) (hK : K ≤ 900000) (hb : Z.natAbs + asum f ln < 4294967296 ^ K) :
    Calls Tryz.prog 49 #[.agg #[.slice a n c, .bool m], .slice sa ln lc] w fun e w' => IntTold w w' e (psum Z f ln) := by
  have B0 := (((((Bag.start w).int h).box2 (.slice a n c) (.bool m) 28).box2 (.slice none 0 0) (.bool false) 28)).box2 (.slice a n c) (.bool m) 28
  simp only [World.size_alloc] at B0
  have H0 : Hid (PL w _ (psum Z f 0)) := ⟨B0.below, B0.now.2.1.rs, a, n, c, m, B0.now.1, B0.now.2.2.2.1⟩
  have q0 := B0.now.2.2.1.cell
  have q1 := B0.now.2.2.1.cell1
  have HG := Lib.hid g
  have hln : ln ≤ 1000 ∧ ln ≤ lc := ⟨g.2.1, g.1⟩
  have HB : Hid (∀ k, k < ln → (psum Z f k).natAbs < 4294967296 ^ K ∧ (f k).natAbs < 4294967296 ^ K) := fun k hk => by
    have h1 := psum_abs Z f k
    have h2 := asum_mono f (Nat.le_of_lt hk)
    have h3 := asum_get f hk
    exact ⟨by omega, by omega⟩
  clear B0 h g hb
  go_enter Tryz.func49, Tryz.ntmps49
  go_wp2
  go_loopw [11] (fun i wr => ∃ k : Nat, k ≤ ln ∧ i = .int .i64 k ∧ PL w wr (psum Z f k)) (fun i _ => ln - (intOf i).toNat)
  case atStart => exact ⟨0, by omega, rfl, H0.out⟩
  case round =>
    obtain ⟨k, hk, rfl, hr⟩ := hrel
    by_cases hlt : k < ln
    · obtain ⟨hbl, hrs, a3, n3, c3, m3, hs3, hi3⟩ := hr
      obtain ⟨b, off, a', n', c', m', rfl, hlb, e1, e2, hi'⟩ := (HG.out.below hbl).get hlt
      have B1 := ((((Bag.start wr).int hi3).int hi').slot2 hs3).box2 (.slice a' n' c') (.bool m') 28
      have HBK := HB.out k hlt
      have PO1 := Lib.hid (plusOne_any a3 n3 c3 m3 (psum Z f k) a' n' c' m' (f k) _ B1.now.2.2.2.1 B1.now.2.2.1 K hK HBK.1 HBK.2)
      have HBL := Lib.hid hbl
      have HRS := Lib.hid hrs
      have p0 := B1.now.2.1.cell
      have p1 := B1.now.2.1.cell1
      have BB := Lib.hid B1
      have hwr : w.heap.size ≤ wr.heap.size := hbl.size
      clear hbl hrs hi3 hi' B1 HBK hs3 q0 q1
      go_wp2_with fail
      go_at_call 62
      (with_reducible refine PO1.out.mono ?_)
      rintro e w4 ⟨a5, n5, c5, m5, rfl, hi5, hb5⟩
      have B5 := BB.out.go hb5
      have hs5 := B5.now.2.1
      have hc1 := hs5.cell
      have hc2 := hs5.cell1
      have hf1 := hs5.free
      have hf2 := hs5.free1
      have hb6 := HBL.out.trans (B5.below.mono hwr)
      have HN : Hid (PL w (putI w4 (w.heap.size + 1 + 1) a5 n5 c5 m5) (psum Z f (k + 1))) := by
        refine ⟨(hb6.setCell (show w.heap.size ≤ w.heap.size + 1 + 1 by omega) _).setCell (show w.heap.size ≤ w.heap.size + 1 + 1 by omega) _, ?_, a5, n5, c5, m5, ?_, hi5.put hs5.rs _ _ _ _⟩
        · exact (HRS.out.below B5.below).put _ _ _ _
        · have := hs5.set (.slice a5 n5 c5) (.bool m5)
          exact ⟨this.1, this.2, by simp [putI, hs5.free], by simp [putI, hs5.free1], by simpa [putI] using hs5.lt⟩
      unfold putI at HN
      clear hb5 hi5 B5 hs5 hb6 p0 p1
      go_wp2
      go_roundw
      case rel => exact ⟨k + 1, by omega, by go_num, HN.out⟩
      case measure => simp [intOf]; omega
    · obtain rfl : k = ln := by omega
      obtain ⟨hbl, hrs, a3, n3, c3, m3, hs3, hi3⟩ := hr
      have HE := Lib.hid (IntTold.fin hbl (by omega) hrs hi3)
      have HS := hrs.cells a3 n3 c3 m3
      unfold putI at HS
      have p0 := hs3.cell
      have p1 := hs3.cell1
      obtain ⟨x8, b8, hs8, _⟩ := hrs
      have hc1 := hs8.cell
      have hc2 := hs8.cell1
      have hf1 := hs8.free
      have hf2 := hs8.free1
      clear hs8 hs3 hi3 hbl q0 q1
      go_wp2
      exact bodyPost_ret (v := _) (by simp [results, Tryz.results49, go_sem, HS]) rfl HE.out

end Go.Proofs.YthklcdcikmninaaGreatDoor

namespace Go.Proofs.YthklcdcikmninaaGreatDoor
open Go.RowKit
attribute [local go_sem ↓] Go.wp_at_zero Go.wp_at_succ

/-- The quotient, rounded down, and what is left, out of the sizes. -/
def flA (Z Y : Int) : Bool := decide (Z < 0) != decide (Y < 0)
def flU (Z Y : Int) : Bool := flA Z Y && !decide (Z.natAbs % Y.natAbs = 0)
def flQ (Z Y : Int) : Int := sgn (flA Z Y) (if flU Z Y then Z.natAbs / Y.natAbs + 1 else Z.natAbs / Y.natAbs)
def flR (Z Y : Int) : Int := sgn (decide (Y < 0)) (if flU Z Y then Y.natAbs - Z.natAbs % Y.natAbs else Z.natAbs % Y.natAbs)

/-- What Floor keeps: its two numbers, their blocks, the answers'. -/
def FP (k : Nat) (a : Option Addr) (n c : Nat) (m : Bool) (Z : Int) (a2 : Option Addr) (n2 c2 : Nat) (m2 : Bool) (Y : Int) (y : World) : Prop :=
  RS y (k + 1 + 1) ∧ RS y (k + 1 + 1 + 1) ∧ Slot2 y (k + 1) (.slice a2 n2 c2) (.bool m2) ∧ Slot2 y k (.slice a n c) (.bool m) ∧ IntAt y a2 n2 c2 m2 Y ∧ IntAt y a n c m Z
theorem FP.stay {k : Nat} {a : Option Addr} {n c : Nat} {m : Bool} {Z : Int} {a2 : Option Addr} {n2 c2 : Nat} {m2 : Bool} {Y : Int} : ∀ x y, Below x.heap.size x y → FP k a n c m Z a2 n2 c2 m2 Y x → FP k a n c m Z a2 n2 c2 m2 Y y :=
  fun _ _ hb h => ⟨h.1.below hb, h.2.1.below hb, h.2.2.1.below hb, h.2.2.2.1.below hb, h.2.2.2.2.1.below hb, h.2.2.2.2.2.below hb⟩
theorem FP.start {w : World} {a : Option Addr} {n c : Nat} {m : Bool} {Z : Int} {a2 : Option Addr} {n2 c2 : Nat} {m2 : Bool} {Y : Int} (h : IntAt w a n c m Z) (g : IntAt w a2 n2 c2 m2 Y) :
    Bag w (FP w.heap.size a n c m Z a2 n2 c2 m2 Y) ((((w.alloc (.cells #[.slice a n c, .bool m] 28)).alloc (.cells #[.slice a2 n2 c2, .bool m2] 28)).alloc (.cells #[.slice none 0 0, .bool false] 28)).alloc (.cells #[.slice none 0 0, .bool false] 28)) := by
  have B0 := ((((((Bag.start w).int h).int g).box2 (.slice a n c) (.bool m) 28).box2 (.slice a2 n2 c2) (.bool m2) 28).box2 (.slice none 0 0) (.bool false) 28).box2 (.slice none 0 0) (.bool false) 28
  simp only [World.size_alloc] at B0
  exact ⟨B0.below, FP.stay, B0.now.2.1.rs, B0.now.1.rs, B0.now.2.2.1, B0.now.2.2.2.1, B0.now.2.2.2.2.1, B0.now.2.2.2.2.2.1⟩
theorem FP.put {k j : Nat} {a : Option Addr} {n c : Nat} {m : Bool} {Z : Int} {a2 : Option Addr} {n2 c2 : Nat} {m2 : Bool} {Y : Int} {y : World} (h : FP k a n c m Z a2 n2 c2 m2 Y y) (hj : RS y j) (h1 : k ≠ j) (h2 : k + 1 ≠ j) (a3 : Option Addr) (n3 c3 : Nat) (b : Bool) : FP k a n c m Z a2 n2 c2 m2 Y (putI y j a3 n3 c3 b) :=
  ⟨h.1.put _ _ _ _, h.2.1.put _ _ _ _, h.2.2.1.put h2 _ _ _ _, h.2.2.2.1.put h1 _ _ _ _, h.2.2.2.2.1.put hj _ _ _ _, h.2.2.2.2.2.put hj _ _ _ _⟩

def DivOf3 (w w' : World) (e : Ending) (N M : Nat) (b : Bool) : Prop := ∃ a n c a2 n2 c2, e = .returned (.tuple #[.agg #[.slice a n c], .agg #[.slice a2 n2 c2], .bool b]) ∧ NatIs w' (.agg #[.slice a n c]) N ∧ NatIs w' (.agg #[.slice a2 n2 c2]) M ∧ Below w.heap.size w w'
theorem DivOut.three {w w' : World} {e : Ending} {N M : Nat} {b : Bool} (h : DivOut w w' e N M) (hb : decide (M ≠ 0) = b) : DivOf3 w w' e (N / M) (modz N M) b := by
  obtain ⟨v, u, h1, ⟨a, n, c, f, h2, h3, h4, h5⟩, ⟨a', n', c', f', h2', h3', h4', h5'⟩, h6⟩ := h
  exact ⟨a, n, c, a', n', c', by rw [h1, h2, h2', hb], ⟨a, n, c, f, rfl, h3, h4, h5⟩, ⟨a', n', c', f', rfl, h3', h4', h5'⟩, h6⟩

def FloorTold (w w' : World) (e : Ending) (Q R : Int) : Prop := ∃ a n c m a2 n2 c2 m2, e = .returned (.tuple #[.agg #[.slice a n c, .bool m], .agg #[.slice a2 n2 c2, .bool m2], .bool true]) ∧ IntAt w' a n c m Q ∧ IntAt w' a2 n2 c2 m2 R ∧ Below w.heap.size w w'
def FloorNone (w w' : World) (e : Ending) : Prop := e = .returned (.tuple #[.agg #[.slice none 0 0, .bool false], .agg #[.slice none 0 0, .bool false], .bool false]) ∧ Below w.heap.size w w'

set_option maxHeartbeats 3200000 in
set_option maxRecDepth 100000 in
theorem floor_none (a : Option Addr) (n c : Nat) (m : Bool) (Z : Int) (a2 : Option Addr) (n2 c2 : Nat) (m2 : Bool) (w : World) (h : IntAt w a n c m Z) (g : IntAt w a2 n2 c2 m2 0) (K : Nat) (hK : K ≤ 900000) (hZ : Z.natAbs < 4294967296 ^ K) :
    Calls Tryz.prog 60 #[.agg #[.slice a n c, .bool m], .agg #[.slice a2 n2 c2, .bool m2]] w fun e w' => FloorNone w w' e := by
  have BB := Lib.hid (FP.start h g)
  have q0 := BB.out.now.2.2.2.1.cell
  have q1 := BB.out.now.2.2.2.1.cell1
  have q2 := BB.out.now.2.2.1.cell
  have q3 := BB.out.now.2.2.1.cell1
  have DM : Hid (∀ wz, FP w.heap.size a n c m Z a2 n2 c2 m2 0 wz → Calls Tryz.prog 45 #[.agg #[.slice a n c], .agg #[.slice a2 n2 c2]] wz fun e w' => DivOf3 wz w' e (Z.natAbs / 0) (modz Z.natAbs 0) false) := fun wz hz => (divMod_any _ _ _ _ wz hz.2.2.2.2.2.2 hz.2.2.2.2.1.2 K hK hZ).mono fun _ _ h => h.three rfl
  clear h g hZ
  go_enter Tryz.func60, Tryz.ntmps60
  go_wp2_with fail
  go_at_call 45
  (with_reducible refine (DM.out _ BB.out.now).mono ?_)
  rintro e w4 ⟨a3, n3, c3, a4, n4, c4, rfl, hi3, hi4, hb4⟩
  have BB := Lib.hid (((BB.out.go hb4).alloc (.cells #[.slice a3 n3 c3] 26)).alloc (.cells #[.slice a4 n4 c4] 26))
  clear hb4 hi3 hi4 q0 q1 q2 q3
  obtain ⟨x8, b8, hs8, _⟩ := BB.out.now.1
  obtain ⟨x9, b9, hs9, _⟩ := BB.out.now.2.1
  have hc1 := hs8.cell
  have hc2 := hs8.cell1
  have hc3 := hs9.cell
  have hc4 := hs9.cell1
  have hf1 := hs8.free
  have hf2 := hs8.free1
  have hf3 := hs9.free
  have hf4 := hs9.free1
  have HS1 := (BB.out.now.1.put (k := w.heap.size + 1 + 1) none 0 0 false).cells none 0 0 false
  have B7 := ((BB.out.put (k := w.heap.size + 1 + 1) (a := none) (n := 0) (c := 0) (b := false) (by omega) (fun h => h.put h.1 (by omega) (by omega) _ _ _ _)).put (k := w.heap.size + 1 + 1 + 1) (a := none) (n := 0) (c := 0) (b := false) (by omega) (fun h => h.put h.2.1 (by omega) (by omega) _ _ _ _))
  have HA := Slot2.put (BB.out.now.1.slotted none 0 0 false) (show w.heap.size + 1 + 1 ≠ w.heap.size + 1 + 1 + 1 by omega) none 0 0 false
  have HB := (BB.out.now.2.1.put (k := w.heap.size + 1 + 1) none 0 0 false).slotted none 0 0 false
  have HE : Hid (FloorNone w _ _) := ⟨rfl, B7.below⟩
  have e1 := HA.cell
  have e2 := HA.cell1
  have e3 := HB.cell
  have e4 := HB.cell1
  unfold putI at HE e1 e2 e3 e4
  clear hs8 hs9 B7 HA HB HS1
  go_wp2
  exact bodyPost_ret (v := .tuple #[.agg #[.slice none 0 0, .bool false], .agg #[.slice none 0 0, .bool false], .bool false]) (by simp [results, Tryz.results60, go_sem, e1, e2, e3, e4]) rfl HE.out

end Go.Proofs.YthklcdcikmninaaGreatDoor

