/-
  Package ratio: New, by contract.
-/
import Derived.Test.YtocifhahfeajiaaGreatDoorRa2
import Derived.Test.YtocifhahfeajiaaGreatDoorK9
namespace Go.Proofs.YtocifhahfeajiaaGreatDoor
open Go.RowKit
attribute [local go_sem ↓] Go.wp_at_zero Go.wp_at_succ

def RatTold3 (w w' : World) (e : Ending) (P : Int) (Q : Nat) (ok : Bool) : Prop := ∃ a n c m a2 n2 c2, e = .returned (.tuple #[.agg #[.slice a n c, .bool m, .slice a2 n2 c2], .bool ok]) ∧ RatAt w' a n c m a2 n2 c2 P Q ∧ Below w.heap.size w w'
theorem RatTold3.done {w w2 : World} {k : Nat} {a0 : Option Addr} {n0 c0 : Nat} {m0 : Bool} {a1 : Option Addr} {n1 c1 : Nat} {a : Option Addr} {n c : Nat} {m : Bool} {a2 : Option Addr} {n2 c2 : Nat} {P : Int} {Q : Nat} (ok : Bool) (hb : Below w.heap.size w w2) (hk : w.heap.size ≤ k)
    (hs : Slot3 w2 k (.slice a0 n0 c0) (.bool m0) (.slice a1 n1 c1)) (h : RatAt w2 a n c m a2 n2 c2 P Q) :
    RatTold3 w (((w2.setCell ⟨k, 0, none⟩ (.slice a n c)).setCell ⟨k, 1, none⟩ (.bool m)).setCell ⟨k, 2, none⟩ (.slice a2 n2 c2)) (.returned (.tuple #[.agg #[.slice a n c, .bool m, .slice a2 n2 c2], .bool ok])) P Q ok := by
  obtain ⟨a', n', c', m', a2', n2', c2', he, h1, h2⟩ := RatTold.done hb hk hs h
  cases he
  exact ⟨a, n, c, m, a2, n2, c2, rfl, h1, h2⟩
theorem IntAt.nt {w : World} {a : Option Addr} {n c : Nat} {m : Bool} {Z : Int} (h : IntAt w a n c m Z) : NatIs w (.agg #[.slice a n c]) Z.natAbs := h.2
theorem RatAt.int {w : World} {a : Option Addr} {n c : Nat} {m : Bool} {a2 : Option Addr} {n2 c2 : Nat} {P : Int} {Q : Nat} (h : RatAt w a n c m a2 n2 c2 P Q) : IntAt w a n c m P := h.1
theorem RatAt.low {w : World} {a : Option Addr} {n c : Nat} {m : Bool} {a2 : Option Addr} {n2 c2 : Nat} {P : Int} {Q : Nat} (h : RatAt w a n c m a2 n2 c2 P Q) : NatIs w (.agg #[.slice a2 n2 c2]) (lowN Q) := h.2
theorem RatAt.zero (w : World) : RatAt w none 0 0 false none 0 0 0 1 := ⟨⟨rfl, NatIs.zero w⟩, NatIs.zero w⟩
theorem Slot2.set2 {w : World} {k : Nat} {x y : Value} (h : Slot2 w k x y) (u v : Value) : Slot2 ((w.setCell ⟨k, 0, none⟩ u).setCell ⟨k, 1, none⟩ v) k u v :=
  ⟨(h.set u v).1, (h.set u v).2, by simp [h.free], by simp [h.free1], by simpa using h.lt⟩
theorem Slot2.set2o {w : World} {k j : Nat} {x y : Value} (h : Slot2 w j x y) (e : j ≠ k) (u v : Value) : Slot2 ((w.setCell ⟨k, 0, none⟩ u).setCell ⟨k, 1, none⟩ v) j x y := by
  have hn : ∀ o o' : Nat, (⟨k, o, none⟩ : Addr) ≠ ⟨j, o', none⟩ := fun o o' h => e (by cases h; rfl)
  refine ⟨?_, ?_, by simp [h.free], by simp [h.free1], by simpa using h.lt⟩
  · rw [World.cell?_setCell_other _ _ _ _ (hn _ _), World.cell?_setCell_other _ _ _ _ (hn _ _)]; exact h.cell
  · rw [World.cell?_setCell_other _ _ _ _ (hn _ _), World.cell?_setCell_other _ _ _ _ (hn _ _)]; exact h.cell1
theorem NatIs.set2b {w : World} {k : Nat} {x y : Value} {v : Value} {N : Nat} (q : NatIs w v N) (h : Slot2 w k x y) (hx : ∀ ki i, x ≠ .int ki i) (hy : ∀ ki i, y ≠ .int ki i) (u v' : Value) :
    NatIs ((w.setCell ⟨k, 0, none⟩ u).setCell ⟨k, 1, none⟩ v') v N := by
  refine (q.storeAt h.cell hx _).storeAt (x := y) ?_ hy _
  rw [World.cell?_setCell_other _ _ _ _ (fun e => by cases e)]
  exact h.cell1

def nwP (P Y : Int) : Int := loP (upZ P Y) Y.natAbs
def nwQ (P Y : Int) : Nat := loQ (upZ P Y) Y.natAbs

set_option maxHeartbeats 1600000 in
set_option maxRecDepth 100000 in
theorem new_zero (a : Option Addr) (n c : Nat) (m : Bool) (P : Int) (a2 : Option Addr) (n2 c2 : Nat) (m2 : Bool) (w : World) (h : IntAt w a n c m P) (g : IntAt w a2 n2 c2 m2 0) :
    Calls Tryz.prog 27 #[.agg #[.slice a n c, .bool m], .agg #[.slice a2 n2 c2, .bool m2]] w fun e w' => RatTold3 w w' e 0 1 false := by
  have ZE := Lib.hid (fun wz (h : NatIs wz (.agg #[.slice a2 n2 c2]) (0 : Int).natAbs) => zero_any _ (0 : Int).natAbs wz h)
  rw [decide_eq_true (show (0 : Int).natAbs = 0 from rfl)] at ZE
  have B0 := ((((Bag.start w).int h).int g).box2 (.slice a n c) (.bool m) 28).box2 (.slice a2 n2 c2) (.bool m2) 28 |>.box3 (.slice none 0 0) (.bool false) (.slice none 0 0) 30
  simp only [World.size_alloc] at B0
  have BB := Lib.hid B0
  have q0 := B0.now.2.1.cell
  clear h g B0
  go_enter Tryz.func27, Tryz.ntmps27
  go_wp2_with fail
  go_at_call 68
  (with_reducible refine (ZE.out _ BB.out.now.2.2.2.1.nt).mono ?_)
  rintro e w2 ⟨rfl, hb2⟩
  have BB := Lib.hid (BB.out.go hb2)
  have hs := BB.out.now.1
  have r0 := hs.cell
  have r1 := hs.cell1
  have r2 := hs.cell2
  have g0 := hs.free
  have g1 := hs.free1
  have g2 := hs.free2
  have HS := hs.set (.slice none 0 0) (.bool false) (.slice none 0 0)
  have HE := Lib.hid (RatTold3.done false BB.out.below (by omega) hs (RatAt.zero w2))
  clear hb2 hs
  go_wp2
  exact bodyPost_ret (v := .tuple #[.agg #[.slice none 0 0, .bool false, .slice none 0 0], .bool false]) (by simp [results, Tryz.results27, go_sem, HS]) rfl HE.out

set_option maxHeartbeats 3200000 in
set_option maxRecDepth 100000 in
theorem new_some (a : Option Addr) (n c : Nat) (m : Bool) (P : Int) (a2 : Option Addr) (n2 c2 : Nat) (m2 : Bool) (Y : Int) (w : World) (h : IntAt w a n c m P) (g : IntAt w a2 n2 c2 m2 Y) (hY : Y ≠ 0)
    (K : Nat) (hK : K ≤ 900000) (hPK : P.natAbs < 4294967296 ^ K) (hYK : Y.natAbs < 4294967296 ^ K) :
    Calls Tryz.prog 27 #[.agg #[.slice a n c, .bool m], .agg #[.slice a2 n2 c2, .bool m2]] w fun e w' => RatTold3 w w' e (nwP P Y) (nwQ P Y) true := by
  have ZE := Lib.hid (fun wz (h : NatIs wz (.agg #[.slice a2 n2 c2]) Y.natAbs) => zero_any _ Y.natAbs wz h)
  rw [decide_eq_false (show ¬ Y.natAbs = 0 by omega)] at ZE
  have NG := Lib.hid (fun wz (h : IntAt wz a2 n2 c2 m2 Y) => neg_any a2 n2 c2 m2 Y wz h)
  have MN := Lib.hid (fun wz (h : IntAt wz a n c m P) => minus_any a n c m P wz h)
  have SZ := Lib.hid (fun wz (h : IntAt wz a2 n2 c2 m2 Y) => size_any a2 n2 c2 m2 Y wz h)
  unfold NatTold2 at SZ
  have hup : upZ P Y = if m2 then -P else P := by
    unfold upZ; rw [g.1]
    by_cases h1 : Y < 0
    · rw [if_pos h1, decide_eq_true h1]; rfl
    · rw [if_neg h1, decide_eq_false h1]; rfl
  have LW := Lib.hid (fun a n c m wz (h : IntAt wz a n c m (upZ P Y)) (g : NatIs wz (.agg #[.slice a2 n2 c2]) Y.natAbs) => lowest_any a n c m (upZ P Y) a2 n2 c2 Y.natAbs wz h g (by omega) K hK (by rw [upZ_abs]; exact hPK) hYK)
  rw [show loP (upZ P Y) Y.natAbs = nwP P Y from rfl, show loQ (upZ P Y) Y.natAbs = nwQ P Y from rfl] at LW
  rw [hup] at LW
  generalize nwP P Y = P1 at *
  generalize nwQ P Y = Q1 at *
  have B0 := ((((Bag.start w).int h).int g).box2 (.slice a n c) (.bool m) 28).box2 (.slice a2 n2 c2) (.bool m2) 28 |>.box3 (.slice none 0 0) (.bool false) (.slice none 0 0) 30
  simp only [World.size_alloc] at B0
  have BB := Lib.hid B0
  have q0 := B0.now.2.1.cell
  have q1 := B0.now.2.1.cell1
  have he : w.heap.size ≠ w.heap.size + 1 + 1 ∧ w.heap.size + 1 ≠ w.heap.size + 1 + 1 ∧ w.heap.size + 1 ≠ w.heap.size := by omega
  clear h g B0 hPK hYK hup
  cases m2 with
  | false =>
    rw [if_neg (by decide)] at LW
    go_enter Tryz.func27, Tryz.ntmps27
    go_wp2_with (first
      | (go_at_call 68; (with_reducible refine (ZE.out _ BB.out.now.2.2.2.1.nt).mono ?_); rintro e w2 ⟨rfl, hb2⟩; have BB := Lib.hid (BB.out.go hb2); have q0 := BB.out.now.2.1.cell; have q1 := BB.out.now.2.1.cell1; clear hb2)
      | (go_at_call 70; (with_reducible refine (NG.out _ BB.out.now.2.2.2.1).mono ?_); rintro e w3 ⟨rfl, hb3⟩; have BB := Lib.hid (BB.out.go hb3); have q0 := BB.out.now.2.1.cell; have q1 := BB.out.now.2.1.cell1; clear hb3))
    have BB := Lib.hid BB.out.drew
    go_region_held3 (fun y => y.cell? ⟨w.heap.size, 0, none⟩ = some (.slice a n c) ∧ y.cell? ⟨w.heap.size, 1, none⟩ = some (.bool m) ∧ y.cell? ⟨w.heap.size + 1, 0, none⟩ = some (.slice a2 n2 c2) ∧ y.cell? ⟨w.heap.size + 1, 1, none⟩ = some (.bool false))
      (first
        | (exact ⟨BB.out.now.2.2.1.cell, BB.out.now.2.2.1.cell1, BB.out.now.2.1.cell, BB.out.now.2.1.cell1⟩)
        | (exact ⟨z0.cell, z0.cell1, z1.cell, z1.cell1⟩))
      (first
        | (go_at_call 56; (with_reducible refine (SZ.out _ BB.out.now.2.2.2.1).mono ?_); rintro e w6 ⟨rfl, hn6, hb6⟩; have BB := Lib.hid (BB.out.go hb6))
        | (go_at_call 32; (with_reducible refine (LW.out _ _ _ _ _ BB.out.now.2.2.2.2.1 hn6).mono ?_); rintro e w7 ⟨a6, n6, c6, m6, a7, n7, c7, rfl, hr, hb7⟩; have BB := Lib.hid (BB.out.go hb7); have hs := BB.out.now.1; have r0 := hs.cell; have r1 := hs.cell1; have r2 := hs.cell2; have g0 := hs.free; have g1 := hs.free1; have g2 := hs.free2; have HS := hs.set (.slice a6 n6 c6) (.bool m6) (.slice a7 n7 c7); have z0 := BB.out.now.2.2.1.set3o he.1 (.slice a6 n6 c6) (.bool m6) (.slice a7 n7 c7); have z1 := BB.out.now.2.1.set3o he.2.1 (.slice a6 n6 c6) (.bool m6) (.slice a7 n7 c7); have HE := Lib.hid (RatTold3.done true BB.out.below (by omega) hs hr); clear hb7 hs hr))
    go_wp2
    exact bodyPost_ret (v := .tuple #[.agg #[.slice a6 n6 c6, .bool m6, .slice a7 n7 c7], .bool true]) (by simp [results, Tryz.results27, go_sem, HS]) rfl HE.out
  | true =>
    rw [if_pos rfl] at LW
    go_enter Tryz.func27, Tryz.ntmps27
    go_wp2_with (first
      | (go_at_call 68; (with_reducible refine (ZE.out _ BB.out.now.2.2.2.1.nt).mono ?_); rintro e w2 ⟨rfl, hb2⟩; have BB := Lib.hid (BB.out.go hb2); have q0 := BB.out.now.2.1.cell; have q1 := BB.out.now.2.1.cell1; clear hb2)
      | (go_at_call 70; (with_reducible refine (NG.out _ BB.out.now.2.2.2.1).mono ?_); rintro e w3 ⟨rfl, hb3⟩; have BB := Lib.hid (BB.out.go hb3); have q0 := BB.out.now.2.2.1.cell; have q1 := BB.out.now.2.2.1.cell1; clear hb3))
    go_at_call 38
    (with_reducible refine (MN.out _ BB.out.now.2.2.2.2.1).mono ?_)
    rintro e w4 ⟨a3, n3, c3, m3, rfl, hi, hb4⟩
    have B4 := BB.out.go hb4
    have u0 := B4.now.2.2.1
    have hc := u0.cell
    have hc1 := u0.cell1
    have hf := u0.free
    have hf1 := u0.free1
    have hni : ∀ (x : Option Addr) (y z : Nat) (ki : IntKind) (i : Int), (Value.slice x y z) ≠ .int ki i := fun _ _ _ _ _ h => by cases h
    have hnb : ∀ (x : Bool) (ki : IntKind) (i : Int), (Value.bool x) ≠ .int ki i := fun _ _ _ h => by cases h
    have B5 := (Bag.start w).go ((B4.below.setCell (p := ⟨w.heap.size, 0, none⟩) (Nat.le_refl _) (.slice a3 n3 c3)).setCell (p := ⟨w.heap.size, 1, none⟩) (Nat.le_refl _) (.bool m3))
    have B5 := B5.int (a := a3) (n := n3) (c := c3) (m := m3) (Z := -P) ⟨hi.1, hi.2.set2b u0 (hni _ _ _) (hnb _) _ _⟩
    have B5 := B5.int (a := a2) (n := n2) (c := c2) (m := true) (Z := Y) ⟨B4.now.2.2.2.1.1, B4.now.2.2.2.1.2.set2b u0 (hni _ _ _) (hnb _) _ _⟩
    have B5 := B5.slot2 (u0.set2 (.slice a3 n3 c3) (.bool m3))
    have B5 := B5.slot2 (B4.now.2.1.set2o he.2.2 (.slice a3 n3 c3) (.bool m3))
    have B5 := B5.slot3 (B4.now.1.set2o (k := w.heap.size) (by omega) (.slice a3 n3 c3) (.bool m3))
    have BB := Lib.hid B5
    clear hi hb4 B4 u0 B5 q0 q1
    go_wp2_with fail
    have BB := Lib.hid BB.out.drew
    go_region_held3 (fun y => y.cell? ⟨w.heap.size, 0, none⟩ = some (.slice a3 n3 c3) ∧ y.cell? ⟨w.heap.size, 1, none⟩ = some (.bool m3) ∧ y.cell? ⟨w.heap.size + 1, 0, none⟩ = some (.slice a2 n2 c2) ∧ y.cell? ⟨w.heap.size + 1, 1, none⟩ = some (.bool true))
      (first
        | (exact ⟨BB.out.now.2.2.1.cell, BB.out.now.2.2.1.cell1, BB.out.now.2.1.cell, BB.out.now.2.1.cell1⟩)
        | (exact ⟨z0.cell, z0.cell1, z1.cell, z1.cell1⟩))
      (first
        | (go_at_call 56; (with_reducible refine (SZ.out _ BB.out.now.2.2.2.1).mono ?_); rintro e w6 ⟨rfl, hn6, hb6⟩; have BB := Lib.hid (BB.out.go hb6))
        | (go_at_call 32; (with_reducible refine (LW.out _ _ _ _ _ BB.out.now.2.2.2.2.1 hn6).mono ?_); rintro e w7 ⟨a6, n6, c6, m6, a7, n7, c7, rfl, hr, hb7⟩; have BB := Lib.hid (BB.out.go hb7); have hs := BB.out.now.1; have r0 := hs.cell; have r1 := hs.cell1; have r2 := hs.cell2; have g0 := hs.free; have g1 := hs.free1; have g2 := hs.free2; have HS := hs.set (.slice a6 n6 c6) (.bool m6) (.slice a7 n7 c7); have z0 := BB.out.now.2.2.1.set3o he.1 (.slice a6 n6 c6) (.bool m6) (.slice a7 n7 c7); have z1 := BB.out.now.2.1.set3o he.2.1 (.slice a6 n6 c6) (.bool m6) (.slice a7 n7 c7); have HE := Lib.hid (RatTold3.done true BB.out.below (by omega) hs hr); clear hb7 hs hr))
    go_wp2
    exact bodyPost_ret (v := .tuple #[.agg #[.slice a6 n6 c6, .bool m6, .slice a7 n7 c7], .bool true]) (by simp [results, Tryz.results27, go_sem, HS]) rfl HE.out

end Go.Proofs.YtocifhahfeajiaaGreatDoor
