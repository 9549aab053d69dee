/-
  Package whole: Floor, by contract: signs apart, nothing left.
-/
import Derived.Test.YthklcdcikmninaaGreatDoorK7
namespace Go.Proofs.YthklcdcikmninaaGreatDoor
open Go.RowKit
attribute [local go_sem ↓] Go.wp_at_zero Go.wp_at_succ

set_option maxHeartbeats 3200000 in
set_option maxRecDepth 100000 in
theorem floor_even (a : Option Addr) (n c : Nat) (m : Bool) (Z : Int) (a2 : Option Addr) (n2 c2 : Nat) (m2 : Bool) (Y : Int) (w : World) (h : IntAt w a n c m Z) (g : IntAt w a2 n2 c2 m2 Y) (K : Nat) (hK : K ≤ 800000) (hZ : Z.natAbs < 4294967296 ^ K) (hY : Y ≠ 0)
    (hap : (m != m2) = true) (hr0 : Z.natAbs % Y.natAbs = 0) :
    Calls Tryz.prog 60 #[.agg #[.slice a n c, .bool m], .agg #[.slice a2 n2 c2, .bool m2]] w fun e w' => FloorTold w w' e (flQ Z Y) (flR Z Y) := by
  have hfu : flA Z Y = true ∧ flQ Z Y = sgn true (Z.natAbs / Y.natAbs) ∧ flR Z Y = sgn m2 (Z.natAbs % Y.natAbs) := by
    have e1 : flA Z Y = true := by unfold flA; rw [← h.1, ← g.1]; exact hap
    refine ⟨e1, ?_, ?_⟩
    · unfold flQ flU; rw [e1]; simp [hr0]
    · unfold flR flU; rw [e1, ← g.1, hr0]; simp
  obtain ⟨_, hfq, hfr⟩ := hfu
  have BB := Lib.hid (FP.start h g)
  have q0 := BB.out.now.2.2.2.1.cell
  have q1 := BB.out.now.2.2.2.1.cell1
  have q2 := BB.out.now.2.2.1.cell
  have q3 := BB.out.now.2.2.1.cell1
  have N1 : Hid (∀ wz, FP w.heap.size a n c m Z a2 n2 c2 m2 Y wz → Calls Tryz.prog 37 #[.agg #[.slice a n c, .bool m]] wz fun e w' => e = .returned (.bool m) ∧ Below wz.heap.size wz w') := fun wz hz => neg_any a n c m Z wz hz.2.2.2.2.2
  have N2 : Hid (∀ wz, FP w.heap.size a n c m Z a2 n2 c2 m2 Y wz → Calls Tryz.prog 37 #[.agg #[.slice a2 n2 c2, .bool m2]] wz fun e w' => e = .returned (.bool m2) ∧ Below wz.heap.size wz w') := fun wz hz => neg_any a2 n2 c2 m2 Y wz hz.2.2.2.2.1
  have DM : Hid (∀ wz, FP w.heap.size a n c m Z a2 n2 c2 m2 Y wz → Calls Tryz.prog 45 #[.agg #[.slice a n c], .agg #[.slice a2 n2 c2]] wz fun e w' => DivOf3 wz w' e (Z.natAbs / Y.natAbs) (Z.natAbs % Y.natAbs) true) := fun wz hz => (divMod_any _ _ _ _ wz hz.2.2.2.2.2.2 hz.2.2.2.2.1.2 K (by omega) hZ).mono fun _ _ h => by
    have := h.three (b := true) (by simp; omega)
    unfold modz at this
    rw [if_neg (by omega)] at this
    exact this
  have OF1 : Hid (∀ a3 n3 c3 wz, NatIs wz (.agg #[.slice a3 n3 c3]) (Z.natAbs / Y.natAbs) → Calls Tryz.prog 36 #[.bool true, .agg #[.slice a3 n3 c3]] wz fun e w' => IntTold wz w' e (flQ Z Y)) := by
    intro a3 n3 c3 wz hi
    have := wof_any true a3 n3 c3 _ wz hi
    rw [← hfq] at this; exact this
  have OF2 : Hid (∀ a3 n3 c3 wz, NatIs wz (.agg #[.slice a3 n3 c3]) (Z.natAbs % Y.natAbs) → Calls Tryz.prog 36 #[.bool m2, .agg #[.slice a3 n3 c3]] wz fun e w' => IntTold wz w' e (flR Z Y)) := by
    intro a3 n3 c3 wz hi
    have := wof_any m2 a3 n3 c3 _ wz hi
    rw [← hfr] at this; exact this
  obtain ⟨N, hN⟩ : ∃ N, Z.natAbs = N := ⟨_, rfl⟩
  obtain ⟨M, hM⟩ : ∃ M, Y.natAbs = M := ⟨_, rfl⟩
  have hM0 : 0 < M := by omega
  have hgM := g.1
  have hNK : N < 4294967296 ^ K := by omega
  have SB : Hid (∀ a3 n3 c3 wz, FP w.heap.size a n c m Z a2 n2 c2 m2 Y wz → NatIs wz (.agg #[.slice a3 n3 c3]) (N % M) → Calls Tryz.prog 76 #[.agg #[.slice a2 n2 c2], .agg #[.slice a3 n3 c3]] wz fun e w' => SubOf3 wz w' e (M - N % M) true) := fun a3 n3 c3 wz hz hi => (sub_any _ _ M (N % M) wz (by rw [← hM]; exact hz.2.2.2.2.1.2) hi).mono fun _ _ h => h.three (decide_eq_true (Nat.le_of_lt (Nat.mod_lt N hM0)))
  have AD : Hid (∀ a3 n3 c3 a4 n4 c4 wz, NatIs wz (.agg #[.slice a3 n3 c3]) (N / M) → NatIs wz (.agg #[.slice a4 n4 c4]) 1 → Calls Tryz.prog 58 #[.agg #[.slice a3 n3 c3], .agg #[.slice a4 n4 c4]] wz fun e w' => NatOf3 wz w' e (N / M + 1)) := fun a3 n3 c3 a4 n4 c4 wz hi hj => (add_any _ _ _ _ wz hi hj (K + 1) (by omega) (by
      have := Nat.div_le_self N M
      have h2 := pow_mono32 (show K ≤ K + 1 by omega)
      omega) (by
      have := pow_mono32 (show 1 ≤ K + 1 by omega)
      rw [Nat.pow_one] at this
      omega)).mono fun _ _ h => h.three
  rw [hN, hM] at DM OF1 OF2
  have hd : (m == m2) = false := by simpa using hap
  have ZR : Hid (∀ a3 n3 c3 wz, NatIs wz (.agg #[.slice a3 n3 c3]) (N % M) → Calls Tryz.prog 35 #[.agg #[.slice a3 n3 c3]] wz fun e w' => e = .returned (.bool true) ∧ Below wz.heap.size wz w') := by
    intro a3 n3 c3 wz hi
    have h1 := zero_any _ _ wz hi
    rw [show decide (N % M = 0) = true from by rw [← hN, ← hM]; exact decide_eq_true hr0] at h1
    exact h1
  clear hr0
  clear h g hZ hY hfq hfr hap hN hM hgM hNK hM0
  go_enter Tryz.func60, Tryz.ntmps60
  go_wp2_with fail
  go_at_call 45
  (with_reducible refine (DM.out _ BB.out.now).mono ?_)
  rintro e w4 ⟨aq, nq, cq, ar, nr, cr, rfl, hi3, hi4, hb4⟩
  have hk4 : w.heap.size + 1 + 1 + 1 < w4.heap.size := RS.lt (BB.out.go hb4).now.2.1
  have BQ := ((((BB.out.go hb4).nat hi4).nat hi3).box (.slice aq nq cq) 26).box (.slice ar nr cr) 26
  rw [World.size_alloc] at BQ
  have BB : Hid (Bag w (fun y => Slot y w4.heap.size (.slice aq nq cq) ∧ NatIs y (.agg #[.slice aq nq cq]) (N / M) ∧ Slot y (w4.heap.size + 1) (.slice ar nr cr) ∧ NatIs y (.agg #[.slice ar nr cr]) (N % M) ∧ FP w.heap.size a n c m Z a2 n2 c2 m2 Y y) _) := ⟨BQ.below, fun x y hb h => ⟨h.1.below hb, h.2.1.below hb, h.2.2.1.below hb, h.2.2.2.1.below hb, FP.stay x y hb h.2.2.2.2⟩, BQ.now.2.1, BQ.now.2.2.1, BQ.now.1, BQ.now.2.2.2.1, BQ.now.2.2.2.2⟩
  clear hb4 hi3 hi4 q0 q1 q2 q3 BQ
  go_wp2_with fail
  go_region_held3 (fun y => (y.cell? ⟨w.heap.size, 0, none⟩ = some (.slice a n c) ∧ y.cell? ⟨w.heap.size, 1, none⟩ = some (.bool m) ∧ y.cell? ⟨w.heap.size + 1, 0, none⟩ = some (.slice a2 n2 c2) ∧ y.cell? ⟨w.heap.size + 1, 1, none⟩ = some (.bool m2)) ∧ Bag w (fun y => Slot y w4.heap.size (.slice aq nq cq) ∧ NatIs y (.agg #[.slice aq nq cq]) (N / M) ∧ Slot y (w4.heap.size + 1) (.slice ar nr cr) ∧ NatIs y (.agg #[.slice ar nr cr]) (N % M) ∧ FP w.heap.size a n c m Z a2 n2 c2 m2 Y y) y)
    (first | (have B9 := BB.out.drew; exact ⟨⟨B9.now.2.2.2.2.2.2.2.1.cell, B9.now.2.2.2.2.2.2.2.1.cell1, B9.now.2.2.2.2.2.2.1.cell, B9.now.2.2.2.2.2.2.1.cell1⟩, B9⟩) | (have B9 := Bag.go (show Bag w (fun y => Slot y w4.heap.size (.slice aq nq cq) ∧ NatIs y (.agg #[.slice aq nq cq]) (N / M) ∧ Slot y (w4.heap.size + 1) (.slice ar nr cr) ∧ NatIs y (.agg #[.slice ar nr cr]) (N % M) ∧ FP w.heap.size a n c m Z a2 n2 c2 m2 Y y) _ from by go_split_ands; assumption) hb2; exact ⟨⟨B9.now.2.2.2.2.2.2.2.1.cell, B9.now.2.2.2.2.2.2.2.1.cell1, B9.now.2.2.2.2.2.2.1.cell, B9.now.2.2.2.2.2.2.1.cell1⟩, B9⟩))
    (first
      | (go_at_call 37; (with_reducible refine (N1.out _ ?_).mono ?_); exact (show Bag w (fun y => Slot y w4.heap.size (.slice aq nq cq) ∧ NatIs y (.agg #[.slice aq nq cq]) (N / M) ∧ Slot y (w4.heap.size + 1) (.slice ar nr cr) ∧ NatIs y (.agg #[.slice ar nr cr]) (N % M) ∧ FP w.heap.size a n c m Z a2 n2 c2 m2 Y y) _ from by go_split_ands; assumption).now.2.2.2.2; rintro e w2 ⟨rfl, hb2⟩)
      | (go_at_call 37; (with_reducible refine (N2.out _ ?_).mono ?_); exact (show Bag w (fun y => Slot y w4.heap.size (.slice aq nq cq) ∧ NatIs y (.agg #[.slice aq nq cq]) (N / M) ∧ Slot y (w4.heap.size + 1) (.slice ar nr cr) ∧ NatIs y (.agg #[.slice ar nr cr]) (N % M) ∧ FP w.heap.size a n c m Z a2 n2 c2 m2 Y y) _ from by go_split_ands; assumption).now.2.2.2.2; rintro e w2 ⟨rfl, hb2⟩))
  have BB := Lib.hid (show Bag w (fun y => Slot y w4.heap.size (.slice aq nq cq) ∧ NatIs y (.agg #[.slice aq nq cq]) (N / M) ∧ Slot y (w4.heap.size + 1) (.slice ar nr cr) ∧ NatIs y (.agg #[.slice ar nr cr]) (N % M) ∧ FP w.heap.size a n c m Z a2 n2 c2 m2 Y y) _ from by go_split_ands; assumption)
  have q5 := BB.out.now.2.2.1.cell
  go_wp2_with fail
  go_at_call 35
  (with_reducible refine (ZR.out ar nr cr _ BB.out.now.2.2.2.1).mono ?_)
  rintro e w6 ⟨rfl, hb6⟩
  have BB := Lib.hid (BB.out.go hb6)
  clear hb6 q5
  go_wp2_with fail
  go_region_held3 (fun y => (y.cell? ⟨w4.heap.size, 0, none⟩ = some (.slice aq nq cq) ∧ y.cell? ⟨w4.heap.size + 1, 0, none⟩ = some (.slice ar nr cr) ∧ y.cell? ⟨w.heap.size + 1, 0, none⟩ = some (.slice a2 n2 c2) ∧ y.cell? ⟨w.heap.size + 1, 1, none⟩ = some (.bool m2)) ∧ Bag w (fun y => Slot y w4.heap.size (.slice aq nq cq) ∧ NatIs y (.agg #[.slice aq nq cq]) (N / M) ∧ Slot y (w4.heap.size + 1) (.slice ar nr cr) ∧ NatIs y (.agg #[.slice ar nr cr]) (N % M) ∧ FP w.heap.size a n c m Z a2 n2 c2 m2 Y y) y)
    (first
      | (have B9 := BB.out.drew; exact ⟨⟨B9.now.1.cell, B9.now.2.2.1.cell, B9.now.2.2.2.2.2.2.1.cell, B9.now.2.2.2.2.2.2.1.cell1⟩, B9⟩)
      | (have B9 := Bag.go (show Bag w (fun y => Slot y w4.heap.size (.slice aq nq cq) ∧ NatIs y (.agg #[.slice aq nq cq]) (N / M) ∧ Slot y (w4.heap.size + 1) (.slice ar nr cr) ∧ NatIs y (.agg #[.slice ar nr cr]) (N % M) ∧ FP w.heap.size a n c m Z a2 n2 c2 m2 Y y) _ from by go_split_ands; assumption) hb2; exact ⟨⟨B9.now.1.cell, B9.now.2.2.1.cell, B9.now.2.2.2.2.2.2.1.cell, B9.now.2.2.2.2.2.2.1.cell1⟩, B9⟩)
      | (have B9 := Bag.put (show Bag w (fun y => Slot y w4.heap.size (.slice aq nq cq) ∧ NatIs y (.agg #[.slice aq nq cq]) (N / M) ∧ Slot y (w4.heap.size + 1) (.slice ar nr cr) ∧ NatIs y (.agg #[.slice ar nr cr]) (N % M) ∧ FP w.heap.size a n c m Z a2 n2 c2 m2 Y y) _ from by go_split_ands; assumption) (k := w.heap.size + 1 + 1) (a := a5) (n := n5) (c := c5) (b := m5) (by omega) (fun h => ⟨h.1.put (by omega) _ _ _ _, h.2.1.put h.2.2.2.2.1 _ _ _ _, h.2.2.1.put (by omega) _ _ _ _, h.2.2.2.1.put h.2.2.2.2.1 _ _ _ _, h.2.2.2.2.put h.2.2.2.2.1 (by omega) (by omega) _ _ _ _⟩); exact ⟨⟨B9.now.1.cell, B9.now.2.2.1.cell, B9.now.2.2.2.2.2.2.1.cell, B9.now.2.2.2.2.2.2.1.cell1⟩, B9⟩)
      | (have B9 := Bag.put (show Bag w (fun y => Slot y w4.heap.size (.slice aq nq cq) ∧ NatIs y (.agg #[.slice aq nq cq]) (N / M) ∧ Slot y (w4.heap.size + 1) (.slice ar nr cr) ∧ NatIs y (.agg #[.slice ar nr cr]) (N % M) ∧ FP w.heap.size a n c m Z a2 n2 c2 m2 Y y) _ from by go_split_ands; assumption) (k := w.heap.size + 1 + 1 + 1) (a := a6) (n := n6) (c := c6) (b := m6) (by omega) (fun h => ⟨h.1.put (by omega) _ _ _ _, h.2.1.put h.2.2.2.2.2.1 _ _ _ _, h.2.2.1.put (by omega) _ _ _ _, h.2.2.2.1.put h.2.2.2.2.2.1 _ _ _ _, h.2.2.2.2.put h.2.2.2.2.2.1 (by omega) (by omega) _ _ _ _⟩); exact ⟨⟨B9.now.1.cell, B9.now.2.2.1.cell, B9.now.2.2.2.2.2.2.1.cell, B9.now.2.2.2.2.2.2.1.cell1⟩, B9⟩))
    (first
      | (go_at_call 36; (with_reducible refine (OF1.out aq nq cq _ ?_).mono ?_); exact (show Bag w (fun y => Slot y w4.heap.size (.slice aq nq cq) ∧ NatIs y (.agg #[.slice aq nq cq]) (N / M) ∧ Slot y (w4.heap.size + 1) (.slice ar nr cr) ∧ NatIs y (.agg #[.slice ar nr cr]) (N % M) ∧ FP w.heap.size a n c m Z a2 n2 c2 m2 Y y) _ from by go_split_ands; assumption).now.2.1; rintro e w2 ⟨a5, n5, c5, m5, rfl, hi5, hb2⟩)
      | (go_at_call 37; (with_reducible refine (N2.out _ ?_).mono ?_); exact (show Bag w (fun y => Slot y w4.heap.size (.slice aq nq cq) ∧ NatIs y (.agg #[.slice aq nq cq]) (N / M) ∧ Slot y (w4.heap.size + 1) (.slice ar nr cr) ∧ NatIs y (.agg #[.slice ar nr cr]) (N % M) ∧ FP w.heap.size a n c m Z a2 n2 c2 m2 Y y) _ from by go_split_ands; assumption).now.2.2.2.2; rintro e w2 ⟨rfl, hb2⟩; have hi5 := hi5.below hb2)
      | (go_at_call 36; (with_reducible refine (OF2.out ar nr cr _ ?_).mono ?_); exact (show Bag w (fun y => Slot y w4.heap.size (.slice aq nq cq) ∧ NatIs y (.agg #[.slice aq nq cq]) (N / M) ∧ Slot y (w4.heap.size + 1) (.slice ar nr cr) ∧ NatIs y (.agg #[.slice ar nr cr]) (N % M) ∧ FP w.heap.size a n c m Z a2 n2 c2 m2 Y y) _ from by go_split_ands; assumption).now.2.2.2.1; rintro e w2 ⟨a6, n6, c6, m6, rfl, hi6, hb2⟩; have hi5 := hi5.below hb2;
          have B7 := Bag.go (show Bag w (fun y => Slot y w4.heap.size (.slice aq nq cq) ∧ NatIs y (.agg #[.slice aq nq cq]) (N / M) ∧ Slot y (w4.heap.size + 1) (.slice ar nr cr) ∧ NatIs y (.agg #[.slice ar nr cr]) (N % M) ∧ FP w.heap.size a n c m Z a2 n2 c2 m2 Y y) _ from by go_split_ands; assumption) hb2;
          obtain ⟨x8, b8, hs8, _⟩ := B7.now.2.2.2.2.1;
          obtain ⟨x9, b9, hs9, _⟩ := B7.now.2.2.2.2.2.1;
          have hc1 := hs8.cell; have hc2 := hs8.cell1; have hc3 := hs9.cell; have hc4 := hs9.cell1; have hf1 := hs8.free; have hf2 := hs8.free1; have hf3 := hs9.free; have hf4 := hs9.free1;
          have HA := Slot2.put (B7.now.2.2.2.2.1.slotted a5 n5 c5 m5) (show w.heap.size + 1 + 1 ≠ w.heap.size + 1 + 1 + 1 by omega) a6 n6 c6 m6;
          have HB := (B7.now.2.2.2.2.2.1.put (k := w.heap.size + 1 + 1) a5 n5 c5 m5).slotted a6 n6 c6 m6;
          have e1 := HA.cell; have e2 := HA.cell1; have e3 := HB.cell; have e4 := HB.cell1;
          have HE : Hid (FloorTold w (putI (putI w2 (w.heap.size + 1 + 1) a5 n5 c5 m5) (w.heap.size + 1 + 1 + 1) a6 n6 c6 m6) (.returned (.tuple #[.agg #[.slice a5 n5 c5, .bool m5], .agg #[.slice a6 n6 c6, .bool m6], .bool true])) (flQ Z Y) (flR Z Y)) := ⟨a5, n5, c5, m5, a6, n6, c6, m6, rfl, (hi5.put B7.now.2.2.2.2.1 _ _ _ _).put (B7.now.2.2.2.2.2.1.put (k := w.heap.size + 1 + 1) a5 n5 c5 m5) _ _ _ _, (hi6.put B7.now.2.2.2.2.1 _ _ _ _).put (B7.now.2.2.2.2.2.1.put (k := w.heap.size + 1 + 1) a5 n5 c5 m5) _ _ _ _, (((B7.below.setCell (show w.heap.size ≤ w.heap.size + 1 + 1 by omega) _).setCell (show w.heap.size ≤ w.heap.size + 1 + 1 by omega) _).setCell (show w.heap.size ≤ w.heap.size + 1 + 1 + 1 by omega) _).setCell (show w.heap.size ≤ w.heap.size + 1 + 1 + 1 by omega) _⟩;
          unfold putI at HE e1 e2 e3 e4; clear hs8 hs9 HA HB B7))
  all_goals
    go_wp2
    exact bodyPost_ret (v := .tuple #[.agg #[.slice a5 n5 c5, .bool m5], .agg #[.slice a6 n6 c6, .bool m6], .bool true]) (by simp [results, Tryz.results60, go_sem, e1, e2, e3, e4]) rfl HE.out

end Go.Proofs.YthklcdcikmninaaGreatDoor
