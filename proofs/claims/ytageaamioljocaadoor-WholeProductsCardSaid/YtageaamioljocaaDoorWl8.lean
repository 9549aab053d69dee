/-
  The law of WholeProducts where all three are read.
-/
import Derived.Test.YtageaamioljocaaDoorCap
namespace Go.Proofs.YtageaamioljocaaDoor
open Go.RowKit
attribute [local go_sem ↓] Go.wp_at_zero Go.wp_at_succ

set_option linter.unusedSimpArgs false in
set_option maxHeartbeats 12800000 in
set_option maxRecDepth 100000 in
theorem wholeProducts_yes (s t u : ByteArray) (w : World) (hs : s.size ≤ maxLen) (ht : t.size ≤ maxLen) (hu : u.size ≤ maxLen) (hk : rdK s = true) (hk2 : rdK t = true) (hk3 : rdK u = true) :
    Calls Tryd.prog 3 #[.string s, .string t, .string u] w fun e w' => e = .returned (.bool true) ∧ Below w.heap.size w w' := by
  have RR1 := Lib.hid (fun wz => lread_any s wz hs)
  have RR2 := Lib.hid (fun wz => lread_any t wz ht)
  have RR3 := Lib.hid (fun wz => lread_any u wz hu)
  have hZ := rdZ_small hk
  have hY := rdZ_small hk2
  have hX := rdZ_small hk3
  rw [hk] at RR1
  rw [hk2] at RR2
  rw [hk3] at RR3
  obtain ⟨Z, hZe⟩ : ∃ Z, rdZ s.data.toList = Z := ⟨_, rfl⟩
  obtain ⟨Y, hYe⟩ : ∃ Y, rdZ t.data.toList = Y := ⟨_, rfl⟩
  obtain ⟨X, hXe⟩ : ∃ X, rdZ u.data.toList = X := ⟨_, rfl⟩
  rw [hZe] at RR1 hZ
  rw [hYe] at RR2 hY
  rw [hXe] at RR3 hX
  have hN := lim100' hZ
  have hM := lim100' hY
  have hL := lim100' hX
  have hdl : dl Z.natAbs ≤ 100 := dl_le _ 100 (by omega) hZ
  have hdl2 : dl Y.natAbs ≤ 100 := dl_le _ 100 (by omega) hY
  have hdl3 : dl X.natAbs ≤ 100 := dl_le _ 100 (by omega) hX
  have hZ2 : Z.natAbs < 4294967296 ^ 40 := Nat.lt_of_lt_of_le hN (Nat.pow_le_pow_right (by omega) (by omega))
  have hY2 : Y.natAbs < 4294967296 ^ 40 := Nat.lt_of_lt_of_le hM (Nat.pow_le_pow_right (by omega) (by omega))
  have hX2 : X.natAbs < 4294967296 ^ 40 := Nat.lt_of_lt_of_le hL (Nat.pow_le_pow_right (by omega) (by omega))
  have hZY : (Z * Y).natAbs < 4294967296 ^ 22 := by rw [Int.natAbs_mul, show 22 = 11 + 11 from rfl, Nat.pow_add]; exact Nat.mul_lt_mul'' hN hM
  have hZX : (Z * X).natAbs < 4294967296 ^ 22 := by rw [Int.natAbs_mul, show 22 = 11 + 11 from rfl, Nat.pow_add]; exact Nat.mul_lt_mul'' hN hL
  have hZYX : (Z * Y * X).natAbs < 4294967296 ^ 33 := by rw [Int.natAbs_mul, show 33 = 22 + 11 from rfl, Nat.pow_add]; exact Nat.mul_lt_mul'' hZY hL
  have hp : 2 * 4294967296 ^ 22 ≤ 4294967296 ^ 40 := Nat.le_trans (Nat.mul_le_mul_right _ (show 2 ≤ 4294967296 by omega)) (by rw [← Nat.pow_succ']; exact Nat.pow_le_pow_right (by omega) (by omega))
  have hp2 : 2 * 4294967296 ^ 11 ≤ 4294967296 ^ 40 := Nat.le_trans (Nat.mul_le_mul_right _ (show 2 ≤ 4294967296 by omega)) (by rw [← Nat.pow_succ']; exact Nat.pow_le_pow_right (by omega) (by omega))
  have hZY2 : (Z * Y).natAbs < 4294967296 ^ 40 := Nat.lt_of_lt_of_le hZY (Nat.pow_le_pow_right (by omega) (by omega))
  have hYX2 : (Y + X).natAbs < 4294967296 ^ 40 := by have := Int.natAbs_add_le Y X; omega
  have T2 : Hid (∀ a n c m sa wz, IntAt wz a n c m Z → IntsAt wz sa 2 2 (fun j => if j = 0 then Y else X) → Calls Tryd.prog 7 #[.agg #[.slice a n c, .bool m], .slice sa 2 2] wz fun e w' => IntTold wz w' e (Z * Y * X)) := fun a n c m sa wz h g =>
    times_any a n c m Z sa 2 2 _ wz h g 40 (by omega) (fun k hk => by
      match k, hk with
      | 0, _ => exact ⟨hZ2, hY2⟩
      | 1, _ => exact ⟨hZY2, hX2⟩)
  have PB := Lib.hid (fun a n c m sa wz (h : IntAt wz a n c m Y) (g : IntsAt wz sa 1 1 (fun _ => X)) => plus1_any a n c m Y sa X wz h g 40 (by omega) (by omega))
  have TB := Lib.hid (fun a n c m sa wz (h : IntAt wz a n c m Z) (g : IntsAt wz sa 1 1 (fun _ => Y + X)) => times1_any a n c m Z sa (Y + X) wz h g 40 (by omega) hZ2 hYX2)
  have TY := Lib.hid (fun a n c m sa wz (h : IntAt wz a n c m Z) (g : IntsAt wz sa 1 1 (fun _ => Y)) => times1_any a n c m Z sa Y wz h g 40 (by omega) hZ2 hY2)
  have TX := Lib.hid (fun a n c m sa wz (h : IntAt wz a n c m Z) (g : IntsAt wz sa 1 1 (fun _ => X)) => times1_any a n c m Z sa X wz h g 40 (by omega) hZ2 hX2)
  have PS := Lib.hid (fun a n c m sa wz (h : IntAt wz a n c m (Z * Y)) (g : IntsAt wz sa 1 1 (fun _ => Z * X)) => plus1_any a n c m (Z * Y) sa (Z * X) wz h g 40 (by omega) (by omega))
  rw [show Z * Y + Z * X = Z * (Y + X) from (Int.mul_add Z Y X).symm] at PS
  have T0 := Lib.hid (fun a n c m wz (h : IntAt wz a n c m Z) => times0_any a n c m Z wz h 40 (by omega))
  have CQ := Lib.hid (fun a n c m a2 n2 c2 m2 wz (h : IntAt wz a n c m (Z * (Y + X))) (g : IntAt wz a2 n2 c2 m2 (Z * (Y + X))) => icmp_any a n c m (Z * (Y + X)) a2 n2 c2 m2 (Z * (Y + X)) wz h g)
  have CZ := Lib.hid (fun a n c m a2 n2 c2 m2 wz (h : IntAt wz a n c m Z) (g : IntAt wz a2 n2 c2 m2 Z) => icmp_any a n c m Z a2 n2 c2 m2 Z wz h g)
  rw [cmpZ_self] at CQ CZ
  have hdl4 : dl (Z * Y * X).natAbs ≤ 1000 := by
    rw [Int.natAbs_mul, Int.natAbs_mul]
    obtain ⟨K, hK⟩ : ∃ K, K = 100 := ⟨_, rfl⟩
    refine dl_le _ (K + K + K) (by omega) |> fun h => Nat.le_trans (h ?_) (by omega)
    rw [← hK] at hZ hY hX
    rw [Nat.pow_add, Nat.pow_add]
    exact Nat.mul_lt_mul'' (Nat.mul_lt_mul'' hZ hY) hX
  have hdl5 : dl (Z * Y).natAbs ≤ 1000 := by
    rw [Int.natAbs_mul]
    obtain ⟨K, hK⟩ : ∃ K, K = 100 := ⟨_, rfl⟩
    refine dl_le _ (K + K) (by omega) |> fun h => Nat.le_trans (h ?_) (by omega)
    rw [← hK] at hZ hY
    rw [Nat.pow_add]
    exact Nat.mul_lt_mul'' hZ hY
  have DG := Lib.hid (fun a n c m wz (h : IntAt wz a n c m (Z * Y * X)) => digits_any a n c m (Z * Y * X) ⟨#[45]⟩ wz h 33 (by omega) hZYX (by decide) (by omega))
  have RM1 := Lib.hid (fun wz => rMul_any Z Y wz (by omega) (by omega))
  have RM2 := Lib.hid (fun wz => rMul_any (Z * Y) X wz hdl5 (by omega))
  have RD := Lib.hid (fun wz => rDigits_any (Z * Y * X) ⟨#[45]⟩ wz (by omega) (by decide))
  unfold RTold at RM1 RM2
  obtain ⟨t1, ht1⟩ : ∃ t1, digS (Z * Y * X) ⟨#[45]⟩ = t1 := ⟨_, rfl⟩
  rw [ht1] at DG RD
  have z4 : (t1.toList == t1.toList) = true := by simp
  obtain ⟨b1, hb1⟩ : ∃ b, rB Z = b := ⟨_, rfl⟩
  obtain ⟨b2, hb2⟩ : ∃ b2, rB Y = b2 := ⟨_, rfl⟩
  obtain ⟨b3, hb3⟩ : ∃ b3, rB X = b3 := ⟨_, rfl⟩
  have HM1 : Hid (∀ wz a n c m, IntAt wz a n c m Z → m = b1) := fun wz a n c m h => h.1.trans hb1
  have HM2 : Hid (∀ wz a n c m, IntAt wz a n c m Y → m = b2) := fun wz a n c m h => h.1.trans hb2
  have HM3 : Hid (∀ wz a n c m, IntAt wz a n c m X → m = b3) := fun wz a n c m h => h.1.trans hb3
  unfold ReadW at RR1 RR2 RR3
  rw [hb1] at RR1 RM1
  rw [hb2] at RR2 RM1
  rw [hb3] at RR3 RM2
  generalize rS Z = d1 at *
  generalize rS Y = d2 at *
  generalize rS X = d3 at *
  generalize rB (Z * Y) = b12 at *
  generalize rS (Z * Y) = d12 at *
  generalize rB (Z * Y * X) = b123 at *
  generalize rS (Z * Y * X) = d123 at *
  generalize Z * (Y + X) = S at *
  generalize Y + X = YX at *
  generalize Z * Y * X = ZYX at *
  generalize Z * Y = ZY at *
  generalize Z * X = ZX at *
  clear hb1 hb2 hb3 hZe hYe hXe hZ hY hX hN hM hL hdl hdl2 hdl3 hdl4 hdl5 hZ2 hY2 hX2 hZY hZX hZYX hp hp2 hZY2 hYX2 hk hk2 hk3 hs ht hu ht1
  go_enter Tryd.func3, Tryd.ntmps3
  go_wp2_with fail
  go_at_call 5
  (with_reducible refine (RR1.out _).mono ?_)
  rintro e w1 ⟨a1, n1, c1, m1, rfl, hi1, hb1⟩
  obtain rfl := HM1.out _ _ _ _ _ hi1
  have B1 := ((((Bag.start w).go hb1).int hi1).box2 (.slice a1 n1 c1) (.bool m1) 26).box2 (.bool m1) (.string d1) 28
  rw [World.size_alloc] at B1
  have BB := Lib.hid B1
  clear hi1 hb1 B1 HM1
  go_wp2_with fail
  go_at_call 5
  (with_reducible refine (RR2.out _).mono ?_)
  rintro e w2 ⟨a2, n2, c2, m2, rfl, hi2, hb2⟩
  obtain rfl := HM2.out _ _ _ _ _ hi2
  have B2 := (((BB.out.go hb2).int hi2).box2 (.slice a2 n2 c2) (.bool m2) 26).box2 (.bool m2) (.string d2) 28
  rw [World.size_alloc] at B2
  have BB := Lib.hid B2
  clear hi2 hb2 B2 HM2
  go_wp2_with fail
  go_at_call 5
  (with_reducible refine (RR3.out _).mono ?_)
  rintro e w3 ⟨a3, n3, c3, m3, rfl, hi3, hb3⟩
  obtain rfl := HM3.out _ _ _ _ _ hi3
  have B3 := (((BB.out.go hb3).int hi3).box2 (.slice a3 n3 c3) (.bool m3) 26).box2 (.bool m3) (.string d3) 28
  rw [World.size_alloc] at B3
  have BB := Lib.hid B3
  clear hi3 hb3 B3 HM3
  have q0 := BB.out.now.2.2.2.2.2.2.2.1.cell
  have q1 := BB.out.now.2.2.2.2.2.2.2.1.cell1
  have q2 := BB.out.now.2.2.2.2.1.cell
  have q3 := BB.out.now.2.2.2.2.1.cell1
  have q4 := BB.out.now.2.1.cell
  have q5 := BB.out.now.2.1.cell1
  go_wp2_with fail
  go_at_call 7
  (with_reducible refine (T2.out a1 n1 c1 m1 _ _ ?_ ?_).mono ?_)
  · exact (Bag.alloc BB.out _).now.2.2.2.2.2.2.2.2.1
  · exact IntsAt.mk2 (by simp) (Bag.alloc BB.out _).now.2.2.2.2.2.1 (Bag.alloc BB.out _).now.2.2.1
  rintro e w4 ⟨a4, n4, c4, m4, rfl, hi4, hb4⟩
  have BB := Lib.hid (((((BB.out.alloc _).go hb4).int hi4).box2 (.slice a4 n4 c4) (.bool m4) 26))
  clear hi4 hb4 q0 q1 q2 q3 q4 q5
  go_wp2_with fail
  have HC : Hid (∀ y, (fun y => Slot2 y w4.heap.size (.slice a4 n4 c4) (.bool m4) ∧ IntAt y a4 n4 c4 m4 ZYX ∧ Slot2 y (w3.heap.size + 1) (.bool m3) (.string d3) ∧ Slot2 y w3.heap.size (.slice a3 n3 c3) (.bool m3) ∧ IntAt y a3 n3 c3 m3 X ∧ Slot2 y (w2.heap.size + 1) (.bool m2) (.string d2) ∧ Slot2 y w2.heap.size (.slice a2 n2 c2) (.bool m2) ∧ IntAt y a2 n2 c2 m2 Y ∧ Slot2 y (w1.heap.size + 1) (.bool m1) (.string d1) ∧ Slot2 y w1.heap.size (.slice a1 n1 c1) (.bool m1) ∧ IntAt y a1 n1 c1 m1 Z ∧ True) y → (y.cell? ⟨w4.heap.size, 0, none⟩ = some (.slice a4 n4 c4) ∧ y.cell? ⟨w4.heap.size, 1, none⟩ = some (.bool m4) ∧ y.cell? ⟨w3.heap.size + 1, 0, none⟩ = some (.bool m3) ∧ y.cell? ⟨w3.heap.size + 1, 1, none⟩ = some (.string d3) ∧ y.cell? ⟨w3.heap.size, 0, none⟩ = some (.slice a3 n3 c3) ∧ y.cell? ⟨w3.heap.size, 1, none⟩ = some (.bool m3) ∧ y.cell? ⟨w2.heap.size + 1, 0, none⟩ = some (.bool m2) ∧ y.cell? ⟨w2.heap.size + 1, 1, none⟩ = some (.string d2) ∧ y.cell? ⟨w2.heap.size, 0, none⟩ = some (.slice a2 n2 c2) ∧ y.cell? ⟨w2.heap.size, 1, none⟩ = some (.bool m2) ∧ y.cell? ⟨w1.heap.size + 1, 0, none⟩ = some (.bool m1) ∧ y.cell? ⟨w1.heap.size + 1, 1, none⟩ = some (.string d1) ∧ y.cell? ⟨w1.heap.size, 0, none⟩ = some (.slice a1 n1 c1) ∧ y.cell? ⟨w1.heap.size, 1, none⟩ = some (.bool m1))) := fun y h => ⟨h.1.cell, h.1.cell1, h.2.2.1.cell, h.2.2.1.cell1, h.2.2.2.1.cell, h.2.2.2.1.cell1, h.2.2.2.2.2.1.cell, h.2.2.2.2.2.1.cell1, h.2.2.2.2.2.2.1.cell, h.2.2.2.2.2.2.1.cell1, h.2.2.2.2.2.2.2.2.1.cell, h.2.2.2.2.2.2.2.2.1.cell1, h.2.2.2.2.2.2.2.2.2.1.cell, h.2.2.2.2.2.2.2.2.2.1.cell1⟩
  refine wp_region_noPanic ?_
  refine wp_region_held_drew (S := (fun y => (y.cell? ⟨w4.heap.size, 0, none⟩ = some (.slice a4 n4 c4) ∧ y.cell? ⟨w4.heap.size, 1, none⟩ = some (.bool m4) ∧ y.cell? ⟨w3.heap.size + 1, 0, none⟩ = some (.bool m3) ∧ y.cell? ⟨w3.heap.size + 1, 1, none⟩ = some (.string d3) ∧ y.cell? ⟨w3.heap.size, 0, none⟩ = some (.slice a3 n3 c3) ∧ y.cell? ⟨w3.heap.size, 1, none⟩ = some (.bool m3) ∧ y.cell? ⟨w2.heap.size + 1, 0, none⟩ = some (.bool m2) ∧ y.cell? ⟨w2.heap.size + 1, 1, none⟩ = some (.string d2) ∧ y.cell? ⟨w2.heap.size, 0, none⟩ = some (.slice a2 n2 c2) ∧ y.cell? ⟨w2.heap.size, 1, none⟩ = some (.bool m2) ∧ y.cell? ⟨w1.heap.size + 1, 0, none⟩ = some (.bool m1) ∧ y.cell? ⟨w1.heap.size + 1, 1, none⟩ = some (.string d1) ∧ y.cell? ⟨w1.heap.size, 0, none⟩ = some (.slice a1 n1 c1) ∧ y.cell? ⟨w1.heap.size, 1, none⟩ = some (.bool m1)) ∧ Bag w (fun y => Slot2 y w4.heap.size (.slice a4 n4 c4) (.bool m4) ∧ IntAt y a4 n4 c4 m4 ZYX ∧ Slot2 y (w3.heap.size + 1) (.bool m3) (.string d3) ∧ Slot2 y w3.heap.size (.slice a3 n3 c3) (.bool m3) ∧ IntAt y a3 n3 c3 m3 X ∧ Slot2 y (w2.heap.size + 1) (.bool m2) (.string d2) ∧ Slot2 y w2.heap.size (.slice a2 n2 c2) (.bool m2) ∧ IntAt y a2 n2 c2 m2 Y ∧ Slot2 y (w1.heap.size + 1) (.bool m1) (.string d1) ∧ Slot2 y w1.heap.size (.slice a1 n1 c1) (.bool m1) ∧ IntAt y a1 n1 c1 m1 Z ∧ True) y)) (by kernel_rfl) ?_ (fun hH => ?_)
  · exact (have B9 := BB.out.drew; ⟨HC.out _ B9.now, B9⟩)
  refine wpAnyH_capture (fun G hG => ?_)
  have TAIL : ∀ (p13 p15 p19 p23 : Nat) (a5 : Option Addr) (n5 c5 : Nat) (m5 : Bool) (a6 : Option Addr) (n6 c6 : Nat) (m6 : Bool) (a7 : Option Addr) (n7 c7 : Nat) (m7 : Bool) (a8 : Option Addr) (n8 c8 : Nat) (m8 : Bool) (wy : World), ((wy.cell? ⟨w4.heap.size, 0, none⟩ = some (.slice a4 n4 c4) ∧ wy.cell? ⟨w4.heap.size, 1, none⟩ = some (.bool m4) ∧ wy.cell? ⟨w3.heap.size + 1, 0, none⟩ = some (.bool m3) ∧ wy.cell? ⟨w3.heap.size + 1, 1, none⟩ = some (.string d3) ∧ wy.cell? ⟨w3.heap.size, 0, none⟩ = some (.slice a3 n3 c3) ∧ wy.cell? ⟨w3.heap.size, 1, none⟩ = some (.bool m3) ∧ wy.cell? ⟨w2.heap.size + 1, 0, none⟩ = some (.bool m2) ∧ wy.cell? ⟨w2.heap.size + 1, 1, none⟩ = some (.string d2) ∧ wy.cell? ⟨w2.heap.size, 0, none⟩ = some (.slice a2 n2 c2) ∧ wy.cell? ⟨w2.heap.size, 1, none⟩ = some (.bool m2) ∧ wy.cell? ⟨w1.heap.size + 1, 0, none⟩ = some (.bool m1) ∧ wy.cell? ⟨w1.heap.size + 1, 1, none⟩ = some (.string d1) ∧ wy.cell? ⟨w1.heap.size, 0, none⟩ = some (.slice a1 n1 c1) ∧ wy.cell? ⟨w1.heap.size, 1, none⟩ = some (.bool m1)) ∧ Bag w (fun y => Slot2 y w4.heap.size (.slice a4 n4 c4) (.bool m4) ∧ IntAt y a4 n4 c4 m4 ZYX ∧ Slot2 y (w3.heap.size + 1) (.bool m3) (.string d3) ∧ Slot2 y w3.heap.size (.slice a3 n3 c3) (.bool m3) ∧ IntAt y a3 n3 c3 m3 X ∧ Slot2 y (w2.heap.size + 1) (.bool m2) (.string d2) ∧ Slot2 y w2.heap.size (.slice a2 n2 c2) (.bool m2) ∧ IntAt y a2 n2 c2 m2 Y ∧ Slot2 y (w1.heap.size + 1) (.bool m1) (.string d1) ∧ Slot2 y w1.heap.size (.slice a1 n1 c1) (.bool m1) ∧ IntAt y a1 n1 c1 m1 Z ∧ True) wy) → IntAt wy a6 n6 c6 m6 S → IntAt wy a7 n7 c7 m7 ZY → IntAt wy a8 n8 c8 m8 ZX → G 16 #[true, true, true, true, true, true, true, true, true, true, true, true, true, true, true, true, true, true, true, true, true, true, true, true, true, false, false, false, false, false, false, false, false, false, false, false, false, false, false, false, false] { tmps := #[Value.string s, Value.string t, Value.string u, undef, undef, undef, Value.bool false, Value.pointer (some { block := w1.heap.size, off := 0 }), Value.pointer (some { block := w1.heap.size + 1, off := 0 }), Value.bool true, Value.pointer (some { block := w2.heap.size, off := 0 }), Value.pointer (some { block := w2.heap.size + 1, off := 0 }), Value.bool true, Value.pointer (some { block := w3.heap.size, off := 0 }), Value.pointer (some { block := w3.heap.size + 1, off := 0 }), Value.bool true, Value.pointer (some { block := w4.heap.size, off := 0 }), Value.tuple #[Value.agg #[Value.slice a1 n1 c1, Value.bool m1], Value.agg #[Value.bool m1, Value.string d1], Value.bool true], Value.string s, Value.tuple #[Value.agg #[Value.slice a1 n1 c1, Value.bool m1], Value.agg #[Value.bool m1, Value.string d1], Value.bool true], Value.agg #[Value.slice a1 n1 c1, Value.bool m1], Value.agg #[Value.bool m1, Value.string d1], Value.bool true, Value.tuple #[Value.agg #[Value.slice a2 n2 c2, Value.bool m2], Value.agg #[Value.bool m2, Value.string d2], Value.bool true], Value.string t, Value.tuple #[Value.agg #[Value.slice a2 n2 c2, Value.bool m2], Value.agg #[Value.bool m2, Value.string d2], Value.bool true], Value.agg #[Value.slice a2 n2 c2, Value.bool m2], Value.agg #[Value.bool m2, Value.string d2], Value.bool true, Value.tuple #[Value.agg #[Value.slice a3 n3 c3, Value.bool m3], Value.agg #[Value.bool m3, Value.string d3], Value.bool true], Value.string u, Value.tuple #[Value.agg #[Value.slice a3 n3 c3, Value.bool m3], Value.agg #[Value.bool m3, Value.string d3], Value.bool true], Value.agg #[Value.slice a3 n3 c3, Value.bool m3], Value.agg #[Value.bool m3, Value.string d3], Value.bool true, Value.bool true, Value.bool false, Value.bool false, Value.bool true, Value.bool false, Value.bool false, Value.bool false, Value.bool true, Value.bool false, Value.bool false, undef, Value.agg #[Value.slice a1 n1 c1, Value.bool m1], Value.agg #[Value.slice a2 n2 c2, Value.bool m2], Value.agg #[Value.slice a3 n3 c3, Value.bool m3], Value.slice (some { block := w3.heap.size + 1 + 1, off := 0 }) 2 2, Value.agg #[Value.slice a4 n4 c4, Value.bool m4], Value.agg #[Value.slice a4 n4 c4, Value.bool m4], Value.string t1, Value.agg #[Value.bool m1, Value.string d1], Value.agg #[Value.bool m2, Value.string d2], Value.agg #[Value.bool b12, Value.string d12], Value.agg #[Value.bool m3, Value.string d3], Value.agg #[Value.bool b123, Value.string d123], Value.string t1, Value.bool true, Value.bool true, Value.agg #[Value.slice a1 n1 c1, Value.bool m1], Value.agg #[Value.slice a2 n2 c2, Value.bool m2], Value.agg #[Value.slice a3 n3 c3, Value.bool m3], Value.slice (some { block := p13, off := 0 }) 1 1, Value.agg #[Value.slice a5 n5 c5, Value.bool m5], Value.slice (some { block := p15, off := 0 }) 1 1, Value.agg #[Value.slice a6 n6 c6, Value.bool m6], Value.agg #[Value.slice a1 n1 c1, Value.bool m1], Value.agg #[Value.slice a2 n2 c2, Value.bool m2], Value.slice (some { block := p19, off := 0 }) 1 1, Value.agg #[Value.slice a7 n7 c7, Value.bool m7], Value.agg #[Value.slice a1 n1 c1, Value.bool m1], Value.agg #[Value.slice a3 n3 c3, Value.bool m3], Value.slice (some { block := p23, off := 0 }) 1 1, Value.agg #[Value.slice a8 n8 c8, Value.bool m8], undef, undef, undef, undef, undef, undef, undef, undef, undef, undef, undef, undef, undef, undef, undef], defers := [] } wy := by
    intro p13 p15 p19 p23 a5 n5 c5 m5 a6 n6 c6 m6 a7 n7 c7 m7 a8 n8 c8 m8 wy hH hi6 hi7 hi8
    refine Eq.mpr (hG _ _ _ _) ?_
    refine wpAnyH_ready (rs := [25]) (by kernel_rfl) (by simp) ?_
    refine AllReadyH.cons (o := { dst := some 76, op := Op.buildSlice 53 1 #[(0, Operand.tmp 75)], type := 53, pos := "law.go:61", after := #[{ on := 24, ground := Ground.data }, { on := 9, ground := Ground.guard }], guard := some (9, true) }) rfl (fun K hK => ?_) AllReadyH.nil
    go_simp
    refine hK.out _ _ ?_ (fun hH => ?_)
    · exact (have B9 := Bag.alloc hH.2 _; ⟨HC.out _ B9.now, B9⟩)
    clear hK K
    try simp only [Act.put, List.setIfInBounds_toArray, List.set_cons_zero, List.set_cons_succ]
    refine wpAnyH_ready (rs := [26]) (by kernel_rfl) (by simp) ?_
    refine AllReadyH.cons (o := { dst := some 77, op := Op.call { callee := Callee.value (Operand.func 11), args := #[Operand.tmp 71, Operand.tmp 76], argTypes := #[26, 53] }, type := 26, pos := "law.go:61", after := #[{ on := 20, ground := Ground.data }, { on := 25, ground := Ground.data }, { on := 24, ground := Ground.chain }, { on := 9, ground := Ground.guard }], guard := some (9, true) }) rfl (fun K hK => ?_) AllReadyH.nil
    go_simp
    (go_at_call 11; (with_reducible refine (PS.out a7 n7 c7 m7 _ _ ?_ ?_).mono ?_); exact (IntAt.below hi7 (by refine Below.more ?_ _; exact Below.refl _ _)); (apply IntsAt.old1; (exact Below.refl _ _); (first | rfl | focus (simp; done)); exact (IntAt.below hi8 (by refine Below.more ?_ _; exact Below.refl _ _))); rintro e wy ⟨a9, n9, c9, m9, rfl, hi9, hbz⟩)
    refine hK.out _ _ ?_ (fun hH => ?_)
    · exact (have B9 := Bag.go hH.2 hbz; ⟨HC.out _ B9.now, B9⟩)
    clear hK K
    try simp only [Act.put, List.setIfInBounds_toArray, List.set_cons_zero, List.set_cons_succ]
    refine wpAnyH_ready (rs := [27]) (by kernel_rfl) (by simp) ?_
    refine AllReadyH.cons (o := { dst := some 78, op := Op.call { callee := Callee.value (Operand.func 12), args := #[Operand.tmp 67, Operand.tmp 77], argTypes := #[26, 26] }, type := 3, pos := "law.go:61", after := #[{ on := 16, ground := Ground.data }, { on := 26, ground := Ground.data }, { on := 26, ground := Ground.chain }, { on := 9, ground := Ground.guard }], guard := some (9, true) }) rfl (fun K hK => ?_) AllReadyH.nil
    go_simp
    (go_at_call 12; (with_reducible refine (CQ.out a6 n6 c6 m6 a9 n9 c9 m9 _ ?_ hi9).mono ?_); exact (IntAt.below hi6 (by refine Below.step (by assumption) ?_; refine Below.more ?_ _; exact Below.refl _ _)); rintro e wy ⟨rfl, hbz⟩)
    refine hK.out _ _ ?_ (fun hH => ?_)
    · exact (have B9 := Bag.go hH.2 hbz; ⟨HC.out _ B9.now, B9⟩)
    clear hK K
    try simp only [Act.put, List.setIfInBounds_toArray, List.set_cons_zero, List.set_cons_succ]
    refine wpAnyH_take (i := 28) (oi := { dst := some 79, op := Op.binOp BinOp.eql 3 (Operand.tmp 78) (Operand.const (Value.int IntKind.i64 0)) 3, type := 4, pos := "law.go:61", after := #[{ on := 27, ground := Ground.data }, { on := 9, ground := Ground.guard }], guard := some (9, true) }) (v := ?v1) rfl (by kernel_rfl) (by kernel_rfl) (by kernel_rfl) (fun _ _ _ h => h) (Or.inl ⟨by rfl, ?hy1⟩) hH ?_
    case hy1 =>
      intro y hy
      (try dsimp only at hy)
      go_simp
      try with_reducible rfl
    try simp only [Act.put, List.setIfInBounds_toArray, List.set_cons_zero, List.set_cons_succ]
    refine wpAnyH_take (i := 29) (oi := { dst := some 80, op := Op.pick (Operand.tmp 60) (Operand.tmp 79) (Operand.const (Value.bool false)), type := 4, pos := "law.go:61", after := #[{ on := 9, ground := Ground.data }, { on := 28, ground := Ground.data }], guard := none }) (v := ?v2) rfl (by kernel_rfl) (by kernel_rfl) (by kernel_rfl) (fun _ _ _ h => h) (Or.inl ⟨by rfl, ?hy2⟩) hH ?_
    case hy2 =>
      intro y hy
      (try dsimp only at hy)
      go_simp
      try with_reducible rfl
    try simp only [Act.put, List.setIfInBounds_toArray, List.set_cons_zero, List.set_cons_succ]
    refine wpAnyH_take (i := 30) (oi := { dst := some 81, op := Op.move (Operand.tmp 80), type := 4, pos := "law.go:61", after := #[{ on := 29, ground := Ground.data }, { on := 27, ground := Ground.chain }], guard := none }) (v := ?v3) rfl (by kernel_rfl) (by kernel_rfl) (by kernel_rfl) (fun _ _ _ h => h) (Or.inl ⟨by rfl, ?hy3⟩) hH ?_
    case hy3 =>
      intro y hy
      (try dsimp only at hy)
      go_simp
      try with_reducible rfl
    try simp only [Act.put, List.setIfInBounds_toArray, List.set_cons_zero, List.set_cons_succ]
    refine wpAnyH_take (i := 31) (oi := { dst := some 82, op := Op.load 26 (Operand.tmp 7), type := 26, pos := "law.go:61", after := #[{ on := 30, ground := Ground.guard }], guard := some (30, true) }) (v := ?v4) rfl (by kernel_rfl) (by kernel_rfl) (by kernel_rfl) (fun _ _ _ h => h) (Or.inl ⟨by rfl, ?hy4⟩) hH ?_
    case hy4 =>
      intro y hy
      (try dsimp only at hy)
      go_simp
      try with_reducible rfl
    try simp only [Act.put, List.setIfInBounds_toArray, List.set_cons_zero, List.set_cons_succ]
    refine wpAnyH_take (i := 33) (oi := { dst := some 84, op := Op.load 26 (Operand.tmp 7), type := 26, pos := "law.go:61", after := #[{ on := 30, ground := Ground.guard }], guard := some (30, true) }) (v := ?v5) rfl (by kernel_rfl) (by kernel_rfl) (by kernel_rfl) (fun _ _ _ h => h) (Or.inl ⟨by rfl, ?hy5⟩) hH ?_
    case hy5 =>
      intro y hy
      (try dsimp only at hy)
      go_simp
      try with_reducible rfl
    try simp only [Act.put, List.setIfInBounds_toArray, List.set_cons_zero, List.set_cons_succ]
    refine wpAnyH_ready (rs := [32]) (by kernel_rfl) (by simp) ?_
    refine AllReadyH.cons (o := { dst := some 83, op := Op.call { callee := Callee.value (Operand.func 7), args := #[Operand.tmp 82, Operand.const (Value.slice none 0 0)], argTypes := #[26, 53] }, type := 26, pos := "law.go:61", after := #[{ on := 31, ground := Ground.data }, { on := 30, ground := Ground.chain }, { on := 30, ground := Ground.guard }], guard := some (30, true) }) rfl (fun K hK => ?_) AllReadyH.nil
    go_simp
    (go_at_call 7; (with_reducible refine (T0.out a1 n1 c1 m1 _ ?_).mono ?_); exact hH.2.now.2.2.2.2.2.2.2.2.2.2.1; rintro e wy ⟨a10, n10, c10, m10, rfl, hi10, hbz⟩)
    refine hK.out _ _ ?_ (fun hH => ?_)
    · exact (have B9 := Bag.go hH.2 hbz; ⟨HC.out _ B9.now, B9⟩)
    clear hK K
    try simp only [Act.put, List.setIfInBounds_toArray, List.set_cons_zero, List.set_cons_succ]
    refine wpAnyH_ready (rs := [34]) (by kernel_rfl) (by simp) ?_
    refine AllReadyH.cons (o := { dst := some 85, op := Op.call { callee := Callee.value (Operand.func 12), args := #[Operand.tmp 83, Operand.tmp 84], argTypes := #[26, 26] }, type := 3, pos := "law.go:61", after := #[{ on := 32, ground := Ground.data }, { on := 33, ground := Ground.data }, { on := 32, ground := Ground.chain }, { on := 30, ground := Ground.guard }], guard := some (30, true) }) rfl (fun K hK => ?_) AllReadyH.nil
    go_simp
    (go_at_call 12; (with_reducible refine (CZ.out a10 n10 c10 m10 a1 n1 c1 m1 _ hi10 ?_).mono ?_); exact hH.2.now.2.2.2.2.2.2.2.2.2.2.1; rintro e wy ⟨rfl, hbz⟩)
    refine hK.out _ _ ?_ (fun hH => ?_)
    · exact (have B9 := Bag.go hH.2 hbz; ⟨HC.out _ B9.now, B9⟩)
    clear hK K
    try simp only [Act.put, List.setIfInBounds_toArray, List.set_cons_zero, List.set_cons_succ]
    refine wpAnyH_take (i := 35) (oi := { dst := some 86, op := Op.binOp BinOp.eql 3 (Operand.tmp 85) (Operand.const (Value.int IntKind.i64 0)) 3, type := 4, pos := "law.go:61", after := #[{ on := 34, ground := Ground.data }, { on := 30, ground := Ground.guard }], guard := some (30, true) }) (v := ?v6) rfl (by kernel_rfl) (by kernel_rfl) (by kernel_rfl) (fun _ _ _ h => h) (Or.inl ⟨by rfl, ?hy6⟩) hH ?_
    case hy6 =>
      intro y hy
      (try dsimp only at hy)
      go_simp
      try with_reducible rfl
    try simp only [Act.put, List.setIfInBounds_toArray, List.set_cons_zero, List.set_cons_succ]
    refine wpAnyH_take (i := 36) (oi := { dst := some 87, op := Op.pick (Operand.tmp 81) (Operand.tmp 86) (Operand.const (Value.bool false)), type := 4, pos := "law.go:61", after := #[{ on := 30, ground := Ground.data }, { on := 35, ground := Ground.data }], guard := none }) (v := ?v7) rfl (by kernel_rfl) (by kernel_rfl) (by kernel_rfl) (fun _ _ _ h => h) (Or.inl ⟨by rfl, ?hy7⟩) hH ?_
    case hy7 =>
      intro y hy
      (try dsimp only at hy)
      go_simp
      try with_reducible rfl
    try simp only [Act.put, List.setIfInBounds_toArray, List.set_cons_zero, List.set_cons_succ]
    refine wpAnyH_take (i := 37) (oi := { dst := some 88, op := Op.move (Operand.tmp 87), type := 4, pos := "law.go:61", after := #[{ on := 36, ground := Ground.data }, { on := 34, ground := Ground.chain }], guard := none }) (v := ?v8) rfl (by kernel_rfl) (by kernel_rfl) (by kernel_rfl) (fun _ _ _ h => h) (Or.inl ⟨by rfl, ?hy8⟩) hH ?_
    case hy8 =>
      intro y hy
      (try dsimp only at hy)
      go_simp
      try with_reducible rfl
    try simp only [Act.put, List.setIfInBounds_toArray, List.set_cons_zero, List.set_cons_succ]
    refine wpAnyH_ready (rs := [38]) (by kernel_rfl) (by simp) ?_
    refine AllReadyH.cons (o := { dst := some 89, op := Op.call { callee := Callee.value (Operand.func 6), args := #[], argTypes := #[] }, type := 4, pos := "law.go:61", after := #[{ on := 37, ground := Ground.chain }, { on := 37, ground := Ground.guard }], guard := some (37, true) }) rfl (fun K hK => ?_) AllReadyH.nil
    go_simp
    (go_at_call 6; refine (awake2_any _).mono ?_; rintro e wy ⟨rfl, hbz⟩)
    refine hK.out _ _ ?_ (fun hH => ?_)
    · exact (have B9 := Bag.go hH.2 hbz; ⟨HC.out _ B9.now, B9⟩)
    clear hK K
    try simp only [Act.put, List.setIfInBounds_toArray, List.set_cons_zero, List.set_cons_succ]
    refine wpAnyH_take (i := 39) (oi := { dst := some 90, op := Op.pick (Operand.tmp 88) (Operand.tmp 89) (Operand.const (Value.bool false)), type := 4, pos := "law.go:61", after := #[{ on := 37, ground := Ground.data }, { on := 38, ground := Ground.data }], guard := none }) (v := ?v9) rfl (by kernel_rfl) (by kernel_rfl) (by kernel_rfl) (fun _ _ _ h => h) (Or.inl ⟨by rfl, ?hy9⟩) hH ?_
    case hy9 =>
      intro y hy
      (try dsimp only at hy)
      go_simp
      try with_reducible rfl
    try simp only [Act.put, List.setIfInBounds_toArray, List.set_cons_zero, List.set_cons_succ]
    refine wpAnyH_take (i := 40) (oi := { dst := some 6, op := Op.assign (Operand.tmp 90), type := 4, pos := "law.go:61", after := #[{ on := 39, ground := Ground.data }, { on := 38, ground := Ground.chain }, { on := 0, ground := Ground.phase }, { on := 1, ground := Ground.phase }, { on := 2, ground := Ground.phase }, { on := 3, ground := Ground.phase }, { on := 4, ground := Ground.phase }, { on := 5, ground := Ground.phase }, { on := 6, ground := Ground.phase }, { on := 7, ground := Ground.phase }, { on := 8, ground := Ground.phase }, { on := 9, ground := Ground.phase }, { on := 10, ground := Ground.phase }, { on := 11, ground := Ground.phase }, { on := 12, ground := Ground.phase }, { on := 13, ground := Ground.phase }, { on := 14, ground := Ground.phase }, { on := 15, ground := Ground.phase }, { on := 16, ground := Ground.phase }, { on := 17, ground := Ground.phase }, { on := 18, ground := Ground.phase }, { on := 19, ground := Ground.phase }, { on := 20, ground := Ground.phase }, { on := 21, ground := Ground.phase }, { on := 22, ground := Ground.phase }, { on := 23, ground := Ground.phase }, { on := 24, ground := Ground.phase }, { on := 25, ground := Ground.phase }, { on := 26, ground := Ground.phase }, { on := 27, ground := Ground.phase }, { on := 28, ground := Ground.phase }, { on := 29, ground := Ground.phase }, { on := 30, ground := Ground.phase }, { on := 31, ground := Ground.phase }, { on := 32, ground := Ground.phase }, { on := 33, ground := Ground.phase }, { on := 34, ground := Ground.phase }, { on := 35, ground := Ground.phase }, { on := 36, ground := Ground.phase }, { on := 37, ground := Ground.phase }, { on := 38, ground := Ground.phase }, { on := 39, ground := Ground.phase }], guard := none }) (v := ?v10) rfl (by kernel_rfl) (by kernel_rfl) (by kernel_rfl) (fun _ _ _ h => h) (Or.inl ⟨by rfl, ?hy10⟩) hH ?_
    case hy10 =>
      intro y hy
      (try dsimp only at hy)
      go_simp
      try with_reducible rfl
    try simp only [Act.put, List.setIfInBounds_toArray, List.set_cons_zero, List.set_cons_succ]
    refine wpAnyH_done (by kernel_rfl) ?_ _
    refine NoPanic.normal ?_
    have B9 := Lib.hid hH.2
    go_wp2
    go_ret
    exact ⟨rfl, B9.out.below⟩
  refine Eq.mpr (hG _ _ _ _) ?_
  refine wpAnyH_take (i := 0) (oi := { dst := some 51, op := Op.load 26 (Operand.tmp 16), type := 26, pos := "law.go:61", after := #[], guard := none }) (v := ?v11) rfl (by kernel_rfl) (by kernel_rfl) (by kernel_rfl) (fun _ _ _ h => h) (Or.inl ⟨by rfl, ?hy11⟩) hH ?_
  case hy11 =>
    intro y hy
    (try dsimp only at hy)
    go_simp
    try with_reducible rfl
  try simp only [Act.put, List.setIfInBounds_toArray, List.set_cons_zero, List.set_cons_succ]
  refine wpAnyH_take (i := 2) (oi := { dst := some 53, op := Op.load 28 (Operand.tmp 8), type := 28, pos := "law.go:61", after := #[], guard := none }) (v := ?v12) rfl (by kernel_rfl) (by kernel_rfl) (by kernel_rfl) (fun _ _ _ h => h) (Or.inl ⟨by rfl, ?hy12⟩) hH ?_
  case hy12 =>
    intro y hy
    (try dsimp only at hy)
    go_simp
    try with_reducible rfl
  try simp only [Act.put, List.setIfInBounds_toArray, List.set_cons_zero, List.set_cons_succ]
  refine wpAnyH_take (i := 3) (oi := { dst := some 54, op := Op.load 28 (Operand.tmp 11), type := 28, pos := "law.go:61", after := #[], guard := none }) (v := ?v13) rfl (by kernel_rfl) (by kernel_rfl) (by kernel_rfl) (fun _ _ _ h => h) (Or.inl ⟨by rfl, ?hy13⟩) hH ?_
  case hy13 =>
    intro y hy
    (try dsimp only at hy)
    go_simp
    try with_reducible rfl
  try simp only [Act.put, List.setIfInBounds_toArray, List.set_cons_zero, List.set_cons_succ]
  refine wpAnyH_take (i := 5) (oi := { dst := some 56, op := Op.load 28 (Operand.tmp 14), type := 28, pos := "law.go:61", after := #[], guard := none }) (v := ?v14) rfl (by kernel_rfl) (by kernel_rfl) (by kernel_rfl) (fun _ _ _ h => h) (Or.inl ⟨by rfl, ?hy14⟩) hH ?_
  case hy14 =>
    intro y hy
    (try dsimp only at hy)
    go_simp
    try with_reducible rfl
  try simp only [Act.put, List.setIfInBounds_toArray, List.set_cons_zero, List.set_cons_succ]
  refine wpAnyH_ready (rs := [1]) (by kernel_rfl) (by simp) ?_
  refine AllReadyH.cons (o := { dst := some 52, op := Op.call { callee := Callee.value (Operand.func 8), args := #[Operand.tmp 51, Operand.const (Value.string { data := #[45] })], argTypes := #[26, 9] }, type := 9, pos := "law.go:61", after := #[{ on := 0, ground := Ground.data }], guard := none }) rfl (fun K hK => ?_) AllReadyH.nil
  go_simp
  (go_at_call 8; (with_reducible refine (DG.out a4 n4 c4 m4 _ ?_).mono ?_); exact hH.2.now.2.1; rintro e wy ⟨rfl, hbz⟩)
  refine hK.out _ _ ?_ (fun hH => ?_)
  · exact (have B9 := Bag.go hH.2 hbz; ⟨HC.out _ B9.now, B9⟩)
  clear hK K
  try simp only [Act.put, List.setIfInBounds_toArray, List.set_cons_zero, List.set_cons_succ]
  refine wpAnyH_ready (rs := [4]) (by kernel_rfl) (by simp) ?_
  refine AllReadyH.cons (o := { dst := some 55, op := Op.call { callee := Callee.value (Operand.func 10), args := #[Operand.tmp 53, Operand.tmp 54], argTypes := #[28, 28] }, type := 28, pos := "law.go:61", after := #[{ on := 2, ground := Ground.data }, { on := 3, ground := Ground.data }, { on := 1, ground := Ground.chain }], guard := none }) rfl (fun K hK => ?_) AllReadyH.nil
  go_simp
  (go_at_call 10; (with_reducible refine (RM1.out _).mono ?_); rintro e wy ⟨rfl, hbz⟩)
  refine hK.out _ _ ?_ (fun hH => ?_)
  · exact (have B9 := Bag.go hH.2 hbz; ⟨HC.out _ B9.now, B9⟩)
  clear hK K
  try simp only [Act.put, List.setIfInBounds_toArray, List.set_cons_zero, List.set_cons_succ]
  refine wpAnyH_ready (rs := [6]) (by kernel_rfl) (by simp) ?_
  refine AllReadyH.cons (o := { dst := some 57, op := Op.call { callee := Callee.value (Operand.func 10), args := #[Operand.tmp 55, Operand.tmp 56], argTypes := #[28, 28] }, type := 28, pos := "law.go:61", after := #[{ on := 4, ground := Ground.data }, { on := 5, ground := Ground.data }, { on := 4, ground := Ground.chain }], guard := none }) rfl (fun K hK => ?_) AllReadyH.nil
  go_simp
  (go_at_call 10; (with_reducible refine (RM2.out _).mono ?_); rintro e wy ⟨rfl, hbz⟩)
  refine hK.out _ _ ?_ (fun hH => ?_)
  · exact (have B9 := Bag.go hH.2 hbz; ⟨HC.out _ B9.now, B9⟩)
  clear hK K
  try simp only [Act.put, List.setIfInBounds_toArray, List.set_cons_zero, List.set_cons_succ]
  refine wpAnyH_ready (rs := [7]) (by kernel_rfl) (by simp) ?_
  refine AllReadyH.cons (o := { dst := some 58, op := Op.call { callee := Callee.value (Operand.func 9), args := #[Operand.tmp 57, Operand.const (Value.string { data := #[45] })], argTypes := #[28, 9] }, type := 9, pos := "law.go:61", after := #[{ on := 6, ground := Ground.data }, { on := 6, ground := Ground.chain }], guard := none }) rfl (fun K hK => ?_) AllReadyH.nil
  go_simp
  (go_at_call 9; (with_reducible refine (RD.out _).mono ?_); rintro e wy ⟨rfl, hbz⟩)
  refine hK.out _ _ ?_ (fun hH => ?_)
  · exact (have B9 := Bag.go hH.2 hbz; ⟨HC.out _ B9.now, B9⟩)
  clear hK K
  try simp only [Act.put, List.setIfInBounds_toArray, List.set_cons_zero, List.set_cons_succ]
  refine wpAnyH_take (i := 8) (oi := { dst := some 59, op := Op.binOp BinOp.eql 9 (Operand.tmp 52) (Operand.tmp 58) 9, type := 4, pos := "law.go:61", after := #[{ on := 1, ground := Ground.data }, { on := 7, ground := Ground.data }], guard := none }) (v := ?v15) rfl (by kernel_rfl) (by kernel_rfl) (by kernel_rfl) (fun _ _ _ h => h) (Or.inl ⟨by rfl, ?hy15⟩) hH ?_
  case hy15 =>
    intro y hy
    (try dsimp only at hy)
    go_simp
    try with_reducible rfl
  try simp only [Act.put, List.setIfInBounds_toArray, List.set_cons_zero, List.set_cons_succ]
  refine wpAnyH_take (i := 9) (oi := { dst := some 60, op := Op.move (Operand.tmp 59), type := 4, pos := "law.go:61", after := #[{ on := 8, ground := Ground.data }, { on := 7, ground := Ground.chain }], guard := none }) (v := ?v16) rfl (by kernel_rfl) (by kernel_rfl) (by kernel_rfl) (fun _ _ _ h => h) (Or.inl ⟨by rfl, ?hy16⟩) hH ?_
  case hy16 =>
    intro y hy
    (try dsimp only at hy)
    go_simp
    try with_reducible rfl
  try simp only [Act.put, List.setIfInBounds_toArray, List.set_cons_zero, List.set_cons_succ]
  refine wpAnyH_take (i := 10) (oi := { dst := some 61, op := Op.load 26 (Operand.tmp 7), type := 26, pos := "law.go:61", after := #[{ on := 9, ground := Ground.guard }], guard := some (9, true) }) (v := ?v17) rfl (by kernel_rfl) (by kernel_rfl) (by kernel_rfl) (fun _ _ _ h => h) (Or.inl ⟨by rfl, ?hy17⟩) hH ?_
  case hy17 =>
    intro y hy
    (try dsimp only at hy)
    go_simp
    try with_reducible rfl
  try simp only [Act.put, List.setIfInBounds_toArray, List.set_cons_zero, List.set_cons_succ]
  refine wpAnyH_take (i := 11) (oi := { dst := some 62, op := Op.load 26 (Operand.tmp 10), type := 26, pos := "law.go:61", after := #[{ on := 9, ground := Ground.guard }], guard := some (9, true) }) (v := ?v18) rfl (by kernel_rfl) (by kernel_rfl) (by kernel_rfl) (fun _ _ _ h => h) (Or.inl ⟨by rfl, ?hy18⟩) hH ?_
  case hy18 =>
    intro y hy
    (try dsimp only at hy)
    go_simp
    try with_reducible rfl
  try simp only [Act.put, List.setIfInBounds_toArray, List.set_cons_zero, List.set_cons_succ]
  refine wpAnyH_take (i := 12) (oi := { dst := some 63, op := Op.load 26 (Operand.tmp 13), type := 26, pos := "law.go:61", after := #[{ on := 9, ground := Ground.guard }], guard := some (9, true) }) (v := ?v19) rfl (by kernel_rfl) (by kernel_rfl) (by kernel_rfl) (fun _ _ _ h => h) (Or.inl ⟨by rfl, ?hy19⟩) hH ?_
  case hy19 =>
    intro y hy
    (try dsimp only at hy)
    go_simp
    try with_reducible rfl
  try simp only [Act.put, List.setIfInBounds_toArray, List.set_cons_zero, List.set_cons_succ]
  refine wpAnyH_take (i := 17) (oi := { dst := some 68, op := Op.load 26 (Operand.tmp 7), type := 26, pos := "law.go:61", after := #[{ on := 9, ground := Ground.guard }], guard := some (9, true) }) (v := ?v20) rfl (by kernel_rfl) (by kernel_rfl) (by kernel_rfl) (fun _ _ _ h => h) (Or.inl ⟨by rfl, ?hy20⟩) hH ?_
  case hy20 =>
    intro y hy
    (try dsimp only at hy)
    go_simp
    try with_reducible rfl
  try simp only [Act.put, List.setIfInBounds_toArray, List.set_cons_zero, List.set_cons_succ]
  refine wpAnyH_take (i := 18) (oi := { dst := some 69, op := Op.load 26 (Operand.tmp 10), type := 26, pos := "law.go:61", after := #[{ on := 9, ground := Ground.guard }], guard := some (9, true) }) (v := ?v21) rfl (by kernel_rfl) (by kernel_rfl) (by kernel_rfl) (fun _ _ _ h => h) (Or.inl ⟨by rfl, ?hy21⟩) hH ?_
  case hy21 =>
    intro y hy
    (try dsimp only at hy)
    go_simp
    try with_reducible rfl
  try simp only [Act.put, List.setIfInBounds_toArray, List.set_cons_zero, List.set_cons_succ]
  refine wpAnyH_take (i := 21) (oi := { dst := some 72, op := Op.load 26 (Operand.tmp 7), type := 26, pos := "law.go:61", after := #[{ on := 9, ground := Ground.guard }], guard := some (9, true) }) (v := ?v22) rfl (by kernel_rfl) (by kernel_rfl) (by kernel_rfl) (fun _ _ _ h => h) (Or.inl ⟨by rfl, ?hy22⟩) hH ?_
  case hy22 =>
    intro y hy
    (try dsimp only at hy)
    go_simp
    try with_reducible rfl
  try simp only [Act.put, List.setIfInBounds_toArray, List.set_cons_zero, List.set_cons_succ]
  refine wpAnyH_take (i := 22) (oi := { dst := some 73, op := Op.load 26 (Operand.tmp 13), type := 26, pos := "law.go:61", after := #[{ on := 9, ground := Ground.guard }], guard := some (9, true) }) (v := ?v23) rfl (by kernel_rfl) (by kernel_rfl) (by kernel_rfl) (fun _ _ _ h => h) (Or.inl ⟨by rfl, ?hy23⟩) hH ?_
  case hy23 =>
    intro y hy
    (try dsimp only at hy)
    go_simp
    try with_reducible rfl
  try simp only [Act.put, List.setIfInBounds_toArray, List.set_cons_zero, List.set_cons_succ]
  refine wpAnyH_ready (rs := [13, 19, 23]) (by kernel_rfl) (by simp) ?_
  refine AllReadyH.cons (o := { dst := some 64, op := Op.buildSlice 53 1 #[(0, Operand.tmp 63)], type := 53, pos := "law.go:61", after := #[{ on := 12, ground := Ground.data }, { on := 9, ground := Ground.guard }], guard := some (9, true) }) rfl (fun K hK => ?_) ?_
  · go_simp
    refine hK.out _ _ ?_ (fun hH => ?_)
    · exact (have B9 := Bag.alloc hH.2 _; ⟨HC.out _ B9.now, B9⟩)
    clear hK K
    try simp only [Act.put, List.setIfInBounds_toArray, List.set_cons_zero, List.set_cons_succ]
    refine wpAnyH_ready (rs := [14, 19, 23]) (by kernel_rfl) (by simp) ?_
    refine AllReadyH.cons (o := { dst := some 65, op := Op.call { callee := Callee.value (Operand.func 11), args := #[Operand.tmp 62, Operand.tmp 64], argTypes := #[26, 53] }, type := 26, pos := "law.go:61", after := #[{ on := 11, ground := Ground.data }, { on := 13, ground := Ground.data }, { on := 9, ground := Ground.chain }, { on := 9, ground := Ground.guard }], guard := some (9, true) }) rfl (fun K hK => ?_) ?_
    · go_simp
      (go_at_call 11; (with_reducible refine (PB.out a2 n2 c2 m2 _ _ ?_ ?_).mono ?_); exact hH.2.now.2.2.2.2.2.2.2.1; (apply IntsAt.old1; (exact Below.refl _ _); (first | rfl | focus (simp; done)); exact hH.2.now.2.2.2.2.1); rintro e wy ⟨a5, n5, c5, m5, rfl, hi5, hbz⟩)
      refine hK.out _ _ ?_ (fun hH => ?_)
      · exact (have B9 := Bag.go hH.2 hbz; ⟨HC.out _ B9.now, B9⟩)
      clear hK K
      try simp only [Act.put, List.setIfInBounds_toArray, List.set_cons_zero, List.set_cons_succ]
      refine wpAnyH_ready (rs := [15, 19, 23]) (by kernel_rfl) (by simp) ?_
      refine AllReadyH.cons (o := { dst := some 66, op := Op.buildSlice 53 1 #[(0, Operand.tmp 65)], type := 53, pos := "law.go:61", after := #[{ on := 14, ground := Ground.data }, { on := 9, ground := Ground.guard }], guard := some (9, true) }) rfl (fun K hK => ?_) ?_
      · go_simp
        refine hK.out _ _ ?_ (fun hH => ?_)
        · exact (have B9 := Bag.alloc hH.2 _; ⟨HC.out _ B9.now, B9⟩)
        clear hK K
        try simp only [Act.put, List.setIfInBounds_toArray, List.set_cons_zero, List.set_cons_succ]
        refine wpAnyH_ready (rs := [16, 19, 23]) (by kernel_rfl) (by simp) ?_
        refine AllReadyH.cons (o := { dst := some 67, op := Op.call { callee := Callee.value (Operand.func 7), args := #[Operand.tmp 61, Operand.tmp 66], argTypes := #[26, 53] }, type := 26, pos := "law.go:61", after := #[{ on := 10, ground := Ground.data }, { on := 15, ground := Ground.data }, { on := 14, ground := Ground.chain }, { on := 9, ground := Ground.guard }], guard := some (9, true) }) rfl (fun K hK => ?_) ?_
        · go_simp
          (go_at_call 7; (with_reducible refine (TB.out a1 n1 c1 m1 _ _ ?_ ?_).mono ?_); exact hH.2.now.2.2.2.2.2.2.2.2.2.2.1; (apply IntsAt.old1; (exact Below.refl _ _); (first | rfl | focus (simp; done)); exact (IntAt.below hi5 (by refine Below.more ?_ _; exact Below.refl _ _))); rintro e wy ⟨a6, n6, c6, m6, rfl, hi6, hbz⟩)
          refine hK.out _ _ ?_ (fun hH => ?_)
          · exact (have B9 := Bag.go hH.2 hbz; ⟨HC.out _ B9.now, B9⟩)
          clear hK K
          try simp only [Act.put, List.setIfInBounds_toArray, List.set_cons_zero, List.set_cons_succ]
          refine wpAnyH_ready (rs := [19, 23]) (by kernel_rfl) (by simp) ?_
          refine AllReadyH.cons (o := { dst := some 70, op := Op.buildSlice 53 1 #[(0, Operand.tmp 69)], type := 53, pos := "law.go:61", after := #[{ on := 18, ground := Ground.data }, { on := 9, ground := Ground.guard }], guard := some (9, true) }) rfl (fun K hK => ?_) ?_
          · go_simp
            refine hK.out _ _ ?_ (fun hH => ?_)
            · exact (have B9 := Bag.alloc hH.2 _; ⟨HC.out _ B9.now, B9⟩)
            clear hK K
            try simp only [Act.put, List.setIfInBounds_toArray, List.set_cons_zero, List.set_cons_succ]
            refine wpAnyH_ready (rs := [20, 23]) (by kernel_rfl) (by simp) ?_
            refine AllReadyH.cons (o := { dst := some 71, op := Op.call { callee := Callee.value (Operand.func 7), args := #[Operand.tmp 68, Operand.tmp 70], argTypes := #[26, 53] }, type := 26, pos := "law.go:61", after := #[{ on := 17, ground := Ground.data }, { on := 19, ground := Ground.data }, { on := 16, ground := Ground.chain }, { on := 9, ground := Ground.guard }], guard := some (9, true) }) rfl (fun K hK => ?_) ?_
            · go_simp
              (go_at_call 7; (with_reducible refine (TY.out a1 n1 c1 m1 _ _ ?_ ?_).mono ?_); exact hH.2.now.2.2.2.2.2.2.2.2.2.2.1; (apply IntsAt.old1; (exact Below.refl _ _); (first | rfl | focus (simp; done)); exact hH.2.now.2.2.2.2.2.2.2.1); rintro e wy ⟨a7, n7, c7, m7, rfl, hi7, hbz⟩)
              refine hK.out _ _ ?_ (fun hH => ?_)
              · exact (have B9 := Bag.go hH.2 hbz; ⟨HC.out _ B9.now, B9⟩)
              clear hK K
              try simp only [Act.put, List.setIfInBounds_toArray, List.set_cons_zero, List.set_cons_succ]
              refine wpAnyH_ready (rs := [23]) (by kernel_rfl) (by simp) ?_
              refine AllReadyH.cons (o := { dst := some 74, op := Op.buildSlice 53 1 #[(0, Operand.tmp 73)], type := 53, pos := "law.go:61", after := #[{ on := 22, ground := Ground.data }, { on := 9, ground := Ground.guard }], guard := some (9, true) }) rfl (fun K hK => ?_) AllReadyH.nil
              go_simp
              refine hK.out _ _ ?_ (fun hH => ?_)
              · exact (have B9 := Bag.alloc hH.2 _; ⟨HC.out _ B9.now, B9⟩)
              clear hK K
              try simp only [Act.put, List.setIfInBounds_toArray, List.set_cons_zero, List.set_cons_succ]
              refine wpAnyH_ready (rs := [24]) (by kernel_rfl) (by simp) ?_
              refine AllReadyH.cons (o := { dst := some 75, op := Op.call { callee := Callee.value (Operand.func 7), args := #[Operand.tmp 72, Operand.tmp 74], argTypes := #[26, 53] }, type := 26, pos := "law.go:61", after := #[{ on := 21, ground := Ground.data }, { on := 23, ground := Ground.data }, { on := 20, ground := Ground.chain }, { on := 9, ground := Ground.guard }], guard := some (9, true) }) rfl (fun K hK => ?_) AllReadyH.nil
              go_simp
              (go_at_call 7; (with_reducible refine (TX.out a1 n1 c1 m1 _ _ ?_ ?_).mono ?_); exact hH.2.now.2.2.2.2.2.2.2.2.2.2.1; (apply IntsAt.old1; (exact Below.refl _ _); (first | rfl | focus (simp; done)); exact hH.2.now.2.2.2.2.1); rintro e wy ⟨a8, n8, c8, m8, rfl, hi8, hbz⟩)
              refine hK.out _ _ ?_ (fun hH => ?_)
              · exact (have B9 := Bag.go hH.2 hbz; ⟨HC.out _ B9.now, B9⟩)
              clear hK K
              try simp only [Act.put, List.setIfInBounds_toArray, List.set_cons_zero, List.set_cons_succ]
              refine Eq.mp (hG _ _ _ _) ?_
              exact captured (by kernel_rfl) (by kernel_rfl) (TAIL _ _ _ _ _ _ _ _ _ _ _ _ _ _ _ _ _ _ _ _ _ hH (IntAt.below hi6 (by refine Below.step (by assumption) ?_; refine Below.more ?_ _; refine Below.step (by assumption) ?_; refine Below.more ?_ _; exact Below.refl _ _)) (IntAt.below hi7 (by refine Below.step (by assumption) ?_; refine Below.more ?_ _; exact Below.refl _ _)) hi8)
            refine AllReadyH.cons (o := { dst := some 74, op := Op.buildSlice 53 1 #[(0, Operand.tmp 73)], type := 53, pos := "law.go:61", after := #[{ on := 22, ground := Ground.data }, { on := 9, ground := Ground.guard }], guard := some (9, true) }) rfl (fun K hK => ?_) ?_
            · go_simp
              refine hK.out _ _ ?_ (fun hH => ?_)
              · exact (have B9 := Bag.alloc hH.2 _; ⟨HC.out _ B9.now, B9⟩)
              clear hK K
              try simp only [Act.put, List.setIfInBounds_toArray, List.set_cons_zero, List.set_cons_succ]
              refine wpAnyH_ready (rs := [20]) (by kernel_rfl) (by simp) ?_
              refine AllReadyH.cons (o := { dst := some 71, op := Op.call { callee := Callee.value (Operand.func 7), args := #[Operand.tmp 68, Operand.tmp 70], argTypes := #[26, 53] }, type := 26, pos := "law.go:61", after := #[{ on := 17, ground := Ground.data }, { on := 19, ground := Ground.data }, { on := 16, ground := Ground.chain }, { on := 9, ground := Ground.guard }], guard := some (9, true) }) rfl (fun K hK => ?_) AllReadyH.nil
              go_simp
              (go_at_call 7; (with_reducible refine (TY.out a1 n1 c1 m1 _ _ ?_ ?_).mono ?_); exact hH.2.now.2.2.2.2.2.2.2.2.2.2.1; (apply IntsAt.old1; (refine Below.more ?_ _; exact Below.refl _ _); (first | rfl | focus (simp; done)); exact hH.2.now.2.2.2.2.2.2.2.1); rintro e wy ⟨a7, n7, c7, m7, rfl, hi7, hbz⟩)
              refine hK.out _ _ ?_ (fun hH => ?_)
              · exact (have B9 := Bag.go hH.2 hbz; ⟨HC.out _ B9.now, B9⟩)
              clear hK K
              try simp only [Act.put, List.setIfInBounds_toArray, List.set_cons_zero, List.set_cons_succ]
              refine wpAnyH_ready (rs := [24]) (by kernel_rfl) (by simp) ?_
              refine AllReadyH.cons (o := { dst := some 75, op := Op.call { callee := Callee.value (Operand.func 7), args := #[Operand.tmp 72, Operand.tmp 74], argTypes := #[26, 53] }, type := 26, pos := "law.go:61", after := #[{ on := 21, ground := Ground.data }, { on := 23, ground := Ground.data }, { on := 20, ground := Ground.chain }, { on := 9, ground := Ground.guard }], guard := some (9, true) }) rfl (fun K hK => ?_) AllReadyH.nil
              go_simp
              (go_at_call 7; (with_reducible refine (TX.out a1 n1 c1 m1 _ _ ?_ ?_).mono ?_); exact hH.2.now.2.2.2.2.2.2.2.2.2.2.1; (apply IntsAt.old1; (refine Below.step (by assumption) ?_; exact Below.refl _ _); (first | rfl | focus (simp; done)); exact hH.2.now.2.2.2.2.1); rintro e wy ⟨a8, n8, c8, m8, rfl, hi8, hbz⟩)
              refine hK.out _ _ ?_ (fun hH => ?_)
              · exact (have B9 := Bag.go hH.2 hbz; ⟨HC.out _ B9.now, B9⟩)
              clear hK K
              try simp only [Act.put, List.setIfInBounds_toArray, List.set_cons_zero, List.set_cons_succ]
              refine Eq.mp (hG _ _ _ _) ?_
              exact captured (by kernel_rfl) (by kernel_rfl) (TAIL _ _ _ _ _ _ _ _ _ _ _ _ _ _ _ _ _ _ _ _ _ hH (IntAt.below hi6 (by refine Below.step (by assumption) ?_; refine Below.step (by assumption) ?_; refine Below.more ?_ _; refine Below.more ?_ _; exact Below.refl _ _)) (IntAt.below hi7 (by refine Below.step (by assumption) ?_; exact Below.refl _ _)) hi8)
            exact AllReadyH.nil
          refine AllReadyH.cons (o := { dst := some 74, op := Op.buildSlice 53 1 #[(0, Operand.tmp 73)], type := 53, pos := "law.go:61", after := #[{ on := 22, ground := Ground.data }, { on := 9, ground := Ground.guard }], guard := some (9, true) }) rfl (fun K hK => ?_) ?_
          · go_simp
            refine hK.out _ _ ?_ (fun hH => ?_)
            · exact (have B9 := Bag.alloc hH.2 _; ⟨HC.out _ B9.now, B9⟩)
            clear hK K
            try simp only [Act.put, List.setIfInBounds_toArray, List.set_cons_zero, List.set_cons_succ]
            refine wpAnyH_ready (rs := [19]) (by kernel_rfl) (by simp) ?_
            refine AllReadyH.cons (o := { dst := some 70, op := Op.buildSlice 53 1 #[(0, Operand.tmp 69)], type := 53, pos := "law.go:61", after := #[{ on := 18, ground := Ground.data }, { on := 9, ground := Ground.guard }], guard := some (9, true) }) rfl (fun K hK => ?_) AllReadyH.nil
            go_simp
            refine hK.out _ _ ?_ (fun hH => ?_)
            · exact (have B9 := Bag.alloc hH.2 _; ⟨HC.out _ B9.now, B9⟩)
            clear hK K
            try simp only [Act.put, List.setIfInBounds_toArray, List.set_cons_zero, List.set_cons_succ]
            refine wpAnyH_ready (rs := [20]) (by kernel_rfl) (by simp) ?_
            refine AllReadyH.cons (o := { dst := some 71, op := Op.call { callee := Callee.value (Operand.func 7), args := #[Operand.tmp 68, Operand.tmp 70], argTypes := #[26, 53] }, type := 26, pos := "law.go:61", after := #[{ on := 17, ground := Ground.data }, { on := 19, ground := Ground.data }, { on := 16, ground := Ground.chain }, { on := 9, ground := Ground.guard }], guard := some (9, true) }) rfl (fun K hK => ?_) AllReadyH.nil
            go_simp
            (go_at_call 7; (with_reducible refine (TY.out a1 n1 c1 m1 _ _ ?_ ?_).mono ?_); exact hH.2.now.2.2.2.2.2.2.2.2.2.2.1; (apply IntsAt.old1; (exact Below.refl _ _); (first | rfl | focus (simp; done)); exact hH.2.now.2.2.2.2.2.2.2.1); rintro e wy ⟨a7, n7, c7, m7, rfl, hi7, hbz⟩)
            refine hK.out _ _ ?_ (fun hH => ?_)
            · exact (have B9 := Bag.go hH.2 hbz; ⟨HC.out _ B9.now, B9⟩)
            clear hK K
            try simp only [Act.put, List.setIfInBounds_toArray, List.set_cons_zero, List.set_cons_succ]
            refine wpAnyH_ready (rs := [24]) (by kernel_rfl) (by simp) ?_
            refine AllReadyH.cons (o := { dst := some 75, op := Op.call { callee := Callee.value (Operand.func 7), args := #[Operand.tmp 72, Operand.tmp 74], argTypes := #[26, 53] }, type := 26, pos := "law.go:61", after := #[{ on := 21, ground := Ground.data }, { on := 23, ground := Ground.data }, { on := 20, ground := Ground.chain }, { on := 9, ground := Ground.guard }], guard := some (9, true) }) rfl (fun K hK => ?_) AllReadyH.nil
            go_simp
            (go_at_call 7; (with_reducible refine (TX.out a1 n1 c1 m1 _ _ ?_ ?_).mono ?_); exact hH.2.now.2.2.2.2.2.2.2.2.2.2.1; (apply IntsAt.old1; (refine Below.step (by assumption) ?_; refine Below.more ?_ _; exact Below.refl _ _); (first | rfl | focus (simp; done)); exact hH.2.now.2.2.2.2.1); rintro e wy ⟨a8, n8, c8, m8, rfl, hi8, hbz⟩)
            refine hK.out _ _ ?_ (fun hH => ?_)
            · exact (have B9 := Bag.go hH.2 hbz; ⟨HC.out _ B9.now, B9⟩)
            clear hK K
            try simp only [Act.put, List.setIfInBounds_toArray, List.set_cons_zero, List.set_cons_succ]
            refine Eq.mp (hG _ _ _ _) ?_
            exact captured (by kernel_rfl) (by kernel_rfl) (TAIL _ _ _ _ _ _ _ _ _ _ _ _ _ _ _ _ _ _ _ _ _ hH (IntAt.below hi6 (by refine Below.step (by assumption) ?_; refine Below.step (by assumption) ?_; refine Below.more ?_ _; refine Below.more ?_ _; exact Below.refl _ _)) (IntAt.below hi7 (by refine Below.step (by assumption) ?_; exact Below.refl _ _)) hi8)
          exact AllReadyH.nil
        refine AllReadyH.cons (o := { dst := some 70, op := Op.buildSlice 53 1 #[(0, Operand.tmp 69)], type := 53, pos := "law.go:61", after := #[{ on := 18, ground := Ground.data }, { on := 9, ground := Ground.guard }], guard := some (9, true) }) rfl (fun K hK => ?_) ?_
        · go_simp
          refine hK.out _ _ ?_ (fun hH => ?_)
          · exact (have B9 := Bag.alloc hH.2 _; ⟨HC.out _ B9.now, B9⟩)
          clear hK K
          try simp only [Act.put, List.setIfInBounds_toArray, List.set_cons_zero, List.set_cons_succ]
          refine wpAnyH_ready (rs := [16, 23]) (by kernel_rfl) (by simp) ?_
          refine AllReadyH.cons (o := { dst := some 67, op := Op.call { callee := Callee.value (Operand.func 7), args := #[Operand.tmp 61, Operand.tmp 66], argTypes := #[26, 53] }, type := 26, pos := "law.go:61", after := #[{ on := 10, ground := Ground.data }, { on := 15, ground := Ground.data }, { on := 14, ground := Ground.chain }, { on := 9, ground := Ground.guard }], guard := some (9, true) }) rfl (fun K hK => ?_) ?_
          · go_simp
            (go_at_call 7; (with_reducible refine (TB.out a1 n1 c1 m1 _ _ ?_ ?_).mono ?_); exact hH.2.now.2.2.2.2.2.2.2.2.2.2.1; (apply IntsAt.old1; (refine Below.more ?_ _; exact Below.refl _ _); (first | rfl | focus (simp; done)); exact (IntAt.below hi5 (by refine Below.more ?_ _; refine Below.more ?_ _; exact Below.refl _ _))); rintro e wy ⟨a6, n6, c6, m6, rfl, hi6, hbz⟩)
            refine hK.out _ _ ?_ (fun hH => ?_)
            · exact (have B9 := Bag.go hH.2 hbz; ⟨HC.out _ B9.now, B9⟩)
            clear hK K
            try simp only [Act.put, List.setIfInBounds_toArray, List.set_cons_zero, List.set_cons_succ]
            refine wpAnyH_ready (rs := [20, 23]) (by kernel_rfl) (by simp) ?_
            refine AllReadyH.cons (o := { dst := some 71, op := Op.call { callee := Callee.value (Operand.func 7), args := #[Operand.tmp 68, Operand.tmp 70], argTypes := #[26, 53] }, type := 26, pos := "law.go:61", after := #[{ on := 17, ground := Ground.data }, { on := 19, ground := Ground.data }, { on := 16, ground := Ground.chain }, { on := 9, ground := Ground.guard }], guard := some (9, true) }) rfl (fun K hK => ?_) ?_
            · go_simp
              (go_at_call 7; (with_reducible refine (TY.out a1 n1 c1 m1 _ _ ?_ ?_).mono ?_); exact hH.2.now.2.2.2.2.2.2.2.2.2.2.1; (apply IntsAt.old1; (refine Below.step (by assumption) ?_; exact Below.refl _ _); (first | rfl | focus (simp; done)); exact hH.2.now.2.2.2.2.2.2.2.1); rintro e wy ⟨a7, n7, c7, m7, rfl, hi7, hbz⟩)
              refine hK.out _ _ ?_ (fun hH => ?_)
              · exact (have B9 := Bag.go hH.2 hbz; ⟨HC.out _ B9.now, B9⟩)
              clear hK K
              try simp only [Act.put, List.setIfInBounds_toArray, List.set_cons_zero, List.set_cons_succ]
              refine wpAnyH_ready (rs := [23]) (by kernel_rfl) (by simp) ?_
              refine AllReadyH.cons (o := { dst := some 74, op := Op.buildSlice 53 1 #[(0, Operand.tmp 73)], type := 53, pos := "law.go:61", after := #[{ on := 22, ground := Ground.data }, { on := 9, ground := Ground.guard }], guard := some (9, true) }) rfl (fun K hK => ?_) AllReadyH.nil
              go_simp
              refine hK.out _ _ ?_ (fun hH => ?_)
              · exact (have B9 := Bag.alloc hH.2 _; ⟨HC.out _ B9.now, B9⟩)
              clear hK K
              try simp only [Act.put, List.setIfInBounds_toArray, List.set_cons_zero, List.set_cons_succ]
              refine wpAnyH_ready (rs := [24]) (by kernel_rfl) (by simp) ?_
              refine AllReadyH.cons (o := { dst := some 75, op := Op.call { callee := Callee.value (Operand.func 7), args := #[Operand.tmp 72, Operand.tmp 74], argTypes := #[26, 53] }, type := 26, pos := "law.go:61", after := #[{ on := 21, ground := Ground.data }, { on := 23, ground := Ground.data }, { on := 20, ground := Ground.chain }, { on := 9, ground := Ground.guard }], guard := some (9, true) }) rfl (fun K hK => ?_) AllReadyH.nil
              go_simp
              (go_at_call 7; (with_reducible refine (TX.out a1 n1 c1 m1 _ _ ?_ ?_).mono ?_); exact hH.2.now.2.2.2.2.2.2.2.2.2.2.1; (apply IntsAt.old1; (exact Below.refl _ _); (first | rfl | focus (simp; done)); exact hH.2.now.2.2.2.2.1); rintro e wy ⟨a8, n8, c8, m8, rfl, hi8, hbz⟩)
              refine hK.out _ _ ?_ (fun hH => ?_)
              · exact (have B9 := Bag.go hH.2 hbz; ⟨HC.out _ B9.now, B9⟩)
              clear hK K
              try simp only [Act.put, List.setIfInBounds_toArray, List.set_cons_zero, List.set_cons_succ]
              refine Eq.mp (hG _ _ _ _) ?_
              exact captured (by kernel_rfl) (by kernel_rfl) (TAIL _ _ _ _ _ _ _ _ _ _ _ _ _ _ _ _ _ _ _ _ _ hH (IntAt.below hi6 (by refine Below.step (by assumption) ?_; refine Below.more ?_ _; refine Below.step (by assumption) ?_; exact Below.refl _ _)) (IntAt.below hi7 (by refine Below.step (by assumption) ?_; refine Below.more ?_ _; exact Below.refl _ _)) hi8)
            refine AllReadyH.cons (o := { dst := some 74, op := Op.buildSlice 53 1 #[(0, Operand.tmp 73)], type := 53, pos := "law.go:61", after := #[{ on := 22, ground := Ground.data }, { on := 9, ground := Ground.guard }], guard := some (9, true) }) rfl (fun K hK => ?_) ?_
            · go_simp
              refine hK.out _ _ ?_ (fun hH => ?_)
              · exact (have B9 := Bag.alloc hH.2 _; ⟨HC.out _ B9.now, B9⟩)
              clear hK K
              try simp only [Act.put, List.setIfInBounds_toArray, List.set_cons_zero, List.set_cons_succ]
              refine wpAnyH_ready (rs := [20]) (by kernel_rfl) (by simp) ?_
              refine AllReadyH.cons (o := { dst := some 71, op := Op.call { callee := Callee.value (Operand.func 7), args := #[Operand.tmp 68, Operand.tmp 70], argTypes := #[26, 53] }, type := 26, pos := "law.go:61", after := #[{ on := 17, ground := Ground.data }, { on := 19, ground := Ground.data }, { on := 16, ground := Ground.chain }, { on := 9, ground := Ground.guard }], guard := some (9, true) }) rfl (fun K hK => ?_) AllReadyH.nil
              go_simp
              (go_at_call 7; (with_reducible refine (TY.out a1 n1 c1 m1 _ _ ?_ ?_).mono ?_); exact hH.2.now.2.2.2.2.2.2.2.2.2.2.1; (apply IntsAt.old1; (refine Below.more ?_ _; refine Below.step (by assumption) ?_; exact Below.refl _ _); (first | rfl | focus (simp; done)); exact hH.2.now.2.2.2.2.2.2.2.1); rintro e wy ⟨a7, n7, c7, m7, rfl, hi7, hbz⟩)
              refine hK.out _ _ ?_ (fun hH => ?_)
              · exact (have B9 := Bag.go hH.2 hbz; ⟨HC.out _ B9.now, B9⟩)
              clear hK K
              try simp only [Act.put, List.setIfInBounds_toArray, List.set_cons_zero, List.set_cons_succ]
              refine wpAnyH_ready (rs := [24]) (by kernel_rfl) (by simp) ?_
              refine AllReadyH.cons (o := { dst := some 75, op := Op.call { callee := Callee.value (Operand.func 7), args := #[Operand.tmp 72, Operand.tmp 74], argTypes := #[26, 53] }, type := 26, pos := "law.go:61", after := #[{ on := 21, ground := Ground.data }, { on := 23, ground := Ground.data }, { on := 20, ground := Ground.chain }, { on := 9, ground := Ground.guard }], guard := some (9, true) }) rfl (fun K hK => ?_) AllReadyH.nil
              go_simp
              (go_at_call 7; (with_reducible refine (TX.out a1 n1 c1 m1 _ _ ?_ ?_).mono ?_); exact hH.2.now.2.2.2.2.2.2.2.2.2.2.1; (apply IntsAt.old1; (refine Below.step (by assumption) ?_; exact Below.refl _ _); (first | rfl | focus (simp; done)); exact hH.2.now.2.2.2.2.1); rintro e wy ⟨a8, n8, c8, m8, rfl, hi8, hbz⟩)
              refine hK.out _ _ ?_ (fun hH => ?_)
              · exact (have B9 := Bag.go hH.2 hbz; ⟨HC.out _ B9.now, B9⟩)
              clear hK K
              try simp only [Act.put, List.setIfInBounds_toArray, List.set_cons_zero, List.set_cons_succ]
              refine Eq.mp (hG _ _ _ _) ?_
              exact captured (by kernel_rfl) (by kernel_rfl) (TAIL _ _ _ _ _ _ _ _ _ _ _ _ _ _ _ _ _ _ _ _ _ hH (IntAt.below hi6 (by refine Below.step (by assumption) ?_; refine Below.step (by assumption) ?_; refine Below.more ?_ _; exact Below.refl _ _)) (IntAt.below hi7 (by refine Below.step (by assumption) ?_; exact Below.refl _ _)) hi8)
            exact AllReadyH.nil
          refine AllReadyH.cons (o := { dst := some 74, op := Op.buildSlice 53 1 #[(0, Operand.tmp 73)], type := 53, pos := "law.go:61", after := #[{ on := 22, ground := Ground.data }, { on := 9, ground := Ground.guard }], guard := some (9, true) }) rfl (fun K hK => ?_) ?_
          · go_simp
            refine hK.out _ _ ?_ (fun hH => ?_)
            · exact (have B9 := Bag.alloc hH.2 _; ⟨HC.out _ B9.now, B9⟩)
            clear hK K
            try simp only [Act.put, List.setIfInBounds_toArray, List.set_cons_zero, List.set_cons_succ]
            refine wpAnyH_ready (rs := [16]) (by kernel_rfl) (by simp) ?_
            refine AllReadyH.cons (o := { dst := some 67, op := Op.call { callee := Callee.value (Operand.func 7), args := #[Operand.tmp 61, Operand.tmp 66], argTypes := #[26, 53] }, type := 26, pos := "law.go:61", after := #[{ on := 10, ground := Ground.data }, { on := 15, ground := Ground.data }, { on := 14, ground := Ground.chain }, { on := 9, ground := Ground.guard }], guard := some (9, true) }) rfl (fun K hK => ?_) AllReadyH.nil
            go_simp
            (go_at_call 7; (with_reducible refine (TB.out a1 n1 c1 m1 _ _ ?_ ?_).mono ?_); exact hH.2.now.2.2.2.2.2.2.2.2.2.2.1; (apply IntsAt.old1; (refine Below.more ?_ _; refine Below.more ?_ _; exact Below.refl _ _); (first | rfl | focus (simp; done)); exact (IntAt.below hi5 (by refine Below.more ?_ _; refine Below.more ?_ _; refine Below.more ?_ _; exact Below.refl _ _))); rintro e wy ⟨a6, n6, c6, m6, rfl, hi6, hbz⟩)
            refine hK.out _ _ ?_ (fun hH => ?_)
            · exact (have B9 := Bag.go hH.2 hbz; ⟨HC.out _ B9.now, B9⟩)
            clear hK K
            try simp only [Act.put, List.setIfInBounds_toArray, List.set_cons_zero, List.set_cons_succ]
            refine wpAnyH_ready (rs := [20]) (by kernel_rfl) (by simp) ?_
            refine AllReadyH.cons (o := { dst := some 71, op := Op.call { callee := Callee.value (Operand.func 7), args := #[Operand.tmp 68, Operand.tmp 70], argTypes := #[26, 53] }, type := 26, pos := "law.go:61", after := #[{ on := 17, ground := Ground.data }, { on := 19, ground := Ground.data }, { on := 16, ground := Ground.chain }, { on := 9, ground := Ground.guard }], guard := some (9, true) }) rfl (fun K hK => ?_) AllReadyH.nil
            go_simp
            (go_at_call 7; (with_reducible refine (TY.out a1 n1 c1 m1 _ _ ?_ ?_).mono ?_); exact hH.2.now.2.2.2.2.2.2.2.2.2.2.1; (apply IntsAt.old1; (refine Below.step (by assumption) ?_; refine Below.more ?_ _; exact Below.refl _ _); (first | rfl | focus (simp; done)); exact hH.2.now.2.2.2.2.2.2.2.1); rintro e wy ⟨a7, n7, c7, m7, rfl, hi7, hbz⟩)
            refine hK.out _ _ ?_ (fun hH => ?_)
            · exact (have B9 := Bag.go hH.2 hbz; ⟨HC.out _ B9.now, B9⟩)
            clear hK K
            try simp only [Act.put, List.setIfInBounds_toArray, List.set_cons_zero, List.set_cons_succ]
            refine wpAnyH_ready (rs := [24]) (by kernel_rfl) (by simp) ?_
            refine AllReadyH.cons (o := { dst := some 75, op := Op.call { callee := Callee.value (Operand.func 7), args := #[Operand.tmp 72, Operand.tmp 74], argTypes := #[26, 53] }, type := 26, pos := "law.go:61", after := #[{ on := 21, ground := Ground.data }, { on := 23, ground := Ground.data }, { on := 20, ground := Ground.chain }, { on := 9, ground := Ground.guard }], guard := some (9, true) }) rfl (fun K hK => ?_) AllReadyH.nil
            go_simp
            (go_at_call 7; (with_reducible refine (TX.out a1 n1 c1 m1 _ _ ?_ ?_).mono ?_); exact hH.2.now.2.2.2.2.2.2.2.2.2.2.1; (apply IntsAt.old1; (refine Below.step (by assumption) ?_; refine Below.step (by assumption) ?_; exact Below.refl _ _); (first | rfl | focus (simp; done)); exact hH.2.now.2.2.2.2.1); rintro e wy ⟨a8, n8, c8, m8, rfl, hi8, hbz⟩)
            refine hK.out _ _ ?_ (fun hH => ?_)
            · exact (have B9 := Bag.go hH.2 hbz; ⟨HC.out _ B9.now, B9⟩)
            clear hK K
            try simp only [Act.put, List.setIfInBounds_toArray, List.set_cons_zero, List.set_cons_succ]
            refine Eq.mp (hG _ _ _ _) ?_
            exact captured (by kernel_rfl) (by kernel_rfl) (TAIL _ _ _ _ _ _ _ _ _ _ _ _ _ _ _ _ _ _ _ _ _ hH (IntAt.below hi6 (by refine Below.step (by assumption) ?_; refine Below.step (by assumption) ?_; exact Below.refl _ _)) (IntAt.below hi7 (by refine Below.step (by assumption) ?_; exact Below.refl _ _)) hi8)
          exact AllReadyH.nil
        refine AllReadyH.cons (o := { dst := some 74, op := Op.buildSlice 53 1 #[(0, Operand.tmp 73)], type := 53, pos := "law.go:61", after := #[{ on := 22, ground := Ground.data }, { on := 9, ground := Ground.guard }], guard := some (9, true) }) rfl (fun K hK => ?_) ?_
        · go_simp
          refine hK.out _ _ ?_ (fun hH => ?_)
          · exact (have B9 := Bag.alloc hH.2 _; ⟨HC.out _ B9.now, B9⟩)
          clear hK K
          try simp only [Act.put, List.setIfInBounds_toArray, List.set_cons_zero, List.set_cons_succ]
          refine wpAnyH_ready (rs := [16, 19]) (by kernel_rfl) (by simp) ?_
          refine AllReadyH.cons (o := { dst := some 67, op := Op.call { callee := Callee.value (Operand.func 7), args := #[Operand.tmp 61, Operand.tmp 66], argTypes := #[26, 53] }, type := 26, pos := "law.go:61", after := #[{ on := 10, ground := Ground.data }, { on := 15, ground := Ground.data }, { on := 14, ground := Ground.chain }, { on := 9, ground := Ground.guard }], guard := some (9, true) }) rfl (fun K hK => ?_) ?_
          · go_simp
            (go_at_call 7; (with_reducible refine (TB.out a1 n1 c1 m1 _ _ ?_ ?_).mono ?_); exact hH.2.now.2.2.2.2.2.2.2.2.2.2.1; (apply IntsAt.old1; (refine Below.more ?_ _; exact Below.refl _ _); (first | rfl | focus (simp; done)); exact (IntAt.below hi5 (by refine Below.more ?_ _; refine Below.more ?_ _; exact Below.refl _ _))); rintro e wy ⟨a6, n6, c6, m6, rfl, hi6, hbz⟩)
            refine hK.out _ _ ?_ (fun hH => ?_)
            · exact (have B9 := Bag.go hH.2 hbz; ⟨HC.out _ B9.now, B9⟩)
            clear hK K
            try simp only [Act.put, List.setIfInBounds_toArray, List.set_cons_zero, List.set_cons_succ]
            refine wpAnyH_ready (rs := [19]) (by kernel_rfl) (by simp) ?_
            refine AllReadyH.cons (o := { dst := some 70, op := Op.buildSlice 53 1 #[(0, Operand.tmp 69)], type := 53, pos := "law.go:61", after := #[{ on := 18, ground := Ground.data }, { on := 9, ground := Ground.guard }], guard := some (9, true) }) rfl (fun K hK => ?_) AllReadyH.nil
            go_simp
            refine hK.out _ _ ?_ (fun hH => ?_)
            · exact (have B9 := Bag.alloc hH.2 _; ⟨HC.out _ B9.now, B9⟩)
            clear hK K
            try simp only [Act.put, List.setIfInBounds_toArray, List.set_cons_zero, List.set_cons_succ]
            refine wpAnyH_ready (rs := [20]) (by kernel_rfl) (by simp) ?_
            refine AllReadyH.cons (o := { dst := some 71, op := Op.call { callee := Callee.value (Operand.func 7), args := #[Operand.tmp 68, Operand.tmp 70], argTypes := #[26, 53] }, type := 26, pos := "law.go:61", after := #[{ on := 17, ground := Ground.data }, { on := 19, ground := Ground.data }, { on := 16, ground := Ground.chain }, { on := 9, ground := Ground.guard }], guard := some (9, true) }) rfl (fun K hK => ?_) AllReadyH.nil
            go_simp
            (go_at_call 7; (with_reducible refine (TY.out a1 n1 c1 m1 _ _ ?_ ?_).mono ?_); exact hH.2.now.2.2.2.2.2.2.2.2.2.2.1; (apply IntsAt.old1; (exact Below.refl _ _); (first | rfl | focus (simp; done)); exact hH.2.now.2.2.2.2.2.2.2.1); rintro e wy ⟨a7, n7, c7, m7, rfl, hi7, hbz⟩)
            refine hK.out _ _ ?_ (fun hH => ?_)
            · exact (have B9 := Bag.go hH.2 hbz; ⟨HC.out _ B9.now, B9⟩)
            clear hK K
            try simp only [Act.put, List.setIfInBounds_toArray, List.set_cons_zero, List.set_cons_succ]
            refine wpAnyH_ready (rs := [24]) (by kernel_rfl) (by simp) ?_
            refine AllReadyH.cons (o := { dst := some 75, op := Op.call { callee := Callee.value (Operand.func 7), args := #[Operand.tmp 72, Operand.tmp 74], argTypes := #[26, 53] }, type := 26, pos := "law.go:61", after := #[{ on := 21, ground := Ground.data }, { on := 23, ground := Ground.data }, { on := 20, ground := Ground.chain }, { on := 9, ground := Ground.guard }], guard := some (9, true) }) rfl (fun K hK => ?_) AllReadyH.nil
            go_simp
            (go_at_call 7; (with_reducible refine (TX.out a1 n1 c1 m1 _ _ ?_ ?_).mono ?_); exact hH.2.now.2.2.2.2.2.2.2.2.2.2.1; (apply IntsAt.old1; (refine Below.step (by assumption) ?_; refine Below.more ?_ _; refine Below.step (by assumption) ?_; exact Below.refl _ _); (first | rfl | focus (simp; done)); exact hH.2.now.2.2.2.2.1); rintro e wy ⟨a8, n8, c8, m8, rfl, hi8, hbz⟩)
            refine hK.out _ _ ?_ (fun hH => ?_)
            · exact (have B9 := Bag.go hH.2 hbz; ⟨HC.out _ B9.now, B9⟩)
            clear hK K
            try simp only [Act.put, List.setIfInBounds_toArray, List.set_cons_zero, List.set_cons_succ]
            refine Eq.mp (hG _ _ _ _) ?_
            exact captured (by kernel_rfl) (by kernel_rfl) (TAIL _ _ _ _ _ _ _ _ _ _ _ _ _ _ _ _ _ _ _ _ _ hH (IntAt.below hi6 (by refine Below.step (by assumption) ?_; refine Below.step (by assumption) ?_; refine Below.more ?_ _; exact Below.refl _ _)) (IntAt.below hi7 (by refine Below.step (by assumption) ?_; exact Below.refl _ _)) hi8)
          refine AllReadyH.cons (o := { dst := some 70, op := Op.buildSlice 53 1 #[(0, Operand.tmp 69)], type := 53, pos := "law.go:61", after := #[{ on := 18, ground := Ground.data }, { on := 9, ground := Ground.guard }], guard := some (9, true) }) rfl (fun K hK => ?_) ?_
          · go_simp
            refine hK.out _ _ ?_ (fun hH => ?_)
            · exact (have B9 := Bag.alloc hH.2 _; ⟨HC.out _ B9.now, B9⟩)
            clear hK K
            try simp only [Act.put, List.setIfInBounds_toArray, List.set_cons_zero, List.set_cons_succ]
            refine wpAnyH_ready (rs := [16]) (by kernel_rfl) (by simp) ?_
            refine AllReadyH.cons (o := { dst := some 67, op := Op.call { callee := Callee.value (Operand.func 7), args := #[Operand.tmp 61, Operand.tmp 66], argTypes := #[26, 53] }, type := 26, pos := "law.go:61", after := #[{ on := 10, ground := Ground.data }, { on := 15, ground := Ground.data }, { on := 14, ground := Ground.chain }, { on := 9, ground := Ground.guard }], guard := some (9, true) }) rfl (fun K hK => ?_) AllReadyH.nil
            go_simp
            (go_at_call 7; (with_reducible refine (TB.out a1 n1 c1 m1 _ _ ?_ ?_).mono ?_); exact hH.2.now.2.2.2.2.2.2.2.2.2.2.1; (apply IntsAt.old1; (refine Below.more ?_ _; refine Below.more ?_ _; exact Below.refl _ _); (first | rfl | focus (simp; done)); exact (IntAt.below hi5 (by refine Below.more ?_ _; refine Below.more ?_ _; refine Below.more ?_ _; exact Below.refl _ _))); rintro e wy ⟨a6, n6, c6, m6, rfl, hi6, hbz⟩)
            refine hK.out _ _ ?_ (fun hH => ?_)
            · exact (have B9 := Bag.go hH.2 hbz; ⟨HC.out _ B9.now, B9⟩)
            clear hK K
            try simp only [Act.put, List.setIfInBounds_toArray, List.set_cons_zero, List.set_cons_succ]
            refine wpAnyH_ready (rs := [20]) (by kernel_rfl) (by simp) ?_
            refine AllReadyH.cons (o := { dst := some 71, op := Op.call { callee := Callee.value (Operand.func 7), args := #[Operand.tmp 68, Operand.tmp 70], argTypes := #[26, 53] }, type := 26, pos := "law.go:61", after := #[{ on := 17, ground := Ground.data }, { on := 19, ground := Ground.data }, { on := 16, ground := Ground.chain }, { on := 9, ground := Ground.guard }], guard := some (9, true) }) rfl (fun K hK => ?_) AllReadyH.nil
            go_simp
            (go_at_call 7; (with_reducible refine (TY.out a1 n1 c1 m1 _ _ ?_ ?_).mono ?_); exact hH.2.now.2.2.2.2.2.2.2.2.2.2.1; (apply IntsAt.old1; (refine Below.step (by assumption) ?_; exact Below.refl _ _); (first | rfl | focus (simp; done)); exact hH.2.now.2.2.2.2.2.2.2.1); rintro e wy ⟨a7, n7, c7, m7, rfl, hi7, hbz⟩)
            refine hK.out _ _ ?_ (fun hH => ?_)
            · exact (have B9 := Bag.go hH.2 hbz; ⟨HC.out _ B9.now, B9⟩)
            clear hK K
            try simp only [Act.put, List.setIfInBounds_toArray, List.set_cons_zero, List.set_cons_succ]
            refine wpAnyH_ready (rs := [24]) (by kernel_rfl) (by simp) ?_
            refine AllReadyH.cons (o := { dst := some 75, op := Op.call { callee := Callee.value (Operand.func 7), args := #[Operand.tmp 72, Operand.tmp 74], argTypes := #[26, 53] }, type := 26, pos := "law.go:61", after := #[{ on := 21, ground := Ground.data }, { on := 23, ground := Ground.data }, { on := 20, ground := Ground.chain }, { on := 9, ground := Ground.guard }], guard := some (9, true) }) rfl (fun K hK => ?_) AllReadyH.nil
            go_simp
            (go_at_call 7; (with_reducible refine (TX.out a1 n1 c1 m1 _ _ ?_ ?_).mono ?_); exact hH.2.now.2.2.2.2.2.2.2.2.2.2.1; (apply IntsAt.old1; (refine Below.step (by assumption) ?_; refine Below.step (by assumption) ?_; refine Below.more ?_ _; exact Below.refl _ _); (first | rfl | focus (simp; done)); exact hH.2.now.2.2.2.2.1); rintro e wy ⟨a8, n8, c8, m8, rfl, hi8, hbz⟩)
            refine hK.out _ _ ?_ (fun hH => ?_)
            · exact (have B9 := Bag.go hH.2 hbz; ⟨HC.out _ B9.now, B9⟩)
            clear hK K
            try simp only [Act.put, List.setIfInBounds_toArray, List.set_cons_zero, List.set_cons_succ]
            refine Eq.mp (hG _ _ _ _) ?_
            exact captured (by kernel_rfl) (by kernel_rfl) (TAIL _ _ _ _ _ _ _ _ _ _ _ _ _ _ _ _ _ _ _ _ _ hH (IntAt.below hi6 (by refine Below.step (by assumption) ?_; refine Below.step (by assumption) ?_; exact Below.refl _ _)) (IntAt.below hi7 (by refine Below.step (by assumption) ?_; exact Below.refl _ _)) hi8)
          exact AllReadyH.nil
        exact AllReadyH.nil
      refine AllReadyH.cons (o := { dst := some 70, op := Op.buildSlice 53 1 #[(0, Operand.tmp 69)], type := 53, pos := "law.go:61", after := #[{ on := 18, ground := Ground.data }, { on := 9, ground := Ground.guard }], guard := some (9, true) }) rfl (fun K hK => ?_) ?_
      · go_simp
        refine hK.out _ _ ?_ (fun hH => ?_)
        · exact (have B9 := Bag.alloc hH.2 _; ⟨HC.out _ B9.now, B9⟩)
        clear hK K
        try simp only [Act.put, List.setIfInBounds_toArray, List.set_cons_zero, List.set_cons_succ]
        refine wpAnyH_ready (rs := [15, 23]) (by kernel_rfl) (by simp) ?_
        refine AllReadyH.cons (o := { dst := some 66, op := Op.buildSlice 53 1 #[(0, Operand.tmp 65)], type := 53, pos := "law.go:61", after := #[{ on := 14, ground := Ground.data }, { on := 9, ground := Ground.guard }], guard := some (9, true) }) rfl (fun K hK => ?_) ?_
        · go_simp
          refine hK.out _ _ ?_ (fun hH => ?_)
          · exact (have B9 := Bag.alloc hH.2 _; ⟨HC.out _ B9.now, B9⟩)
          clear hK K
          try simp only [Act.put, List.setIfInBounds_toArray, List.set_cons_zero, List.set_cons_succ]
          refine wpAnyH_ready (rs := [16, 23]) (by kernel_rfl) (by simp) ?_
          refine AllReadyH.cons (o := { dst := some 67, op := Op.call { callee := Callee.value (Operand.func 7), args := #[Operand.tmp 61, Operand.tmp 66], argTypes := #[26, 53] }, type := 26, pos := "law.go:61", after := #[{ on := 10, ground := Ground.data }, { on := 15, ground := Ground.data }, { on := 14, ground := Ground.chain }, { on := 9, ground := Ground.guard }], guard := some (9, true) }) rfl (fun K hK => ?_) ?_
          · go_simp
            (go_at_call 7; (with_reducible refine (TB.out a1 n1 c1 m1 _ _ ?_ ?_).mono ?_); exact hH.2.now.2.2.2.2.2.2.2.2.2.2.1; (apply IntsAt.old1; (exact Below.refl _ _); (first | rfl | focus (simp; done)); exact (IntAt.below hi5 (by refine Below.more ?_ _; refine Below.more ?_ _; exact Below.refl _ _))); rintro e wy ⟨a6, n6, c6, m6, rfl, hi6, hbz⟩)
            refine hK.out _ _ ?_ (fun hH => ?_)
            · exact (have B9 := Bag.go hH.2 hbz; ⟨HC.out _ B9.now, B9⟩)
            clear hK K
            try simp only [Act.put, List.setIfInBounds_toArray, List.set_cons_zero, List.set_cons_succ]
            refine wpAnyH_ready (rs := [20, 23]) (by kernel_rfl) (by simp) ?_
            refine AllReadyH.cons (o := { dst := some 71, op := Op.call { callee := Callee.value (Operand.func 7), args := #[Operand.tmp 68, Operand.tmp 70], argTypes := #[26, 53] }, type := 26, pos := "law.go:61", after := #[{ on := 17, ground := Ground.data }, { on := 19, ground := Ground.data }, { on := 16, ground := Ground.chain }, { on := 9, ground := Ground.guard }], guard := some (9, true) }) rfl (fun K hK => ?_) ?_
            · go_simp
              (go_at_call 7; (with_reducible refine (TY.out a1 n1 c1 m1 _ _ ?_ ?_).mono ?_); exact hH.2.now.2.2.2.2.2.2.2.2.2.2.1; (apply IntsAt.old1; (refine Below.step (by assumption) ?_; refine Below.more ?_ _; exact Below.refl _ _); (first | rfl | focus (simp; done)); exact hH.2.now.2.2.2.2.2.2.2.1); rintro e wy ⟨a7, n7, c7, m7, rfl, hi7, hbz⟩)
              refine hK.out _ _ ?_ (fun hH => ?_)
              · exact (have B9 := Bag.go hH.2 hbz; ⟨HC.out _ B9.now, B9⟩)
              clear hK K
              try simp only [Act.put, List.setIfInBounds_toArray, List.set_cons_zero, List.set_cons_succ]
              refine wpAnyH_ready (rs := [23]) (by kernel_rfl) (by simp) ?_
              refine AllReadyH.cons (o := { dst := some 74, op := Op.buildSlice 53 1 #[(0, Operand.tmp 73)], type := 53, pos := "law.go:61", after := #[{ on := 22, ground := Ground.data }, { on := 9, ground := Ground.guard }], guard := some (9, true) }) rfl (fun K hK => ?_) AllReadyH.nil
              go_simp
              refine hK.out _ _ ?_ (fun hH => ?_)
              · exact (have B9 := Bag.alloc hH.2 _; ⟨HC.out _ B9.now, B9⟩)
              clear hK K
              try simp only [Act.put, List.setIfInBounds_toArray, List.set_cons_zero, List.set_cons_succ]
              refine wpAnyH_ready (rs := [24]) (by kernel_rfl) (by simp) ?_
              refine AllReadyH.cons (o := { dst := some 75, op := Op.call { callee := Callee.value (Operand.func 7), args := #[Operand.tmp 72, Operand.tmp 74], argTypes := #[26, 53] }, type := 26, pos := "law.go:61", after := #[{ on := 21, ground := Ground.data }, { on := 23, ground := Ground.data }, { on := 20, ground := Ground.chain }, { on := 9, ground := Ground.guard }], guard := some (9, true) }) rfl (fun K hK => ?_) AllReadyH.nil
              go_simp
              (go_at_call 7; (with_reducible refine (TX.out a1 n1 c1 m1 _ _ ?_ ?_).mono ?_); exact hH.2.now.2.2.2.2.2.2.2.2.2.2.1; (apply IntsAt.old1; (exact Below.refl _ _); (first | rfl | focus (simp; done)); exact hH.2.now.2.2.2.2.1); rintro e wy ⟨a8, n8, c8, m8, rfl, hi8, hbz⟩)
              refine hK.out _ _ ?_ (fun hH => ?_)
              · exact (have B9 := Bag.go hH.2 hbz; ⟨HC.out _ B9.now, B9⟩)
              clear hK K
              try simp only [Act.put, List.setIfInBounds_toArray, List.set_cons_zero, List.set_cons_succ]
              refine Eq.mp (hG _ _ _ _) ?_
              exact captured (by kernel_rfl) (by kernel_rfl) (TAIL _ _ _ _ _ _ _ _ _ _ _ _ _ _ _ _ _ _ _ _ _ hH (IntAt.below hi6 (by refine Below.step (by assumption) ?_; refine Below.more ?_ _; refine Below.step (by assumption) ?_; exact Below.refl _ _)) (IntAt.below hi7 (by refine Below.step (by assumption) ?_; refine Below.more ?_ _; exact Below.refl _ _)) hi8)
            refine AllReadyH.cons (o := { dst := some 74, op := Op.buildSlice 53 1 #[(0, Operand.tmp 73)], type := 53, pos := "law.go:61", after := #[{ on := 22, ground := Ground.data }, { on := 9, ground := Ground.guard }], guard := some (9, true) }) rfl (fun K hK => ?_) ?_
            · go_simp
              refine hK.out _ _ ?_ (fun hH => ?_)
              · exact (have B9 := Bag.alloc hH.2 _; ⟨HC.out _ B9.now, B9⟩)
              clear hK K
              try simp only [Act.put, List.setIfInBounds_toArray, List.set_cons_zero, List.set_cons_succ]
              refine wpAnyH_ready (rs := [20]) (by kernel_rfl) (by simp) ?_
              refine AllReadyH.cons (o := { dst := some 71, op := Op.call { callee := Callee.value (Operand.func 7), args := #[Operand.tmp 68, Operand.tmp 70], argTypes := #[26, 53] }, type := 26, pos := "law.go:61", after := #[{ on := 17, ground := Ground.data }, { on := 19, ground := Ground.data }, { on := 16, ground := Ground.chain }, { on := 9, ground := Ground.guard }], guard := some (9, true) }) rfl (fun K hK => ?_) AllReadyH.nil
              go_simp
              (go_at_call 7; (with_reducible refine (TY.out a1 n1 c1 m1 _ _ ?_ ?_).mono ?_); exact hH.2.now.2.2.2.2.2.2.2.2.2.2.1; (apply IntsAt.old1; (refine Below.more ?_ _; refine Below.step (by assumption) ?_; refine Below.more ?_ _; exact Below.refl _ _); (first | rfl | focus (simp; done)); exact hH.2.now.2.2.2.2.2.2.2.1); rintro e wy ⟨a7, n7, c7, m7, rfl, hi7, hbz⟩)
              refine hK.out _ _ ?_ (fun hH => ?_)
              · exact (have B9 := Bag.go hH.2 hbz; ⟨HC.out _ B9.now, B9⟩)
              clear hK K
              try simp only [Act.put, List.setIfInBounds_toArray, List.set_cons_zero, List.set_cons_succ]
              refine wpAnyH_ready (rs := [24]) (by kernel_rfl) (by simp) ?_
              refine AllReadyH.cons (o := { dst := some 75, op := Op.call { callee := Callee.value (Operand.func 7), args := #[Operand.tmp 72, Operand.tmp 74], argTypes := #[26, 53] }, type := 26, pos := "law.go:61", after := #[{ on := 21, ground := Ground.data }, { on := 23, ground := Ground.data }, { on := 20, ground := Ground.chain }, { on := 9, ground := Ground.guard }], guard := some (9, true) }) rfl (fun K hK => ?_) AllReadyH.nil
              go_simp
              (go_at_call 7; (with_reducible refine (TX.out a1 n1 c1 m1 _ _ ?_ ?_).mono ?_); exact hH.2.now.2.2.2.2.2.2.2.2.2.2.1; (apply IntsAt.old1; (refine Below.step (by assumption) ?_; exact Below.refl _ _); (first | rfl | focus (simp; done)); exact hH.2.now.2.2.2.2.1); rintro e wy ⟨a8, n8, c8, m8, rfl, hi8, hbz⟩)
              refine hK.out _ _ ?_ (fun hH => ?_)
              · exact (have B9 := Bag.go hH.2 hbz; ⟨HC.out _ B9.now, B9⟩)
              clear hK K
              try simp only [Act.put, List.setIfInBounds_toArray, List.set_cons_zero, List.set_cons_succ]
              refine Eq.mp (hG _ _ _ _) ?_
              exact captured (by kernel_rfl) (by kernel_rfl) (TAIL _ _ _ _ _ _ _ _ _ _ _ _ _ _ _ _ _ _ _ _ _ hH (IntAt.below hi6 (by refine Below.step (by assumption) ?_; refine Below.step (by assumption) ?_; refine Below.more ?_ _; exact Below.refl _ _)) (IntAt.below hi7 (by refine Below.step (by assumption) ?_; exact Below.refl _ _)) hi8)
            exact AllReadyH.nil
          refine AllReadyH.cons (o := { dst := some 74, op := Op.buildSlice 53 1 #[(0, Operand.tmp 73)], type := 53, pos := "law.go:61", after := #[{ on := 22, ground := Ground.data }, { on := 9, ground := Ground.guard }], guard := some (9, true) }) rfl (fun K hK => ?_) ?_
          · go_simp
            refine hK.out _ _ ?_ (fun hH => ?_)
            · exact (have B9 := Bag.alloc hH.2 _; ⟨HC.out _ B9.now, B9⟩)
            clear hK K
            try simp only [Act.put, List.setIfInBounds_toArray, List.set_cons_zero, List.set_cons_succ]
            refine wpAnyH_ready (rs := [16]) (by kernel_rfl) (by simp) ?_
            refine AllReadyH.cons (o := { dst := some 67, op := Op.call { callee := Callee.value (Operand.func 7), args := #[Operand.tmp 61, Operand.tmp 66], argTypes := #[26, 53] }, type := 26, pos := "law.go:61", after := #[{ on := 10, ground := Ground.data }, { on := 15, ground := Ground.data }, { on := 14, ground := Ground.chain }, { on := 9, ground := Ground.guard }], guard := some (9, true) }) rfl (fun K hK => ?_) AllReadyH.nil
            go_simp
            (go_at_call 7; (with_reducible refine (TB.out a1 n1 c1 m1 _ _ ?_ ?_).mono ?_); exact hH.2.now.2.2.2.2.2.2.2.2.2.2.1; (apply IntsAt.old1; (refine Below.more ?_ _; exact Below.refl _ _); (first | rfl | focus (simp; done)); exact (IntAt.below hi5 (by refine Below.more ?_ _; refine Below.more ?_ _; refine Below.more ?_ _; exact Below.refl _ _))); rintro e wy ⟨a6, n6, c6, m6, rfl, hi6, hbz⟩)
            refine hK.out _ _ ?_ (fun hH => ?_)
            · exact (have B9 := Bag.go hH.2 hbz; ⟨HC.out _ B9.now, B9⟩)
            clear hK K
            try simp only [Act.put, List.setIfInBounds_toArray, List.set_cons_zero, List.set_cons_succ]
            refine wpAnyH_ready (rs := [20]) (by kernel_rfl) (by simp) ?_
            refine AllReadyH.cons (o := { dst := some 71, op := Op.call { callee := Callee.value (Operand.func 7), args := #[Operand.tmp 68, Operand.tmp 70], argTypes := #[26, 53] }, type := 26, pos := "law.go:61", after := #[{ on := 17, ground := Ground.data }, { on := 19, ground := Ground.data }, { on := 16, ground := Ground.chain }, { on := 9, ground := Ground.guard }], guard := some (9, true) }) rfl (fun K hK => ?_) AllReadyH.nil
            go_simp
            (go_at_call 7; (with_reducible refine (TY.out a1 n1 c1 m1 _ _ ?_ ?_).mono ?_); exact hH.2.now.2.2.2.2.2.2.2.2.2.2.1; (apply IntsAt.old1; (refine Below.step (by assumption) ?_; refine Below.more ?_ _; refine Below.more ?_ _; exact Below.refl _ _); (first | rfl | focus (simp; done)); exact hH.2.now.2.2.2.2.2.2.2.1); rintro e wy ⟨a7, n7, c7, m7, rfl, hi7, hbz⟩)
            refine hK.out _ _ ?_ (fun hH => ?_)
            · exact (have B9 := Bag.go hH.2 hbz; ⟨HC.out _ B9.now, B9⟩)
            clear hK K
            try simp only [Act.put, List.setIfInBounds_toArray, List.set_cons_zero, List.set_cons_succ]
            refine wpAnyH_ready (rs := [24]) (by kernel_rfl) (by simp) ?_
            refine AllReadyH.cons (o := { dst := some 75, op := Op.call { callee := Callee.value (Operand.func 7), args := #[Operand.tmp 72, Operand.tmp 74], argTypes := #[26, 53] }, type := 26, pos := "law.go:61", after := #[{ on := 21, ground := Ground.data }, { on := 23, ground := Ground.data }, { on := 20, ground := Ground.chain }, { on := 9, ground := Ground.guard }], guard := some (9, true) }) rfl (fun K hK => ?_) AllReadyH.nil
            go_simp
            (go_at_call 7; (with_reducible refine (TX.out a1 n1 c1 m1 _ _ ?_ ?_).mono ?_); exact hH.2.now.2.2.2.2.2.2.2.2.2.2.1; (apply IntsAt.old1; (refine Below.step (by assumption) ?_; refine Below.step (by assumption) ?_; exact Below.refl _ _); (first | rfl | focus (simp; done)); exact hH.2.now.2.2.2.2.1); rintro e wy ⟨a8, n8, c8, m8, rfl, hi8, hbz⟩)
            refine hK.out _ _ ?_ (fun hH => ?_)
            · exact (have B9 := Bag.go hH.2 hbz; ⟨HC.out _ B9.now, B9⟩)
            clear hK K
            try simp only [Act.put, List.setIfInBounds_toArray, List.set_cons_zero, List.set_cons_succ]
            refine Eq.mp (hG _ _ _ _) ?_
            exact captured (by kernel_rfl) (by kernel_rfl) (TAIL _ _ _ _ _ _ _ _ _ _ _ _ _ _ _ _ _ _ _ _ _ hH (IntAt.below hi6 (by refine Below.step (by assumption) ?_; refine Below.step (by assumption) ?_; exact Below.refl _ _)) (IntAt.below hi7 (by refine Below.step (by assumption) ?_; exact Below.refl _ _)) hi8)
          exact AllReadyH.nil
        refine AllReadyH.cons (o := { dst := some 74, op := Op.buildSlice 53 1 #[(0, Operand.tmp 73)], type := 53, pos := "law.go:61", after := #[{ on := 22, ground := Ground.data }, { on := 9, ground := Ground.guard }], guard := some (9, true) }) rfl (fun K hK => ?_) ?_
        · go_simp
          refine hK.out _ _ ?_ (fun hH => ?_)
          · exact (have B9 := Bag.alloc hH.2 _; ⟨HC.out _ B9.now, B9⟩)
          clear hK K
          try simp only [Act.put, List.setIfInBounds_toArray, List.set_cons_zero, List.set_cons_succ]
          refine wpAnyH_ready (rs := [15]) (by kernel_rfl) (by simp) ?_
          refine AllReadyH.cons (o := { dst := some 66, op := Op.buildSlice 53 1 #[(0, Operand.tmp 65)], type := 53, pos := "law.go:61", after := #[{ on := 14, ground := Ground.data }, { on := 9, ground := Ground.guard }], guard := some (9, true) }) rfl (fun K hK => ?_) AllReadyH.nil
          go_simp
          refine hK.out _ _ ?_ (fun hH => ?_)
          · exact (have B9 := Bag.alloc hH.2 _; ⟨HC.out _ B9.now, B9⟩)
          clear hK K
          try simp only [Act.put, List.setIfInBounds_toArray, List.set_cons_zero, List.set_cons_succ]
          refine wpAnyH_ready (rs := [16]) (by kernel_rfl) (by simp) ?_
          refine AllReadyH.cons (o := { dst := some 67, op := Op.call { callee := Callee.value (Operand.func 7), args := #[Operand.tmp 61, Operand.tmp 66], argTypes := #[26, 53] }, type := 26, pos := "law.go:61", after := #[{ on := 10, ground := Ground.data }, { on := 15, ground := Ground.data }, { on := 14, ground := Ground.chain }, { on := 9, ground := Ground.guard }], guard := some (9, true) }) rfl (fun K hK => ?_) AllReadyH.nil
          go_simp
          (go_at_call 7; (with_reducible refine (TB.out a1 n1 c1 m1 _ _ ?_ ?_).mono ?_); exact hH.2.now.2.2.2.2.2.2.2.2.2.2.1; (apply IntsAt.old1; (exact Below.refl _ _); (first | rfl | focus (simp; done)); exact (IntAt.below hi5 (by refine Below.more ?_ _; refine Below.more ?_ _; refine Below.more ?_ _; exact Below.refl _ _))); rintro e wy ⟨a6, n6, c6, m6, rfl, hi6, hbz⟩)
          refine hK.out _ _ ?_ (fun hH => ?_)
          · exact (have B9 := Bag.go hH.2 hbz; ⟨HC.out _ B9.now, B9⟩)
          clear hK K
          try simp only [Act.put, List.setIfInBounds_toArray, List.set_cons_zero, List.set_cons_succ]
          refine wpAnyH_ready (rs := [20]) (by kernel_rfl) (by simp) ?_
          refine AllReadyH.cons (o := { dst := some 71, op := Op.call { callee := Callee.value (Operand.func 7), args := #[Operand.tmp 68, Operand.tmp 70], argTypes := #[26, 53] }, type := 26, pos := "law.go:61", after := #[{ on := 17, ground := Ground.data }, { on := 19, ground := Ground.data }, { on := 16, ground := Ground.chain }, { on := 9, ground := Ground.guard }], guard := some (9, true) }) rfl (fun K hK => ?_) AllReadyH.nil
          go_simp
          (go_at_call 7; (with_reducible refine (TY.out a1 n1 c1 m1 _ _ ?_ ?_).mono ?_); exact hH.2.now.2.2.2.2.2.2.2.2.2.2.1; (apply IntsAt.old1; (refine Below.step (by assumption) ?_; refine Below.more ?_ _; refine Below.more ?_ _; exact Below.refl _ _); (first | rfl | focus (simp; done)); exact hH.2.now.2.2.2.2.2.2.2.1); rintro e wy ⟨a7, n7, c7, m7, rfl, hi7, hbz⟩)
          refine hK.out _ _ ?_ (fun hH => ?_)
          · exact (have B9 := Bag.go hH.2 hbz; ⟨HC.out _ B9.now, B9⟩)
          clear hK K
          try simp only [Act.put, List.setIfInBounds_toArray, List.set_cons_zero, List.set_cons_succ]
          refine wpAnyH_ready (rs := [24]) (by kernel_rfl) (by simp) ?_
          refine AllReadyH.cons (o := { dst := some 75, op := Op.call { callee := Callee.value (Operand.func 7), args := #[Operand.tmp 72, Operand.tmp 74], argTypes := #[26, 53] }, type := 26, pos := "law.go:61", after := #[{ on := 21, ground := Ground.data }, { on := 23, ground := Ground.data }, { on := 20, ground := Ground.chain }, { on := 9, ground := Ground.guard }], guard := some (9, true) }) rfl (fun K hK => ?_) AllReadyH.nil
          go_simp
          (go_at_call 7; (with_reducible refine (TX.out a1 n1 c1 m1 _ _ ?_ ?_).mono ?_); exact hH.2.now.2.2.2.2.2.2.2.2.2.2.1; (apply IntsAt.old1; (refine Below.step (by assumption) ?_; refine Below.step (by assumption) ?_; refine Below.more ?_ _; exact Below.refl _ _); (first | rfl | focus (simp; done)); exact hH.2.now.2.2.2.2.1); rintro e wy ⟨a8, n8, c8, m8, rfl, hi8, hbz⟩)
          refine hK.out _ _ ?_ (fun hH => ?_)
          · exact (have B9 := Bag.go hH.2 hbz; ⟨HC.out _ B9.now, B9⟩)
          clear hK K
          try simp only [Act.put, List.setIfInBounds_toArray, List.set_cons_zero, List.set_cons_succ]
          refine Eq.mp (hG _ _ _ _) ?_
          exact captured (by kernel_rfl) (by kernel_rfl) (TAIL _ _ _ _ _ _ _ _ _ _ _ _ _ _ _ _ _ _ _ _ _ hH (IntAt.below hi6 (by refine Below.step (by assumption) ?_; refine Below.step (by assumption) ?_; exact Below.refl _ _)) (IntAt.below hi7 (by refine Below.step (by assumption) ?_; exact Below.refl _ _)) hi8)
        exact AllReadyH.nil
      refine AllReadyH.cons (o := { dst := some 74, op := Op.buildSlice 53 1 #[(0, Operand.tmp 73)], type := 53, pos := "law.go:61", after := #[{ on := 22, ground := Ground.data }, { on := 9, ground := Ground.guard }], guard := some (9, true) }) rfl (fun K hK => ?_) ?_
      · go_simp
        refine hK.out _ _ ?_ (fun hH => ?_)
        · exact (have B9 := Bag.alloc hH.2 _; ⟨HC.out _ B9.now, B9⟩)
        clear hK K
        try simp only [Act.put, List.setIfInBounds_toArray, List.set_cons_zero, List.set_cons_succ]
        refine wpAnyH_ready (rs := [15, 19]) (by kernel_rfl) (by simp) ?_
        refine AllReadyH.cons (o := { dst := some 66, op := Op.buildSlice 53 1 #[(0, Operand.tmp 65)], type := 53, pos := "law.go:61", after := #[{ on := 14, ground := Ground.data }, { on := 9, ground := Ground.guard }], guard := some (9, true) }) rfl (fun K hK => ?_) ?_
        · go_simp
          refine hK.out _ _ ?_ (fun hH => ?_)
          · exact (have B9 := Bag.alloc hH.2 _; ⟨HC.out _ B9.now, B9⟩)
          clear hK K
          try simp only [Act.put, List.setIfInBounds_toArray, List.set_cons_zero, List.set_cons_succ]
          refine wpAnyH_ready (rs := [16, 19]) (by kernel_rfl) (by simp) ?_
          refine AllReadyH.cons (o := { dst := some 67, op := Op.call { callee := Callee.value (Operand.func 7), args := #[Operand.tmp 61, Operand.tmp 66], argTypes := #[26, 53] }, type := 26, pos := "law.go:61", after := #[{ on := 10, ground := Ground.data }, { on := 15, ground := Ground.data }, { on := 14, ground := Ground.chain }, { on := 9, ground := Ground.guard }], guard := some (9, true) }) rfl (fun K hK => ?_) ?_
          · go_simp
            (go_at_call 7; (with_reducible refine (TB.out a1 n1 c1 m1 _ _ ?_ ?_).mono ?_); exact hH.2.now.2.2.2.2.2.2.2.2.2.2.1; (apply IntsAt.old1; (exact Below.refl _ _); (first | rfl | focus (simp; done)); exact (IntAt.below hi5 (by refine Below.more ?_ _; refine Below.more ?_ _; exact Below.refl _ _))); rintro e wy ⟨a6, n6, c6, m6, rfl, hi6, hbz⟩)
            refine hK.out _ _ ?_ (fun hH => ?_)
            · exact (have B9 := Bag.go hH.2 hbz; ⟨HC.out _ B9.now, B9⟩)
            clear hK K
            try simp only [Act.put, List.setIfInBounds_toArray, List.set_cons_zero, List.set_cons_succ]
            refine wpAnyH_ready (rs := [19]) (by kernel_rfl) (by simp) ?_
            refine AllReadyH.cons (o := { dst := some 70, op := Op.buildSlice 53 1 #[(0, Operand.tmp 69)], type := 53, pos := "law.go:61", after := #[{ on := 18, ground := Ground.data }, { on := 9, ground := Ground.guard }], guard := some (9, true) }) rfl (fun K hK => ?_) AllReadyH.nil
            go_simp
            refine hK.out _ _ ?_ (fun hH => ?_)
            · exact (have B9 := Bag.alloc hH.2 _; ⟨HC.out _ B9.now, B9⟩)
            clear hK K
            try simp only [Act.put, List.setIfInBounds_toArray, List.set_cons_zero, List.set_cons_succ]
            refine wpAnyH_ready (rs := [20]) (by kernel_rfl) (by simp) ?_
            refine AllReadyH.cons (o := { dst := some 71, op := Op.call { callee := Callee.value (Operand.func 7), args := #[Operand.tmp 68, Operand.tmp 70], argTypes := #[26, 53] }, type := 26, pos := "law.go:61", after := #[{ on := 17, ground := Ground.data }, { on := 19, ground := Ground.data }, { on := 16, ground := Ground.chain }, { on := 9, ground := Ground.guard }], guard := some (9, true) }) rfl (fun K hK => ?_) AllReadyH.nil
            go_simp
            (go_at_call 7; (with_reducible refine (TY.out a1 n1 c1 m1 _ _ ?_ ?_).mono ?_); exact hH.2.now.2.2.2.2.2.2.2.2.2.2.1; (apply IntsAt.old1; (exact Below.refl _ _); (first | rfl | focus (simp; done)); exact hH.2.now.2.2.2.2.2.2.2.1); rintro e wy ⟨a7, n7, c7, m7, rfl, hi7, hbz⟩)
            refine hK.out _ _ ?_ (fun hH => ?_)
            · exact (have B9 := Bag.go hH.2 hbz; ⟨HC.out _ B9.now, B9⟩)
            clear hK K
            try simp only [Act.put, List.setIfInBounds_toArray, List.set_cons_zero, List.set_cons_succ]
            refine wpAnyH_ready (rs := [24]) (by kernel_rfl) (by simp) ?_
            refine AllReadyH.cons (o := { dst := some 75, op := Op.call { callee := Callee.value (Operand.func 7), args := #[Operand.tmp 72, Operand.tmp 74], argTypes := #[26, 53] }, type := 26, pos := "law.go:61", after := #[{ on := 21, ground := Ground.data }, { on := 23, ground := Ground.data }, { on := 20, ground := Ground.chain }, { on := 9, ground := Ground.guard }], guard := some (9, true) }) rfl (fun K hK => ?_) AllReadyH.nil
            go_simp
            (go_at_call 7; (with_reducible refine (TX.out a1 n1 c1 m1 _ _ ?_ ?_).mono ?_); exact hH.2.now.2.2.2.2.2.2.2.2.2.2.1; (apply IntsAt.old1; (refine Below.step (by assumption) ?_; refine Below.more ?_ _; refine Below.step (by assumption) ?_; refine Below.more ?_ _; exact Below.refl _ _); (first | rfl | focus (simp; done)); exact hH.2.now.2.2.2.2.1); rintro e wy ⟨a8, n8, c8, m8, rfl, hi8, hbz⟩)
            refine hK.out _ _ ?_ (fun hH => ?_)
            · exact (have B9 := Bag.go hH.2 hbz; ⟨HC.out _ B9.now, B9⟩)
            clear hK K
            try simp only [Act.put, List.setIfInBounds_toArray, List.set_cons_zero, List.set_cons_succ]
            refine Eq.mp (hG _ _ _ _) ?_
            exact captured (by kernel_rfl) (by kernel_rfl) (TAIL _ _ _ _ _ _ _ _ _ _ _ _ _ _ _ _ _ _ _ _ _ hH (IntAt.below hi6 (by refine Below.step (by assumption) ?_; refine Below.step (by assumption) ?_; refine Below.more ?_ _; exact Below.refl _ _)) (IntAt.below hi7 (by refine Below.step (by assumption) ?_; exact Below.refl _ _)) hi8)
          refine AllReadyH.cons (o := { dst := some 70, op := Op.buildSlice 53 1 #[(0, Operand.tmp 69)], type := 53, pos := "law.go:61", after := #[{ on := 18, ground := Ground.data }, { on := 9, ground := Ground.guard }], guard := some (9, true) }) rfl (fun K hK => ?_) ?_
          · go_simp
            refine hK.out _ _ ?_ (fun hH => ?_)
            · exact (have B9 := Bag.alloc hH.2 _; ⟨HC.out _ B9.now, B9⟩)
            clear hK K
            try simp only [Act.put, List.setIfInBounds_toArray, List.set_cons_zero, List.set_cons_succ]
            refine wpAnyH_ready (rs := [16]) (by kernel_rfl) (by simp) ?_
            refine AllReadyH.cons (o := { dst := some 67, op := Op.call { callee := Callee.value (Operand.func 7), args := #[Operand.tmp 61, Operand.tmp 66], argTypes := #[26, 53] }, type := 26, pos := "law.go:61", after := #[{ on := 10, ground := Ground.data }, { on := 15, ground := Ground.data }, { on := 14, ground := Ground.chain }, { on := 9, ground := Ground.guard }], guard := some (9, true) }) rfl (fun K hK => ?_) AllReadyH.nil
            go_simp
            (go_at_call 7; (with_reducible refine (TB.out a1 n1 c1 m1 _ _ ?_ ?_).mono ?_); exact hH.2.now.2.2.2.2.2.2.2.2.2.2.1; (apply IntsAt.old1; (refine Below.more ?_ _; exact Below.refl _ _); (first | rfl | focus (simp; done)); exact (IntAt.below hi5 (by refine Below.more ?_ _; refine Below.more ?_ _; refine Below.more ?_ _; exact Below.refl _ _))); rintro e wy ⟨a6, n6, c6, m6, rfl, hi6, hbz⟩)
            refine hK.out _ _ ?_ (fun hH => ?_)
            · exact (have B9 := Bag.go hH.2 hbz; ⟨HC.out _ B9.now, B9⟩)
            clear hK K
            try simp only [Act.put, List.setIfInBounds_toArray, List.set_cons_zero, List.set_cons_succ]
            refine wpAnyH_ready (rs := [20]) (by kernel_rfl) (by simp) ?_
            refine AllReadyH.cons (o := { dst := some 71, op := Op.call { callee := Callee.value (Operand.func 7), args := #[Operand.tmp 68, Operand.tmp 70], argTypes := #[26, 53] }, type := 26, pos := "law.go:61", after := #[{ on := 17, ground := Ground.data }, { on := 19, ground := Ground.data }, { on := 16, ground := Ground.chain }, { on := 9, ground := Ground.guard }], guard := some (9, true) }) rfl (fun K hK => ?_) AllReadyH.nil
            go_simp
            (go_at_call 7; (with_reducible refine (TY.out a1 n1 c1 m1 _ _ ?_ ?_).mono ?_); exact hH.2.now.2.2.2.2.2.2.2.2.2.2.1; (apply IntsAt.old1; (refine Below.step (by assumption) ?_; exact Below.refl _ _); (first | rfl | focus (simp; done)); exact hH.2.now.2.2.2.2.2.2.2.1); rintro e wy ⟨a7, n7, c7, m7, rfl, hi7, hbz⟩)
            refine hK.out _ _ ?_ (fun hH => ?_)
            · exact (have B9 := Bag.go hH.2 hbz; ⟨HC.out _ B9.now, B9⟩)
            clear hK K
            try simp only [Act.put, List.setIfInBounds_toArray, List.set_cons_zero, List.set_cons_succ]
            refine wpAnyH_ready (rs := [24]) (by kernel_rfl) (by simp) ?_
            refine AllReadyH.cons (o := { dst := some 75, op := Op.call { callee := Callee.value (Operand.func 7), args := #[Operand.tmp 72, Operand.tmp 74], argTypes := #[26, 53] }, type := 26, pos := "law.go:61", after := #[{ on := 21, ground := Ground.data }, { on := 23, ground := Ground.data }, { on := 20, ground := Ground.chain }, { on := 9, ground := Ground.guard }], guard := some (9, true) }) rfl (fun K hK => ?_) AllReadyH.nil
            go_simp
            (go_at_call 7; (with_reducible refine (TX.out a1 n1 c1 m1 _ _ ?_ ?_).mono ?_); exact hH.2.now.2.2.2.2.2.2.2.2.2.2.1; (apply IntsAt.old1; (refine Below.step (by assumption) ?_; refine Below.step (by assumption) ?_; refine Below.more ?_ _; refine Below.more ?_ _; exact Below.refl _ _); (first | rfl | focus (simp; done)); exact hH.2.now.2.2.2.2.1); rintro e wy ⟨a8, n8, c8, m8, rfl, hi8, hbz⟩)
            refine hK.out _ _ ?_ (fun hH => ?_)
            · exact (have B9 := Bag.go hH.2 hbz; ⟨HC.out _ B9.now, B9⟩)
            clear hK K
            try simp only [Act.put, List.setIfInBounds_toArray, List.set_cons_zero, List.set_cons_succ]
            refine Eq.mp (hG _ _ _ _) ?_
            exact captured (by kernel_rfl) (by kernel_rfl) (TAIL _ _ _ _ _ _ _ _ _ _ _ _ _ _ _ _ _ _ _ _ _ hH (IntAt.below hi6 (by refine Below.step (by assumption) ?_; refine Below.step (by assumption) ?_; exact Below.refl _ _)) (IntAt.below hi7 (by refine Below.step (by assumption) ?_; exact Below.refl _ _)) hi8)
          exact AllReadyH.nil
        refine AllReadyH.cons (o := { dst := some 70, op := Op.buildSlice 53 1 #[(0, Operand.tmp 69)], type := 53, pos := "law.go:61", after := #[{ on := 18, ground := Ground.data }, { on := 9, ground := Ground.guard }], guard := some (9, true) }) rfl (fun K hK => ?_) ?_
        · go_simp
          refine hK.out _ _ ?_ (fun hH => ?_)
          · exact (have B9 := Bag.alloc hH.2 _; ⟨HC.out _ B9.now, B9⟩)
          clear hK K
          try simp only [Act.put, List.setIfInBounds_toArray, List.set_cons_zero, List.set_cons_succ]
          refine wpAnyH_ready (rs := [15]) (by kernel_rfl) (by simp) ?_
          refine AllReadyH.cons (o := { dst := some 66, op := Op.buildSlice 53 1 #[(0, Operand.tmp 65)], type := 53, pos := "law.go:61", after := #[{ on := 14, ground := Ground.data }, { on := 9, ground := Ground.guard }], guard := some (9, true) }) rfl (fun K hK => ?_) AllReadyH.nil
          go_simp
          refine hK.out _ _ ?_ (fun hH => ?_)
          · exact (have B9 := Bag.alloc hH.2 _; ⟨HC.out _ B9.now, B9⟩)
          clear hK K
          try simp only [Act.put, List.setIfInBounds_toArray, List.set_cons_zero, List.set_cons_succ]
          refine wpAnyH_ready (rs := [16]) (by kernel_rfl) (by simp) ?_
          refine AllReadyH.cons (o := { dst := some 67, op := Op.call { callee := Callee.value (Operand.func 7), args := #[Operand.tmp 61, Operand.tmp 66], argTypes := #[26, 53] }, type := 26, pos := "law.go:61", after := #[{ on := 10, ground := Ground.data }, { on := 15, ground := Ground.data }, { on := 14, ground := Ground.chain }, { on := 9, ground := Ground.guard }], guard := some (9, true) }) rfl (fun K hK => ?_) AllReadyH.nil
          go_simp
          (go_at_call 7; (with_reducible refine (TB.out a1 n1 c1 m1 _ _ ?_ ?_).mono ?_); exact hH.2.now.2.2.2.2.2.2.2.2.2.2.1; (apply IntsAt.old1; (exact Below.refl _ _); (first | rfl | focus (simp; done)); exact (IntAt.below hi5 (by refine Below.more ?_ _; refine Below.more ?_ _; refine Below.more ?_ _; exact Below.refl _ _))); rintro e wy ⟨a6, n6, c6, m6, rfl, hi6, hbz⟩)
          refine hK.out _ _ ?_ (fun hH => ?_)
          · exact (have B9 := Bag.go hH.2 hbz; ⟨HC.out _ B9.now, B9⟩)
          clear hK K
          try simp only [Act.put, List.setIfInBounds_toArray, List.set_cons_zero, List.set_cons_succ]
          refine wpAnyH_ready (rs := [20]) (by kernel_rfl) (by simp) ?_
          refine AllReadyH.cons (o := { dst := some 71, op := Op.call { callee := Callee.value (Operand.func 7), args := #[Operand.tmp 68, Operand.tmp 70], argTypes := #[26, 53] }, type := 26, pos := "law.go:61", after := #[{ on := 17, ground := Ground.data }, { on := 19, ground := Ground.data }, { on := 16, ground := Ground.chain }, { on := 9, ground := Ground.guard }], guard := some (9, true) }) rfl (fun K hK => ?_) AllReadyH.nil
          go_simp
          (go_at_call 7; (with_reducible refine (TY.out a1 n1 c1 m1 _ _ ?_ ?_).mono ?_); exact hH.2.now.2.2.2.2.2.2.2.2.2.2.1; (apply IntsAt.old1; (refine Below.step (by assumption) ?_; refine Below.more ?_ _; exact Below.refl _ _); (first | rfl | focus (simp; done)); exact hH.2.now.2.2.2.2.2.2.2.1); rintro e wy ⟨a7, n7, c7, m7, rfl, hi7, hbz⟩)
          refine hK.out _ _ ?_ (fun hH => ?_)
          · exact (have B9 := Bag.go hH.2 hbz; ⟨HC.out _ B9.now, B9⟩)
          clear hK K
          try simp only [Act.put, List.setIfInBounds_toArray, List.set_cons_zero, List.set_cons_succ]
          refine wpAnyH_ready (rs := [24]) (by kernel_rfl) (by simp) ?_
          refine AllReadyH.cons (o := { dst := some 75, op := Op.call { callee := Callee.value (Operand.func 7), args := #[Operand.tmp 72, Operand.tmp 74], argTypes := #[26, 53] }, type := 26, pos := "law.go:61", after := #[{ on := 21, ground := Ground.data }, { on := 23, ground := Ground.data }, { on := 20, ground := Ground.chain }, { on := 9, ground := Ground.guard }], guard := some (9, true) }) rfl (fun K hK => ?_) AllReadyH.nil
          go_simp
          (go_at_call 7; (with_reducible refine (TX.out a1 n1 c1 m1 _ _ ?_ ?_).mono ?_); exact hH.2.now.2.2.2.2.2.2.2.2.2.2.1; (apply IntsAt.old1; (refine Below.step (by assumption) ?_; refine Below.step (by assumption) ?_; refine Below.more ?_ _; refine Below.more ?_ _; exact Below.refl _ _); (first | rfl | focus (simp; done)); exact hH.2.now.2.2.2.2.1); rintro e wy ⟨a8, n8, c8, m8, rfl, hi8, hbz⟩)
          refine hK.out _ _ ?_ (fun hH => ?_)
          · exact (have B9 := Bag.go hH.2 hbz; ⟨HC.out _ B9.now, B9⟩)
          clear hK K
          try simp only [Act.put, List.setIfInBounds_toArray, List.set_cons_zero, List.set_cons_succ]
          refine Eq.mp (hG _ _ _ _) ?_
          exact captured (by kernel_rfl) (by kernel_rfl) (TAIL _ _ _ _ _ _ _ _ _ _ _ _ _ _ _ _ _ _ _ _ _ hH (IntAt.below hi6 (by refine Below.step (by assumption) ?_; refine Below.step (by assumption) ?_; exact Below.refl _ _)) (IntAt.below hi7 (by refine Below.step (by assumption) ?_; exact Below.refl _ _)) hi8)
        exact AllReadyH.nil
      exact AllReadyH.nil
    refine AllReadyH.cons (o := { dst := some 70, op := Op.buildSlice 53 1 #[(0, Operand.tmp 69)], type := 53, pos := "law.go:61", after := #[{ on := 18, ground := Ground.data }, { on := 9, ground := Ground.guard }], guard := some (9, true) }) rfl (fun K hK => ?_) ?_
    · go_simp
      refine hK.out _ _ ?_ (fun hH => ?_)
      · exact (have B9 := Bag.alloc hH.2 _; ⟨HC.out _ B9.now, B9⟩)
      clear hK K
      try simp only [Act.put, List.setIfInBounds_toArray, List.set_cons_zero, List.set_cons_succ]
      refine wpAnyH_ready (rs := [14, 23]) (by kernel_rfl) (by simp) ?_
      refine AllReadyH.cons (o := { dst := some 65, op := Op.call { callee := Callee.value (Operand.func 11), args := #[Operand.tmp 62, Operand.tmp 64], argTypes := #[26, 53] }, type := 26, pos := "law.go:61", after := #[{ on := 11, ground := Ground.data }, { on := 13, ground := Ground.data }, { on := 9, ground := Ground.chain }, { on := 9, ground := Ground.guard }], guard := some (9, true) }) rfl (fun K hK => ?_) ?_
      · go_simp
        (go_at_call 11; (with_reducible refine (PB.out a2 n2 c2 m2 _ _ ?_ ?_).mono ?_); exact hH.2.now.2.2.2.2.2.2.2.1; (apply IntsAt.old1; (refine Below.more ?_ _; exact Below.refl _ _); (first | rfl | focus (simp; done)); exact hH.2.now.2.2.2.2.1); rintro e wy ⟨a5, n5, c5, m5, rfl, hi5, hbz⟩)
        refine hK.out _ _ ?_ (fun hH => ?_)
        · exact (have B9 := Bag.go hH.2 hbz; ⟨HC.out _ B9.now, B9⟩)
        clear hK K
        try simp only [Act.put, List.setIfInBounds_toArray, List.set_cons_zero, List.set_cons_succ]
        refine wpAnyH_ready (rs := [15, 23]) (by kernel_rfl) (by simp) ?_
        refine AllReadyH.cons (o := { dst := some 66, op := Op.buildSlice 53 1 #[(0, Operand.tmp 65)], type := 53, pos := "law.go:61", after := #[{ on := 14, ground := Ground.data }, { on := 9, ground := Ground.guard }], guard := some (9, true) }) rfl (fun K hK => ?_) ?_
        · go_simp
          refine hK.out _ _ ?_ (fun hH => ?_)
          · exact (have B9 := Bag.alloc hH.2 _; ⟨HC.out _ B9.now, B9⟩)
          clear hK K
          try simp only [Act.put, List.setIfInBounds_toArray, List.set_cons_zero, List.set_cons_succ]
          refine wpAnyH_ready (rs := [16, 23]) (by kernel_rfl) (by simp) ?_
          refine AllReadyH.cons (o := { dst := some 67, op := Op.call { callee := Callee.value (Operand.func 7), args := #[Operand.tmp 61, Operand.tmp 66], argTypes := #[26, 53] }, type := 26, pos := "law.go:61", after := #[{ on := 10, ground := Ground.data }, { on := 15, ground := Ground.data }, { on := 14, ground := Ground.chain }, { on := 9, ground := Ground.guard }], guard := some (9, true) }) rfl (fun K hK => ?_) ?_
          · go_simp
            (go_at_call 7; (with_reducible refine (TB.out a1 n1 c1 m1 _ _ ?_ ?_).mono ?_); exact hH.2.now.2.2.2.2.2.2.2.2.2.2.1; (apply IntsAt.old1; (exact Below.refl _ _); (first | rfl | focus (simp; done)); exact (IntAt.below hi5 (by refine Below.more ?_ _; exact Below.refl _ _))); rintro e wy ⟨a6, n6, c6, m6, rfl, hi6, hbz⟩)
            refine hK.out _ _ ?_ (fun hH => ?_)
            · exact (have B9 := Bag.go hH.2 hbz; ⟨HC.out _ B9.now, B9⟩)
            clear hK K
            try simp only [Act.put, List.setIfInBounds_toArray, List.set_cons_zero, List.set_cons_succ]
            refine wpAnyH_ready (rs := [20, 23]) (by kernel_rfl) (by simp) ?_
            refine AllReadyH.cons (o := { dst := some 71, op := Op.call { callee := Callee.value (Operand.func 7), args := #[Operand.tmp 68, Operand.tmp 70], argTypes := #[26, 53] }, type := 26, pos := "law.go:61", after := #[{ on := 17, ground := Ground.data }, { on := 19, ground := Ground.data }, { on := 16, ground := Ground.chain }, { on := 9, ground := Ground.guard }], guard := some (9, true) }) rfl (fun K hK => ?_) ?_
            · go_simp
              (go_at_call 7; (with_reducible refine (TY.out a1 n1 c1 m1 _ _ ?_ ?_).mono ?_); exact hH.2.now.2.2.2.2.2.2.2.2.2.2.1; (apply IntsAt.old1; (refine Below.step (by assumption) ?_; refine Below.more ?_ _; refine Below.step (by assumption) ?_; exact Below.refl _ _); (first | rfl | focus (simp; done)); exact hH.2.now.2.2.2.2.2.2.2.1); rintro e wy ⟨a7, n7, c7, m7, rfl, hi7, hbz⟩)
              refine hK.out _ _ ?_ (fun hH => ?_)
              · exact (have B9 := Bag.go hH.2 hbz; ⟨HC.out _ B9.now, B9⟩)
              clear hK K
              try simp only [Act.put, List.setIfInBounds_toArray, List.set_cons_zero, List.set_cons_succ]
              refine wpAnyH_ready (rs := [23]) (by kernel_rfl) (by simp) ?_
              refine AllReadyH.cons (o := { dst := some 74, op := Op.buildSlice 53 1 #[(0, Operand.tmp 73)], type := 53, pos := "law.go:61", after := #[{ on := 22, ground := Ground.data }, { on := 9, ground := Ground.guard }], guard := some (9, true) }) rfl (fun K hK => ?_) AllReadyH.nil
              go_simp
              refine hK.out _ _ ?_ (fun hH => ?_)
              · exact (have B9 := Bag.alloc hH.2 _; ⟨HC.out _ B9.now, B9⟩)
              clear hK K
              try simp only [Act.put, List.setIfInBounds_toArray, List.set_cons_zero, List.set_cons_succ]
              refine wpAnyH_ready (rs := [24]) (by kernel_rfl) (by simp) ?_
              refine AllReadyH.cons (o := { dst := some 75, op := Op.call { callee := Callee.value (Operand.func 7), args := #[Operand.tmp 72, Operand.tmp 74], argTypes := #[26, 53] }, type := 26, pos := "law.go:61", after := #[{ on := 21, ground := Ground.data }, { on := 23, ground := Ground.data }, { on := 20, ground := Ground.chain }, { on := 9, ground := Ground.guard }], guard := some (9, true) }) rfl (fun K hK => ?_) AllReadyH.nil
              go_simp
              (go_at_call 7; (with_reducible refine (TX.out a1 n1 c1 m1 _ _ ?_ ?_).mono ?_); exact hH.2.now.2.2.2.2.2.2.2.2.2.2.1; (apply IntsAt.old1; (exact Below.refl _ _); (first | rfl | focus (simp; done)); exact hH.2.now.2.2.2.2.1); rintro e wy ⟨a8, n8, c8, m8, rfl, hi8, hbz⟩)
              refine hK.out _ _ ?_ (fun hH => ?_)
              · exact (have B9 := Bag.go hH.2 hbz; ⟨HC.out _ B9.now, B9⟩)
              clear hK K
              try simp only [Act.put, List.setIfInBounds_toArray, List.set_cons_zero, List.set_cons_succ]
              refine Eq.mp (hG _ _ _ _) ?_
              exact captured (by kernel_rfl) (by kernel_rfl) (TAIL _ _ _ _ _ _ _ _ _ _ _ _ _ _ _ _ _ _ _ _ _ hH (IntAt.below hi6 (by refine Below.step (by assumption) ?_; refine Below.more ?_ _; refine Below.step (by assumption) ?_; exact Below.refl _ _)) (IntAt.below hi7 (by refine Below.step (by assumption) ?_; refine Below.more ?_ _; exact Below.refl _ _)) hi8)
            refine AllReadyH.cons (o := { dst := some 74, op := Op.buildSlice 53 1 #[(0, Operand.tmp 73)], type := 53, pos := "law.go:61", after := #[{ on := 22, ground := Ground.data }, { on := 9, ground := Ground.guard }], guard := some (9, true) }) rfl (fun K hK => ?_) ?_
            · go_simp
              refine hK.out _ _ ?_ (fun hH => ?_)
              · exact (have B9 := Bag.alloc hH.2 _; ⟨HC.out _ B9.now, B9⟩)
              clear hK K
              try simp only [Act.put, List.setIfInBounds_toArray, List.set_cons_zero, List.set_cons_succ]
              refine wpAnyH_ready (rs := [20]) (by kernel_rfl) (by simp) ?_
              refine AllReadyH.cons (o := { dst := some 71, op := Op.call { callee := Callee.value (Operand.func 7), args := #[Operand.tmp 68, Operand.tmp 70], argTypes := #[26, 53] }, type := 26, pos := "law.go:61", after := #[{ on := 17, ground := Ground.data }, { on := 19, ground := Ground.data }, { on := 16, ground := Ground.chain }, { on := 9, ground := Ground.guard }], guard := some (9, true) }) rfl (fun K hK => ?_) AllReadyH.nil
              go_simp
              (go_at_call 7; (with_reducible refine (TY.out a1 n1 c1 m1 _ _ ?_ ?_).mono ?_); exact hH.2.now.2.2.2.2.2.2.2.2.2.2.1; (apply IntsAt.old1; (refine Below.more ?_ _; refine Below.step (by assumption) ?_; refine Below.more ?_ _; refine Below.step (by assumption) ?_; exact Below.refl _ _); (first | rfl | focus (simp; done)); exact hH.2.now.2.2.2.2.2.2.2.1); rintro e wy ⟨a7, n7, c7, m7, rfl, hi7, hbz⟩)
              refine hK.out _ _ ?_ (fun hH => ?_)
              · exact (have B9 := Bag.go hH.2 hbz; ⟨HC.out _ B9.now, B9⟩)
              clear hK K
              try simp only [Act.put, List.setIfInBounds_toArray, List.set_cons_zero, List.set_cons_succ]
              refine wpAnyH_ready (rs := [24]) (by kernel_rfl) (by simp) ?_
              refine AllReadyH.cons (o := { dst := some 75, op := Op.call { callee := Callee.value (Operand.func 7), args := #[Operand.tmp 72, Operand.tmp 74], argTypes := #[26, 53] }, type := 26, pos := "law.go:61", after := #[{ on := 21, ground := Ground.data }, { on := 23, ground := Ground.data }, { on := 20, ground := Ground.chain }, { on := 9, ground := Ground.guard }], guard := some (9, true) }) rfl (fun K hK => ?_) AllReadyH.nil
              go_simp
              (go_at_call 7; (with_reducible refine (TX.out a1 n1 c1 m1 _ _ ?_ ?_).mono ?_); exact hH.2.now.2.2.2.2.2.2.2.2.2.2.1; (apply IntsAt.old1; (refine Below.step (by assumption) ?_; exact Below.refl _ _); (first | rfl | focus (simp; done)); exact hH.2.now.2.2.2.2.1); rintro e wy ⟨a8, n8, c8, m8, rfl, hi8, hbz⟩)
              refine hK.out _ _ ?_ (fun hH => ?_)
              · exact (have B9 := Bag.go hH.2 hbz; ⟨HC.out _ B9.now, B9⟩)
              clear hK K
              try simp only [Act.put, List.setIfInBounds_toArray, List.set_cons_zero, List.set_cons_succ]
              refine Eq.mp (hG _ _ _ _) ?_
              exact captured (by kernel_rfl) (by kernel_rfl) (TAIL _ _ _ _ _ _ _ _ _ _ _ _ _ _ _ _ _ _ _ _ _ hH (IntAt.below hi6 (by refine Below.step (by assumption) ?_; refine Below.step (by assumption) ?_; refine Below.more ?_ _; exact Below.refl _ _)) (IntAt.below hi7 (by refine Below.step (by assumption) ?_; exact Below.refl _ _)) hi8)
            exact AllReadyH.nil
          refine AllReadyH.cons (o := { dst := some 74, op := Op.buildSlice 53 1 #[(0, Operand.tmp 73)], type := 53, pos := "law.go:61", after := #[{ on := 22, ground := Ground.data }, { on := 9, ground := Ground.guard }], guard := some (9, true) }) rfl (fun K hK => ?_) ?_
          · go_simp
            refine hK.out _ _ ?_ (fun hH => ?_)
            · exact (have B9 := Bag.alloc hH.2 _; ⟨HC.out _ B9.now, B9⟩)
            clear hK K
            try simp only [Act.put, List.setIfInBounds_toArray, List.set_cons_zero, List.set_cons_succ]
            refine wpAnyH_ready (rs := [16]) (by kernel_rfl) (by simp) ?_
            refine AllReadyH.cons (o := { dst := some 67, op := Op.call { callee := Callee.value (Operand.func 7), args := #[Operand.tmp 61, Operand.tmp 66], argTypes := #[26, 53] }, type := 26, pos := "law.go:61", after := #[{ on := 10, ground := Ground.data }, { on := 15, ground := Ground.data }, { on := 14, ground := Ground.chain }, { on := 9, ground := Ground.guard }], guard := some (9, true) }) rfl (fun K hK => ?_) AllReadyH.nil
            go_simp
            (go_at_call 7; (with_reducible refine (TB.out a1 n1 c1 m1 _ _ ?_ ?_).mono ?_); exact hH.2.now.2.2.2.2.2.2.2.2.2.2.1; (apply IntsAt.old1; (refine Below.more ?_ _; exact Below.refl _ _); (first | rfl | focus (simp; done)); exact (IntAt.below hi5 (by refine Below.more ?_ _; refine Below.more ?_ _; exact Below.refl _ _))); rintro e wy ⟨a6, n6, c6, m6, rfl, hi6, hbz⟩)
            refine hK.out _ _ ?_ (fun hH => ?_)
            · exact (have B9 := Bag.go hH.2 hbz; ⟨HC.out _ B9.now, B9⟩)
            clear hK K
            try simp only [Act.put, List.setIfInBounds_toArray, List.set_cons_zero, List.set_cons_succ]
            refine wpAnyH_ready (rs := [20]) (by kernel_rfl) (by simp) ?_
            refine AllReadyH.cons (o := { dst := some 71, op := Op.call { callee := Callee.value (Operand.func 7), args := #[Operand.tmp 68, Operand.tmp 70], argTypes := #[26, 53] }, type := 26, pos := "law.go:61", after := #[{ on := 17, ground := Ground.data }, { on := 19, ground := Ground.data }, { on := 16, ground := Ground.chain }, { on := 9, ground := Ground.guard }], guard := some (9, true) }) rfl (fun K hK => ?_) AllReadyH.nil
            go_simp
            (go_at_call 7; (with_reducible refine (TY.out a1 n1 c1 m1 _ _ ?_ ?_).mono ?_); exact hH.2.now.2.2.2.2.2.2.2.2.2.2.1; (apply IntsAt.old1; (refine Below.step (by assumption) ?_; refine Below.more ?_ _; refine Below.more ?_ _; refine Below.step (by assumption) ?_; exact Below.refl _ _); (first | rfl | focus (simp; done)); exact hH.2.now.2.2.2.2.2.2.2.1); rintro e wy ⟨a7, n7, c7, m7, rfl, hi7, hbz⟩)
            refine hK.out _ _ ?_ (fun hH => ?_)
            · exact (have B9 := Bag.go hH.2 hbz; ⟨HC.out _ B9.now, B9⟩)
            clear hK K
            try simp only [Act.put, List.setIfInBounds_toArray, List.set_cons_zero, List.set_cons_succ]
            refine wpAnyH_ready (rs := [24]) (by kernel_rfl) (by simp) ?_
            refine AllReadyH.cons (o := { dst := some 75, op := Op.call { callee := Callee.value (Operand.func 7), args := #[Operand.tmp 72, Operand.tmp 74], argTypes := #[26, 53] }, type := 26, pos := "law.go:61", after := #[{ on := 21, ground := Ground.data }, { on := 23, ground := Ground.data }, { on := 20, ground := Ground.chain }, { on := 9, ground := Ground.guard }], guard := some (9, true) }) rfl (fun K hK => ?_) AllReadyH.nil
            go_simp
            (go_at_call 7; (with_reducible refine (TX.out a1 n1 c1 m1 _ _ ?_ ?_).mono ?_); exact hH.2.now.2.2.2.2.2.2.2.2.2.2.1; (apply IntsAt.old1; (refine Below.step (by assumption) ?_; refine Below.step (by assumption) ?_; exact Below.refl _ _); (first | rfl | focus (simp; done)); exact hH.2.now.2.2.2.2.1); rintro e wy ⟨a8, n8, c8, m8, rfl, hi8, hbz⟩)
            refine hK.out _ _ ?_ (fun hH => ?_)
            · exact (have B9 := Bag.go hH.2 hbz; ⟨HC.out _ B9.now, B9⟩)
            clear hK K
            try simp only [Act.put, List.setIfInBounds_toArray, List.set_cons_zero, List.set_cons_succ]
            refine Eq.mp (hG _ _ _ _) ?_
            exact captured (by kernel_rfl) (by kernel_rfl) (TAIL _ _ _ _ _ _ _ _ _ _ _ _ _ _ _ _ _ _ _ _ _ hH (IntAt.below hi6 (by refine Below.step (by assumption) ?_; refine Below.step (by assumption) ?_; exact Below.refl _ _)) (IntAt.below hi7 (by refine Below.step (by assumption) ?_; exact Below.refl _ _)) hi8)
          exact AllReadyH.nil
        refine AllReadyH.cons (o := { dst := some 74, op := Op.buildSlice 53 1 #[(0, Operand.tmp 73)], type := 53, pos := "law.go:61", after := #[{ on := 22, ground := Ground.data }, { on := 9, ground := Ground.guard }], guard := some (9, true) }) rfl (fun K hK => ?_) ?_
        · go_simp
          refine hK.out _ _ ?_ (fun hH => ?_)
          · exact (have B9 := Bag.alloc hH.2 _; ⟨HC.out _ B9.now, B9⟩)
          clear hK K
          try simp only [Act.put, List.setIfInBounds_toArray, List.set_cons_zero, List.set_cons_succ]
          refine wpAnyH_ready (rs := [15]) (by kernel_rfl) (by simp) ?_
          refine AllReadyH.cons (o := { dst := some 66, op := Op.buildSlice 53 1 #[(0, Operand.tmp 65)], type := 53, pos := "law.go:61", after := #[{ on := 14, ground := Ground.data }, { on := 9, ground := Ground.guard }], guard := some (9, true) }) rfl (fun K hK => ?_) AllReadyH.nil
          go_simp
          refine hK.out _ _ ?_ (fun hH => ?_)
          · exact (have B9 := Bag.alloc hH.2 _; ⟨HC.out _ B9.now, B9⟩)
          clear hK K
          try simp only [Act.put, List.setIfInBounds_toArray, List.set_cons_zero, List.set_cons_succ]
          refine wpAnyH_ready (rs := [16]) (by kernel_rfl) (by simp) ?_
          refine AllReadyH.cons (o := { dst := some 67, op := Op.call { callee := Callee.value (Operand.func 7), args := #[Operand.tmp 61, Operand.tmp 66], argTypes := #[26, 53] }, type := 26, pos := "law.go:61", after := #[{ on := 10, ground := Ground.data }, { on := 15, ground := Ground.data }, { on := 14, ground := Ground.chain }, { on := 9, ground := Ground.guard }], guard := some (9, true) }) rfl (fun K hK => ?_) AllReadyH.nil
          go_simp
          (go_at_call 7; (with_reducible refine (TB.out a1 n1 c1 m1 _ _ ?_ ?_).mono ?_); exact hH.2.now.2.2.2.2.2.2.2.2.2.2.1; (apply IntsAt.old1; (exact Below.refl _ _); (first | rfl | focus (simp; done)); exact (IntAt.below hi5 (by refine Below.more ?_ _; refine Below.more ?_ _; exact Below.refl _ _))); rintro e wy ⟨a6, n6, c6, m6, rfl, hi6, hbz⟩)
          refine hK.out _ _ ?_ (fun hH => ?_)
          · exact (have B9 := Bag.go hH.2 hbz; ⟨HC.out _ B9.now, B9⟩)
          clear hK K
          try simp only [Act.put, List.setIfInBounds_toArray, List.set_cons_zero, List.set_cons_succ]
          refine wpAnyH_ready (rs := [20]) (by kernel_rfl) (by simp) ?_
          refine AllReadyH.cons (o := { dst := some 71, op := Op.call { callee := Callee.value (Operand.func 7), args := #[Operand.tmp 68, Operand.tmp 70], argTypes := #[26, 53] }, type := 26, pos := "law.go:61", after := #[{ on := 17, ground := Ground.data }, { on := 19, ground := Ground.data }, { on := 16, ground := Ground.chain }, { on := 9, ground := Ground.guard }], guard := some (9, true) }) rfl (fun K hK => ?_) AllReadyH.nil
          go_simp
          (go_at_call 7; (with_reducible refine (TY.out a1 n1 c1 m1 _ _ ?_ ?_).mono ?_); exact hH.2.now.2.2.2.2.2.2.2.2.2.2.1; (apply IntsAt.old1; (refine Below.step (by assumption) ?_; refine Below.more ?_ _; refine Below.more ?_ _; refine Below.step (by assumption) ?_; exact Below.refl _ _); (first | rfl | focus (simp; done)); exact hH.2.now.2.2.2.2.2.2.2.1); rintro e wy ⟨a7, n7, c7, m7, rfl, hi7, hbz⟩)
          refine hK.out _ _ ?_ (fun hH => ?_)
          · exact (have B9 := Bag.go hH.2 hbz; ⟨HC.out _ B9.now, B9⟩)
          clear hK K
          try simp only [Act.put, List.setIfInBounds_toArray, List.set_cons_zero, List.set_cons_succ]
          refine wpAnyH_ready (rs := [24]) (by kernel_rfl) (by simp) ?_
          refine AllReadyH.cons (o := { dst := some 75, op := Op.call { callee := Callee.value (Operand.func 7), args := #[Operand.tmp 72, Operand.tmp 74], argTypes := #[26, 53] }, type := 26, pos := "law.go:61", after := #[{ on := 21, ground := Ground.data }, { on := 23, ground := Ground.data }, { on := 20, ground := Ground.chain }, { on := 9, ground := Ground.guard }], guard := some (9, true) }) rfl (fun K hK => ?_) AllReadyH.nil
          go_simp
          (go_at_call 7; (with_reducible refine (TX.out a1 n1 c1 m1 _ _ ?_ ?_).mono ?_); exact hH.2.now.2.2.2.2.2.2.2.2.2.2.1; (apply IntsAt.old1; (refine Below.step (by assumption) ?_; refine Below.step (by assumption) ?_; refine Below.more ?_ _; exact Below.refl _ _); (first | rfl | focus (simp; done)); exact hH.2.now.2.2.2.2.1); rintro e wy ⟨a8, n8, c8, m8, rfl, hi8, hbz⟩)
          refine hK.out _ _ ?_ (fun hH => ?_)
          · exact (have B9 := Bag.go hH.2 hbz; ⟨HC.out _ B9.now, B9⟩)
          clear hK K
          try simp only [Act.put, List.setIfInBounds_toArray, List.set_cons_zero, List.set_cons_succ]
          refine Eq.mp (hG _ _ _ _) ?_
          exact captured (by kernel_rfl) (by kernel_rfl) (TAIL _ _ _ _ _ _ _ _ _ _ _ _ _ _ _ _ _ _ _ _ _ hH (IntAt.below hi6 (by refine Below.step (by assumption) ?_; refine Below.step (by assumption) ?_; exact Below.refl _ _)) (IntAt.below hi7 (by refine Below.step (by assumption) ?_; exact Below.refl _ _)) hi8)
        exact AllReadyH.nil
      refine AllReadyH.cons (o := { dst := some 74, op := Op.buildSlice 53 1 #[(0, Operand.tmp 73)], type := 53, pos := "law.go:61", after := #[{ on := 22, ground := Ground.data }, { on := 9, ground := Ground.guard }], guard := some (9, true) }) rfl (fun K hK => ?_) ?_
      · go_simp
        refine hK.out _ _ ?_ (fun hH => ?_)
        · exact (have B9 := Bag.alloc hH.2 _; ⟨HC.out _ B9.now, B9⟩)
        clear hK K
        try simp only [Act.put, List.setIfInBounds_toArray, List.set_cons_zero, List.set_cons_succ]
        refine wpAnyH_ready (rs := [14]) (by kernel_rfl) (by simp) ?_
        refine AllReadyH.cons (o := { dst := some 65, op := Op.call { callee := Callee.value (Operand.func 11), args := #[Operand.tmp 62, Operand.tmp 64], argTypes := #[26, 53] }, type := 26, pos := "law.go:61", after := #[{ on := 11, ground := Ground.data }, { on := 13, ground := Ground.data }, { on := 9, ground := Ground.chain }, { on := 9, ground := Ground.guard }], guard := some (9, true) }) rfl (fun K hK => ?_) AllReadyH.nil
        go_simp
        (go_at_call 11; (with_reducible refine (PB.out a2 n2 c2 m2 _ _ ?_ ?_).mono ?_); exact hH.2.now.2.2.2.2.2.2.2.1; (apply IntsAt.old1; (refine Below.more ?_ _; refine Below.more ?_ _; exact Below.refl _ _); (first | rfl | focus (simp; done)); exact hH.2.now.2.2.2.2.1); rintro e wy ⟨a5, n5, c5, m5, rfl, hi5, hbz⟩)
        refine hK.out _ _ ?_ (fun hH => ?_)
        · exact (have B9 := Bag.go hH.2 hbz; ⟨HC.out _ B9.now, B9⟩)
        clear hK K
        try simp only [Act.put, List.setIfInBounds_toArray, List.set_cons_zero, List.set_cons_succ]
        refine wpAnyH_ready (rs := [15]) (by kernel_rfl) (by simp) ?_
        refine AllReadyH.cons (o := { dst := some 66, op := Op.buildSlice 53 1 #[(0, Operand.tmp 65)], type := 53, pos := "law.go:61", after := #[{ on := 14, ground := Ground.data }, { on := 9, ground := Ground.guard }], guard := some (9, true) }) rfl (fun K hK => ?_) AllReadyH.nil
        go_simp
        refine hK.out _ _ ?_ (fun hH => ?_)
        · exact (have B9 := Bag.alloc hH.2 _; ⟨HC.out _ B9.now, B9⟩)
        clear hK K
        try simp only [Act.put, List.setIfInBounds_toArray, List.set_cons_zero, List.set_cons_succ]
        refine wpAnyH_ready (rs := [16]) (by kernel_rfl) (by simp) ?_
        refine AllReadyH.cons (o := { dst := some 67, op := Op.call { callee := Callee.value (Operand.func 7), args := #[Operand.tmp 61, Operand.tmp 66], argTypes := #[26, 53] }, type := 26, pos := "law.go:61", after := #[{ on := 10, ground := Ground.data }, { on := 15, ground := Ground.data }, { on := 14, ground := Ground.chain }, { on := 9, ground := Ground.guard }], guard := some (9, true) }) rfl (fun K hK => ?_) AllReadyH.nil
        go_simp
        (go_at_call 7; (with_reducible refine (TB.out a1 n1 c1 m1 _ _ ?_ ?_).mono ?_); exact hH.2.now.2.2.2.2.2.2.2.2.2.2.1; (apply IntsAt.old1; (exact Below.refl _ _); (first | rfl | focus (simp; done)); exact (IntAt.below hi5 (by refine Below.more ?_ _; exact Below.refl _ _))); rintro e wy ⟨a6, n6, c6, m6, rfl, hi6, hbz⟩)
        refine hK.out _ _ ?_ (fun hH => ?_)
        · exact (have B9 := Bag.go hH.2 hbz; ⟨HC.out _ B9.now, B9⟩)
        clear hK K
        try simp only [Act.put, List.setIfInBounds_toArray, List.set_cons_zero, List.set_cons_succ]
        refine wpAnyH_ready (rs := [20]) (by kernel_rfl) (by simp) ?_
        refine AllReadyH.cons (o := { dst := some 71, op := Op.call { callee := Callee.value (Operand.func 7), args := #[Operand.tmp 68, Operand.tmp 70], argTypes := #[26, 53] }, type := 26, pos := "law.go:61", after := #[{ on := 17, ground := Ground.data }, { on := 19, ground := Ground.data }, { on := 16, ground := Ground.chain }, { on := 9, ground := Ground.guard }], guard := some (9, true) }) rfl (fun K hK => ?_) AllReadyH.nil
        go_simp
        (go_at_call 7; (with_reducible refine (TY.out a1 n1 c1 m1 _ _ ?_ ?_).mono ?_); exact hH.2.now.2.2.2.2.2.2.2.2.2.2.1; (apply IntsAt.old1; (refine Below.step (by assumption) ?_; refine Below.more ?_ _; refine Below.step (by assumption) ?_; refine Below.more ?_ _; exact Below.refl _ _); (first | rfl | focus (simp; done)); exact hH.2.now.2.2.2.2.2.2.2.1); rintro e wy ⟨a7, n7, c7, m7, rfl, hi7, hbz⟩)
        refine hK.out _ _ ?_ (fun hH => ?_)
        · exact (have B9 := Bag.go hH.2 hbz; ⟨HC.out _ B9.now, B9⟩)
        clear hK K
        try simp only [Act.put, List.setIfInBounds_toArray, List.set_cons_zero, List.set_cons_succ]
        refine wpAnyH_ready (rs := [24]) (by kernel_rfl) (by simp) ?_
        refine AllReadyH.cons (o := { dst := some 75, op := Op.call { callee := Callee.value (Operand.func 7), args := #[Operand.tmp 72, Operand.tmp 74], argTypes := #[26, 53] }, type := 26, pos := "law.go:61", after := #[{ on := 21, ground := Ground.data }, { on := 23, ground := Ground.data }, { on := 20, ground := Ground.chain }, { on := 9, ground := Ground.guard }], guard := some (9, true) }) rfl (fun K hK => ?_) AllReadyH.nil
        go_simp
        (go_at_call 7; (with_reducible refine (TX.out a1 n1 c1 m1 _ _ ?_ ?_).mono ?_); exact hH.2.now.2.2.2.2.2.2.2.2.2.2.1; (apply IntsAt.old1; (refine Below.step (by assumption) ?_; refine Below.step (by assumption) ?_; refine Below.more ?_ _; refine Below.step (by assumption) ?_; exact Below.refl _ _); (first | rfl | focus (simp; done)); exact hH.2.now.2.2.2.2.1); rintro e wy ⟨a8, n8, c8, m8, rfl, hi8, hbz⟩)
        refine hK.out _ _ ?_ (fun hH => ?_)
        · exact (have B9 := Bag.go hH.2 hbz; ⟨HC.out _ B9.now, B9⟩)
        clear hK K
        try simp only [Act.put, List.setIfInBounds_toArray, List.set_cons_zero, List.set_cons_succ]
        refine Eq.mp (hG _ _ _ _) ?_
        exact captured (by kernel_rfl) (by kernel_rfl) (TAIL _ _ _ _ _ _ _ _ _ _ _ _ _ _ _ _ _ _ _ _ _ hH (IntAt.below hi6 (by refine Below.step (by assumption) ?_; refine Below.step (by assumption) ?_; exact Below.refl _ _)) (IntAt.below hi7 (by refine Below.step (by assumption) ?_; exact Below.refl _ _)) hi8)
      exact AllReadyH.nil
    refine AllReadyH.cons (o := { dst := some 74, op := Op.buildSlice 53 1 #[(0, Operand.tmp 73)], type := 53, pos := "law.go:61", after := #[{ on := 22, ground := Ground.data }, { on := 9, ground := Ground.guard }], guard := some (9, true) }) rfl (fun K hK => ?_) ?_
    · go_simp
      refine hK.out _ _ ?_ (fun hH => ?_)
      · exact (have B9 := Bag.alloc hH.2 _; ⟨HC.out _ B9.now, B9⟩)
      clear hK K
      try simp only [Act.put, List.setIfInBounds_toArray, List.set_cons_zero, List.set_cons_succ]
      refine wpAnyH_ready (rs := [14, 19]) (by kernel_rfl) (by simp) ?_
      refine AllReadyH.cons (o := { dst := some 65, op := Op.call { callee := Callee.value (Operand.func 11), args := #[Operand.tmp 62, Operand.tmp 64], argTypes := #[26, 53] }, type := 26, pos := "law.go:61", after := #[{ on := 11, ground := Ground.data }, { on := 13, ground := Ground.data }, { on := 9, ground := Ground.chain }, { on := 9, ground := Ground.guard }], guard := some (9, true) }) rfl (fun K hK => ?_) ?_
      · go_simp
        (go_at_call 11; (with_reducible refine (PB.out a2 n2 c2 m2 _ _ ?_ ?_).mono ?_); exact hH.2.now.2.2.2.2.2.2.2.1; (apply IntsAt.old1; (refine Below.more ?_ _; exact Below.refl _ _); (first | rfl | focus (simp; done)); exact hH.2.now.2.2.2.2.1); rintro e wy ⟨a5, n5, c5, m5, rfl, hi5, hbz⟩)
        refine hK.out _ _ ?_ (fun hH => ?_)
        · exact (have B9 := Bag.go hH.2 hbz; ⟨HC.out _ B9.now, B9⟩)
        clear hK K
        try simp only [Act.put, List.setIfInBounds_toArray, List.set_cons_zero, List.set_cons_succ]
        refine wpAnyH_ready (rs := [15, 19]) (by kernel_rfl) (by simp) ?_
        refine AllReadyH.cons (o := { dst := some 66, op := Op.buildSlice 53 1 #[(0, Operand.tmp 65)], type := 53, pos := "law.go:61", after := #[{ on := 14, ground := Ground.data }, { on := 9, ground := Ground.guard }], guard := some (9, true) }) rfl (fun K hK => ?_) ?_
        · go_simp
          refine hK.out _ _ ?_ (fun hH => ?_)
          · exact (have B9 := Bag.alloc hH.2 _; ⟨HC.out _ B9.now, B9⟩)
          clear hK K
          try simp only [Act.put, List.setIfInBounds_toArray, List.set_cons_zero, List.set_cons_succ]
          refine wpAnyH_ready (rs := [16, 19]) (by kernel_rfl) (by simp) ?_
          refine AllReadyH.cons (o := { dst := some 67, op := Op.call { callee := Callee.value (Operand.func 7), args := #[Operand.tmp 61, Operand.tmp 66], argTypes := #[26, 53] }, type := 26, pos := "law.go:61", after := #[{ on := 10, ground := Ground.data }, { on := 15, ground := Ground.data }, { on := 14, ground := Ground.chain }, { on := 9, ground := Ground.guard }], guard := some (9, true) }) rfl (fun K hK => ?_) ?_
          · go_simp
            (go_at_call 7; (with_reducible refine (TB.out a1 n1 c1 m1 _ _ ?_ ?_).mono ?_); exact hH.2.now.2.2.2.2.2.2.2.2.2.2.1; (apply IntsAt.old1; (exact Below.refl _ _); (first | rfl | focus (simp; done)); exact (IntAt.below hi5 (by refine Below.more ?_ _; exact Below.refl _ _))); rintro e wy ⟨a6, n6, c6, m6, rfl, hi6, hbz⟩)
            refine hK.out _ _ ?_ (fun hH => ?_)
            · exact (have B9 := Bag.go hH.2 hbz; ⟨HC.out _ B9.now, B9⟩)
            clear hK K
            try simp only [Act.put, List.setIfInBounds_toArray, List.set_cons_zero, List.set_cons_succ]
            refine wpAnyH_ready (rs := [19]) (by kernel_rfl) (by simp) ?_
            refine AllReadyH.cons (o := { dst := some 70, op := Op.buildSlice 53 1 #[(0, Operand.tmp 69)], type := 53, pos := "law.go:61", after := #[{ on := 18, ground := Ground.data }, { on := 9, ground := Ground.guard }], guard := some (9, true) }) rfl (fun K hK => ?_) AllReadyH.nil
            go_simp
            refine hK.out _ _ ?_ (fun hH => ?_)
            · exact (have B9 := Bag.alloc hH.2 _; ⟨HC.out _ B9.now, B9⟩)
            clear hK K
            try simp only [Act.put, List.setIfInBounds_toArray, List.set_cons_zero, List.set_cons_succ]
            refine wpAnyH_ready (rs := [20]) (by kernel_rfl) (by simp) ?_
            refine AllReadyH.cons (o := { dst := some 71, op := Op.call { callee := Callee.value (Operand.func 7), args := #[Operand.tmp 68, Operand.tmp 70], argTypes := #[26, 53] }, type := 26, pos := "law.go:61", after := #[{ on := 17, ground := Ground.data }, { on := 19, ground := Ground.data }, { on := 16, ground := Ground.chain }, { on := 9, ground := Ground.guard }], guard := some (9, true) }) rfl (fun K hK => ?_) AllReadyH.nil
            go_simp
            (go_at_call 7; (with_reducible refine (TY.out a1 n1 c1 m1 _ _ ?_ ?_).mono ?_); exact hH.2.now.2.2.2.2.2.2.2.2.2.2.1; (apply IntsAt.old1; (exact Below.refl _ _); (first | rfl | focus (simp; done)); exact hH.2.now.2.2.2.2.2.2.2.1); rintro e wy ⟨a7, n7, c7, m7, rfl, hi7, hbz⟩)
            refine hK.out _ _ ?_ (fun hH => ?_)
            · exact (have B9 := Bag.go hH.2 hbz; ⟨HC.out _ B9.now, B9⟩)
            clear hK K
            try simp only [Act.put, List.setIfInBounds_toArray, List.set_cons_zero, List.set_cons_succ]
            refine wpAnyH_ready (rs := [24]) (by kernel_rfl) (by simp) ?_
            refine AllReadyH.cons (o := { dst := some 75, op := Op.call { callee := Callee.value (Operand.func 7), args := #[Operand.tmp 72, Operand.tmp 74], argTypes := #[26, 53] }, type := 26, pos := "law.go:61", after := #[{ on := 21, ground := Ground.data }, { on := 23, ground := Ground.data }, { on := 20, ground := Ground.chain }, { on := 9, ground := Ground.guard }], guard := some (9, true) }) rfl (fun K hK => ?_) AllReadyH.nil
            go_simp
            (go_at_call 7; (with_reducible refine (TX.out a1 n1 c1 m1 _ _ ?_ ?_).mono ?_); exact hH.2.now.2.2.2.2.2.2.2.2.2.2.1; (apply IntsAt.old1; (refine Below.step (by assumption) ?_; refine Below.more ?_ _; refine Below.step (by assumption) ?_; refine Below.more ?_ _; refine Below.step (by assumption) ?_; exact Below.refl _ _); (first | rfl | focus (simp; done)); exact hH.2.now.2.2.2.2.1); rintro e wy ⟨a8, n8, c8, m8, rfl, hi8, hbz⟩)
            refine hK.out _ _ ?_ (fun hH => ?_)
            · exact (have B9 := Bag.go hH.2 hbz; ⟨HC.out _ B9.now, B9⟩)
            clear hK K
            try simp only [Act.put, List.setIfInBounds_toArray, List.set_cons_zero, List.set_cons_succ]
            refine Eq.mp (hG _ _ _ _) ?_
            exact captured (by kernel_rfl) (by kernel_rfl) (TAIL _ _ _ _ _ _ _ _ _ _ _ _ _ _ _ _ _ _ _ _ _ hH (IntAt.below hi6 (by refine Below.step (by assumption) ?_; refine Below.step (by assumption) ?_; refine Below.more ?_ _; exact Below.refl _ _)) (IntAt.below hi7 (by refine Below.step (by assumption) ?_; exact Below.refl _ _)) hi8)
          refine AllReadyH.cons (o := { dst := some 70, op := Op.buildSlice 53 1 #[(0, Operand.tmp 69)], type := 53, pos := "law.go:61", after := #[{ on := 18, ground := Ground.data }, { on := 9, ground := Ground.guard }], guard := some (9, true) }) rfl (fun K hK => ?_) ?_
          · go_simp
            refine hK.out _ _ ?_ (fun hH => ?_)
            · exact (have B9 := Bag.alloc hH.2 _; ⟨HC.out _ B9.now, B9⟩)
            clear hK K
            try simp only [Act.put, List.setIfInBounds_toArray, List.set_cons_zero, List.set_cons_succ]
            refine wpAnyH_ready (rs := [16]) (by kernel_rfl) (by simp) ?_
            refine AllReadyH.cons (o := { dst := some 67, op := Op.call { callee := Callee.value (Operand.func 7), args := #[Operand.tmp 61, Operand.tmp 66], argTypes := #[26, 53] }, type := 26, pos := "law.go:61", after := #[{ on := 10, ground := Ground.data }, { on := 15, ground := Ground.data }, { on := 14, ground := Ground.chain }, { on := 9, ground := Ground.guard }], guard := some (9, true) }) rfl (fun K hK => ?_) AllReadyH.nil
            go_simp
            (go_at_call 7; (with_reducible refine (TB.out a1 n1 c1 m1 _ _ ?_ ?_).mono ?_); exact hH.2.now.2.2.2.2.2.2.2.2.2.2.1; (apply IntsAt.old1; (refine Below.more ?_ _; exact Below.refl _ _); (first | rfl | focus (simp; done)); exact (IntAt.below hi5 (by refine Below.more ?_ _; refine Below.more ?_ _; exact Below.refl _ _))); rintro e wy ⟨a6, n6, c6, m6, rfl, hi6, hbz⟩)
            refine hK.out _ _ ?_ (fun hH => ?_)
            · exact (have B9 := Bag.go hH.2 hbz; ⟨HC.out _ B9.now, B9⟩)
            clear hK K
            try simp only [Act.put, List.setIfInBounds_toArray, List.set_cons_zero, List.set_cons_succ]
            refine wpAnyH_ready (rs := [20]) (by kernel_rfl) (by simp) ?_
            refine AllReadyH.cons (o := { dst := some 71, op := Op.call { callee := Callee.value (Operand.func 7), args := #[Operand.tmp 68, Operand.tmp 70], argTypes := #[26, 53] }, type := 26, pos := "law.go:61", after := #[{ on := 17, ground := Ground.data }, { on := 19, ground := Ground.data }, { on := 16, ground := Ground.chain }, { on := 9, ground := Ground.guard }], guard := some (9, true) }) rfl (fun K hK => ?_) AllReadyH.nil
            go_simp
            (go_at_call 7; (with_reducible refine (TY.out a1 n1 c1 m1 _ _ ?_ ?_).mono ?_); exact hH.2.now.2.2.2.2.2.2.2.2.2.2.1; (apply IntsAt.old1; (refine Below.step (by assumption) ?_; exact Below.refl _ _); (first | rfl | focus (simp; done)); exact hH.2.now.2.2.2.2.2.2.2.1); rintro e wy ⟨a7, n7, c7, m7, rfl, hi7, hbz⟩)
            refine hK.out _ _ ?_ (fun hH => ?_)
            · exact (have B9 := Bag.go hH.2 hbz; ⟨HC.out _ B9.now, B9⟩)
            clear hK K
            try simp only [Act.put, List.setIfInBounds_toArray, List.set_cons_zero, List.set_cons_succ]
            refine wpAnyH_ready (rs := [24]) (by kernel_rfl) (by simp) ?_
            refine AllReadyH.cons (o := { dst := some 75, op := Op.call { callee := Callee.value (Operand.func 7), args := #[Operand.tmp 72, Operand.tmp 74], argTypes := #[26, 53] }, type := 26, pos := "law.go:61", after := #[{ on := 21, ground := Ground.data }, { on := 23, ground := Ground.data }, { on := 20, ground := Ground.chain }, { on := 9, ground := Ground.guard }], guard := some (9, true) }) rfl (fun K hK => ?_) AllReadyH.nil
            go_simp
            (go_at_call 7; (with_reducible refine (TX.out a1 n1 c1 m1 _ _ ?_ ?_).mono ?_); exact hH.2.now.2.2.2.2.2.2.2.2.2.2.1; (apply IntsAt.old1; (refine Below.step (by assumption) ?_; refine Below.step (by assumption) ?_; refine Below.more ?_ _; refine Below.more ?_ _; refine Below.step (by assumption) ?_; exact Below.refl _ _); (first | rfl | focus (simp; done)); exact hH.2.now.2.2.2.2.1); rintro e wy ⟨a8, n8, c8, m8, rfl, hi8, hbz⟩)
            refine hK.out _ _ ?_ (fun hH => ?_)
            · exact (have B9 := Bag.go hH.2 hbz; ⟨HC.out _ B9.now, B9⟩)
            clear hK K
            try simp only [Act.put, List.setIfInBounds_toArray, List.set_cons_zero, List.set_cons_succ]
            refine Eq.mp (hG _ _ _ _) ?_
            exact captured (by kernel_rfl) (by kernel_rfl) (TAIL _ _ _ _ _ _ _ _ _ _ _ _ _ _ _ _ _ _ _ _ _ hH (IntAt.below hi6 (by refine Below.step (by assumption) ?_; refine Below.step (by assumption) ?_; exact Below.refl _ _)) (IntAt.below hi7 (by refine Below.step (by assumption) ?_; exact Below.refl _ _)) hi8)
          exact AllReadyH.nil
        refine AllReadyH.cons (o := { dst := some 70, op := Op.buildSlice 53 1 #[(0, Operand.tmp 69)], type := 53, pos := "law.go:61", after := #[{ on := 18, ground := Ground.data }, { on := 9, ground := Ground.guard }], guard := some (9, true) }) rfl (fun K hK => ?_) ?_
        · go_simp
          refine hK.out _ _ ?_ (fun hH => ?_)
          · exact (have B9 := Bag.alloc hH.2 _; ⟨HC.out _ B9.now, B9⟩)
          clear hK K
          try simp only [Act.put, List.setIfInBounds_toArray, List.set_cons_zero, List.set_cons_succ]
          refine wpAnyH_ready (rs := [15]) (by kernel_rfl) (by simp) ?_
          refine AllReadyH.cons (o := { dst := some 66, op := Op.buildSlice 53 1 #[(0, Operand.tmp 65)], type := 53, pos := "law.go:61", after := #[{ on := 14, ground := Ground.data }, { on := 9, ground := Ground.guard }], guard := some (9, true) }) rfl (fun K hK => ?_) AllReadyH.nil
          go_simp
          refine hK.out _ _ ?_ (fun hH => ?_)
          · exact (have B9 := Bag.alloc hH.2 _; ⟨HC.out _ B9.now, B9⟩)
          clear hK K
          try simp only [Act.put, List.setIfInBounds_toArray, List.set_cons_zero, List.set_cons_succ]
          refine wpAnyH_ready (rs := [16]) (by kernel_rfl) (by simp) ?_
          refine AllReadyH.cons (o := { dst := some 67, op := Op.call { callee := Callee.value (Operand.func 7), args := #[Operand.tmp 61, Operand.tmp 66], argTypes := #[26, 53] }, type := 26, pos := "law.go:61", after := #[{ on := 10, ground := Ground.data }, { on := 15, ground := Ground.data }, { on := 14, ground := Ground.chain }, { on := 9, ground := Ground.guard }], guard := some (9, true) }) rfl (fun K hK => ?_) AllReadyH.nil
          go_simp
          (go_at_call 7; (with_reducible refine (TB.out a1 n1 c1 m1 _ _ ?_ ?_).mono ?_); exact hH.2.now.2.2.2.2.2.2.2.2.2.2.1; (apply IntsAt.old1; (exact Below.refl _ _); (first | rfl | focus (simp; done)); exact (IntAt.below hi5 (by refine Below.more ?_ _; refine Below.more ?_ _; exact Below.refl _ _))); rintro e wy ⟨a6, n6, c6, m6, rfl, hi6, hbz⟩)
          refine hK.out _ _ ?_ (fun hH => ?_)
          · exact (have B9 := Bag.go hH.2 hbz; ⟨HC.out _ B9.now, B9⟩)
          clear hK K
          try simp only [Act.put, List.setIfInBounds_toArray, List.set_cons_zero, List.set_cons_succ]
          refine wpAnyH_ready (rs := [20]) (by kernel_rfl) (by simp) ?_
          refine AllReadyH.cons (o := { dst := some 71, op := Op.call { callee := Callee.value (Operand.func 7), args := #[Operand.tmp 68, Operand.tmp 70], argTypes := #[26, 53] }, type := 26, pos := "law.go:61", after := #[{ on := 17, ground := Ground.data }, { on := 19, ground := Ground.data }, { on := 16, ground := Ground.chain }, { on := 9, ground := Ground.guard }], guard := some (9, true) }) rfl (fun K hK => ?_) AllReadyH.nil
          go_simp
          (go_at_call 7; (with_reducible refine (TY.out a1 n1 c1 m1 _ _ ?_ ?_).mono ?_); exact hH.2.now.2.2.2.2.2.2.2.2.2.2.1; (apply IntsAt.old1; (refine Below.step (by assumption) ?_; refine Below.more ?_ _; exact Below.refl _ _); (first | rfl | focus (simp; done)); exact hH.2.now.2.2.2.2.2.2.2.1); rintro e wy ⟨a7, n7, c7, m7, rfl, hi7, hbz⟩)
          refine hK.out _ _ ?_ (fun hH => ?_)
          · exact (have B9 := Bag.go hH.2 hbz; ⟨HC.out _ B9.now, B9⟩)
          clear hK K
          try simp only [Act.put, List.setIfInBounds_toArray, List.set_cons_zero, List.set_cons_succ]
          refine wpAnyH_ready (rs := [24]) (by kernel_rfl) (by simp) ?_
          refine AllReadyH.cons (o := { dst := some 75, op := Op.call { callee := Callee.value (Operand.func 7), args := #[Operand.tmp 72, Operand.tmp 74], argTypes := #[26, 53] }, type := 26, pos := "law.go:61", after := #[{ on := 21, ground := Ground.data }, { on := 23, ground := Ground.data }, { on := 20, ground := Ground.chain }, { on := 9, ground := Ground.guard }], guard := some (9, true) }) rfl (fun K hK => ?_) AllReadyH.nil
          go_simp
          (go_at_call 7; (with_reducible refine (TX.out a1 n1 c1 m1 _ _ ?_ ?_).mono ?_); exact hH.2.now.2.2.2.2.2.2.2.2.2.2.1; (apply IntsAt.old1; (refine Below.step (by assumption) ?_; refine Below.step (by assumption) ?_; refine Below.more ?_ _; refine Below.more ?_ _; refine Below.step (by assumption) ?_; exact Below.refl _ _); (first | rfl | focus (simp; done)); exact hH.2.now.2.2.2.2.1); rintro e wy ⟨a8, n8, c8, m8, rfl, hi8, hbz⟩)
          refine hK.out _ _ ?_ (fun hH => ?_)
          · exact (have B9 := Bag.go hH.2 hbz; ⟨HC.out _ B9.now, B9⟩)
          clear hK K
          try simp only [Act.put, List.setIfInBounds_toArray, List.set_cons_zero, List.set_cons_succ]
          refine Eq.mp (hG _ _ _ _) ?_
          exact captured (by kernel_rfl) (by kernel_rfl) (TAIL _ _ _ _ _ _ _ _ _ _ _ _ _ _ _ _ _ _ _ _ _ hH (IntAt.below hi6 (by refine Below.step (by assumption) ?_; refine Below.step (by assumption) ?_; exact Below.refl _ _)) (IntAt.below hi7 (by refine Below.step (by assumption) ?_; exact Below.refl _ _)) hi8)
        exact AllReadyH.nil
      refine AllReadyH.cons (o := { dst := some 70, op := Op.buildSlice 53 1 #[(0, Operand.tmp 69)], type := 53, pos := "law.go:61", after := #[{ on := 18, ground := Ground.data }, { on := 9, ground := Ground.guard }], guard := some (9, true) }) rfl (fun K hK => ?_) ?_
      · go_simp
        refine hK.out _ _ ?_ (fun hH => ?_)
        · exact (have B9 := Bag.alloc hH.2 _; ⟨HC.out _ B9.now, B9⟩)
        clear hK K
        try simp only [Act.put, List.setIfInBounds_toArray, List.set_cons_zero, List.set_cons_succ]
        refine wpAnyH_ready (rs := [14]) (by kernel_rfl) (by simp) ?_
        refine AllReadyH.cons (o := { dst := some 65, op := Op.call { callee := Callee.value (Operand.func 11), args := #[Operand.tmp 62, Operand.tmp 64], argTypes := #[26, 53] }, type := 26, pos := "law.go:61", after := #[{ on := 11, ground := Ground.data }, { on := 13, ground := Ground.data }, { on := 9, ground := Ground.chain }, { on := 9, ground := Ground.guard }], guard := some (9, true) }) rfl (fun K hK => ?_) AllReadyH.nil
        go_simp
        (go_at_call 11; (with_reducible refine (PB.out a2 n2 c2 m2 _ _ ?_ ?_).mono ?_); exact hH.2.now.2.2.2.2.2.2.2.1; (apply IntsAt.old1; (refine Below.more ?_ _; refine Below.more ?_ _; exact Below.refl _ _); (first | rfl | focus (simp; done)); exact hH.2.now.2.2.2.2.1); rintro e wy ⟨a5, n5, c5, m5, rfl, hi5, hbz⟩)
        refine hK.out _ _ ?_ (fun hH => ?_)
        · exact (have B9 := Bag.go hH.2 hbz; ⟨HC.out _ B9.now, B9⟩)
        clear hK K
        try simp only [Act.put, List.setIfInBounds_toArray, List.set_cons_zero, List.set_cons_succ]
        refine wpAnyH_ready (rs := [15]) (by kernel_rfl) (by simp) ?_
        refine AllReadyH.cons (o := { dst := some 66, op := Op.buildSlice 53 1 #[(0, Operand.tmp 65)], type := 53, pos := "law.go:61", after := #[{ on := 14, ground := Ground.data }, { on := 9, ground := Ground.guard }], guard := some (9, true) }) rfl (fun K hK => ?_) AllReadyH.nil
        go_simp
        refine hK.out _ _ ?_ (fun hH => ?_)
        · exact (have B9 := Bag.alloc hH.2 _; ⟨HC.out _ B9.now, B9⟩)
        clear hK K
        try simp only [Act.put, List.setIfInBounds_toArray, List.set_cons_zero, List.set_cons_succ]
        refine wpAnyH_ready (rs := [16]) (by kernel_rfl) (by simp) ?_
        refine AllReadyH.cons (o := { dst := some 67, op := Op.call { callee := Callee.value (Operand.func 7), args := #[Operand.tmp 61, Operand.tmp 66], argTypes := #[26, 53] }, type := 26, pos := "law.go:61", after := #[{ on := 10, ground := Ground.data }, { on := 15, ground := Ground.data }, { on := 14, ground := Ground.chain }, { on := 9, ground := Ground.guard }], guard := some (9, true) }) rfl (fun K hK => ?_) AllReadyH.nil
        go_simp
        (go_at_call 7; (with_reducible refine (TB.out a1 n1 c1 m1 _ _ ?_ ?_).mono ?_); exact hH.2.now.2.2.2.2.2.2.2.2.2.2.1; (apply IntsAt.old1; (exact Below.refl _ _); (first | rfl | focus (simp; done)); exact (IntAt.below hi5 (by refine Below.more ?_ _; exact Below.refl _ _))); rintro e wy ⟨a6, n6, c6, m6, rfl, hi6, hbz⟩)
        refine hK.out _ _ ?_ (fun hH => ?_)
        · exact (have B9 := Bag.go hH.2 hbz; ⟨HC.out _ B9.now, B9⟩)
        clear hK K
        try simp only [Act.put, List.setIfInBounds_toArray, List.set_cons_zero, List.set_cons_succ]
        refine wpAnyH_ready (rs := [20]) (by kernel_rfl) (by simp) ?_
        refine AllReadyH.cons (o := { dst := some 71, op := Op.call { callee := Callee.value (Operand.func 7), args := #[Operand.tmp 68, Operand.tmp 70], argTypes := #[26, 53] }, type := 26, pos := "law.go:61", after := #[{ on := 17, ground := Ground.data }, { on := 19, ground := Ground.data }, { on := 16, ground := Ground.chain }, { on := 9, ground := Ground.guard }], guard := some (9, true) }) rfl (fun K hK => ?_) AllReadyH.nil
        go_simp
        (go_at_call 7; (with_reducible refine (TY.out a1 n1 c1 m1 _ _ ?_ ?_).mono ?_); exact hH.2.now.2.2.2.2.2.2.2.2.2.2.1; (apply IntsAt.old1; (refine Below.step (by assumption) ?_; refine Below.more ?_ _; refine Below.step (by assumption) ?_; exact Below.refl _ _); (first | rfl | focus (simp; done)); exact hH.2.now.2.2.2.2.2.2.2.1); rintro e wy ⟨a7, n7, c7, m7, rfl, hi7, hbz⟩)
        refine hK.out _ _ ?_ (fun hH => ?_)
        · exact (have B9 := Bag.go hH.2 hbz; ⟨HC.out _ B9.now, B9⟩)
        clear hK K
        try simp only [Act.put, List.setIfInBounds_toArray, List.set_cons_zero, List.set_cons_succ]
        refine wpAnyH_ready (rs := [24]) (by kernel_rfl) (by simp) ?_
        refine AllReadyH.cons (o := { dst := some 75, op := Op.call { callee := Callee.value (Operand.func 7), args := #[Operand.tmp 72, Operand.tmp 74], argTypes := #[26, 53] }, type := 26, pos := "law.go:61", after := #[{ on := 21, ground := Ground.data }, { on := 23, ground := Ground.data }, { on := 20, ground := Ground.chain }, { on := 9, ground := Ground.guard }], guard := some (9, true) }) rfl (fun K hK => ?_) AllReadyH.nil
        go_simp
        (go_at_call 7; (with_reducible refine (TX.out a1 n1 c1 m1 _ _ ?_ ?_).mono ?_); exact hH.2.now.2.2.2.2.2.2.2.2.2.2.1; (apply IntsAt.old1; (refine Below.step (by assumption) ?_; refine Below.step (by assumption) ?_; refine Below.more ?_ _; refine Below.step (by assumption) ?_; refine Below.more ?_ _; exact Below.refl _ _); (first | rfl | focus (simp; done)); exact hH.2.now.2.2.2.2.1); rintro e wy ⟨a8, n8, c8, m8, rfl, hi8, hbz⟩)
        refine hK.out _ _ ?_ (fun hH => ?_)
        · exact (have B9 := Bag.go hH.2 hbz; ⟨HC.out _ B9.now, B9⟩)
        clear hK K
        try simp only [Act.put, List.setIfInBounds_toArray, List.set_cons_zero, List.set_cons_succ]
        refine Eq.mp (hG _ _ _ _) ?_
        exact captured (by kernel_rfl) (by kernel_rfl) (TAIL _ _ _ _ _ _ _ _ _ _ _ _ _ _ _ _ _ _ _ _ _ hH (IntAt.below hi6 (by refine Below.step (by assumption) ?_; refine Below.step (by assumption) ?_; exact Below.refl _ _)) (IntAt.below hi7 (by refine Below.step (by assumption) ?_; exact Below.refl _ _)) hi8)
      exact AllReadyH.nil
    exact AllReadyH.nil
  refine AllReadyH.cons (o := { dst := some 70, op := Op.buildSlice 53 1 #[(0, Operand.tmp 69)], type := 53, pos := "law.go:61", after := #[{ on := 18, ground := Ground.data }, { on := 9, ground := Ground.guard }], guard := some (9, true) }) rfl (fun K hK => ?_) ?_
  · go_simp
    refine hK.out _ _ ?_ (fun hH => ?_)
    · exact (have B9 := Bag.alloc hH.2 _; ⟨HC.out _ B9.now, B9⟩)
    clear hK K
    try simp only [Act.put, List.setIfInBounds_toArray, List.set_cons_zero, List.set_cons_succ]
    refine wpAnyH_ready (rs := [13, 23]) (by kernel_rfl) (by simp) ?_
    refine AllReadyH.cons (o := { dst := some 64, op := Op.buildSlice 53 1 #[(0, Operand.tmp 63)], type := 53, pos := "law.go:61", after := #[{ on := 12, ground := Ground.data }, { on := 9, ground := Ground.guard }], guard := some (9, true) }) rfl (fun K hK => ?_) ?_
    · go_simp
      refine hK.out _ _ ?_ (fun hH => ?_)
      · exact (have B9 := Bag.alloc hH.2 _; ⟨HC.out _ B9.now, B9⟩)
      clear hK K
      try simp only [Act.put, List.setIfInBounds_toArray, List.set_cons_zero, List.set_cons_succ]
      refine wpAnyH_ready (rs := [14, 23]) (by kernel_rfl) (by simp) ?_
      refine AllReadyH.cons (o := { dst := some 65, op := Op.call { callee := Callee.value (Operand.func 11), args := #[Operand.tmp 62, Operand.tmp 64], argTypes := #[26, 53] }, type := 26, pos := "law.go:61", after := #[{ on := 11, ground := Ground.data }, { on := 13, ground := Ground.data }, { on := 9, ground := Ground.chain }, { on := 9, ground := Ground.guard }], guard := some (9, true) }) rfl (fun K hK => ?_) ?_
      · go_simp
        (go_at_call 11; (with_reducible refine (PB.out a2 n2 c2 m2 _ _ ?_ ?_).mono ?_); exact hH.2.now.2.2.2.2.2.2.2.1; (apply IntsAt.old1; (exact Below.refl _ _); (first | rfl | focus (simp; done)); exact hH.2.now.2.2.2.2.1); rintro e wy ⟨a5, n5, c5, m5, rfl, hi5, hbz⟩)
        refine hK.out _ _ ?_ (fun hH => ?_)
        · exact (have B9 := Bag.go hH.2 hbz; ⟨HC.out _ B9.now, B9⟩)
        clear hK K
        try simp only [Act.put, List.setIfInBounds_toArray, List.set_cons_zero, List.set_cons_succ]
        refine wpAnyH_ready (rs := [15, 23]) (by kernel_rfl) (by simp) ?_
        refine AllReadyH.cons (o := { dst := some 66, op := Op.buildSlice 53 1 #[(0, Operand.tmp 65)], type := 53, pos := "law.go:61", after := #[{ on := 14, ground := Ground.data }, { on := 9, ground := Ground.guard }], guard := some (9, true) }) rfl (fun K hK => ?_) ?_
        · go_simp
          refine hK.out _ _ ?_ (fun hH => ?_)
          · exact (have B9 := Bag.alloc hH.2 _; ⟨HC.out _ B9.now, B9⟩)
          clear hK K
          try simp only [Act.put, List.setIfInBounds_toArray, List.set_cons_zero, List.set_cons_succ]
          refine wpAnyH_ready (rs := [16, 23]) (by kernel_rfl) (by simp) ?_
          refine AllReadyH.cons (o := { dst := some 67, op := Op.call { callee := Callee.value (Operand.func 7), args := #[Operand.tmp 61, Operand.tmp 66], argTypes := #[26, 53] }, type := 26, pos := "law.go:61", after := #[{ on := 10, ground := Ground.data }, { on := 15, ground := Ground.data }, { on := 14, ground := Ground.chain }, { on := 9, ground := Ground.guard }], guard := some (9, true) }) rfl (fun K hK => ?_) ?_
          · go_simp
            (go_at_call 7; (with_reducible refine (TB.out a1 n1 c1 m1 _ _ ?_ ?_).mono ?_); exact hH.2.now.2.2.2.2.2.2.2.2.2.2.1; (apply IntsAt.old1; (exact Below.refl _ _); (first | rfl | focus (simp; done)); exact (IntAt.below hi5 (by refine Below.more ?_ _; exact Below.refl _ _))); rintro e wy ⟨a6, n6, c6, m6, rfl, hi6, hbz⟩)
            refine hK.out _ _ ?_ (fun hH => ?_)
            · exact (have B9 := Bag.go hH.2 hbz; ⟨HC.out _ B9.now, B9⟩)
            clear hK K
            try simp only [Act.put, List.setIfInBounds_toArray, List.set_cons_zero, List.set_cons_succ]
            refine wpAnyH_ready (rs := [20, 23]) (by kernel_rfl) (by simp) ?_
            refine AllReadyH.cons (o := { dst := some 71, op := Op.call { callee := Callee.value (Operand.func 7), args := #[Operand.tmp 68, Operand.tmp 70], argTypes := #[26, 53] }, type := 26, pos := "law.go:61", after := #[{ on := 17, ground := Ground.data }, { on := 19, ground := Ground.data }, { on := 16, ground := Ground.chain }, { on := 9, ground := Ground.guard }], guard := some (9, true) }) rfl (fun K hK => ?_) ?_
            · go_simp
              (go_at_call 7; (with_reducible refine (TY.out a1 n1 c1 m1 _ _ ?_ ?_).mono ?_); exact hH.2.now.2.2.2.2.2.2.2.2.2.2.1; (apply IntsAt.old1; (refine Below.step (by assumption) ?_; refine Below.more ?_ _; refine Below.step (by assumption) ?_; refine Below.more ?_ _; exact Below.refl _ _); (first | rfl | focus (simp; done)); exact hH.2.now.2.2.2.2.2.2.2.1); rintro e wy ⟨a7, n7, c7, m7, rfl, hi7, hbz⟩)
              refine hK.out _ _ ?_ (fun hH => ?_)
              · exact (have B9 := Bag.go hH.2 hbz; ⟨HC.out _ B9.now, B9⟩)
              clear hK K
              try simp only [Act.put, List.setIfInBounds_toArray, List.set_cons_zero, List.set_cons_succ]
              refine wpAnyH_ready (rs := [23]) (by kernel_rfl) (by simp) ?_
              refine AllReadyH.cons (o := { dst := some 74, op := Op.buildSlice 53 1 #[(0, Operand.tmp 73)], type := 53, pos := "law.go:61", after := #[{ on := 22, ground := Ground.data }, { on := 9, ground := Ground.guard }], guard := some (9, true) }) rfl (fun K hK => ?_) AllReadyH.nil
              go_simp
              refine hK.out _ _ ?_ (fun hH => ?_)
              · exact (have B9 := Bag.alloc hH.2 _; ⟨HC.out _ B9.now, B9⟩)
              clear hK K
              try simp only [Act.put, List.setIfInBounds_toArray, List.set_cons_zero, List.set_cons_succ]
              refine wpAnyH_ready (rs := [24]) (by kernel_rfl) (by simp) ?_
              refine AllReadyH.cons (o := { dst := some 75, op := Op.call { callee := Callee.value (Operand.func 7), args := #[Operand.tmp 72, Operand.tmp 74], argTypes := #[26, 53] }, type := 26, pos := "law.go:61", after := #[{ on := 21, ground := Ground.data }, { on := 23, ground := Ground.data }, { on := 20, ground := Ground.chain }, { on := 9, ground := Ground.guard }], guard := some (9, true) }) rfl (fun K hK => ?_) AllReadyH.nil
              go_simp
              (go_at_call 7; (with_reducible refine (TX.out a1 n1 c1 m1 _ _ ?_ ?_).mono ?_); exact hH.2.now.2.2.2.2.2.2.2.2.2.2.1; (apply IntsAt.old1; (exact Below.refl _ _); (first | rfl | focus (simp; done)); exact hH.2.now.2.2.2.2.1); rintro e wy ⟨a8, n8, c8, m8, rfl, hi8, hbz⟩)
              refine hK.out _ _ ?_ (fun hH => ?_)
              · exact (have B9 := Bag.go hH.2 hbz; ⟨HC.out _ B9.now, B9⟩)
              clear hK K
              try simp only [Act.put, List.setIfInBounds_toArray, List.set_cons_zero, List.set_cons_succ]
              refine Eq.mp (hG _ _ _ _) ?_
              exact captured (by kernel_rfl) (by kernel_rfl) (TAIL _ _ _ _ _ _ _ _ _ _ _ _ _ _ _ _ _ _ _ _ _ hH (IntAt.below hi6 (by refine Below.step (by assumption) ?_; refine Below.more ?_ _; refine Below.step (by assumption) ?_; exact Below.refl _ _)) (IntAt.below hi7 (by refine Below.step (by assumption) ?_; refine Below.more ?_ _; exact Below.refl _ _)) hi8)
            refine AllReadyH.cons (o := { dst := some 74, op := Op.buildSlice 53 1 #[(0, Operand.tmp 73)], type := 53, pos := "law.go:61", after := #[{ on := 22, ground := Ground.data }, { on := 9, ground := Ground.guard }], guard := some (9, true) }) rfl (fun K hK => ?_) ?_
            · go_simp
              refine hK.out _ _ ?_ (fun hH => ?_)
              · exact (have B9 := Bag.alloc hH.2 _; ⟨HC.out _ B9.now, B9⟩)
              clear hK K
              try simp only [Act.put, List.setIfInBounds_toArray, List.set_cons_zero, List.set_cons_succ]
              refine wpAnyH_ready (rs := [20]) (by kernel_rfl) (by simp) ?_
              refine AllReadyH.cons (o := { dst := some 71, op := Op.call { callee := Callee.value (Operand.func 7), args := #[Operand.tmp 68, Operand.tmp 70], argTypes := #[26, 53] }, type := 26, pos := "law.go:61", after := #[{ on := 17, ground := Ground.data }, { on := 19, ground := Ground.data }, { on := 16, ground := Ground.chain }, { on := 9, ground := Ground.guard }], guard := some (9, true) }) rfl (fun K hK => ?_) AllReadyH.nil
              go_simp
              (go_at_call 7; (with_reducible refine (TY.out a1 n1 c1 m1 _ _ ?_ ?_).mono ?_); exact hH.2.now.2.2.2.2.2.2.2.2.2.2.1; (apply IntsAt.old1; (refine Below.more ?_ _; refine Below.step (by assumption) ?_; refine Below.more ?_ _; refine Below.step (by assumption) ?_; refine Below.more ?_ _; exact Below.refl _ _); (first | rfl | focus (simp; done)); exact hH.2.now.2.2.2.2.2.2.2.1); rintro e wy ⟨a7, n7, c7, m7, rfl, hi7, hbz⟩)
              refine hK.out _ _ ?_ (fun hH => ?_)
              · exact (have B9 := Bag.go hH.2 hbz; ⟨HC.out _ B9.now, B9⟩)
              clear hK K
              try simp only [Act.put, List.setIfInBounds_toArray, List.set_cons_zero, List.set_cons_succ]
              refine wpAnyH_ready (rs := [24]) (by kernel_rfl) (by simp) ?_
              refine AllReadyH.cons (o := { dst := some 75, op := Op.call { callee := Callee.value (Operand.func 7), args := #[Operand.tmp 72, Operand.tmp 74], argTypes := #[26, 53] }, type := 26, pos := "law.go:61", after := #[{ on := 21, ground := Ground.data }, { on := 23, ground := Ground.data }, { on := 20, ground := Ground.chain }, { on := 9, ground := Ground.guard }], guard := some (9, true) }) rfl (fun K hK => ?_) AllReadyH.nil
              go_simp
              (go_at_call 7; (with_reducible refine (TX.out a1 n1 c1 m1 _ _ ?_ ?_).mono ?_); exact hH.2.now.2.2.2.2.2.2.2.2.2.2.1; (apply IntsAt.old1; (refine Below.step (by assumption) ?_; exact Below.refl _ _); (first | rfl | focus (simp; done)); exact hH.2.now.2.2.2.2.1); rintro e wy ⟨a8, n8, c8, m8, rfl, hi8, hbz⟩)
              refine hK.out _ _ ?_ (fun hH => ?_)
              · exact (have B9 := Bag.go hH.2 hbz; ⟨HC.out _ B9.now, B9⟩)
              clear hK K
              try simp only [Act.put, List.setIfInBounds_toArray, List.set_cons_zero, List.set_cons_succ]
              refine Eq.mp (hG _ _ _ _) ?_
              exact captured (by kernel_rfl) (by kernel_rfl) (TAIL _ _ _ _ _ _ _ _ _ _ _ _ _ _ _ _ _ _ _ _ _ hH (IntAt.below hi6 (by refine Below.step (by assumption) ?_; refine Below.step (by assumption) ?_; refine Below.more ?_ _; exact Below.refl _ _)) (IntAt.below hi7 (by refine Below.step (by assumption) ?_; exact Below.refl _ _)) hi8)
            exact AllReadyH.nil
          refine AllReadyH.cons (o := { dst := some 74, op := Op.buildSlice 53 1 #[(0, Operand.tmp 73)], type := 53, pos := "law.go:61", after := #[{ on := 22, ground := Ground.data }, { on := 9, ground := Ground.guard }], guard := some (9, true) }) rfl (fun K hK => ?_) ?_
          · go_simp
            refine hK.out _ _ ?_ (fun hH => ?_)
            · exact (have B9 := Bag.alloc hH.2 _; ⟨HC.out _ B9.now, B9⟩)
            clear hK K
            try simp only [Act.put, List.setIfInBounds_toArray, List.set_cons_zero, List.set_cons_succ]
            refine wpAnyH_ready (rs := [16]) (by kernel_rfl) (by simp) ?_
            refine AllReadyH.cons (o := { dst := some 67, op := Op.call { callee := Callee.value (Operand.func 7), args := #[Operand.tmp 61, Operand.tmp 66], argTypes := #[26, 53] }, type := 26, pos := "law.go:61", after := #[{ on := 10, ground := Ground.data }, { on := 15, ground := Ground.data }, { on := 14, ground := Ground.chain }, { on := 9, ground := Ground.guard }], guard := some (9, true) }) rfl (fun K hK => ?_) AllReadyH.nil
            go_simp
            (go_at_call 7; (with_reducible refine (TB.out a1 n1 c1 m1 _ _ ?_ ?_).mono ?_); exact hH.2.now.2.2.2.2.2.2.2.2.2.2.1; (apply IntsAt.old1; (refine Below.more ?_ _; exact Below.refl _ _); (first | rfl | focus (simp; done)); exact (IntAt.below hi5 (by refine Below.more ?_ _; refine Below.more ?_ _; exact Below.refl _ _))); rintro e wy ⟨a6, n6, c6, m6, rfl, hi6, hbz⟩)
            refine hK.out _ _ ?_ (fun hH => ?_)
            · exact (have B9 := Bag.go hH.2 hbz; ⟨HC.out _ B9.now, B9⟩)
            clear hK K
            try simp only [Act.put, List.setIfInBounds_toArray, List.set_cons_zero, List.set_cons_succ]
            refine wpAnyH_ready (rs := [20]) (by kernel_rfl) (by simp) ?_
            refine AllReadyH.cons (o := { dst := some 71, op := Op.call { callee := Callee.value (Operand.func 7), args := #[Operand.tmp 68, Operand.tmp 70], argTypes := #[26, 53] }, type := 26, pos := "law.go:61", after := #[{ on := 17, ground := Ground.data }, { on := 19, ground := Ground.data }, { on := 16, ground := Ground.chain }, { on := 9, ground := Ground.guard }], guard := some (9, true) }) rfl (fun K hK => ?_) AllReadyH.nil
            go_simp
            (go_at_call 7; (with_reducible refine (TY.out a1 n1 c1 m1 _ _ ?_ ?_).mono ?_); exact hH.2.now.2.2.2.2.2.2.2.2.2.2.1; (apply IntsAt.old1; (refine Below.step (by assumption) ?_; refine Below.more ?_ _; refine Below.more ?_ _; refine Below.step (by assumption) ?_; refine Below.more ?_ _; exact Below.refl _ _); (first | rfl | focus (simp; done)); exact hH.2.now.2.2.2.2.2.2.2.1); rintro e wy ⟨a7, n7, c7, m7, rfl, hi7, hbz⟩)
            refine hK.out _ _ ?_ (fun hH => ?_)
            · exact (have B9 := Bag.go hH.2 hbz; ⟨HC.out _ B9.now, B9⟩)
            clear hK K
            try simp only [Act.put, List.setIfInBounds_toArray, List.set_cons_zero, List.set_cons_succ]
            refine wpAnyH_ready (rs := [24]) (by kernel_rfl) (by simp) ?_
            refine AllReadyH.cons (o := { dst := some 75, op := Op.call { callee := Callee.value (Operand.func 7), args := #[Operand.tmp 72, Operand.tmp 74], argTypes := #[26, 53] }, type := 26, pos := "law.go:61", after := #[{ on := 21, ground := Ground.data }, { on := 23, ground := Ground.data }, { on := 20, ground := Ground.chain }, { on := 9, ground := Ground.guard }], guard := some (9, true) }) rfl (fun K hK => ?_) AllReadyH.nil
            go_simp
            (go_at_call 7; (with_reducible refine (TX.out a1 n1 c1 m1 _ _ ?_ ?_).mono ?_); exact hH.2.now.2.2.2.2.2.2.2.2.2.2.1; (apply IntsAt.old1; (refine Below.step (by assumption) ?_; refine Below.step (by assumption) ?_; exact Below.refl _ _); (first | rfl | focus (simp; done)); exact hH.2.now.2.2.2.2.1); rintro e wy ⟨a8, n8, c8, m8, rfl, hi8, hbz⟩)
            refine hK.out _ _ ?_ (fun hH => ?_)
            · exact (have B9 := Bag.go hH.2 hbz; ⟨HC.out _ B9.now, B9⟩)
            clear hK K
            try simp only [Act.put, List.setIfInBounds_toArray, List.set_cons_zero, List.set_cons_succ]
            refine Eq.mp (hG _ _ _ _) ?_
            exact captured (by kernel_rfl) (by kernel_rfl) (TAIL _ _ _ _ _ _ _ _ _ _ _ _ _ _ _ _ _ _ _ _ _ hH (IntAt.below hi6 (by refine Below.step (by assumption) ?_; refine Below.step (by assumption) ?_; exact Below.refl _ _)) (IntAt.below hi7 (by refine Below.step (by assumption) ?_; exact Below.refl _ _)) hi8)
          exact AllReadyH.nil
        refine AllReadyH.cons (o := { dst := some 74, op := Op.buildSlice 53 1 #[(0, Operand.tmp 73)], type := 53, pos := "law.go:61", after := #[{ on := 22, ground := Ground.data }, { on := 9, ground := Ground.guard }], guard := some (9, true) }) rfl (fun K hK => ?_) ?_
        · go_simp
          refine hK.out _ _ ?_ (fun hH => ?_)
          · exact (have B9 := Bag.alloc hH.2 _; ⟨HC.out _ B9.now, B9⟩)
          clear hK K
          try simp only [Act.put, List.setIfInBounds_toArray, List.set_cons_zero, List.set_cons_succ]
          refine wpAnyH_ready (rs := [15]) (by kernel_rfl) (by simp) ?_
          refine AllReadyH.cons (o := { dst := some 66, op := Op.buildSlice 53 1 #[(0, Operand.tmp 65)], type := 53, pos := "law.go:61", after := #[{ on := 14, ground := Ground.data }, { on := 9, ground := Ground.guard }], guard := some (9, true) }) rfl (fun K hK => ?_) AllReadyH.nil
          go_simp
          refine hK.out _ _ ?_ (fun hH => ?_)
          · exact (have B9 := Bag.alloc hH.2 _; ⟨HC.out _ B9.now, B9⟩)
          clear hK K
          try simp only [Act.put, List.setIfInBounds_toArray, List.set_cons_zero, List.set_cons_succ]
          refine wpAnyH_ready (rs := [16]) (by kernel_rfl) (by simp) ?_
          refine AllReadyH.cons (o := { dst := some 67, op := Op.call { callee := Callee.value (Operand.func 7), args := #[Operand.tmp 61, Operand.tmp 66], argTypes := #[26, 53] }, type := 26, pos := "law.go:61", after := #[{ on := 10, ground := Ground.data }, { on := 15, ground := Ground.data }, { on := 14, ground := Ground.chain }, { on := 9, ground := Ground.guard }], guard := some (9, true) }) rfl (fun K hK => ?_) AllReadyH.nil
          go_simp
          (go_at_call 7; (with_reducible refine (TB.out a1 n1 c1 m1 _ _ ?_ ?_).mono ?_); exact hH.2.now.2.2.2.2.2.2.2.2.2.2.1; (apply IntsAt.old1; (exact Below.refl _ _); (first | rfl | focus (simp; done)); exact (IntAt.below hi5 (by refine Below.more ?_ _; refine Below.more ?_ _; exact Below.refl _ _))); rintro e wy ⟨a6, n6, c6, m6, rfl, hi6, hbz⟩)
          refine hK.out _ _ ?_ (fun hH => ?_)
          · exact (have B9 := Bag.go hH.2 hbz; ⟨HC.out _ B9.now, B9⟩)
          clear hK K
          try simp only [Act.put, List.setIfInBounds_toArray, List.set_cons_zero, List.set_cons_succ]
          refine wpAnyH_ready (rs := [20]) (by kernel_rfl) (by simp) ?_
          refine AllReadyH.cons (o := { dst := some 71, op := Op.call { callee := Callee.value (Operand.func 7), args := #[Operand.tmp 68, Operand.tmp 70], argTypes := #[26, 53] }, type := 26, pos := "law.go:61", after := #[{ on := 17, ground := Ground.data }, { on := 19, ground := Ground.data }, { on := 16, ground := Ground.chain }, { on := 9, ground := Ground.guard }], guard := some (9, true) }) rfl (fun K hK => ?_) AllReadyH.nil
          go_simp
          (go_at_call 7; (with_reducible refine (TY.out a1 n1 c1 m1 _ _ ?_ ?_).mono ?_); exact hH.2.now.2.2.2.2.2.2.2.2.2.2.1; (apply IntsAt.old1; (refine Below.step (by assumption) ?_; refine Below.more ?_ _; refine Below.more ?_ _; refine Below.step (by assumption) ?_; refine Below.more ?_ _; exact Below.refl _ _); (first | rfl | focus (simp; done)); exact hH.2.now.2.2.2.2.2.2.2.1); rintro e wy ⟨a7, n7, c7, m7, rfl, hi7, hbz⟩)
          refine hK.out _ _ ?_ (fun hH => ?_)
          · exact (have B9 := Bag.go hH.2 hbz; ⟨HC.out _ B9.now, B9⟩)
          clear hK K
          try simp only [Act.put, List.setIfInBounds_toArray, List.set_cons_zero, List.set_cons_succ]
          refine wpAnyH_ready (rs := [24]) (by kernel_rfl) (by simp) ?_
          refine AllReadyH.cons (o := { dst := some 75, op := Op.call { callee := Callee.value (Operand.func 7), args := #[Operand.tmp 72, Operand.tmp 74], argTypes := #[26, 53] }, type := 26, pos := "law.go:61", after := #[{ on := 21, ground := Ground.data }, { on := 23, ground := Ground.data }, { on := 20, ground := Ground.chain }, { on := 9, ground := Ground.guard }], guard := some (9, true) }) rfl (fun K hK => ?_) AllReadyH.nil
          go_simp
          (go_at_call 7; (with_reducible refine (TX.out a1 n1 c1 m1 _ _ ?_ ?_).mono ?_); exact hH.2.now.2.2.2.2.2.2.2.2.2.2.1; (apply IntsAt.old1; (refine Below.step (by assumption) ?_; refine Below.step (by assumption) ?_; refine Below.more ?_ _; exact Below.refl _ _); (first | rfl | focus (simp; done)); exact hH.2.now.2.2.2.2.1); rintro e wy ⟨a8, n8, c8, m8, rfl, hi8, hbz⟩)
          refine hK.out _ _ ?_ (fun hH => ?_)
          · exact (have B9 := Bag.go hH.2 hbz; ⟨HC.out _ B9.now, B9⟩)
          clear hK K
          try simp only [Act.put, List.setIfInBounds_toArray, List.set_cons_zero, List.set_cons_succ]
          refine Eq.mp (hG _ _ _ _) ?_
          exact captured (by kernel_rfl) (by kernel_rfl) (TAIL _ _ _ _ _ _ _ _ _ _ _ _ _ _ _ _ _ _ _ _ _ hH (IntAt.below hi6 (by refine Below.step (by assumption) ?_; refine Below.step (by assumption) ?_; exact Below.refl _ _)) (IntAt.below hi7 (by refine Below.step (by assumption) ?_; exact Below.refl _ _)) hi8)
        exact AllReadyH.nil
      refine AllReadyH.cons (o := { dst := some 74, op := Op.buildSlice 53 1 #[(0, Operand.tmp 73)], type := 53, pos := "law.go:61", after := #[{ on := 22, ground := Ground.data }, { on := 9, ground := Ground.guard }], guard := some (9, true) }) rfl (fun K hK => ?_) ?_
      · go_simp
        refine hK.out _ _ ?_ (fun hH => ?_)
        · exact (have B9 := Bag.alloc hH.2 _; ⟨HC.out _ B9.now, B9⟩)
        clear hK K
        try simp only [Act.put, List.setIfInBounds_toArray, List.set_cons_zero, List.set_cons_succ]
        refine wpAnyH_ready (rs := [14]) (by kernel_rfl) (by simp) ?_
        refine AllReadyH.cons (o := { dst := some 65, op := Op.call { callee := Callee.value (Operand.func 11), args := #[Operand.tmp 62, Operand.tmp 64], argTypes := #[26, 53] }, type := 26, pos := "law.go:61", after := #[{ on := 11, ground := Ground.data }, { on := 13, ground := Ground.data }, { on := 9, ground := Ground.chain }, { on := 9, ground := Ground.guard }], guard := some (9, true) }) rfl (fun K hK => ?_) AllReadyH.nil
        go_simp
        (go_at_call 11; (with_reducible refine (PB.out a2 n2 c2 m2 _ _ ?_ ?_).mono ?_); exact hH.2.now.2.2.2.2.2.2.2.1; (apply IntsAt.old1; (refine Below.more ?_ _; exact Below.refl _ _); (first | rfl | focus (simp; done)); exact hH.2.now.2.2.2.2.1); rintro e wy ⟨a5, n5, c5, m5, rfl, hi5, hbz⟩)
        refine hK.out _ _ ?_ (fun hH => ?_)
        · exact (have B9 := Bag.go hH.2 hbz; ⟨HC.out _ B9.now, B9⟩)
        clear hK K
        try simp only [Act.put, List.setIfInBounds_toArray, List.set_cons_zero, List.set_cons_succ]
        refine wpAnyH_ready (rs := [15]) (by kernel_rfl) (by simp) ?_
        refine AllReadyH.cons (o := { dst := some 66, op := Op.buildSlice 53 1 #[(0, Operand.tmp 65)], type := 53, pos := "law.go:61", after := #[{ on := 14, ground := Ground.data }, { on := 9, ground := Ground.guard }], guard := some (9, true) }) rfl (fun K hK => ?_) AllReadyH.nil
        go_simp
        refine hK.out _ _ ?_ (fun hH => ?_)
        · exact (have B9 := Bag.alloc hH.2 _; ⟨HC.out _ B9.now, B9⟩)
        clear hK K
        try simp only [Act.put, List.setIfInBounds_toArray, List.set_cons_zero, List.set_cons_succ]
        refine wpAnyH_ready (rs := [16]) (by kernel_rfl) (by simp) ?_
        refine AllReadyH.cons (o := { dst := some 67, op := Op.call { callee := Callee.value (Operand.func 7), args := #[Operand.tmp 61, Operand.tmp 66], argTypes := #[26, 53] }, type := 26, pos := "law.go:61", after := #[{ on := 10, ground := Ground.data }, { on := 15, ground := Ground.data }, { on := 14, ground := Ground.chain }, { on := 9, ground := Ground.guard }], guard := some (9, true) }) rfl (fun K hK => ?_) AllReadyH.nil
        go_simp
        (go_at_call 7; (with_reducible refine (TB.out a1 n1 c1 m1 _ _ ?_ ?_).mono ?_); exact hH.2.now.2.2.2.2.2.2.2.2.2.2.1; (apply IntsAt.old1; (exact Below.refl _ _); (first | rfl | focus (simp; done)); exact (IntAt.below hi5 (by refine Below.more ?_ _; exact Below.refl _ _))); rintro e wy ⟨a6, n6, c6, m6, rfl, hi6, hbz⟩)
        refine hK.out _ _ ?_ (fun hH => ?_)
        · exact (have B9 := Bag.go hH.2 hbz; ⟨HC.out _ B9.now, B9⟩)
        clear hK K
        try simp only [Act.put, List.setIfInBounds_toArray, List.set_cons_zero, List.set_cons_succ]
        refine wpAnyH_ready (rs := [20]) (by kernel_rfl) (by simp) ?_
        refine AllReadyH.cons (o := { dst := some 71, op := Op.call { callee := Callee.value (Operand.func 7), args := #[Operand.tmp 68, Operand.tmp 70], argTypes := #[26, 53] }, type := 26, pos := "law.go:61", after := #[{ on := 17, ground := Ground.data }, { on := 19, ground := Ground.data }, { on := 16, ground := Ground.chain }, { on := 9, ground := Ground.guard }], guard := some (9, true) }) rfl (fun K hK => ?_) AllReadyH.nil
        go_simp
        (go_at_call 7; (with_reducible refine (TY.out a1 n1 c1 m1 _ _ ?_ ?_).mono ?_); exact hH.2.now.2.2.2.2.2.2.2.2.2.2.1; (apply IntsAt.old1; (refine Below.step (by assumption) ?_; refine Below.more ?_ _; refine Below.step (by assumption) ?_; refine Below.more ?_ _; refine Below.more ?_ _; exact Below.refl _ _); (first | rfl | focus (simp; done)); exact hH.2.now.2.2.2.2.2.2.2.1); rintro e wy ⟨a7, n7, c7, m7, rfl, hi7, hbz⟩)
        refine hK.out _ _ ?_ (fun hH => ?_)
        · exact (have B9 := Bag.go hH.2 hbz; ⟨HC.out _ B9.now, B9⟩)
        clear hK K
        try simp only [Act.put, List.setIfInBounds_toArray, List.set_cons_zero, List.set_cons_succ]
        refine wpAnyH_ready (rs := [24]) (by kernel_rfl) (by simp) ?_
        refine AllReadyH.cons (o := { dst := some 75, op := Op.call { callee := Callee.value (Operand.func 7), args := #[Operand.tmp 72, Operand.tmp 74], argTypes := #[26, 53] }, type := 26, pos := "law.go:61", after := #[{ on := 21, ground := Ground.data }, { on := 23, ground := Ground.data }, { on := 20, ground := Ground.chain }, { on := 9, ground := Ground.guard }], guard := some (9, true) }) rfl (fun K hK => ?_) AllReadyH.nil
        go_simp
        (go_at_call 7; (with_reducible refine (TX.out a1 n1 c1 m1 _ _ ?_ ?_).mono ?_); exact hH.2.now.2.2.2.2.2.2.2.2.2.2.1; (apply IntsAt.old1; (refine Below.step (by assumption) ?_; refine Below.step (by assumption) ?_; refine Below.more ?_ _; refine Below.step (by assumption) ?_; exact Below.refl _ _); (first | rfl | focus (simp; done)); exact hH.2.now.2.2.2.2.1); rintro e wy ⟨a8, n8, c8, m8, rfl, hi8, hbz⟩)
        refine hK.out _ _ ?_ (fun hH => ?_)
        · exact (have B9 := Bag.go hH.2 hbz; ⟨HC.out _ B9.now, B9⟩)
        clear hK K
        try simp only [Act.put, List.setIfInBounds_toArray, List.set_cons_zero, List.set_cons_succ]
        refine Eq.mp (hG _ _ _ _) ?_
        exact captured (by kernel_rfl) (by kernel_rfl) (TAIL _ _ _ _ _ _ _ _ _ _ _ _ _ _ _ _ _ _ _ _ _ hH (IntAt.below hi6 (by refine Below.step (by assumption) ?_; refine Below.step (by assumption) ?_; exact Below.refl _ _)) (IntAt.below hi7 (by refine Below.step (by assumption) ?_; exact Below.refl _ _)) hi8)
      exact AllReadyH.nil
    refine AllReadyH.cons (o := { dst := some 74, op := Op.buildSlice 53 1 #[(0, Operand.tmp 73)], type := 53, pos := "law.go:61", after := #[{ on := 22, ground := Ground.data }, { on := 9, ground := Ground.guard }], guard := some (9, true) }) rfl (fun K hK => ?_) ?_
    · go_simp
      refine hK.out _ _ ?_ (fun hH => ?_)
      · exact (have B9 := Bag.alloc hH.2 _; ⟨HC.out _ B9.now, B9⟩)
      clear hK K
      try simp only [Act.put, List.setIfInBounds_toArray, List.set_cons_zero, List.set_cons_succ]
      refine wpAnyH_ready (rs := [13]) (by kernel_rfl) (by simp) ?_
      refine AllReadyH.cons (o := { dst := some 64, op := Op.buildSlice 53 1 #[(0, Operand.tmp 63)], type := 53, pos := "law.go:61", after := #[{ on := 12, ground := Ground.data }, { on := 9, ground := Ground.guard }], guard := some (9, true) }) rfl (fun K hK => ?_) AllReadyH.nil
      go_simp
      refine hK.out _ _ ?_ (fun hH => ?_)
      · exact (have B9 := Bag.alloc hH.2 _; ⟨HC.out _ B9.now, B9⟩)
      clear hK K
      try simp only [Act.put, List.setIfInBounds_toArray, List.set_cons_zero, List.set_cons_succ]
      refine wpAnyH_ready (rs := [14]) (by kernel_rfl) (by simp) ?_
      refine AllReadyH.cons (o := { dst := some 65, op := Op.call { callee := Callee.value (Operand.func 11), args := #[Operand.tmp 62, Operand.tmp 64], argTypes := #[26, 53] }, type := 26, pos := "law.go:61", after := #[{ on := 11, ground := Ground.data }, { on := 13, ground := Ground.data }, { on := 9, ground := Ground.chain }, { on := 9, ground := Ground.guard }], guard := some (9, true) }) rfl (fun K hK => ?_) AllReadyH.nil
      go_simp
      (go_at_call 11; (with_reducible refine (PB.out a2 n2 c2 m2 _ _ ?_ ?_).mono ?_); exact hH.2.now.2.2.2.2.2.2.2.1; (apply IntsAt.old1; (exact Below.refl _ _); (first | rfl | focus (simp; done)); exact hH.2.now.2.2.2.2.1); rintro e wy ⟨a5, n5, c5, m5, rfl, hi5, hbz⟩)
      refine hK.out _ _ ?_ (fun hH => ?_)
      · exact (have B9 := Bag.go hH.2 hbz; ⟨HC.out _ B9.now, B9⟩)
      clear hK K
      try simp only [Act.put, List.setIfInBounds_toArray, List.set_cons_zero, List.set_cons_succ]
      refine wpAnyH_ready (rs := [15]) (by kernel_rfl) (by simp) ?_
      refine AllReadyH.cons (o := { dst := some 66, op := Op.buildSlice 53 1 #[(0, Operand.tmp 65)], type := 53, pos := "law.go:61", after := #[{ on := 14, ground := Ground.data }, { on := 9, ground := Ground.guard }], guard := some (9, true) }) rfl (fun K hK => ?_) AllReadyH.nil
      go_simp
      refine hK.out _ _ ?_ (fun hH => ?_)
      · exact (have B9 := Bag.alloc hH.2 _; ⟨HC.out _ B9.now, B9⟩)
      clear hK K
      try simp only [Act.put, List.setIfInBounds_toArray, List.set_cons_zero, List.set_cons_succ]
      refine wpAnyH_ready (rs := [16]) (by kernel_rfl) (by simp) ?_
      refine AllReadyH.cons (o := { dst := some 67, op := Op.call { callee := Callee.value (Operand.func 7), args := #[Operand.tmp 61, Operand.tmp 66], argTypes := #[26, 53] }, type := 26, pos := "law.go:61", after := #[{ on := 10, ground := Ground.data }, { on := 15, ground := Ground.data }, { on := 14, ground := Ground.chain }, { on := 9, ground := Ground.guard }], guard := some (9, true) }) rfl (fun K hK => ?_) AllReadyH.nil
      go_simp
      (go_at_call 7; (with_reducible refine (TB.out a1 n1 c1 m1 _ _ ?_ ?_).mono ?_); exact hH.2.now.2.2.2.2.2.2.2.2.2.2.1; (apply IntsAt.old1; (exact Below.refl _ _); (first | rfl | focus (simp; done)); exact (IntAt.below hi5 (by refine Below.more ?_ _; exact Below.refl _ _))); rintro e wy ⟨a6, n6, c6, m6, rfl, hi6, hbz⟩)
      refine hK.out _ _ ?_ (fun hH => ?_)
      · exact (have B9 := Bag.go hH.2 hbz; ⟨HC.out _ B9.now, B9⟩)
      clear hK K
      try simp only [Act.put, List.setIfInBounds_toArray, List.set_cons_zero, List.set_cons_succ]
      refine wpAnyH_ready (rs := [20]) (by kernel_rfl) (by simp) ?_
      refine AllReadyH.cons (o := { dst := some 71, op := Op.call { callee := Callee.value (Operand.func 7), args := #[Operand.tmp 68, Operand.tmp 70], argTypes := #[26, 53] }, type := 26, pos := "law.go:61", after := #[{ on := 17, ground := Ground.data }, { on := 19, ground := Ground.data }, { on := 16, ground := Ground.chain }, { on := 9, ground := Ground.guard }], guard := some (9, true) }) rfl (fun K hK => ?_) AllReadyH.nil
      go_simp
      (go_at_call 7; (with_reducible refine (TY.out a1 n1 c1 m1 _ _ ?_ ?_).mono ?_); exact hH.2.now.2.2.2.2.2.2.2.2.2.2.1; (apply IntsAt.old1; (refine Below.step (by assumption) ?_; refine Below.more ?_ _; refine Below.step (by assumption) ?_; refine Below.more ?_ _; refine Below.more ?_ _; exact Below.refl _ _); (first | rfl | focus (simp; done)); exact hH.2.now.2.2.2.2.2.2.2.1); rintro e wy ⟨a7, n7, c7, m7, rfl, hi7, hbz⟩)
      refine hK.out _ _ ?_ (fun hH => ?_)
      · exact (have B9 := Bag.go hH.2 hbz; ⟨HC.out _ B9.now, B9⟩)
      clear hK K
      try simp only [Act.put, List.setIfInBounds_toArray, List.set_cons_zero, List.set_cons_succ]
      refine wpAnyH_ready (rs := [24]) (by kernel_rfl) (by simp) ?_
      refine AllReadyH.cons (o := { dst := some 75, op := Op.call { callee := Callee.value (Operand.func 7), args := #[Operand.tmp 72, Operand.tmp 74], argTypes := #[26, 53] }, type := 26, pos := "law.go:61", after := #[{ on := 21, ground := Ground.data }, { on := 23, ground := Ground.data }, { on := 20, ground := Ground.chain }, { on := 9, ground := Ground.guard }], guard := some (9, true) }) rfl (fun K hK => ?_) AllReadyH.nil
      go_simp
      (go_at_call 7; (with_reducible refine (TX.out a1 n1 c1 m1 _ _ ?_ ?_).mono ?_); exact hH.2.now.2.2.2.2.2.2.2.2.2.2.1; (apply IntsAt.old1; (refine Below.step (by assumption) ?_; refine Below.step (by assumption) ?_; refine Below.more ?_ _; refine Below.step (by assumption) ?_; refine Below.more ?_ _; exact Below.refl _ _); (first | rfl | focus (simp; done)); exact hH.2.now.2.2.2.2.1); rintro e wy ⟨a8, n8, c8, m8, rfl, hi8, hbz⟩)
      refine hK.out _ _ ?_ (fun hH => ?_)
      · exact (have B9 := Bag.go hH.2 hbz; ⟨HC.out _ B9.now, B9⟩)
      clear hK K
      try simp only [Act.put, List.setIfInBounds_toArray, List.set_cons_zero, List.set_cons_succ]
      refine Eq.mp (hG _ _ _ _) ?_
      exact captured (by kernel_rfl) (by kernel_rfl) (TAIL _ _ _ _ _ _ _ _ _ _ _ _ _ _ _ _ _ _ _ _ _ hH (IntAt.below hi6 (by refine Below.step (by assumption) ?_; refine Below.step (by assumption) ?_; exact Below.refl _ _)) (IntAt.below hi7 (by refine Below.step (by assumption) ?_; exact Below.refl _ _)) hi8)
    exact AllReadyH.nil
  refine AllReadyH.cons (o := { dst := some 74, op := Op.buildSlice 53 1 #[(0, Operand.tmp 73)], type := 53, pos := "law.go:61", after := #[{ on := 22, ground := Ground.data }, { on := 9, ground := Ground.guard }], guard := some (9, true) }) rfl (fun K hK => ?_) ?_
  · go_simp
    refine hK.out _ _ ?_ (fun hH => ?_)
    · exact (have B9 := Bag.alloc hH.2 _; ⟨HC.out _ B9.now, B9⟩)
    clear hK K
    try simp only [Act.put, List.setIfInBounds_toArray, List.set_cons_zero, List.set_cons_succ]
    refine wpAnyH_ready (rs := [13, 19]) (by kernel_rfl) (by simp) ?_
    refine AllReadyH.cons (o := { dst := some 64, op := Op.buildSlice 53 1 #[(0, Operand.tmp 63)], type := 53, pos := "law.go:61", after := #[{ on := 12, ground := Ground.data }, { on := 9, ground := Ground.guard }], guard := some (9, true) }) rfl (fun K hK => ?_) ?_
    · go_simp
      refine hK.out _ _ ?_ (fun hH => ?_)
      · exact (have B9 := Bag.alloc hH.2 _; ⟨HC.out _ B9.now, B9⟩)
      clear hK K
      try simp only [Act.put, List.setIfInBounds_toArray, List.set_cons_zero, List.set_cons_succ]
      refine wpAnyH_ready (rs := [14, 19]) (by kernel_rfl) (by simp) ?_
      refine AllReadyH.cons (o := { dst := some 65, op := Op.call { callee := Callee.value (Operand.func 11), args := #[Operand.tmp 62, Operand.tmp 64], argTypes := #[26, 53] }, type := 26, pos := "law.go:61", after := #[{ on := 11, ground := Ground.data }, { on := 13, ground := Ground.data }, { on := 9, ground := Ground.chain }, { on := 9, ground := Ground.guard }], guard := some (9, true) }) rfl (fun K hK => ?_) ?_
      · go_simp
        (go_at_call 11; (with_reducible refine (PB.out a2 n2 c2 m2 _ _ ?_ ?_).mono ?_); exact hH.2.now.2.2.2.2.2.2.2.1; (apply IntsAt.old1; (exact Below.refl _ _); (first | rfl | focus (simp; done)); exact hH.2.now.2.2.2.2.1); rintro e wy ⟨a5, n5, c5, m5, rfl, hi5, hbz⟩)
        refine hK.out _ _ ?_ (fun hH => ?_)
        · exact (have B9 := Bag.go hH.2 hbz; ⟨HC.out _ B9.now, B9⟩)
        clear hK K
        try simp only [Act.put, List.setIfInBounds_toArray, List.set_cons_zero, List.set_cons_succ]
        refine wpAnyH_ready (rs := [15, 19]) (by kernel_rfl) (by simp) ?_
        refine AllReadyH.cons (o := { dst := some 66, op := Op.buildSlice 53 1 #[(0, Operand.tmp 65)], type := 53, pos := "law.go:61", after := #[{ on := 14, ground := Ground.data }, { on := 9, ground := Ground.guard }], guard := some (9, true) }) rfl (fun K hK => ?_) ?_
        · go_simp
          refine hK.out _ _ ?_ (fun hH => ?_)
          · exact (have B9 := Bag.alloc hH.2 _; ⟨HC.out _ B9.now, B9⟩)
          clear hK K
          try simp only [Act.put, List.setIfInBounds_toArray, List.set_cons_zero, List.set_cons_succ]
          refine wpAnyH_ready (rs := [16, 19]) (by kernel_rfl) (by simp) ?_
          refine AllReadyH.cons (o := { dst := some 67, op := Op.call { callee := Callee.value (Operand.func 7), args := #[Operand.tmp 61, Operand.tmp 66], argTypes := #[26, 53] }, type := 26, pos := "law.go:61", after := #[{ on := 10, ground := Ground.data }, { on := 15, ground := Ground.data }, { on := 14, ground := Ground.chain }, { on := 9, ground := Ground.guard }], guard := some (9, true) }) rfl (fun K hK => ?_) ?_
          · go_simp
            (go_at_call 7; (with_reducible refine (TB.out a1 n1 c1 m1 _ _ ?_ ?_).mono ?_); exact hH.2.now.2.2.2.2.2.2.2.2.2.2.1; (apply IntsAt.old1; (exact Below.refl _ _); (first | rfl | focus (simp; done)); exact (IntAt.below hi5 (by refine Below.more ?_ _; exact Below.refl _ _))); rintro e wy ⟨a6, n6, c6, m6, rfl, hi6, hbz⟩)
            refine hK.out _ _ ?_ (fun hH => ?_)
            · exact (have B9 := Bag.go hH.2 hbz; ⟨HC.out _ B9.now, B9⟩)
            clear hK K
            try simp only [Act.put, List.setIfInBounds_toArray, List.set_cons_zero, List.set_cons_succ]
            refine wpAnyH_ready (rs := [19]) (by kernel_rfl) (by simp) ?_
            refine AllReadyH.cons (o := { dst := some 70, op := Op.buildSlice 53 1 #[(0, Operand.tmp 69)], type := 53, pos := "law.go:61", after := #[{ on := 18, ground := Ground.data }, { on := 9, ground := Ground.guard }], guard := some (9, true) }) rfl (fun K hK => ?_) AllReadyH.nil
            go_simp
            refine hK.out _ _ ?_ (fun hH => ?_)
            · exact (have B9 := Bag.alloc hH.2 _; ⟨HC.out _ B9.now, B9⟩)
            clear hK K
            try simp only [Act.put, List.setIfInBounds_toArray, List.set_cons_zero, List.set_cons_succ]
            refine wpAnyH_ready (rs := [20]) (by kernel_rfl) (by simp) ?_
            refine AllReadyH.cons (o := { dst := some 71, op := Op.call { callee := Callee.value (Operand.func 7), args := #[Operand.tmp 68, Operand.tmp 70], argTypes := #[26, 53] }, type := 26, pos := "law.go:61", after := #[{ on := 17, ground := Ground.data }, { on := 19, ground := Ground.data }, { on := 16, ground := Ground.chain }, { on := 9, ground := Ground.guard }], guard := some (9, true) }) rfl (fun K hK => ?_) AllReadyH.nil
            go_simp
            (go_at_call 7; (with_reducible refine (TY.out a1 n1 c1 m1 _ _ ?_ ?_).mono ?_); exact hH.2.now.2.2.2.2.2.2.2.2.2.2.1; (apply IntsAt.old1; (exact Below.refl _ _); (first | rfl | focus (simp; done)); exact hH.2.now.2.2.2.2.2.2.2.1); rintro e wy ⟨a7, n7, c7, m7, rfl, hi7, hbz⟩)
            refine hK.out _ _ ?_ (fun hH => ?_)
            · exact (have B9 := Bag.go hH.2 hbz; ⟨HC.out _ B9.now, B9⟩)
            clear hK K
            try simp only [Act.put, List.setIfInBounds_toArray, List.set_cons_zero, List.set_cons_succ]
            refine wpAnyH_ready (rs := [24]) (by kernel_rfl) (by simp) ?_
            refine AllReadyH.cons (o := { dst := some 75, op := Op.call { callee := Callee.value (Operand.func 7), args := #[Operand.tmp 72, Operand.tmp 74], argTypes := #[26, 53] }, type := 26, pos := "law.go:61", after := #[{ on := 21, ground := Ground.data }, { on := 23, ground := Ground.data }, { on := 20, ground := Ground.chain }, { on := 9, ground := Ground.guard }], guard := some (9, true) }) rfl (fun K hK => ?_) AllReadyH.nil
            go_simp
            (go_at_call 7; (with_reducible refine (TX.out a1 n1 c1 m1 _ _ ?_ ?_).mono ?_); exact hH.2.now.2.2.2.2.2.2.2.2.2.2.1; (apply IntsAt.old1; (refine Below.step (by assumption) ?_; refine Below.more ?_ _; refine Below.step (by assumption) ?_; refine Below.more ?_ _; refine Below.step (by assumption) ?_; refine Below.more ?_ _; exact Below.refl _ _); (first | rfl | focus (simp; done)); exact hH.2.now.2.2.2.2.1); rintro e wy ⟨a8, n8, c8, m8, rfl, hi8, hbz⟩)
            refine hK.out _ _ ?_ (fun hH => ?_)
            · exact (have B9 := Bag.go hH.2 hbz; ⟨HC.out _ B9.now, B9⟩)
            clear hK K
            try simp only [Act.put, List.setIfInBounds_toArray, List.set_cons_zero, List.set_cons_succ]
            refine Eq.mp (hG _ _ _ _) ?_
            exact captured (by kernel_rfl) (by kernel_rfl) (TAIL _ _ _ _ _ _ _ _ _ _ _ _ _ _ _ _ _ _ _ _ _ hH (IntAt.below hi6 (by refine Below.step (by assumption) ?_; refine Below.step (by assumption) ?_; refine Below.more ?_ _; exact Below.refl _ _)) (IntAt.below hi7 (by refine Below.step (by assumption) ?_; exact Below.refl _ _)) hi8)
          refine AllReadyH.cons (o := { dst := some 70, op := Op.buildSlice 53 1 #[(0, Operand.tmp 69)], type := 53, pos := "law.go:61", after := #[{ on := 18, ground := Ground.data }, { on := 9, ground := Ground.guard }], guard := some (9, true) }) rfl (fun K hK => ?_) ?_
          · go_simp
            refine hK.out _ _ ?_ (fun hH => ?_)
            · exact (have B9 := Bag.alloc hH.2 _; ⟨HC.out _ B9.now, B9⟩)
            clear hK K
            try simp only [Act.put, List.setIfInBounds_toArray, List.set_cons_zero, List.set_cons_succ]
            refine wpAnyH_ready (rs := [16]) (by kernel_rfl) (by simp) ?_
            refine AllReadyH.cons (o := { dst := some 67, op := Op.call { callee := Callee.value (Operand.func 7), args := #[Operand.tmp 61, Operand.tmp 66], argTypes := #[26, 53] }, type := 26, pos := "law.go:61", after := #[{ on := 10, ground := Ground.data }, { on := 15, ground := Ground.data }, { on := 14, ground := Ground.chain }, { on := 9, ground := Ground.guard }], guard := some (9, true) }) rfl (fun K hK => ?_) AllReadyH.nil
            go_simp
            (go_at_call 7; (with_reducible refine (TB.out a1 n1 c1 m1 _ _ ?_ ?_).mono ?_); exact hH.2.now.2.2.2.2.2.2.2.2.2.2.1; (apply IntsAt.old1; (refine Below.more ?_ _; exact Below.refl _ _); (first | rfl | focus (simp; done)); exact (IntAt.below hi5 (by refine Below.more ?_ _; refine Below.more ?_ _; exact Below.refl _ _))); rintro e wy ⟨a6, n6, c6, m6, rfl, hi6, hbz⟩)
            refine hK.out _ _ ?_ (fun hH => ?_)
            · exact (have B9 := Bag.go hH.2 hbz; ⟨HC.out _ B9.now, B9⟩)
            clear hK K
            try simp only [Act.put, List.setIfInBounds_toArray, List.set_cons_zero, List.set_cons_succ]
            refine wpAnyH_ready (rs := [20]) (by kernel_rfl) (by simp) ?_
            refine AllReadyH.cons (o := { dst := some 71, op := Op.call { callee := Callee.value (Operand.func 7), args := #[Operand.tmp 68, Operand.tmp 70], argTypes := #[26, 53] }, type := 26, pos := "law.go:61", after := #[{ on := 17, ground := Ground.data }, { on := 19, ground := Ground.data }, { on := 16, ground := Ground.chain }, { on := 9, ground := Ground.guard }], guard := some (9, true) }) rfl (fun K hK => ?_) AllReadyH.nil
            go_simp
            (go_at_call 7; (with_reducible refine (TY.out a1 n1 c1 m1 _ _ ?_ ?_).mono ?_); exact hH.2.now.2.2.2.2.2.2.2.2.2.2.1; (apply IntsAt.old1; (refine Below.step (by assumption) ?_; exact Below.refl _ _); (first | rfl | focus (simp; done)); exact hH.2.now.2.2.2.2.2.2.2.1); rintro e wy ⟨a7, n7, c7, m7, rfl, hi7, hbz⟩)
            refine hK.out _ _ ?_ (fun hH => ?_)
            · exact (have B9 := Bag.go hH.2 hbz; ⟨HC.out _ B9.now, B9⟩)
            clear hK K
            try simp only [Act.put, List.setIfInBounds_toArray, List.set_cons_zero, List.set_cons_succ]
            refine wpAnyH_ready (rs := [24]) (by kernel_rfl) (by simp) ?_
            refine AllReadyH.cons (o := { dst := some 75, op := Op.call { callee := Callee.value (Operand.func 7), args := #[Operand.tmp 72, Operand.tmp 74], argTypes := #[26, 53] }, type := 26, pos := "law.go:61", after := #[{ on := 21, ground := Ground.data }, { on := 23, ground := Ground.data }, { on := 20, ground := Ground.chain }, { on := 9, ground := Ground.guard }], guard := some (9, true) }) rfl (fun K hK => ?_) AllReadyH.nil
            go_simp
            (go_at_call 7; (with_reducible refine (TX.out a1 n1 c1 m1 _ _ ?_ ?_).mono ?_); exact hH.2.now.2.2.2.2.2.2.2.2.2.2.1; (apply IntsAt.old1; (refine Below.step (by assumption) ?_; refine Below.step (by assumption) ?_; refine Below.more ?_ _; refine Below.more ?_ _; refine Below.step (by assumption) ?_; refine Below.more ?_ _; exact Below.refl _ _); (first | rfl | focus (simp; done)); exact hH.2.now.2.2.2.2.1); rintro e wy ⟨a8, n8, c8, m8, rfl, hi8, hbz⟩)
            refine hK.out _ _ ?_ (fun hH => ?_)
            · exact (have B9 := Bag.go hH.2 hbz; ⟨HC.out _ B9.now, B9⟩)
            clear hK K
            try simp only [Act.put, List.setIfInBounds_toArray, List.set_cons_zero, List.set_cons_succ]
            refine Eq.mp (hG _ _ _ _) ?_
            exact captured (by kernel_rfl) (by kernel_rfl) (TAIL _ _ _ _ _ _ _ _ _ _ _ _ _ _ _ _ _ _ _ _ _ hH (IntAt.below hi6 (by refine Below.step (by assumption) ?_; refine Below.step (by assumption) ?_; exact Below.refl _ _)) (IntAt.below hi7 (by refine Below.step (by assumption) ?_; exact Below.refl _ _)) hi8)
          exact AllReadyH.nil
        refine AllReadyH.cons (o := { dst := some 70, op := Op.buildSlice 53 1 #[(0, Operand.tmp 69)], type := 53, pos := "law.go:61", after := #[{ on := 18, ground := Ground.data }, { on := 9, ground := Ground.guard }], guard := some (9, true) }) rfl (fun K hK => ?_) ?_
        · go_simp
          refine hK.out _ _ ?_ (fun hH => ?_)
          · exact (have B9 := Bag.alloc hH.2 _; ⟨HC.out _ B9.now, B9⟩)
          clear hK K
          try simp only [Act.put, List.setIfInBounds_toArray, List.set_cons_zero, List.set_cons_succ]
          refine wpAnyH_ready (rs := [15]) (by kernel_rfl) (by simp) ?_
          refine AllReadyH.cons (o := { dst := some 66, op := Op.buildSlice 53 1 #[(0, Operand.tmp 65)], type := 53, pos := "law.go:61", after := #[{ on := 14, ground := Ground.data }, { on := 9, ground := Ground.guard }], guard := some (9, true) }) rfl (fun K hK => ?_) AllReadyH.nil
          go_simp
          refine hK.out _ _ ?_ (fun hH => ?_)
          · exact (have B9 := Bag.alloc hH.2 _; ⟨HC.out _ B9.now, B9⟩)
          clear hK K
          try simp only [Act.put, List.setIfInBounds_toArray, List.set_cons_zero, List.set_cons_succ]
          refine wpAnyH_ready (rs := [16]) (by kernel_rfl) (by simp) ?_
          refine AllReadyH.cons (o := { dst := some 67, op := Op.call { callee := Callee.value (Operand.func 7), args := #[Operand.tmp 61, Operand.tmp 66], argTypes := #[26, 53] }, type := 26, pos := "law.go:61", after := #[{ on := 10, ground := Ground.data }, { on := 15, ground := Ground.data }, { on := 14, ground := Ground.chain }, { on := 9, ground := Ground.guard }], guard := some (9, true) }) rfl (fun K hK => ?_) AllReadyH.nil
          go_simp
          (go_at_call 7; (with_reducible refine (TB.out a1 n1 c1 m1 _ _ ?_ ?_).mono ?_); exact hH.2.now.2.2.2.2.2.2.2.2.2.2.1; (apply IntsAt.old1; (exact Below.refl _ _); (first | rfl | focus (simp; done)); exact (IntAt.below hi5 (by refine Below.more ?_ _; refine Below.more ?_ _; exact Below.refl _ _))); rintro e wy ⟨a6, n6, c6, m6, rfl, hi6, hbz⟩)
          refine hK.out _ _ ?_ (fun hH => ?_)
          · exact (have B9 := Bag.go hH.2 hbz; ⟨HC.out _ B9.now, B9⟩)
          clear hK K
          try simp only [Act.put, List.setIfInBounds_toArray, List.set_cons_zero, List.set_cons_succ]
          refine wpAnyH_ready (rs := [20]) (by kernel_rfl) (by simp) ?_
          refine AllReadyH.cons (o := { dst := some 71, op := Op.call { callee := Callee.value (Operand.func 7), args := #[Operand.tmp 68, Operand.tmp 70], argTypes := #[26, 53] }, type := 26, pos := "law.go:61", after := #[{ on := 17, ground := Ground.data }, { on := 19, ground := Ground.data }, { on := 16, ground := Ground.chain }, { on := 9, ground := Ground.guard }], guard := some (9, true) }) rfl (fun K hK => ?_) AllReadyH.nil
          go_simp
          (go_at_call 7; (with_reducible refine (TY.out a1 n1 c1 m1 _ _ ?_ ?_).mono ?_); exact hH.2.now.2.2.2.2.2.2.2.2.2.2.1; (apply IntsAt.old1; (refine Below.step (by assumption) ?_; refine Below.more ?_ _; exact Below.refl _ _); (first | rfl | focus (simp; done)); exact hH.2.now.2.2.2.2.2.2.2.1); rintro e wy ⟨a7, n7, c7, m7, rfl, hi7, hbz⟩)
          refine hK.out _ _ ?_ (fun hH => ?_)
          · exact (have B9 := Bag.go hH.2 hbz; ⟨HC.out _ B9.now, B9⟩)
          clear hK K
          try simp only [Act.put, List.setIfInBounds_toArray, List.set_cons_zero, List.set_cons_succ]
          refine wpAnyH_ready (rs := [24]) (by kernel_rfl) (by simp) ?_
          refine AllReadyH.cons (o := { dst := some 75, op := Op.call { callee := Callee.value (Operand.func 7), args := #[Operand.tmp 72, Operand.tmp 74], argTypes := #[26, 53] }, type := 26, pos := "law.go:61", after := #[{ on := 21, ground := Ground.data }, { on := 23, ground := Ground.data }, { on := 20, ground := Ground.chain }, { on := 9, ground := Ground.guard }], guard := some (9, true) }) rfl (fun K hK => ?_) AllReadyH.nil
          go_simp
          (go_at_call 7; (with_reducible refine (TX.out a1 n1 c1 m1 _ _ ?_ ?_).mono ?_); exact hH.2.now.2.2.2.2.2.2.2.2.2.2.1; (apply IntsAt.old1; (refine Below.step (by assumption) ?_; refine Below.step (by assumption) ?_; refine Below.more ?_ _; refine Below.more ?_ _; refine Below.step (by assumption) ?_; refine Below.more ?_ _; exact Below.refl _ _); (first | rfl | focus (simp; done)); exact hH.2.now.2.2.2.2.1); rintro e wy ⟨a8, n8, c8, m8, rfl, hi8, hbz⟩)
          refine hK.out _ _ ?_ (fun hH => ?_)
          · exact (have B9 := Bag.go hH.2 hbz; ⟨HC.out _ B9.now, B9⟩)
          clear hK K
          try simp only [Act.put, List.setIfInBounds_toArray, List.set_cons_zero, List.set_cons_succ]
          refine Eq.mp (hG _ _ _ _) ?_
          exact captured (by kernel_rfl) (by kernel_rfl) (TAIL _ _ _ _ _ _ _ _ _ _ _ _ _ _ _ _ _ _ _ _ _ hH (IntAt.below hi6 (by refine Below.step (by assumption) ?_; refine Below.step (by assumption) ?_; exact Below.refl _ _)) (IntAt.below hi7 (by refine Below.step (by assumption) ?_; exact Below.refl _ _)) hi8)
        exact AllReadyH.nil
      refine AllReadyH.cons (o := { dst := some 70, op := Op.buildSlice 53 1 #[(0, Operand.tmp 69)], type := 53, pos := "law.go:61", after := #[{ on := 18, ground := Ground.data }, { on := 9, ground := Ground.guard }], guard := some (9, true) }) rfl (fun K hK => ?_) ?_
      · go_simp
        refine hK.out _ _ ?_ (fun hH => ?_)
        · exact (have B9 := Bag.alloc hH.2 _; ⟨HC.out _ B9.now, B9⟩)
        clear hK K
        try simp only [Act.put, List.setIfInBounds_toArray, List.set_cons_zero, List.set_cons_succ]
        refine wpAnyH_ready (rs := [14]) (by kernel_rfl) (by simp) ?_
        refine AllReadyH.cons (o := { dst := some 65, op := Op.call { callee := Callee.value (Operand.func 11), args := #[Operand.tmp 62, Operand.tmp 64], argTypes := #[26, 53] }, type := 26, pos := "law.go:61", after := #[{ on := 11, ground := Ground.data }, { on := 13, ground := Ground.data }, { on := 9, ground := Ground.chain }, { on := 9, ground := Ground.guard }], guard := some (9, true) }) rfl (fun K hK => ?_) AllReadyH.nil
        go_simp
        (go_at_call 11; (with_reducible refine (PB.out a2 n2 c2 m2 _ _ ?_ ?_).mono ?_); exact hH.2.now.2.2.2.2.2.2.2.1; (apply IntsAt.old1; (refine Below.more ?_ _; exact Below.refl _ _); (first | rfl | focus (simp; done)); exact hH.2.now.2.2.2.2.1); rintro e wy ⟨a5, n5, c5, m5, rfl, hi5, hbz⟩)
        refine hK.out _ _ ?_ (fun hH => ?_)
        · exact (have B9 := Bag.go hH.2 hbz; ⟨HC.out _ B9.now, B9⟩)
        clear hK K
        try simp only [Act.put, List.setIfInBounds_toArray, List.set_cons_zero, List.set_cons_succ]
        refine wpAnyH_ready (rs := [15]) (by kernel_rfl) (by simp) ?_
        refine AllReadyH.cons (o := { dst := some 66, op := Op.buildSlice 53 1 #[(0, Operand.tmp 65)], type := 53, pos := "law.go:61", after := #[{ on := 14, ground := Ground.data }, { on := 9, ground := Ground.guard }], guard := some (9, true) }) rfl (fun K hK => ?_) AllReadyH.nil
        go_simp
        refine hK.out _ _ ?_ (fun hH => ?_)
        · exact (have B9 := Bag.alloc hH.2 _; ⟨HC.out _ B9.now, B9⟩)
        clear hK K
        try simp only [Act.put, List.setIfInBounds_toArray, List.set_cons_zero, List.set_cons_succ]
        refine wpAnyH_ready (rs := [16]) (by kernel_rfl) (by simp) ?_
        refine AllReadyH.cons (o := { dst := some 67, op := Op.call { callee := Callee.value (Operand.func 7), args := #[Operand.tmp 61, Operand.tmp 66], argTypes := #[26, 53] }, type := 26, pos := "law.go:61", after := #[{ on := 10, ground := Ground.data }, { on := 15, ground := Ground.data }, { on := 14, ground := Ground.chain }, { on := 9, ground := Ground.guard }], guard := some (9, true) }) rfl (fun K hK => ?_) AllReadyH.nil
        go_simp
        (go_at_call 7; (with_reducible refine (TB.out a1 n1 c1 m1 _ _ ?_ ?_).mono ?_); exact hH.2.now.2.2.2.2.2.2.2.2.2.2.1; (apply IntsAt.old1; (exact Below.refl _ _); (first | rfl | focus (simp; done)); exact (IntAt.below hi5 (by refine Below.more ?_ _; exact Below.refl _ _))); rintro e wy ⟨a6, n6, c6, m6, rfl, hi6, hbz⟩)
        refine hK.out _ _ ?_ (fun hH => ?_)
        · exact (have B9 := Bag.go hH.2 hbz; ⟨HC.out _ B9.now, B9⟩)
        clear hK K
        try simp only [Act.put, List.setIfInBounds_toArray, List.set_cons_zero, List.set_cons_succ]
        refine wpAnyH_ready (rs := [20]) (by kernel_rfl) (by simp) ?_
        refine AllReadyH.cons (o := { dst := some 71, op := Op.call { callee := Callee.value (Operand.func 7), args := #[Operand.tmp 68, Operand.tmp 70], argTypes := #[26, 53] }, type := 26, pos := "law.go:61", after := #[{ on := 17, ground := Ground.data }, { on := 19, ground := Ground.data }, { on := 16, ground := Ground.chain }, { on := 9, ground := Ground.guard }], guard := some (9, true) }) rfl (fun K hK => ?_) AllReadyH.nil
        go_simp
        (go_at_call 7; (with_reducible refine (TY.out a1 n1 c1 m1 _ _ ?_ ?_).mono ?_); exact hH.2.now.2.2.2.2.2.2.2.2.2.2.1; (apply IntsAt.old1; (refine Below.step (by assumption) ?_; refine Below.more ?_ _; refine Below.step (by assumption) ?_; exact Below.refl _ _); (first | rfl | focus (simp; done)); exact hH.2.now.2.2.2.2.2.2.2.1); rintro e wy ⟨a7, n7, c7, m7, rfl, hi7, hbz⟩)
        refine hK.out _ _ ?_ (fun hH => ?_)
        · exact (have B9 := Bag.go hH.2 hbz; ⟨HC.out _ B9.now, B9⟩)
        clear hK K
        try simp only [Act.put, List.setIfInBounds_toArray, List.set_cons_zero, List.set_cons_succ]
        refine wpAnyH_ready (rs := [24]) (by kernel_rfl) (by simp) ?_
        refine AllReadyH.cons (o := { dst := some 75, op := Op.call { callee := Callee.value (Operand.func 7), args := #[Operand.tmp 72, Operand.tmp 74], argTypes := #[26, 53] }, type := 26, pos := "law.go:61", after := #[{ on := 21, ground := Ground.data }, { on := 23, ground := Ground.data }, { on := 20, ground := Ground.chain }, { on := 9, ground := Ground.guard }], guard := some (9, true) }) rfl (fun K hK => ?_) AllReadyH.nil
        go_simp
        (go_at_call 7; (with_reducible refine (TX.out a1 n1 c1 m1 _ _ ?_ ?_).mono ?_); exact hH.2.now.2.2.2.2.2.2.2.2.2.2.1; (apply IntsAt.old1; (refine Below.step (by assumption) ?_; refine Below.step (by assumption) ?_; refine Below.more ?_ _; refine Below.step (by assumption) ?_; refine Below.more ?_ _; refine Below.more ?_ _; exact Below.refl _ _); (first | rfl | focus (simp; done)); exact hH.2.now.2.2.2.2.1); rintro e wy ⟨a8, n8, c8, m8, rfl, hi8, hbz⟩)
        refine hK.out _ _ ?_ (fun hH => ?_)
        · exact (have B9 := Bag.go hH.2 hbz; ⟨HC.out _ B9.now, B9⟩)
        clear hK K
        try simp only [Act.put, List.setIfInBounds_toArray, List.set_cons_zero, List.set_cons_succ]
        refine Eq.mp (hG _ _ _ _) ?_
        exact captured (by kernel_rfl) (by kernel_rfl) (TAIL _ _ _ _ _ _ _ _ _ _ _ _ _ _ _ _ _ _ _ _ _ hH (IntAt.below hi6 (by refine Below.step (by assumption) ?_; refine Below.step (by assumption) ?_; exact Below.refl _ _)) (IntAt.below hi7 (by refine Below.step (by assumption) ?_; exact Below.refl _ _)) hi8)
      exact AllReadyH.nil
    refine AllReadyH.cons (o := { dst := some 70, op := Op.buildSlice 53 1 #[(0, Operand.tmp 69)], type := 53, pos := "law.go:61", after := #[{ on := 18, ground := Ground.data }, { on := 9, ground := Ground.guard }], guard := some (9, true) }) rfl (fun K hK => ?_) ?_
    · go_simp
      refine hK.out _ _ ?_ (fun hH => ?_)
      · exact (have B9 := Bag.alloc hH.2 _; ⟨HC.out _ B9.now, B9⟩)
      clear hK K
      try simp only [Act.put, List.setIfInBounds_toArray, List.set_cons_zero, List.set_cons_succ]
      refine wpAnyH_ready (rs := [13]) (by kernel_rfl) (by simp) ?_
      refine AllReadyH.cons (o := { dst := some 64, op := Op.buildSlice 53 1 #[(0, Operand.tmp 63)], type := 53, pos := "law.go:61", after := #[{ on := 12, ground := Ground.data }, { on := 9, ground := Ground.guard }], guard := some (9, true) }) rfl (fun K hK => ?_) AllReadyH.nil
      go_simp
      refine hK.out _ _ ?_ (fun hH => ?_)
      · exact (have B9 := Bag.alloc hH.2 _; ⟨HC.out _ B9.now, B9⟩)
      clear hK K
      try simp only [Act.put, List.setIfInBounds_toArray, List.set_cons_zero, List.set_cons_succ]
      refine wpAnyH_ready (rs := [14]) (by kernel_rfl) (by simp) ?_
      refine AllReadyH.cons (o := { dst := some 65, op := Op.call { callee := Callee.value (Operand.func 11), args := #[Operand.tmp 62, Operand.tmp 64], argTypes := #[26, 53] }, type := 26, pos := "law.go:61", after := #[{ on := 11, ground := Ground.data }, { on := 13, ground := Ground.data }, { on := 9, ground := Ground.chain }, { on := 9, ground := Ground.guard }], guard := some (9, true) }) rfl (fun K hK => ?_) AllReadyH.nil
      go_simp
      (go_at_call 11; (with_reducible refine (PB.out a2 n2 c2 m2 _ _ ?_ ?_).mono ?_); exact hH.2.now.2.2.2.2.2.2.2.1; (apply IntsAt.old1; (exact Below.refl _ _); (first | rfl | focus (simp; done)); exact hH.2.now.2.2.2.2.1); rintro e wy ⟨a5, n5, c5, m5, rfl, hi5, hbz⟩)
      refine hK.out _ _ ?_ (fun hH => ?_)
      · exact (have B9 := Bag.go hH.2 hbz; ⟨HC.out _ B9.now, B9⟩)
      clear hK K
      try simp only [Act.put, List.setIfInBounds_toArray, List.set_cons_zero, List.set_cons_succ]
      refine wpAnyH_ready (rs := [15]) (by kernel_rfl) (by simp) ?_
      refine AllReadyH.cons (o := { dst := some 66, op := Op.buildSlice 53 1 #[(0, Operand.tmp 65)], type := 53, pos := "law.go:61", after := #[{ on := 14, ground := Ground.data }, { on := 9, ground := Ground.guard }], guard := some (9, true) }) rfl (fun K hK => ?_) AllReadyH.nil
      go_simp
      refine hK.out _ _ ?_ (fun hH => ?_)
      · exact (have B9 := Bag.alloc hH.2 _; ⟨HC.out _ B9.now, B9⟩)
      clear hK K
      try simp only [Act.put, List.setIfInBounds_toArray, List.set_cons_zero, List.set_cons_succ]
      refine wpAnyH_ready (rs := [16]) (by kernel_rfl) (by simp) ?_
      refine AllReadyH.cons (o := { dst := some 67, op := Op.call { callee := Callee.value (Operand.func 7), args := #[Operand.tmp 61, Operand.tmp 66], argTypes := #[26, 53] }, type := 26, pos := "law.go:61", after := #[{ on := 10, ground := Ground.data }, { on := 15, ground := Ground.data }, { on := 14, ground := Ground.chain }, { on := 9, ground := Ground.guard }], guard := some (9, true) }) rfl (fun K hK => ?_) AllReadyH.nil
      go_simp
      (go_at_call 7; (with_reducible refine (TB.out a1 n1 c1 m1 _ _ ?_ ?_).mono ?_); exact hH.2.now.2.2.2.2.2.2.2.2.2.2.1; (apply IntsAt.old1; (exact Below.refl _ _); (first | rfl | focus (simp; done)); exact (IntAt.below hi5 (by refine Below.more ?_ _; exact Below.refl _ _))); rintro e wy ⟨a6, n6, c6, m6, rfl, hi6, hbz⟩)
      refine hK.out _ _ ?_ (fun hH => ?_)
      · exact (have B9 := Bag.go hH.2 hbz; ⟨HC.out _ B9.now, B9⟩)
      clear hK K
      try simp only [Act.put, List.setIfInBounds_toArray, List.set_cons_zero, List.set_cons_succ]
      refine wpAnyH_ready (rs := [20]) (by kernel_rfl) (by simp) ?_
      refine AllReadyH.cons (o := { dst := some 71, op := Op.call { callee := Callee.value (Operand.func 7), args := #[Operand.tmp 68, Operand.tmp 70], argTypes := #[26, 53] }, type := 26, pos := "law.go:61", after := #[{ on := 17, ground := Ground.data }, { on := 19, ground := Ground.data }, { on := 16, ground := Ground.chain }, { on := 9, ground := Ground.guard }], guard := some (9, true) }) rfl (fun K hK => ?_) AllReadyH.nil
      go_simp
      (go_at_call 7; (with_reducible refine (TY.out a1 n1 c1 m1 _ _ ?_ ?_).mono ?_); exact hH.2.now.2.2.2.2.2.2.2.2.2.2.1; (apply IntsAt.old1; (refine Below.step (by assumption) ?_; refine Below.more ?_ _; refine Below.step (by assumption) ?_; refine Below.more ?_ _; exact Below.refl _ _); (first | rfl | focus (simp; done)); exact hH.2.now.2.2.2.2.2.2.2.1); rintro e wy ⟨a7, n7, c7, m7, rfl, hi7, hbz⟩)
      refine hK.out _ _ ?_ (fun hH => ?_)
      · exact (have B9 := Bag.go hH.2 hbz; ⟨HC.out _ B9.now, B9⟩)
      clear hK K
      try simp only [Act.put, List.setIfInBounds_toArray, List.set_cons_zero, List.set_cons_succ]
      refine wpAnyH_ready (rs := [24]) (by kernel_rfl) (by simp) ?_
      refine AllReadyH.cons (o := { dst := some 75, op := Op.call { callee := Callee.value (Operand.func 7), args := #[Operand.tmp 72, Operand.tmp 74], argTypes := #[26, 53] }, type := 26, pos := "law.go:61", after := #[{ on := 21, ground := Ground.data }, { on := 23, ground := Ground.data }, { on := 20, ground := Ground.chain }, { on := 9, ground := Ground.guard }], guard := some (9, true) }) rfl (fun K hK => ?_) AllReadyH.nil
      go_simp
      (go_at_call 7; (with_reducible refine (TX.out a1 n1 c1 m1 _ _ ?_ ?_).mono ?_); exact hH.2.now.2.2.2.2.2.2.2.2.2.2.1; (apply IntsAt.old1; (refine Below.step (by assumption) ?_; refine Below.step (by assumption) ?_; refine Below.more ?_ _; refine Below.step (by assumption) ?_; refine Below.more ?_ _; refine Below.more ?_ _; exact Below.refl _ _); (first | rfl | focus (simp; done)); exact hH.2.now.2.2.2.2.1); rintro e wy ⟨a8, n8, c8, m8, rfl, hi8, hbz⟩)
      refine hK.out _ _ ?_ (fun hH => ?_)
      · exact (have B9 := Bag.go hH.2 hbz; ⟨HC.out _ B9.now, B9⟩)
      clear hK K
      try simp only [Act.put, List.setIfInBounds_toArray, List.set_cons_zero, List.set_cons_succ]
      refine Eq.mp (hG _ _ _ _) ?_
      exact captured (by kernel_rfl) (by kernel_rfl) (TAIL _ _ _ _ _ _ _ _ _ _ _ _ _ _ _ _ _ _ _ _ _ hH (IntAt.below hi6 (by refine Below.step (by assumption) ?_; refine Below.step (by assumption) ?_; exact Below.refl _ _)) (IntAt.below hi7 (by refine Below.step (by assumption) ?_; exact Below.refl _ _)) hi8)
    exact AllReadyH.nil
  exact AllReadyH.nil

end Go.Proofs.YtageaamioljocaaDoor
