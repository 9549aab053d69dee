/-
  Proved: the law WholeSums of package typeballlaw02 returns true for every two texts (statement WholeSumsCardSaid), under the row's own conditions.
-/
import Derived.Test.YtkjdoknmmiaapaaDoorWl3
import Derived.Test.YtkjdoknmmiaapaaDoorCards
import Derived.Test.YtkjdoknmmiaapaaDoorTie
import Derived.ProofKit
import Derived.OpenShut
import Derived.LaidMore
import Derived.Lay
import Derived.SevenTiedAt
import Derived.Stop.Joined
namespace Go.Proofs.YtkjdoknmmiaapaaDoor
open Go.ChangeShapes Go.WideShapes Go.ChangeAt Go.RowKit Go.WideMaps Go.WideElems
open Go.ChangeMaps (open_string shut_string)
attribute [local go_sem ↓] Go.wp_at_zero Go.wp_at_succ

set_option maxHeartbeats 1600000 in
set_option maxRecDepth 100000 in
theorem wholeSums_no (s t : ByteArray) (w : World) (hs : s.size ≤ maxLen) (ht : t.size ≤ maxLen) (h : (rdK s && rdK t) = false) :
    Calls Tryd.prog 12 #[.string s, .string t] w fun e w' => e = .returned (.bool true) ∧ Below w.heap.size w w' := by
  have RS := Lib.hid (fun wz => lread_any s wz hs)
  have RT := Lib.hid (fun wz => lread_any t wz ht)
  obtain ⟨g, hg⟩ : ∃ g, rdK s = g := ⟨_, rfl⟩
  obtain ⟨k, hk⟩ : ∃ k, rdK t = k := ⟨_, rfl⟩
  rw [hg] at RS h
  rw [hk] at RT h
  clear hg hk hs ht
  generalize rdZ s.data.toList = Z at *
  generalize rdZ t.data.toList = Y at *
  unfold ReadW at RS RT
  generalize rB Z = b at *
  generalize rS Z = d at *
  generalize rB Y = b2 at *
  generalize rS Y = d2 at *
  cases g
  all_goals
    first
      | (have hk : k = false := h
         subst hk)
      | cases k
  all_goals
    clear h
    go_enter Tryd.func12, Tryd.ntmps12
    go_wp2_with fail
    go_at_call 49
    (with_reducible refine (RS.out _).mono ?_)
    rintro e w1 ⟨a, n, c, m, rfl, _, hb1⟩
    have BB := Lib.hid ((((Bag.start w).go hb1).alloc (.cells #[.slice a n c, .bool m] 60)).alloc (.cells #[.bool b, .string d] 62))
    clear hb1
    go_wp2_with fail
    go_at_call 49
    (with_reducible refine (RT.out _).mono ?_)
    rintro e w2 ⟨a2, n2, c2, m2, rfl, _, hb2⟩
    have BB := Lib.hid (((BB.out.go hb2).alloc (.cells #[.slice a2 n2 c2, .bool m2] 60)).alloc (.cells #[.bool b2, .string d2] 62))
    clear hb2
    go_wp2_with fail
    go_at_call 50
    refine (awake2_any _).mono ?_
    rintro e w3 ⟨rfl, hb3⟩
    have BB := Lib.hid (BB.out.go hb3)
    clear hb3
    go_wp2
    go_ret
    exact ⟨rfl, BB.out.below⟩

set_option maxHeartbeats 6400000 in
set_option maxRecDepth 100000 in
theorem wholeSums_yes (s t : ByteArray) (w : World) (hs : s.size ≤ maxLen) (ht : t.size ≤ maxLen) (hk : rdK s = true) (hk2 : rdK t = true) :
    Calls Tryd.prog 12 #[.string s, .string t] w fun e w' => e = .returned (.bool true) ∧ Below w.heap.size w w' := by
  have RR1 := Lib.hid (fun wz => lread_any s wz hs)
  have RR2 := Lib.hid (fun wz => lread_any t wz ht)
  have hZ := rdZ_small hk
  have hY := rdZ_small hk2
  rw [hk] at RR1
  rw [hk2] at RR2
  obtain ⟨Z, hZe⟩ : ∃ Z, rdZ s.data.toList = Z := ⟨_, rfl⟩
  obtain ⟨Y, hYe⟩ : ∃ Y, rdZ t.data.toList = Y := ⟨_, rfl⟩
  rw [hZe] at RR1 hZ
  rw [hYe] at RR2 hY
  have hdl : dl Z.natAbs ≤ 100 := dl_le _ 100 (by omega) hZ
  have hdl2 : dl Y.natAbs ≤ 100 := dl_le _ 100 (by omega) hY
  have hN := lim100' hZ
  have hM := lim100' hY
  have hdl3 : dl (Z + Y).natAbs ≤ 101 := Nat.le_trans (dl_mono (Int.natAbs_add_le Z Y)) (dl_add_le hdl hdl2)
  have h12 : (4294967296 : Nat) ^ 12 = 4294967296 * 4294967296 ^ 11 := pow_succ32 11
  have h12b : 3 * 4294967296 ^ 11 ≤ 4294967296 ^ 12 := by rw [h12]; exact Nat.mul_le_mul_right _ (by omega)
  have P1 := Lib.hid (fun a n c m sa wz (h : IntAt wz a n c m Z) (g : IntsAt wz sa 1 1 (fun _ => Y)) => plus1_any a n c m Z sa Y wz h g 12 (by omega) (by omega))
  have P2 : Hid (∀ a n c m sa wz, IntAt wz a n c m Z → IntsAt wz sa 2 2 (fun j => if j = 0 then Y else -Y) → Calls Tryd.prog 64 #[.agg #[.slice a n c, .bool m], .slice sa 2 2] wz fun e w' => IntTold wz w' e Z) := fun a n c m sa wz h g => by
    have := plus2_any a n c m Z sa Y (-Y) wz h g 12 (by omega) (by rw [Int.natAbs_neg]; omega)
    rw [show Z + Y + -Y = Z by omega] at this; exact this
  have P0 := Lib.hid (fun a n c m wz (h : IntAt wz a n c m Z) => plus0_any a n c m Z wz h 11 (by omega) hN)
  have DG := Lib.hid (fun a n c m wz (h : IntAt wz a n c m (Z + Y)) => digits_any a n c m (Z + Y) ⟨#[45]⟩ wz h 12 (by omega) (by have := Int.natAbs_add_le Z Y; omega) (by decide) (by omega))
  have RA := Lib.hid (fun wz => rAdd_any Z Y wz (by omega) (by omega))
  have RD := Lib.hid (fun wz => rDigits_any (Z + Y) ⟨#[45]⟩ wz (by omega) (by decide))
  have C1 := Lib.hid (fun a n c m a2 n2 c2 m2 wz (h : IntAt wz a n c m Z) (g : IntAt wz a2 n2 c2 m2 Y) => icmp_any a n c m Z a2 n2 c2 m2 Y wz h g)
  have C2 := Lib.hid (fun a n c m a2 n2 c2 m2 wz (h : IntAt wz a n c m Y) (g : IntAt wz a2 n2 c2 m2 Z) => icmp_any a n c m Y a2 n2 c2 m2 Z wz h g)
  have C3 := Lib.hid (fun a n c m a2 n2 c2 m2 wz (h : IntAt wz a n c m Z) (g : IntAt wz a2 n2 c2 m2 Z) => icmp_any a n c m Z a2 n2 c2 m2 Z wz h g)
  rw [cmpZ_self] at C3
  have RC := Lib.hid (fun wz => rCmp_any Z Y wz (by omega) (by omega))
  have MN := Lib.hid (fun a n c m wz (h : IntAt wz a n c m Y) => minus_any a n c m Y wz h)
  have hbd := cmpZ_bd Z Y
  rw [cmpZ_turn Z Y] at C2
  obtain ⟨cm, hcm⟩ : ∃ cm, cmpZ Z Y = cm := ⟨_, rfl⟩
  rw [hcm] at C1 C2 RC hbd
  obtain ⟨cn, hcn⟩ : ∃ cn, -cm = cn := ⟨_, rfl⟩
  rw [hcn] at C2
  unfold RTold at RA
  obtain ⟨t1, ht1⟩ : ∃ t1, digS (Z + Y) ⟨#[45]⟩ = t1 := ⟨_, rfl⟩
  rw [ht1] at DG RD
  have z4 : (t1.toList == t1.toList) = true := by simp
  generalize rB (Z + Y) = b3 at *
  generalize rS (Z + Y) = d3 at *
  obtain ⟨b, hb⟩ : ∃ b, rB Z = b := ⟨_, rfl⟩
  obtain ⟨b2, hb2⟩ : ∃ b2, rB Y = b2 := ⟨_, rfl⟩
  rw [hb, hb2] at RA RC
  have HM1 : Hid (∀ wz a n c m, IntAt wz a n c m Z → m = b) := fun wz a n c m h => h.1.trans hb
  have HM2 : Hid (∀ wz a n c m, IntAt wz a n c m Y → m = b2) := fun wz a n c m h => h.1.trans hb2
  unfold ReadW at RR1 RR2
  rw [hb] at RR1
  rw [hb2] at RR2
  generalize rS Z = d at *
  generalize rS Y = d2 at *
  clear ht1 hb hb2 hZe hYe hZ hY hdl hdl2 hdl3 hN hM hk hk2 hs ht h12 h12b hcm
  have hw : IntKind.i64.wrap (-cm) = cn := by rw [IntWalk.i64_in _ (by omega)]; exact hcn
  have z5 : (cm == cm) = true := by simp
  have z6 : (cn == cn) = true := by simp
  clear hbd hcn
  all_goals
    go_enter Tryd.func12, Tryd.ntmps12
    go_wp2_with fail
    go_at_call 49
    (with_reducible refine (RR1.out _).mono ?_)
    rintro e w1 ⟨a, n, c, m, rfl, hi1, hb1⟩
    obtain rfl := HM1.out _ _ _ _ _ hi1
    have B1 := ((((Bag.start w).go hb1).int hi1).box2 (.slice a n c) (.bool m) 60).box2 (.bool m) (.string d) 62
    rw [World.size_alloc] at B1
    have BB := Lib.hid B1
    clear hi1 hb1 B1 HM1
    go_wp2_with fail
    go_at_call 49
    (with_reducible refine (RR2.out _).mono ?_)
    rintro e w2 ⟨a2, n2, c2, m2, rfl, hi2, hb2⟩
    obtain rfl := HM2.out _ _ _ _ _ hi2
    have B2 := (((BB.out.go hb2).int hi2).box2 (.slice a2 n2 c2) (.bool m2) 60).box2 (.bool m2) (.string d2) 62
    rw [World.size_alloc] at B2
    have BB := Lib.hid B2
    clear hi2 hb2 B2 HM2
    have HC : Hid (∀ y, (fun y => Slot2 y (w2.heap.size + 1) (.bool m2) (.string d2) ∧ Slot2 y w2.heap.size (.slice a2 n2 c2) (.bool m2) ∧ IntAt y a2 n2 c2 m2 Y ∧ Slot2 y (w1.heap.size + 1) (.bool m) (.string d) ∧ Slot2 y w1.heap.size (.slice a n c) (.bool m) ∧ IntAt y a n c m Z ∧ True) y → (y.cell? ⟨w1.heap.size, 0, none⟩ = some (.slice a n c) ∧ y.cell? ⟨w1.heap.size, 1, none⟩ = some (.bool m) ∧ y.cell? ⟨w1.heap.size + 1, 0, none⟩ = some (.bool m) ∧ y.cell? ⟨w1.heap.size + 1, 1, none⟩ = some (.string d) ∧ y.cell? ⟨w2.heap.size, 0, none⟩ = some (.slice a2 n2 c2) ∧ y.cell? ⟨w2.heap.size, 1, none⟩ = some (.bool m2) ∧ y.cell? ⟨w2.heap.size + 1, 0, none⟩ = some (.bool m2) ∧ y.cell? ⟨w2.heap.size + 1, 1, none⟩ = some (.string d2))) := fun y h => ⟨h.2.2.2.2.1.cell, h.2.2.2.2.1.cell1, h.2.2.2.1.cell, h.2.2.2.1.cell1, h.2.1.cell, h.2.1.cell1, h.1.cell, h.1.cell1⟩
    go_wp2_with fail
    go_region_held3 (fun y => (y.cell? ⟨w1.heap.size, 0, none⟩ = some (.slice a n c) ∧ y.cell? ⟨w1.heap.size, 1, none⟩ = some (.bool m) ∧ y.cell? ⟨w1.heap.size + 1, 0, none⟩ = some (.bool m) ∧ y.cell? ⟨w1.heap.size + 1, 1, none⟩ = some (.string d) ∧ y.cell? ⟨w2.heap.size, 0, none⟩ = some (.slice a2 n2 c2) ∧ y.cell? ⟨w2.heap.size, 1, none⟩ = some (.bool m2) ∧ y.cell? ⟨w2.heap.size + 1, 0, none⟩ = some (.bool m2) ∧ y.cell? ⟨w2.heap.size + 1, 1, none⟩ = some (.string d2)) ∧ Bag w (fun y => Slot2 y (w2.heap.size + 1) (.bool m2) (.string d2) ∧ Slot2 y w2.heap.size (.slice a2 n2 c2) (.bool m2) ∧ IntAt y a2 n2 c2 m2 Y ∧ Slot2 y (w1.heap.size + 1) (.bool m) (.string d) ∧ Slot2 y w1.heap.size (.slice a n c) (.bool m) ∧ IntAt y a n c m Z ∧ True) y)
      ((refine (fun h => ⟨HC.out _ h.now, h⟩ : Bag w (fun y => Slot2 y (w2.heap.size + 1) (.bool m2) (.string d2) ∧ Slot2 y w2.heap.size (.slice a2 n2 c2) (.bool m2) ∧ IntAt y a2 n2 c2 m2 Y ∧ Slot2 y (w1.heap.size + 1) (.bool m) (.string d) ∧ Slot2 y w1.heap.size (.slice a n c) (.bool m) ∧ IntAt y a n c m Z ∧ True) _ → _) ?_; (first | exact BB.out.drew | exact Bag.go (show Bag w (fun y => Slot2 y (w2.heap.size + 1) (.bool m2) (.string d2) ∧ Slot2 y w2.heap.size (.slice a2 n2 c2) (.bool m2) ∧ IntAt y a2 n2 c2 m2 Y ∧ Slot2 y (w1.heap.size + 1) (.bool m) (.string d) ∧ Slot2 y w1.heap.size (.slice a n c) (.bool m) ∧ IntAt y a n c m Z ∧ True) _ from by go_split_ands; assumption) hbz | exact Bag.alloc (show Bag w (fun y => Slot2 y (w2.heap.size + 1) (.bool m2) (.string d2) ∧ Slot2 y w2.heap.size (.slice a2 n2 c2) (.bool m2) ∧ IntAt y a2 n2 c2 m2 Y ∧ Slot2 y (w1.heap.size + 1) (.bool m) (.string d) ∧ Slot2 y w1.heap.size (.slice a n c) (.bool m) ∧ IntAt y a n c m Z ∧ True) _ from by go_split_ands; assumption) _ | exact (Bag.alloc BB.out _).drew)))
      (first
        | (go_at_call 64; (with_reducible refine (P1.out a n c m _ _ ?_ ?_).mono ?_); exact (show Bag w (fun y => Slot2 y (w2.heap.size + 1) (.bool m2) (.string d2) ∧ Slot2 y w2.heap.size (.slice a2 n2 c2) (.bool m2) ∧ IntAt y a2 n2 c2 m2 Y ∧ Slot2 y (w1.heap.size + 1) (.bool m) (.string d) ∧ Slot2 y w1.heap.size (.slice a n c) (.bool m) ∧ IntAt y a n c m Z ∧ True) _ from by go_split_ands; assumption).now.2.2.2.2.2.1; (first | exact IntsAt.mk1 rfl (show Bag w (fun y => Slot2 y (w2.heap.size + 1) (.bool m2) (.string d2) ∧ Slot2 y w2.heap.size (.slice a2 n2 c2) (.bool m2) ∧ IntAt y a2 n2 c2 m2 Y ∧ Slot2 y (w1.heap.size + 1) (.bool m) (.string d) ∧ Slot2 y w1.heap.size (.slice a n c) (.bool m) ∧ IntAt y a n c m Z ∧ True) _ from by go_split_ands; assumption).now.2.2.1 | exact (IntsAt.mk1 (by simp) (Bag.alloc BB.out _).now.2.2.1).below ((Below.refl _ _).drew)); rintro e wy ⟨a5, n5, c5, m5, rfl, hi5, hbz⟩)
        | (go_at_call 58; (with_reducible refine (DG.out a5 n5 c5 m5 _ hi5).mono ?_); rintro e wy ⟨rfl, hbz⟩)
        | (go_at_call 65; (with_reducible refine (RA.out _).mono ?_); rintro e wy ⟨rfl, hbz⟩)
        | (go_at_call 59; (with_reducible refine (RD.out _).mono ?_); rintro e wy ⟨rfl, hbz⟩)
        | (go_at_call 63; (with_reducible refine (C1.out a n c m a2 n2 c2 m2 _ ?_ ?_).mono ?_); exact (show Bag w (fun y => Slot2 y (w2.heap.size + 1) (.bool m2) (.string d2) ∧ Slot2 y w2.heap.size (.slice a2 n2 c2) (.bool m2) ∧ IntAt y a2 n2 c2 m2 Y ∧ Slot2 y (w1.heap.size + 1) (.bool m) (.string d) ∧ Slot2 y w1.heap.size (.slice a n c) (.bool m) ∧ IntAt y a n c m Z ∧ True) _ from by go_split_ands; assumption).now.2.2.2.2.2.1; exact (show Bag w (fun y => Slot2 y (w2.heap.size + 1) (.bool m2) (.string d2) ∧ Slot2 y w2.heap.size (.slice a2 n2 c2) (.bool m2) ∧ IntAt y a2 n2 c2 m2 Y ∧ Slot2 y (w1.heap.size + 1) (.bool m) (.string d) ∧ Slot2 y w1.heap.size (.slice a n c) (.bool m) ∧ IntAt y a n c m Z ∧ True) _ from by go_split_ands; assumption).now.2.2.1; rintro e wy ⟨rfl, hbz⟩)
        | (go_at_call 66; (with_reducible refine (RC.out _).mono ?_); rintro e wy ⟨rfl, hbz⟩)
        | (go_at_call 63; (with_reducible refine (C2.out a2 n2 c2 m2 a n c m _ ?_ ?_).mono ?_); exact (show Bag w (fun y => Slot2 y (w2.heap.size + 1) (.bool m2) (.string d2) ∧ Slot2 y w2.heap.size (.slice a2 n2 c2) (.bool m2) ∧ IntAt y a2 n2 c2 m2 Y ∧ Slot2 y (w1.heap.size + 1) (.bool m) (.string d) ∧ Slot2 y w1.heap.size (.slice a n c) (.bool m) ∧ IntAt y a n c m Z ∧ True) _ from by go_split_ands; assumption).now.2.2.1; exact (show Bag w (fun y => Slot2 y (w2.heap.size + 1) (.bool m2) (.string d2) ∧ Slot2 y w2.heap.size (.slice a2 n2 c2) (.bool m2) ∧ IntAt y a2 n2 c2 m2 Y ∧ Slot2 y (w1.heap.size + 1) (.bool m) (.string d) ∧ Slot2 y w1.heap.size (.slice a n c) (.bool m) ∧ IntAt y a n c m Z ∧ True) _ from by go_split_ands; assumption).now.2.2.2.2.2.1; rintro e wy ⟨rfl, hbz⟩)
        | (go_at_call 57; (with_reducible refine (MN.out a2 n2 c2 m2 _ ?_).mono ?_); exact (show Bag w (fun y => Slot2 y (w2.heap.size + 1) (.bool m2) (.string d2) ∧ Slot2 y w2.heap.size (.slice a2 n2 c2) (.bool m2) ∧ IntAt y a2 n2 c2 m2 Y ∧ Slot2 y (w1.heap.size + 1) (.bool m) (.string d) ∧ Slot2 y w1.heap.size (.slice a n c) (.bool m) ∧ IntAt y a n c m Z ∧ True) _ from by go_split_ands; assumption).now.2.2.1; rintro e wy ⟨a6, n6, c6, m6, rfl, hi6, hbz⟩)
        | (go_at_call 64; (with_reducible refine (P2.out a n c m _ _ ?_ ?_).mono ?_); exact (show Bag w (fun y => Slot2 y (w2.heap.size + 1) (.bool m2) (.string d2) ∧ Slot2 y w2.heap.size (.slice a2 n2 c2) (.bool m2) ∧ IntAt y a2 n2 c2 m2 Y ∧ Slot2 y (w1.heap.size + 1) (.bool m) (.string d) ∧ Slot2 y w1.heap.size (.slice a n c) (.bool m) ∧ IntAt y a n c m Z ∧ True) _ from by go_split_ands; assumption).now.2.2.2.2.2.1; exact IntsAt.mk2 rfl (show Bag w (fun y => Slot2 y (w2.heap.size + 1) (.bool m2) (.string d2) ∧ Slot2 y w2.heap.size (.slice a2 n2 c2) (.bool m2) ∧ IntAt y a2 n2 c2 m2 Y ∧ Slot2 y (w1.heap.size + 1) (.bool m) (.string d) ∧ Slot2 y w1.heap.size (.slice a n c) (.bool m) ∧ IntAt y a n c m Z ∧ True) _ from by go_split_ands; assumption).now.2.2.1 (hi6.below ((Below.refl _ _).alloc (Nat.le_refl _) _)); rintro e wy ⟨a7, n7, c7, m7, rfl, hi7, hbz⟩)
        | (go_at_call 63; (with_reducible refine (C3.out a7 n7 c7 m7 a n c m _ hi7 ?_).mono ?_); exact (show Bag w (fun y => Slot2 y (w2.heap.size + 1) (.bool m2) (.string d2) ∧ Slot2 y w2.heap.size (.slice a2 n2 c2) (.bool m2) ∧ IntAt y a2 n2 c2 m2 Y ∧ Slot2 y (w1.heap.size + 1) (.bool m) (.string d) ∧ Slot2 y w1.heap.size (.slice a n c) (.bool m) ∧ IntAt y a n c m Z ∧ True) _ from by go_split_ands; assumption).now.2.2.2.2.2.1; rintro e wy ⟨rfl, hbz⟩)
        | (go_at_call 64; (with_reducible refine (P0.out a n c m _ ?_).mono ?_); exact (show Bag w (fun y => Slot2 y (w2.heap.size + 1) (.bool m2) (.string d2) ∧ Slot2 y w2.heap.size (.slice a2 n2 c2) (.bool m2) ∧ IntAt y a2 n2 c2 m2 Y ∧ Slot2 y (w1.heap.size + 1) (.bool m) (.string d) ∧ Slot2 y w1.heap.size (.slice a n c) (.bool m) ∧ IntAt y a n c m Z ∧ True) _ from by go_split_ands; assumption).now.2.2.2.2.2.1; rintro e wy ⟨a8, n8, c8, m8, rfl, hi8, hbz⟩)
        | (go_at_call 63; (with_reducible refine (C3.out a8 n8 c8 m8 a n c m _ hi8 ?_).mono ?_); exact (show Bag w (fun y => Slot2 y (w2.heap.size + 1) (.bool m2) (.string d2) ∧ Slot2 y w2.heap.size (.slice a2 n2 c2) (.bool m2) ∧ IntAt y a2 n2 c2 m2 Y ∧ Slot2 y (w1.heap.size + 1) (.bool m) (.string d) ∧ Slot2 y w1.heap.size (.slice a n c) (.bool m) ∧ IntAt y a n c m Z ∧ True) _ from by go_split_ands; assumption).now.2.2.2.2.2.1; rintro e wy ⟨rfl, hbz⟩)
        | (go_at_call 50; refine (awake2_any _).mono ?_; rintro e wy ⟨rfl, hbz⟩))
    have B3 := Lib.hid (show Bag w (fun y => Slot2 y (w2.heap.size + 1) (.bool m2) (.string d2) ∧ Slot2 y w2.heap.size (.slice a2 n2 c2) (.bool m2) ∧ IntAt y a2 n2 c2 m2 Y ∧ Slot2 y (w1.heap.size + 1) (.bool m) (.string d) ∧ Slot2 y w1.heap.size (.slice a n c) (.bool m) ∧ IntAt y a n c m Z ∧ True) _ from by go_split_ands; assumption)
    go_wp2
    go_ret
    exact ⟨rfl, B3.out.below⟩

theorem wholeSums_walk (s t : ByteArray) (w : World) (hs : s.size ≤ maxLen) (ht : t.size ≤ maxLen) :
    Calls Tryd.prog 12 #[.string s, .string t] w fun e w' => e = .returned (.bool true) ∧ Below w.heap.size w w' := by
  cases h : (rdK s && rdK t) with
  | false => exact wholeSums_no s t w hs ht h
  | true =>
    rw [Bool.and_eq_true] at h
    exact wholeSums_yes s t w hs ht h.1 h.2

theorem own : ownKnob Tryd.prog.godebug = none := by kernel_rfl

set_option maxRecDepth 100000 in
theorem wholeSums_lifted (os : Os) (started : os.Started) (H : Type) (enc : TypeId × Value → H) :
    ReturnsInHanded {} Tryd.checked os 12 .any (fun w args => (Rows.wholeSumsSpec.pre enc Tryd.prog Tryd.f12 [] false w args ∧ laidMetH Tryd.prog Rows.wholeSumsRow.laid w) ∧ sizedMet enc Tryd.prog Tryd.f12 (OpenSpec.ofChange Rows.wholeSumsSpec) false w args)
      (Rows.wholeSumsSpec.post enc Tryd.prog Tryd.f12 false true false false) := by
  refine returnsInHanded_of_change_and (C := Tryd.checked) (X := fun w _ => laidMetH Tryd.prog Rows.wholeSumsRow.laid w) (fun _ _ _ hh h => h.of_heap hh) own started (by kernel_rfl) Tryd.func12
    (ChangeSpec.witness_shaped (enc := enc) (C := Tryd.checked) (os := os) (X := fun w _ => laidMetH Tryd.prog Rows.wholeSumsRow.laid w) false (World.laidAll Tryd.prog os Rows.wholeSumsRow.laid) #[.string ⟨#[]⟩, .string ⟨#[]⟩] 8 (World.laidAll_os _ _ _)
      (World.shaped_of_ZipB (by kernel_rfl) (by kernel_rfl)) (by kernel_rfl) (by kernel_rfl) (by kernel_rfl)
      (by rw [MakeChecks.laidMetH_plain _ _ _ (by kernel_rfl)]; exact laidMet_laidAll _ (by kernel_rfl) (by kernel_rfl))) ?_
  intro W base args ds gs before hval0 hW _ _ _ _
  have hval : ∀ (j : Nat) t v, Tryd.f12.params[j]? = some t → args[j]? = some v → Value.okWide Tryd.prog W .any base t v := hval0
  have hW' := hW
  obtain ⟨p, q, hA0, hV, rfl, _, _⟩ := hW
  have hA : DataW.TrodAll enc Tryd.prog W 0 (fun _ => true) true Tryd.f12.params.toList args.toList ds p := hA0
  rw [Tryd.params12] at hA hval
  obtain ⟨v0, v1, d0, d1, p0, p1, rfl, rfl, rfl, h0, h1⟩ := trodAll_two hA
  obtain ⟨rfl, rfl⟩ := trodVars_none hV
  obtain ⟨x0, rfl, rfl, rfl, b0⟩ := open_string Tryd.underlying9 (hval 0 9 v0 rfl rfl) h0
  obtain ⟨x1, rfl, rfl, rfl, b1⟩ := open_string Tryd.underlying9 (hval 1 9 v1 rfl rfl) h1
  simp only [List.append_nil] at hW'
  refine (wholeSums_walk x0 x1 W b0 b1).mono fun e W' ⟨he, hb⟩ => ?_
  subst he
  exact ⟨_, rfl, _, _, _, [], [], [], hW', trodAll_mk1 (shut_bool Tryd.underlying4 _), trodAll_mk2 (shut_string Tryd.underlying9 b0) (shut_string Tryd.underlying9 b1), rfl, hb.frame _, fun h => by cases h⟩

theorem wholeSums_row : Rows.WholeSumsSaid :=
  OpenClaim.holds_of_wide 12 Tryd.f12 rfl rfl rfl rfl rfl rfl rfl ⟨rfl, rfl, rfl, rfl, rfl⟩ rfl rfl rfl rfl rfl (by kernel_rfl) Tryd.func12 (by kernel_rfl)
    (of_decide_eq_true (by kernel_rfl)) (by unfold Func.isWrapper; first | (rw [if_pos (by decide +kernel)]; kernel_rfl) | (rw [if_neg (by decide +kernel)]; exact ⟨rfl, rfl⟩))
    (fun os started H enc _ => wholeSums_lifted os started H enc)

theorem wholeSums_holds : Rows.WholeSumsCardSaid :=
  Claim7.holds_tied_plain_at .later [] [.data, .pinned] true Rows.wholeSumsCard.stood.harness false wholeSums_row (fun _ h => by cases h) (by kernel_rfl) (fun _ h => by cases h) wholeSums_row_tie rfl ⟨rfl, rfl⟩ (by kernel_rfl) rfl
    (fun f fn hf hfn => by
      obtain rfl : f = 12 := Option.some.inj ((show Tryd.prog.funcNamed "typeball/typeballlaw02.WholeSums" = some 12 by kernel_rfl).symm.trans hf) |>.symm
      obtain rfl : fn = Tryd.f12 := (Option.some.inj (Tryd.func12.symm.trans hfn)).symm
      exact ⟨by kernel_rfl, fun j t ht => by
        rw [Tryd.params12] at ht
        have hm : t ∈ [9] := by simpa using Array.mem_of_getElem? ht
        have hall : ([9].all fun u => !Tryd.prog.wantsStandIn u) = true := by kernel_rfl
        exact (show Tryd.prog.wantsStandIn t = false by simpa using List.all_eq_true.1 hall t hm)⟩)
    (by kernel_rfl)
#print axioms wholeSums_holds
end Go.Proofs.YtkjdoknmmiaapaaDoor
