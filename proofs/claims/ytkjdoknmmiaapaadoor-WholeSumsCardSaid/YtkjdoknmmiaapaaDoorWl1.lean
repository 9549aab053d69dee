/-
  Package typeballlaw02: awake returns true (the chapter's examples).
-/
import Derived.Test.YtkjdoknmmiaapaaDoorWh8
import Derived.Test.YtkjdoknmmiaapaaDoorWh9
import Derived.Test.YtkjdoknmmiaapaaDoorWh10
import Derived.Test.YtkjdoknmmiaapaaDoorWr1
import Derived.Test.YtkjdoknmmiaapaaDoorLaw0
namespace Go.Proofs.YtkjdoknmmiaapaaDoor
open Go.RowKit
attribute [local go_sem ↓] Go.wp_at_zero Go.wp_at_succ

theorem floor_any (a : Option Addr) (n c : Nat) (m : Bool) (Z : Int) (a2 : Option Addr) (n2 c2 : Nat) (m2 : Bool) (Y : Int) (w : World) (h : IntAt w a n c m Z) (g : IntAt w a2 n2 c2 m2 Y) (K : Nat) (hK : K ≤ 800000) (hZ : Z.natAbs < 4294967296 ^ K) (hY : Y ≠ 0) :
    Calls Tryd.prog 69 #[.agg #[.slice a n c, .bool m], .agg #[.slice a2 n2 c2, .bool m2]] w fun e w' => FloorTold w w' e (flQ Z Y) (flR Z Y) := by
  cases hap : (m != m2) with
  | false => exact floor_same a n c m Z a2 n2 c2 m2 Y w h g K hK hZ hY hap
  | true =>
    by_cases hr : Z.natAbs % Y.natAbs = 0
    · exact floor_even a n c m Z a2 n2 c2 m2 Y w h g K hK hZ hY hap hr
    · exact floor_odd a n c m Z a2 n2 c2 m2 Y w h g K hK hZ hY hap hr

theorem fl1 : flQ (-7) 2 = -4 ∧ flR (-7) 2 = 1 ∧ flQ 7 (-2) = -4 ∧ flR 7 (-2) = -1 := by decide
theorem digs4 : digS (-4) ⟨#[45]⟩ = ⟨#[45, 52]⟩ := by
  unfold digS; rw [if_pos (by omega), show (-4 : Int).natAbs = 4 from rfl, dec_small (by omega)]; rfl
theorem digs1 : digS 1 ⟨#[45]⟩ = ⟨#[49]⟩ := by
  unfold digS; rw [if_neg (by omega), show (1 : Int).natAbs = 1 from rfl, dec_small (by omega)]; rfl
theorem digsm1 : digS (-1) ⟨#[45]⟩ = ⟨#[45, 49]⟩ := by
  unfold digS; rw [if_pos (by omega), show (-1 : Int).natAbs = 1 from rfl, dec_small (by omega)]; rfl

theorem digits_small (a : Option Addr) (n c : Nat) (m : Bool) (Z : Int) (t : ByteArray) (w : World) (h : IntAt w a n c m Z) (hz : Z.natAbs < 10) (ht : digS Z ⟨#[45]⟩ = t) :
    Calls Tryd.prog 58 #[.agg #[.slice a n c, .bool m], .string ⟨#[45]⟩] w fun e w' => e = .returned (.string t) ∧ Below w.heap.size w w' := by
  have := digits_any a n c m Z ⟨#[45]⟩ w h 1 (by omega) (by rw [Nat.pow_one]; omega) (by decide) (by have := dl_le Z.natAbs 1 (by omega) (by omega); omega)
  rw [ht] at this; exact this

set_option maxHeartbeats 1600000 in
set_option maxRecDepth 100000 in
theorem awake2_any (w : World) : Calls Tryd.prog 50 #[] w fun e w' => e = .returned (.bool true) ∧ Below w.heap.size w w' := by
  have FR := Lib.hid (fun X wz h => from_any X wz h)
  have FL := Lib.hid (fun a n c m Z a2 n2 c2 m2 Y wz h g hZ hY => floor_any a n c m Z a2 n2 c2 m2 Y wz h g 1 (by omega) hZ hY)
  go_enter Tryd.func50, Tryd.ntmps50
  go_wp2_with fail
  go_at_call 61
  refine (FR.out (-7) _ (by omega)).mono ?_
  rintro e w1 ⟨a1, n1, c1, m1, rfl, hi1, hb1⟩
  have BB := Lib.hid (((Bag.start w).go hb1).int hi1)
  clear hi1 hb1
  go_wp2_with fail
  go_at_call 61
  refine (FR.out 2 _ (by omega)).mono ?_
  rintro e w2 ⟨a2, n2, c2, m2, rfl, hi2, hb2⟩
  have BB := Lib.hid ((BB.out.go hb2).int hi2)
  clear hi2 hb2
  go_wp2_with fail
  go_at_call 69
  refine (FL.out _ _ _ _ (-7) _ _ _ _ 2 _ BB.out.now.2.1 BB.out.now.1 (by rw [Nat.pow_one]; decide) (by decide)).mono ?_
  rintro e w3 ⟨a3, n3, c3, m3, a4, n4, c4, m4, rfl, hi3, hi4, hb3⟩
  rw [fl1.1] at hi3
  rw [fl1.2.1] at hi4
  have B3 := (((((Bag.start w).go (BB.out.go hb3).below).int hi3).int hi4).box2 (.slice a3 n3 c3) (.bool m3) 60).box2 (.slice a4 n4 c4) (.bool m4) 60
  rw [World.size_alloc] at B3
  have BB := Lib.hid B3
  clear hi3 hi4 hb3 B3
  go_wp2_with fail
  go_at_call 61
  refine (FR.out 7 _ (by omega)).mono ?_
  rintro e w4 ⟨a5, n5, c5, m5, rfl, hi5, hb4⟩
  have BB := Lib.hid ((BB.out.go hb4).int hi5)
  clear hi5 hb4
  go_wp2_with fail
  go_at_call 61
  refine (FR.out (-2) _ (by omega)).mono ?_
  rintro e w5 ⟨a6, n6, c6, m6, rfl, hi6, hb5⟩
  have BB := Lib.hid ((BB.out.go hb5).int hi6)
  clear hi6 hb5
  go_wp2_with fail
  go_at_call 69
  refine (FL.out _ _ _ _ 7 _ _ _ _ (-2) _ BB.out.now.2.1 BB.out.now.1 (by rw [Nat.pow_one]; decide) (by decide)).mono ?_
  rintro e w6 ⟨a7, n7, c7, m7, a8, n8, c8, m8, rfl, hi7, hi8, hb6⟩
  rw [fl1.2.2.1] at hi7
  rw [fl1.2.2.2] at hi8
  have B6 := ((((BB.out.go hb6).int hi7).int hi8).box2 (.slice a7 n7 c7) (.bool m7) 60).box2 (.slice a8 n8 c8) (.bool m8) 60
  rw [World.size_alloc] at B6
  have BB := Lib.hid B6
  clear hi7 hi8 hb6 B6
  have q0 := BB.out.now.2.2.2.2.2.2.2.1.cell
  have q1 := BB.out.now.2.2.2.2.2.2.2.1.cell1
  go_wp2_with fail
  go_at_call 58
  refine (digits_small a3 n3 c3 m3 (-4) ⟨#[45, 52]⟩ _ BB.out.now.2.2.2.2.2.2.2.2.2.1 (by decide) digs4).mono ?_
  rintro e w7 ⟨rfl, hb7⟩
  have BB := Lib.hid (BB.out.go hb7)
  clear hb7 q0 q1
  have q0 := BB.out.now.2.2.2.2.2.2.1.cell
  have q1 := BB.out.now.2.2.2.2.2.2.1.cell1
  go_wp2_with fail
  go_at_call 58
  refine (digits_small a4 n4 c4 m4 1 ⟨#[49]⟩ _ BB.out.now.2.2.2.2.2.2.2.2.1 (by decide) digs1).mono ?_
  rintro e w8 ⟨rfl, hb7⟩
  have BB := Lib.hid (BB.out.go hb7)
  clear hb7 q0 q1
  have q0 := BB.out.now.2.1.cell
  have q1 := BB.out.now.2.1.cell1
  go_wp2_with fail
  go_at_call 58
  refine (digits_small a7 n7 c7 m7 (-4) ⟨#[45, 52]⟩ _ BB.out.now.2.2.2.1 (by decide) digs4).mono ?_
  rintro e w9 ⟨rfl, hb7⟩
  have BB := Lib.hid (BB.out.go hb7)
  clear hb7 q0 q1
  have q0 := BB.out.now.1.cell
  have q1 := BB.out.now.1.cell1
  go_wp2_with fail
  go_at_call 58
  refine (digits_small a8 n8 c8 m8 (-1) ⟨#[45, 49]⟩ _ BB.out.now.2.2.1 (by decide) digsm1).mono ?_
  rintro e w10 ⟨rfl, hb7⟩
  have BB := Lib.hid (BB.out.go hb7)
  clear hb7 q0 q1
  go_wp2
  go_ret
  exact ⟨rfl, BB.out.below⟩

end Go.Proofs.YtkjdoknmmiaapaaDoor
