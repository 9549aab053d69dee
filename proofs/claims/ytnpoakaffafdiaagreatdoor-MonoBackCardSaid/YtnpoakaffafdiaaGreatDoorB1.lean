/-
  Texts of this seat, laid together.
-/
import Derived.BigRegion
import Derived.RegionTactic
import Derived.Deep.RegionWith
import Derived.Deep.RegionHeld3
import Derived.Deep.DrawnRows
import Derived.IntWalk
import Derived.Laws.BitsLemmas
import Derived.Lib.ItoaNum
import Derived.Test.YtnpoakaffafdiaaGreatDoorShelf
import Derived.WalkKit
import Derived.WalkSpells
import Derived.Deep.Draws
import Derived.Lib.Hide
import Derived.Lib.TrimByte
import Derived.WalkLawsBesides
import Derived.Laws.CopyOwn
import Derived.Deep.QuietTactic
import Derived.BigQuiet
import Derived.StillTailTactics
import Derived.Test.YtnpoakaffafdiaaGreatDoorRows
import Derived.Laws.BytesArg
import Derived.Below
import Derived.Test.YtnpoakaffafdiaaGreatDoorM1
import Derived.Test.YtnpoakaffafdiaaGreatDoorM2
import Derived.Test.YtnpoakaffafdiaaGreatDoorM3
import Derived.Test.YtnpoakaffafdiaaGreatDoorM4
import Derived.Test.YtnpoakaffafdiaaGreatDoorM5
import Derived.Test.YtnpoakaffafdiaaGreatDoorM6
import Derived.Test.YtnpoakaffafdiaaGreatDoorM7
import Derived.Test.YtnpoakaffafdiaaGreatDoorM8

namespace Go.Proofs.YtnpoakaffafdiaaGreatDoor
open Go.RowKit
end Go.Proofs.YtnpoakaffafdiaaGreatDoor
namespace Go.Proofs.YtnpoakaffafdiaaGreatDoor
open Go.RowKit
attribute [local go_sem ↓] Go.wp_at_zero Go.wp_at_succ
end Go.Proofs.YtnpoakaffafdiaaGreatDoor
namespace Go.Proofs.YtnpoakaffafdiaaGreatDoor
open Go.RowKit
attribute [local go_sem ↓] Go.wp_at_zero Go.wp_at_succ
end Go.Proofs.YtnpoakaffafdiaaGreatDoor
namespace Go.Proofs.YtnpoakaffafdiaaGreatDoor
open Go.RowKit
attribute [local go_sem ↓] Go.wp_at_zero Go.wp_at_succ
set_option maxHeartbeats 1600000 in
set_option maxRecDepth 100000 in
theorem icmp_any (a : Option Addr) (n c : Nat) (m : Bool) (Z : Int) (a2 : Option Addr) (n2 c2 : Nat) (m2 : Bool) (Y : Int) (w : World) (h : IntAt w a n c m Z) (g : IntAt w a2 n2 c2 m2 Y) :
    Calls Tryz.prog 81 #[.agg #[.slice a n c, .bool m], .agg #[.slice a2 n2 c2, .bool m2]] w fun e w' => e = .returned (.int .i64 (cmpZ Z Y)) ∧ Below w.heap.size w w' := by
  have B0 := ((((Bag.start w).int h).int g).box2 (.slice a n c) (.bool m) 58).box2 (.slice a2 n2 c2) (.bool m2) 58
  rw [World.size_alloc] at B0
  have q0 := B0.now.2.1.cell
  have q1 := B0.now.2.1.cell1
  have q2 := B0.now.1.cell
  have q3 := B0.now.1.cell1
  have BB := Lib.hid B0
  have N1 : Hid (∀ wz, IntAt wz a n c m Z → Calls Tryz.prog 136 #[.agg #[.slice a n c, .bool m]] wz fun e w' => e = .returned (.bool m) ∧ Below wz.heap.size wz w') := fun wz hz => neg_any a n c m Z wz hz
  have N2 : Hid (∀ wz, IntAt wz a2 n2 c2 m2 Y → Calls Tryz.prog 136 #[.agg #[.slice a2 n2 c2, .bool m2]] wz fun e w' => e = .returned (.bool m2) ∧ Below wz.heap.size wz w') := fun wz hz => neg_any a2 n2 c2 m2 Y wz hz
  have HE : Hid (cmpZ Z Y = if m then (if m2 then cmpI Y.natAbs Z.natAbs else -1) else (if m2 then 1 else cmpI Z.natAbs Y.natAbs)) := by
    show _ = _
    rw [h.1, g.1]; unfold cmpZ cmpI
    by_cases h2 : Z < 0
    · by_cases h3 : Y < 0
      · rw [decide_eq_true h2, decide_eq_true h3]; simp only [if_true]; (repeat' split) <;> omega
      · rw [decide_eq_true h2, decide_eq_false h3, if_pos (by omega)]; rfl
    · by_cases h3 : Y < 0
      · rw [decide_eq_false h2, decide_eq_true h3, if_neg (by omega), if_neg (by omega)]; rfl
      · rw [decide_eq_false h2, decide_eq_false h3]; simp only [Bool.false_eq_true, if_false]; (repeat' split) <;> omega
  have CM : Hid (∀ wz, IntAt wz a n c m Z → IntAt wz a2 n2 c2 m2 Y → Calls Tryz.prog 139 #[.agg #[.slice a n c], .agg #[.slice a2 n2 c2]] wz fun e w' => e = .returned (.int .i64 (cmpI Z.natAbs Y.natAbs)) ∧ Below wz.heap.size wz w') := fun wz hz hy => cmp_any _ _ _ _ wz hz.2 hy.2
  have CN : Hid (∀ wz, IntAt wz a n c m Z → IntAt wz a2 n2 c2 m2 Y → Calls Tryz.prog 139 #[.agg #[.slice a2 n2 c2], .agg #[.slice a n c]] wz fun e w' => e = .returned (.int .i64 (cmpI Y.natAbs Z.natAbs)) ∧ Below wz.heap.size wz w') := fun wz hz hy => cmp_any _ _ _ _ wz hy.2 hz.2
  clear h g B0
  go_enter Tryz.func81, Tryz.ntmps81
  go_wp2_with fail
  go_at_call 136
  refine (N1.out _ BB.out.now.2.2.2.1).mono ?_
  rintro e w2 ⟨rfl, hb2⟩
  have BB := Lib.hid (BB.out.go hb2)
  clear hb2 q0 q1 q2 q3
  have q0 := BB.out.now.2.1.cell
  have q1 := BB.out.now.2.1.cell1
  have q2 := BB.out.now.1.cell
  have q3 := BB.out.now.1.cell1
  cases m with
  | true =>
    go_wp2_with fail
    go_at_call 136
    refine (N2.out _ BB.out.now.2.2.1).mono ?_
    rintro e w3 ⟨rfl, hb2⟩
    have BB := Lib.hid (BB.out.go hb2)
    clear hb2 q0 q1 q2 q3
    have q0 := BB.out.now.2.1.cell
    have q1 := BB.out.now.2.1.cell1
    have q2 := BB.out.now.1.cell
    have q3 := BB.out.now.1.cell1
    cases m2 with
    | true =>
      go_wp2_with fail
      go_at_call 139
      refine (CN.out _ BB.out.now.2.2.2.1 BB.out.now.2.2.1).mono ?_
      rintro e w4 ⟨rfl, hb2⟩
      have BB := Lib.hid (BB.out.go hb2)
      clear hb2 q0 q1 q2 q3
      go_wp2
      go_ret
      exact ⟨ret_int HE.out.symm, BB.out.below⟩
    | false =>
      go_wp2_with fail
      go_at_call 136
      refine (N1.out _ BB.out.now.2.2.2.1).mono ?_
      rintro e w4 ⟨rfl, hb2⟩
      have BB := Lib.hid (BB.out.go hb2)
      clear hb2 q0 q1 q2 q3
      go_wp2
      go_ret
      exact ⟨ret_int HE.out.symm, BB.out.below⟩
  | false =>
    go_wp2_with fail
    go_at_call 136
    refine (N1.out _ BB.out.now.2.2.2.1).mono ?_
    rintro e w3 ⟨rfl, hb2⟩
    have BB := Lib.hid (BB.out.go hb2)
    clear hb2 q0 q1 q2 q3
    have q0 := BB.out.now.2.1.cell
    have q1 := BB.out.now.2.1.cell1
    have q2 := BB.out.now.1.cell
    have q3 := BB.out.now.1.cell1
    go_wp2_with fail
    go_at_call 136
    refine (N2.out _ BB.out.now.2.2.1).mono ?_
    rintro e w4 ⟨rfl, hb2⟩
    have BB := Lib.hid (BB.out.go hb2)
    clear hb2 q0 q1 q2 q3
    have q0 := BB.out.now.2.1.cell
    have q1 := BB.out.now.2.1.cell1
    have q2 := BB.out.now.1.cell
    have q3 := BB.out.now.1.cell1
    cases m2 with
    | true =>
      go_wp2
      go_ret
      exact ⟨ret_int HE.out.symm, BB.out.below⟩
    | false =>
      go_wp2_with fail
      go_at_call 139
      refine (CM.out _ BB.out.now.2.2.2.1 BB.out.now.2.2.1).mono ?_
      rintro e w5 ⟨rfl, hb2⟩
      have BB := Lib.hid (BB.out.go hb2)
      clear hb2 q0 q1 q2 q3
      go_wp2
      go_ret
      exact ⟨ret_int HE.out.symm, BB.out.below⟩
end Go.Proofs.YtnpoakaffafdiaaGreatDoor
namespace Go.Proofs.YtnpoakaffafdiaaGreatDoor
open Go.RowKit
end Go.Proofs.YtnpoakaffafdiaaGreatDoor

namespace Go.Proofs.YtnpoakaffafdiaaGreatDoor
open Go.RowKit
attribute [local go_sem ↓] Go.wp_at_zero Go.wp_at_succ
set_option maxHeartbeats 1600000 in
set_option maxRecDepth 100000 in
theorem plusOne_same (a : Option Addr) (n c : Nat) (m : Bool) (Z : Int) (a2 : Option Addr) (n2 c2 : Nat) (m2 : Bool) (Y : Int) (w : World) (h : IntAt w a n c m Z) (g : IntAt w a2 n2 c2 m2 Y)
    (k : Nat) (hk : k ≤ 900000) (hZ : Z.natAbs < 4294967296 ^ k) (hY : Y.natAbs < 4294967296 ^ k) (hmm : m = m2) :
    Calls Tryz.prog 170 #[.agg #[.slice a n c, .bool m], .agg #[.slice a2 n2 c2, .bool m2]] w fun e w' => IntTold w w' e (Z + Y) := by
  have BB := Lib.hid (PO.start h g)
  have N1 : Hid (∀ wz, Bag w (PO w.heap.size a n c m Z a2 n2 c2 m2 Y) wz → Calls Tryz.prog 136 #[.agg #[.slice a n c, .bool m]] wz fun e w' => e = .returned (.bool m) ∧ Below wz.heap.size wz w') := fun wz hz => neg_any a n c m Z wz hz.now.2.2.2.2
  have N2 : Hid (∀ wz, Bag w (PO w.heap.size a n c m Z a2 n2 c2 m2 Y) wz → Calls Tryz.prog 136 #[.agg #[.slice a2 n2 c2, .bool m2]] wz fun e w' => e = .returned (.bool m2) ∧ Below wz.heap.size wz w') := fun wz hz => neg_any a2 n2 c2 m2 Y wz hz.now.2.2.2.1
  have hm1 := h.1
  have hm2 := g.1
  have hd : (m == m2) = true := by rw [hmm]; simp
  have AD : Hid (∀ wz, Bag w (PO w.heap.size a n c m Z a2 n2 c2 m2 Y) wz → Calls Tryz.prog 153 #[.agg #[.slice a n c], .agg #[.slice a2 n2 c2]] wz fun e w' => NatOf3 wz w' e (Z.natAbs + Y.natAbs)) := fun wz hz => (add_any _ _ _ _ wz hz.now.2.2.2.2.2 hz.now.2.2.2.1.2 k hk hZ hY).mono fun _ _ h => h.three
  have hz : sgn m (Z.natAbs + Y.natAbs) = Z + Y := by
    rw [hm1] at hmm ⊢
    rw [hm2] at hmm
    by_cases h1 : Z < 0
    · rw [decide_eq_true h1] at hmm ⊢
      have := of_decide_eq_true hmm.symm
      simp [sgn]; omega
    · rw [decide_eq_false h1] at hmm ⊢
      have := of_decide_eq_false hmm.symm
      simp [sgn]; omega
  have OF : Hid (∀ a3 n3 c3 wz, NatIs wz (.agg #[.slice a3 n3 c3]) (Z.natAbs + Y.natAbs) → Calls Tryz.prog 119 #[.bool m, .agg #[.slice a3 n3 c3]] wz fun e w' => IntTold wz w' e (Z + Y)) := by
    intro a3 n3 c3 wz hi
    have := wof_any m a3 n3 c3 _ wz hi
    rw [hz] at this; exact this
  clear h g hm1 hm2 hmm hZ hY hz
  go_enter Tryz.func170, Tryz.ntmps170
  go_wp2_with fail
  go_region_held3 (fun y => (y.cell? ⟨w.heap.size, 0, none⟩ = some (.slice a n c) ∧ y.cell? ⟨w.heap.size, 1, none⟩ = some (.bool m) ∧ y.cell? ⟨w.heap.size + 1, 0, none⟩ = some (.slice a2 n2 c2) ∧ y.cell? ⟨w.heap.size + 1, 1, none⟩ = some (.bool m2)) ∧ Bag w (PO w.heap.size a n c m Z a2 n2 c2 m2 Y) y)
    (first | (have B9 := BB.out.drew; exact ⟨B9.now.c, B9⟩) | (have B9 := Bag.go (by go_split_ands; assumption) hb2; exact ⟨B9.now.c, B9⟩))
    (first | (go_at_call 136; (with_reducible refine (N1.out _ ?_).mono ?_); (go_split_ands; assumption); rintro e w2 ⟨rfl, hb2⟩) | (go_at_call 136; (with_reducible refine (N2.out _ ?_).mono ?_); (go_split_ands; assumption); rintro e w2 ⟨rfl, hb2⟩))
  have B3 := Lib.hid (show Bag w (PO w.heap.size a n c m Z a2 n2 c2 m2 Y) _ from by go_split_ands; assumption)
  go_wp2_with fail
  go_region_held3 (fun y => (y.cell? ⟨w.heap.size, 0, none⟩ = some (.slice a n c) ∧ y.cell? ⟨w.heap.size, 1, none⟩ = some (.bool m) ∧ y.cell? ⟨w.heap.size + 1, 0, none⟩ = some (.slice a2 n2 c2) ∧ y.cell? ⟨w.heap.size + 1, 1, none⟩ = some (.bool m2)) ∧ Bag w (PO w.heap.size a n c m Z a2 n2 c2 m2 Y) y)
    (first | (have B9 := B3.out.drew; exact ⟨B9.now.c, B9⟩) | (have B9 := Bag.go (by go_split_ands; assumption) hb2; exact ⟨B9.now.c, B9⟩) | (exact ⟨B8.out.now.c, B8.out⟩))
    (first
      | (go_at_call 136; (with_reducible refine (N1.out _ ?_).mono ?_); (go_split_ands; assumption); rintro e w2 ⟨rfl, hb2⟩)
      | (go_at_call 153; (with_reducible refine (AD.out _ ?_).mono ?_); (go_split_ands; assumption); rintro e w2 ⟨a3, n3, c3, rfl, hi3, hb2⟩)
      | (go_at_call 119; (with_reducible refine (OF.out a3 n3 c3 _ hi3).mono ?_); rintro e w2 ⟨a4, n4, c4, m4, rfl, hi4, hb2⟩; have B7 := Bag.go (show Bag w (PO w.heap.size a n c m Z a2 n2 c2 m2 Y) _ from by go_split_ands; assumption) hb2; obtain ⟨x8, b8, hs8, _⟩ := B7.now.1; have hc1 := hs8.cell; have hc2 := hs8.cell1; have hf1 := hs8.free; have hf2 := hs8.free1; clear hs8; have HS := B7.now.1.cells a4 n4 c4 m4; have HE := Lib.hid (IntTold.fin B7.below (by omega) B7.now.1 hi4); have B8 := Lib.hid (B7.put (by omega) (a := a4) (n := n4) (c := c4) (b := m4) (fun h => h.put _ _ _ _)); unfold putI at HS; clear B7))
  go_wp2
  exact bodyPost_ret (v := _) (by simp [results, Tryz.results170, go_sem, HS]) rfl HE.out
set_option maxHeartbeats 1600000 in
set_option maxRecDepth 100000 in
theorem plusOne_less (a : Option Addr) (n c : Nat) (m : Bool) (Z : Int) (a2 : Option Addr) (n2 c2 : Nat) (m2 : Bool) (Y : Int) (w : World) (h : IntAt w a n c m Z) (g : IntAt w a2 n2 c2 m2 Y)
    (hmm : ¬ m = m2) (hle : Y.natAbs ≤ Z.natAbs) :
    Calls Tryz.prog 170 #[.agg #[.slice a n c, .bool m], .agg #[.slice a2 n2 c2, .bool m2]] w fun e w' => IntTold w w' e (Z + Y) := by
  have BB := Lib.hid (PO.start h g)
  have q0 := BB.out.now.c.1
  have q1 := BB.out.now.c.2.1
  have q2 := BB.out.now.c.2.2.1
  have q3 := BB.out.now.c.2.2.2
  have N1 : Hid (∀ wz, Bag w (PO w.heap.size a n c m Z a2 n2 c2 m2 Y) wz → Calls Tryz.prog 136 #[.agg #[.slice a n c, .bool m]] wz fun e w' => e = .returned (.bool m) ∧ Below wz.heap.size wz w') := fun wz hz => neg_any a n c m Z wz hz.now.2.2.2.2
  have N2 : Hid (∀ wz, Bag w (PO w.heap.size a n c m Z a2 n2 c2 m2 Y) wz → Calls Tryz.prog 136 #[.agg #[.slice a2 n2 c2, .bool m2]] wz fun e w' => e = .returned (.bool m2) ∧ Below wz.heap.size wz w') := fun wz hz => neg_any a2 n2 c2 m2 Y wz hz.now.2.2.2.1
  have hm1 := h.1
  have hm2 := g.1
  have hd : (m == m2) = false := by simpa using hmm
  have SB : Hid (∀ wz, Bag w (PO w.heap.size a n c m Z a2 n2 c2 m2 Y) wz → Calls Tryz.prog 186 #[.agg #[.slice a n c], .agg #[.slice a2 n2 c2]] wz fun e w' => SubOf3 wz w' e (Z.natAbs - Y.natAbs) true) := fun wz hz => (sub_any _ _ _ _ wz hz.now.2.2.2.2.2 hz.now.2.2.2.1.2).mono fun _ _ h => h.three (decide_eq_true hle)
  have hz : sgn m (Z.natAbs - Y.natAbs) = Z + Y := by
    by_cases h1 : Z < 0
    · rw [decide_eq_true h1] at hm1
      rw [hm1] at hmm
      by_cases h2 : Y < 0
      · rw [decide_eq_true h2] at hm2; exact absurd hm2.symm hmm
      · rw [decide_eq_false h2] at hm2
        rw [hm1]; simp [sgn]; omega
    · rw [decide_eq_false h1] at hm1
      rw [hm1] at hmm
      by_cases h2 : Y < 0
      · rw [decide_eq_true h2] at hm2
        rw [hm1]; simp [sgn]; omega
      · rw [decide_eq_false h2] at hm2; exact absurd hm2.symm hmm
  have OF : Hid (∀ a3 n3 c3 wz, NatIs wz (.agg #[.slice a3 n3 c3]) (Z.natAbs - Y.natAbs) → Calls Tryz.prog 119 #[.bool m, .agg #[.slice a3 n3 c3]] wz fun e w' => IntTold wz w' e (Z + Y)) := by
    intro a3 n3 c3 wz hi
    have := wof_any m a3 n3 c3 _ wz hi
    rw [hz] at this; exact this
  clear h g hm1 hm2 hmm hz hle
  go_enter Tryz.func170, Tryz.ntmps170
  go_wp2_with fail
  go_region_held3 (fun y => (y.cell? ⟨w.heap.size, 0, none⟩ = some (.slice a n c) ∧ y.cell? ⟨w.heap.size, 1, none⟩ = some (.bool m) ∧ y.cell? ⟨w.heap.size + 1, 0, none⟩ = some (.slice a2 n2 c2) ∧ y.cell? ⟨w.heap.size + 1, 1, none⟩ = some (.bool m2)) ∧ Bag w (PO w.heap.size a n c m Z a2 n2 c2 m2 Y) y)
    (first | (have B9 := BB.out.drew; exact ⟨B9.now.c, B9⟩) | (have B9 := Bag.go (by go_split_ands; assumption) hb2; exact ⟨B9.now.c, B9⟩))
    (first | (go_at_call 136; (with_reducible refine (N1.out _ ?_).mono ?_); (go_split_ands; assumption); rintro e w2 ⟨rfl, hb2⟩) | (go_at_call 136; (with_reducible refine (N2.out _ ?_).mono ?_); (go_split_ands; assumption); rintro e w2 ⟨rfl, hb2⟩))
  have B3 := Lib.hid (show Bag w (PO w.heap.size a n c m Z a2 n2 c2 m2 Y) _ from by go_split_ands; assumption)
  clear q0 q1 q2 q3
  have q0 := B3.out.now.c.1
  have q1 := B3.out.now.c.2.1
  have q2 := B3.out.now.c.2.2.1
  have q3 := B3.out.now.c.2.2.2
  go_wp2_with fail
  go_at_call 186
  (with_reducible refine (SB.out _ B3.out).mono ?_)
  rintro e w4 ⟨a3, n3, c3, rfl, hi3, hb4⟩
  have B4 := Lib.hid (((B3.out.go hb4).nat hi3).box (.slice a3 n3 c3) 56)
  have hk4 : w.heap.size + 1 + 1 < w4.heap.size := RS.lt (B3.out.go hb4).now.1
  clear hb4 hi3 q0 q1 q2 q3
  have q0 := B4.out.now.2.2.c.1
  have q1 := B4.out.now.2.2.c.2.1
  have q2 := B4.out.now.2.2.c.2.2.1
  have q3 := B4.out.now.2.2.c.2.2.2
  have q4 := B4.out.now.1.cell
  go_wp2_with fail
  go_region_held3 (fun y => (y.cell? ⟨w.heap.size, 0, none⟩ = some (.slice a n c) ∧ y.cell? ⟨w.heap.size, 1, none⟩ = some (.bool m) ∧ y.cell? ⟨w.heap.size + 1, 0, none⟩ = some (.slice a2 n2 c2) ∧ y.cell? ⟨w.heap.size + 1, 1, none⟩ = some (.bool m2)) ∧ y.cell? ⟨w4.heap.size, 0, none⟩ = some (.slice a3 n3 c3) ∧ Bag w (fun y => Slot y w4.heap.size (.slice a3 n3 c3) ∧ NatIs y (.agg #[.slice a3 n3 c3]) (Z.natAbs - Y.natAbs) ∧ PO w.heap.size a n c m Z a2 n2 c2 m2 Y y) y)
    (first | (have B9 := B4.out.drew; exact ⟨B9.now.2.2.c, B9.now.1.cell, B9⟩) | (have B9 := Bag.go (by go_split_ands; assumption) hb2; exact ⟨B9.now.2.2.c, B9.now.1.cell, B9⟩) | (exact ⟨B8.out.now.2.2.c, B8.out.now.1.cell, B8.out⟩))
    (first
      | (go_at_call 136; (with_reducible refine (N1.out _ ?_).mono ?_); (have B6 := (show Bag w (fun y => Slot y w4.heap.size (.slice a3 n3 c3) ∧ NatIs y (.agg #[.slice a3 n3 c3]) (Z.natAbs - Y.natAbs) ∧ PO w.heap.size a n c m Z a2 n2 c2 m2 Y y) _ from by go_split_ands; assumption); exact ⟨B6.below, PO.stay, B6.now.2.2⟩); rintro e w2 ⟨rfl, hb2⟩)
      | (go_at_call 119; (with_reducible refine (OF.out a3 n3 c3 _ ?_).mono ?_); (have B6 := (show Bag w (fun y => Slot y w4.heap.size (.slice a3 n3 c3) ∧ NatIs y (.agg #[.slice a3 n3 c3]) (Z.natAbs - Y.natAbs) ∧ PO w.heap.size a n c m Z a2 n2 c2 m2 Y y) _ from by go_split_ands; assumption); exact B6.now.2.1); rintro e w2 ⟨a4, n4, c4, m4, rfl, hi4, hb2⟩; have B7 := Bag.go (show Bag w (fun y => Slot y w4.heap.size (.slice a3 n3 c3) ∧ NatIs y (.agg #[.slice a3 n3 c3]) (Z.natAbs - Y.natAbs) ∧ PO w.heap.size a n c m Z a2 n2 c2 m2 Y y) _ from by go_split_ands; assumption) hb2; obtain ⟨x8, b8, hs8, _⟩ := B7.now.2.2.1; have hc1 := hs8.cell; have hc2 := hs8.cell1; have hf1 := hs8.free; have hf2 := hs8.free1; clear hs8; have HS := B7.now.2.2.1.cells a4 n4 c4 m4; have HE := Lib.hid (IntTold.fin B7.below (by omega) B7.now.2.2.1 hi4); have B8 := Lib.hid (B7.put (by omega) (a := a4) (n := n4) (c := c4) (b := m4) (fun h => ⟨h.1.put (by omega) _ _ _ _, h.2.1.put h.2.2.1 _ _ _ _, h.2.2.put _ _ _ _⟩)); unfold putI at HS; clear B7))
  go_wp2
  exact bodyPost_ret (v := _) (by simp [results, Tryz.results170, go_sem, HS]) rfl HE.out
set_option maxHeartbeats 1600000 in
set_option maxRecDepth 100000 in
theorem plusOne_more (a : Option Addr) (n c : Nat) (m : Bool) (Z : Int) (a2 : Option Addr) (n2 c2 : Nat) (m2 : Bool) (Y : Int) (w : World) (h : IntAt w a n c m Z) (g : IntAt w a2 n2 c2 m2 Y)
    (hmm : ¬ m = m2) (hle : Z.natAbs < Y.natAbs) :
    Calls Tryz.prog 170 #[.agg #[.slice a n c, .bool m], .agg #[.slice a2 n2 c2, .bool m2]] w fun e w' => IntTold w w' e (Z + Y) := by
  have BB := Lib.hid (PO.start h g)
  have q0 := BB.out.now.c.1
  have q1 := BB.out.now.c.2.1
  have q2 := BB.out.now.c.2.2.1
  have q3 := BB.out.now.c.2.2.2
  have N1 : Hid (∀ wz, Bag w (PO w.heap.size a n c m Z a2 n2 c2 m2 Y) wz → Calls Tryz.prog 136 #[.agg #[.slice a n c, .bool m]] wz fun e w' => e = .returned (.bool m) ∧ Below wz.heap.size wz w') := fun wz hz => neg_any a n c m Z wz hz.now.2.2.2.2
  have N2 : Hid (∀ wz, Bag w (PO w.heap.size a n c m Z a2 n2 c2 m2 Y) wz → Calls Tryz.prog 136 #[.agg #[.slice a2 n2 c2, .bool m2]] wz fun e w' => e = .returned (.bool m2) ∧ Below wz.heap.size wz w') := fun wz hz => neg_any a2 n2 c2 m2 Y wz hz.now.2.2.2.1
  have hm1 := h.1
  have hm2 := g.1
  have hd : (m == m2) = false := by simpa using hmm
  have SB : Hid (∀ wz, Bag w (PO w.heap.size a n c m Z a2 n2 c2 m2 Y) wz → Calls Tryz.prog 186 #[.agg #[.slice a n c], .agg #[.slice a2 n2 c2]] wz fun e w' => SubOf3 wz w' e (Z.natAbs - Y.natAbs) false) := fun wz hz => (sub_any _ _ _ _ wz hz.now.2.2.2.2.2 hz.now.2.2.2.1.2).mono fun _ _ h => h.three (decide_eq_false (by omega))
  have SB2 : Hid (∀ wz, Bag w (PO w.heap.size a n c m Z a2 n2 c2 m2 Y) wz → Calls Tryz.prog 186 #[.agg #[.slice a2 n2 c2], .agg #[.slice a n c]] wz fun e w' => SubOf3 wz w' e (Y.natAbs - Z.natAbs) true) := fun wz hz => (sub_any _ _ _ _ wz hz.now.2.2.2.1.2 hz.now.2.2.2.2.2).mono fun _ _ h => h.three (decide_eq_true (by omega))
  have hz : sgn m2 (Y.natAbs - Z.natAbs) = Z + Y := by
    by_cases h1 : Z < 0
    · rw [decide_eq_true h1] at hm1
      rw [hm1] at hmm
      by_cases h2 : Y < 0
      · rw [decide_eq_true h2] at hm2; exact absurd hm2.symm hmm
      · rw [decide_eq_false h2] at hm2
        rw [hm2]; simp [sgn]; omega
    · rw [decide_eq_false h1] at hm1
      rw [hm1] at hmm
      by_cases h2 : Y < 0
      · rw [decide_eq_true h2] at hm2
        rw [hm2]; simp [sgn]; omega
      · rw [decide_eq_false h2] at hm2; exact absurd hm2.symm hmm
  have OF : Hid (∀ a3 n3 c3 wz, NatIs wz (.agg #[.slice a3 n3 c3]) (Y.natAbs - Z.natAbs) → Calls Tryz.prog 119 #[.bool m2, .agg #[.slice a3 n3 c3]] wz fun e w' => IntTold wz w' e (Z + Y)) := by
    intro a3 n3 c3 wz hi
    have := wof_any m2 a3 n3 c3 _ wz hi
    rw [hz] at this; exact this
  clear h g hm1 hm2 hmm hz hle
  go_enter Tryz.func170, Tryz.ntmps170
  go_wp2_with fail
  go_region_held3 (fun y => (y.cell? ⟨w.heap.size, 0, none⟩ = some (.slice a n c) ∧ y.cell? ⟨w.heap.size, 1, none⟩ = some (.bool m) ∧ y.cell? ⟨w.heap.size + 1, 0, none⟩ = some (.slice a2 n2 c2) ∧ y.cell? ⟨w.heap.size + 1, 1, none⟩ = some (.bool m2)) ∧ Bag w (PO w.heap.size a n c m Z a2 n2 c2 m2 Y) y)
    (first | (have B9 := BB.out.drew; exact ⟨B9.now.c, B9⟩) | (have B9 := Bag.go (by go_split_ands; assumption) hb2; exact ⟨B9.now.c, B9⟩))
    (first | (go_at_call 136; (with_reducible refine (N1.out _ ?_).mono ?_); (go_split_ands; assumption); rintro e w2 ⟨rfl, hb2⟩) | (go_at_call 136; (with_reducible refine (N2.out _ ?_).mono ?_); (go_split_ands; assumption); rintro e w2 ⟨rfl, hb2⟩))
  have B3 := Lib.hid (show Bag w (PO w.heap.size a n c m Z a2 n2 c2 m2 Y) _ from by go_split_ands; assumption)
  clear q0 q1 q2 q3
  have q0 := B3.out.now.c.1
  have q1 := B3.out.now.c.2.1
  have q2 := B3.out.now.c.2.2.1
  have q3 := B3.out.now.c.2.2.2
  go_wp2_with fail
  go_at_call 186
  (with_reducible refine (SB.out _ B3.out).mono ?_)
  rintro e w4 ⟨a3, n3, c3, rfl, hi3, hb4⟩
  have B3 := Lib.hid ((B3.out.go hb4).alloc (.cells #[.slice a3 n3 c3] 56))
  clear hb4 hi3 q0 q1 q2 q3
  have q0 := B3.out.now.c.1
  have q1 := B3.out.now.c.2.1
  have q2 := B3.out.now.c.2.2.1
  have q3 := B3.out.now.c.2.2.2
  go_wp2_with fail
  go_at_call 186
  (with_reducible refine (SB2.out _ B3.out).mono ?_)
  rintro e w4 ⟨a3, n3, c3, rfl, hi3, hb4⟩
  have B4 := Lib.hid (((B3.out.go hb4).nat hi3).box (.slice a3 n3 c3) 56)
  have hk4 : w.heap.size + 1 + 1 < w4.heap.size := RS.lt (B3.out.go hb4).now.1
  clear hb4 hi3 q0 q1 q2 q3
  have q0 := B4.out.now.2.2.c.1
  have q1 := B4.out.now.2.2.c.2.1
  have q2 := B4.out.now.2.2.c.2.2.1
  have q3 := B4.out.now.2.2.c.2.2.2
  have q4 := B4.out.now.1.cell
  go_wp2_with fail
  go_region_held3 (fun y => (y.cell? ⟨w.heap.size, 0, none⟩ = some (.slice a n c) ∧ y.cell? ⟨w.heap.size, 1, none⟩ = some (.bool m) ∧ y.cell? ⟨w.heap.size + 1, 0, none⟩ = some (.slice a2 n2 c2) ∧ y.cell? ⟨w.heap.size + 1, 1, none⟩ = some (.bool m2)) ∧ y.cell? ⟨w4.heap.size, 0, none⟩ = some (.slice a3 n3 c3) ∧ Bag w (fun y => Slot y w4.heap.size (.slice a3 n3 c3) ∧ NatIs y (.agg #[.slice a3 n3 c3]) (Y.natAbs - Z.natAbs) ∧ PO w.heap.size a n c m Z a2 n2 c2 m2 Y y) y)
    (first | (have B9 := B4.out.drew; exact ⟨B9.now.2.2.c, B9.now.1.cell, B9⟩) | (have B9 := Bag.go (by go_split_ands; assumption) hb2; exact ⟨B9.now.2.2.c, B9.now.1.cell, B9⟩) | (exact ⟨B8.out.now.2.2.c, B8.out.now.1.cell, B8.out⟩))
    (first
      | (go_at_call 136; (with_reducible refine (N2.out _ ?_).mono ?_); (have B6 := (show Bag w (fun y => Slot y w4.heap.size (.slice a3 n3 c3) ∧ NatIs y (.agg #[.slice a3 n3 c3]) (Y.natAbs - Z.natAbs) ∧ PO w.heap.size a n c m Z a2 n2 c2 m2 Y y) _ from by go_split_ands; assumption); exact ⟨B6.below, PO.stay, B6.now.2.2⟩); rintro e w2 ⟨rfl, hb2⟩)
      | (go_at_call 119; (with_reducible refine (OF.out a3 n3 c3 _ ?_).mono ?_); (have B6 := (show Bag w (fun y => Slot y w4.heap.size (.slice a3 n3 c3) ∧ NatIs y (.agg #[.slice a3 n3 c3]) (Y.natAbs - Z.natAbs) ∧ PO w.heap.size a n c m Z a2 n2 c2 m2 Y y) _ from by go_split_ands; assumption); exact B6.now.2.1); rintro e w2 ⟨a4, n4, c4, m4, rfl, hi4, hb2⟩; have B7 := Bag.go (show Bag w (fun y => Slot y w4.heap.size (.slice a3 n3 c3) ∧ NatIs y (.agg #[.slice a3 n3 c3]) (Y.natAbs - Z.natAbs) ∧ PO w.heap.size a n c m Z a2 n2 c2 m2 Y y) _ from by go_split_ands; assumption) hb2; obtain ⟨x8, b8, hs8, _⟩ := B7.now.2.2.1; have hc1 := hs8.cell; have hc2 := hs8.cell1; have hf1 := hs8.free; have hf2 := hs8.free1; clear hs8; have HS := B7.now.2.2.1.cells a4 n4 c4 m4; have HE := Lib.hid (IntTold.fin B7.below (by omega) B7.now.2.2.1 hi4); have B8 := Lib.hid (B7.put (by omega) (a := a4) (n := n4) (c := c4) (b := m4) (fun h => ⟨h.1.put (by omega) _ _ _ _, h.2.1.put h.2.2.1 _ _ _ _, h.2.2.put _ _ _ _⟩)); unfold putI at HS; clear B7))
  go_wp2
  exact bodyPost_ret (v := _) (by simp [results, Tryz.results170, go_sem, HS]) rfl HE.out
theorem plusOne_any (a : Option Addr) (n c : Nat) (m : Bool) (Z : Int) (a2 : Option Addr) (n2 c2 : Nat) (m2 : Bool) (Y : Int) (w : World) (h : IntAt w a n c m Z) (g : IntAt w a2 n2 c2 m2 Y)
    (k : Nat) (hk : k ≤ 900000) (hZ : Z.natAbs < 4294967296 ^ k) (hY : Y.natAbs < 4294967296 ^ k) :
    Calls Tryz.prog 170 #[.agg #[.slice a n c, .bool m], .agg #[.slice a2 n2 c2, .bool m2]] w fun e w' => IntTold w w' e (Z + Y) := by
  by_cases hmm : m = m2
  · exact plusOne_same a n c m Z a2 n2 c2 m2 Y w h g k hk hZ hY hmm
  · rcases Nat.lt_or_ge Z.natAbs Y.natAbs with hl | hl
    · exact plusOne_more a n c m Z a2 n2 c2 m2 Y w h g hmm hl
    · exact plusOne_less a n c m Z a2 n2 c2 m2 Y w h g hmm hl
end Go.Proofs.YtnpoakaffafdiaaGreatDoor
namespace Go.Proofs.YtnpoakaffafdiaaGreatDoor
open Go.RowKit
def psum (Z : Int) (f : Nat → Int) : Nat → Int
  | 0 => Z
  | k + 1 => psum Z f k + f k
def asum (f : Nat → Int) : Nat → Nat
  | 0 => 0
  | k + 1 => asum f k + (f k).natAbs
theorem asum_mono (f : Nat → Int) {k n : Nat} (h : k ≤ n) : asum f k ≤ asum f n := by
  induction n with
  | zero => obtain rfl : k = 0 := by omega
            exact Nat.le_refl _
  | succ n ih =>
    rcases Nat.lt_or_ge k (n + 1) with h1 | h1
    · have := ih (by omega); rw [asum]; omega
    · obtain rfl : k = n + 1 := by omega
      exact Nat.le_refl _
theorem psum_abs (Z : Int) (f : Nat → Int) : ∀ k, (psum Z f k).natAbs ≤ Z.natAbs + asum f k
  | 0 => by simp [psum, asum]
  | k + 1 => by have := psum_abs Z f k; rw [psum, asum]; omega
theorem asum_get (f : Nat → Int) {k n : Nat} (h : k < n) : (f k).natAbs ≤ asum f n := by
  have := asum_mono f (show k + 1 ≤ n from h); rw [asum] at this; omega
set_option maxHeartbeats 1600000 in
set_option maxRecDepth 100000 in
theorem plus_any (a : Option Addr) (n c : Nat) (m : Bool) (Z : Int) (sa : Option Addr) (ln lc : Nat) (f : Nat → Int) (w : World) (h : IntAt w a n c m Z) (g : IntsAt w sa ln lc f)
    (K : Nat) (hK : K ≤ 900000) (hb : Z.natAbs + asum f ln < 4294967296 ^ K) :
    Calls Tryz.prog 137 #[.agg #[.slice a n c, .bool m], .slice sa ln lc] w fun e w' => IntTold w w' e (psum Z f ln) := by
  have B0 := (((((Bag.start w).int h).box2 (.slice a n c) (.bool m) 58).box2 (.slice none 0 0) (.bool false) 58)).box2 (.slice a n c) (.bool m) 58
  simp only [World.size_alloc] at B0
  have H0 : Hid (PL w _ (psum Z f 0)) := ⟨B0.below, B0.now.2.1.rs, a, n, c, m, B0.now.1, B0.now.2.2.2.1⟩
  have q0 := B0.now.2.2.1.cell
  have q1 := B0.now.2.2.1.cell1
  have HG := Lib.hid g
  have hln : ln ≤ 1000 ∧ ln ≤ lc := ⟨g.2.1, g.1⟩
  have HB : Hid (∀ k, k < ln → (psum Z f k).natAbs < 4294967296 ^ K ∧ (f k).natAbs < 4294967296 ^ K) := fun k hk => by
    have h1 := psum_abs Z f k
    have h2 := asum_mono f (Nat.le_of_lt hk)
    have h3 := asum_get f hk
    exact ⟨by omega, by omega⟩
  clear B0 h g hb
  go_enter Tryz.func137, Tryz.ntmps137
  go_wp2
  go_loopw [11] (fun i wr => ∃ k : Nat, k ≤ ln ∧ i = .int .i64 k ∧ PL w wr (psum Z f k)) (fun i _ => ln - (intOf i).toNat)
  case atStart => exact ⟨0, by omega, rfl, H0.out⟩
  case round =>
    obtain ⟨k, hk, rfl, hr⟩ := hrel
    by_cases hlt : k < ln
    · obtain ⟨hbl, hrs, a3, n3, c3, m3, hs3, hi3⟩ := hr
      obtain ⟨b, off, a', n', c', m', rfl, hlb, e1, e2, hi'⟩ := (HG.out.below hbl).get hlt
      have B1 := ((((Bag.start wr).int hi3).int hi').slot2 hs3).box2 (.slice a' n' c') (.bool m') 58
      have HBK := HB.out k hlt
      have PO1 := Lib.hid (plusOne_any a3 n3 c3 m3 (psum Z f k) a' n' c' m' (f k) _ B1.now.2.2.2.1 B1.now.2.2.1 K hK HBK.1 HBK.2)
      have HBL := Lib.hid hbl
      have HRS := Lib.hid hrs
      have p0 := B1.now.2.1.cell
      have p1 := B1.now.2.1.cell1
      have BB := Lib.hid B1
      have hwr : w.heap.size ≤ wr.heap.size := hbl.size
      clear hbl hrs hi3 hi' B1 HBK hs3 q0 q1
      go_wp2_with fail
      go_at_call 170
      (with_reducible refine PO1.out.mono ?_)
      rintro e w4 ⟨a5, n5, c5, m5, rfl, hi5, hb5⟩
      have B5 := BB.out.go hb5
      have hs5 := B5.now.2.1
      have hc1 := hs5.cell
      have hc2 := hs5.cell1
      have hf1 := hs5.free
      have hf2 := hs5.free1
      have hb6 := HBL.out.trans (B5.below.mono hwr)
      have HN : Hid (PL w (putI w4 (w.heap.size + 1 + 1) a5 n5 c5 m5) (psum Z f (k + 1))) := by
        refine ⟨(hb6.setCell (show w.heap.size ≤ w.heap.size + 1 + 1 by omega) _).setCell (show w.heap.size ≤ w.heap.size + 1 + 1 by omega) _, ?_, a5, n5, c5, m5, ?_, hi5.put hs5.rs _ _ _ _⟩
        · exact (HRS.out.below B5.below).put _ _ _ _
        · have := hs5.set (.slice a5 n5 c5) (.bool m5)
          exact ⟨this.1, this.2, by simp [putI, hs5.free], by simp [putI, hs5.free1], by simpa [putI] using hs5.lt⟩
      unfold putI at HN
      clear hb5 hi5 B5 hs5 hb6 p0 p1
      go_wp2
      go_roundw
      case rel => exact ⟨k + 1, by omega, by go_num, HN.out⟩
      case measure => simp [intOf]; omega
    · obtain rfl : k = ln := by omega
      obtain ⟨hbl, hrs, a3, n3, c3, m3, hs3, hi3⟩ := hr
      have HE := Lib.hid (IntTold.fin hbl (by omega) hrs hi3)
      have HS := hrs.cells a3 n3 c3 m3
      unfold putI at HS
      have p0 := hs3.cell
      have p1 := hs3.cell1
      obtain ⟨x8, b8, hs8, _⟩ := hrs
      have hc1 := hs8.cell
      have hc2 := hs8.cell1
      have hf1 := hs8.free
      have hf2 := hs8.free1
      clear hs8 hs3 hi3 hbl q0 q1
      go_wp2
      exact bodyPost_ret (v := _) (by simp [results, Tryz.results137, go_sem, HS]) rfl HE.out
end Go.Proofs.YtnpoakaffafdiaaGreatDoor
namespace Go.Proofs.YtnpoakaffafdiaaGreatDoor
open Go.RowKit
attribute [local go_sem ↓] Go.wp_at_zero Go.wp_at_succ
end Go.Proofs.YtnpoakaffafdiaaGreatDoor

namespace Go.Proofs.YtnpoakaffafdiaaGreatDoor
open Go.RowKit
attribute [local go_sem ↓] Go.wp_at_zero Go.wp_at_succ
end Go.Proofs.YtnpoakaffafdiaaGreatDoor
namespace Go.Proofs.YtnpoakaffafdiaaGreatDoor
open Go.RowKit
attribute [local go_sem ↓] Go.wp_at_zero Go.wp_at_succ
end Go.Proofs.YtnpoakaffafdiaaGreatDoor
namespace Go.Proofs.YtnpoakaffafdiaaGreatDoor
open Go.RowKit
theorem plus1_any (a : Option Addr) (n c : Nat) (m : Bool) (Z : Int) (sa : Option Addr) (Y : Int) (w : World) (h : IntAt w a n c m Z) (g : IntsAt w sa 1 1 (fun _ => Y)) (K : Nat) (hK : K ≤ 900000) (hZ : Z.natAbs + Y.natAbs < 4294967296 ^ K) :
    Calls Tryz.prog 137 #[.agg #[.slice a n c, .bool m], .slice sa 1 1] w fun e w' => IntTold w w' e (Z + Y) :=
  plus_any a n c m Z sa 1 1 (fun _ => Y) w h g K hK (by simp [asum]; exact hZ)
end Go.Proofs.YtnpoakaffafdiaaGreatDoor
namespace Go.Proofs.YtnpoakaffafdiaaGreatDoor
open Go.RowKit
/-- A row of one integer, made some steps ago. -/
theorem IntsAt.old1 {wk w : World} {k : Nat} {a : Option Addr} {n c : Nat} {m : Bool} {Z : Int} {t : TypeId} (hb : Below (wk.alloc (.cells #[.slice a n c, .bool m] t)).heap.size (wk.alloc (.cells #[.slice a n c, .bool m] t)) w)
    (hk : wk.heap.size = k) (h : IntAt w a n c m Z) : IntsAt w (some ⟨k, 0, none⟩) 1 1 (fun _ => Z) := by
  subst hk
  have hs := (Slot2.new wk (.slice a n c) (.bool m) t).below hb
  refine ⟨Nat.le_refl _, by omega, .inr ⟨_, 0, rfl, hs.lt, fun j hj => ?_⟩⟩
  obtain rfl : j = 0 := by omega
  exact ⟨a, n, c, m, hs.cell, hs.cell1, h⟩
end Go.Proofs.YtnpoakaffafdiaaGreatDoor

namespace Go.Proofs.YtnpoakaffafdiaaGreatDoor
open Go.RowKit
theorem loQ_mul (P : Int) (Q : Nat) : rg P Q * loQ P Q = Q := Nat.mul_div_cancel' (Nat.gcd_dvd_right _ _)
end Go.Proofs.YtnpoakaffafdiaaGreatDoor
namespace Go.Proofs.YtnpoakaffafdiaaGreatDoor
open Go.RowKit
attribute [local go_sem ↓] Go.wp_at_zero Go.wp_at_succ
end Go.Proofs.YtnpoakaffafdiaaGreatDoor
namespace Go.Proofs.YtnpoakaffafdiaaGreatDoor
open Go.RowKit
attribute [local go_sem ↓] Go.wp_at_zero Go.wp_at_succ
end Go.Proofs.YtnpoakaffafdiaaGreatDoor
namespace Go.Proofs.YtnpoakaffafdiaaGreatDoor
open Go.RowKit
attribute [local go_sem ↓] Go.wp_at_zero Go.wp_at_succ
end Go.Proofs.YtnpoakaffafdiaaGreatDoor
namespace Go.Proofs.YtnpoakaffafdiaaGreatDoor
open Go.RowKit
end Go.Proofs.YtnpoakaffafdiaaGreatDoor

namespace Go.Proofs.YtnpoakaffafdiaaGreatDoor
open Go.RowKit
attribute [local go_sem ↓] Go.wp_at_zero Go.wp_at_succ
set_option maxHeartbeats 3200000 in
set_option maxRecDepth 100000 in
theorem ratCmp_any (a : Option Addr) (n c : Nat) (m : Bool) (a2 : Option Addr) (n2 c2 : Nat) (P : Int) (Q : Nat) (b : Option Addr) (k l : Nat) (v : Bool) (b2 : Option Addr) (k2 l2 : Nat) (P' : Int) (Q' : Nat) (w : World)
    (h : RatAt w a n c m a2 n2 c2 P Q) (g : RatAt w b k l v b2 k2 l2 P' Q') (hQ : 0 < Q) (hQ' : 0 < Q') (K : Nat) (hK : K ≤ 400000) (h1 : P.natAbs < 4294967296 ^ K) (h2 : Q < 4294967296 ^ K) (h3 : P'.natAbs < 4294967296 ^ K) (h4 : Q' < 4294967296 ^ K) :
    Calls Tryz.prog 32 #[.agg #[.slice a n c, .bool m, .slice a2 n2 c2], .agg #[.slice b k l, .bool v, .slice b2 k2 l2]] w fun e w' => e = .returned (.int .i64 (cmpZ (P * Q') (P' * Q))) ∧ Below w.heap.size w w' := by
  have B0 := ((((Bag.start w).rat h).rat g).box3 (.slice a n c) (.bool m) (.slice a2 n2 c2) 60).box3 (.slice b k l) (.bool v) (.slice b2 k2 l2) 60
  simp only [World.size_alloc] at B0
  have IW := Lib.hid (fun wz hz => isWhole_any a n c m a2 n2 c2 P Q wz hz hQ)
  have IW' := Lib.hid (fun wz hz => isWhole_any b k l v b2 k2 l2 P' Q' wz hz hQ')
  have BB := Lib.hid B0
  have q0 := B0.now.2.1.cell
  have q1 := B0.now.2.1.cell1
  have q2 := B0.now.2.1.cell2
  have r0 := B0.now.1.cell
  have r1 := B0.now.1.cell1
  have r2 := B0.now.1.cell2
  by_cases hw : Q = 1 ∧ Q' = 1
  · obtain ⟨rfl, rfl⟩ := hw
    have CM := Lib.hid (fun wz (h : IntAt wz a n c m P) (g : IntAt wz b k l v P') => icmp_any a n c m P b k l v P' wz h g)
    rw [show P * ((1 : Nat) : Int) = P from Int.mul_one P, show P' * ((1 : Nat) : Int) = P' from Int.mul_one P']
    rw [decide_eq_true rfl] at IW IW'
    generalize cmpZ P P' = z at *
    clear h g B0 h1 h2 h3 h4 hQ hQ'
    go_enter Tryz.func32, Tryz.ntmps32
    go_wp2_with (first
      | (go_at_call 80; (with_reducible refine (IW.out _ BB.out.now.2.2.2.1).mono ?_); rintro e w2 ⟨rfl, hb2⟩; have BB := Lib.hid (BB.out.go hb2); clear hb2; have q0 := BB.out.now.2.1.cell; have q1 := BB.out.now.2.1.cell1; have r0 := BB.out.now.1.cell; have r1 := BB.out.now.1.cell1; have r2 := BB.out.now.1.cell2)
      | (go_at_call 80; (with_reducible refine (IW'.out _ BB.out.now.2.2.1).mono ?_); rintro e w3 ⟨rfl, hb3⟩; have BB := Lib.hid (BB.out.go hb3); clear hb3; have q0 := BB.out.now.2.1.cell; have q1 := BB.out.now.2.1.cell1; have r0 := BB.out.now.1.cell; have r1 := BB.out.now.1.cell1)
      | (go_at_call 81; (with_reducible refine (CM.out _ BB.out.now.2.2.2.1.int BB.out.now.2.2.1.int).mono ?_); rintro e w4 ⟨rfl, hb4⟩; have BB := Lib.hid (BB.out.go hb4); clear hb4))
    go_ret
    exact ⟨rfl, BB.out.below⟩
  · have BL := Lib.hid (fun wz (h : RatAt wz a n c m a2 n2 c2 P Q) => below_any a n c m a2 n2 c2 P Q wz h hQ)
    have BL' := Lib.hid (fun wz (h : RatAt wz b k l v b2 k2 l2 P' Q') => below_any b k l v b2 k2 l2 P' Q' wz h hQ')
    have T1 := Lib.hid (fun sa wz (h : IntAt wz a n c m P) (g : IntsAt wz sa 1 1 (fun _ => (Q' : Int))) => times1_any a n c m P sa Q' wz h g K hK h1 (by rw [Int.natAbs_natCast]; exact h4))
    have T2 := Lib.hid (fun sa wz (h : IntAt wz b k l v P') (g : IntsAt wz sa 1 1 (fun _ => (Q : Int))) => times1_any b k l v P' sa Q wz h g K hK h3 (by rw [Int.natAbs_natCast]; exact h2))
    have CM := Lib.hid (fun a n c m a2 n2 c2 m2 wz (h : IntAt wz a n c m (P * Q')) (g : IntAt wz a2 n2 c2 m2 (P' * Q)) => icmp_any a n c m (P * Q') a2 n2 c2 m2 (P' * Q) wz h g)
    generalize cmpZ (P * Q') (P' * Q) = z at *
    generalize P * (Q' : Int) = X at *
    generalize P' * (Q : Int) = Y at *
    have hx : ∃ x y : Bool, decide (Q = 1) = x ∧ decide (Q' = 1) = y ∧ (x && y) = false := ⟨_, _, rfl, rfl, by
      by_cases e1 : Q = 1
      · rw [decide_eq_false (fun e2 => hw ⟨e1, e2⟩)]; simp
      · rw [decide_eq_false e1]; rfl⟩
    obtain ⟨x, y, hx1, hx2, hxy⟩ := hx
    rw [hx1] at IW
    rw [hx2] at IW'
    clear h g B0 h1 h2 h3 h4 hQ hQ' hx1 hx2 hw
    cases x <;> cases y
    all_goals
      first
        | (exact absurd hxy (by decide))
        | skip
    all_goals
      clear hxy
      go_enter Tryz.func32, Tryz.ntmps32
      go_wp2_with (first
        | (go_at_call 80; (with_reducible refine (IW.out _ BB.out.now.2.2.2.1).mono ?_); rintro e w2 ⟨rfl, hb2⟩; have BB := Lib.hid (BB.out.go hb2); clear hb2; have q0 := BB.out.now.2.1.cell; have q1 := BB.out.now.2.1.cell1; have r0 := BB.out.now.1.cell; have r1 := BB.out.now.1.cell1; have r2 := BB.out.now.1.cell2)
        | (go_at_call 80; (with_reducible refine (IW'.out _ BB.out.now.2.2.1).mono ?_); rintro e w3 ⟨rfl, hb3⟩; have BB := Lib.hid (BB.out.go hb3); clear hb3; have q0 := BB.out.now.2.1.cell; have q1 := BB.out.now.2.1.cell1; have r0 := BB.out.now.1.cell; have r1 := BB.out.now.1.cell1))
      have BB := Lib.hid BB.out.drew
      go_region_held3 (fun y => (y.cell? ⟨w.heap.size, 0, none⟩ = some (.slice a n c) ∧ y.cell? ⟨w.heap.size, 1, none⟩ = some (.bool m) ∧ y.cell? ⟨w.heap.size, 2, none⟩ = some (.slice a2 n2 c2)) ∧ y.cell? ⟨w.heap.size + 1, 0, none⟩ = some (.slice b k l) ∧ y.cell? ⟨w.heap.size + 1, 1, none⟩ = some (.bool v) ∧ y.cell? ⟨w.heap.size + 1, 2, none⟩ = some (.slice b2 k2 l2))
        (first
          | (exact ⟨⟨BB.out.now.2.1.cell, BB.out.now.2.1.cell1, BB.out.now.2.1.cell2⟩, BB.out.now.1.cell, BB.out.now.1.cell1, BB.out.now.1.cell2⟩)
          | (exact (fun B9 : Bag w _ _ => ⟨⟨B9.now.2.1.cell, B9.now.2.1.cell1, B9.now.2.1.cell2⟩, B9.now.1.cell, B9.now.1.cell1, B9.now.1.cell2⟩) (BB.out.alloc _)))
        (first
          | (go_at_call 83; (with_reducible refine (BL'.out _ BB.out.now.2.2.1).mono ?_); rintro e w5 ⟨a5, n5, c5, m5, rfl, hi5, hb5⟩; have BB := Lib.hid (BB.out.go hb5))
          | (go_at_call 82; (with_reducible refine (T1.out _ _ ?_ ?_).mono ?_); exact (BB.out.alloc _).now.2.2.2.1.int; exact IntsAt.mk1 rfl (hi5.below ((Below.refl _ _).alloc (Nat.le_refl _) _)); rintro e w6 ⟨a6, n6, c6, m6, rfl, hi6, hb6⟩; have BB := Lib.hid ((BB.out.alloc _).go hb6))
          | (go_at_call 83; (with_reducible refine (BL.out _ BB.out.now.2.2.2.1).mono ?_); rintro e w7 ⟨a7, n7, c7, m7, rfl, hi7, hb7⟩; have BB := Lib.hid (BB.out.go hb7))
          | (go_at_call 82; (with_reducible refine (T2.out _ _ ?_ ?_).mono ?_); exact (BB.out.alloc _).now.2.2.1.int; exact IntsAt.mk1 rfl (hi7.below ((Below.refl _ _).alloc (Nat.le_refl _) _)); rintro e w8 ⟨a8, n8, c8, m8, rfl, hi8, hb8⟩; have BB := Lib.hid ((BB.out.alloc _).go hb8))
          | (go_at_call 81; (with_reducible refine (CM.out _ _ _ _ _ _ _ _ _ (((hi6.below hb7).below ((Below.refl _ _).alloc (Nat.le_refl _) _)).below hb8) hi8).mono ?_); rintro e w9 ⟨rfl, hb9⟩; have BB := Lib.hid (BB.out.go hb9)))
      go_wp2
      go_ret
      exact ⟨rfl, BB.out.below⟩
end Go.Proofs.YtnpoakaffafdiaaGreatDoor
namespace Go.Proofs.YtnpoakaffafdiaaGreatDoor
open Go.RowKit
attribute [local go_sem ↓] Go.wp_at_zero Go.wp_at_succ
end Go.Proofs.YtnpoakaffafdiaaGreatDoor
namespace Go.Proofs.YtnpoakaffafdiaaGreatDoor
open Go.RowKit
attribute [local go_sem ↓] Go.wp_at_zero Go.wp_at_succ
end Go.Proofs.YtnpoakaffafdiaaGreatDoor
namespace Go.Proofs.YtnpoakaffafdiaaGreatDoor
open Go.RowKit
attribute [local go_sem ↓] Go.wp_at_zero Go.wp_at_succ
end Go.Proofs.YtnpoakaffafdiaaGreatDoor

namespace Go.Proofs.YtnpoakaffafdiaaGreatDoor
open Go.RowKit
attribute [local go_sem ↓] Go.wp_at_zero Go.wp_at_succ
/-- The sum. -/
def plP (P : Int) (Q : Nat) (P' : Int) (Q' : Nat) : Int := loP (P * Q' + P' * Q) (Q * Q')
def plQ (P : Int) (Q : Nat) (P' : Int) (Q' : Nat) : Nat := loQ (P * Q' + P' * Q) (Q * Q')
theorem plP_one (P P' : Int) : plP P 1 P' 1 = P + P' ∧ plQ P 1 P' 1 = 1 := by
  unfold plP plQ
  have := lo_one (P := P * ((1 : Nat) : Int) + P' * ((1 : Nat) : Int)) (Q := 1 * 1) (Nat.gcd_one_right _)
  rw [this.1, this.2, show ((1 : Nat) : Int) = 1 from rfl, Int.mul_one, Int.mul_one]
  exact ⟨rfl, rfl⟩
set_option maxHeartbeats 3200000 in
set_option maxRecDepth 100000 in
theorem ratPlusOne_whole (a : Option Addr) (n c : Nat) (m : Bool) (a2 : Option Addr) (n2 c2 : Nat) (P : Int) (b : Option Addr) (k l : Nat) (v : Bool) (b2 : Option Addr) (k2 l2 : Nat) (P' : Int) (w : World)
    (h : RatAt w a n c m a2 n2 c2 P 1) (g : RatAt w b k l v b2 k2 l2 P' 1) (K : Nat) (hK : K ≤ 200000) (h1 : P.natAbs < 4294967296 ^ K) (h3 : P'.natAbs < 4294967296 ^ K) :
    Calls Tryz.prog 78 #[.agg #[.slice a n c, .bool m, .slice a2 n2 c2], .agg #[.slice b k l, .bool v, .slice b2 k2 l2]] w fun e w' => RatTold w w' e (plP P 1 P' 1) (plQ P 1 P' 1) := by
  rw [(plP_one P P').1, (plP_one P P').2]
  have B0 := (((((Bag.start w).rat h).rat g).box3 (.slice a n c) (.bool m) (.slice a2 n2 c2) 60).box3 (.slice b k l) (.bool v) (.slice b2 k2 l2) 60).box3 (.slice none 0 0) (.bool false) (.slice none 0 0) 60
  simp only [World.size_alloc] at B0
  have BB := Lib.hid B0
  have IW := Lib.hid (fun wz hz => isWhole_any a n c m a2 n2 c2 P 1 wz hz (by omega))
  have IW' := Lib.hid (fun wz hz => isWhole_any b k l v b2 k2 l2 P' 1 wz hz (by omega))
  rw [decide_eq_true rfl] at IW IW'
  have hs : P.natAbs + P'.natAbs < 4294967296 ^ (K + 1) := by rw [Nat.pow_succ]; omega
  have PL := Lib.hid (fun sa wz (h : IntAt wz a n c m P) (g : IntsAt wz sa 1 1 (fun _ => P')) => plus1_any a n c m P sa P' wz h g (K + 1) (by omega) hs)
  have WH := Lib.hid (fun a n c m wz (h : IntAt wz a n c m (P + P')) => whole_any a n c m (P + P') wz h)
  have q0 := BB.out.now.2.2.1.cell
  have q1 := BB.out.now.2.2.1.cell1
  have q2 := BB.out.now.2.2.1.cell2
  have r0 := BB.out.now.2.1.cell
  have r1 := BB.out.now.2.1.cell1
  have r2 := BB.out.now.2.1.cell2
  clear h g B0 h1 h3 hs
  go_enter Tryz.func78, Tryz.ntmps78
  go_wp2_with (first
    | (go_at_call 80; (with_reducible refine (IW.out _ BB.out.now.2.2.2.2.1).mono ?_); rintro e w2 ⟨rfl, hb2⟩; have BB := Lib.hid (BB.out.go hb2); clear hb2; have q0 := BB.out.now.2.2.1.cell; have q1 := BB.out.now.2.2.1.cell1; have r0 := BB.out.now.2.1.cell; have r1 := BB.out.now.2.1.cell1; have r2 := BB.out.now.2.1.cell2)
    | (go_at_call 80; (with_reducible refine (IW'.out _ BB.out.now.2.2.2.1).mono ?_); rintro e w3 ⟨rfl, hb3⟩; have BB := Lib.hid (BB.out.go hb3); clear hb3; have q0 := BB.out.now.2.2.1.cell; have q1 := BB.out.now.2.2.1.cell1; have r0 := BB.out.now.2.1.cell; have r1 := BB.out.now.2.1.cell1))
  go_at_call 137
  (with_reducible refine (PL.out _ _ ?_ ?_).mono ?_)
  · exact (BB.out.alloc _).now.2.2.2.2.1.int
  · exact IntsAt.mk1 rfl (BB.out.alloc _).now.2.2.2.1.int
  rintro e w4 ⟨a4, n4, c4, m4, rfl, hi4, hb4⟩
  have BB := Lib.hid ((BB.out.alloc _).go hb4)
  go_wp2_with fail
  go_at_call 84
  (with_reducible refine (WH.out _ _ _ _ _ hi4).mono ?_)
  rintro e w5 ⟨a5, n5, c5, m5, a6, n6, c6, rfl, hr, hb5⟩
  have BB := Lib.hid (BB.out.go hb5)
  have hs := BB.out.now.1
  have u0 := hs.cell
  have u1 := hs.cell1
  have u2 := hs.cell2
  have g0 := hs.free
  have g1 := hs.free1
  have g2 := hs.free2
  have HS := hs.set (.slice a5 n5 c5) (.bool m5) (.slice a6 n6 c6)
  have HE := Lib.hid (RatTold.done BB.out.below (by omega) hs hr)
  clear hs hr
  go_wp2
  exact bodyPost_ret (v := .agg #[.slice a5 n5 c5, .bool m5, .slice a6 n6 c6]) (by simp [results, Tryz.results78, go_sem, HS]) rfl HE.out
set_option linter.unusedSimpArgs false in
set_option maxHeartbeats 12800000 in
set_option maxRecDepth 100000 in
theorem ratPlusOne_some (a : Option Addr) (n c : Nat) (m : Bool) (a2 : Option Addr) (n2 c2 : Nat) (P : Int) (Q : Nat) (b : Option Addr) (k l : Nat) (v : Bool) (b2 : Option Addr) (k2 l2 : Nat) (P' : Int) (Q' : Nat) (w : World)
    (h : RatAt w a n c m a2 n2 c2 P Q) (g : RatAt w b k l v b2 k2 l2 P' Q') (hQ : 0 < Q) (hQ' : 0 < Q') (K : Nat) (hK : K ≤ 200000) (h1 : P.natAbs < 4294967296 ^ K) (h2 : Q < 4294967296 ^ K) (h3 : P'.natAbs < 4294967296 ^ K) (h4 : Q' < 4294967296 ^ K) (hw : ¬ (Q = 1 ∧ Q' = 1)) :
    Calls Tryz.prog 78 #[.agg #[.slice a n c, .bool m, .slice a2 n2 c2], .agg #[.slice b k l, .bool v, .slice b2 k2 l2]] w fun e w' => RatTold w w' e (plP P Q P' Q') (plQ P Q P' Q') := by
  have B0 := (((((Bag.start w).rat h).rat g).box3 (.slice a n c) (.bool m) (.slice a2 n2 c2) 60).box3 (.slice b k l) (.bool v) (.slice b2 k2 l2) 60).box3 (.slice none 0 0) (.bool false) (.slice none 0 0) 60
  simp only [World.size_alloc] at B0
  have BB := Lib.hid B0
  have IW := Lib.hid (fun wz hz => isWhole_any a n c m a2 n2 c2 P Q wz hz hQ)
  have IW' := Lib.hid (fun wz hz => isWhole_any b k l v b2 k2 l2 P' Q' wz hz hQ')
  have BL := Lib.hid (fun wz (h : RatAt wz a n c m a2 n2 c2 P Q) => below_any a n c m a2 n2 c2 P Q wz h hQ)
  have BL' := Lib.hid (fun wz (h : RatAt wz b k l v b2 k2 l2 P' Q') => below_any b k l v b2 k2 l2 P' Q' wz h hQ')
  have T1 := Lib.hid (fun sa wz (h : IntAt wz a n c m P) (g : IntsAt wz sa 1 1 (fun _ => (Q' : Int))) => times1_any a n c m P sa Q' wz h g K (by omega) h1 (by rw [Int.natAbs_natCast]; exact h4))
  have T2 := Lib.hid (fun sa wz (h : IntAt wz b k l v P') (g : IntsAt wz sa 1 1 (fun _ => (Q : Int))) => times1_any b k l v P' sa Q wz h g K (by omega) h3 (by rw [Int.natAbs_natCast]; exact h2))
  have hX := mulZ_lt32 h1 h4
  have hY := mulZ_lt32 h3 h2
  have hD := mul_lt32 h2 h4
  have hs : (P * Q').natAbs + (P' * Q).natAbs < 4294967296 ^ (K + K + 1) := by rw [Nat.pow_succ]; omega
  have hs2 : (P * Q' + P' * Q).natAbs < 4294967296 ^ (K + K + 1) := Nat.lt_of_le_of_lt (Int.natAbs_add_le _ _) hs
  have hD2 : Q * Q' < 4294967296 ^ (K + K + 1) := by rw [Nat.pow_succ]; omega
  have hD0 : 0 < Q * Q' := Nat.mul_pos hQ hQ'
  have PL := Lib.hid (fun a n c m sa wz (h : IntAt wz a n c m (P * Q')) (g : IntsAt wz sa 1 1 (fun _ => P' * Q)) => plus1_any a n c m (P * Q') sa (P' * Q) wz h g (K + K + 1) (by omega) hs)
  have BT := Lib.hid (fun wz (h : RatAt wz a n c m a2 n2 c2 P Q) => bot_any a n c m a2 n2 c2 P Q wz h hQ)
  have BT' := Lib.hid (fun wz (h : RatAt wz b k l v b2 k2 l2 P' Q') => bot_any b k l v b2 k2 l2 P' Q' wz h hQ')
  have ML : Hid (∀ a n c b k l wz, NatIs wz (.agg #[.slice a n c]) Q → NatIs wz (.agg #[.slice b k l]) Q' → Calls Tryz.prog 138 #[.agg #[.slice a n c], .agg #[.slice b k l]] wz fun e w' => NatTold wz w' e (Q * Q')) := fun a n c b k l wz h g => (mul_any _ _ Q Q' wz h g K (by omega) h2 h4).mono fun _ _ h => h.told
  have LW := Lib.hid (fun a n c m a2 n2 c2 wz (h : IntAt wz a n c m (P * Q' + P' * Q)) (g : NatIs wz (.agg #[.slice a2 n2 c2]) (Q * Q')) => lowest_any a n c m (P * Q' + P' * Q) a2 n2 c2 (Q * Q') wz h g hD0 (K + K + 1) (by omega) hs2 hD2)
  rw [show loP (P * Q' + P' * Q) (Q * Q') = plP P Q P' Q' from rfl, show loQ (P * Q' + P' * Q) (Q * Q') = plQ P Q P' Q' from rfl] at LW
  generalize plP P Q P' Q' = P1 at *
  generalize plQ P Q P' Q' = Q1 at *
  generalize P * (Q' : Int) + P' * (Q : Int) = S at *
  generalize P * (Q' : Int) = X at *
  generalize P' * (Q : Int) = Y at *
  generalize Q * Q' = D at *
  have hx : ∃ x y : Bool, decide (Q = 1) = x ∧ decide (Q' = 1) = y ∧ (x && y) = false := ⟨_, _, rfl, rfl, by
    by_cases e1 : Q = 1
    · rw [decide_eq_false (fun e2 => hw ⟨e1, e2⟩)]; simp
    · rw [decide_eq_false e1]; rfl⟩
  obtain ⟨x, y, hx1, hx2, hxy⟩ := hx
  rw [hx1] at IW
  rw [hx2] at IW'
  have he : w.heap.size ≠ w.heap.size + 1 + 1 ∧ w.heap.size + 1 ≠ w.heap.size + 1 + 1 := by omega
  have q0 := BB.out.now.2.2.1.cell
  have q1 := BB.out.now.2.2.1.cell1
  have q2 := BB.out.now.2.2.1.cell2
  have r0 := BB.out.now.2.1.cell
  have r1 := BB.out.now.2.1.cell1
  have r2 := BB.out.now.2.1.cell2
  clear h g B0 h1 h2 h3 h4 hQ hQ' hx1 hx2 hw hX hY hD hs hs2 hD2 hD0
  have HC : Hid (∀ y, (fun y => Slot3 y (w.heap.size + 1 + 1) (.slice none 0 0) (.bool false) (.slice none 0 0) ∧ Slot3 y (w.heap.size + 1) (.slice b k l) (.bool v) (.slice b2 k2 l2) ∧ Slot3 y w.heap.size (.slice a n c) (.bool m) (.slice a2 n2 c2) ∧ RatAt y b k l v b2 k2 l2 P' Q' ∧ RatAt y a n c m a2 n2 c2 P Q ∧ True) y → ((y.cell? ⟨w.heap.size, 0, none⟩ = some (.slice a n c) ∧ y.cell? ⟨w.heap.size, 1, none⟩ = some (.bool m) ∧ y.cell? ⟨w.heap.size, 2, none⟩ = some (.slice a2 n2 c2)) ∧ y.cell? ⟨w.heap.size + 1, 0, none⟩ = some (.slice b k l) ∧ y.cell? ⟨w.heap.size + 1, 1, none⟩ = some (.bool v) ∧ y.cell? ⟨w.heap.size + 1, 2, none⟩ = some (.slice b2 k2 l2))) := fun y h => ⟨⟨h.2.2.1.cell, h.2.2.1.cell1, h.2.2.1.cell2⟩, h.2.1.cell, h.2.1.cell1, h.2.1.cell2⟩
  have HP : Hid (∀ (y : World) (k5 : Nat), Slot2 y k5 (.slice none 0 0) (.bool false) → w.heap.size + 1 + 1 < k5 → Bag w (fun y => Slot3 y (w.heap.size + 1 + 1) (.slice none 0 0) (.bool false) (.slice none 0 0) ∧ Slot3 y (w.heap.size + 1) (.slice b k l) (.bool v) (.slice b2 k2 l2) ∧ Slot3 y w.heap.size (.slice a n c) (.bool m) (.slice a2 n2 c2) ∧ RatAt y b k l v b2 k2 l2 P' Q' ∧ RatAt y a n c m a2 n2 c2 P Q ∧ True) y → ∀ (a9 : Option Addr) (n9 c9 : Nat) (m9 : Bool), Bag w (fun y => Slot3 y (w.heap.size + 1 + 1) (.slice none 0 0) (.bool false) (.slice none 0 0) ∧ Slot3 y (w.heap.size + 1) (.slice b k l) (.bool v) (.slice b2 k2 l2) ∧ Slot3 y w.heap.size (.slice a n c) (.bool m) (.slice a2 n2 c2) ∧ RatAt y b k l v b2 k2 l2 P' Q' ∧ RatAt y a n c m a2 n2 c2 P Q ∧ True) ((y.setCell ⟨k5, 0, none⟩ (.slice a9 n9 c9)).setCell ⟨k5, 1, none⟩ (.bool m9))) := by
    intro y k5 s hk B a9 n9 c9 m9
    have hx : ∀ (x : Option Addr) (y z : Nat) (ki : IntKind) (i : Int), (Value.slice x y z) ≠ .int ki i := fun _ _ _ _ _ h => by cases h
    have hb : ∀ (x : Bool) (ki : IntKind) (i : Int), (Value.bool x) ≠ .int ki i := fun _ _ _ h => by cases h
    have q := B.now
    exact ⟨(B.below.setCell (p := ⟨k5, 0, none⟩) (show w.heap.size ≤ k5 by omega) _).setCell (p := ⟨k5, 1, none⟩) (show w.heap.size ≤ k5 by omega) _, B.stay, q.1.set2o (by omega) _ _, q.2.1.set2o (by omega) _ _, q.2.2.1.set2o (by omega) _ _,
      ⟨⟨q.2.2.2.1.int.1, q.2.2.2.1.int.nt.set2b s (hx _ _ _) (hb _) _ _⟩, q.2.2.2.1.low.set2b s (hx _ _ _) (hb _) _ _⟩, ⟨⟨q.2.2.2.2.1.int.1, q.2.2.2.2.1.int.nt.set2b s (hx _ _ _) (hb _) _ _⟩, q.2.2.2.2.1.low.set2b s (hx _ _ _) (hb _) _ _⟩, trivial⟩

  cases x <;> cases y
  all_goals
    first
      | (exact absurd hxy (by decide))
      | skip
  all_goals
    clear hxy
    go_enter Tryz.func78, Tryz.ntmps78
    go_wp2_with (first
      | (go_at_call 80; (with_reducible refine (IW.out _ BB.out.now.2.2.2.2.1).mono ?_); rintro e w2 ⟨rfl, hb2⟩; have BB := Lib.hid (BB.out.go hb2); clear hb2; have q0 := BB.out.now.2.2.1.cell; have q1 := BB.out.now.2.2.1.cell1; have r0 := BB.out.now.2.1.cell; have r1 := BB.out.now.2.1.cell1; have r2 := BB.out.now.2.1.cell2)
      | (go_at_call 80; (with_reducible refine (IW'.out _ BB.out.now.2.2.2.1).mono ?_); rintro e w2 ⟨rfl, hb2⟩; have BB := Lib.hid (BB.out.go hb2); clear hb2; have q0 := BB.out.now.2.2.1.cell; have q1 := BB.out.now.2.2.1.cell1; have r0 := BB.out.now.2.1.cell; have r1 := BB.out.now.2.1.cell1))
    refine wp_capture (fun R hR => ?_)
    have TL : ∀ (t7 t8 t9 t10 t11 : Value) (p4 p10 p12 k5 : Nat) (a5 : Option Addr) (n5 c5 : Nat) (m5 : Bool) (a6 : Option Addr) (n6 c6 : Nat) (m6 : Bool) (a7 : Option Addr) (n7 c7 : Nat) (m7 : Bool) (a8 : Option Addr) (n8 c8 : Nat) (m8 : Bool) (a9 : Option Addr) (n9 c9 : Nat) (m9 : Bool) (wy : World), Bag w (fun y => Slot3 y (w.heap.size + 1 + 1) (.slice none 0 0) (.bool false) (.slice none 0 0) ∧ Slot3 y (w.heap.size + 1) (.slice b k l) (.bool v) (.slice b2 k2 l2) ∧ Slot3 y w.heap.size (.slice a n c) (.bool m) (.slice a2 n2 c2) ∧ RatAt y b k l v b2 k2 l2 P' Q' ∧ RatAt y a n c m a2 n2 c2 P Q ∧ True) wy → Slot2 wy k5 (.slice a9 n9 c9) (.bool m9) → IntAt wy a9 n9 c9 m9 S → w.heap.size + 1 + 1 < k5 → R .normal { tmps := #[Value.agg #[Value.slice a n c, Value.bool m, Value.slice a2 n2 c2], Value.agg #[Value.slice b k l, Value.bool v, Value.slice b2 k2 l2], Value.pointer (some { block := w.heap.size, off := 0 }), Value.pointer (some { block := w.heap.size + 1, off := 0 }), Value.pointer (some { block := w.heap.size + 1 + 1, off := 0 }), Value.pointer (some { block := k5, off := 0 }), Value.agg #[Value.slice a n c, Value.bool m, Value.slice a2 n2 c2], t7, t8, t9, t10, t11, undef, undef, undef, undef, undef, undef, undef, Value.pointer (some { block := w.heap.size, off := 0 }), Value.agg #[Value.slice a n c, Value.bool m], Value.agg #[Value.slice b k l, Value.bool v, Value.slice b2 k2 l2], Value.agg #[Value.slice a5 n5 c5, Value.bool m5], Value.slice (some { block := p4, off := 0 }) 1 1, Value.agg #[Value.slice a6 n6 c6, Value.bool m6], Value.pointer (some { block := w.heap.size + 1, off := 0 }), Value.agg #[Value.slice b k l, Value.bool v], Value.agg #[Value.slice a n c, Value.bool m, Value.slice a2 n2 c2], Value.agg #[Value.slice a7 n7 c7, Value.bool m7], Value.slice (some { block := p10, off := 0 }) 1 1, Value.agg #[Value.slice a8 n8 c8, Value.bool m8], Value.slice (some { block := p12, off := 0 }) 1 1, Value.agg #[Value.slice a9 n9 c9, Value.bool m9], undef, undef, undef, undef, undef, undef, undef], defers := [] } wy := by
      intro t7 t8 t9 t10 t11 p4 p10 p12 k5 a5 n5 c5 m5 a6 n6 c6 m6 a7 n7 c7 m7 a8 n8 c8 m8 a9 n9 c9 m9 wy B1 sT hi9 hk5
      rw [hR]
      have BB := Lib.hid ((B1.slot2 sT).int hi9)
      clear B1 sT hi9
      have he3 : k5 ≠ w.heap.size + 1 + 1 := by omega
      go_wp2_with fail
      have BB := Lib.hid BB.out.drew
      go_region_held3 (fun y => ((y.cell? ⟨w.heap.size, 0, none⟩ = some (.slice a n c) ∧ y.cell? ⟨w.heap.size, 1, none⟩ = some (.bool m) ∧ y.cell? ⟨w.heap.size, 2, none⟩ = some (.slice a2 n2 c2)) ∧ y.cell? ⟨w.heap.size + 1, 0, none⟩ = some (.slice b k l) ∧ y.cell? ⟨w.heap.size + 1, 1, none⟩ = some (.bool v) ∧ y.cell? ⟨w.heap.size + 1, 2, none⟩ = some (.slice b2 k2 l2)) ∧ y.cell? ⟨k5, 0, none⟩ = some (.slice a9 n9 c9) ∧ y.cell? ⟨k5, 1, none⟩ = some (.bool m9))
        (first
          | (exact ⟨⟨⟨z0.cell, z0.cell1, z0.cell2⟩, z1.cell, z1.cell1, z1.cell2⟩, z2.cell, z2.cell1⟩)
          | (exact ⟨⟨⟨BB.out.now.2.2.2.2.1.cell, BB.out.now.2.2.2.2.1.cell1, BB.out.now.2.2.2.2.1.cell2⟩, BB.out.now.2.2.2.1.cell, BB.out.now.2.2.2.1.cell1, BB.out.now.2.2.2.1.cell2⟩, BB.out.now.2.1.cell, BB.out.now.2.1.cell1⟩))
        (first
          | (go_at_call 61; (with_reducible refine (BT.out _ BB.out.now.2.2.2.2.2.2.1).mono ?_); rintro e w11 ⟨a11, n11, c11, rfl, hn11, hb11⟩; have BB := Lib.hid (BB.out.go hb11))
          | (go_at_call 61; (with_reducible refine (BT'.out _ BB.out.now.2.2.2.2.2.1).mono ?_); rintro e w12 ⟨a12, n12, c12, rfl, hn12, hb12⟩; have BB := Lib.hid (BB.out.go hb12))
          | (go_at_call 138; (with_reducible refine (ML.out _ _ _ _ _ _ _ (hn11.below hb12) hn12).mono ?_); rintro e w13 ⟨a13, n13, c13, rfl, hn13, hb13⟩; have BB := Lib.hid (BB.out.go hb13))
          | (go_at_call 118; (with_reducible refine (LW.out _ _ _ _ _ _ _ _ BB.out.now.1 hn13).mono ?_); rintro e w14 ⟨a14, n14, c14, m14, a15, n15, c15, rfl, hr, hb14⟩; have BB := Lib.hid (BB.out.go hb14); have hs := BB.out.now.2.2.1; have r0 := hs.cell; have r1 := hs.cell1; have r2 := hs.cell2; have g0 := hs.free; have g1 := hs.free1; have g2 := hs.free2; have HS := hs.set (.slice a14 n14 c14) (.bool m14) (.slice a15 n15 c15); have z0 := BB.out.now.2.2.2.2.1.set3o he.1 (.slice a14 n14 c14) (.bool m14) (.slice a15 n15 c15); have z1 := BB.out.now.2.2.2.1.set3o he.2 (.slice a14 n14 c14) (.bool m14) (.slice a15 n15 c15); have z2 := BB.out.now.2.1.set3o he3 (.slice a14 n14 c14) (.bool m14) (.slice a15 n15 c15); have HE := Lib.hid (RatTold.done BB.out.below (by omega) hs hr)))
      go_wp2
      exact bodyPost_ret (v := .agg #[.slice a14 n14 c14, .bool m14, .slice a15 n15 c15]) (by simp [results, Tryz.results78, go_sem, HS]) rfl HE.out
    refine wp_region_noPanic ?_
    refine wp_region_held_drew (S := (fun y => ((y.cell? ⟨w.heap.size, 0, none⟩ = some (.slice a n c) ∧ y.cell? ⟨w.heap.size, 1, none⟩ = some (.bool m) ∧ y.cell? ⟨w.heap.size, 2, none⟩ = some (.slice a2 n2 c2)) ∧ y.cell? ⟨w.heap.size + 1, 0, none⟩ = some (.slice b k l) ∧ y.cell? ⟨w.heap.size + 1, 1, none⟩ = some (.bool v) ∧ y.cell? ⟨w.heap.size + 1, 2, none⟩ = some (.slice b2 k2 l2)) ∧ Bag w (fun y => Slot3 y (w.heap.size + 1 + 1) (.slice none 0 0) (.bool false) (.slice none 0 0) ∧ Slot3 y (w.heap.size + 1) (.slice b k l) (.bool v) (.slice b2 k2 l2) ∧ Slot3 y w.heap.size (.slice a n c) (.bool m) (.slice a2 n2 c2) ∧ RatAt y b k l v b2 k2 l2 P' Q' ∧ RatAt y a n c m a2 n2 c2 P Q ∧ True) y)) (by kernel_rfl) ?_ (fun hH => ?_)
    · exact (have B9 := BB.out.drew; ⟨HC.out _ B9.now, B9⟩)
    refine wpAnyH_take (i := 0) (oi := ⟨some 19, Op.fieldAddr 60 (Operand.tmp 2) 0, 0, _, _, none⟩) (v := ?v1) rfl (by kernel_rfl) (by kernel_rfl) (by kernel_rfl) (fun _ _ _ h => h) (Or.inl ⟨by rfl, ?hy1⟩) hH ?_
    case hy1 =>
      intro y hy
      (try dsimp only at hy)
      go_simp
      try with_reducible rfl
    try simp only [Act.put, List.setIfInBounds_toArray, List.set_cons_zero, List.set_cons_succ]
    refine wpAnyH_take (i := 1) (oi := ⟨some 20, Op.load 58 (Operand.tmp 19), 58, _, _, none⟩) (v := ?v2) rfl (by kernel_rfl) (by kernel_rfl) (by kernel_rfl) (fun _ _ _ h => h) (Or.inl ⟨by rfl, ?hy2⟩) hH ?_
    case hy2 =>
      intro y hy
      (try dsimp only at hy)
      go_simp
      try with_reducible rfl
    try simp only [Act.put, List.setIfInBounds_toArray, List.set_cons_zero, List.set_cons_succ]
    refine wpAnyH_take (i := 2) (oi := ⟨some 21, Op.load 60 (Operand.tmp 3), 60, _, _, none⟩) (v := ?v3) rfl (by kernel_rfl) (by kernel_rfl) (by kernel_rfl) (fun _ _ _ h => h) (Or.inl ⟨by rfl, ?hy3⟩) hH ?_
    case hy3 =>
      intro y hy
      (try dsimp only at hy)
      go_simp
      try with_reducible rfl
    try simp only [Act.put, List.setIfInBounds_toArray, List.set_cons_zero, List.set_cons_succ]
    refine wpAnyH_take (i := 6) (oi := ⟨some 25, Op.fieldAddr 60 (Operand.tmp 3) 0, 0, _, _, none⟩) (v := ?v4) rfl (by kernel_rfl) (by kernel_rfl) (by kernel_rfl) (fun _ _ _ h => h) (Or.inl ⟨by rfl, ?hy4⟩) hH ?_
    case hy4 =>
      intro y hy
      (try dsimp only at hy)
      go_simp
      try with_reducible rfl
    try simp only [Act.put, List.setIfInBounds_toArray, List.set_cons_zero, List.set_cons_succ]
    refine wpAnyH_take (i := 7) (oi := ⟨some 26, Op.load 58 (Operand.tmp 25), 58, _, _, none⟩) (v := ?v5) rfl (by kernel_rfl) (by kernel_rfl) (by kernel_rfl) (fun _ _ _ h => h) (Or.inl ⟨by rfl, ?hy5⟩) hH ?_
    case hy5 =>
      intro y hy
      (try dsimp only at hy)
      go_simp
      try with_reducible rfl
    try simp only [Act.put, List.setIfInBounds_toArray, List.set_cons_zero, List.set_cons_succ]
    refine wpAnyH_take (i := 8) (oi := ⟨some 27, Op.load 60 (Operand.tmp 2), 60, _, _, none⟩) (v := ?v6) rfl (by kernel_rfl) (by kernel_rfl) (by kernel_rfl) (fun _ _ _ h => h) (Or.inl ⟨by rfl, ?hy6⟩) hH ?_
    case hy6 =>
      intro y hy
      (try dsimp only at hy)
      go_simp
      try with_reducible rfl
    try simp only [Act.put, List.setIfInBounds_toArray, List.set_cons_zero, List.set_cons_succ]
    refine wpAnyH_ready (rs := [3, 14]) (by kernel_rfl) (by simp) ?_
    refine AllReadyH.cons (o := ⟨some 22, Op.call { callee := Callee.value (Operand.func 83), args := #[Operand.tmp 21], argTypes := #[60] }, 58, _, _, none⟩) rfl (fun K hK => ?_) ?_
    · go_simp
      (go_at_call 83; (with_reducible refine (BL'.out _ ?_).mono ?_); exact hH.2.now.2.2.2.1; rintro e wy5 ⟨a5, n5, c5, m5, rfl, hi5, hbz⟩)
      refine hK.out _ _ ?_ (fun hH => ?_)
      · exact (have B9 := Bag.go hH.2 hbz; ⟨HC.out _ B9.now, B9⟩)
      clear hK K
      try simp only [Act.put, List.setIfInBounds_toArray, List.set_cons_zero, List.set_cons_succ]
      refine wpAnyH_ready (rs := [4, 14]) (by kernel_rfl) (by simp) ?_
      refine AllReadyH.cons (o := ⟨some 23, Op.buildSlice 170 1 #[(0, Operand.tmp 22)], 170, _, _, none⟩) rfl (fun K hK => ?_) ?_
      · go_simp
        refine hK.out _ _ ?_ (fun hH => ?_)
        · exact (have B9 := Bag.alloc hH.2 _; ⟨HC.out _ B9.now, B9⟩)
        clear hK K
        try simp only [Act.put, List.setIfInBounds_toArray, List.set_cons_zero, List.set_cons_succ]
        refine wpAnyH_ready (rs := [5, 14]) (by kernel_rfl) (by simp) ?_
        refine AllReadyH.cons (o := ⟨some 24, Op.call { callee := Callee.value (Operand.func 82), args := #[Operand.tmp 20, Operand.tmp 23], argTypes := #[58, 170] }, 58, _, _, none⟩) rfl (fun K hK => ?_) ?_
        · go_simp
          (go_at_call 82; (with_reducible refine (T1.out _ _ ?_ ?_).mono ?_); exact hH.2.now.2.2.2.2.1.int; (apply IntsAt.old1; (exact Below.refl _ _); (first | rfl | focus (simp; done)); exact (IntAt.below hi5 (by refine Below.more ?_ _; exact Below.refl _ _))); rintro e wy6 ⟨a6, n6, c6, m6, rfl, hi6, hbz⟩)
          refine hK.out _ _ ?_ (fun hH => ?_)
          · exact (have B9 := Bag.go hH.2 hbz; ⟨HC.out _ B9.now, B9⟩)
          clear hK K
          try simp only [Act.put, List.setIfInBounds_toArray, List.set_cons_zero, List.set_cons_succ]
          refine wpAnyH_ready (rs := [9, 14]) (by kernel_rfl) (by simp) ?_
          refine AllReadyH.cons (o := ⟨some 28, Op.call { callee := Callee.value (Operand.func 83), args := #[Operand.tmp 27], argTypes := #[60] }, 58, _, _, none⟩) rfl (fun K hK => ?_) ?_
          · go_simp
            (go_at_call 83; (with_reducible refine (BL.out _ ?_).mono ?_); exact hH.2.now.2.2.2.2.1; rintro e wy7 ⟨a7, n7, c7, m7, rfl, hi7, hbz⟩)
            refine hK.out _ _ ?_ (fun hH => ?_)
            · exact (have B9 := Bag.go hH.2 hbz; ⟨HC.out _ B9.now, B9⟩)
            clear hK K
            try simp only [Act.put, List.setIfInBounds_toArray, List.set_cons_zero, List.set_cons_succ]
            refine wpAnyH_ready (rs := [10, 14]) (by kernel_rfl) (by simp) ?_
            refine AllReadyH.cons (o := ⟨some 29, Op.buildSlice 170 1 #[(0, Operand.tmp 28)], 170, _, _, none⟩) rfl (fun K hK => ?_) ?_
            · go_simp
              refine hK.out _ _ ?_ (fun hH => ?_)
              · exact (have B9 := Bag.alloc hH.2 _; ⟨HC.out _ B9.now, B9⟩)
              clear hK K
              try simp only [Act.put, List.setIfInBounds_toArray, List.set_cons_zero, List.set_cons_succ]
              refine wpAnyH_ready (rs := [11, 14]) (by kernel_rfl) (by simp) ?_
              refine AllReadyH.cons (o := ⟨some 30, Op.call { callee := Callee.value (Operand.func 82), args := #[Operand.tmp 26, Operand.tmp 29], argTypes := #[58, 170] }, 58, _, _, none⟩) rfl (fun K hK => ?_) ?_
              · go_simp
                (go_at_call 82; (with_reducible refine (T2.out _ _ ?_ ?_).mono ?_); exact hH.2.now.2.2.2.1.int; (apply IntsAt.old1; (exact Below.refl _ _); (first | rfl | focus (simp; done)); exact (IntAt.below hi7 (by refine Below.more ?_ _; exact Below.refl _ _))); rintro e wy8 ⟨a8, n8, c8, m8, rfl, hi8, hbz⟩)
                refine hK.out _ _ ?_ (fun hH => ?_)
                · exact (have B9 := Bag.go hH.2 hbz; ⟨HC.out _ B9.now, B9⟩)
                clear hK K
                try simp only [Act.put, List.setIfInBounds_toArray, List.set_cons_zero, List.set_cons_succ]
                refine wpAnyH_ready (rs := [12, 14]) (by kernel_rfl) (by simp) ?_
                refine AllReadyH.cons (o := ⟨some 31, Op.buildSlice 170 1 #[(0, Operand.tmp 30)], 170, _, _, none⟩) rfl (fun K hK => ?_) ?_
                · go_simp
                  refine hK.out _ _ ?_ (fun hH => ?_)
                  · exact (have B9 := Bag.alloc hH.2 _; ⟨HC.out _ B9.now, B9⟩)
                  clear hK K
                  try simp only [Act.put, List.setIfInBounds_toArray, List.set_cons_zero, List.set_cons_succ]
                  refine wpAnyH_ready (rs := [13, 14]) (by kernel_rfl) (by simp) ?_
                  refine AllReadyH.cons (o := ⟨some 32, Op.call { callee := Callee.value (Operand.func 137), args := #[Operand.tmp 24, Operand.tmp 31], argTypes := #[58, 170] }, 58, _, _, none⟩) rfl (fun K hK => ?_) ?_
                  · go_simp
                    (go_at_call 137; (with_reducible refine (PL.out a6 n6 c6 m6 _ _ ?_ ?_).mono ?_); exact (IntAt.below hi6 (by refine Below.more ?_ _; refine Below.step (by assumption) ?_; refine Below.more ?_ _; refine Below.step (by assumption) ?_; exact Below.refl _ _)); (apply IntsAt.old1; (exact Below.refl _ _); (first | rfl | focus (simp; done)); exact (IntAt.below hi8 (by refine Below.more ?_ _; exact Below.refl _ _))); rintro e wy9 ⟨a9, n9, c9, m9, rfl, hi9, hbz⟩)
                    refine hK.out _ _ ?_ (fun hH => ?_)
                    · exact (have B9 := Bag.go hH.2 hbz; ⟨HC.out _ B9.now, B9⟩)
                    clear hK K
                    try simp only [Act.put, List.setIfInBounds_toArray, List.set_cons_zero, List.set_cons_succ]
                    refine wpAnyH_ready (rs := [14]) (by kernel_rfl) (by simp) ?_
                    refine AllReadyH.cons (o := ⟨some 5, Op.alloc 58, 0, _, _, none⟩) rfl (fun K hK => ?_) AllReadyH.nil
                    have hk5 := hH.2.now.1.lt
                    have BW := hH.2
                    have sT := Slot2.new wy9 (.slice none 0 0) (.bool false) 58
                    go_simp
                    refine hK.out _ _ ?_ (fun hH => ?_)
                    · exact (have B9 := Bag.alloc hH.2 _; ⟨HC.out _ B9.now, B9⟩)
                    clear hK K
                    try simp only [Act.put, List.setIfInBounds_toArray, List.set_cons_zero, List.set_cons_succ]
                    refine wpAnyH_ready (rs := [15]) (by kernel_rfl) (by simp) ?_
                    refine AllReadyH.cons (o := ⟨none, Op.store 58 (Operand.tmp 5) (Operand.tmp 32), 0, _, _, none⟩) rfl (fun K hK => ?_) AllReadyH.nil
                    have sT := sT
                    have hc := sT.cell
                    have hc1 := sT.cell1
                    have hf := sT.free
                    have hf1 := sT.free1
                    go_simp
                    have sT2 := Slot2.new wy9 (.slice a9 n9 c9) (.bool m9) 58
                    have hi9s := IntAt.below hi9 (Below.more (Below.refl _ _) (.cells #[.slice a9 n9 c9, .bool m9] 58))
                    have B9s := Bag.alloc BW (.cells #[.slice a9 n9 c9, .bool m9] 58)
                    refine hK.out _ _ ?_ (fun hH => ?_)
                    · exact ⟨HC.out _ B9s.now, B9s⟩
                    clear hK K
                    try simp only [Act.put, List.setIfInBounds_toArray, List.set_cons_zero, List.set_cons_succ]
                    refine wpAnyH_done (by kernel_rfl) ?_ _
                    refine NoPanic.normal ?_
                    exact TL _ _ _ _ _ _ _ _ _ _ _ _ _ _ _ _ _ _ _ _ _ _ _ _ _ _ _ _ _ _ hH.2 sT2 hi9s (by omega)
                  refine AllReadyH.cons (o := ⟨some 5, Op.alloc 58, 0, _, _, none⟩) rfl (fun K hK => ?_) ?_
                  · have hk5 := hH.2.now.1.lt
                    have BW := hH.2
                    have sT := Slot2.new (World.alloc wy8 (.cells #[.slice a8 n8 c8, .bool m8] 58)) (.slice none 0 0) (.bool false) 58
                    simp only [World.size_alloc] at sT hk5
                    go_simp
                    refine hK.out _ _ ?_ (fun hH => ?_)
                    · exact (have B9 := Bag.alloc hH.2 _; ⟨HC.out _ B9.now, B9⟩)
                    clear hK K
                    try simp only [Act.put, List.setIfInBounds_toArray, List.set_cons_zero, List.set_cons_succ]
                    refine wpAnyH_ready (rs := [13]) (by kernel_rfl) (by simp) ?_
                    refine AllReadyH.cons (o := ⟨some 32, Op.call { callee := Callee.value (Operand.func 137), args := #[Operand.tmp 24, Operand.tmp 31], argTypes := #[58, 170] }, 58, _, _, none⟩) rfl (fun K hK => ?_) AllReadyH.nil
                    go_simp
                    (go_at_call 137; (with_reducible refine (PL.out a6 n6 c6 m6 _ _ ?_ ?_).mono ?_); exact (IntAt.below hi6 (by refine Below.more ?_ _; refine Below.more ?_ _; refine Below.step (by assumption) ?_; refine Below.more ?_ _; refine Below.step (by assumption) ?_; exact Below.refl _ _)); (apply IntsAt.old1; (refine Below.more ?_ _; exact Below.refl _ _); (first | rfl | focus (simp; done)); exact (IntAt.below hi8 (by refine Below.more ?_ _; refine Below.more ?_ _; exact Below.refl _ _))); rintro e wy9 ⟨a9, n9, c9, m9, rfl, hi9, hbz⟩; have sT := sT.below hbz)
                    refine hK.out _ _ ?_ (fun hH => ?_)
                    · exact (have B9 := Bag.go hH.2 hbz; ⟨HC.out _ B9.now, B9⟩)
                    clear hK K
                    try simp only [Act.put, List.setIfInBounds_toArray, List.set_cons_zero, List.set_cons_succ]
                    refine wpAnyH_ready (rs := [15]) (by kernel_rfl) (by simp) ?_
                    refine AllReadyH.cons (o := ⟨none, Op.store 58 (Operand.tmp 5) (Operand.tmp 32), 0, _, _, none⟩) rfl (fun K hK => ?_) AllReadyH.nil
                    have sT := sT
                    have hc := sT.cell
                    have hc1 := sT.cell1
                    have hf := sT.free
                    have hf1 := sT.free1
                    go_simp
                    have sT2 := sT.set2 (.slice a9 n9 c9) (.bool m9)
                    have hi9s : IntAt _ a9 n9 c9 m9 S := IntAt.set2b (IntAt.below hi9 (by exact Below.refl _ _)) sT (.slice a9 n9 c9) (.bool m9)
                    have B9s := HP.out _ _ sT (by omega) hH.2 a9 n9 c9 m9
                    refine hK.out _ _ ?_ (fun hH => ?_)
                    · exact ⟨HC.out _ B9s.now, B9s⟩
                    clear hK K
                    try simp only [Act.put, List.setIfInBounds_toArray, List.set_cons_zero, List.set_cons_succ]
                    refine wpAnyH_done (by kernel_rfl) ?_ _
                    refine NoPanic.normal ?_
                    exact TL _ _ _ _ _ _ _ _ _ _ _ _ _ _ _ _ _ _ _ _ _ _ _ _ _ _ _ _ _ _ hH.2 sT2 hi9s (by omega)
                  exact AllReadyH.nil
                refine AllReadyH.cons (o := ⟨some 5, Op.alloc 58, 0, _, _, none⟩) rfl (fun K hK => ?_) ?_
                · have hk5 := hH.2.now.1.lt
                  have BW := hH.2
                  have sT := Slot2.new wy8 (.slice none 0 0) (.bool false) 58
                  go_simp
                  refine hK.out _ _ ?_ (fun hH => ?_)
                  · exact (have B9 := Bag.alloc hH.2 _; ⟨HC.out _ B9.now, B9⟩)
                  clear hK K
                  try simp only [Act.put, List.setIfInBounds_toArray, List.set_cons_zero, List.set_cons_succ]
                  refine wpAnyH_ready (rs := [12]) (by kernel_rfl) (by simp) ?_
                  refine AllReadyH.cons (o := ⟨some 31, Op.buildSlice 170 1 #[(0, Operand.tmp 30)], 170, _, _, none⟩) rfl (fun K hK => ?_) AllReadyH.nil
                  go_simp
                  refine hK.out _ _ ?_ (fun hH => ?_)
                  · exact (have B9 := Bag.alloc hH.2 _; ⟨HC.out _ B9.now, B9⟩)
                  clear hK K
                  try simp only [Act.put, List.setIfInBounds_toArray, List.set_cons_zero, List.set_cons_succ]
                  have sT := sT.below (Below.more (Below.refl _ _) (.cells #[.slice a8 n8 c8, .bool m8] 58))
                  refine wpAnyH_ready (rs := [13]) (by kernel_rfl) (by simp) ?_
                  refine AllReadyH.cons (o := ⟨some 32, Op.call { callee := Callee.value (Operand.func 137), args := #[Operand.tmp 24, Operand.tmp 31], argTypes := #[58, 170] }, 58, _, _, none⟩) rfl (fun K hK => ?_) AllReadyH.nil
                  go_simp
                  (go_at_call 137; (with_reducible refine (PL.out a6 n6 c6 m6 _ _ ?_ ?_).mono ?_); exact (IntAt.below hi6 (by refine Below.more ?_ _; refine Below.more ?_ _; refine Below.step (by assumption) ?_; refine Below.more ?_ _; refine Below.step (by assumption) ?_; exact Below.refl _ _)); (apply IntsAt.old1; (exact Below.refl _ _); (first | rfl | focus (simp; done)); exact (IntAt.below hi8 (by refine Below.more ?_ _; refine Below.more ?_ _; exact Below.refl _ _))); rintro e wy9 ⟨a9, n9, c9, m9, rfl, hi9, hbz⟩; have sT := sT.below hbz)
                  refine hK.out _ _ ?_ (fun hH => ?_)
                  · exact (have B9 := Bag.go hH.2 hbz; ⟨HC.out _ B9.now, B9⟩)
                  clear hK K
                  try simp only [Act.put, List.setIfInBounds_toArray, List.set_cons_zero, List.set_cons_succ]
                  refine wpAnyH_ready (rs := [15]) (by kernel_rfl) (by simp) ?_
                  refine AllReadyH.cons (o := ⟨none, Op.store 58 (Operand.tmp 5) (Operand.tmp 32), 0, _, _, none⟩) rfl (fun K hK => ?_) AllReadyH.nil
                  have sT := sT
                  have hc := sT.cell
                  have hc1 := sT.cell1
                  have hf := sT.free
                  have hf1 := sT.free1
                  go_simp
                  have sT2 := sT.set2 (.slice a9 n9 c9) (.bool m9)
                  have hi9s : IntAt _ a9 n9 c9 m9 S := IntAt.set2b (IntAt.below hi9 (by exact Below.refl _ _)) sT (.slice a9 n9 c9) (.bool m9)
                  have B9s := HP.out _ _ sT (by omega) hH.2 a9 n9 c9 m9
                  refine hK.out _ _ ?_ (fun hH => ?_)
                  · exact ⟨HC.out _ B9s.now, B9s⟩
                  clear hK K
                  try simp only [Act.put, List.setIfInBounds_toArray, List.set_cons_zero, List.set_cons_succ]
                  refine wpAnyH_done (by kernel_rfl) ?_ _
                  refine NoPanic.normal ?_
                  exact TL _ _ _ _ _ _ _ _ _ _ _ _ _ _ _ _ _ _ _ _ _ _ _ _ _ _ _ _ _ _ hH.2 sT2 hi9s (by omega)
                exact AllReadyH.nil
              refine AllReadyH.cons (o := ⟨some 5, Op.alloc 58, 0, _, _, none⟩) rfl (fun K hK => ?_) ?_
              · have hk5 := hH.2.now.1.lt
                have BW := hH.2
                have sT := Slot2.new (World.alloc wy7 (.cells #[.slice a7 n7 c7, .bool m7] 58)) (.slice none 0 0) (.bool false) 58
                simp only [World.size_alloc] at sT hk5
                go_simp
                refine hK.out _ _ ?_ (fun hH => ?_)
                · exact (have B9 := Bag.alloc hH.2 _; ⟨HC.out _ B9.now, B9⟩)
                clear hK K
                try simp only [Act.put, List.setIfInBounds_toArray, List.set_cons_zero, List.set_cons_succ]
                refine wpAnyH_ready (rs := [11]) (by kernel_rfl) (by simp) ?_
                refine AllReadyH.cons (o := ⟨some 30, Op.call { callee := Callee.value (Operand.func 82), args := #[Operand.tmp 26, Operand.tmp 29], argTypes := #[58, 170] }, 58, _, _, none⟩) rfl (fun K hK => ?_) AllReadyH.nil
                go_simp
                (go_at_call 82; (with_reducible refine (T2.out _ _ ?_ ?_).mono ?_); exact hH.2.now.2.2.2.1.int; (apply IntsAt.old1; (refine Below.more ?_ _; exact Below.refl _ _); (first | rfl | focus (simp; done)); exact (IntAt.below hi7 (by refine Below.more ?_ _; refine Below.more ?_ _; exact Below.refl _ _))); rintro e wy8 ⟨a8, n8, c8, m8, rfl, hi8, hbz⟩; have sT := sT.below hbz)
                refine hK.out _ _ ?_ (fun hH => ?_)
                · exact (have B9 := Bag.go hH.2 hbz; ⟨HC.out _ B9.now, B9⟩)
                clear hK K
                try simp only [Act.put, List.setIfInBounds_toArray, List.set_cons_zero, List.set_cons_succ]
                refine wpAnyH_ready (rs := [12]) (by kernel_rfl) (by simp) ?_
                refine AllReadyH.cons (o := ⟨some 31, Op.buildSlice 170 1 #[(0, Operand.tmp 30)], 170, _, _, none⟩) rfl (fun K hK => ?_) AllReadyH.nil
                go_simp
                refine hK.out _ _ ?_ (fun hH => ?_)
                · exact (have B9 := Bag.alloc hH.2 _; ⟨HC.out _ B9.now, B9⟩)
                clear hK K
                try simp only [Act.put, List.setIfInBounds_toArray, List.set_cons_zero, List.set_cons_succ]
                have sT := sT.below (Below.more (Below.refl _ _) (.cells #[.slice a8 n8 c8, .bool m8] 58))
                refine wpAnyH_ready (rs := [13]) (by kernel_rfl) (by simp) ?_
                refine AllReadyH.cons (o := ⟨some 32, Op.call { callee := Callee.value (Operand.func 137), args := #[Operand.tmp 24, Operand.tmp 31], argTypes := #[58, 170] }, 58, _, _, none⟩) rfl (fun K hK => ?_) AllReadyH.nil
                go_simp
                (go_at_call 137; (with_reducible refine (PL.out a6 n6 c6 m6 _ _ ?_ ?_).mono ?_); exact (IntAt.below hi6 (by refine Below.more ?_ _; refine Below.step (by assumption) ?_; refine Below.more ?_ _; refine Below.more ?_ _; refine Below.step (by assumption) ?_; exact Below.refl _ _)); (apply IntsAt.old1; (exact Below.refl _ _); (first | rfl | focus (simp; done)); exact (IntAt.below hi8 (by refine Below.more ?_ _; exact Below.refl _ _))); rintro e wy9 ⟨a9, n9, c9, m9, rfl, hi9, hbz⟩; have sT := sT.below hbz)
                refine hK.out _ _ ?_ (fun hH => ?_)
                · exact (have B9 := Bag.go hH.2 hbz; ⟨HC.out _ B9.now, B9⟩)
                clear hK K
                try simp only [Act.put, List.setIfInBounds_toArray, List.set_cons_zero, List.set_cons_succ]
                refine wpAnyH_ready (rs := [15]) (by kernel_rfl) (by simp) ?_
                refine AllReadyH.cons (o := ⟨none, Op.store 58 (Operand.tmp 5) (Operand.tmp 32), 0, _, _, none⟩) rfl (fun K hK => ?_) AllReadyH.nil
                have sT := sT
                have hc := sT.cell
                have hc1 := sT.cell1
                have hf := sT.free
                have hf1 := sT.free1
                go_simp
                have sT2 := sT.set2 (.slice a9 n9 c9) (.bool m9)
                have hi9s : IntAt _ a9 n9 c9 m9 S := IntAt.set2b (IntAt.below hi9 (by exact Below.refl _ _)) sT (.slice a9 n9 c9) (.bool m9)
                have B9s := HP.out _ _ sT (by omega) hH.2 a9 n9 c9 m9
                refine hK.out _ _ ?_ (fun hH => ?_)
                · exact ⟨HC.out _ B9s.now, B9s⟩
                clear hK K
                try simp only [Act.put, List.setIfInBounds_toArray, List.set_cons_zero, List.set_cons_succ]
                refine wpAnyH_done (by kernel_rfl) ?_ _
                refine NoPanic.normal ?_
                exact TL _ _ _ _ _ _ _ _ _ _ _ _ _ _ _ _ _ _ _ _ _ _ _ _ _ _ _ _ _ _ hH.2 sT2 hi9s (by omega)
              exact AllReadyH.nil
            refine AllReadyH.cons (o := ⟨some 5, Op.alloc 58, 0, _, _, none⟩) rfl (fun K hK => ?_) ?_
            · have hk5 := hH.2.now.1.lt
              have BW := hH.2
              have sT := Slot2.new wy7 (.slice none 0 0) (.bool false) 58
              go_simp
              refine hK.out _ _ ?_ (fun hH => ?_)
              · exact (have B9 := Bag.alloc hH.2 _; ⟨HC.out _ B9.now, B9⟩)
              clear hK K
              try simp only [Act.put, List.setIfInBounds_toArray, List.set_cons_zero, List.set_cons_succ]
              refine wpAnyH_ready (rs := [10]) (by kernel_rfl) (by simp) ?_
              refine AllReadyH.cons (o := ⟨some 29, Op.buildSlice 170 1 #[(0, Operand.tmp 28)], 170, _, _, none⟩) rfl (fun K hK => ?_) AllReadyH.nil
              go_simp
              refine hK.out _ _ ?_ (fun hH => ?_)
              · exact (have B9 := Bag.alloc hH.2 _; ⟨HC.out _ B9.now, B9⟩)
              clear hK K
              try simp only [Act.put, List.setIfInBounds_toArray, List.set_cons_zero, List.set_cons_succ]
              have sT := sT.below (Below.more (Below.refl _ _) (.cells #[.slice a7 n7 c7, .bool m7] 58))
              refine wpAnyH_ready (rs := [11]) (by kernel_rfl) (by simp) ?_
              refine AllReadyH.cons (o := ⟨some 30, Op.call { callee := Callee.value (Operand.func 82), args := #[Operand.tmp 26, Operand.tmp 29], argTypes := #[58, 170] }, 58, _, _, none⟩) rfl (fun K hK => ?_) AllReadyH.nil
              go_simp
              (go_at_call 82; (with_reducible refine (T2.out _ _ ?_ ?_).mono ?_); exact hH.2.now.2.2.2.1.int; (apply IntsAt.old1; (exact Below.refl _ _); (first | rfl | focus (simp; done)); exact (IntAt.below hi7 (by refine Below.more ?_ _; refine Below.more ?_ _; exact Below.refl _ _))); rintro e wy8 ⟨a8, n8, c8, m8, rfl, hi8, hbz⟩; have sT := sT.below hbz)
              refine hK.out _ _ ?_ (fun hH => ?_)
              · exact (have B9 := Bag.go hH.2 hbz; ⟨HC.out _ B9.now, B9⟩)
              clear hK K
              try simp only [Act.put, List.setIfInBounds_toArray, List.set_cons_zero, List.set_cons_succ]
              refine wpAnyH_ready (rs := [12]) (by kernel_rfl) (by simp) ?_
              refine AllReadyH.cons (o := ⟨some 31, Op.buildSlice 170 1 #[(0, Operand.tmp 30)], 170, _, _, none⟩) rfl (fun K hK => ?_) AllReadyH.nil
              go_simp
              refine hK.out _ _ ?_ (fun hH => ?_)
              · exact (have B9 := Bag.alloc hH.2 _; ⟨HC.out _ B9.now, B9⟩)
              clear hK K
              try simp only [Act.put, List.setIfInBounds_toArray, List.set_cons_zero, List.set_cons_succ]
              have sT := sT.below (Below.more (Below.refl _ _) (.cells #[.slice a8 n8 c8, .bool m8] 58))
              refine wpAnyH_ready (rs := [13]) (by kernel_rfl) (by simp) ?_
              refine AllReadyH.cons (o := ⟨some 32, Op.call { callee := Callee.value (Operand.func 137), args := #[Operand.tmp 24, Operand.tmp 31], argTypes := #[58, 170] }, 58, _, _, none⟩) rfl (fun K hK => ?_) AllReadyH.nil
              go_simp
              (go_at_call 137; (with_reducible refine (PL.out a6 n6 c6 m6 _ _ ?_ ?_).mono ?_); exact (IntAt.below hi6 (by refine Below.more ?_ _; refine Below.step (by assumption) ?_; refine Below.more ?_ _; refine Below.more ?_ _; refine Below.step (by assumption) ?_; exact Below.refl _ _)); (apply IntsAt.old1; (exact Below.refl _ _); (first | rfl | focus (simp; done)); exact (IntAt.below hi8 (by refine Below.more ?_ _; exact Below.refl _ _))); rintro e wy9 ⟨a9, n9, c9, m9, rfl, hi9, hbz⟩; have sT := sT.below hbz)
              refine hK.out _ _ ?_ (fun hH => ?_)
              · exact (have B9 := Bag.go hH.2 hbz; ⟨HC.out _ B9.now, B9⟩)
              clear hK K
              try simp only [Act.put, List.setIfInBounds_toArray, List.set_cons_zero, List.set_cons_succ]
              refine wpAnyH_ready (rs := [15]) (by kernel_rfl) (by simp) ?_
              refine AllReadyH.cons (o := ⟨none, Op.store 58 (Operand.tmp 5) (Operand.tmp 32), 0, _, _, none⟩) rfl (fun K hK => ?_) AllReadyH.nil
              have sT := sT
              have hc := sT.cell
              have hc1 := sT.cell1
              have hf := sT.free
              have hf1 := sT.free1
              go_simp
              have sT2 := sT.set2 (.slice a9 n9 c9) (.bool m9)
              have hi9s : IntAt _ a9 n9 c9 m9 S := IntAt.set2b (IntAt.below hi9 (by exact Below.refl _ _)) sT (.slice a9 n9 c9) (.bool m9)
              have B9s := HP.out _ _ sT (by omega) hH.2 a9 n9 c9 m9
              refine hK.out _ _ ?_ (fun hH => ?_)
              · exact ⟨HC.out _ B9s.now, B9s⟩
              clear hK K
              try simp only [Act.put, List.setIfInBounds_toArray, List.set_cons_zero, List.set_cons_succ]
              refine wpAnyH_done (by kernel_rfl) ?_ _
              refine NoPanic.normal ?_
              exact TL _ _ _ _ _ _ _ _ _ _ _ _ _ _ _ _ _ _ _ _ _ _ _ _ _ _ _ _ _ _ hH.2 sT2 hi9s (by omega)
            exact AllReadyH.nil
          refine AllReadyH.cons (o := ⟨some 5, Op.alloc 58, 0, _, _, none⟩) rfl (fun K hK => ?_) ?_
          · have hk5 := hH.2.now.1.lt
            have BW := hH.2
            have sT := Slot2.new wy6 (.slice none 0 0) (.bool false) 58
            go_simp
            refine hK.out _ _ ?_ (fun hH => ?_)
            · exact (have B9 := Bag.alloc hH.2 _; ⟨HC.out _ B9.now, B9⟩)
            clear hK K
            try simp only [Act.put, List.setIfInBounds_toArray, List.set_cons_zero, List.set_cons_succ]
            refine wpAnyH_ready (rs := [9]) (by kernel_rfl) (by simp) ?_
            refine AllReadyH.cons (o := ⟨some 28, Op.call { callee := Callee.value (Operand.func 83), args := #[Operand.tmp 27], argTypes := #[60] }, 58, _, _, none⟩) rfl (fun K hK => ?_) AllReadyH.nil
            go_simp
            (go_at_call 83; (with_reducible refine (BL.out _ ?_).mono ?_); exact hH.2.now.2.2.2.2.1; rintro e wy7 ⟨a7, n7, c7, m7, rfl, hi7, hbz⟩; have sT := sT.below hbz)
            refine hK.out _ _ ?_ (fun hH => ?_)
            · exact (have B9 := Bag.go hH.2 hbz; ⟨HC.out _ B9.now, B9⟩)
            clear hK K
            try simp only [Act.put, List.setIfInBounds_toArray, List.set_cons_zero, List.set_cons_succ]
            refine wpAnyH_ready (rs := [10]) (by kernel_rfl) (by simp) ?_
            refine AllReadyH.cons (o := ⟨some 29, Op.buildSlice 170 1 #[(0, Operand.tmp 28)], 170, _, _, none⟩) rfl (fun K hK => ?_) AllReadyH.nil
            go_simp
            refine hK.out _ _ ?_ (fun hH => ?_)
            · exact (have B9 := Bag.alloc hH.2 _; ⟨HC.out _ B9.now, B9⟩)
            clear hK K
            try simp only [Act.put, List.setIfInBounds_toArray, List.set_cons_zero, List.set_cons_succ]
            have sT := sT.below (Below.more (Below.refl _ _) (.cells #[.slice a7 n7 c7, .bool m7] 58))
            refine wpAnyH_ready (rs := [11]) (by kernel_rfl) (by simp) ?_
            refine AllReadyH.cons (o := ⟨some 30, Op.call { callee := Callee.value (Operand.func 82), args := #[Operand.tmp 26, Operand.tmp 29], argTypes := #[58, 170] }, 58, _, _, none⟩) rfl (fun K hK => ?_) AllReadyH.nil
            go_simp
            (go_at_call 82; (with_reducible refine (T2.out _ _ ?_ ?_).mono ?_); exact hH.2.now.2.2.2.1.int; (apply IntsAt.old1; (exact Below.refl _ _); (first | rfl | focus (simp; done)); exact (IntAt.below hi7 (by refine Below.more ?_ _; exact Below.refl _ _))); rintro e wy8 ⟨a8, n8, c8, m8, rfl, hi8, hbz⟩; have sT := sT.below hbz)
            refine hK.out _ _ ?_ (fun hH => ?_)
            · exact (have B9 := Bag.go hH.2 hbz; ⟨HC.out _ B9.now, B9⟩)
            clear hK K
            try simp only [Act.put, List.setIfInBounds_toArray, List.set_cons_zero, List.set_cons_succ]
            refine wpAnyH_ready (rs := [12]) (by kernel_rfl) (by simp) ?_
            refine AllReadyH.cons (o := ⟨some 31, Op.buildSlice 170 1 #[(0, Operand.tmp 30)], 170, _, _, none⟩) rfl (fun K hK => ?_) AllReadyH.nil
            go_simp
            refine hK.out _ _ ?_ (fun hH => ?_)
            · exact (have B9 := Bag.alloc hH.2 _; ⟨HC.out _ B9.now, B9⟩)
            clear hK K
            try simp only [Act.put, List.setIfInBounds_toArray, List.set_cons_zero, List.set_cons_succ]
            have sT := sT.below (Below.more (Below.refl _ _) (.cells #[.slice a8 n8 c8, .bool m8] 58))
            refine wpAnyH_ready (rs := [13]) (by kernel_rfl) (by simp) ?_
            refine AllReadyH.cons (o := ⟨some 32, Op.call { callee := Callee.value (Operand.func 137), args := #[Operand.tmp 24, Operand.tmp 31], argTypes := #[58, 170] }, 58, _, _, none⟩) rfl (fun K hK => ?_) AllReadyH.nil
            go_simp
            (go_at_call 137; (with_reducible refine (PL.out a6 n6 c6 m6 _ _ ?_ ?_).mono ?_); exact (IntAt.below hi6 (by refine Below.more ?_ _; refine Below.step (by assumption) ?_; refine Below.more ?_ _; refine Below.step (by assumption) ?_; refine Below.more ?_ _; exact Below.refl _ _)); (apply IntsAt.old1; (exact Below.refl _ _); (first | rfl | focus (simp; done)); exact (IntAt.below hi8 (by refine Below.more ?_ _; exact Below.refl _ _))); rintro e wy9 ⟨a9, n9, c9, m9, rfl, hi9, hbz⟩; have sT := sT.below hbz)
            refine hK.out _ _ ?_ (fun hH => ?_)
            · exact (have B9 := Bag.go hH.2 hbz; ⟨HC.out _ B9.now, B9⟩)
            clear hK K
            try simp only [Act.put, List.setIfInBounds_toArray, List.set_cons_zero, List.set_cons_succ]
            refine wpAnyH_ready (rs := [15]) (by kernel_rfl) (by simp) ?_
            refine AllReadyH.cons (o := ⟨none, Op.store 58 (Operand.tmp 5) (Operand.tmp 32), 0, _, _, none⟩) rfl (fun K hK => ?_) AllReadyH.nil
            have sT := sT
            have hc := sT.cell
            have hc1 := sT.cell1
            have hf := sT.free
            have hf1 := sT.free1
            go_simp
            have sT2 := sT.set2 (.slice a9 n9 c9) (.bool m9)
            have hi9s : IntAt _ a9 n9 c9 m9 S := IntAt.set2b (IntAt.below hi9 (by exact Below.refl _ _)) sT (.slice a9 n9 c9) (.bool m9)
            have B9s := HP.out _ _ sT (by omega) hH.2 a9 n9 c9 m9
            refine hK.out _ _ ?_ (fun hH => ?_)
            · exact ⟨HC.out _ B9s.now, B9s⟩
            clear hK K
            try simp only [Act.put, List.setIfInBounds_toArray, List.set_cons_zero, List.set_cons_succ]
            refine wpAnyH_done (by kernel_rfl) ?_ _
            refine NoPanic.normal ?_
            exact TL _ _ _ _ _ _ _ _ _ _ _ _ _ _ _ _ _ _ _ _ _ _ _ _ _ _ _ _ _ _ hH.2 sT2 hi9s (by omega)
          exact AllReadyH.nil
        refine AllReadyH.cons (o := ⟨some 5, Op.alloc 58, 0, _, _, none⟩) rfl (fun K hK => ?_) ?_
        · have hk5 := hH.2.now.1.lt
          have BW := hH.2
          have sT := Slot2.new (World.alloc wy5 (.cells #[.slice a5 n5 c5, .bool m5] 58)) (.slice none 0 0) (.bool false) 58
          simp only [World.size_alloc] at sT hk5
          go_simp
          refine hK.out _ _ ?_ (fun hH => ?_)
          · exact (have B9 := Bag.alloc hH.2 _; ⟨HC.out _ B9.now, B9⟩)
          clear hK K
          try simp only [Act.put, List.setIfInBounds_toArray, List.set_cons_zero, List.set_cons_succ]
          refine wpAnyH_ready (rs := [5]) (by kernel_rfl) (by simp) ?_
          refine AllReadyH.cons (o := ⟨some 24, Op.call { callee := Callee.value (Operand.func 82), args := #[Operand.tmp 20, Operand.tmp 23], argTypes := #[58, 170] }, 58, _, _, none⟩) rfl (fun K hK => ?_) AllReadyH.nil
          go_simp
          (go_at_call 82; (with_reducible refine (T1.out _ _ ?_ ?_).mono ?_); exact hH.2.now.2.2.2.2.1.int; (apply IntsAt.old1; (refine Below.more ?_ _; exact Below.refl _ _); (first | rfl | focus (simp; done)); exact (IntAt.below hi5 (by refine Below.more ?_ _; refine Below.more ?_ _; exact Below.refl _ _))); rintro e wy6 ⟨a6, n6, c6, m6, rfl, hi6, hbz⟩; have sT := sT.below hbz)
          refine hK.out _ _ ?_ (fun hH => ?_)
          · exact (have B9 := Bag.go hH.2 hbz; ⟨HC.out _ B9.now, B9⟩)
          clear hK K
          try simp only [Act.put, List.setIfInBounds_toArray, List.set_cons_zero, List.set_cons_succ]
          refine wpAnyH_ready (rs := [9]) (by kernel_rfl) (by simp) ?_
          refine AllReadyH.cons (o := ⟨some 28, Op.call { callee := Callee.value (Operand.func 83), args := #[Operand.tmp 27], argTypes := #[60] }, 58, _, _, none⟩) rfl (fun K hK => ?_) AllReadyH.nil
          go_simp
          (go_at_call 83; (with_reducible refine (BL.out _ ?_).mono ?_); exact hH.2.now.2.2.2.2.1; rintro e wy7 ⟨a7, n7, c7, m7, rfl, hi7, hbz⟩; have sT := sT.below hbz)
          refine hK.out _ _ ?_ (fun hH => ?_)
          · exact (have B9 := Bag.go hH.2 hbz; ⟨HC.out _ B9.now, B9⟩)
          clear hK K
          try simp only [Act.put, List.setIfInBounds_toArray, List.set_cons_zero, List.set_cons_succ]
          refine wpAnyH_ready (rs := [10]) (by kernel_rfl) (by simp) ?_
          refine AllReadyH.cons (o := ⟨some 29, Op.buildSlice 170 1 #[(0, Operand.tmp 28)], 170, _, _, none⟩) rfl (fun K hK => ?_) AllReadyH.nil
          go_simp
          refine hK.out _ _ ?_ (fun hH => ?_)
          · exact (have B9 := Bag.alloc hH.2 _; ⟨HC.out _ B9.now, B9⟩)
          clear hK K
          try simp only [Act.put, List.setIfInBounds_toArray, List.set_cons_zero, List.set_cons_succ]
          have sT := sT.below (Below.more (Below.refl _ _) (.cells #[.slice a7 n7 c7, .bool m7] 58))
          refine wpAnyH_ready (rs := [11]) (by kernel_rfl) (by simp) ?_
          refine AllReadyH.cons (o := ⟨some 30, Op.call { callee := Callee.value (Operand.func 82), args := #[Operand.tmp 26, Operand.tmp 29], argTypes := #[58, 170] }, 58, _, _, none⟩) rfl (fun K hK => ?_) AllReadyH.nil
          go_simp
          (go_at_call 82; (with_reducible refine (T2.out _ _ ?_ ?_).mono ?_); exact hH.2.now.2.2.2.1.int; (apply IntsAt.old1; (exact Below.refl _ _); (first | rfl | focus (simp; done)); exact (IntAt.below hi7 (by refine Below.more ?_ _; exact Below.refl _ _))); rintro e wy8 ⟨a8, n8, c8, m8, rfl, hi8, hbz⟩; have sT := sT.below hbz)
          refine hK.out _ _ ?_ (fun hH => ?_)
          · exact (have B9 := Bag.go hH.2 hbz; ⟨HC.out _ B9.now, B9⟩)
          clear hK K
          try simp only [Act.put, List.setIfInBounds_toArray, List.set_cons_zero, List.set_cons_succ]
          refine wpAnyH_ready (rs := [12]) (by kernel_rfl) (by simp) ?_
          refine AllReadyH.cons (o := ⟨some 31, Op.buildSlice 170 1 #[(0, Operand.tmp 30)], 170, _, _, none⟩) rfl (fun K hK => ?_) AllReadyH.nil
          go_simp
          refine hK.out _ _ ?_ (fun hH => ?_)
          · exact (have B9 := Bag.alloc hH.2 _; ⟨HC.out _ B9.now, B9⟩)
          clear hK K
          try simp only [Act.put, List.setIfInBounds_toArray, List.set_cons_zero, List.set_cons_succ]
          have sT := sT.below (Below.more (Below.refl _ _) (.cells #[.slice a8 n8 c8, .bool m8] 58))
          refine wpAnyH_ready (rs := [13]) (by kernel_rfl) (by simp) ?_
          refine AllReadyH.cons (o := ⟨some 32, Op.call { callee := Callee.value (Operand.func 137), args := #[Operand.tmp 24, Operand.tmp 31], argTypes := #[58, 170] }, 58, _, _, none⟩) rfl (fun K hK => ?_) AllReadyH.nil
          go_simp
          (go_at_call 137; (with_reducible refine (PL.out a6 n6 c6 m6 _ _ ?_ ?_).mono ?_); exact (IntAt.below hi6 (by refine Below.more ?_ _; refine Below.step (by assumption) ?_; refine Below.more ?_ _; refine Below.step (by assumption) ?_; exact Below.refl _ _)); (apply IntsAt.old1; (exact Below.refl _ _); (first | rfl | focus (simp; done)); exact (IntAt.below hi8 (by refine Below.more ?_ _; exact Below.refl _ _))); rintro e wy9 ⟨a9, n9, c9, m9, rfl, hi9, hbz⟩; have sT := sT.below hbz)
          refine hK.out _ _ ?_ (fun hH => ?_)
          · exact (have B9 := Bag.go hH.2 hbz; ⟨HC.out _ B9.now, B9⟩)
          clear hK K
          try simp only [Act.put, List.setIfInBounds_toArray, List.set_cons_zero, List.set_cons_succ]
          refine wpAnyH_ready (rs := [15]) (by kernel_rfl) (by simp) ?_
          refine AllReadyH.cons (o := ⟨none, Op.store 58 (Operand.tmp 5) (Operand.tmp 32), 0, _, _, none⟩) rfl (fun K hK => ?_) AllReadyH.nil
          have sT := sT
          have hc := sT.cell
          have hc1 := sT.cell1
          have hf := sT.free
          have hf1 := sT.free1
          go_simp
          have sT2 := sT.set2 (.slice a9 n9 c9) (.bool m9)
          have hi9s : IntAt _ a9 n9 c9 m9 S := IntAt.set2b (IntAt.below hi9 (by exact Below.refl _ _)) sT (.slice a9 n9 c9) (.bool m9)
          have B9s := HP.out _ _ sT (by omega) hH.2 a9 n9 c9 m9
          refine hK.out _ _ ?_ (fun hH => ?_)
          · exact ⟨HC.out _ B9s.now, B9s⟩
          clear hK K
          try simp only [Act.put, List.setIfInBounds_toArray, List.set_cons_zero, List.set_cons_succ]
          refine wpAnyH_done (by kernel_rfl) ?_ _
          refine NoPanic.normal ?_
          exact TL _ _ _ _ _ _ _ _ _ _ _ _ _ _ _ _ _ _ _ _ _ _ _ _ _ _ _ _ _ _ hH.2 sT2 hi9s (by omega)
        exact AllReadyH.nil
      refine AllReadyH.cons (o := ⟨some 5, Op.alloc 58, 0, _, _, none⟩) rfl (fun K hK => ?_) ?_
      · have hk5 := hH.2.now.1.lt
        have BW := hH.2
        have sT := Slot2.new wy5 (.slice none 0 0) (.bool false) 58
        go_simp
        refine hK.out _ _ ?_ (fun hH => ?_)
        · exact (have B9 := Bag.alloc hH.2 _; ⟨HC.out _ B9.now, B9⟩)
        clear hK K
        try simp only [Act.put, List.setIfInBounds_toArray, List.set_cons_zero, List.set_cons_succ]
        refine wpAnyH_ready (rs := [4]) (by kernel_rfl) (by simp) ?_
        refine AllReadyH.cons (o := ⟨some 23, Op.buildSlice 170 1 #[(0, Operand.tmp 22)], 170, _, _, none⟩) rfl (fun K hK => ?_) AllReadyH.nil
        go_simp
        refine hK.out _ _ ?_ (fun hH => ?_)
        · exact (have B9 := Bag.alloc hH.2 _; ⟨HC.out _ B9.now, B9⟩)
        clear hK K
        try simp only [Act.put, List.setIfInBounds_toArray, List.set_cons_zero, List.set_cons_succ]
        have sT := sT.below (Below.more (Below.refl _ _) (.cells #[.slice a5 n5 c5, .bool m5] 58))
        refine wpAnyH_ready (rs := [5]) (by kernel_rfl) (by simp) ?_
        refine AllReadyH.cons (o := ⟨some 24, Op.call { callee := Callee.value (Operand.func 82), args := #[Operand.tmp 20, Operand.tmp 23], argTypes := #[58, 170] }, 58, _, _, none⟩) rfl (fun K hK => ?_) AllReadyH.nil
        go_simp
        (go_at_call 82; (with_reducible refine (T1.out _ _ ?_ ?_).mono ?_); exact hH.2.now.2.2.2.2.1.int; (apply IntsAt.old1; (exact Below.refl _ _); (first | rfl | focus (simp; done)); exact (IntAt.below hi5 (by refine Below.more ?_ _; refine Below.more ?_ _; exact Below.refl _ _))); rintro e wy6 ⟨a6, n6, c6, m6, rfl, hi6, hbz⟩; have sT := sT.below hbz)
        refine hK.out _ _ ?_ (fun hH => ?_)
        · exact (have B9 := Bag.go hH.2 hbz; ⟨HC.out _ B9.now, B9⟩)
        clear hK K
        try simp only [Act.put, List.setIfInBounds_toArray, List.set_cons_zero, List.set_cons_succ]
        refine wpAnyH_ready (rs := [9]) (by kernel_rfl) (by simp) ?_
        refine AllReadyH.cons (o := ⟨some 28, Op.call { callee := Callee.value (Operand.func 83), args := #[Operand.tmp 27], argTypes := #[60] }, 58, _, _, none⟩) rfl (fun K hK => ?_) AllReadyH.nil
        go_simp
        (go_at_call 83; (with_reducible refine (BL.out _ ?_).mono ?_); exact hH.2.now.2.2.2.2.1; rintro e wy7 ⟨a7, n7, c7, m7, rfl, hi7, hbz⟩; have sT := sT.below hbz)
        refine hK.out _ _ ?_ (fun hH => ?_)
        · exact (have B9 := Bag.go hH.2 hbz; ⟨HC.out _ B9.now, B9⟩)
        clear hK K
        try simp only [Act.put, List.setIfInBounds_toArray, List.set_cons_zero, List.set_cons_succ]
        refine wpAnyH_ready (rs := [10]) (by kernel_rfl) (by simp) ?_
        refine AllReadyH.cons (o := ⟨some 29, Op.buildSlice 170 1 #[(0, Operand.tmp 28)], 170, _, _, none⟩) rfl (fun K hK => ?_) AllReadyH.nil
        go_simp
        refine hK.out _ _ ?_ (fun hH => ?_)
        · exact (have B9 := Bag.alloc hH.2 _; ⟨HC.out _ B9.now, B9⟩)
        clear hK K
        try simp only [Act.put, List.setIfInBounds_toArray, List.set_cons_zero, List.set_cons_succ]
        have sT := sT.below (Below.more (Below.refl _ _) (.cells #[.slice a7 n7 c7, .bool m7] 58))
        refine wpAnyH_ready (rs := [11]) (by kernel_rfl) (by simp) ?_
        refine AllReadyH.cons (o := ⟨some 30, Op.call { callee := Callee.value (Operand.func 82), args := #[Operand.tmp 26, Operand.tmp 29], argTypes := #[58, 170] }, 58, _, _, none⟩) rfl (fun K hK => ?_) AllReadyH.nil
        go_simp
        (go_at_call 82; (with_reducible refine (T2.out _ _ ?_ ?_).mono ?_); exact hH.2.now.2.2.2.1.int; (apply IntsAt.old1; (exact Below.refl _ _); (first | rfl | focus (simp; done)); exact (IntAt.below hi7 (by refine Below.more ?_ _; exact Below.refl _ _))); rintro e wy8 ⟨a8, n8, c8, m8, rfl, hi8, hbz⟩; have sT := sT.below hbz)
        refine hK.out _ _ ?_ (fun hH => ?_)
        · exact (have B9 := Bag.go hH.2 hbz; ⟨HC.out _ B9.now, B9⟩)
        clear hK K
        try simp only [Act.put, List.setIfInBounds_toArray, List.set_cons_zero, List.set_cons_succ]
        refine wpAnyH_ready (rs := [12]) (by kernel_rfl) (by simp) ?_
        refine AllReadyH.cons (o := ⟨some 31, Op.buildSlice 170 1 #[(0, Operand.tmp 30)], 170, _, _, none⟩) rfl (fun K hK => ?_) AllReadyH.nil
        go_simp
        refine hK.out _ _ ?_ (fun hH => ?_)
        · exact (have B9 := Bag.alloc hH.2 _; ⟨HC.out _ B9.now, B9⟩)
        clear hK K
        try simp only [Act.put, List.setIfInBounds_toArray, List.set_cons_zero, List.set_cons_succ]
        have sT := sT.below (Below.more (Below.refl _ _) (.cells #[.slice a8 n8 c8, .bool m8] 58))
        refine wpAnyH_ready (rs := [13]) (by kernel_rfl) (by simp) ?_
        refine AllReadyH.cons (o := ⟨some 32, Op.call { callee := Callee.value (Operand.func 137), args := #[Operand.tmp 24, Operand.tmp 31], argTypes := #[58, 170] }, 58, _, _, none⟩) rfl (fun K hK => ?_) AllReadyH.nil
        go_simp
        (go_at_call 137; (with_reducible refine (PL.out a6 n6 c6 m6 _ _ ?_ ?_).mono ?_); exact (IntAt.below hi6 (by refine Below.more ?_ _; refine Below.step (by assumption) ?_; refine Below.more ?_ _; refine Below.step (by assumption) ?_; exact Below.refl _ _)); (apply IntsAt.old1; (exact Below.refl _ _); (first | rfl | focus (simp; done)); exact (IntAt.below hi8 (by refine Below.more ?_ _; exact Below.refl _ _))); rintro e wy9 ⟨a9, n9, c9, m9, rfl, hi9, hbz⟩; have sT := sT.below hbz)
        refine hK.out _ _ ?_ (fun hH => ?_)
        · exact (have B9 := Bag.go hH.2 hbz; ⟨HC.out _ B9.now, B9⟩)
        clear hK K
        try simp only [Act.put, List.setIfInBounds_toArray, List.set_cons_zero, List.set_cons_succ]
        refine wpAnyH_ready (rs := [15]) (by kernel_rfl) (by simp) ?_
        refine AllReadyH.cons (o := ⟨none, Op.store 58 (Operand.tmp 5) (Operand.tmp 32), 0, _, _, none⟩) rfl (fun K hK => ?_) AllReadyH.nil
        have sT := sT
        have hc := sT.cell
        have hc1 := sT.cell1
        have hf := sT.free
        have hf1 := sT.free1
        go_simp
        have sT2 := sT.set2 (.slice a9 n9 c9) (.bool m9)
        have hi9s : IntAt _ a9 n9 c9 m9 S := IntAt.set2b (IntAt.below hi9 (by exact Below.refl _ _)) sT (.slice a9 n9 c9) (.bool m9)
        have B9s := HP.out _ _ sT (by omega) hH.2 a9 n9 c9 m9
        refine hK.out _ _ ?_ (fun hH => ?_)
        · exact ⟨HC.out _ B9s.now, B9s⟩
        clear hK K
        try simp only [Act.put, List.setIfInBounds_toArray, List.set_cons_zero, List.set_cons_succ]
        refine wpAnyH_done (by kernel_rfl) ?_ _
        refine NoPanic.normal ?_
        exact TL _ _ _ _ _ _ _ _ _ _ _ _ _ _ _ _ _ _ _ _ _ _ _ _ _ _ _ _ _ _ hH.2 sT2 hi9s (by omega)
      exact AllReadyH.nil
    refine AllReadyH.cons (o := ⟨some 5, Op.alloc 58, 0, _, _, none⟩) rfl (fun K hK => ?_) ?_
    · have hk5 : w.heap.size + 1 + 1 < w2.heap.size := hH.2.now.1.lt
      have sT : Slot2 (World.alloc w2.drew (.cells #[.slice none 0 0, .bool false] 58)) w2.heap.size (.slice none 0 0) (.bool false) := Slot2.new _ _ _ _
      go_simp
      refine hK.out _ _ ?_ (fun hH => ?_)
      · exact (have B9 := Bag.alloc hH.2 _; ⟨HC.out _ B9.now, B9⟩)
      clear hK K
      try simp only [Act.put, List.setIfInBounds_toArray, List.set_cons_zero, List.set_cons_succ]
      refine wpAnyH_ready (rs := [3]) (by kernel_rfl) (by simp) ?_
      refine AllReadyH.cons (o := ⟨some 22, Op.call { callee := Callee.value (Operand.func 83), args := #[Operand.tmp 21], argTypes := #[60] }, 58, _, _, none⟩) rfl (fun K hK => ?_) AllReadyH.nil
      go_simp
      (go_at_call 83; (with_reducible refine (BL'.out _ ?_).mono ?_); exact hH.2.now.2.2.2.1; rintro e wy5 ⟨a5, n5, c5, m5, rfl, hi5, hbz⟩; have sT := sT.below hbz)
      refine hK.out _ _ ?_ (fun hH => ?_)
      · exact (have B9 := Bag.go hH.2 hbz; ⟨HC.out _ B9.now, B9⟩)
      clear hK K
      try simp only [Act.put, List.setIfInBounds_toArray, List.set_cons_zero, List.set_cons_succ]
      refine wpAnyH_ready (rs := [4]) (by kernel_rfl) (by simp) ?_
      refine AllReadyH.cons (o := ⟨some 23, Op.buildSlice 170 1 #[(0, Operand.tmp 22)], 170, _, _, none⟩) rfl (fun K hK => ?_) AllReadyH.nil
      go_simp
      refine hK.out _ _ ?_ (fun hH => ?_)
      · exact (have B9 := Bag.alloc hH.2 _; ⟨HC.out _ B9.now, B9⟩)
      clear hK K
      try simp only [Act.put, List.setIfInBounds_toArray, List.set_cons_zero, List.set_cons_succ]
      have sT := sT.below (Below.more (Below.refl _ _) (.cells #[.slice a5 n5 c5, .bool m5] 58))
      refine wpAnyH_ready (rs := [5]) (by kernel_rfl) (by simp) ?_
      refine AllReadyH.cons (o := ⟨some 24, Op.call { callee := Callee.value (Operand.func 82), args := #[Operand.tmp 20, Operand.tmp 23], argTypes := #[58, 170] }, 58, _, _, none⟩) rfl (fun K hK => ?_) AllReadyH.nil
      go_simp
      (go_at_call 82; (with_reducible refine (T1.out _ _ ?_ ?_).mono ?_); exact hH.2.now.2.2.2.2.1.int; (apply IntsAt.old1; (exact Below.refl _ _); (first | rfl | focus (simp; done)); exact (IntAt.below hi5 (by refine Below.more ?_ _; exact Below.refl _ _))); rintro e wy6 ⟨a6, n6, c6, m6, rfl, hi6, hbz⟩; have sT := sT.below hbz)
      refine hK.out _ _ ?_ (fun hH => ?_)
      · exact (have B9 := Bag.go hH.2 hbz; ⟨HC.out _ B9.now, B9⟩)
      clear hK K
      try simp only [Act.put, List.setIfInBounds_toArray, List.set_cons_zero, List.set_cons_succ]
      refine wpAnyH_ready (rs := [9]) (by kernel_rfl) (by simp) ?_
      refine AllReadyH.cons (o := ⟨some 28, Op.call { callee := Callee.value (Operand.func 83), args := #[Operand.tmp 27], argTypes := #[60] }, 58, _, _, none⟩) rfl (fun K hK => ?_) AllReadyH.nil
      go_simp
      (go_at_call 83; (with_reducible refine (BL.out _ ?_).mono ?_); exact hH.2.now.2.2.2.2.1; rintro e wy7 ⟨a7, n7, c7, m7, rfl, hi7, hbz⟩; have sT := sT.below hbz)
      refine hK.out _ _ ?_ (fun hH => ?_)
      · exact (have B9 := Bag.go hH.2 hbz; ⟨HC.out _ B9.now, B9⟩)
      clear hK K
      try simp only [Act.put, List.setIfInBounds_toArray, List.set_cons_zero, List.set_cons_succ]
      refine wpAnyH_ready (rs := [10]) (by kernel_rfl) (by simp) ?_
      refine AllReadyH.cons (o := ⟨some 29, Op.buildSlice 170 1 #[(0, Operand.tmp 28)], 170, _, _, none⟩) rfl (fun K hK => ?_) AllReadyH.nil
      go_simp
      refine hK.out _ _ ?_ (fun hH => ?_)
      · exact (have B9 := Bag.alloc hH.2 _; ⟨HC.out _ B9.now, B9⟩)
      clear hK K
      try simp only [Act.put, List.setIfInBounds_toArray, List.set_cons_zero, List.set_cons_succ]
      have sT := sT.below (Below.more (Below.refl _ _) (.cells #[.slice a7 n7 c7, .bool m7] 58))
      refine wpAnyH_ready (rs := [11]) (by kernel_rfl) (by simp) ?_
      refine AllReadyH.cons (o := ⟨some 30, Op.call { callee := Callee.value (Operand.func 82), args := #[Operand.tmp 26, Operand.tmp 29], argTypes := #[58, 170] }, 58, _, _, none⟩) rfl (fun K hK => ?_) AllReadyH.nil
      go_simp
      (go_at_call 82; (with_reducible refine (T2.out _ _ ?_ ?_).mono ?_); exact hH.2.now.2.2.2.1.int; (apply IntsAt.old1; (exact Below.refl _ _); (first | rfl | focus (simp; done)); exact (IntAt.below hi7 (by refine Below.more ?_ _; exact Below.refl _ _))); rintro e wy8 ⟨a8, n8, c8, m8, rfl, hi8, hbz⟩; have sT := sT.below hbz)
      refine hK.out _ _ ?_ (fun hH => ?_)
      · exact (have B9 := Bag.go hH.2 hbz; ⟨HC.out _ B9.now, B9⟩)
      clear hK K
      try simp only [Act.put, List.setIfInBounds_toArray, List.set_cons_zero, List.set_cons_succ]
      refine wpAnyH_ready (rs := [12]) (by kernel_rfl) (by simp) ?_
      refine AllReadyH.cons (o := ⟨some 31, Op.buildSlice 170 1 #[(0, Operand.tmp 30)], 170, _, _, none⟩) rfl (fun K hK => ?_) AllReadyH.nil
      go_simp
      refine hK.out _ _ ?_ (fun hH => ?_)
      · exact (have B9 := Bag.alloc hH.2 _; ⟨HC.out _ B9.now, B9⟩)
      clear hK K
      try simp only [Act.put, List.setIfInBounds_toArray, List.set_cons_zero, List.set_cons_succ]
      have sT := sT.below (Below.more (Below.refl _ _) (.cells #[.slice a8 n8 c8, .bool m8] 58))
      refine wpAnyH_ready (rs := [13]) (by kernel_rfl) (by simp) ?_
      refine AllReadyH.cons (o := ⟨some 32, Op.call { callee := Callee.value (Operand.func 137), args := #[Operand.tmp 24, Operand.tmp 31], argTypes := #[58, 170] }, 58, _, _, none⟩) rfl (fun K hK => ?_) AllReadyH.nil
      go_simp
      (go_at_call 137; (with_reducible refine (PL.out a6 n6 c6 m6 _ _ ?_ ?_).mono ?_); exact (IntAt.below hi6 (by refine Below.more ?_ _; refine Below.step (by assumption) ?_; refine Below.more ?_ _; refine Below.step (by assumption) ?_; exact Below.refl _ _)); (apply IntsAt.old1; (exact Below.refl _ _); (first | rfl | focus (simp; done)); exact (IntAt.below hi8 (by refine Below.more ?_ _; exact Below.refl _ _))); rintro e wy9 ⟨a9, n9, c9, m9, rfl, hi9, hbz⟩; have sT := sT.below hbz)
      refine hK.out _ _ ?_ (fun hH => ?_)
      · exact (have B9 := Bag.go hH.2 hbz; ⟨HC.out _ B9.now, B9⟩)
      clear hK K
      try simp only [Act.put, List.setIfInBounds_toArray, List.set_cons_zero, List.set_cons_succ]
      refine wpAnyH_ready (rs := [15]) (by kernel_rfl) (by simp) ?_
      refine AllReadyH.cons (o := ⟨none, Op.store 58 (Operand.tmp 5) (Operand.tmp 32), 0, _, _, none⟩) rfl (fun K hK => ?_) AllReadyH.nil
      have sT := sT
      have hc := sT.cell
      have hc1 := sT.cell1
      have hf := sT.free
      have hf1 := sT.free1
      go_simp
      have sT2 := sT.set2 (.slice a9 n9 c9) (.bool m9)
      have hi9s : IntAt _ a9 n9 c9 m9 S := IntAt.set2b (IntAt.below hi9 (by exact Below.refl _ _)) sT (.slice a9 n9 c9) (.bool m9)
      have B9s := HP.out _ _ sT (by omega) hH.2 a9 n9 c9 m9
      refine hK.out _ _ ?_ (fun hH => ?_)
      · exact ⟨HC.out _ B9s.now, B9s⟩
      clear hK K
      try simp only [Act.put, List.setIfInBounds_toArray, List.set_cons_zero, List.set_cons_succ]
      refine wpAnyH_done (by kernel_rfl) ?_ _
      refine NoPanic.normal ?_
      exact TL _ _ _ _ _ _ _ _ _ _ _ _ _ _ _ _ _ _ _ _ _ _ _ _ _ _ _ _ _ _ hH.2 sT2 hi9s (by omega)
    exact AllReadyH.nil
theorem ratPlusOne_any (a : Option Addr) (n c : Nat) (m : Bool) (a2 : Option Addr) (n2 c2 : Nat) (P : Int) (Q : Nat) (b : Option Addr) (k l : Nat) (v : Bool) (b2 : Option Addr) (k2 l2 : Nat) (P' : Int) (Q' : Nat) (w : World)
    (h : RatAt w a n c m a2 n2 c2 P Q) (g : RatAt w b k l v b2 k2 l2 P' Q') (hQ : 0 < Q) (hQ' : 0 < Q') (K : Nat) (hK : K ≤ 200000) (h1 : P.natAbs < 4294967296 ^ K) (h2 : Q < 4294967296 ^ K) (h3 : P'.natAbs < 4294967296 ^ K) (h4 : Q' < 4294967296 ^ K) :
    Calls Tryz.prog 78 #[.agg #[.slice a n c, .bool m, .slice a2 n2 c2], .agg #[.slice b k l, .bool v, .slice b2 k2 l2]] w fun e w' => RatTold w w' e (plP P Q P' Q') (plQ P Q P' Q') := by
  by_cases hw : Q = 1 ∧ Q' = 1
  · obtain ⟨rfl, rfl⟩ := hw
    exact ratPlusOne_whole a n c m a2 n2 c2 P b k l v b2 k2 l2 P' w h g K hK h1 h3
  · exact ratPlusOne_some a n c m a2 n2 c2 P Q b k l v b2 k2 l2 P' Q' w h g hQ hQ' K hK h1 h2 h3 h4 hw
end Go.Proofs.YtnpoakaffafdiaaGreatDoor
namespace Go.Proofs.YtnpoakaffafdiaaGreatDoor
open Go.RowKit
attribute [local go_sem ↓] Go.wp_at_zero Go.wp_at_succ
/-- A row of one number, made some steps ago. -/
theorem RatsAt.old1 {wk w : World} {k : Nat} {a : Option Addr} {n c : Nat} {m : Bool} {a2 : Option Addr} {n2 c2 : Nat} {P : Int} {Q : Nat} {t : TypeId}
    (hb : Below (wk.alloc (.cells #[.slice a n c, .bool m, .slice a2 n2 c2] t)).heap.size (wk.alloc (.cells #[.slice a n c, .bool m, .slice a2 n2 c2] t)) w)
    (hk : wk.heap.size = k) (h : RatAt w a n c m a2 n2 c2 P Q) : RatsAt w (some ⟨k, 0, none⟩) 1 1 (fun _ => P) (fun _ => Q) := by
  subst hk
  have hs := (Slot3.new wk (.slice a n c) (.bool m) (.slice a2 n2 c2) t).below hb
  refine ⟨Nat.le_refl _, by omega, .inr ⟨_, 0, rfl, hs.lt, fun j hj => ?_⟩⟩
  obtain rfl : j = 0 := by omega
  exact ⟨a, n, c, m, a2, n2, c2, hs.cell, hs.cell1, hs.cell2, h⟩
/-- The sum of the first ones. -/
def sumS (P : Int) (Q : Nat) (fP : Nat → Int) (fQ : Nat → Nat) : Nat → Int × Nat
  | 0 => (P, Q)
  | k + 1 => (plP (sumS P Q fP fQ k).1 (sumS P Q fP fQ k).2 (fP k) (fQ k), plQ (sumS P Q fP fQ k).1 (sumS P Q fP fQ k).2 (fP k) (fQ k))
theorem sumS_pos {P : Int} {Q : Nat} {fP : Nat → Int} {fQ : Nat → Nat} (hQ : 0 < Q) : ∀ k, (∀ j, j < k → 0 < fQ j) → 0 < (sumS P Q fP fQ k).2
  | 0, _ => hQ
  | k + 1, h => loQ_pos _ (Nat.mul_pos (sumS_pos hQ k fun j hj => h j (by omega)) (h k (by omega)))
def RPL (w wr : World) (V : Int × Nat) : Prop := Below w.heap.size w wr ∧ Slot3 wr (w.heap.size + 1) (.slice none 0 0) (.bool false) (.slice none 0 0) ∧ ∃ a n c m a2 n2 c2, Slot3 wr (w.heap.size + 1 + 1) (.slice a n c) (.bool m) (.slice a2 n2 c2) ∧ RatAt wr a n c m a2 n2 c2 V.1 V.2
set_option maxHeartbeats 3200000 in
set_option maxRecDepth 100000 in
theorem ratPlus_any (a : Option Addr) (n c : Nat) (m : Bool) (a2 : Option Addr) (n2 c2 : Nat) (P : Int) (Q : Nat) (sa : Option Addr) (ln lc : Nat) (fP : Nat → Int) (fQ : Nat → Nat) (w : World) (h : RatAt w a n c m a2 n2 c2 P Q) (g : RatsAt w sa ln lc fP fQ)
    (hQ : 0 < Q) (hfQ : ∀ j, j < ln → 0 < fQ j) (K : Nat) (hK : K ≤ 200000)
    (hb : ∀ k, k < ln → (sumS P Q fP fQ k).1.natAbs < 4294967296 ^ K ∧ (sumS P Q fP fQ k).2 < 4294967296 ^ K ∧ (fP k).natAbs < 4294967296 ^ K ∧ fQ k < 4294967296 ^ K) :
    Calls Tryz.prog 30 #[.agg #[.slice a n c, .bool m, .slice a2 n2 c2], .slice sa ln lc] w fun e w' => RatTold w w' e (sumS P Q fP fQ ln).1 (sumS P Q fP fQ ln).2 := by
  have B0 := (((((Bag.start w).rat h).box3 (.slice a n c) (.bool m) (.slice a2 n2 c2) 60).box3 (.slice none 0 0) (.bool false) (.slice none 0 0) 60)).box3 (.slice a n c) (.bool m) (.slice a2 n2 c2) 60
  simp only [World.size_alloc] at B0
  have H0 : Hid (RPL w _ (sumS P Q fP fQ 0)) := ⟨B0.below, B0.now.2.1, a, n, c, m, a2, n2, c2, B0.now.1, B0.now.2.2.2.1⟩
  have q0 := B0.now.2.2.1.cell
  have q1 := B0.now.2.2.1.cell1
  have q2 := B0.now.2.2.1.cell2
  have HG := Lib.hid g
  have hln : ln ≤ 1000 ∧ ln ≤ lc := ⟨g.2.1, g.1⟩
  have HB := Lib.hid hb
  have HP : Hid (∀ k, k ≤ ln → 0 < (sumS P Q fP fQ k).2) := fun k hk => sumS_pos hQ k fun j hj => hfQ j (by omega)
  have HF := Lib.hid hfQ
  clear B0 h g hb hQ hfQ
  go_enter Tryz.func30, Tryz.ntmps30
  go_wp2
  go_loopw [11] (fun i wr => ∃ k : Nat, k ≤ ln ∧ i = .int .i64 k ∧ RPL w wr (sumS P Q fP fQ k)) (fun i _ => ln - (intOf i).toNat)
  case atStart => exact ⟨0, by omega, rfl, H0.out⟩
  case round =>
    obtain ⟨k, hk, rfl, hr⟩ := hrel
    by_cases hlt : k < ln
    · obtain ⟨hbl, hrs, a3, n3, c3, m3, a4, n4, c4, hs3, hi3⟩ := hr
      obtain ⟨b, off, a', n', c', m', a2', n2', c2', rfl, hlb, e1, e2, e3, hi'⟩ := (HG.out.below hbl).get hlt
      have B1 := (((((Bag.start wr).rat hi3).rat hi').slot3 hrs).slot3 hs3).box3 (.slice a' n' c') (.bool m') (.slice a2' n2' c2') 60
      have HBK := HB.out k hlt
      have PO1 := Lib.hid (ratPlusOne_any a3 n3 c3 m3 a4 n4 c4 (sumS P Q fP fQ k).1 (sumS P Q fP fQ k).2 a' n' c' m' a2' n2' c2' (fP k) (fQ k) _ B1.now.2.2.2.2.1 B1.now.2.2.2.1 (HP.out k (by omega)) (HF.out k hlt) K hK HBK.1 HBK.2.1 HBK.2.2.1 HBK.2.2.2)
      have HBL := Lib.hid hbl
      have p0 := B1.now.2.1.cell
      have p1 := B1.now.2.1.cell1
      have p2 := B1.now.2.1.cell2
      have BB := Lib.hid B1
      have hwr : w.heap.size ≤ wr.heap.size := hbl.size
      clear hbl hrs hi3 hi' B1 HBK hs3 q0 q1 q2
      go_wp2_with fail
      go_at_call 78
      (with_reducible refine PO1.out.mono ?_)
      rintro e w4 ⟨a5, n5, c5, m5, a6, n6, c6, rfl, hi5, hb5⟩
      have B5 := BB.out.go hb5
      have hs5 := B5.now.2.1
      have hc1 := hs5.cell
      have hc2 := hs5.cell1
      have hc3 := hs5.cell2
      have hf1 := hs5.free
      have hf2 := hs5.free1
      have hf3 := hs5.free2
      have hb6 := HBL.out.trans (B5.below.mono hwr)
      have HN : Hid (RPL w (((w4.setCell ⟨w.heap.size + 1 + 1, 0, none⟩ (.slice a5 n5 c5)).setCell ⟨w.heap.size + 1 + 1, 1, none⟩ (.bool m5)).setCell ⟨w.heap.size + 1 + 1, 2, none⟩ (.slice a6 n6 c6)) (sumS P Q fP fQ (k + 1))) := by
        have hd := RatTold.done (w := w) (k := w.heap.size + 1 + 1) hb6 (by omega) hs5 hi5
        obtain ⟨x1, x2, x3, x4, x5, x6, x7, he, hr, hbx⟩ := hd
        cases he
        exact ⟨hbx, B5.now.2.2.1.set3o (by omega) _ _ _, a5, n5, c5, m5, a6, n6, c6, (hs5.set2 (.slice a5 n5 c5) (.bool m5)).set1 (.slice a6 n6 c6), hr⟩
      clear hb5 hi5 B5 hs5 hb6 p0 p1 p2
      go_wp2
      go_roundw
      case rel => exact ⟨k + 1, by omega, by go_num, HN.out⟩
      case measure => simp [intOf]; omega
    · obtain rfl : k = ln := by omega
      obtain ⟨hbl, hrs, a3, n3, c3, m3, a4, n4, c4, hs3, hi3⟩ := hr
      have p0 := hs3.cell
      have p1 := hs3.cell1
      have p2 := hs3.cell2
      have r0 := hrs.cell
      have r1 := hrs.cell1
      have r2 := hrs.cell2
      have g0 := hrs.free
      have g1 := hrs.free1
      have g2 := hrs.free2
      have HS := hrs.set (.slice a3 n3 c3) (.bool m3) (.slice a4 n4 c4)
      have HE := Lib.hid (RatTold.done hbl (by omega) hrs hi3)
      clear hbl hrs hi3 hs3 q0 q1 q2
      go_wp2
      exact bodyPost_ret (v := .agg #[.slice a3 n3 c3, .bool m3, .slice a4 n4 c4]) (by simp [results, Tryz.results30, go_sem, HS]) rfl HE.out
end Go.Proofs.YtnpoakaffafdiaaGreatDoor
namespace Go.Proofs.YtnpoakaffafdiaaGreatDoor
open Go.RowKit
attribute [local go_sem ↓] Go.wp_at_zero Go.wp_at_succ
end Go.Proofs.YtnpoakaffafdiaaGreatDoor

namespace Go.Proofs.YtnpoakaffafdiaaGreatDoor
open Go.RowKit
attribute [local go_sem ↓] Go.wp_at_zero Go.wp_at_succ
theorem ratPlus1_any (a : Option Addr) (n c : Nat) (m : Bool) (a2 : Option Addr) (n2 c2 : Nat) (P : Int) (Q : Nat) (sa : Option Addr) (F : Int) (G : Nat) (w : World) (h : RatAt w a n c m a2 n2 c2 P Q) (g : RatsAt w sa 1 1 (fun _ => F) (fun _ => G))
    (hQ : 0 < Q) (hG : 0 < G) (K : Nat) (hK : K ≤ 200000) (h1 : P.natAbs < 4294967296 ^ K) (h2 : Q < 4294967296 ^ K) (h3 : F.natAbs < 4294967296 ^ K) (h4 : G < 4294967296 ^ K) :
    Calls Tryz.prog 30 #[.agg #[.slice a n c, .bool m, .slice a2 n2 c2], .slice sa 1 1] w fun e w' => RatTold w w' e (plP P Q F G) (plQ P Q F G) :=
  ratPlus_any a n c m a2 n2 c2 P Q sa 1 1 (fun _ => F) (fun _ => G) w h g hQ (fun _ _ => hG) K hK (fun k hk => by have e : k = 0 := (by omega); subst e; exact ⟨h1, h2, h3, h4⟩)
end Go.Proofs.YtnpoakaffafdiaaGreatDoor
