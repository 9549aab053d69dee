/-
  Package typeballlaw02: what the laws of two and three numbers have in common.
-/
import Derived.Test.YtkjdoknmmiaapaaDoorWl1
import Derived.Test.YtkjdoknmmiaapaaDoorWl2
namespace Go.Proofs.YtkjdoknmmiaapaaDoor
open Go.RowKit

theorem lim100' {N : Nat} (h : N < 10 ^ 100) : N < 4294967296 ^ 11 := Nat.lt_trans h (by decide)

theorem IntsAt.nought (w : World) (f : Nat → Int) : IntsAt w none 0 0 f := ⟨Nat.le_refl _, by omega, .inl rfl⟩
theorem IntsAt.mk1 {w : World} {k : Nat} (hk : w.heap.size = k) {a : Option Addr} {n c : Nat} {m : Bool} {Z : Int} {t : TypeId} (h : IntAt (w.alloc (.cells #[.slice a n c, .bool m] t)) a n c m Z) :
    IntsAt (w.alloc (.cells #[.slice a n c, .bool m] t)) (some ⟨k, 0, none⟩) 1 1 (fun _ => Z) := by
  subst hk
  have hs := Slot2.new w (.slice a n c) (.bool m) t
  refine ⟨Nat.le_refl _, by omega, .inr ⟨_, 0, rfl, by rw [World.size_alloc]; omega, fun j hj => ?_⟩⟩
  obtain rfl : j = 0 := by omega
  exact ⟨a, n, c, m, hs.cell, hs.cell1, h⟩
theorem IntsAt.mk2 {w : World} {k : Nat} (hk : w.heap.size = k) {a : Option Addr} {n c : Nat} {m : Bool} {Z : Int} {a2 : Option Addr} {n2 c2 : Nat} {m2 : Bool} {Y : Int} {t : TypeId} (h : IntAt (w.alloc (.cells #[.slice a n c, .bool m, .slice a2 n2 c2, .bool m2] t)) a n c m Z) (g : IntAt (w.alloc (.cells #[.slice a n c, .bool m, .slice a2 n2 c2, .bool m2] t)) a2 n2 c2 m2 Y) :
    IntsAt (w.alloc (.cells #[.slice a n c, .bool m, .slice a2 n2 c2, .bool m2] t)) (some ⟨k, 0, none⟩) 2 2 (fun j => if j = 0 then Z else Y) := by
  subst hk
  refine ⟨Nat.le_refl _, by omega, .inr ⟨_, 0, rfl, by rw [World.size_alloc]; omega, fun j hj => ?_⟩⟩
  match j, hj with
  | 0, _ => exact ⟨a, n, c, m, by rw [World.cell?_alloc_new]; rfl, by rw [World.cell?_alloc_new]; rfl, h⟩
  | 1, _ => exact ⟨a2, n2, c2, m2, by rw [World.cell?_alloc_new]; rfl, by rw [World.cell?_alloc_new]; rfl, g⟩

theorem plus0_any (a : Option Addr) (n c : Nat) (m : Bool) (Z : Int) (w : World) (h : IntAt w a n c m Z) (K : Nat) (hK : K ≤ 900000) (hZ : Z.natAbs < 4294967296 ^ K) :
    Calls Tryd.prog 64 #[.agg #[.slice a n c, .bool m], .slice none 0 0] w fun e w' => IntTold w w' e Z :=
  plus_any a n c m Z none 0 0 (fun _ => 0) w h (IntsAt.nought _ _) K hK (by simp [asum]; exact hZ)
theorem plus1_any (a : Option Addr) (n c : Nat) (m : Bool) (Z : Int) (sa : Option Addr) (Y : Int) (w : World) (h : IntAt w a n c m Z) (g : IntsAt w sa 1 1 (fun _ => Y)) (K : Nat) (hK : K ≤ 900000) (hZ : Z.natAbs + Y.natAbs < 4294967296 ^ K) :
    Calls Tryd.prog 64 #[.agg #[.slice a n c, .bool m], .slice sa 1 1] w fun e w' => IntTold w w' e (Z + Y) :=
  plus_any a n c m Z sa 1 1 (fun _ => Y) w h g K hK (by simp [asum]; exact hZ)
theorem plus2_any (a : Option Addr) (n c : Nat) (m : Bool) (Z : Int) (sa : Option Addr) (Y X : Int) (w : World) (h : IntAt w a n c m Z) (g : IntsAt w sa 2 2 (fun j => if j = 0 then Y else X)) (K : Nat) (hK : K ≤ 900000) (hZ : Z.natAbs + (Y.natAbs + X.natAbs) < 4294967296 ^ K) :
    Calls Tryd.prog 64 #[.agg #[.slice a n c, .bool m], .slice sa 2 2] w fun e w' => IntTold w w' e (Z + Y + X) := by
  have := plus_any a n c m Z sa 2 2 (fun j => if j = 0 then Y else X) w h g K hK (by simp [asum]; exact hZ)
  simpa [psum] using this
theorem times0_any (a : Option Addr) (n c : Nat) (m : Bool) (Z : Int) (w : World) (h : IntAt w a n c m Z) (K : Nat) (hK : K ≤ 400000) :
    Calls Tryd.prog 67 #[.agg #[.slice a n c, .bool m], .slice none 0 0] w fun e w' => IntTold w w' e Z :=
  times_any a n c m Z none 0 0 (fun _ => 0) w h (IntsAt.nought _ _) K hK (fun k hk => by omega)
theorem times1_any (a : Option Addr) (n c : Nat) (m : Bool) (Z : Int) (sa : Option Addr) (Y : Int) (w : World) (h : IntAt w a n c m Z) (g : IntsAt w sa 1 1 (fun _ => Y)) (K : Nat) (hK : K ≤ 400000) (hZ : Z.natAbs < 4294967296 ^ K) (hY : Y.natAbs < 4294967296 ^ K) :
    Calls Tryd.prog 67 #[.agg #[.slice a n c, .bool m], .slice sa 1 1] w fun e w' => IntTold w w' e (Z * Y) :=
  times_any a n c m Z sa 1 1 (fun _ => Y) w h g K hK (fun k hk => by obtain rfl : k = 0 := by omega
                                                                     exact ⟨hZ, hY⟩)

theorem cmpZ_self (Z : Int) : cmpZ Z Z = 0 := by unfold cmpZ; rw [if_neg (by omega), if_pos rfl]
theorem cmpZ_turn (Z Y : Int) : cmpZ Y Z = -cmpZ Z Y := by
  unfold cmpZ
  rcases Int.lt_trichotomy Z Y with h | h | h
  · rw [if_neg (by omega), if_neg (by omega), if_pos h]; rfl
  · subst h; rw [if_neg (by omega), if_pos rfl]; rfl
  · rw [if_pos h, if_neg (by omega), if_neg (by omega)]
theorem cmpZ_bd (Z Y : Int) : -1 ≤ cmpZ Z Y ∧ cmpZ Z Y ≤ 1 := by
  unfold cmpZ; (repeat' split) <;> omega

end Go.Proofs.YtkjdoknmmiaapaaDoor
