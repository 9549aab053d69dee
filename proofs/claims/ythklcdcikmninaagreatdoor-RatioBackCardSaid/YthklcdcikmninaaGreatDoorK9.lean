/-
  Package typeballlaw02: awake returns true (the chapter's examples).
  Package typeballlaw02: read, by contract.
  Package typeballlaw02: what the laws of two and three numbers have in common.
  Ways between worlds: what lies below is kept through several steps; a row of one or two integers that was made some steps ago.
-/
import Derived.Test.YthklcdcikmninaaGreatDoorWh8
import Derived.Test.YthklcdcikmninaaGreatDoorWh9
import Derived.Test.YthklcdcikmninaaGreatDoorWh10
import Derived.Test.YthklcdcikmninaaGreatDoorK8
import Derived.Test.YthklcdcikmninaaGreatDoorK6
namespace Go.Proofs.YthklcdcikmninaaGreatDoor
open Go.RowKit
attribute [local go_sem ↓] Go.wp_at_zero Go.wp_at_succ

theorem floor_any (a : Option Addr) (n c : Nat) (m : Bool) (Z : Int) (a2 : Option Addr) (n2 c2 : Nat) (m2 : Bool) (Y : Int) (w : World) (h : IntAt w a n c m Z) (g : IntAt w a2 n2 c2 m2 Y) (K : Nat) (hK : K ≤ 800000) (hZ : Z.natAbs < 4294967296 ^ K) (hY : Y ≠ 0) :
    Calls Tryz.prog 60 #[.agg #[.slice a n c, .bool m], .agg #[.slice a2 n2 c2, .bool m2]] w fun e w' => FloorTold w w' e (flQ Z Y) (flR Z Y) := by
  cases hap : (m != m2) with
  | false => exact floor_same a n c m Z a2 n2 c2 m2 Y w h g K hK hZ hY hap
  | true =>
    by_cases hr : Z.natAbs % Y.natAbs = 0
    · exact floor_even a n c m Z a2 n2 c2 m2 Y w h g K hK hZ hY hap hr
    · exact floor_odd a n c m Z a2 n2 c2 m2 Y w h g K hK hZ hY hap hr

theorem fl1 : flQ (-7) 2 = -4 ∧ flR (-7) 2 = 1 ∧ flQ 7 (-2) = -4 ∧ flR 7 (-2) = -1 := by decide
theorem digs4 : digS (-4) ⟨#[45]⟩ = ⟨#[45, 52]⟩ := by
  unfold digS; rw [if_pos (by omega), show (-4 : Int).natAbs = 4 from rfl, dec_small (by omega)]; rfl
theorem digs1 : digS 1 ⟨#[45]⟩ = ⟨#[49]⟩ := by
  unfold digS; rw [if_neg (by omega), show (1 : Int).natAbs = 1 from rfl, dec_small (by omega)]; rfl
theorem digsm1 : digS (-1) ⟨#[45]⟩ = ⟨#[45, 49]⟩ := by
  unfold digS; rw [if_pos (by omega), show (-1 : Int).natAbs = 1 from rfl, dec_small (by omega)]; rfl

end Go.Proofs.YthklcdcikmninaaGreatDoor

namespace Go.Proofs.YthklcdcikmninaaGreatDoor
open Go.RowKit
attribute [local go_sem ↓] Go.wp_at_zero Go.wp_at_succ

def rdK (s : ByteArray) : Bool := rdO s.data.toList && decide (s.size ≤ 100)
def ReadW (w w' : World) (e : Ending) (Z : Int) (k : Bool) : Prop := ∃ a n c m, e = .returned (.tuple #[.agg #[.slice a n c, .bool m], .agg #[.bool (rB Z), .string (rS Z)], .bool k]) ∧ IntAt w' a n c m Z ∧ Below w.heap.size w w'

theorem rdZ_abs (l : List UInt8) : ∀ k, k = 2000 → (rdZ l).natAbs < 10 ^ k := by
  intro k hk
  unfold rdZ
  cases h : rdO l with
  | false => rw [if_neg (by decide)]; exact Nat.pow_pos (by omega)
  | true =>
    obtain ⟨g1, g2, g3⟩ := okB_digs h
    rw [if_pos rfl, sgn_abs]
    exact Nat.lt_of_lt_of_le (numOf_lt _ g3) (Nat.pow_le_pow_right (by omega) (by omega))
theorem rdZ_small {s : ByteArray} (h : rdK s = true) : (rdZ s.data.toList).natAbs < 10 ^ 100 := by
  unfold rdK at h
  rw [Bool.and_eq_true, decide_eq_true_eq] at h
  unfold rdZ
  obtain ⟨g1, g2, g3⟩ := okB_digs h.1
  rw [h.1, if_pos rfl, sgn_abs]
  refine Nat.lt_of_lt_of_le (numOf_lt _ g3) (Nat.pow_le_pow_right (by omega) ?_)
  have h2 : s.data.toList.length = s.size := rfl
  have h3 : (rdL s.data.toList).length ≤ s.data.toList.length := by
    unfold rdL; split
    · rw [List.length_tail]; omega
    · exact Nat.le_refl _
  omega
theorem dec_okB {N : Nat} (h : dl N ≤ 2000) : okB (dec N) = true := by
  refine okB_mk ?_ ?_ (dec_dig N)
  · unfold dec; rw [sdig_length]; exact dl_pos N
  · unfold dec; rw [sdig_length]; exact h
theorem parse_dec (N : Nat) (w : World) (h : dl N ≤ 2000) : Calls Tryz.prog 56 #[.string (str (dec N))] w fun e w' => SubOf3 w w' e N true := by
  refine (parse_any (str (dec N)) w (by unfold maxLen; rw [str_size]; unfold dec; rw [sdig_length]; omega)).mono ?_
  rintro e w' ⟨a, n, c, rfl, hv, _, hb⟩
  have h1 : okB (str (dec N)).data.toList = true := dec_okB h
  have h2 : numOf (str (dec N)).data.toList = N := numOf_dec N
  rw [h1, if_pos rfl, h2] at hv
  exact ⟨a, n, c, by rw [h1], hv, hb⟩

/-- The block of a whole number of the document's answers. -/
def RT (y : World) (k : Nat) : Prop := ∃ b t, Slot2 y k (.bool b) (.string t)
theorem RT.below {w w' : World} {k : Nat} (h : RT w k) (hb : Below w.heap.size w w') : RT w' k := by
  obtain ⟨x, z, h1⟩ := h; exact ⟨x, z, h1.below hb⟩
theorem RT.put2 {w : World} {k : Nat} (h : RT w k) (b : Bool) (t : ByteArray) : RT (put2 w k (.bool b) (.string t)) k := by
  obtain ⟨x, z, h1⟩ := h; exact ⟨_, _, h1.put2s _ _⟩
theorem RT.putI {w : World} {k j : Nat} (h : RT w j) (e : j ≠ k) (a : Option Addr) (n c : Nat) (b : Bool) : RT (putI w k a n c b) j := by
  obtain ⟨x, z, h1⟩ := h; exact ⟨_, _, h1.put2o e _ _⟩
theorem NatIs.put2r {w : World} {k : Nat} {v : Value} {N : Nat} (q : NatIs w v N) (h : RT w k) (b : Bool) (t : ByteArray) : NatIs (put2 w k (.bool b) (.string t)) v N := by
  obtain ⟨x, z, h1⟩ := h
  refine (q.storeAt h1.cell (fun _ _ h => by cases h) _).storeAt (x := .string z) ?_ (fun _ _ h => by cases h) _
  rw [World.cell?_setCell_other _ _ _ _ (fun e => by cases e)]
  exact h1.cell1

/-- What read keeps. -/
def LP (k0 k5 k7 : Nat) (b : Bool) (d : ByteArray) (a : Option Addr) (n c N : Nat) (y : World) : Prop := RS y k0 ∧ RT y (k0 + 1) ∧ Slot2 y k5 (.bool b) (.string d) ∧ Slot y k7 (.slice a n c) ∧ NatIs y (.agg #[.slice a n c]) N
theorem LP.stay {k0 k5 k7 : Nat} {b : Bool} {d : ByteArray} {a : Option Addr} {n c N : Nat} : ∀ x y, Below x.heap.size x y → LP k0 k5 k7 b d a n c N x → LP k0 k5 k7 b d a n c N y :=
  fun _ _ hb h => ⟨h.1.below hb, h.2.1.below hb, h.2.2.1.below hb, h.2.2.2.1.below hb, h.2.2.2.2.below hb⟩

theorem RS.put2b {w : World} {k j : Nat} (h : RS w j) (e : j ≠ k) (u v : Value) : RS (put2 w k u v) j := by
  obtain ⟨x, b, h1, h2⟩ := h; exact ⟨x, b, h1.put2o e u v, h2⟩
theorem Slot.put2o {w : World} {k j : Nat} {x : Value} (h : Slot w j x) (e : j ≠ k) (u v : Value) : Slot (put2 w k u v) j x := by
  refine ⟨?_, by simp [put2, h.free], by simpa [put2] using h.lt⟩
  unfold put2; rw [World.cell?_setCell_other _ _ _ _ (fun e' => by cases e' <;> exact e rfl), World.cell?_setCell_other _ _ _ _ (fun e' => by cases e' <;> exact e rfl)]; exact h.cell

end Go.Proofs.YthklcdcikmninaaGreatDoor

namespace Go.Proofs.YthklcdcikmninaaGreatDoor
open Go.RowKit

theorem lim100' {N : Nat} (h : N < 10 ^ 100) : N < 4294967296 ^ 11 := Nat.lt_trans h (by decide)

theorem IntsAt.nought (w : World) (f : Nat → Int) : IntsAt w none 0 0 f := ⟨Nat.le_refl _, by omega, .inl rfl⟩
theorem IntsAt.mk1 {w : World} {k : Nat} (hk : w.heap.size = k) {a : Option Addr} {n c : Nat} {m : Bool} {Z : Int} {t : TypeId} (h : IntAt (w.alloc (.cells #[.slice a n c, .bool m] t)) a n c m Z) :
    IntsAt (w.alloc (.cells #[.slice a n c, .bool m] t)) (some ⟨k, 0, none⟩) 1 1 (fun _ => Z) := by
  subst hk
  have hs := Slot2.new w (.slice a n c) (.bool m) t
  refine ⟨Nat.le_refl _, by omega, .inr ⟨_, 0, rfl, by rw [World.size_alloc]; omega, fun j hj => ?_⟩⟩
  obtain rfl : j = 0 := by omega
  exact ⟨a, n, c, m, hs.cell, hs.cell1, h⟩
theorem IntsAt.mk2 {w : World} {k : Nat} (hk : w.heap.size = k) {a : Option Addr} {n c : Nat} {m : Bool} {Z : Int} {a2 : Option Addr} {n2 c2 : Nat} {m2 : Bool} {Y : Int} {t : TypeId} (h : IntAt (w.alloc (.cells #[.slice a n c, .bool m, .slice a2 n2 c2, .bool m2] t)) a n c m Z) (g : IntAt (w.alloc (.cells #[.slice a n c, .bool m, .slice a2 n2 c2, .bool m2] t)) a2 n2 c2 m2 Y) :
    IntsAt (w.alloc (.cells #[.slice a n c, .bool m, .slice a2 n2 c2, .bool m2] t)) (some ⟨k, 0, none⟩) 2 2 (fun j => if j = 0 then Z else Y) := by
  subst hk
  refine ⟨Nat.le_refl _, by omega, .inr ⟨_, 0, rfl, by rw [World.size_alloc]; omega, fun j hj => ?_⟩⟩
  match j, hj with
  | 0, _ => exact ⟨a, n, c, m, by rw [World.cell?_alloc_new]; rfl, by rw [World.cell?_alloc_new]; rfl, h⟩
  | 1, _ => exact ⟨a2, n2, c2, m2, by rw [World.cell?_alloc_new]; rfl, by rw [World.cell?_alloc_new]; rfl, g⟩

theorem plus0_any (a : Option Addr) (n c : Nat) (m : Bool) (Z : Int) (w : World) (h : IntAt w a n c m Z) (K : Nat) (hK : K ≤ 900000) (hZ : Z.natAbs < 4294967296 ^ K) :
    Calls Tryz.prog 49 #[.agg #[.slice a n c, .bool m], .slice none 0 0] w fun e w' => IntTold w w' e Z :=
  plus_any a n c m Z none 0 0 (fun _ => 0) w h (IntsAt.nought _ _) K hK (by simp [asum]; exact hZ)
theorem plus1_any (a : Option Addr) (n c : Nat) (m : Bool) (Z : Int) (sa : Option Addr) (Y : Int) (w : World) (h : IntAt w a n c m Z) (g : IntsAt w sa 1 1 (fun _ => Y)) (K : Nat) (hK : K ≤ 900000) (hZ : Z.natAbs + Y.natAbs < 4294967296 ^ K) :
    Calls Tryz.prog 49 #[.agg #[.slice a n c, .bool m], .slice sa 1 1] w fun e w' => IntTold w w' e (Z + Y) :=
  plus_any a n c m Z sa 1 1 (fun _ => Y) w h g K hK (by simp [asum]; exact hZ)
theorem plus2_any (a : Option Addr) (n c : Nat) (m : Bool) (Z : Int) (sa : Option Addr) (Y X : Int) (w : World) (h : IntAt w a n c m Z) (g : IntsAt w sa 2 2 (fun j => if j = 0 then Y else X)) (K : Nat) (hK : K ≤ 900000) (hZ : Z.natAbs + (Y.natAbs + X.natAbs) < 4294967296 ^ K) :
    Calls Tryz.prog 49 #[.agg #[.slice a n c, .bool m], .slice sa 2 2] w fun e w' => IntTold w w' e (Z + Y + X) := by
  have := plus_any a n c m Z sa 2 2 (fun j => if j = 0 then Y else X) w h g K hK (by simp [asum]; exact hZ)
  simpa [psum] using this
theorem times0_any (a : Option Addr) (n c : Nat) (m : Bool) (Z : Int) (w : World) (h : IntAt w a n c m Z) (K : Nat) (hK : K ≤ 400000) :
    Calls Tryz.prog 21 #[.agg #[.slice a n c, .bool m], .slice none 0 0] w fun e w' => IntTold w w' e Z :=
  times_any a n c m Z none 0 0 (fun _ => 0) w h (IntsAt.nought _ _) K hK (fun k hk => by omega)
theorem times1_any (a : Option Addr) (n c : Nat) (m : Bool) (Z : Int) (sa : Option Addr) (Y : Int) (w : World) (h : IntAt w a n c m Z) (g : IntsAt w sa 1 1 (fun _ => Y)) (K : Nat) (hK : K ≤ 400000) (hZ : Z.natAbs < 4294967296 ^ K) (hY : Y.natAbs < 4294967296 ^ K) :
    Calls Tryz.prog 21 #[.agg #[.slice a n c, .bool m], .slice sa 1 1] w fun e w' => IntTold w w' e (Z * Y) :=
  times_any a n c m Z sa 1 1 (fun _ => Y) w h g K hK (fun k hk => by obtain rfl : k = 0 := by omega
                                                                     exact ⟨hZ, hY⟩)

theorem cmpZ_self (Z : Int) : cmpZ Z Z = 0 := by unfold cmpZ; rw [if_neg (by omega), if_pos rfl]
theorem cmpZ_turn (Z Y : Int) : cmpZ Y Z = -cmpZ Z Y := by
  unfold cmpZ
  rcases Int.lt_trichotomy Z Y with h | h | h
  · rw [if_neg (by omega), if_neg (by omega), if_pos h]; rfl
  · subst h; rw [if_neg (by omega), if_pos rfl]; rfl
  · rw [if_pos h, if_neg (by omega), if_neg (by omega)]
theorem cmpZ_bd (Z Y : Int) : -1 ≤ cmpZ Z Y ∧ cmpZ Z Y ≤ 1 := by
  unfold cmpZ; (repeat' split) <;> omega

end Go.Proofs.YthklcdcikmninaaGreatDoor

namespace Go.Proofs.YthklcdcikmninaaGreatDoor
open Go.RowKit

theorem Below.step {w a b : World} (hb : Below a.heap.size a b) (h : Below w.heap.size w a) : Below w.heap.size w b := h.trans (hb.mono h.size)
theorem Below.more {w a : World} (h : Below w.heap.size w a) (o : Obj) : Below w.heap.size w (a.alloc o) := h.alloc h.size o
/-- A row of one integer, made some steps ago. -/
theorem IntsAt.old1 {wk w : World} {k : Nat} {a : Option Addr} {n c : Nat} {m : Bool} {Z : Int} {t : TypeId} (hb : Below (wk.alloc (.cells #[.slice a n c, .bool m] t)).heap.size (wk.alloc (.cells #[.slice a n c, .bool m] t)) w)
    (hk : wk.heap.size = k) (h : IntAt w a n c m Z) : IntsAt w (some ⟨k, 0, none⟩) 1 1 (fun _ => Z) := by
  subst hk
  have hs := (Slot2.new wk (.slice a n c) (.bool m) t).below hb
  refine ⟨Nat.le_refl _, by omega, .inr ⟨_, 0, rfl, hs.lt, fun j hj => ?_⟩⟩
  obtain rfl : j = 0 := by omega
  exact ⟨a, n, c, m, hs.cell, hs.cell1, h⟩

end Go.Proofs.YthklcdcikmninaaGreatDoor

