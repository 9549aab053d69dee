/-
  Package ratio: Limited, Limbs, Int, Cmp, by contract.
  Package ratio: By, plusOne, by contract.
  Package ratio: Num, by contract.
  Package ratio: shifted (of 0), read (of no more than 2000 digits), by contract.
-/
import Derived.Test.YthklcdcikmninaaGreatDoorRa1
import Derived.Test.YthklcdcikmninaaGreatDoorK10
namespace Go.Proofs.YthklcdcikmninaaGreatDoor
open Go.RowKit
attribute [local go_sem ↓] Go.wp_at_zero Go.wp_at_succ

def lbs (N : Nat) : Nat := (nbits N + 31) / 32
set_option maxHeartbeats 3200000 in
set_option maxRecDepth 100000 in
theorem ratCmp_any (a : Option Addr) (n c : Nat) (m : Bool) (a2 : Option Addr) (n2 c2 : Nat) (P : Int) (Q : Nat) (b : Option Addr) (k l : Nat) (v : Bool) (b2 : Option Addr) (k2 l2 : Nat) (P' : Int) (Q' : Nat) (w : World)
    (h : RatAt w a n c m a2 n2 c2 P Q) (g : RatAt w b k l v b2 k2 l2 P' Q') (hQ : 0 < Q) (hQ' : 0 < Q') (K : Nat) (hK : K ≤ 400000) (h1 : P.natAbs < 4294967296 ^ K) (h2 : Q < 4294967296 ^ K) (h3 : P'.natAbs < 4294967296 ^ K) (h4 : Q' < 4294967296 ^ K) :
    Calls Tryz.prog 10 #[.agg #[.slice a n c, .bool m, .slice a2 n2 c2], .agg #[.slice b k l, .bool v, .slice b2 k2 l2]] w fun e w' => e = .returned (.int .i64 (cmpZ (P * Q') (P' * Q))) ∧ Below w.heap.size w w' := by
  have B0 := ((((Bag.start w).rat h).rat g).box3 (.slice a n c) (.bool m) (.slice a2 n2 c2) 30).box3 (.slice b k l) (.bool v) (.slice b2 k2 l2) 30
  simp only [World.size_alloc] at B0
  have IW := Lib.hid (fun wz hz => isWhole_any a n c m a2 n2 c2 P Q wz hz hQ)
  have IW' := Lib.hid (fun wz hz => isWhole_any b k l v b2 k2 l2 P' Q' wz hz hQ')
  have BB := Lib.hid B0
  have q0 := B0.now.2.1.cell
  have q1 := B0.now.2.1.cell1
  have q2 := B0.now.2.1.cell2
  have r0 := B0.now.1.cell
  have r1 := B0.now.1.cell1
  have r2 := B0.now.1.cell2
  by_cases hw : Q = 1 ∧ Q' = 1
  · obtain ⟨rfl, rfl⟩ := hw
    have CM := Lib.hid (fun wz (h : IntAt wz a n c m P) (g : IntAt wz b k l v P') => icmp_any a n c m P b k l v P' wz h g)
    rw [show P * ((1 : Nat) : Int) = P from Int.mul_one P, show P' * ((1 : Nat) : Int) = P' from Int.mul_one P']
    rw [decide_eq_true rfl] at IW IW'
    generalize cmpZ P P' = z at *
    clear h g B0 h1 h2 h3 h4 hQ hQ'
    go_enter Tryz.func10, Tryz.ntmps10
    go_wp2_with (first
      | (go_at_call 27; (with_reducible refine (IW.out _ BB.out.now.2.2.2.1).mono ?_); rintro e w2 ⟨rfl, hb2⟩; have BB := Lib.hid (BB.out.go hb2); clear hb2; have q0 := BB.out.now.2.1.cell; have q1 := BB.out.now.2.1.cell1; have r0 := BB.out.now.1.cell; have r1 := BB.out.now.1.cell1; have r2 := BB.out.now.1.cell2)
      | (go_at_call 27; (with_reducible refine (IW'.out _ BB.out.now.2.2.1).mono ?_); rintro e w3 ⟨rfl, hb3⟩; have BB := Lib.hid (BB.out.go hb3); clear hb3; have q0 := BB.out.now.2.1.cell; have q1 := BB.out.now.2.1.cell1; have r0 := BB.out.now.1.cell; have r1 := BB.out.now.1.cell1)
      | (go_at_call 28; (with_reducible refine (CM.out _ BB.out.now.2.2.2.1.int BB.out.now.2.2.1.int).mono ?_); rintro e w4 ⟨rfl, hb4⟩; have BB := Lib.hid (BB.out.go hb4); clear hb4))
    go_ret
    exact ⟨rfl, BB.out.below⟩
  · have BL := Lib.hid (fun wz (h : RatAt wz a n c m a2 n2 c2 P Q) => below_any a n c m a2 n2 c2 P Q wz h hQ)
    have BL' := Lib.hid (fun wz (h : RatAt wz b k l v b2 k2 l2 P' Q') => below_any b k l v b2 k2 l2 P' Q' wz h hQ')
    have T1 := Lib.hid (fun sa wz (h : IntAt wz a n c m P) (g : IntsAt wz sa 1 1 (fun _ => (Q' : Int))) => times1_any a n c m P sa Q' wz h g K hK h1 (by rw [Int.natAbs_natCast]; exact h4))
    have T2 := Lib.hid (fun sa wz (h : IntAt wz b k l v P') (g : IntsAt wz sa 1 1 (fun _ => (Q : Int))) => times1_any b k l v P' sa Q wz h g K hK h3 (by rw [Int.natAbs_natCast]; exact h2))
    have CM := Lib.hid (fun a n c m a2 n2 c2 m2 wz (h : IntAt wz a n c m (P * Q')) (g : IntAt wz a2 n2 c2 m2 (P' * Q)) => icmp_any a n c m (P * Q') a2 n2 c2 m2 (P' * Q) wz h g)
    generalize cmpZ (P * Q') (P' * Q) = z at *
    generalize P * (Q' : Int) = X at *
    generalize P' * (Q : Int) = Y at *
    have hx : ∃ x y : Bool, decide (Q = 1) = x ∧ decide (Q' = 1) = y ∧ (x && y) = false := ⟨_, _, rfl, rfl, by
      by_cases e1 : Q = 1
      · rw [decide_eq_false (fun e2 => hw ⟨e1, e2⟩)]; simp
      · rw [decide_eq_false e1]; rfl⟩
    obtain ⟨x, y, hx1, hx2, hxy⟩ := hx
    rw [hx1] at IW
    rw [hx2] at IW'
    clear h g B0 h1 h2 h3 h4 hQ hQ' hx1 hx2 hw
    cases x <;> cases y
    all_goals
      first
        | (exact absurd hxy (by decide))
        | skip
    all_goals
      clear hxy
      go_enter Tryz.func10, Tryz.ntmps10
      go_wp2_with (first
        | (go_at_call 27; (with_reducible refine (IW.out _ BB.out.now.2.2.2.1).mono ?_); rintro e w2 ⟨rfl, hb2⟩; have BB := Lib.hid (BB.out.go hb2); clear hb2; have q0 := BB.out.now.2.1.cell; have q1 := BB.out.now.2.1.cell1; have r0 := BB.out.now.1.cell; have r1 := BB.out.now.1.cell1; have r2 := BB.out.now.1.cell2)
        | (go_at_call 27; (with_reducible refine (IW'.out _ BB.out.now.2.2.1).mono ?_); rintro e w3 ⟨rfl, hb3⟩; have BB := Lib.hid (BB.out.go hb3); clear hb3; have q0 := BB.out.now.2.1.cell; have q1 := BB.out.now.2.1.cell1; have r0 := BB.out.now.1.cell; have r1 := BB.out.now.1.cell1))
      have BB := Lib.hid BB.out.drew
      go_region_held3 (fun y => (y.cell? ⟨w.heap.size, 0, none⟩ = some (.slice a n c) ∧ y.cell? ⟨w.heap.size, 1, none⟩ = some (.bool m) ∧ y.cell? ⟨w.heap.size, 2, none⟩ = some (.slice a2 n2 c2)) ∧ y.cell? ⟨w.heap.size + 1, 0, none⟩ = some (.slice b k l) ∧ y.cell? ⟨w.heap.size + 1, 1, none⟩ = some (.bool v) ∧ y.cell? ⟨w.heap.size + 1, 2, none⟩ = some (.slice b2 k2 l2))
        (first
          | (exact ⟨⟨BB.out.now.2.1.cell, BB.out.now.2.1.cell1, BB.out.now.2.1.cell2⟩, BB.out.now.1.cell, BB.out.now.1.cell1, BB.out.now.1.cell2⟩)
          | (exact (fun B9 : Bag w _ _ => ⟨⟨B9.now.2.1.cell, B9.now.2.1.cell1, B9.now.2.1.cell2⟩, B9.now.1.cell, B9.now.1.cell1, B9.now.1.cell2⟩) (BB.out.alloc _)))
        (first
          | (go_at_call 24; (with_reducible refine (BL'.out _ BB.out.now.2.2.1).mono ?_); rintro e w5 ⟨a5, n5, c5, m5, rfl, hi5, hb5⟩; have BB := Lib.hid (BB.out.go hb5))
          | (go_at_call 21; (with_reducible refine (T1.out _ _ ?_ ?_).mono ?_); exact (BB.out.alloc _).now.2.2.2.1.int; exact IntsAt.mk1 rfl (hi5.below ((Below.refl _ _).alloc (Nat.le_refl _) _)); rintro e w6 ⟨a6, n6, c6, m6, rfl, hi6, hb6⟩; have BB := Lib.hid ((BB.out.alloc _).go hb6))
          | (go_at_call 24; (with_reducible refine (BL.out _ BB.out.now.2.2.2.1).mono ?_); rintro e w7 ⟨a7, n7, c7, m7, rfl, hi7, hb7⟩; have BB := Lib.hid (BB.out.go hb7))
          | (go_at_call 21; (with_reducible refine (T2.out _ _ ?_ ?_).mono ?_); exact (BB.out.alloc _).now.2.2.1.int; exact IntsAt.mk1 rfl (hi7.below ((Below.refl _ _).alloc (Nat.le_refl _) _)); rintro e w8 ⟨a8, n8, c8, m8, rfl, hi8, hb8⟩; have BB := Lib.hid ((BB.out.alloc _).go hb8))
          | (go_at_call 28; (with_reducible refine (CM.out _ _ _ _ _ _ _ _ _ (((hi6.below hb7).below ((Below.refl _ _).alloc (Nat.le_refl _) _)).below hb8) hi8).mono ?_); rintro e w9 ⟨rfl, hb9⟩; have BB := Lib.hid (BB.out.go hb9)))
      go_wp2
      go_ret
      exact ⟨rfl, BB.out.below⟩

end Go.Proofs.YthklcdcikmninaaGreatDoor

namespace Go.Proofs.YthklcdcikmninaaGreatDoor
open Go.RowKit
attribute [local go_sem ↓] Go.wp_at_zero Go.wp_at_succ

set_option maxHeartbeats 3200000 in
set_option maxRecDepth 100000 in
theorem by_walk (a : Option Addr) (n c : Nat) (m : Bool) (a2 : Option Addr) (n2 c2 : Nat) (P : Int) (Q : Nat) (b : Option Addr) (k l : Nat) (v : Bool) (b2 : Option Addr) (k2 l2 : Nat) (P' : Int) (Q' : Nat) (w : World)
    (h : RatAt w a n c m a2 n2 c2 P Q) (g : RatAt w b k l v b2 k2 l2 P' Q') (hQ : 0 < Q) (hQ' : 0 < Q') (K : Nat) (hK : K ≤ 400000) (h1 : P.natAbs < 4294967296 ^ K) (h2 : Q < 4294967296 ^ K) (h3 : P'.natAbs < 4294967296 ^ K) (h4 : Q' < 4294967296 ^ K)
    (X1 : Int) (X2 : Nat) (ok : Bool) (NW : Hid (∀ a n c m b k l v wz, IntAt wz a n c m (P * Q') → IntAt wz b k l v (P' * Q) → Calls Tryz.prog 15 #[.agg #[.slice a n c, .bool m], .agg #[.slice b k l, .bool v]] wz fun e w' => RatTold3 wz w' e X1 X2 ok)) :
    Calls Tryz.prog 7 #[.agg #[.slice a n c, .bool m, .slice a2 n2 c2], .agg #[.slice b k l, .bool v, .slice b2 k2 l2]] w fun e w' => RatTold3 w w' e X1 X2 ok := by
  have B0 := (((((Bag.start w).rat h).rat g).box3 (.slice a n c) (.bool m) (.slice a2 n2 c2) 30).box3 (.slice b k l) (.bool v) (.slice b2 k2 l2) 30).box3 (.slice none 0 0) (.bool false) (.slice none 0 0) 30
  simp only [World.size_alloc] at B0
  have BL := Lib.hid (fun wz (h : RatAt wz a n c m a2 n2 c2 P Q) => below_any a n c m a2 n2 c2 P Q wz h hQ)
  have BL' := Lib.hid (fun wz (h : RatAt wz b k l v b2 k2 l2 P' Q') => below_any b k l v b2 k2 l2 P' Q' wz h hQ')
  have T1 := Lib.hid (fun sa wz (h : IntAt wz a n c m P) (g : IntsAt wz sa 1 1 (fun _ => (Q' : Int))) => times1_any a n c m P sa Q' wz h g K hK h1 (by rw [Int.natAbs_natCast]; exact h4))
  have T2 := Lib.hid (fun sa wz (h : IntAt wz b k l v P') (g : IntsAt wz sa 1 1 (fun _ => (Q : Int))) => times1_any b k l v P' sa Q wz h g K hK h3 (by rw [Int.natAbs_natCast]; exact h2))
  have BB := Lib.hid B0.drew
  have he : w.heap.size ≠ w.heap.size + 1 + 1 ∧ w.heap.size + 1 ≠ w.heap.size + 1 + 1 := by omega
  unfold RatTold3 at NW
  generalize P * (Q' : Int) = X at *
  generalize P' * (Q : Int) = Y at *
  clear h g B0 h1 h2 h3 h4 hQ hQ'
  go_enter Tryz.func7, Tryz.ntmps7
  go_wp2_with fail
  go_region_held3 (fun y => (y.cell? ⟨w.heap.size, 0, none⟩ = some (.slice a n c) ∧ y.cell? ⟨w.heap.size, 1, none⟩ = some (.bool m) ∧ y.cell? ⟨w.heap.size, 2, none⟩ = some (.slice a2 n2 c2)) ∧ y.cell? ⟨w.heap.size + 1, 0, none⟩ = some (.slice b k l) ∧ y.cell? ⟨w.heap.size + 1, 1, none⟩ = some (.bool v) ∧ y.cell? ⟨w.heap.size + 1, 2, none⟩ = some (.slice b2 k2 l2))
    (first
      | (exact ⟨⟨z0.cell, z0.cell1, z0.cell2⟩, z1.cell, z1.cell1, z1.cell2⟩)
      | (exact ⟨⟨BB.out.now.2.2.1.cell, BB.out.now.2.2.1.cell1, BB.out.now.2.2.1.cell2⟩, BB.out.now.2.1.cell, BB.out.now.2.1.cell1, BB.out.now.2.1.cell2⟩)
      | (exact (fun B9 : Bag w _ _ => ⟨⟨B9.now.2.2.1.cell, B9.now.2.2.1.cell1, B9.now.2.2.1.cell2⟩, B9.now.2.1.cell, B9.now.2.1.cell1, B9.now.2.1.cell2⟩) (BB.out.alloc _)))
    (first
      | (go_at_call 24; (with_reducible refine (BL'.out _ BB.out.now.2.2.2.1).mono ?_); rintro e w5 ⟨a5, n5, c5, m5, rfl, hi5, hb5⟩; have BB := Lib.hid (BB.out.go hb5))
      | (go_at_call 21; (with_reducible refine (T1.out _ _ ?_ ?_).mono ?_); exact (BB.out.alloc _).now.2.2.2.2.1.int; exact IntsAt.mk1 rfl (hi5.below ((Below.refl _ _).alloc (Nat.le_refl _) _)); rintro e w6 ⟨a6, n6, c6, m6, rfl, hi6, hb6⟩; have BB := Lib.hid ((BB.out.alloc _).go hb6))
      | (go_at_call 24; (with_reducible refine (BL.out _ BB.out.now.2.2.2.2.1).mono ?_); rintro e w7 ⟨a7, n7, c7, m7, rfl, hi7, hb7⟩; have BB := Lib.hid (BB.out.go hb7))
      | (go_at_call 21; (with_reducible refine (T2.out _ _ ?_ ?_).mono ?_); exact (BB.out.alloc _).now.2.2.2.1.int; exact IntsAt.mk1 rfl (hi7.below ((Below.refl _ _).alloc (Nat.le_refl _) _)); rintro e w8 ⟨a8, n8, c8, m8, rfl, hi8, hb8⟩; have BB := Lib.hid ((BB.out.alloc _).go hb8))
      | (go_at_call 15; (with_reducible refine (NW.out _ _ _ _ _ _ _ _ _ (((hi6.below hb7).below ((Below.refl _ _).alloc (Nat.le_refl _) _)).below hb8) hi8).mono ?_); rintro e w9 ⟨a9, n9, c9, m9, a10, n10, c10, rfl, hr, hb9⟩; have BB := Lib.hid (BB.out.go hb9); have hs := BB.out.now.1; have r0 := hs.cell; have r1 := hs.cell1; have r2 := hs.cell2; have g0 := hs.free; have g1 := hs.free1; have g2 := hs.free2; have HS := hs.set (.slice a9 n9 c9) (.bool m9) (.slice a10 n10 c10); have z0 := BB.out.now.2.2.1.set3o he.1 (.slice a9 n9 c9) (.bool m9) (.slice a10 n10 c10); have z1 := BB.out.now.2.1.set3o he.2 (.slice a9 n9 c9) (.bool m9) (.slice a10 n10 c10); have HE := Lib.hid (RatTold3.done ok BB.out.below (by omega) hs hr)))
  go_wp2
  exact bodyPost_ret (v := .tuple #[.agg #[.slice a9 n9 c9, .bool m9, .slice a10 n10 c10], .bool ok]) (by simp [results, Tryz.results7, go_sem, HS]) rfl HE.out

theorem mul_lt32 {X Y K : Nat} (h : X < 4294967296 ^ K) (g : Y < 4294967296 ^ K) : X * Y < 4294967296 ^ (K + K) := by rw [Nat.pow_add]; exact Nat.mul_lt_mul'' h g
theorem mulZ_lt32 {X : Int} {Y K : Nat} (h : X.natAbs < 4294967296 ^ K) (g : Y < 4294967296 ^ K) : (X * Y).natAbs < 4294967296 ^ (K + K) := by
  rw [Int.natAbs_mul, Int.natAbs_natCast]; exact mul_lt32 h g

theorem by_zero (a : Option Addr) (n c : Nat) (m : Bool) (a2 : Option Addr) (n2 c2 : Nat) (P : Int) (Q : Nat) (b : Option Addr) (k l : Nat) (v : Bool) (b2 : Option Addr) (k2 l2 : Nat) (Q' : Nat) (w : World)
    (h : RatAt w a n c m a2 n2 c2 P Q) (g : RatAt w b k l v b2 k2 l2 0 Q') (hQ : 0 < Q) (hQ' : 0 < Q') (K : Nat) (hK : K ≤ 400000) (h1 : P.natAbs < 4294967296 ^ K) (h2 : Q < 4294967296 ^ K) (h4 : Q' < 4294967296 ^ K) :
    Calls Tryz.prog 7 #[.agg #[.slice a n c, .bool m, .slice a2 n2 c2], .agg #[.slice b k l, .bool v, .slice b2 k2 l2]] w fun e w' => RatTold3 w w' e 0 1 false :=
  by_walk a n c m a2 n2 c2 P Q b k l v b2 k2 l2 0 Q' w h g hQ hQ' K hK h1 h2 (Nat.pow_pos (by omega)) h4 0 1 false (Lib.hid fun a n c m b k l v wz h g => by
    rw [Int.zero_mul] at g; exact new_zero a n c m (P * Q') b k l v wz h g)
theorem by_some (a : Option Addr) (n c : Nat) (m : Bool) (a2 : Option Addr) (n2 c2 : Nat) (P : Int) (Q : Nat) (b : Option Addr) (k l : Nat) (v : Bool) (b2 : Option Addr) (k2 l2 : Nat) (P' : Int) (Q' : Nat) (w : World)
    (h : RatAt w a n c m a2 n2 c2 P Q) (g : RatAt w b k l v b2 k2 l2 P' Q') (hQ : 0 < Q) (hQ' : 0 < Q') (hP : P' ≠ 0) (K : Nat) (hK : K ≤ 400000) (h1 : P.natAbs < 4294967296 ^ K) (h2 : Q < 4294967296 ^ K) (h3 : P'.natAbs < 4294967296 ^ K) (h4 : Q' < 4294967296 ^ K) :
    Calls Tryz.prog 7 #[.agg #[.slice a n c, .bool m, .slice a2 n2 c2], .agg #[.slice b k l, .bool v, .slice b2 k2 l2]] w fun e w' => RatTold3 w w' e (nwP (P * Q') (P' * Q)) (nwQ (P * Q') (P' * Q)) true :=
  by_walk a n c m a2 n2 c2 P Q b k l v b2 k2 l2 P' Q' w h g hQ hQ' K hK h1 h2 h3 h4 _ _ true (Lib.hid fun a n c m b k l v wz h g =>
    new_some a n c m (P * Q') b k l v (P' * Q) wz h g (Int.mul_ne_zero hP (by omega)) (K + K) (by omega) (mulZ_lt32 h1 h4) (mulZ_lt32 h3 h2))

end Go.Proofs.YthklcdcikmninaaGreatDoor

namespace Go.Proofs.YthklcdcikmninaaGreatDoor
open Go.RowKit
attribute [local go_sem ↓] Go.wp_at_zero Go.wp_at_succ

/-- A number as digits. -/
def NumTold (w w' : World) (e : Ending) (P : Int) (Q : Nat) : Prop := e = .returned (.agg #[.bool (rB P), .string (rS P), .string (str (dec Q))]) ∧ Below w.heap.size w w'
theorem NumTold.done {w w2 : World} {k : Nat} (P : Int) (Q : Nat) (hb : Below w.heap.size w w2) (hk : w.heap.size ≤ k) {b : Bool} {s t : ByteArray} (h1 : rB P = b) (h2 : rS P = s) (h3 : str (dec Q) = t) :
    NumTold w (((w2.setCell ⟨k, 0, none⟩ (.bool b)).setCell ⟨k, 1, none⟩ (.string s)).setCell ⟨k, 2, none⟩ (.string t)) (.returned (.agg #[.bool b, .string s, .string t])) P Q :=
  ⟨by rw [h1, h2, h3], ((hb.setCell hk _).setCell hk _).setCell hk _⟩

set_option maxHeartbeats 3200000 in
set_option maxRecDepth 100000 in
theorem num_any (a : Option Addr) (n c : Nat) (m : Bool) (a2 : Option Addr) (n2 c2 : Nat) (P : Int) (Q : Nat) (w : World) (h : RatAt w a n c m a2 n2 c2 P Q) (hQ : 0 < Q)
    (K : Nat) (hK : K ≤ 100000) (h1 : P.natAbs < 4294967296 ^ K) (h2 : Q < 4294967296 ^ K) :
    Calls Tryz.prog 12 #[.agg #[.slice a n c, .bool m, .slice a2 n2 c2]] w fun e w' => NumTold w w' e P Q := by
  have B0 := (((Bag.start w).rat h).box3 (.slice a n c) (.bool m) (.slice a2 n2 c2) 30).box3 (.bool false) (.string ⟨#[]⟩) (.string ⟨#[]⟩) 23
  simp only [World.size_alloc] at B0
  have SG := Lib.hid (fun wz hz => ratSign_any a n c m a2 n2 c2 P Q wz hz)
  have BT := Lib.hid (fun wz hz => bot_any a n c m a2 n2 c2 P Q wz hz hQ)
  have X1 : Hid (∀ wz, NatIs wz (.agg #[.slice a n c]) P.natAbs → Calls Tryz.prog 30 #[.agg #[.slice a n c]] wz fun e w' => e = .returned (.string (rS P)) ∧ Below wz.heap.size wz w') := fun wz h => text_any _ P.natAbs wz h K hK h1
  have X2 := Lib.hid (fun a n c wz (h : NatIs wz (.agg #[.slice a n c]) Q) => text_any (.agg #[.slice a n c]) Q wz h K hK h2)
  have BB := Lib.hid B0.drew
  have he : w.heap.size ≠ w.heap.size + 1 := by omega
  have ND := Lib.hid (fun w2 b s t (hb : Below w.heap.size w w2) (h1 : rB P = b) (h2 : rS P = s) (h3 : str (dec Q) = t) => NumTold.done (k := w.heap.size + 1) P Q hb (by omega) h1 h2 h3)
  obtain ⟨s, hs⟩ : ∃ s, rS P = s := ⟨_, rfl⟩
  obtain ⟨t, ht⟩ : ∃ t, str (dec Q) = t := ⟨_, rfl⟩
  rw [hs] at X1
  rw [ht] at X2
  have HS0 := Lib.hid hs
  have HT0 := Lib.hid ht
  have hv : ∃ x b, sgnI P = x ∧ rB P = b ∧ ((x = -1 ∧ b = true) ∨ (x = 0 ∧ b = false) ∨ (x = 1 ∧ b = false)) := by
    refine ⟨_, _, rfl, rfl, ?_⟩
    unfold sgnI rB
    by_cases e1 : P < 0
    · rw [if_pos e1, decide_eq_true e1]; exact .inl ⟨rfl, rfl⟩
    · rw [if_neg e1, decide_eq_false e1]
      by_cases e2 : P = 0
      · rw [if_pos e2]; exact .inr (.inl ⟨rfl, rfl⟩)
      · rw [if_neg e2]; exact .inr (.inr ⟨rfl, rfl⟩)
  obtain ⟨x, b, hx, hb0, hxb⟩ := hv
  rw [hx] at SG
  have HB0 := Lib.hid hb0
  clear h hQ B0 h1 h2 hs ht hx hb0
  rcases hxb with ⟨rfl, rfl⟩ | ⟨rfl, rfl⟩ | ⟨rfl, rfl⟩
  · go_enter Tryz.func12, Tryz.ntmps12
    go_wp2_with fail
    go_region_held3 (fun y => y.cell? ⟨w.heap.size, 0, none⟩ = some (.slice a n c) ∧ y.cell? ⟨w.heap.size, 1, none⟩ = some (.bool m) ∧ y.cell? ⟨w.heap.size, 2, none⟩ = some (.slice a2 n2 c2))
      (first
        | (exact ⟨z0.cell, z0.cell1, z0.cell2⟩)
        | (exact ⟨BB.out.now.2.1.cell, BB.out.now.2.1.cell1, BB.out.now.2.1.cell2⟩))
      (first
        | (go_at_call 11; (with_reducible refine (SG.out _ BB.out.now.2.2.1).mono ?_); rintro e w2 ⟨rfl, hb2⟩; have BB := Lib.hid (BB.out.go hb2))
        | (go_at_call 30; (with_reducible refine (X1.out _ BB.out.now.2.2.1.int.nt).mono ?_); rintro e w3 ⟨rfl, hb3⟩; have BB := Lib.hid (BB.out.go hb3))
        | (go_at_call 22; (with_reducible refine (BT.out _ BB.out.now.2.2.1).mono ?_); rintro e w4 ⟨a3, n3, c3, rfl, hn3, hb4⟩; have BB := Lib.hid (BB.out.go hb4))
        | (go_at_call 30; (with_reducible refine (X2.out _ _ _ _ hn3).mono ?_); rintro e w5 ⟨rfl, hb5⟩; have BB := Lib.hid (BB.out.go hb5); have hs := BB.out.now.1; have r0 := hs.cell; have r1 := hs.cell1; have r2 := hs.cell2; have g0 := hs.free; have g1 := hs.free1; have g2 := hs.free2; have z0 := BB.out.now.2.1.set3o he (.bool true) (.string s) (.string t); have HS := hs.set (.bool true) (.string s) (.string t); have HE := Lib.hid (ND.out _ _ _ _ BB.out.below HB0.out HS0.out HT0.out)))
    go_wp2
    exact bodyPost_ret (v := .agg #[.bool true, .string s, .string t]) (by simp [results, Tryz.results12, go_sem, HS]) rfl HE.out
  · go_enter Tryz.func12, Tryz.ntmps12
    go_wp2_with fail
    go_region_held3 (fun y => y.cell? ⟨w.heap.size, 0, none⟩ = some (.slice a n c) ∧ y.cell? ⟨w.heap.size, 1, none⟩ = some (.bool m) ∧ y.cell? ⟨w.heap.size, 2, none⟩ = some (.slice a2 n2 c2))
      (first
        | (exact ⟨z0.cell, z0.cell1, z0.cell2⟩)
        | (exact ⟨BB.out.now.2.1.cell, BB.out.now.2.1.cell1, BB.out.now.2.1.cell2⟩))
      (first
        | (go_at_call 11; (with_reducible refine (SG.out _ BB.out.now.2.2.1).mono ?_); rintro e w2 ⟨rfl, hb2⟩; have BB := Lib.hid (BB.out.go hb2))
        | (go_at_call 30; (with_reducible refine (X1.out _ BB.out.now.2.2.1.int.nt).mono ?_); rintro e w3 ⟨rfl, hb3⟩; have BB := Lib.hid (BB.out.go hb3))
        | (go_at_call 22; (with_reducible refine (BT.out _ BB.out.now.2.2.1).mono ?_); rintro e w4 ⟨a3, n3, c3, rfl, hn3, hb4⟩; have BB := Lib.hid (BB.out.go hb4))
        | (go_at_call 30; (with_reducible refine (X2.out _ _ _ _ hn3).mono ?_); rintro e w5 ⟨rfl, hb5⟩; have BB := Lib.hid (BB.out.go hb5); have hs := BB.out.now.1; have r0 := hs.cell; have r1 := hs.cell1; have r2 := hs.cell2; have g0 := hs.free; have g1 := hs.free1; have g2 := hs.free2; have z0 := BB.out.now.2.1.set3o he (.bool false) (.string s) (.string t); have HS := hs.set (.bool false) (.string s) (.string t); have HE := Lib.hid (ND.out _ _ _ _ BB.out.below HB0.out HS0.out HT0.out)))
    go_wp2
    exact bodyPost_ret (v := .agg #[.bool false, .string s, .string t]) (by simp [results, Tryz.results12, go_sem, HS]) rfl HE.out
  · go_enter Tryz.func12, Tryz.ntmps12
    go_wp2_with fail
    go_region_held3 (fun y => y.cell? ⟨w.heap.size, 0, none⟩ = some (.slice a n c) ∧ y.cell? ⟨w.heap.size, 1, none⟩ = some (.bool m) ∧ y.cell? ⟨w.heap.size, 2, none⟩ = some (.slice a2 n2 c2))
      (first
        | (exact ⟨z0.cell, z0.cell1, z0.cell2⟩)
        | (exact ⟨BB.out.now.2.1.cell, BB.out.now.2.1.cell1, BB.out.now.2.1.cell2⟩))
      (first
        | (go_at_call 11; (with_reducible refine (SG.out _ BB.out.now.2.2.1).mono ?_); rintro e w2 ⟨rfl, hb2⟩; have BB := Lib.hid (BB.out.go hb2))
        | (go_at_call 30; (with_reducible refine (X1.out _ BB.out.now.2.2.1.int.nt).mono ?_); rintro e w3 ⟨rfl, hb3⟩; have BB := Lib.hid (BB.out.go hb3))
        | (go_at_call 22; (with_reducible refine (BT.out _ BB.out.now.2.2.1).mono ?_); rintro e w4 ⟨a3, n3, c3, rfl, hn3, hb4⟩; have BB := Lib.hid (BB.out.go hb4))
        | (go_at_call 30; (with_reducible refine (X2.out _ _ _ _ hn3).mono ?_); rintro e w5 ⟨rfl, hb5⟩; have BB := Lib.hid (BB.out.go hb5); have hs := BB.out.now.1; have r0 := hs.cell; have r1 := hs.cell1; have r2 := hs.cell2; have g0 := hs.free; have g1 := hs.free1; have g2 := hs.free2; have z0 := BB.out.now.2.1.set3o he (.bool false) (.string s) (.string t); have HS := hs.set (.bool false) (.string s) (.string t); have HE := Lib.hid (ND.out _ _ _ _ BB.out.below HB0.out HS0.out HT0.out)))
    go_wp2
    exact bodyPost_ret (v := .agg #[.bool false, .string s, .string t]) (by simp [results, Tryz.results12, go_sem, HS]) rfl HE.out

end Go.Proofs.YthklcdcikmninaaGreatDoor

namespace Go.Proofs.YthklcdcikmninaaGreatDoor
open Go.RowKit
attribute [local go_sem ↓] Go.wp_at_zero Go.wp_at_succ

set_option maxHeartbeats 1600000 in
set_option maxRecDepth 100000 in
theorem shifted0_any (a : Option Addr) (n c : Nat) (k : Int) (w : World) (h : NatIs w (.agg #[.slice a n c]) 0) :
    Calls Tryz.prog 57 #[.agg #[.slice a n c], .int .i64 k] w fun e w' => NatTold2 w w' e (.agg #[.slice a n c]) 0 := by
  have B0 := (((Bag.start w).nat h).box (.slice a n c) 26).box (.slice none 0 0) 26
  simp only [World.size_alloc] at B0
  have ZE := Lib.hid (fun wz (h : NatIs wz (.agg #[.slice a n c]) 0) => zero_any _ 0 wz h)
  rw [decide_eq_true rfl] at ZE
  have BB := Lib.hid B0
  have q0 := B0.now.2.1.cell
  clear h B0
  go_enter Tryz.func57, Tryz.ntmps57
  go_wp2_with fail
  go_at_call 35
  (with_reducible refine (ZE.out _ BB.out.now.2.2.1).mono ?_)
  rintro e w2 ⟨rfl, hb2⟩
  have BB := Lib.hid (BB.out.go hb2)
  have q0 := BB.out.now.2.1.cell
  have hs := BB.out.now.1
  have hc := hs.cell
  have hf := hs.free
  have HS := World.cell?_setCell_same w2 ⟨w.heap.size + 1, 0, none⟩ (.slice a n c) hc
  have HE : Hid (NatTold2 w (w2.setCell ⟨w.heap.size + 1, 0, none⟩ (.slice a n c)) (.returned (.agg #[.slice a n c])) (.agg #[.slice a n c]) 0) := ⟨rfl, BB.out.now.2.2.1.storeAt hc (fun _ _ h => by cases h) _, BB.out.below.setCell (p := ⟨w.heap.size + 1, 0, none⟩) (show w.heap.size ≤ w.heap.size + 1 by omega) _⟩
  clear hb2 hs
  go_wp2
  exact bodyPost_ret (v := .agg #[.slice a n c]) (by simp [results, Tryz.results57, go_sem, HS]) rfl HE.out

set_option maxHeartbeats 3200000 in
set_option maxRecDepth 100000 in
theorem ratRead_yes (s : ByteArray) (w : World) (hs : s.size ≤ 2000) (hok : okB s.data.toList = true) :
    Calls Tryz.prog 34 #[.string s] w fun e w' => SubOf3 w w' e (numOf s.data.toList) true := by
  have B0 := (Bag.start w).box (.slice none 0 0) 26 |>.box (.slice none 0 0) 26
  simp only [World.size_alloc] at B0
  have PA := Lib.hid (fun wz => parse_any s wz (by unfold maxLen; omega))
  unfold ParseOut at PA
  rw [hok] at PA
  have BB := Lib.hid B0
  go_enter Tryz.func34, Tryz.ntmps34
  go_wp2
  have hsz : ¬ ((s.size : Int) > 2000) := by omega
  go_loopw [0] (fun i wr => i = .string s ∧ wr = ((w.alloc (.cells #[.slice none 0 0] 26)).alloc (.cells #[.slice none 0 0] 26))) (fun _ _ => 0)
  case atStart => exact ⟨rfl, rfl⟩
  case round =>
    obtain ⟨rfl, rfl⟩ := hrel
    go_wp2_with fail
    go_at_call 56
    (with_reducible refine (PA.out _).mono ?_)
    rintro e w2 ⟨a, n, c, rfl, hv, _, hb2⟩
    rw [if_pos trivial] at hv
    have hk2 := (BB.out.go hb2).now.1.lt
    have BB := Lib.hid (((BB.out.go hb2).nat hv).box (.slice a n c) 26)
    have he : w.heap.size + 1 ≠ w.heap.size ∧ w2.heap.size ≠ w.heap.size := by omega
    have SH := Lib.hid (fun k wz => shifted0_any none 0 0 k wz (NatIs.zero wz))
    unfold NatTold2 at SH
    obtain ⟨K, hK⟩ : ∃ K, K = 2000 := ⟨_, rfl⟩
    have hN : numOf s.data.toList < 4294967296 ^ K := by
      obtain ⟨g1, g2, g3⟩ := okB_digs hok
      have h1 := numOf_lt _ g3
      have h2 : s.data.toList.length = s.size := rfl
      exact Nat.lt_of_lt_of_le h1 (Nat.le_trans (Nat.pow_le_pow_right (by omega) (show s.data.toList.length ≤ K by omega)) (Nat.pow_le_pow_left (by omega) K))
    have AD : Hid (∀ a n c b k l wz, NatIs wz (.agg #[.slice a n c]) 0 → NatIs wz (.agg #[.slice b k l]) (numOf s.data.toList) → Calls Tryz.prog 58 #[.agg #[.slice a n c], .agg #[.slice b k l]] wz fun e w' => NatTold wz w' e (numOf s.data.toList)) := fun a n c b k l wz h g => by
      have := (add_any _ _ 0 (numOf s.data.toList) wz h g K (by omega) (Nat.pow_pos (by omega)) hN).mono fun _ _ h => h.told
      rw [Nat.zero_add] at this
      exact this
    clear hv hb2 hN B0
    go_wp2_with fail
    have BB := Lib.hid BB.out.drew
    go_region_held3 (fun y => y.cell? ⟨w.heap.size + 1, 0, none⟩ = some (.slice none 0 0) ∧ y.cell? ⟨w2.heap.size, 0, none⟩ = some (.slice a n c))
      (first
        | (exact ⟨z0.cell, z1.cell⟩)
        | (exact ⟨BB.out.now.2.2.1.cell, BB.out.now.1.cell⟩))
      (first
        | (go_at_call 57; (with_reducible refine (SH.out _ _).mono ?_); rintro e w3 ⟨rfl, hn3, hb3⟩; have BB := Lib.hid (BB.out.go hb3))
        | (go_at_call 58; (with_reducible refine (AD.out _ _ _ _ _ _ _ hn3 BB.out.now.2.1).mono ?_); rintro e w4 ⟨a5, n5, c5, rfl, hn5, hb4⟩; have BB := Lib.hid (BB.out.go hb4); have hs4 := BB.out.now.2.2.2.1; have hc := hs4.cell; have hf := hs4.free; have z0 := BB.out.now.2.2.1.seto he.1 (.slice a5 n5 c5); have z1 := BB.out.now.1.seto he.2 (.slice a5 n5 c5); have HS := World.cell?_setCell_same w4 ⟨w.heap.size, 0, none⟩ (.slice a5 n5 c5) hc; have HE : Hid (SubOf3 w (w4.setCell ⟨w.heap.size, 0, none⟩ (.slice a5 n5 c5)) (.returned (.tuple #[.agg #[.slice a5 n5 c5], .bool true])) (numOf s.data.toList) true) := ⟨a5, n5, c5, rfl, hn5.storeAt hc (fun _ _ h => by cases h) _, BB.out.below.setCell (p := ⟨w.heap.size, 0, none⟩) (Nat.le_refl _) _⟩))
    go_wp2
    exact bodyPost_ret (v := .tuple #[.agg #[.slice a5 n5 c5], .bool true]) (by simp [results, Tryz.results34, go_sem, HS]) rfl HE.out

set_option maxHeartbeats 3200000 in
set_option maxRecDepth 100000 in
theorem ratRead_no (s : ByteArray) (w : World) (hs : s.size ≤ 2000) (hok : okB s.data.toList = false) :
    Calls Tryz.prog 34 #[.string s] w fun e w' => SubOf3 w w' e 0 false := by
  have B0 := (Bag.start w).box (.slice none 0 0) 26 |>.box (.slice none 0 0) 26
  simp only [World.size_alloc] at B0
  have PA := Lib.hid (fun wz => parse_any s wz (by unfold maxLen; omega))
  unfold ParseOut at PA
  rw [hok] at PA
  have BB := Lib.hid B0
  go_enter Tryz.func34, Tryz.ntmps34
  go_wp2
  have hsz : ¬ ((s.size : Int) > 2000) := by omega
  go_loopw [0] (fun i wr => i = .string s ∧ wr = ((w.alloc (.cells #[.slice none 0 0] 26)).alloc (.cells #[.slice none 0 0] 26))) (fun _ _ => 0)
  case atStart => exact ⟨rfl, rfl⟩
  case round =>
    obtain ⟨rfl, rfl⟩ := hrel
    go_wp2_with fail
    go_at_call 56
    (with_reducible refine (PA.out _).mono ?_)
    rintro e w2 ⟨a, n, c, rfl, hv, _, hb2⟩
    have BB := Lib.hid ((BB.out.go hb2).box (.slice a n c) 26)
    have hs4 := BB.out.now.2.2.1
    have hc := hs4.cell
    have hf := hs4.free
    have HS := World.cell?_setCell_same _ ⟨w.heap.size, 0, none⟩ (.slice none 0 0) hc
    have HE := Lib.hid (show SubOf3 w _ (.returned (.tuple #[.agg #[.slice none 0 0], .bool false])) 0 false from ⟨none, 0, 0, rfl, NatIs.zero _, BB.out.below.setCell (p := ⟨w.heap.size, 0, none⟩) (Nat.le_refl _) (.slice none 0 0)⟩)
    clear hv hb2 B0 hs4
    go_wp2
    exact bodyPost_ret (v := .tuple #[.agg #[.slice none 0 0], .bool false]) (by simp [results, Tryz.results34, go_sem, HS]) rfl HE.out

end Go.Proofs.YthklcdcikmninaaGreatDoor

