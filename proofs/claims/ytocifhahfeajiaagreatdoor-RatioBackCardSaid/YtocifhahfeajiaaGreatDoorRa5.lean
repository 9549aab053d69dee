/-
  Package ratio: By, plusOne, by contract.
-/
import Derived.Test.YtocifhahfeajiaaGreatDoorRa4
namespace Go.Proofs.YtocifhahfeajiaaGreatDoor
open Go.RowKit
attribute [local go_sem ↓] Go.wp_at_zero Go.wp_at_succ

set_option maxHeartbeats 3200000 in
set_option maxRecDepth 100000 in
theorem by_walk (a : Option Addr) (n c : Nat) (m : Bool) (a2 : Option Addr) (n2 c2 : Nat) (P : Int) (Q : Nat) (b : Option Addr) (k l : Nat) (v : Bool) (b2 : Option Addr) (k2 l2 : Nat) (P' : Int) (Q' : Nat) (w : World)
    (h : RatAt w a n c m a2 n2 c2 P Q) (g : RatAt w b k l v b2 k2 l2 P' Q') (hQ : 0 < Q) (hQ' : 0 < Q') (K : Nat) (hK : K ≤ 400000) (h1 : P.natAbs < 4294967296 ^ K) (h2 : Q < 4294967296 ^ K) (h3 : P'.natAbs < 4294967296 ^ K) (h4 : Q' < 4294967296 ^ K)
    (X1 : Int) (X2 : Nat) (ok : Bool) (NW : Hid (∀ a n c m b k l v wz, IntAt wz a n c m (P * Q') → IntAt wz b k l v (P' * Q) → Calls Tryz.prog 27 #[.agg #[.slice a n c, .bool m], .agg #[.slice b k l, .bool v]] wz fun e w' => RatTold3 wz w' e X1 X2 ok)) :
    Calls Tryz.prog 10 #[.agg #[.slice a n c, .bool m, .slice a2 n2 c2], .agg #[.slice b k l, .bool v, .slice b2 k2 l2]] w fun e w' => RatTold3 w w' e X1 X2 ok := by
  have B0 := (((((Bag.start w).rat h).rat g).box3 (.slice a n c) (.bool m) (.slice a2 n2 c2) 30).box3 (.slice b k l) (.bool v) (.slice b2 k2 l2) 30).box3 (.slice none 0 0) (.bool false) (.slice none 0 0) 30
  simp only [World.size_alloc] at B0
  have BL := Lib.hid (fun wz (h : RatAt wz a n c m a2 n2 c2 P Q) => below_any a n c m a2 n2 c2 P Q wz h hQ)
  have BL' := Lib.hid (fun wz (h : RatAt wz b k l v b2 k2 l2 P' Q') => below_any b k l v b2 k2 l2 P' Q' wz h hQ')
  have T1 := Lib.hid (fun sa wz (h : IntAt wz a n c m P) (g : IntsAt wz sa 1 1 (fun _ => (Q' : Int))) => times1_any a n c m P sa Q' wz h g K hK h1 (by rw [Int.natAbs_natCast]; exact h4))
  have T2 := Lib.hid (fun sa wz (h : IntAt wz b k l v P') (g : IntsAt wz sa 1 1 (fun _ => (Q : Int))) => times1_any b k l v P' sa Q wz h g K hK h3 (by rw [Int.natAbs_natCast]; exact h2))
  have BB := Lib.hid B0.drew
  have he : w.heap.size ≠ w.heap.size + 1 + 1 ∧ w.heap.size + 1 ≠ w.heap.size + 1 + 1 := by omega
  unfold RatTold3 at NW
  generalize P * (Q' : Int) = X at *
  generalize P' * (Q : Int) = Y at *
  clear h g B0 h1 h2 h3 h4 hQ hQ'
  go_enter Tryz.func10, Tryz.ntmps10
  go_wp2_with fail
  go_region_held3 (fun y => (y.cell? ⟨w.heap.size, 0, none⟩ = some (.slice a n c) ∧ y.cell? ⟨w.heap.size, 1, none⟩ = some (.bool m) ∧ y.cell? ⟨w.heap.size, 2, none⟩ = some (.slice a2 n2 c2)) ∧ y.cell? ⟨w.heap.size + 1, 0, none⟩ = some (.slice b k l) ∧ y.cell? ⟨w.heap.size + 1, 1, none⟩ = some (.bool v) ∧ y.cell? ⟨w.heap.size + 1, 2, none⟩ = some (.slice b2 k2 l2))
    (first
      | (exact ⟨⟨z0.cell, z0.cell1, z0.cell2⟩, z1.cell, z1.cell1, z1.cell2⟩)
      | (exact ⟨⟨BB.out.now.2.2.1.cell, BB.out.now.2.2.1.cell1, BB.out.now.2.2.1.cell2⟩, BB.out.now.2.1.cell, BB.out.now.2.1.cell1, BB.out.now.2.1.cell2⟩)
      | (exact (fun B9 : Bag w _ _ => ⟨⟨B9.now.2.2.1.cell, B9.now.2.2.1.cell1, B9.now.2.2.1.cell2⟩, B9.now.2.1.cell, B9.now.2.1.cell1, B9.now.2.1.cell2⟩) (BB.out.alloc _)))
    (first
      | (go_at_call 36; (with_reducible refine (BL'.out _ BB.out.now.2.2.2.1).mono ?_); rintro e w5 ⟨a5, n5, c5, m5, rfl, hi5, hb5⟩; have BB := Lib.hid (BB.out.go hb5))
      | (go_at_call 33; (with_reducible refine (T1.out _ _ ?_ ?_).mono ?_); exact (BB.out.alloc _).now.2.2.2.2.1.int; exact IntsAt.mk1 rfl (hi5.below ((Below.refl _ _).alloc (Nat.le_refl _) _)); rintro e w6 ⟨a6, n6, c6, m6, rfl, hi6, hb6⟩; have BB := Lib.hid ((BB.out.alloc _).go hb6))
      | (go_at_call 36; (with_reducible refine (BL.out _ BB.out.now.2.2.2.2.1).mono ?_); rintro e w7 ⟨a7, n7, c7, m7, rfl, hi7, hb7⟩; have BB := Lib.hid (BB.out.go hb7))
      | (go_at_call 33; (with_reducible refine (T2.out _ _ ?_ ?_).mono ?_); exact (BB.out.alloc _).now.2.2.2.1.int; exact IntsAt.mk1 rfl (hi7.below ((Below.refl _ _).alloc (Nat.le_refl _) _)); rintro e w8 ⟨a8, n8, c8, m8, rfl, hi8, hb8⟩; have BB := Lib.hid ((BB.out.alloc _).go hb8))
      | (go_at_call 27; (with_reducible refine (NW.out _ _ _ _ _ _ _ _ _ (((hi6.below hb7).below ((Below.refl _ _).alloc (Nat.le_refl _) _)).below hb8) hi8).mono ?_); rintro e w9 ⟨a9, n9, c9, m9, a10, n10, c10, rfl, hr, hb9⟩; have BB := Lib.hid (BB.out.go hb9); have hs := BB.out.now.1; have r0 := hs.cell; have r1 := hs.cell1; have r2 := hs.cell2; have g0 := hs.free; have g1 := hs.free1; have g2 := hs.free2; have HS := hs.set (.slice a9 n9 c9) (.bool m9) (.slice a10 n10 c10); have z0 := BB.out.now.2.2.1.set3o he.1 (.slice a9 n9 c9) (.bool m9) (.slice a10 n10 c10); have z1 := BB.out.now.2.1.set3o he.2 (.slice a9 n9 c9) (.bool m9) (.slice a10 n10 c10); have HE := Lib.hid (RatTold3.done ok BB.out.below (by omega) hs hr)))
  go_wp2
  exact bodyPost_ret (v := .tuple #[.agg #[.slice a9 n9 c9, .bool m9, .slice a10 n10 c10], .bool ok]) (by simp [results, Tryz.results10, go_sem, HS]) rfl HE.out

theorem mul_lt32 {X Y K : Nat} (h : X < 4294967296 ^ K) (g : Y < 4294967296 ^ K) : X * Y < 4294967296 ^ (K + K) := by rw [Nat.pow_add]; exact Nat.mul_lt_mul'' h g
theorem mulZ_lt32 {X : Int} {Y K : Nat} (h : X.natAbs < 4294967296 ^ K) (g : Y < 4294967296 ^ K) : (X * Y).natAbs < 4294967296 ^ (K + K) := by
  rw [Int.natAbs_mul, Int.natAbs_natCast]; exact mul_lt32 h g

theorem by_zero (a : Option Addr) (n c : Nat) (m : Bool) (a2 : Option Addr) (n2 c2 : Nat) (P : Int) (Q : Nat) (b : Option Addr) (k l : Nat) (v : Bool) (b2 : Option Addr) (k2 l2 : Nat) (Q' : Nat) (w : World)
    (h : RatAt w a n c m a2 n2 c2 P Q) (g : RatAt w b k l v b2 k2 l2 0 Q') (hQ : 0 < Q) (hQ' : 0 < Q') (K : Nat) (hK : K ≤ 400000) (h1 : P.natAbs < 4294967296 ^ K) (h2 : Q < 4294967296 ^ K) (h4 : Q' < 4294967296 ^ K) :
    Calls Tryz.prog 10 #[.agg #[.slice a n c, .bool m, .slice a2 n2 c2], .agg #[.slice b k l, .bool v, .slice b2 k2 l2]] w fun e w' => RatTold3 w w' e 0 1 false :=
  by_walk a n c m a2 n2 c2 P Q b k l v b2 k2 l2 0 Q' w h g hQ hQ' K hK h1 h2 (Nat.pow_pos (by omega)) h4 0 1 false (Lib.hid fun a n c m b k l v wz h g => by
    rw [Int.zero_mul] at g; exact new_zero a n c m (P * Q') b k l v wz h g)
theorem by_some (a : Option Addr) (n c : Nat) (m : Bool) (a2 : Option Addr) (n2 c2 : Nat) (P : Int) (Q : Nat) (b : Option Addr) (k l : Nat) (v : Bool) (b2 : Option Addr) (k2 l2 : Nat) (P' : Int) (Q' : Nat) (w : World)
    (h : RatAt w a n c m a2 n2 c2 P Q) (g : RatAt w b k l v b2 k2 l2 P' Q') (hQ : 0 < Q) (hQ' : 0 < Q') (hP : P' ≠ 0) (K : Nat) (hK : K ≤ 400000) (h1 : P.natAbs < 4294967296 ^ K) (h2 : Q < 4294967296 ^ K) (h3 : P'.natAbs < 4294967296 ^ K) (h4 : Q' < 4294967296 ^ K) :
    Calls Tryz.prog 10 #[.agg #[.slice a n c, .bool m, .slice a2 n2 c2], .agg #[.slice b k l, .bool v, .slice b2 k2 l2]] w fun e w' => RatTold3 w w' e (nwP (P * Q') (P' * Q)) (nwQ (P * Q') (P' * Q)) true :=
  by_walk a n c m a2 n2 c2 P Q b k l v b2 k2 l2 P' Q' w h g hQ hQ' K hK h1 h2 h3 h4 _ _ true (Lib.hid fun a n c m b k l v wz h g =>
    new_some a n c m (P * Q') b k l v (P' * Q) wz h g (Int.mul_ne_zero hP (by omega)) (K + K) (by omega) (mulZ_lt32 h1 h4) (mulZ_lt32 h3 h2))

end Go.Proofs.YtocifhahfeajiaaGreatDoor
