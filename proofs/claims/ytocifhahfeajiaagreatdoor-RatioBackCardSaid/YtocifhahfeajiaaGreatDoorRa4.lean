/-
  Package ratio: Limited, Limbs, Int, Cmp, by contract.
-/
import Derived.Test.YtocifhahfeajiaaGreatDoorRa3
import Derived.Test.YtocifhahfeajiaaGreatDoorK10
namespace Go.Proofs.YtocifhahfeajiaaGreatDoor
open Go.RowKit
attribute [local go_sem ↓] Go.wp_at_zero Go.wp_at_succ

def lbs (N : Nat) : Nat := (nbits N + 31) / 32
set_option maxHeartbeats 3200000 in
set_option maxRecDepth 100000 in
theorem ratCmp_any (a : Option Addr) (n c : Nat) (m : Bool) (a2 : Option Addr) (n2 c2 : Nat) (P : Int) (Q : Nat) (b : Option Addr) (k l : Nat) (v : Bool) (b2 : Option Addr) (k2 l2 : Nat) (P' : Int) (Q' : Nat) (w : World)
    (h : RatAt w a n c m a2 n2 c2 P Q) (g : RatAt w b k l v b2 k2 l2 P' Q') (hQ : 0 < Q) (hQ' : 0 < Q') (K : Nat) (hK : K ≤ 400000) (h1 : P.natAbs < 4294967296 ^ K) (h2 : Q < 4294967296 ^ K) (h3 : P'.natAbs < 4294967296 ^ K) (h4 : Q' < 4294967296 ^ K) :
    Calls Tryz.prog 13 #[.agg #[.slice a n c, .bool m, .slice a2 n2 c2], .agg #[.slice b k l, .bool v, .slice b2 k2 l2]] w fun e w' => e = .returned (.int .i64 (cmpZ (P * Q') (P' * Q))) ∧ Below w.heap.size w w' := by
  have B0 := ((((Bag.start w).rat h).rat g).box3 (.slice a n c) (.bool m) (.slice a2 n2 c2) 30).box3 (.slice b k l) (.bool v) (.slice b2 k2 l2) 30
  simp only [World.size_alloc] at B0
  have IW := Lib.hid (fun wz hz => isWhole_any a n c m a2 n2 c2 P Q wz hz hQ)
  have IW' := Lib.hid (fun wz hz => isWhole_any b k l v b2 k2 l2 P' Q' wz hz hQ')
  have BB := Lib.hid B0
  have q0 := B0.now.2.1.cell
  have q1 := B0.now.2.1.cell1
  have q2 := B0.now.2.1.cell2
  have r0 := B0.now.1.cell
  have r1 := B0.now.1.cell1
  have r2 := B0.now.1.cell2
  by_cases hw : Q = 1 ∧ Q' = 1
  · obtain ⟨rfl, rfl⟩ := hw
    have CM := Lib.hid (fun wz (h : IntAt wz a n c m P) (g : IntAt wz b k l v P') => icmp_any a n c m P b k l v P' wz h g)
    rw [show P * ((1 : Nat) : Int) = P from Int.mul_one P, show P' * ((1 : Nat) : Int) = P' from Int.mul_one P']
    rw [decide_eq_true rfl] at IW IW'
    generalize cmpZ P P' = z at *
    clear h g B0 h1 h2 h3 h4 hQ hQ'
    go_enter Tryz.func13, Tryz.ntmps13
    go_wp2_with (first
      | (go_at_call 39; (with_reducible refine (IW.out _ BB.out.now.2.2.2.1).mono ?_); rintro e w2 ⟨rfl, hb2⟩; have BB := Lib.hid (BB.out.go hb2); clear hb2; have q0 := BB.out.now.2.1.cell; have q1 := BB.out.now.2.1.cell1; have r0 := BB.out.now.1.cell; have r1 := BB.out.now.1.cell1; have r2 := BB.out.now.1.cell2)
      | (go_at_call 39; (with_reducible refine (IW'.out _ BB.out.now.2.2.1).mono ?_); rintro e w3 ⟨rfl, hb3⟩; have BB := Lib.hid (BB.out.go hb3); clear hb3; have q0 := BB.out.now.2.1.cell; have q1 := BB.out.now.2.1.cell1; have r0 := BB.out.now.1.cell; have r1 := BB.out.now.1.cell1)
      | (go_at_call 40; (with_reducible refine (CM.out _ BB.out.now.2.2.2.1.int BB.out.now.2.2.1.int).mono ?_); rintro e w4 ⟨rfl, hb4⟩; have BB := Lib.hid (BB.out.go hb4); clear hb4))
    go_ret
    exact ⟨rfl, BB.out.below⟩
  · have BL := Lib.hid (fun wz (h : RatAt wz a n c m a2 n2 c2 P Q) => below_any a n c m a2 n2 c2 P Q wz h hQ)
    have BL' := Lib.hid (fun wz (h : RatAt wz b k l v b2 k2 l2 P' Q') => below_any b k l v b2 k2 l2 P' Q' wz h hQ')
    have T1 := Lib.hid (fun sa wz (h : IntAt wz a n c m P) (g : IntsAt wz sa 1 1 (fun _ => (Q' : Int))) => times1_any a n c m P sa Q' wz h g K hK h1 (by rw [Int.natAbs_natCast]; exact h4))
    have T2 := Lib.hid (fun sa wz (h : IntAt wz b k l v P') (g : IntsAt wz sa 1 1 (fun _ => (Q : Int))) => times1_any b k l v P' sa Q wz h g K hK h3 (by rw [Int.natAbs_natCast]; exact h2))
    have CM := Lib.hid (fun a n c m a2 n2 c2 m2 wz (h : IntAt wz a n c m (P * Q')) (g : IntAt wz a2 n2 c2 m2 (P' * Q)) => icmp_any a n c m (P * Q') a2 n2 c2 m2 (P' * Q) wz h g)
    generalize cmpZ (P * Q') (P' * Q) = z at *
    generalize P * (Q' : Int) = X at *
    generalize P' * (Q : Int) = Y at *
    have hx : ∃ x y : Bool, decide (Q = 1) = x ∧ decide (Q' = 1) = y ∧ (x && y) = false := ⟨_, _, rfl, rfl, by
      by_cases e1 : Q = 1
      · rw [decide_eq_false (fun e2 => hw ⟨e1, e2⟩)]; simp
      · rw [decide_eq_false e1]; rfl⟩
    obtain ⟨x, y, hx1, hx2, hxy⟩ := hx
    rw [hx1] at IW
    rw [hx2] at IW'
    clear h g B0 h1 h2 h3 h4 hQ hQ' hx1 hx2 hw
    cases x <;> cases y
    all_goals
      first
        | (exact absurd hxy (by decide))
        | skip
    all_goals
      clear hxy
      go_enter Tryz.func13, Tryz.ntmps13
      go_wp2_with (first
        | (go_at_call 39; (with_reducible refine (IW.out _ BB.out.now.2.2.2.1).mono ?_); rintro e w2 ⟨rfl, hb2⟩; have BB := Lib.hid (BB.out.go hb2); clear hb2; have q0 := BB.out.now.2.1.cell; have q1 := BB.out.now.2.1.cell1; have r0 := BB.out.now.1.cell; have r1 := BB.out.now.1.cell1; have r2 := BB.out.now.1.cell2)
        | (go_at_call 39; (with_reducible refine (IW'.out _ BB.out.now.2.2.1).mono ?_); rintro e w3 ⟨rfl, hb3⟩; have BB := Lib.hid (BB.out.go hb3); clear hb3; have q0 := BB.out.now.2.1.cell; have q1 := BB.out.now.2.1.cell1; have r0 := BB.out.now.1.cell; have r1 := BB.out.now.1.cell1))
      have BB := Lib.hid BB.out.drew
      go_region_held3 (fun y => (y.cell? ⟨w.heap.size, 0, none⟩ = some (.slice a n c) ∧ y.cell? ⟨w.heap.size, 1, none⟩ = some (.bool m) ∧ y.cell? ⟨w.heap.size, 2, none⟩ = some (.slice a2 n2 c2)) ∧ y.cell? ⟨w.heap.size + 1, 0, none⟩ = some (.slice b k l) ∧ y.cell? ⟨w.heap.size + 1, 1, none⟩ = some (.bool v) ∧ y.cell? ⟨w.heap.size + 1, 2, none⟩ = some (.slice b2 k2 l2))
        (first
          | (exact ⟨⟨BB.out.now.2.1.cell, BB.out.now.2.1.cell1, BB.out.now.2.1.cell2⟩, BB.out.now.1.cell, BB.out.now.1.cell1, BB.out.now.1.cell2⟩)
          | (exact (fun B9 : Bag w _ _ => ⟨⟨B9.now.2.1.cell, B9.now.2.1.cell1, B9.now.2.1.cell2⟩, B9.now.1.cell, B9.now.1.cell1, B9.now.1.cell2⟩) (BB.out.alloc _)))
        (first
          | (go_at_call 36; (with_reducible refine (BL'.out _ BB.out.now.2.2.1).mono ?_); rintro e w5 ⟨a5, n5, c5, m5, rfl, hi5, hb5⟩; have BB := Lib.hid (BB.out.go hb5))
          | (go_at_call 33; (with_reducible refine (T1.out _ _ ?_ ?_).mono ?_); exact (BB.out.alloc _).now.2.2.2.1.int; exact IntsAt.mk1 rfl (hi5.below ((Below.refl _ _).alloc (Nat.le_refl _) _)); rintro e w6 ⟨a6, n6, c6, m6, rfl, hi6, hb6⟩; have BB := Lib.hid ((BB.out.alloc _).go hb6))
          | (go_at_call 36; (with_reducible refine (BL.out _ BB.out.now.2.2.2.1).mono ?_); rintro e w7 ⟨a7, n7, c7, m7, rfl, hi7, hb7⟩; have BB := Lib.hid (BB.out.go hb7))
          | (go_at_call 33; (with_reducible refine (T2.out _ _ ?_ ?_).mono ?_); exact (BB.out.alloc _).now.2.2.1.int; exact IntsAt.mk1 rfl (hi7.below ((Below.refl _ _).alloc (Nat.le_refl _) _)); rintro e w8 ⟨a8, n8, c8, m8, rfl, hi8, hb8⟩; have BB := Lib.hid ((BB.out.alloc _).go hb8))
          | (go_at_call 40; (with_reducible refine (CM.out _ _ _ _ _ _ _ _ _ (((hi6.below hb7).below ((Below.refl _ _).alloc (Nat.le_refl _) _)).below hb8) hi8).mono ?_); rintro e w9 ⟨rfl, hb9⟩; have BB := Lib.hid (BB.out.go hb9)))
      go_wp2
      go_ret
      exact ⟨rfl, BB.out.below⟩

end Go.Proofs.YtocifhahfeajiaaGreatDoor
