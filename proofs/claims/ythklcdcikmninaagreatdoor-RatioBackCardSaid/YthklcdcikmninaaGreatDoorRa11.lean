/-
  Package ratio: Plus and Times of one, Rest, by contract.
-/
import Derived.Test.YthklcdcikmninaaGreatDoorRa9
import Derived.Test.YthklcdcikmninaaGreatDoorRa10
namespace Go.Proofs.YthklcdcikmninaaGreatDoor
open Go.RowKit
attribute [local go_sem ↓] Go.wp_at_zero Go.wp_at_succ

theorem ratTimes1_any (a : Option Addr) (n c : Nat) (m : Bool) (a2 : Option Addr) (n2 c2 : Nat) (P : Int) (Q : Nat) (sa : Option Addr) (F : Int) (G : Nat) (w : World) (h : RatAt w a n c m a2 n2 c2 P Q) (g : RatsAt w sa 1 1 (fun _ => F) (fun _ => G))
    (hQ : 0 < Q) (hG : 0 < G) (K : Nat) (hK : K ≤ 200000) (h1 : P.natAbs < 4294967296 ^ K) (h2 : Q < 4294967296 ^ K) (h3 : F.natAbs < 4294967296 ^ K) (h4 : G < 4294967296 ^ K) :
    Calls Tryz.prog 6 #[.agg #[.slice a n c, .bool m, .slice a2 n2 c2], .slice sa 1 1] w fun e w' => RatTold w w' e (tmP P Q F G) (tmQ P Q F G) :=
  ratTimes_any a n c m a2 n2 c2 P Q sa 1 1 (fun _ => F) (fun _ => G) w h g hQ (fun _ _ => hG) K hK (fun k hk => by have e : k = 0 := (by omega); subst e; exact ⟨h1, h2, h3, h4⟩)
theorem ratPlus1_any (a : Option Addr) (n c : Nat) (m : Bool) (a2 : Option Addr) (n2 c2 : Nat) (P : Int) (Q : Nat) (sa : Option Addr) (F : Int) (G : Nat) (w : World) (h : RatAt w a n c m a2 n2 c2 P Q) (g : RatsAt w sa 1 1 (fun _ => F) (fun _ => G))
    (hQ : 0 < Q) (hG : 0 < G) (K : Nat) (hK : K ≤ 200000) (h1 : P.natAbs < 4294967296 ^ K) (h2 : Q < 4294967296 ^ K) (h3 : F.natAbs < 4294967296 ^ K) (h4 : G < 4294967296 ^ K) :
    Calls Tryz.prog 8 #[.agg #[.slice a n c, .bool m, .slice a2 n2 c2], .slice sa 1 1] w fun e w' => RatTold w w' e (plP P Q F G) (plQ P Q F G) :=
  ratPlus_any a n c m a2 n2 c2 P Q sa 1 1 (fun _ => F) (fun _ => G) w h g hQ (fun _ _ => hG) K hK (fun k hk => by have e : k = 0 := (by omega); subst e; exact ⟨h1, h2, h3, h4⟩)
theorem ratTimes0_any (a : Option Addr) (n c : Nat) (m : Bool) (a2 : Option Addr) (n2 c2 : Nat) (P : Int) (Q : Nat) (w : World) (h : RatAt w a n c m a2 n2 c2 P Q) (hQ : 0 < Q) :
    Calls Tryz.prog 6 #[.agg #[.slice a n c, .bool m, .slice a2 n2 c2], .slice none 0 0] w fun e w' => RatTold w w' e P Q :=
  ratTimes_any a n c m a2 n2 c2 P Q none 0 0 (fun _ => 0) (fun _ => 1) w h (RatsAt.nought _ _ _) hQ (fun _ h => by omega) 1 (by omega) (fun k hk => by omega)
theorem ratPlus0_any (a : Option Addr) (n c : Nat) (m : Bool) (a2 : Option Addr) (n2 c2 : Nat) (P : Int) (Q : Nat) (w : World) (h : RatAt w a n c m a2 n2 c2 P Q) (hQ : 0 < Q) :
    Calls Tryz.prog 8 #[.agg #[.slice a n c, .bool m, .slice a2 n2 c2], .slice none 0 0] w fun e w' => RatTold w w' e P Q :=
  ratPlus_any a n c m a2 n2 c2 P Q none 0 0 (fun _ => 0) (fun _ => 1) w h (RatsAt.nought _ _ _) hQ (fun _ h => by omega) 1 (by omega) (fun k hk => by omega)

theorem flQ_abs (P : Int) (Q : Int) : (flQ P Q).natAbs ≤ P.natAbs + 1 := by
  unfold flQ; rw [sgn_abs]; have := Nat.div_le_self P.natAbs Q.natAbs; split <;> omega

/-- What is left. -/
def reF (P : Int) (Q : Nat) (P' : Int) (Q' : Nat) : Int := flQ (nwP (P' * Q) (P * Q')) (nwQ (P' * Q) (P * Q'))
def reP (P : Int) (Q : Nat) (P' : Int) (Q' : Nat) : Int := if P = 0 then P' else plP P' Q' (-(tmP P Q (reF P Q P' Q') 1)) (tmQ P Q (reF P Q P' Q') 1)
def reQ (P : Int) (Q : Nat) (P' : Int) (Q' : Nat) : Nat := if P = 0 then Q' else plQ P' Q' (-(tmP P Q (reF P Q P' Q') 1)) (tmQ P Q (reF P Q P' Q') 1)

set_option maxHeartbeats 3200000 in
set_option maxRecDepth 100000 in
theorem rest_zero (a : Option Addr) (n c : Nat) (m : Bool) (a2 : Option Addr) (n2 c2 : Nat) (Q : Nat) (b : Option Addr) (k l : Nat) (v : Bool) (b2 : Option Addr) (k2 l2 : Nat) (P' : Int) (Q' : Nat) (w : World)
    (h : RatAt w a n c m a2 n2 c2 0 Q) (g : RatAt w b k l v b2 k2 l2 P' Q') (hQ : 0 < Q) (hQ' : 0 < Q') (K : Nat) (hK : K ≤ 40000) (h2 : Q < 4294967296 ^ K) (h3 : P'.natAbs < 4294967296 ^ K) (h4 : Q' < 4294967296 ^ K) :
    Calls Tryz.prog 19 #[.agg #[.slice a n c, .bool m, .slice a2 n2 c2], .agg #[.slice b k l, .bool v, .slice b2 k2 l2]] w fun e w' => RatTold w w' e P' Q' := by
  have B0 := (((((Bag.start w).rat h).rat g).box3 (.slice a n c) (.bool m) (.slice a2 n2 c2) 30).box3 (.slice b k l) (.bool v) (.slice b2 k2 l2) 30).box3 (.slice none 0 0) (.bool false) (.slice none 0 0) 30
  simp only [World.size_alloc] at B0
  have BY := Lib.hid (fun wz (h : RatAt wz b k l v b2 k2 l2 P' Q') (g : RatAt wz a n c m a2 n2 c2 0 Q) => by_zero b k l v b2 k2 l2 P' Q' a n c m a2 n2 c2 Q wz h g hQ' hQ K (by omega) h3 h4 h2)
  unfold RatTold3 at BY
  have BB := Lib.hid B0
  have q0 := B0.now.2.1.cell
  have q1 := B0.now.2.1.cell1
  have q2 := B0.now.2.1.cell2
  have r0 := B0.now.2.2.1.cell
  have r1 := B0.now.2.2.1.cell1
  have r2 := B0.now.2.2.1.cell2
  clear h g B0 h2 h3 h4 hQ hQ'
  go_enter Tryz.func19, Tryz.ntmps19
  go_wp2_with fail
  go_at_call 7
  (with_reducible refine (BY.out _ BB.out.now.2.2.2.1 BB.out.now.2.2.2.2.1).mono ?_)
  rintro e w2 ⟨a3, n3, c3, m3, a4, n4, c4, rfl, _, hb2⟩
  have BB := Lib.hid ((BB.out.go hb2).box3 (.slice a3 n3 c3) (.bool m3) (.slice a4 n4 c4) 30)
  have q0 := BB.out.now.2.2.1.cell
  have q1 := BB.out.now.2.2.1.cell1
  have q2 := BB.out.now.2.2.1.cell2
  have hs := BB.out.now.2.1
  have u0 := hs.cell
  have u1 := hs.cell1
  have u2 := hs.cell2
  have g0 := hs.free
  have g1 := hs.free1
  have g2 := hs.free2
  have HS := hs.set (.slice b k l) (.bool v) (.slice b2 k2 l2)
  have HE := Lib.hid (RatTold.done BB.out.below (by omega) hs BB.out.now.2.2.2.2.1)
  clear hb2 hs
  go_wp2
  exact bodyPost_ret (v := .agg #[.slice b k l, .bool v, .slice b2 k2 l2]) (by simp [results, Tryz.results19, go_sem, HS]) rfl HE.out

set_option maxHeartbeats 6400000 in
set_option maxRecDepth 100000 in
theorem rest_some (a : Option Addr) (n c : Nat) (m : Bool) (a2 : Option Addr) (n2 c2 : Nat) (P : Int) (Q : Nat) (b : Option Addr) (k l : Nat) (v : Bool) (b2 : Option Addr) (k2 l2 : Nat) (P' : Int) (Q' : Nat) (w : World)
    (h : RatAt w a n c m a2 n2 c2 P Q) (g : RatAt w b k l v b2 k2 l2 P' Q') (hQ : 0 < Q) (hQ' : 0 < Q') (hP : P ≠ 0) (K : Nat) (hK : K ≤ 40000) (h1 : P.natAbs < 4294967296 ^ K) (h2 : Q < 4294967296 ^ K) (h3 : P'.natAbs < 4294967296 ^ K) (h4 : Q' < 4294967296 ^ K) :
    Calls Tryz.prog 19 #[.agg #[.slice a n c, .bool m, .slice a2 n2 c2], .agg #[.slice b k l, .bool v, .slice b2 k2 l2]] w fun e w' => RatTold w w' e (plP P' Q' (-(tmP P Q (reF P Q P' Q') 1)) (tmQ P Q (reF P Q P' Q') 1)) (plQ P' Q' (-(tmP P Q (reF P Q P' Q') 1)) (tmQ P Q (reF P Q P' Q') 1)) := by
  have B0 := (((((Bag.start w).rat h).rat g).box3 (.slice a n c) (.bool m) (.slice a2 n2 c2) 30).box3 (.slice b k l) (.bool v) (.slice b2 k2 l2) 30).box3 (.slice none 0 0) (.bool false) (.slice none 0 0) 30
  simp only [World.size_alloc] at B0
  have BY := Lib.hid (fun wz (h : RatAt wz b k l v b2 k2 l2 P' Q') (g : RatAt wz a n c m a2 n2 c2 P Q) => by_some b k l v b2 k2 l2 P' Q' a n c m a2 n2 c2 P Q wz h g hQ' hQ hP K (by omega) h3 h4 h1 h2)
  unfold RatTold3 at BY
  have hU : (nwP (P' * Q) (P * Q')).natAbs < 4294967296 ^ (K + K) := Nat.lt_of_le_of_lt (Nat.le_trans (loP_absle _ _) (by rw [upZ_abs]; exact Nat.le_refl _)) (mulZ_lt32 h3 h2)
  have hVp : 0 < nwQ (P' * Q) (P * Q') := nwQ_pos _ (Int.mul_ne_zero hP (by omega))
  have FLO := Lib.hid (fun a n c m a2 n2 c2 wz hz => ratFloor_any a n c m a2 n2 c2 (nwP (P' * Q) (P * Q')) (nwQ (P' * Q) (P * Q')) wz hz hVp (K + K) (by omega) hU)
  rw [show flQ (nwP (P' * Q) (P * Q')) (nwQ (P' * Q) (P * Q')) = reF P Q P' Q' from rfl] at FLO
  have hF : (reF P Q P' Q').natAbs < 4294967296 ^ (K + K + 1) := by
    have := flQ_abs (nwP (P' * Q) (P * Q')) (nwQ (P' * Q) (P * Q'))
    have e : reF P Q P' Q' = flQ (nwP (P' * Q) (P * Q')) (nwQ (P' * Q) (P * Q')) := rfl
    rw [Nat.pow_succ, e]; omega
  have WH := Lib.hid (fun a n c m wz (h : IntAt wz a n c m (reF P Q P' Q')) => whole_any a n c m (reF P Q P' Q') wz h)
  have TM := Lib.hid (fun sa wz (h : RatAt wz a n c m a2 n2 c2 P Q) (g : RatsAt wz sa 1 1 (fun _ => reF P Q P' Q') (fun _ => 1)) => ratTimes1_any a n c m a2 n2 c2 P Q sa (reF P Q P' Q') 1 wz h g hQ (by omega) (K + K + 1) (by omega) (lt32_up h1 (by omega)) (lt32_up h2 (by omega)) hF (Nat.one_lt_pow (by omega) (by omega)))
  have hT : (tmP P Q (reF P Q P' Q') 1).natAbs < 4294967296 ^ (K + K + 1 + (K + K + 1)) := Nat.lt_of_le_of_lt (loP_absle _ _) (mulI_lt32 (lt32_up h1 (by omega)) hF)
  have hTQ : tmQ P Q (reF P Q P' Q') 1 < 4294967296 ^ (K + K + 1 + (K + K + 1)) := Nat.lt_of_le_of_lt (loQ_le _ _) (by rw [Nat.mul_one]; exact lt32_up h2 (by omega))
  have hTp : 0 < tmQ P Q (reF P Q P' Q') 1 := tmQ_pos _ _ hQ (by omega)
  have MN := Lib.hid (fun a n c m a2 n2 c2 wz hz => ratMinus_any a n c m a2 n2 c2 (tmP P Q (reF P Q P' Q') 1) (tmQ P Q (reF P Q P' Q') 1) wz hz)
  have PL := Lib.hid (fun sa wz (h : RatAt wz b k l v b2 k2 l2 P' Q') (g : RatsAt wz sa 1 1 (fun _ => -(tmP P Q (reF P Q P' Q') 1)) (fun _ => tmQ P Q (reF P Q P' Q') 1)) => ratPlus1_any b k l v b2 k2 l2 P' Q' sa _ _ wz h g hQ' hTp (K + K + 1 + (K + K + 1)) (by omega) (lt32_up h3 (by omega)) (lt32_up h4 (by omega)) (by rw [Int.natAbs_neg]; exact hT) hTQ)
  generalize plP P' Q' (-(tmP P Q (reF P Q P' Q') 1)) (tmQ P Q (reF P Q P' Q') 1) = Z1 at *
  generalize plQ P' Q' (-(tmP P Q (reF P Q P' Q') 1)) (tmQ P Q (reF P Q P' Q') 1) = Z2 at *
  generalize tmP P Q (reF P Q P' Q') 1 = X1 at *
  generalize tmQ P Q (reF P Q P' Q') 1 = X2 at *
  generalize reF P Q P' Q' = F at *
  generalize nwP (P' * Q) (P * Q') = U1 at *
  generalize nwQ (P' * Q) (P * Q') = U2 at *
  have BB := Lib.hid B0
  have q0 := B0.now.2.1.cell
  have q1 := B0.now.2.1.cell1
  have q2 := B0.now.2.1.cell2
  have r0 := B0.now.2.2.1.cell
  have r1 := B0.now.2.2.1.cell1
  have r2 := B0.now.2.2.1.cell2
  clear h g B0 h1 h2 h3 h4 hQ hQ' hU hVp hF hT hTQ hTp hP
  go_enter Tryz.func19, Tryz.ntmps19
  go_wp2_with fail
  go_at_call 7
  (with_reducible refine (BY.out _ BB.out.now.2.2.2.1 BB.out.now.2.2.2.2.1).mono ?_)
  rintro e w2 ⟨a3, n3, c3, m3, a4, n4, c4, rfl, hr2, hb2⟩
  have hk2 := (BB.out.go hb2).now.1.lt
  have BB := Lib.hid (((BB.out.go hb2).rat hr2).box3 (.slice a3 n3 c3) (.bool m3) (.slice a4 n4 c4) 30)
  have he : w.heap.size ≠ w.heap.size + 1 + 1 ∧ w.heap.size + 1 ≠ w.heap.size + 1 + 1 ∧ w2.heap.size ≠ w.heap.size + 1 + 1 := by omega
  clear hb2 hr2
  go_wp2_with fail
  have BB := Lib.hid BB.out.drew
  go_region_held3 (fun y => (y.cell? ⟨w.heap.size, 0, none⟩ = some (.slice a n c) ∧ y.cell? ⟨w.heap.size, 1, none⟩ = some (.bool m) ∧ y.cell? ⟨w.heap.size, 2, none⟩ = some (.slice a2 n2 c2)) ∧ (y.cell? ⟨w.heap.size + 1, 0, none⟩ = some (.slice b k l) ∧ y.cell? ⟨w.heap.size + 1, 1, none⟩ = some (.bool v) ∧ y.cell? ⟨w.heap.size + 1, 2, none⟩ = some (.slice b2 k2 l2)) ∧ y.cell? ⟨w2.heap.size, 0, none⟩ = some (.slice a3 n3 c3) ∧ y.cell? ⟨w2.heap.size, 1, none⟩ = some (.bool m3) ∧ y.cell? ⟨w2.heap.size, 2, none⟩ = some (.slice a4 n4 c4))
    (first
      | (exact ⟨⟨z0.cell, z0.cell1, z0.cell2⟩, ⟨z1.cell, z1.cell1, z1.cell2⟩, z2.cell, z2.cell1, z2.cell2⟩)
      | (exact ⟨⟨BB.out.now.2.2.2.2.1.cell, BB.out.now.2.2.2.2.1.cell1, BB.out.now.2.2.2.2.1.cell2⟩, ⟨BB.out.now.2.2.2.1.cell, BB.out.now.2.2.2.1.cell1, BB.out.now.2.2.2.1.cell2⟩, BB.out.now.1.cell, BB.out.now.1.cell1, BB.out.now.1.cell2⟩)
      | (exact (fun B9 : Bag w _ _ => ⟨⟨B9.now.2.2.2.2.1.cell, B9.now.2.2.2.2.1.cell1, B9.now.2.2.2.2.1.cell2⟩, ⟨B9.now.2.2.2.1.cell, B9.now.2.2.2.1.cell1, B9.now.2.2.2.1.cell2⟩, B9.now.1.cell, B9.now.1.cell1, B9.now.1.cell2⟩) (BB.out.alloc _)))
    (first
      | (go_at_call 42; (with_reducible refine (FLO.out _ _ _ _ _ _ _ _ BB.out.now.2.1).mono ?_); rintro e w5 ⟨a5, n5, c5, m5, rfl, hi5, hb5⟩; have BB := Lib.hid (BB.out.go hb5))
      | (go_at_call 41; (with_reducible refine (WH.out _ _ _ _ _ hi5).mono ?_); rintro e w6 ⟨a6, n6, c6, m6, a7, n7, c7, rfl, hr6, hb6⟩; have BB := Lib.hid (BB.out.go hb6))
      | (go_at_call 6; (with_reducible refine (TM.out _ _ ?_ ?_).mono ?_); exact (BB.out.alloc _).now.2.2.2.2.2.2.1; exact RatsAt.old1 (Below.refl _ _) rfl (hr6.below ((Below.refl _ _).alloc (Nat.le_refl _) _)); rintro e w7 ⟨a8, n8, c8, m8, a9, n9, c9, rfl, hr7, hb7⟩; have BB := Lib.hid ((BB.out.alloc _).go hb7))
      | (go_at_call 9; (with_reducible refine (MN.out _ _ _ _ _ _ _ _ hr7).mono ?_); rintro e w8 ⟨a10, n10, c10, m10, a11, n11, c11, rfl, hr8, hb8⟩; have BB := Lib.hid (BB.out.go hb8))
      | (go_at_call 8; (with_reducible refine (PL.out _ _ ?_ ?_).mono ?_); exact (BB.out.alloc _).now.2.2.2.2.2.1; exact RatsAt.old1 (Below.refl _ _) rfl (hr8.below ((Below.refl _ _).alloc (Nat.le_refl _) _)); rintro e w9 ⟨a12, n12, c12, m12, a13, n13, c13, rfl, hr9, hb9⟩; have BB := Lib.hid ((BB.out.alloc _).go hb9); have hs := BB.out.now.2.2.1; have u0 := hs.cell; have u1 := hs.cell1; have u2 := hs.cell2; have g0 := hs.free; have g1 := hs.free1; have g2 := hs.free2; have HS := hs.set (.slice a12 n12 c12) (.bool m12) (.slice a13 n13 c13); have z0 := BB.out.now.2.2.2.2.1.set3o he.1 (.slice a12 n12 c12) (.bool m12) (.slice a13 n13 c13); have z1 := BB.out.now.2.2.2.1.set3o he.2.1 (.slice a12 n12 c12) (.bool m12) (.slice a13 n13 c13); have z2 := BB.out.now.1.set3o he.2.2 (.slice a12 n12 c12) (.bool m12) (.slice a13 n13 c13); have HE := Lib.hid (RatTold.done BB.out.below (by omega) hs hr9)))
  go_wp2
  exact bodyPost_ret (v := .agg #[.slice a12 n12 c12, .bool m12, .slice a13 n13 c13]) (by simp [results, Tryz.results19, go_sem, HS]) rfl HE.out

theorem rest_any (a : Option Addr) (n c : Nat) (m : Bool) (a2 : Option Addr) (n2 c2 : Nat) (P : Int) (Q : Nat) (b : Option Addr) (k l : Nat) (v : Bool) (b2 : Option Addr) (k2 l2 : Nat) (P' : Int) (Q' : Nat) (w : World)
    (h : RatAt w a n c m a2 n2 c2 P Q) (g : RatAt w b k l v b2 k2 l2 P' Q') (hQ : 0 < Q) (hQ' : 0 < Q') (K : Nat) (hK : K ≤ 40000) (h1 : P.natAbs < 4294967296 ^ K) (h2 : Q < 4294967296 ^ K) (h3 : P'.natAbs < 4294967296 ^ K) (h4 : Q' < 4294967296 ^ K) :
    Calls Tryz.prog 19 #[.agg #[.slice a n c, .bool m, .slice a2 n2 c2], .agg #[.slice b k l, .bool v, .slice b2 k2 l2]] w fun e w' => RatTold w w' e (reP P Q P' Q') (reQ P Q P' Q') := by
  unfold reP reQ
  by_cases hP : P = 0
  · rw [if_pos hP, if_pos hP]
    subst hP
    exact rest_zero a n c m a2 n2 c2 Q b k l v b2 k2 l2 P' Q' w h g hQ hQ' K hK h2 h3 h4
  · rw [if_neg hP, if_neg hP]
    exact rest_some a n c m a2 n2 c2 P Q b k l v b2 k2 l2 P' Q' w h g hQ hQ' hP K hK h1 h2 h3 h4

end Go.Proofs.YthklcdcikmninaaGreatDoor
