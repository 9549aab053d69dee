/-
  Package ratio: fraction, lowest, New, by contract.
-/
import Derived.Test.YtocifhahfeajiaaGreatDoorRa1
import Derived.Test.YtocifhahfeajiaaGreatDoorNat24
namespace Go.Proofs.YtocifhahfeajiaaGreatDoor
open Go.RowKit
attribute [local go_sem ↓] Go.wp_at_zero Go.wp_at_succ

theorem Slot3.set1 {w : World} {k : Nat} {x y z : Value} (h : Slot3 w k x y z) (t : Value) : Slot3 (w.setCell ⟨k, 2, none⟩ t) k x y t := by
  refine ⟨?_, ?_, World.cell?_setCell_same _ _ _ h.cell2, by simp [h.free], by simp [h.free1], by simp [h.free2], by simpa using h.lt⟩
  · rw [World.cell?_setCell_other _ _ _ _ (fun e => by cases e)]; exact h.cell
  · rw [World.cell?_setCell_other _ _ _ _ (fun e => by cases e)]; exact h.cell1
theorem Slot3.set1o {w : World} {k j o : Nat} {x y z : Value} (h : Slot3 w j x y z) (e : j ≠ k) (t : Value) : Slot3 (w.setCell ⟨k, o, none⟩ t) j x y z := by
  have hn : ∀ o' : Nat, (⟨k, o, none⟩ : Addr) ≠ ⟨j, o', none⟩ := fun o' h => e (by cases h; rfl)
  refine ⟨?_, ?_, ?_, by simp [h.free], by simp [h.free1], by simp [h.free2], by simpa using h.lt⟩
  · rw [World.cell?_setCell_other _ _ _ _ (hn _)]; exact h.cell
  · rw [World.cell?_setCell_other _ _ _ _ (hn _)]; exact h.cell1
  · rw [World.cell?_setCell_other _ _ _ _ (hn _)]; exact h.cell2

set_option maxHeartbeats 3200000 in
set_option maxRecDepth 100000 in
theorem fraction_any (b : Bool) (a : Option Addr) (n c N : Nat) (a2 : Option Addr) (n2 c2 M : Nat) (w : World) (h : NatIs w (.agg #[.slice a n c]) N) (g : NatIs w (.agg #[.slice a2 n2 c2]) M) (hM : 0 < M) :
    Calls Tryz.prog 78 #[.bool b, .agg #[.slice a n c], .agg #[.slice a2 n2 c2]] w fun e w' => RatTold w w' e (sgn b N) M := by
  have OF := Lib.hid (fun wz (h : NatIs wz (.agg #[.slice a n c]) N) => wof_any b a n c N wz h)
  have WH := Lib.hid (fun a n c m wz (h : IntAt wz a n c m (sgn b N)) => whole_any a n c m (sgn b N) wz h)
  have ON := Lib.hid (fun wz (h : NatIs wz (.agg #[.slice a2 n2 c2]) M) => one_any _ M wz h)
  have B0 := (((((Bag.start w).nat h).nat g).box (.slice a n c) 26).box (.slice a2 n2 c2) 26).box3 (.slice none 0 0) (.bool false) (.slice none 0 0) 30
  simp only [World.size_alloc] at B0
  have BB := Lib.hid B0
  generalize sgn b N = P at *
  clear h g B0
  by_cases hm : M = 1
  · rw [decide_eq_true hm] at ON
    go_enter Tryz.func78, Tryz.ntmps78
    go_wp2_with fail
    go_at_call 69
    refine (OF.out _ BB.out.now.2.2.2.2.1).mono ?_
    rintro e w2 ⟨a3, n3, c3, m3, rfl, hi, hb2⟩
    have BB := Lib.hid ((BB.out.go hb2).int hi)
    clear hb2 hi
    go_wp2_with fail
    go_at_call 73
    refine (WH.out _ _ _ _ _ BB.out.now.1).mono ?_
    rintro e w3 ⟨a4, n4, c4, m4, a5, n5, c5, rfl, hr, hb3⟩
    have BB := Lib.hid (((BB.out.go hb3).rat hr).box3 (.slice a4 n4 c4) (.bool m4) (.slice a5 n5 c5) 30)
    clear hb3 hr
    have q0 := BB.out.now.2.2.2.2.1.cell
    go_wp2_with fail
    go_at_call 75
    refine (ON.out _ BB.out.now.2.2.2.2.2.2.1).mono ?_
    rintro e w4 ⟨rfl, hb4⟩
    have BB := Lib.hid (BB.out.go hb4)
    clear hb4 q0
    have hs0 := BB.out.now.1
    have q0 := hs0.cell
    have q1 := hs0.cell1
    have q2 := hs0.cell2
    have hs := BB.out.now.2.2.2.1
    have r0 := hs.cell
    have r1 := hs.cell1
    have r2 := hs.cell2
    have g0 := hs.free
    have g1 := hs.free1
    have g2 := hs.free2
    have HS := hs.set (.slice a4 n4 c4) (.bool m4) (.slice a5 n5 c5)
    have HE := Lib.hid (RatTold.done BB.out.below (by omega) hs BB.out.now.2.1)
    clear hs hs0
    subst hm
    go_wp2
    exact bodyPost_ret (v := .agg #[.slice a4 n4 c4, .bool m4, .slice a5 n5 c5]) (by simp [results, Tryz.results78, go_sem, HS]) rfl HE.out
  · rw [decide_eq_false hm] at ON
    go_enter Tryz.func78, Tryz.ntmps78
    go_wp2_with fail
    go_at_call 69
    refine (OF.out _ BB.out.now.2.2.2.2.1).mono ?_
    rintro e w2 ⟨a3, n3, c3, m3, rfl, hi, hb2⟩
    have BB := Lib.hid ((BB.out.go hb2).int hi)
    clear hb2 hi
    go_wp2_with fail
    go_at_call 73
    refine (WH.out _ _ _ _ _ BB.out.now.1).mono ?_
    rintro e w3 ⟨a4, n4, c4, m4, a5, n5, c5, rfl, hr, hb3⟩
    have hk : w.heap.size + 1 + 1 < w3.heap.size := (BB.out.go hb3).now.2.1.lt
    have BB := Lib.hid (((BB.out.go hb3).rat hr).box3 (.slice a4 n4 c4) (.bool m4) (.slice a5 n5 c5) 30)
    clear hb3 hr
    have q0 := BB.out.now.2.2.2.2.1.cell
    go_wp2_with fail
    go_at_call 75
    refine (ON.out _ BB.out.now.2.2.2.2.2.2.1).mono ?_
    rintro e w4 ⟨rfl, hb4⟩
    have BB := Lib.hid (BB.out.go hb4)
    clear hb4 q0
    have hs0 := BB.out.now.1
    have q3 := BB.out.now.2.2.2.2.1.cell
    have p2 := hs0.cell2
    have pf := hs0.free2
    have hs1 := hs0.set1 (.slice a2 n2 c2)
    have q0 := hs1.cell
    have q1 := hs1.cell1
    have q2 := hs1.cell2
    have hs := BB.out.now.2.2.2.1.set1o (o := 2) (k := w3.heap.size) (by omega) (.slice a2 n2 c2)
    have r0 := hs.cell
    have r1 := hs.cell1
    have r2 := hs.cell2
    have g0 := hs.free
    have g1 := hs.free1
    have g2 := hs.free2
    have HS := hs.set (.slice a4 n4 c4) (.bool m4) (.slice a2 n2 c2)
    have hx : RatAt (w4.setCell ⟨w3.heap.size, 2, none⟩ (.slice a2 n2 c2)) a4 n4 c4 m4 a2 n2 c2 P M := by
      have h1 := BB.out.now.2.1.1
      have h2 := BB.out.now.2.2.2.2.2.2.1
      refine ⟨⟨h1.1, h1.2.storeAt hs0.cell2 (fun _ _ h => by cases h) _⟩, ?_⟩
      rw [show lowN M = M from if_neg hm]
      exact h2.storeAt hs0.cell2 (fun _ _ h => by cases h) _
    have HE := Lib.hid (RatTold.done (BB.out.below.setCell (p := ⟨w3.heap.size, 2, none⟩) (show w.heap.size ≤ w3.heap.size by omega) _) (by omega) hs hx)
    clear hs hs0 hs1 hx
    go_wp2
    exact bodyPost_ret (v := .agg #[.slice a4 n4 c4, .bool m4, .slice a2 n2 c2]) (by simp [results, Tryz.results78, go_sem, HS]) rfl HE.out


theorem Slot.set0 {w : World} {k : Nat} {x : Value} (h : Slot w k x) (t : Value) : Slot (w.setCell ⟨k, 0, none⟩ t) k t :=
  ⟨World.cell?_setCell_same _ _ _ h.cell, by simp [h.free], by simpa using h.lt⟩
theorem Slot.seto {w : World} {k j : Nat} {x : Value} (h : Slot w j x) (e : j ≠ k) (t : Value) : Slot (w.setCell ⟨k, 0, none⟩ t) j x := by
  refine ⟨?_, by simp [h.free], by simpa using h.lt⟩
  rw [World.cell?_setCell_other _ _ _ _ (fun e' => by cases e'; exact e rfl)]; exact h.cell
theorem Slot2.seto {w : World} {k j : Nat} {x y : Value} (h : Slot2 w j x y) (e : j ≠ k) (t : Value) : Slot2 (w.setCell ⟨k, 0, none⟩ t) j x y := by
  refine ⟨?_, ?_, by simp [h.free], by simp [h.free1], by simpa using h.lt⟩
  · rw [World.cell?_setCell_other _ _ _ _ (fun e' => by cases e'; exact e rfl)]; exact h.cell
  · rw [World.cell?_setCell_other _ _ _ _ (fun e' => by cases e')]; exact h.cell1

/-- Three cells of another block stored. -/
theorem Slot.set3o {w : World} {k j : Nat} {x : Value} (h : Slot w j x) (e : j ≠ k) (u v t : Value) : Slot (((w.setCell ⟨k, 0, none⟩ u).setCell ⟨k, 1, none⟩ v).setCell ⟨k, 2, none⟩ t) j x := by
  have hn : ∀ o : Nat, (⟨k, o, none⟩ : Addr) ≠ ⟨j, 0, none⟩ := fun o h => e (by cases h; rfl)
  refine ⟨?_, by simp [h.free], by simpa using h.lt⟩
  rw [World.cell?_setCell_other _ _ _ _ (hn _), World.cell?_setCell_other _ _ _ _ (hn _), World.cell?_setCell_other _ _ _ _ (hn _)]; exact h.cell
theorem Slot2.set3o {w : World} {k j : Nat} {x y : Value} (h : Slot2 w j x y) (e : j ≠ k) (u v t : Value) : Slot2 (((w.setCell ⟨k, 0, none⟩ u).setCell ⟨k, 1, none⟩ v).setCell ⟨k, 2, none⟩ t) j x y := by
  have hn : ∀ o o' : Nat, (⟨k, o, none⟩ : Addr) ≠ ⟨j, o', none⟩ := fun o o' h => e (by cases h; rfl)
  refine ⟨?_, ?_, by simp [h.free], by simp [h.free1], by simpa using h.lt⟩
  · rw [World.cell?_setCell_other _ _ _ _ (hn _ _), World.cell?_setCell_other _ _ _ _ (hn _ _), World.cell?_setCell_other _ _ _ _ (hn _ _)]; exact h.cell
  · rw [World.cell?_setCell_other _ _ _ _ (hn _ _), World.cell?_setCell_other _ _ _ _ (hn _ _), World.cell?_setCell_other _ _ _ _ (hn _ _)]; exact h.cell1
theorem Slot3.set3o {w : World} {k j : Nat} {x y z : Value} (h : Slot3 w j x y z) (e : j ≠ k) (u v t : Value) : Slot3 (((w.setCell ⟨k, 0, none⟩ u).setCell ⟨k, 1, none⟩ v).setCell ⟨k, 2, none⟩ t) j x y z :=
  (h.set2o e u v).set1o e t

theorem divMod3_any (a : Option Addr) (n c : Nat) (a2 : Option Addr) (n2 c2 : Nat) (N M : Nat) (w : World) (h : NatIs w (.agg #[.slice a n c]) N) (g : NatIs w (.agg #[.slice a2 n2 c2]) M) (k : Nat) (hk : k ≤ 900000) (hN : N < 4294967296 ^ k) (hM : 0 < M) :
    Calls Tryz.prog 77 #[.agg #[.slice a n c], .agg #[.slice a2 n2 c2]] w fun e w' => DivOf3 w w' e (N / M) (modz N M) true := by
  refine (divMod_any _ _ N M w h g k hk hN).mono ?_
  rintro e w' ⟨v, u, rfl, hv, hu, hb⟩
  obtain ⟨a, n, c, f, rfl, hs, hv, ht⟩ := hv
  obtain ⟨a2, n2, c2, f2, rfl, hs2, hv2, ht2⟩ := hu
  exact ⟨a, n, c, a2, n2, c2, by rw [decide_eq_true (by omega)], ⟨a, n, c, f, rfl, hs, hv, ht⟩, ⟨a2, n2, c2, f2, rfl, hs2, hv2, ht2⟩, hb⟩

set_option maxHeartbeats 3200000 in
set_option maxRecDepth 100000 in
theorem lowest_any (a : Option Addr) (n c : Nat) (m : Bool) (P : Int) (a2 : Option Addr) (n2 c2 Q : Nat) (w : World) (h : IntAt w a n c m P) (g : NatIs w (.agg #[.slice a2 n2 c2]) Q) (hQ : 0 < Q)
    (K : Nat) (hK : K ≤ 900000) (hPK : P.natAbs < 4294967296 ^ K) (hQK : Q < 4294967296 ^ K) :
    Calls Tryz.prog 32 #[.agg #[.slice a n c, .bool m], .agg #[.slice a2 n2 c2]] w fun e w' => RatTold w w' e (loP P Q) (loQ P Q) := by
  have ON := Lib.hid (fun wz (h : NatIs wz (.agg #[.slice a2 n2 c2]) Q) => one_any _ Q wz h)
  have B0 := (((((Bag.start w).int h).nat g).box2 (.slice a n c) (.bool m) 28).box (.slice a2 n2 c2) 26).box3 (.slice none 0 0) (.bool false) (.slice none 0 0) 30
  simp only [World.size_alloc] at B0
  have BB := Lib.hid B0
  by_cases hq : Q = 1
  · subst hq
    have hlo : loP P 1 = P ∧ loQ P 1 = 1 := lo_one (Nat.gcd_one_right _)
    rw [hlo.1, hlo.2]
    rw [decide_eq_true rfl] at ON
    have WH := Lib.hid (fun wz (h : IntAt wz a n c m P) => whole_any a n c m P wz h)
    clear h g B0 hlo hPK hQK
    go_enter Tryz.func32, Tryz.ntmps32
    have q0 := BB.out.now.2.1.cell
    have q1 := BB.out.now.2.2.1.cell
    have q2 := BB.out.now.2.2.1.cell1
    go_wp2_with fail
    go_at_call 75
    refine (ON.out _ BB.out.now.2.2.2.1).mono ?_
    rintro e w2 ⟨rfl, hb2⟩
    have BB := Lib.hid (BB.out.go hb2)
    clear hb2 q0 q1 q2
    have q0 := BB.out.now.2.1.cell
    have q1 := BB.out.now.2.2.1.cell
    have q2 := BB.out.now.2.2.1.cell1
    go_wp2_with fail
    go_at_call 73
    refine (WH.out _ BB.out.now.2.2.2.2.1).mono ?_
    rintro e w3 ⟨a3, n3, c3, m3, a4, n4, c4, rfl, hr, hb3⟩
    have BB := Lib.hid (BB.out.go hb3)
    have hs := BB.out.now.1
    have r0 := hs.cell
    have r1 := hs.cell1
    have r2 := hs.cell2
    have g0 := hs.free
    have g1 := hs.free1
    have g2 := hs.free2
    have HS := hs.set (.slice a3 n3 c3) (.bool m3) (.slice a4 n4 c4)
    have HE := Lib.hid (RatTold.done BB.out.below (by omega) hs hr)
    clear hb3 hs hr
    go_wp2
    exact bodyPost_ret (v := .agg #[.slice a3 n3 c3, .bool m3, .slice a4 n4 c4]) (by simp [results, Tryz.results32, go_sem, HS]) rfl HE.out
  · rw [decide_eq_false hq] at ON
    have SZ := Lib.hid (fun wz (h : IntAt wz a n c m P) => size_any a n c m P wz h)
    have NG := Lib.hid (fun wz (h : IntAt wz a n c m P) => neg_any a n c m P wz h)
    have GC : Hid (∀ wz, NatIs wz (.agg #[.slice a n c]) P.natAbs → NatIs wz (.agg #[.slice a2 n2 c2]) Q → Calls Tryz.prog 76 #[.agg #[.slice a n c], .agg #[.slice a2 n2 c2]] wz fun e w' => NatOf3 wz w' e (Nat.gcd P.natAbs Q)) := fun wz h g => gcd_any a n c a2 n2 c2 P.natAbs Q wz h g K hK hPK hQK
    have ON2 := Lib.hid (fun a n c wz (h : NatIs wz (.agg #[.slice a n c]) (Nat.gcd P.natAbs Q)) => one_any _ (Nat.gcd P.natAbs Q) wz h)
    unfold NatTold2 at SZ
    by_cases hg : Nat.gcd P.natAbs Q = 1
    · have hlo : loP P Q = P ∧ loQ P Q = Q := lo_one hg
      rw [hlo.1, hlo.2]
      rw [hg] at ON2 GC
      rw [decide_eq_true rfl] at ON2
      have FR := Lib.hid (fun wz (h : NatIs wz (.agg #[.slice a n c]) P.natAbs) (g : NatIs wz (.agg #[.slice a2 n2 c2]) Q) => fraction_any m a n c P.natAbs a2 n2 c2 Q wz h g hQ)
      rw [h.1, sgn_self, ← h.1] at FR
      clear h g B0 hlo hPK hQK hQ hg
      go_enter Tryz.func32, Tryz.ntmps32
      have q0 := BB.out.now.2.1.cell
      have q1 := BB.out.now.2.2.1.cell
      have q2 := BB.out.now.2.2.1.cell1
      go_wp2_with (first
        | (go_at_call 75; (with_reducible refine (ON.out _ BB.out.now.2.2.2.1).mono ?_); rintro e w2 ⟨rfl, hb2⟩; have BB := Lib.hid (BB.out.go hb2); clear hb2; have q0 := BB.out.now.2.1.cell; have q1 := BB.out.now.2.2.1.cell; have q2 := BB.out.now.2.2.1.cell1)
        | (go_at_call 56; (with_reducible refine (SZ.out _ BB.out.now.2.2.2.2.1).mono ?_); rintro e w3 ⟨rfl, hn3, hb3⟩; have hk3 : w.heap.size + 1 + 1 < w3.heap.size := (BB.out.go hb3).now.1.lt; have BB := Lib.hid (((BB.out.go hb3).nat hn3).box (.slice a n c) 26); clear hb3 hn3; have q0 := BB.out.now.2.2.2.1.cell; have q1 := BB.out.now.2.2.2.2.1.cell; have q2 := BB.out.now.2.2.2.2.1.cell1; have q3 := BB.out.now.1.cell)
        | (go_at_call 76; (with_reducible refine (GC.out _ BB.out.now.2.1 BB.out.now.2.2.2.2.2.1).mono ?_); rintro e w4 ⟨a5, n5, c5, rfl, hn5, hb4⟩; have hk4 : w3.heap.size < w4.heap.size := (BB.out.go hb4).now.1.lt; have BB := Lib.hid (((BB.out.go hb4).nat hn5).box (.slice a5 n5 c5) 26); clear hb4 hn5; have q0 := BB.out.now.2.2.2.2.2.1.cell; have q1 := BB.out.now.2.2.2.2.2.2.1.cell; have q2 := BB.out.now.2.2.2.2.2.2.1.cell1; have q3 := BB.out.now.2.2.1.cell; have q4 := BB.out.now.1.cell)
        | (go_at_call 75; (with_reducible refine (ON2.out a5 n5 c5 _ BB.out.now.2.1).mono ?_); rintro e w5 ⟨rfl, hb5⟩; have BB := Lib.hid (BB.out.go hb5); clear hb5; have q0 := BB.out.now.2.2.2.2.2.1.cell; have q1 := BB.out.now.2.2.2.2.2.2.1.cell; have q2 := BB.out.now.2.2.2.2.2.2.1.cell1; have q3 := BB.out.now.2.2.1.cell; have q4 := BB.out.now.1.cell))
      have BB := Lib.hid BB.out.drew
      have he : w.heap.size ≠ w.heap.size + 1 + 1 ∧ w.heap.size + 1 ≠ w.heap.size + 1 + 1 ∧ w3.heap.size ≠ w.heap.size + 1 + 1 := by omega
      go_region_held3 (fun y => y.cell? ⟨w.heap.size, 0, none⟩ = some (.slice a n c) ∧ y.cell? ⟨w.heap.size, 1, none⟩ = some (.bool m) ∧ y.cell? ⟨w.heap.size + 1, 0, none⟩ = some (.slice a2 n2 c2) ∧ y.cell? ⟨w3.heap.size, 0, none⟩ = some (.slice a n c))
        (first
          | (exact ⟨BB.out.now.2.2.2.2.2.2.1.cell, BB.out.now.2.2.2.2.2.2.1.cell1, BB.out.now.2.2.2.2.2.1.cell, BB.out.now.2.2.1.cell⟩)
          | (exact ⟨z0.cell, z0.cell1, z1.cell, z2.cell⟩))
        (first
          | (go_at_call 70; (with_reducible refine (NG.out _ BB.out.now.2.2.2.2.2.2.2.2.1).mono ?_); rintro e w6 ⟨rfl, hb6⟩; have BB := Lib.hid (BB.out.go hb6); clear hb6)
          | (go_at_call 78; (with_reducible refine (FR.out _ BB.out.now.2.2.2.1 BB.out.now.2.2.2.2.2.2.2.1).mono ?_); rintro e w7 ⟨a6, n6, c6, m6, a7, n7, c7, rfl, hr, hb7⟩; have BB := Lib.hid (BB.out.go hb7); have hs := BB.out.now.2.2.2.2.1; have r0 := hs.cell; have r1 := hs.cell1; have r2 := hs.cell2; have g0 := hs.free; have g1 := hs.free1; have g2 := hs.free2; have HS := hs.set (.slice a6 n6 c6) (.bool m6) (.slice a7 n7 c7); have z0 := BB.out.now.2.2.2.2.2.2.1.set3o he.1 (.slice a6 n6 c6) (.bool m6) (.slice a7 n7 c7); have z1 := BB.out.now.2.2.2.2.2.1.set3o he.2.1 (.slice a6 n6 c6) (.bool m6) (.slice a7 n7 c7); have z2 := BB.out.now.2.2.1.set3o he.2.2 (.slice a6 n6 c6) (.bool m6) (.slice a7 n7 c7); have HE := Lib.hid (RatTold.done BB.out.below (by omega) hs hr); clear hb7 hs hr))
      go_wp2
      exact bodyPost_ret (v := .agg #[.slice a6 n6 c6, .bool m6, .slice a7 n7 c7]) (by simp [results, Tryz.results32, go_sem, HS]) rfl HE.out
    · have DM := Lib.hid (fun a5 n5 c5 wz (h : NatIs wz (.agg #[.slice a n c]) P.natAbs) (g : NatIs wz (.agg #[.slice a5 n5 c5]) (Nat.gcd P.natAbs Q)) => divMod3_any a n c a5 n5 c5 P.natAbs (Nat.gcd P.natAbs Q) wz h g K hK hPK (rg_pos P hQ))
      have DQ := Lib.hid (fun a5 n5 c5 wz (h : NatIs wz (.agg #[.slice a2 n2 c2]) Q) (g : NatIs wz (.agg #[.slice a5 n5 c5]) (Nat.gcd P.natAbs Q)) => divMod3_any a2 n2 c2 a5 n5 c5 Q (Nat.gcd P.natAbs Q) wz h g K hK hQK (rg_pos P hQ))
      have FR := Lib.hid (fun a n c a2 n2 c2 wz (h : NatIs wz (.agg #[.slice a n c]) (P.natAbs / Nat.gcd P.natAbs Q)) (g : NatIs wz (.agg #[.slice a2 n2 c2]) (Q / Nat.gcd P.natAbs Q)) => fraction_any m a n c (P.natAbs / Nat.gcd P.natAbs Q) a2 n2 c2 (Q / Nat.gcd P.natAbs Q) wz h g (loQ_pos P hQ))
      have hx : sgn m (P.natAbs / Nat.gcd P.natAbs Q) = loP P Q := by rw [h.1]; rfl
      rw [hx, show Q / Nat.gcd P.natAbs Q = loQ P Q from rfl] at FR
      rw [show Q / Nat.gcd P.natAbs Q = loQ P Q from rfl] at DQ
      rw [decide_eq_false hg] at ON2
      unfold DivOf3 at DM DQ
      generalize loP P Q = P1 at *
      generalize loQ P Q = Q1 at *
      generalize P.natAbs / Nat.gcd P.natAbs Q = N1 at *
      generalize Nat.gcd P.natAbs Q = G at *
      clear h g B0 hPK hQK hQ hg hx
      go_enter Tryz.func32, Tryz.ntmps32
      have q0 := BB.out.now.2.1.cell
      have q1 := BB.out.now.2.2.1.cell
      have q2 := BB.out.now.2.2.1.cell1
      go_wp2_with (first
        | (go_at_call 75; (with_reducible refine (ON.out _ BB.out.now.2.2.2.1).mono ?_); rintro e w2 ⟨rfl, hb2⟩; have BB := Lib.hid (BB.out.go hb2); clear hb2; have q0 := BB.out.now.2.1.cell; have q1 := BB.out.now.2.2.1.cell; have q2 := BB.out.now.2.2.1.cell1)
        | (go_at_call 56; (with_reducible refine (SZ.out _ BB.out.now.2.2.2.2.1).mono ?_); rintro e w3 ⟨rfl, hn3, hb3⟩; have hk3 : w.heap.size + 1 + 1 < w3.heap.size := (BB.out.go hb3).now.1.lt; have BB := Lib.hid (((BB.out.go hb3).nat hn3).box (.slice a n c) 26); clear hb3 hn3; have q0 := BB.out.now.2.2.2.1.cell; have q1 := BB.out.now.2.2.2.2.1.cell; have q2 := BB.out.now.2.2.2.2.1.cell1; have q3 := BB.out.now.1.cell)
        | (go_at_call 76; (with_reducible refine (GC.out _ BB.out.now.2.1 BB.out.now.2.2.2.2.2.1).mono ?_); rintro e w4 ⟨a5, n5, c5, rfl, hn5, hb4⟩; have hk4 : w3.heap.size < w4.heap.size := (BB.out.go hb4).now.1.lt; have BB := Lib.hid (((BB.out.go hb4).nat hn5).box (.slice a5 n5 c5) 26); clear hb4 hn5; have q0 := BB.out.now.2.2.2.2.2.1.cell; have q1 := BB.out.now.2.2.2.2.2.2.1.cell; have q2 := BB.out.now.2.2.2.2.2.2.1.cell1; have q3 := BB.out.now.2.2.1.cell; have q4 := BB.out.now.1.cell)
        | (go_at_call 75; (with_reducible refine (ON2.out a5 n5 c5 _ BB.out.now.2.1).mono ?_); rintro e w5 ⟨rfl, hb5⟩; have BB := Lib.hid (BB.out.go hb5); clear hb5; have q0 := BB.out.now.2.2.2.2.2.1.cell; have q1 := BB.out.now.2.2.2.2.2.2.1.cell; have q2 := BB.out.now.2.2.2.2.2.2.1.cell1; have q3 := BB.out.now.2.2.1.cell; have q4 := BB.out.now.1.cell))
      go_at_call 77
      (with_reducible refine (DM.out _ _ _ _ BB.out.now.2.2.2.1 BB.out.now.2.1).mono ?_)
      rintro e w6 ⟨a6, n6, c6, a7, n7, c7, rfl, hv, _, hb6⟩
      have B6 := BB.out.go hb6
      have u0 := B6.now.2.2.1
      have hc := u0.cell
      have hf := u0.free
      have hni : ∀ (x : Option Addr) (y z : Nat) (ki : IntKind) (i : Int), (Value.slice x y z) ≠ .int ki i := fun _ _ _ _ _ h => by cases h
      have B7 := (Bag.start w).go (B6.below.setCell (p := ⟨w3.heap.size, 0, none⟩) (show w.heap.size ≤ w3.heap.size by omega) (.slice a6 n6 c6))
      have B7 := B7.int (a := a) (n := n) (c := c) (m := m) (Z := P) ⟨B6.now.2.2.2.2.2.2.2.2.1.1, B6.now.2.2.2.2.2.2.2.2.1.2.storeAt hc (hni _ _ _) _⟩
      have B7 := B7.nat (B6.now.2.2.2.2.2.2.2.1.storeAt hc (hni _ _ _) _)
      have B7 := B7.slot2 (B6.now.2.2.2.2.2.2.1.seto (by omega) _)
      have B7 := B7.slot (B6.now.2.2.2.2.2.1.seto (by omega) _)
      have B7 := B7.slot3 (B6.now.2.2.2.2.1.set1o (by omega) _)
      have B7 := B7.nat (B6.now.2.1.storeAt hc (hni _ _ _) _)
      have B7 := B7.slot (B6.now.1.seto (by omega) _)
      have B7 := B7.slot (u0.set0 _)
      have B7 := B7.nat (hv.storeAt hc (hni _ _ _) _)
      have BB := Lib.hid B7
      have q0 := B7.now.2.2.2.2.2.1.cell
      have q3 := B7.now.2.1.cell
      have q4 := B7.now.2.2.1.cell
      clear hv hb6 B6 u0 B7
      go_wp2_with fail
      go_at_call 77
      (with_reducible refine (DQ.out _ _ _ _ BB.out.now.2.2.2.2.2.2.2.1 BB.out.now.2.2.2.1).mono ?_)
      rintro e w7 ⟨a8, n8, c8, a9, n9, c9, rfl, hv, _, hb7⟩
      have B8 := BB.out.go hb7
      have u0 := B8.now.2.2.2.2.2.1
      have hc := u0.cell
      have hf := u0.free
      have B9 := (Bag.start w).go (B8.below.setCell (p := ⟨w.heap.size + 1, 0, none⟩) (show w.heap.size ≤ w.heap.size + 1 by omega) (.slice a8 n8 c8))
      have B9 := B9.int (a := a) (n := n) (c := c) (m := m) (Z := P) ⟨B8.now.2.2.2.2.2.2.2.2.1.1, B8.now.2.2.2.2.2.2.2.2.1.2.storeAt hc (hni _ _ _) _⟩
      have B9 := B9.slot2 (B8.now.2.2.2.2.2.2.1.seto (by omega) _)
      have B9 := B9.slot (u0.set0 _)
      have B9 := B9.slot3 (B8.now.2.2.2.2.1.set1o (by omega) _)
      have B9 := B9.nat (B8.now.2.2.2.1.storeAt hc (hni _ _ _) _)
      have B9 := B9.slot (B8.now.2.2.1.seto (by omega) _)
      have B9 := B9.slot (B8.now.2.1.seto (by omega) _)
      have B9 := B9.nat (B8.now.1.storeAt hc (hni _ _ _) _)
      have B9 := B9.nat (hv.storeAt hc (hni _ _ _) _)
      have BB := Lib.hid B9
      clear hv hb7 B8 u0 B9 q0 q3 q4
      go_wp2_with fail
      have BB := Lib.hid BB.out.drew
      have he : w.heap.size ≠ w.heap.size + 1 + 1 ∧ w.heap.size + 1 ≠ w.heap.size + 1 + 1 ∧ w3.heap.size ≠ w.heap.size + 1 + 1 := by omega
      go_region_held3 (fun y => y.cell? ⟨w.heap.size, 0, none⟩ = some (.slice a n c) ∧ y.cell? ⟨w.heap.size, 1, none⟩ = some (.bool m) ∧ y.cell? ⟨w.heap.size + 1, 0, none⟩ = some (.slice a8 n8 c8) ∧ y.cell? ⟨w3.heap.size, 0, none⟩ = some (.slice a6 n6 c6))
        (first
          | (exact ⟨BB.out.now.2.2.2.2.2.2.2.1.cell, BB.out.now.2.2.2.2.2.2.2.1.cell1, BB.out.now.2.2.2.2.2.2.1.cell, BB.out.now.2.2.1.cell⟩)
          | (exact ⟨z0.cell, z0.cell1, z1.cell, z2.cell⟩))
        (first
          | (go_at_call 70; (with_reducible refine (NG.out _ BB.out.now.2.2.2.2.2.2.2.2.1).mono ?_); rintro e w8 ⟨rfl, hb8⟩; have BB := Lib.hid (BB.out.go hb8); clear hb8)
          | (go_at_call 78; (with_reducible refine (FR.out _ _ _ _ _ _ _ BB.out.now.2.1 BB.out.now.1).mono ?_); rintro e w9 ⟨a10, n10, c10, m10, a11, n11, c11, rfl, hr, hb9⟩; have BB := Lib.hid (BB.out.go hb9); have hs := BB.out.now.2.2.2.2.2.1; have r0 := hs.cell; have r1 := hs.cell1; have r2 := hs.cell2; have g0 := hs.free; have g1 := hs.free1; have g2 := hs.free2; have HS := hs.set (.slice a10 n10 c10) (.bool m10) (.slice a11 n11 c11); have z0 := BB.out.now.2.2.2.2.2.2.2.1.set3o he.1 (.slice a10 n10 c10) (.bool m10) (.slice a11 n11 c11); have z1 := BB.out.now.2.2.2.2.2.2.1.set3o he.2.1 (.slice a10 n10 c10) (.bool m10) (.slice a11 n11 c11); have z2 := BB.out.now.2.2.1.set3o he.2.2 (.slice a10 n10 c10) (.bool m10) (.slice a11 n11 c11); have HE := Lib.hid (RatTold.done BB.out.below (by omega) hs hr); clear hb9 hs hr))
      go_wp2
      exact bodyPost_ret (v := .agg #[.slice a10 n10 c10, .bool m10, .slice a11 n11 c11]) (by simp [results, Tryz.results32, go_sem, HS]) rfl HE.out

end Go.Proofs.YtocifhahfeajiaaGreatDoor
