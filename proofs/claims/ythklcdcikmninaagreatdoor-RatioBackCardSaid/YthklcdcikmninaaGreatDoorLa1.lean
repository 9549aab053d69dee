/-
  Package typeballlaw03: read, awake, by contract.
-/
import Derived.Test.YthklcdcikmninaaGreatDoorRt1
import Derived.Test.YthklcdcikmninaaGreatDoorRa13
import Derived.Test.YthklcdcikmninaaGreatDoorRa11
import Derived.Laws.StructEq
namespace Go.Proofs.YthklcdcikmninaaGreatDoor
open Go.RowKit
attribute [local go_sem ↓] Go.wp_at_zero Go.wp_at_succ

/-- What the laws read. -/
def rd3 (b : Bool) (s t : ByteArray) : Bool := decide (s.size ≤ 50) && (decide (t.size ≤ 50) && ofO b s t)

theorem size_dl (N : Nat) : (str (dec N)).size = dl N := by rw [str_size]; exact sdig_length _ _
theorem ten50 : (10 : Nat) ^ 50 < 4294967296 ^ 6 := by decide
theorem rd3_spec {b : Bool} {s t : ByteArray} (h : rd3 b s t = true) : rB (ofP b s t) = b ∧ rS (ofP b s t) = s ∧ str (dec (ofQ b s t)) = t ∧ 0 < ofQ b s t ∧ Nat.gcd (ofP b s t).natAbs (ofQ b s t) = 1 ∧ dl (ofP b s t).natAbs ≤ 50 ∧ dl (ofQ b s t) ≤ 50 ∧ (ofP b s t).natAbs < 4294967296 ^ 6 ∧ ofQ b s t < 4294967296 ^ 6 := by
  unfold rd3 ofO at h
  rw [Bool.and_eq_true, Bool.and_eq_true, Bool.and_eq_true, decide_eq_true_eq, decide_eq_true_eq, decide_eq_true_eq] at h
  obtain ⟨hs, ht, hk, h1, h2, h3⟩ := h
  unfold ofK at hk
  rw [Bool.and_eq_true, Bool.and_eq_true, Bool.not_eq_true', decide_eq_false_iff_not] at hk
  have hM : 0 < numOf t.data.toList := by omega
  have d1 : dl (ofP b s t).natAbs ≤ 50 := by have := congrArg ByteArray.size h2; unfold rS at this; rw [size_dl] at this; omega
  have d2 : dl (ofQ b s t) ≤ 50 := by have := congrArg ByteArray.size h3; rw [size_dl] at this; omega
  have lim : ∀ N, dl N ≤ 50 → N < 4294967296 ^ 6 := fun N h => Nat.lt_trans (Nat.lt_of_lt_of_le (dl_lt N) (Nat.pow_le_pow_right (by omega) h)) ten50
  exact ⟨h1, h2, h3, loQ_pos _ hM, lo_cop _ hM, d1, d2, lim _ d1, lim _ d2⟩

set_option maxHeartbeats 3200000 in
set_option maxRecDepth 100000 in
theorem read3_yes (b : Bool) (s t : ByteArray) (w : World) (h : rd3 b s t = true) :
    Calls Tryz.prog 4 #[.agg #[.bool b, .string s, .string t]] w fun e w' => RatTold3 w w' e (ofP b s t) (ofQ b s t) true := by
  unfold rd3 at h
  rw [Bool.and_eq_true, Bool.and_eq_true, decide_eq_true_eq, decide_eq_true_eq] at h
  have BB := Lib.hid ((Bag.start w).box3 (.bool b) (.string s) (.string t) 23 |>.box3 (.slice none 0 0) (.bool false) (.slice none 0 0) 30)
  simp only [World.size_alloc] at BB
  have RT := Lib.hid (fun wz => r3Right_any b s t wz (by omega) (by omega))
  have OF := Lib.hid (fun wz => of_any' b s t wz (by omega) (by omega))
  rw [h.2.2, if_pos rfl, if_pos rfl] at OF
  rw [h.2.2] at RT
  unfold RatTold3 at OF
  generalize ofP b s t = P at *
  generalize ofQ b s t = Q at *
  have q0 := BB.out.now.2.1.cell
  have q1 := BB.out.now.2.1.cell1
  have q2 := BB.out.now.2.1.cell2
  have l1 : decide ((50 : Int) < s.size) = false := decide_eq_false (by omega)
  have l2 : decide ((50 : Int) < t.size) = false := decide_eq_false (by omega)
  clear h
  go_enter Tryz.func4, Tryz.ntmps4
  go_wp2_with fail
  go_at_call 13
  (with_reducible refine (RT.out _).mono ?_)
  rintro e w2 ⟨rfl, hb2⟩
  have BB := Lib.hid (BB.out.go hb2)
  have q0 := BB.out.now.2.1.cell
  have q1 := BB.out.now.2.1.cell1
  have q2 := BB.out.now.2.1.cell2
  clear hb2
  go_wp2_with fail
  go_at_call 14
  (with_reducible refine (OF.out _).mono ?_)
  rintro e w3 ⟨a3, n3, c3, m3, a4, n4, c4, rfl, hr, hb3⟩
  have BB := Lib.hid (BB.out.go hb3)
  have hs := BB.out.now.1
  have u0 := hs.cell
  have u1 := hs.cell1
  have u2 := hs.cell2
  have g0 := hs.free
  have g1 := hs.free1
  have g2 := hs.free2
  have HS := hs.set (.slice a3 n3 c3) (.bool m3) (.slice a4 n4 c4)
  have HE := Lib.hid (RatTold3.done true BB.out.below (by omega) hs hr)
  clear hs hr hb3
  go_wp2
  exact bodyPost_ret (v := .tuple #[.agg #[.slice a3 n3 c3, .bool m3, .slice a4 n4 c4], .bool true]) (by simp [results, Tryz.results4, go_sem, HS]) rfl HE.out

set_option maxHeartbeats 3200000 in
set_option maxRecDepth 100000 in
theorem read3_no (b : Bool) (s t : ByteArray) (w : World) (h : rd3 b s t = false) :
    Calls Tryz.prog 4 #[.agg #[.bool b, .string s, .string t]] w fun e w' => RatTold3 w w' e 0 1 false := by
  have BB := Lib.hid ((Bag.start w).box3 (.bool b) (.string s) (.string t) 23 |>.box3 (.slice none 0 0) (.bool false) (.slice none 0 0) 30)
  simp only [World.size_alloc] at BB
  have q0 := BB.out.now.2.1.cell
  have q1 := BB.out.now.2.1.cell1
  have q2 := BB.out.now.2.1.cell2
  by_cases h1 : s.size ≤ 50
  · by_cases h2 : t.size ≤ 50
    · unfold rd3 at h
      rw [decide_eq_true h1, decide_eq_true h2, Bool.true_and, Bool.true_and] at h
      have RT := Lib.hid (fun wz => r3Right_any b s t wz (by omega) (by omega))
      rw [h] at RT
      have l1 : decide ((50 : Int) < s.size) = false := decide_eq_false (by omega)
      have l2 : decide ((50 : Int) < t.size) = false := decide_eq_false (by omega)
      clear h h1 h2
      go_enter Tryz.func4, Tryz.ntmps4
      go_wp2_with fail
      go_at_call 13
      (with_reducible refine (RT.out _).mono ?_)
      rintro e w2 ⟨rfl, hb2⟩
      have BB := Lib.hid (BB.out.go hb2)
      have hs := BB.out.now.1
      have u0 := hs.cell
      have u1 := hs.cell1
      have u2 := hs.cell2
      have g0 := hs.free
      have g1 := hs.free1
      have g2 := hs.free2
      have HS := hs.set (.slice none 0 0) (.bool false) (.slice none 0 0)
      have HE := Lib.hid (RatTold3.done false BB.out.below (by omega) hs (RatAt.zero _))
      clear hs hb2
      go_wp2
      exact bodyPost_ret (v := .tuple #[.agg #[.slice none 0 0, .bool false, .slice none 0 0], .bool false]) (by simp [results, Tryz.results4, go_sem, HS]) rfl HE.out
    · have l1 : decide ((50 : Int) < s.size) = false := decide_eq_false (by omega)
      have l2 : decide ((50 : Int) < t.size) = true := decide_eq_true (by omega)
      have hs := BB.out.now.1
      have u0 := hs.cell
      have u1 := hs.cell1
      have u2 := hs.cell2
      have g0 := hs.free
      have g1 := hs.free1
      have g2 := hs.free2
      clear hs h h1 h2
      go_enter Tryz.func4, Tryz.ntmps4
      go_wp2
      exact bodyPost_ret (v := .tuple #[.agg #[.slice none 0 0, .bool false, .slice none 0 0], .bool false]) (by simp [results, Tryz.results4, go_sem]) rfl ⟨none, 0, 0, false, none, 0, 0, rfl, RatAt.zero _, BB.out.below⟩
  · have l1 : decide ((50 : Int) < s.size) = true := decide_eq_true (by omega)
    have hs := BB.out.now.1
    have u0 := hs.cell
    have u1 := hs.cell1
    have u2 := hs.cell2
    have g0 := hs.free
    have g1 := hs.free1
    have g2 := hs.free2
    clear hs h h1
    go_enter Tryz.func4, Tryz.ntmps4
    go_wp2
    exact bodyPost_ret (v := .tuple #[.agg #[.slice none 0 0, .bool false, .slice none 0 0], .bool false]) (by simp [results, Tryz.results4, go_sem]) rfl ⟨none, 0, 0, false, none, 0, 0, rfl, RatAt.zero _, BB.out.below⟩

theorem aw3 : nwP 6 (-4) = -3 ∧ nwQ 6 (-4) = 2 ∧ nwP 2 3 = 2 ∧ nwQ 2 3 = 3 ∧ poP 2 3 (-2) 3 = 9 ∧ poQ 2 3 (-2) 3 = 4 ∧ poO 2 3 (-2) 3 = true ∧ reP (-2) 1 7 1 = -1 ∧ reQ (-2) 1 7 1 = 1 := by
  refine ⟨?_, ?_, ?_, ?_, ?_, ?_, ?_, ?_, ?_⟩ <;> decide +kernel
theorem num_small (a : Option Addr) (n c : Nat) (m : Bool) (a2 : Option Addr) (n2 c2 : Nat) (P : Int) (Q : Nat) (w : World) (h : RatAt w a n c m a2 n2 c2 P Q) (hQ : 0 < Q) (h1 : P.natAbs < 10) (h2 : Q < 10) :
    Calls Tryz.prog 12 #[.agg #[.slice a n c, .bool m, .slice a2 n2 c2]] w fun e w' => e = .returned (.agg #[.bool (decide (P < 0)), .string ⟨#[UInt8.ofNat (48 + P.natAbs)]⟩, .string ⟨#[UInt8.ofNat (48 + Q)]⟩]) ∧ Below w.heap.size w w' := by
  refine (num_any a n c m a2 n2 c2 P Q w h hQ 1 (by omega) (by rw [Nat.pow_one]; omega) (by rw [Nat.pow_one]; omega)).mono ?_
  rintro e w' ⟨rfl, hb⟩
  refine ⟨?_, hb⟩
  unfold rB rS
  rw [dec_small h1, dec_small h2]
  rfl

set_option maxHeartbeats 3200000 in
set_option maxRecDepth 100000 in
theorem awake3_any (w : World) : Calls Tryz.prog 5 #[] w fun e w' => e = .returned (.bool true) ∧ Below w.heap.size w w' := by
  have FR := Lib.hid (fun X wz h => from_any X wz h)
  have NW1 := Lib.hid (fun a n c m a2 n2 c2 m2 wz h g => new_some a n c m 6 a2 n2 c2 m2 (-4) wz h g (by decide) 1 (by omega) (by rw [Nat.pow_one]; decide) (by rw [Nat.pow_one]; decide))
  have NW2 := Lib.hid (fun a n c m a2 n2 c2 m2 wz h g => new_some a n c m 2 a2 n2 c2 m2 3 wz h g (by decide) 1 (by omega) (by rw [Nat.pow_one]; decide) (by rw [Nat.pow_one]; decide))
  rw [aw3.1, aw3.2.1] at NW1
  rw [aw3.2.2.1, aw3.2.2.2.1] at NW2
  have PW := Lib.hid (fun a n c m a2 n2 c2 wz h => ratPow_any a n c m a2 n2 c2 2 3 (-2) 3 wz h (by decide) (by rw [show (2 : Int).natAbs = 2 from rfl]; exact Nat.le_trans (dl_le 2 1 (by omega) (by decide)) (by omega)) (Nat.le_trans (dl_le 3 1 (by omega) (by decide)) (by omega)) (by decide) (by decide) (by decide) (by decide))
  rw [aw3.2.2.2.2.1, aw3.2.2.2.2.2.1, aw3.2.2.2.2.2.2.1] at PW
  have RF := Lib.hid (fun X wz h => ratFrom_any X wz h)
  have RE := Lib.hid (fun a n c m a2 n2 c2 b k l v b2 k2 l2 wz h g => rest_any a n c m a2 n2 c2 (-2) 1 b k l v b2 k2 l2 7 1 wz h g (by decide) (by decide) 1 (by omega) (by rw [Nat.pow_one]; decide) (by rw [Nat.pow_one]; decide) (by rw [Nat.pow_one]; decide) (by rw [Nat.pow_one]; decide))
  rw [aw3.2.2.2.2.2.2.2.1, aw3.2.2.2.2.2.2.2.2] at RE
  have NM1 := Lib.hid (fun a n c m a2 n2 c2 wz h => num_small a n c m a2 n2 c2 (-3) 2 wz h (by decide) (by decide) (by decide))
  have NM2 := Lib.hid (fun a n c m a2 n2 c2 wz h => num_small a n c m a2 n2 c2 (-1) 1 wz h (by decide) (by decide) (by decide))
  have NM3 := Lib.hid (fun a n c m a2 n2 c2 wz h => num_small a n c m a2 n2 c2 9 4 wz h (by decide) (by decide) (by decide))
  unfold RatTold3 at NW1 NW2 PW
  go_enter Tryz.func5, Tryz.ntmps5
  go_wp2_with fail
  go_at_call 16
  refine (FR.out 6 _ (by omega)).mono ?_
  rintro e w1 ⟨a1, n1, c1, m1, rfl, hi1, hb1⟩
  have BB := Lib.hid (((Bag.start w).go hb1).int hi1)
  clear hi1 hb1
  go_wp2_with fail
  go_at_call 16
  refine (FR.out (-4) _ (by omega)).mono ?_
  rintro e w2 ⟨a2, n2, c2, m2, rfl, hi2, hb2⟩
  have BB := Lib.hid ((BB.out.go hb2).int hi2)
  clear hi2 hb2
  go_wp2_with fail
  go_at_call 15
  refine (NW1.out _ _ _ _ _ _ _ _ _ BB.out.now.2.1 BB.out.now.1).mono ?_
  rintro e w3 ⟨a3, n3, c3, m3, a4, n4, c4, rfl, hr3, hb3⟩
  have BB := Lib.hid ((((Bag.start w).go (BB.out.go hb3).below).rat hr3).box3 (.slice a3 n3 c3) (.bool m3) (.slice a4 n4 c4) 30)
  clear hr3 hb3
  go_wp2_with fail
  go_at_call 16
  refine (FR.out 2 _ (by omega)).mono ?_
  rintro e w4 ⟨a5, n5, c5, m5, rfl, hi5, hb5⟩
  have BB := Lib.hid ((BB.out.go hb5).int hi5)
  clear hi5 hb5
  go_wp2_with fail
  go_at_call 16
  refine (FR.out 3 _ (by omega)).mono ?_
  rintro e w5 ⟨a6, n6, c6, m6, rfl, hi6, hb6⟩
  have BB := Lib.hid ((BB.out.go hb6).int hi6)
  clear hi6 hb6
  go_wp2_with fail
  go_at_call 15
  refine (NW2.out _ _ _ _ _ _ _ _ _ BB.out.now.2.1 BB.out.now.1).mono ?_
  rintro e w6 ⟨a7, n7, c7, m7, a8, n8, c8, rfl, hr7, hb7⟩
  have BB := Lib.hid (((BB.out.go hb7).rat hr7).box3 (.slice a7 n7 c7) (.bool m7) (.slice a8 n8 c8) 30)
  clear hr7 hb7
  have q0 := BB.out.now.1.cell
  have q1 := BB.out.now.1.cell1
  have q2 := BB.out.now.1.cell2
  go_wp2_with fail
  go_at_call 17
  refine (PW.out _ _ _ _ _ _ _ _ BB.out.now.2.1).mono ?_
  rintro e w7 ⟨a9, n9, c9, m9, a10, n10, c10, rfl, hr9, hb9⟩
  have BB := Lib.hid (((BB.out.go hb9).rat hr9).box3 (.slice a9 n9 c9) (.bool m9) (.slice a10 n10 c10) 30)
  clear hr9 hb9 q0 q1 q2
  have q0 := BB.out.now.2.2.2.2.2.2.1.cell
  have q1 := BB.out.now.2.2.2.2.2.2.1.cell1
  have q2 := BB.out.now.2.2.2.2.2.2.1.cell2
  go_wp2_with fail
  go_at_call 12
  refine (NM1.out _ _ _ _ _ _ _ _ BB.out.now.2.2.2.2.2.2.2.1).mono ?_
  rintro e w8 ⟨rfl, hb⟩
  have BB := Lib.hid (BB.out.go hb)
  clear hb q0 q1 q2
  go_wp2_with fail
  go_at_call 18
  refine (RF.out (-2) _ (by omega)).mono ?_
  rintro e w9 ⟨a11, n11, c11, m11, a12, n12, c12, rfl, hr11, hb⟩
  have BB := Lib.hid ((BB.out.go hb).rat hr11)
  clear hb hr11
  go_wp2_with fail
  go_at_call 18
  refine (RF.out 7 _ (by omega)).mono ?_
  rintro e w10 ⟨a13, n13, c13, m13, a14, n14, c14, rfl, hr13, hb⟩
  have BB := Lib.hid ((BB.out.go hb).rat hr13)
  clear hb hr13
  go_wp2_with fail
  go_at_call 19
  refine (RE.out _ _ _ _ _ _ _ _ _ _ _ _ _ _ _ BB.out.now.2.1 BB.out.now.1).mono ?_
  rintro e w11 ⟨a15, n15, c15, m15, a16, n16, c16, rfl, hr15, hb⟩
  have BB := Lib.hid ((BB.out.go hb).rat hr15)
  clear hb hr15
  go_wp2_with fail
  go_at_call 12
  refine (NM2.out _ _ _ _ _ _ _ _ BB.out.now.1).mono ?_
  rintro e w12 ⟨rfl, hb⟩
  have BB := Lib.hid (BB.out.go hb)
  clear hb
  have q0 := BB.out.now.2.2.2.1.cell
  have q1 := BB.out.now.2.2.2.1.cell1
  have q2 := BB.out.now.2.2.2.1.cell2
  go_wp2_with fail
  go_at_call 12
  refine (NM3.out _ _ _ _ _ _ _ _ BB.out.now.2.2.2.2.1).mono ?_
  rintro e w13 ⟨rfl, hb⟩
  have BB := Lib.hid (BB.out.go hb)
  clear hb
  go_wp2
  go_ret
  exact ⟨rfl, BB.out.below⟩

end Go.Proofs.YthklcdcikmninaaGreatDoor
