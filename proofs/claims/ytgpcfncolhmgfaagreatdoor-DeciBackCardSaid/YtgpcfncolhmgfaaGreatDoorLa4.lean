/-
  Package typeballlaw04: read, by contract.
  Package typeballlaw04: awake, by contract.
-/
import Derived.Test.YtgpcfncolhmgfaaGreatDoorRt1
import Derived.Test.YtgpcfncolhmgfaaGreatDoorDe0
import Derived.Test.YtgpcfncolhmgfaaGreatDoorDe6
namespace Go.Proofs.YtgpcfncolhmgfaaGreatDoor
open Go.RowKit
attribute [local go_sem ↓] Go.wp_at_zero Go.wp_at_succ

/-- What the laws read. -/
def rd4 (b : Bool) (s t : ByteArray) : Bool := decide (s.size ≤ 40) && (decide (t.size ≤ 40) && ofO b s t)

theorem ten40 : (10 : Nat) ^ 40 < 4294967296 ^ 5 := by decide
theorem rd4_spec {b : Bool} {s t : ByteArray} (h : rd4 b s t = true) : rB (ofP b s t) = b ∧ rS (ofP b s t) = s ∧ str (dec (ofQ b s t)) = t ∧ 0 < ofQ b s t ∧ Nat.gcd (ofP b s t).natAbs (ofQ b s t) = 1 ∧ dl (ofP b s t).natAbs ≤ 40 ∧ dl (ofQ b s t) ≤ 40 ∧ (ofP b s t).natAbs < 4294967296 ^ 5 ∧ ofQ b s t < 4294967296 ^ 5 := by
  unfold rd4 ofO at h
  rw [Bool.and_eq_true, Bool.and_eq_true, Bool.and_eq_true, decide_eq_true_eq, decide_eq_true_eq, decide_eq_true_eq] at h
  obtain ⟨hs, ht, hk, h1, h2, h3⟩ := h
  unfold ofK at hk
  rw [Bool.and_eq_true, Bool.and_eq_true, Bool.not_eq_true', decide_eq_false_iff_not] at hk
  have hM : 0 < numOf t.data.toList := by omega
  have d1 : dl (ofP b s t).natAbs ≤ 40 := by have := congrArg ByteArray.size h2; unfold rS at this; rw [size_dlD] at this; omega
  have d2 : dl (ofQ b s t) ≤ 40 := by have := congrArg ByteArray.size h3; rw [size_dlD] at this; omega
  have lim : ∀ N, dl N ≤ 40 → N < 4294967296 ^ 5 := fun N h => Nat.lt_trans (Nat.lt_of_lt_of_le (dl_lt N) (Nat.pow_le_pow_right (by omega) h)) ten40
  exact ⟨h1, h2, h3, loQ_pos _ hM, lo_cop _ hM, d1, d2, lim _ d1, lim _ d2⟩

set_option maxHeartbeats 3200000 in
set_option maxRecDepth 100000 in
theorem read4_yes (b : Bool) (s t : ByteArray) (w : World) (h : rd4 b s t = true) :
    Calls Tryz.prog 11 #[.agg #[.bool b, .string s, .string t]] w fun e w' => RatTold3 w w' e (ofP b s t) (ofQ b s t) true := by
  unfold rd4 at h
  rw [Bool.and_eq_true, Bool.and_eq_true, decide_eq_true_eq, decide_eq_true_eq] at h
  have BB := Lib.hid ((Bag.start w).box3 (.bool b) (.string s) (.string t) 34 |>.box3 (.slice none 0 0) (.bool false) (.slice none 0 0) 30)
  simp only [World.size_alloc] at BB
  have RT := Lib.hid (fun wz => r3Right_any b s t wz (by omega) (by omega))
  have OF := Lib.hid (fun wz => of_any' b s t wz (by omega) (by omega))
  rw [h.2.2, if_pos rfl, if_pos rfl] at OF
  rw [h.2.2] at RT
  unfold RatTold3 at OF
  generalize ofP b s t = P at *
  generalize ofQ b s t = Q at *
  have q0 := BB.out.now.2.1.cell
  have q1 := BB.out.now.2.1.cell1
  have q2 := BB.out.now.2.1.cell2
  have l1 : decide ((40 : Int) < s.size) = false := decide_eq_false (by omega)
  have l2 : decide ((40 : Int) < t.size) = false := decide_eq_false (by omega)
  clear h
  go_enter Tryz.func11, Tryz.ntmps11
  go_wp2_with fail
  go_at_call 30
  (with_reducible refine (RT.out _).mono ?_)
  rintro e w2 ⟨rfl, hb2⟩
  have BB := Lib.hid (BB.out.go hb2)
  have q0 := BB.out.now.2.1.cell
  have q1 := BB.out.now.2.1.cell1
  have q2 := BB.out.now.2.1.cell2
  clear hb2
  go_wp2_with fail
  go_at_call 14
  (with_reducible refine (OF.out _).mono ?_)
  rintro e w3 ⟨a3, n3, c3, m3, a4, n4, c4, rfl, hr, hb3⟩
  have BB := Lib.hid (BB.out.go hb3)
  have hs := BB.out.now.1
  have u0 := hs.cell
  have u1 := hs.cell1
  have u2 := hs.cell2
  have g0 := hs.free
  have g1 := hs.free1
  have g2 := hs.free2
  have HS := hs.set (.slice a3 n3 c3) (.bool m3) (.slice a4 n4 c4)
  have HE := Lib.hid (RatTold3.done true BB.out.below (by omega) hs hr)
  clear hs hr hb3
  go_wp2
  exact bodyPost_ret (v := .tuple #[.agg #[.slice a3 n3 c3, .bool m3, .slice a4 n4 c4], .bool true]) (by simp [results, Tryz.results11, go_sem, HS]) rfl HE.out

set_option maxHeartbeats 3200000 in
set_option maxRecDepth 100000 in
theorem read4_no (b : Bool) (s t : ByteArray) (w : World) (h : rd4 b s t = false) :
    Calls Tryz.prog 11 #[.agg #[.bool b, .string s, .string t]] w fun e w' => RatTold3 w w' e 0 1 false := by
  have BB := Lib.hid ((Bag.start w).box3 (.bool b) (.string s) (.string t) 34 |>.box3 (.slice none 0 0) (.bool false) (.slice none 0 0) 30)
  simp only [World.size_alloc] at BB
  have q0 := BB.out.now.2.1.cell
  have q1 := BB.out.now.2.1.cell1
  have q2 := BB.out.now.2.1.cell2
  by_cases h1 : s.size ≤ 40
  · by_cases h2 : t.size ≤ 40
    · unfold rd4 at h
      rw [decide_eq_true h1, decide_eq_true h2, Bool.true_and, Bool.true_and] at h
      have RT := Lib.hid (fun wz => r3Right_any b s t wz (by omega) (by omega))
      rw [h] at RT
      have l1 : decide ((40 : Int) < s.size) = false := decide_eq_false (by omega)
      have l2 : decide ((40 : Int) < t.size) = false := decide_eq_false (by omega)
      clear h h1 h2
      go_enter Tryz.func11, Tryz.ntmps11
      go_wp2_with fail
      go_at_call 30
      (with_reducible refine (RT.out _).mono ?_)
      rintro e w2 ⟨rfl, hb2⟩
      have BB := Lib.hid (BB.out.go hb2)
      have hs := BB.out.now.1
      have u0 := hs.cell
      have u1 := hs.cell1
      have u2 := hs.cell2
      have g0 := hs.free
      have g1 := hs.free1
      have g2 := hs.free2
      have HS := hs.set (.slice none 0 0) (.bool false) (.slice none 0 0)
      have HE := Lib.hid (RatTold3.done false BB.out.below (by omega) hs (RatAt.zero _))
      clear hs hb2
      go_wp2
      exact bodyPost_ret (v := .tuple #[.agg #[.slice none 0 0, .bool false, .slice none 0 0], .bool false]) (by simp [results, Tryz.results11, go_sem, HS]) rfl HE.out
    · have l1 : decide ((40 : Int) < s.size) = false := decide_eq_false (by omega)
      have l2 : decide ((40 : Int) < t.size) = true := decide_eq_true (by omega)
      have hs := BB.out.now.1
      have u0 := hs.cell
      have u1 := hs.cell1
      have u2 := hs.cell2
      have g0 := hs.free
      have g1 := hs.free1
      have g2 := hs.free2
      clear hs h h1 h2
      go_enter Tryz.func11, Tryz.ntmps11
      go_wp2
      exact bodyPost_ret (v := .tuple #[.agg #[.slice none 0 0, .bool false, .slice none 0 0], .bool false]) (by simp [results, Tryz.results11, go_sem]) rfl ⟨none, 0, 0, false, none, 0, 0, rfl, RatAt.zero _, BB.out.below⟩
  · have l1 : decide ((40 : Int) < s.size) = true := decide_eq_true (by omega)
    have hs := BB.out.now.1
    have u0 := hs.cell
    have u1 := hs.cell1
    have u2 := hs.cell2
    have g0 := hs.free
    have g1 := hs.free1
    have g2 := hs.free2
    clear hs h h1
    go_enter Tryz.func11, Tryz.ntmps11
    go_wp2
    exact bodyPost_ret (v := .tuple #[.agg #[.slice none 0 0, .bool false, .slice none 0 0], .bool false]) (by simp [results, Tryz.results11, go_sem]) rfl ⟨none, 0, 0, false, none, 0, 0, rfl, RatAt.zero _, BB.out.below⟩

end Go.Proofs.YtgpcfncolhmgfaaGreatDoor

namespace Go.Proofs.YtgpcfncolhmgfaaGreatDoor
open Go.RowKit
attribute [local go_sem ↓] Go.wp_at_zero Go.wp_at_succ

theorem dlx {N : Nat} (n : Nat) (h1 : 10 ^ n ≤ N) (h2 : N < 10 ^ (n + 1)) : dl N = n + 1 := dl_eq h1 h2
theorem aw4a : shS 2 3 4 = ⟨#[48, 46, 54, 54, 54, 55]⟩ := by
  have d2 : dl 2 = 1 := dlx 0 (by decide) (by decide)
  have d3 : dl 3 = 1 := dlx 0 (by decide) (by decide)
  have h0 : e0 2 3 = 0 := by unfold e0; rw [d2, d3]; rfl
  have hT : sT 2 3 = 2 := by unfold sT; rw [h0]; rfl
  have hB0 : sB0 2 3 = 3 := by unfold sB0; rw [h0]; rfl
  have hB : sB 2 3 = 3 := by unfold sB; rw [hT, hB0]; rfl
  have hE : sE 2 3 = -1 := by unfold sE; rw [hT, hB0, h0]; rfl
  have hN : shN 4 = 4 := rfl
  have hM : shM 2 3 4 = 6667 := by unfold shM; rw [hT, hB, hN]; decide +kernel
  have dM : dl 6667 = 4 := dlx 3 (by decide) (by decide)
  have hz : zd 6667 = [54, 54, 54, 55] := by unfold zd dec; rw [dM]; decide +kernel
  unfold shS
  rw [if_neg (by decide), if_neg (by decide)]
  show shA 2 3 4 = _
  unfold shA
  rw [hM, hE, hN, dM, hz]
  decide +kernel
theorem aw4b : shS 12345 1 3 = ⟨#[49, 46, 50, 51, 69, 52]⟩ := by
  have d2 : dl 12345 = 5 := dlx 4 (by decide) (by decide)
  have d3 : dl 1 = 1 := dlx 0 (by decide) (by decide)
  have h0 : e0 12345 1 = 4 := by unfold e0; rw [d2, d3]; rfl
  have hT : sT 12345 1 = 12345 := by unfold sT; rw [h0]; rfl
  have hB0 : sB0 12345 1 = 10000 := by unfold sB0; rw [h0]; rfl
  have hB : sB 12345 1 = 100000 := by unfold sB; rw [hT, hB0]; rfl
  have hE : sE 12345 1 = 4 := by unfold sE; rw [hT, hB0, h0]; rfl
  have hN : shN 3 = 3 := rfl
  have hM : shM 12345 1 3 = 123 := by unfold shM; rw [hT, hB, hN]; decide +kernel
  have dM : dl 123 = 3 := dlx 2 (by decide) (by decide)
  have hz : zd 123 = [49, 50, 51] := by unfold zd dec; rw [dM]; decide +kernel
  have d4 : dl 4 = 1 := dlx 0 (by decide) (by decide)
  unfold shS
  rw [if_neg (by decide), if_neg (by decide)]
  show shA 12345 1 3 = _
  unfold shA
  rw [hM, hE, hN, dM, hz]
  unfold wrS
  rw [if_pos (by decide)]
  unfold digS
  rw [if_neg (by decide)]
  show _ ++ _ ++ str (dec 4) = _
  unfold dec
  rw [d4]
  decide +kernel
theorem aw4c : shS (-1) 8 10 = ⟨#[194, 175, 48, 46, 49, 50, 53]⟩ := by
  have d2 : dl 1 = 1 := dlx 0 (by decide) (by decide)
  have d3 : dl 8 = 1 := dlx 0 (by decide) (by decide)
  have h0 : e0 1 8 = 0 := by unfold e0; rw [d2, d3]; rfl
  have hT : sT 1 8 = 1 := by unfold sT; rw [h0]; rfl
  have hB0 : sB0 1 8 = 8 := by unfold sB0; rw [h0]; rfl
  have hB : sB 1 8 = 8 := by unfold sB; rw [hT, hB0]; rfl
  have hE : sE 1 8 = -1 := by unfold sE; rw [hT, hB0, h0]; rfl
  have hN : shN 10 = 10 := rfl
  have hM : shM 1 8 10 = 1250000000 := by unfold shM; rw [hT, hB, hN]; decide +kernel
  have dM : dl 1250000000 = 10 := dlx 9 (by decide) (by decide)
  have hz : zd 1250000000 = [49, 50, 53] := by unfold zd dec; rw [dM]; decide +kernel
  unfold shS
  rw [if_neg (by decide), if_pos (by decide)]
  show hi ++ shA 1 8 10 = _
  unfold shA
  rw [hM, hE, hN, dM, hz]
  decide +kernel

theorem of23 : ofP false ⟨#[50]⟩ ⟨#[51]⟩ = 2 ∧ ofQ false ⟨#[50]⟩ ⟨#[51]⟩ = 3 ∧ ofO false ⟨#[50]⟩ ⟨#[51]⟩ = true := by
  have h1 : ofP false ⟨#[50]⟩ ⟨#[51]⟩ = 2 := by decide +kernel
  have h2 : ofQ false ⟨#[50]⟩ ⟨#[51]⟩ = 3 := by decide +kernel
  refine ⟨h1, h2, ?_⟩
  unfold ofO
  rw [h1, h2]
  unfold rS dec
  rw [show dl (2 : Int).natAbs = 1 from dlx 0 (by decide) (by decide), show dl 3 = 1 from dlx 0 (by decide) (by decide)]
  decide +kernel
theorem of18 : ofP true ⟨#[49]⟩ ⟨#[56]⟩ = -1 ∧ ofQ true ⟨#[49]⟩ ⟨#[56]⟩ = 8 ∧ ofO true ⟨#[49]⟩ ⟨#[56]⟩ = true := by
  have h1 : ofP true ⟨#[49]⟩ ⟨#[56]⟩ = -1 := by decide +kernel
  have h2 : ofQ true ⟨#[49]⟩ ⟨#[56]⟩ = 8 := by decide +kernel
  refine ⟨h1, h2, ?_⟩
  unfold ofO
  rw [h1, h2]
  unfold rS dec
  rw [show dl (-1 : Int).natAbs = 1 from dlx 0 (by decide) (by decide), show dl 8 = 1 from dlx 0 (by decide) (by decide)]
  decide +kernel

set_option linter.unusedSimpArgs false in
set_option maxHeartbeats 3200000 in
set_option maxRecDepth 100000 in
theorem awake4_any (w : World) : Calls Tryz.prog 5 #[] w fun e w' => e = .returned (.bool true) ∧ Below w.heap.size w w' := by
  have O1 := Lib.hid (fun wz => of_any' false ⟨#[50]⟩ ⟨#[51]⟩ wz (by decide) (by decide))
  have O2 := Lib.hid (fun wz => of_any' true ⟨#[49]⟩ ⟨#[56]⟩ wz (by decide) (by decide))
  rw [of23.1, of23.2.1, of23.2.2, if_pos rfl, if_pos rfl] at O1
  rw [of18.1, of18.2.1, of18.2.2, if_pos rfl, if_pos rfl] at O2
  have lim : ∀ N : Nat, N < 100000 → N < 4294967296 ^ 200 := fun N h => Nat.lt_of_lt_of_le h (Nat.le_of_lt (ten_lt 5 200 (by omega) (by omega)))
  have S1 := Lib.hid (fun a n c m a2 n2 c2 wz h => deShow_any a n c m a2 n2 c2 2 3 4 wz h (by omega) 200 (by omega) (by omega) (lim _ (by decide)) (lim _ (by decide)) (Nat.le_trans (dl_le _ 1 (by decide) (by decide)) (by decide)) (Nat.le_trans (dl_le _ 1 (by decide) (by decide)) (by decide)) (by decide) (by decide))
  have S2 := Lib.hid (fun a n c m a2 n2 c2 wz h => deShow_any a n c m a2 n2 c2 12345 1 3 wz h (by omega) 200 (by omega) (by omega) (lim _ (by decide)) (lim _ (by decide)) (Nat.le_trans (dl_le _ 5 (by decide) (by decide)) (by decide)) (Nat.le_trans (dl_le _ 1 (by decide) (by decide)) (by decide)) (by decide) (by decide))
  have S3 := Lib.hid (fun a n c m a2 n2 c2 wz h => deShow_any a n c m a2 n2 c2 (-1) 8 10 wz h (by omega) 200 (by omega) (by omega) (lim _ (by decide)) (lim _ (by decide)) (Nat.le_trans (dl_le _ 1 (by decide) (by decide)) (by decide)) (Nat.le_trans (dl_le _ 1 (by decide) (by decide)) (by decide)) (by decide) (by decide))
  rw [aw4a] at S1
  rw [aw4b] at S2
  rw [aw4c] at S3
  have FR := Lib.hid (fun wz => ratFrom_any 12345 wz (by decide))
  unfold RatTold3 at O1 O2
  unfold RatTold at FR
  clear lim
  go_enter Tryz.func5, Tryz.ntmps5
  go_wp2_with fail
  go_at_call 14
  (with_reducible refine (O1.out _).mono ?_)
  rintro e w1 ⟨a, n, c, m, a2, n2, c2, rfl, hr1, hb1⟩
  have BB := Lib.hid ((((Bag.start w).go hb1).rat hr1).box3 (.slice a n c) (.bool m) (.slice a2 n2 c2) 30)
  clear hr1 hb1
  go_wp2_with fail
  go_at_call 14
  (with_reducible refine (O2.out _).mono ?_)
  rintro e w2 ⟨d, k, l, v, d2, k2, l2, rfl, hr2, hb2⟩
  have BB := Lib.hid (((BB.out.go hb2).rat hr2).box3 (.slice d k l) (.bool v) (.slice d2 k2 l2) 30)
  clear hr2 hb2
  have q0 := BB.out.now.2.2.1.cell
  have q1 := BB.out.now.2.2.1.cell1
  have q2 := BB.out.now.2.2.1.cell2
  go_wp2_with fail
  go_at_call 12
  refine (S1.out _ _ _ _ _ _ _ _ BB.out.now.2.2.2.1).mono ?_
  rintro e w3 ⟨rfl, hb3⟩
  have BB := Lib.hid (BB.out.go hb3)
  clear hb3 q0 q1 q2
  go_wp2_with fail
  go_at_call 15
  refine (FR.out _).mono ?_
  rintro e w4 ⟨a4, n4, c4, m4, a5, n5, c5, rfl, hr4, hb4⟩
  have BB := Lib.hid ((BB.out.go hb4).rat hr4)
  clear hb4 hr4
  go_wp2_with fail
  go_at_call 12
  refine (S2.out _ _ _ _ _ _ _ _ BB.out.now.1).mono ?_
  rintro e w5 ⟨rfl, hb5⟩
  have BB := Lib.hid (BB.out.go hb5)
  clear hb5
  have q0 := BB.out.now.2.1.cell
  have q1 := BB.out.now.2.1.cell1
  have q2 := BB.out.now.2.1.cell2
  go_wp2_with fail
  go_at_call 12
  refine (S3.out _ _ _ _ _ _ _ _ BB.out.now.2.2.1).mono ?_
  rintro e w6 ⟨rfl, hb6⟩
  have BB := Lib.hid (BB.out.go hb6)
  clear hb6 q0 q1 q2
  go_wp2
  go_ret
  exact ⟨rfl, BB.out.below⟩

end Go.Proofs.YtgpcfncolhmgfaaGreatDoor

