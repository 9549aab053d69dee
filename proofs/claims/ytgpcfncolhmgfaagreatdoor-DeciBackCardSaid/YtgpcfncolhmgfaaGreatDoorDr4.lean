/-
  The document's answer for layer 4: order, by contract.
-/
import Derived.Test.YtgpcfncolhmgfaaGreatDoorDr1
import Derived.Test.YtgpcfncolhmgfaaGreatDoorRf1
import Derived.Test.YtgpcfncolhmgfaaGreatDoorRr1
namespace Go.Proofs.YtgpcfncolhmgfaaGreatDoor
open Go.RowKit
attribute [local go_sem ↓] Go.wp_at_zero Go.wp_at_succ

theorem cmpZ_neg (Z Y : Int) : decide (cmpZ Z Y < 0) = decide (Z < Y) := by
  unfold cmpZ
  by_cases h : Z < Y
  · simp [h]
  · simp only [h, if_false, decide_false]
    refine decide_eq_false ?_
    split <;> omega
/-- Times ten: what is so much greater at most. -/
theorem tt_ten (A : Nat) {B : Nat} (hB : 0 < B) : ∃ A' : Nat, ttP (A : Int) B 1 = (A' : Int) ∧ A' ≤ A * 10 ∧ ttQ (A : Int) B 1 ≤ B ∧ 0 < ttQ (A : Int) B 1 ∧ A' * B = A * 10 * ttQ (A : Int) B 1 := by
  have hp := tt_pos (A : Int) hB 1
  have hc := tt_cross (A : Int) hB 1
  rw [show ((10 ^ (-1 : Int).toNat : Nat) : Int) = 1 from rfl, show ((10 ^ (1 : Int).toNat : Nat) : Int) = 10 from rfl, Int.mul_one] at hc
  have h1 : ttQ (A : Int) B 1 ≤ B := by
    unfold ttQ
    rw [if_pos (by decide)]
    refine Nat.le_trans (loQ_le _ _) (by omega)
  have h2 : (ttP (A : Int) B 1).natAbs ≤ A * 10 := by
    unfold ttP
    rw [if_pos (by decide)]
    refine Nat.le_trans (loP_absle _ _) ?_
    rw [Int.natAbs_mul, Int.natAbs_natCast, Int.natAbs_natCast]
    exact Nat.le_refl _
  generalize ttP (A : Int) B 1 = X at *
  generalize ttQ (A : Int) B 1 = Y at *
  have hX : 0 ≤ X := by
    by_cases h : 0 ≤ X
    · exact h
    · exfalso
      have a : X * (B : Int) < 0 := Int.mul_neg_of_neg_of_pos (by omega) (by omega)
      have b : 0 ≤ (A : Int) * 10 * (Y : Int) := Int.mul_nonneg (by omega) (by omega)
      omega
  obtain ⟨x, rfl⟩ : ∃ x : Nat, X = x := ⟨X.toNat, by omega⟩
  refine ⟨x, rfl, by omega, h1, hp, ?_⟩
  have : ((x * B : Nat) : Int) = ((A * 10 * Y : Nat) : Int) := by
    simp only [Int.natCast_mul]
    exact hc
  omega

/-- Within the loop: the number, times so many tens. -/
structure OrI (w wr : World) (P Q A B i : Nat) : Prop where
  below : Below w.heap.size w wr
  s1 : Slot3 wr w.heap.size (.bool false) (.string (str (dec A))) (.string (str (dec B)))
  same : A * Q = P * 10 ^ i * B
  pos : 0 < B
  low : B ≤ Q
  few : i = 0 ∧ A = P ∨ 0 < i ∧ P * 10 ^ (i - 1) < Q
  less : A < B * 10

set_option linter.unusedSimpArgs false in
set_option maxHeartbeats 6400000 in
set_option maxRecDepth 100000 in
theorem order4_any (P Q : Nat) (w : World) (hP : 0 < P) (hQ : 0 < Q) (h1 : dl P ≤ 60) (h2 : dl Q ≤ 60) :
    Calls Tryz.prog 35 #[.agg #[.bool false, .string (str (dec P)), .string (str (dec Q))]] w fun e w' => e = .returned (.int .i64 (sE P Q)) ∧ Below w.heap.size w w' := by
  have BB := Lib.hid ((Bag.start w).box3 (.bool false) (.string (str (dec P))) (.string (str (dec Q))) 34)
  have FL := Lib.hid (fun wz => r3Floor_any (P : Int) Q wz hQ (by rw [Int.natAbs_natCast]; omega) (by omega))
  rw [flQ_nat, rB_nat, rS_nat] at FL
  unfold RTold at FL
  rw [rB_nat, rS_nat] at FL
  have q0 := BB.out.now.1.cell
  have q1 := BB.out.now.1.cell1
  have q2 := BB.out.now.1.cell2
  by_cases h0 : P / Q = 0
  · have hPQ : P < Q := by
      rcases Nat.lt_or_ge P Q with h | h
      · exact h
      · have := Nat.div_pos h hQ; omega
    have hs0 : str (dec (P / Q)) = ⟨#[48]⟩ := by rw [h0, dec0]
    rw [hs0] at FL
    have HU := Lib.hid (fun e (h : isE P Q e) => isE_uniq h (sE_isE hP hQ))
    have hQ0 := hQ
    have HQl : Hid (Q < 10 ^ 60 ∧ P < Q ∧ 0 < P) := ⟨Nat.lt_of_lt_of_le (dl_lt Q) (Nat.pow_le_pow_right (by omega) h2), hPQ, hP⟩
    generalize sE P Q = E at *
    have FR := Lib.hid (fun wz => r3From_any 1 wz (by omega))
    unfold NumTold at FR
    rw [show rB 1 = false from rfl, show rS 1 = str (dec 1) from rfl, dec1] at FR
    clear h0 hs0 hPQ hP hQ h1 h2
    go_enter Tryz.func35, Tryz.ntmps35
    go_wp2_with fail
    go_at_call 71
    refine (FL.out _).mono ?_
    rintro x w2 ⟨rfl, hb2⟩
    have BB := Lib.hid ((BB.out.go hb2).box2 (.bool false) (.string ⟨#[48]⟩) 56)
    clear hb2 q0 q1 q2
    have r0 := BB.out.now.1.cell
    have r1 := BB.out.now.1.cell1
    have H0 : Hid (OrI w _ P Q P Q 0) := ⟨BB.out.below, BB.out.now.2.1, by rw [Nat.pow_zero, Nat.mul_one], hQ0, Nat.le_refl _, .inl ⟨rfl, rfl⟩, by have := HQl.out.2.1; omega⟩
    go_wp2_with fail
    go_loopw [4, 5] (fun e i wr => ∃ k A B : Nat, e = .int .i64 (-(k : Int)) ∧ i = .int .i64 (k : Int) ∧ OrI w wr P Q A B k) (fun _ i _ => 3000 - (intOf i).toNat)
    case atStart => exact ⟨0, P, Q, rfl, rfl, H0.out⟩
    case round =>
      obtain ⟨k, A, B, rfl, rfl, hr⟩ := hrel
      have hk : k ≤ 61 := by
        rcases hr.few with ⟨h, _⟩ | ⟨h, h'⟩
        · omega
        · have a1 : 1 * 10 ^ (k - 1) ≤ P * 10 ^ (k - 1) := Nat.mul_le_mul_right _ HQl.out.2.2
          have a2 : 10 ^ (k - 1) < 10 ^ 60 := by have := HQl.out.1; omega
          have := (Nat.pow_lt_pow_iff_right (a := 10) (by omega)).1 a2
          omega
      have hdB : dl B ≤ 60 := dl_le _ _ (by omega) (Nat.lt_of_le_of_lt hr.low HQl.out.1)
      have hdA : dl A ≤ 61 := by
        refine dl_le _ _ (by omega) ?_
        have h1 := hr.less
        have h2 := hr.low
        have h3 := HQl.out.1
        rw [Nat.pow_succ]; omega
      have d1 : decide ((k : Int) < 3000) = true := decide_eq_true (by omega)
      have CM := Lib.hid (fun wz => r3Cmp_any (A : Int) B 1 1 wz (by rw [Int.natAbs_natCast]; omega) (by omega) (by decide +kernel) (by decide +kernel))
      have hc := cmpZ_neg ((A : Int) * ((1 : Nat) : Int)) (1 * (B : Int))
      have hab : decide ((A : Int) * ((1 : Nat) : Int) < 1 * (B : Int)) = decide (A < B) := by
        apply decide_eq_decide.2
        rw [Int.one_mul]
        show (A : Int) * 1 < (B : Int) ↔ A < B
        omega
      rw [hab] at hc
      have hT := tt_ten A hr.pos
      have TT := Lib.hid (fun wz => times10_any (A : Int) B 1 wz hr.pos (by rw [Int.natAbs_natCast]; omega) (by omega) (by omega))
      obtain ⟨A', e1, e2, e3, e4, e5⟩ := hT
      unfold NumTold at TT
      rw [e1] at TT
      generalize ttQ (A : Int) B 1 = B' at *
      rw [rB_nat, rS_nat] at TT CM
      rw [rB_nat, rS_nat] at TT
      rw [show rB 1 = false from rfl, show rS 1 = str (dec 1) from rfl, dec1] at CM
      have HR := Lib.hid hr
      have BB := Lib.hid ((⟨hr.below, fun _ _ _ _ => trivial, trivial⟩ : Bag w (fun _ => True) wr).slot3 hr.s1)
      generalize hcz : cmpZ ((A : Int) * ((1 : Nat) : Int)) (1 * (B : Int)) = cz at *
      clear hr hab e1 hcz hdA hdB
      generalize str (dec A) = sA at *
      generalize str (dec B) = sB at *
      have u0 := BB.out.now.1.cell
      have u1 := BB.out.now.1.cell1
      have u2 := BB.out.now.1.cell2
      by_cases hlt : A < B
      · have hcd : decide (cz < 0) = true := hc.trans (decide_eq_true hlt)
        clear hc
        go_wp2_with fail
        have BB := Lib.hid BB.out.drew
        go_region_held3 (fun y => y.cell? ⟨w.heap.size, 0, none⟩ = some (.bool false) ∧ y.cell? ⟨w.heap.size, 1, none⟩ = some (.string sA) ∧ y.cell? ⟨w.heap.size, 2, none⟩ = some (.string sB))
          (exact ⟨BB.out.now.1.cell, BB.out.now.1.cell1, BB.out.now.1.cell2⟩)
          (first
            | (go_at_call 73; (with_reducible refine (FR.out _).mono ?_); rintro x w4 ⟨rfl, hb4⟩; have BB := Lib.hid (BB.out.go hb4))
            | (go_at_call 72; (with_reducible refine (CM.out _).mono ?_); rintro x w5 ⟨rfl, hb5⟩; have BB := Lib.hid (BB.out.go hb5)))
        have v0 := BB.out.now.1.cell
        have v1 := BB.out.now.1.cell1
        have v2 := BB.out.now.1.cell2
        clear u0 u1 u2
        go_wp2_with fail
        go_at_call 22
        refine (TT.out _).mono ?_
        rintro x w6 ⟨rfl, hb6⟩
        have BB := Lib.hid (BB.out.go hb6)
        clear hb6 v0 v1 v2
        have hs := BB.out.now.1
        have r0 := hs.cell
        have r1 := hs.cell1
        have r2 := hs.cell2
        have g0 := hs.free
        have g1 := hs.free1
        have g2 := hs.free2
        have HN : Hid (OrI w (((w6.setCell ⟨w.heap.size, 0, none⟩ (.bool false)).setCell ⟨w.heap.size, 1, none⟩ (.string (str (dec A')))).setCell ⟨w.heap.size, 2, none⟩ (.string (str (dec B')))) P Q A' B' (k + 1)) := by
          have hr := HR.out
          have hB := hr.pos
          refine ⟨((BB.out.below.setCell (p := ⟨w.heap.size, 0, none⟩) (Nat.le_refl _) _).setCell (p := ⟨w.heap.size, 1, none⟩) (Nat.le_refl _) _).setCell (p := ⟨w.heap.size, 2, none⟩) (Nat.le_refl _) _, hs.set3 _ _ _, ?_, e4, Nat.le_trans e3 hr.low, .inr ⟨by omega, ?_⟩, ?_⟩
          · refine Nat.eq_of_mul_eq_mul_right hB ?_
            have h1 := hr.same
            calc A' * Q * B = A' * B * Q := by grind
              _ = A * 10 * B' * Q := by rw [e5]
              _ = (A * Q) * 10 * B' := by grind
              _ = (P * 10 ^ k * B) * 10 * B' := by rw [h1]
              _ = P * (10 ^ k * 10) * B' * B := by grind
              _ = P * 10 ^ (k + 1) * B' * B := by rw [Nat.pow_succ]
          · rw [Nat.add_sub_cancel]
            have h1 := hr.same
            have h2 : A * Q < B * Q := Nat.mul_lt_mul_of_pos_right hlt (Nat.lt_of_lt_of_le hB hr.low)
            rw [h1, Nat.mul_comm B Q] at h2
            exact Nat.lt_of_mul_lt_mul_right h2
          · have h2 : A * (10 * B') < B * (10 * B') := Nat.mul_lt_mul_of_pos_right hlt (by omega)
            have h3 : A' * B < B' * 10 * B := by
              rw [e5]
              calc A * 10 * B' = A * (10 * B') := by grind
                _ < B * (10 * B') := h2
                _ = B' * 10 * B := by grind
            exact Nat.lt_of_mul_lt_mul_right h3
        have im : -(k : Int) - 1 = -((k + 1 : Nat) : Int) := by omega
        clear hs
        go_wp2
        go_roundw
        case rel => exact ⟨k + 1, A', B', by first | rfl | (rw [← im]) | go_num, by go_num, HN.out⟩
        case measure => simp [intOf]; omega
      · have hcd : decide (cz < 0) = false := hc.trans (decide_eq_false hlt)
        clear hc
        have hk0 : 0 < k ∧ P * 10 ^ (k - 1) < Q := by
          have hr := HR.out
          rcases hr.few with ⟨rfl, hA⟩ | h
          · exfalso
            have h1 := hr.same
            have h2 := HQl.out
            rw [Nat.pow_zero, Nat.mul_one, hA] at h1
            have h3 := Nat.eq_of_mul_eq_mul_left h2.2.2 h1
            omega
          · exact h
        obtain rfl : -(k : Int) = E := HU.out _ (isE_below HR.out.pos HR.out.same hk0.1 hk0.2 (by omega))
        go_wp2_with fail
        have BB := Lib.hid BB.out.drew
        go_region_held3 (fun y => y.cell? ⟨w.heap.size, 0, none⟩ = some (.bool false) ∧ y.cell? ⟨w.heap.size, 1, none⟩ = some (.string sA) ∧ y.cell? ⟨w.heap.size, 2, none⟩ = some (.string sB))
          (exact ⟨BB.out.now.1.cell, BB.out.now.1.cell1, BB.out.now.1.cell2⟩)
          (first
            | (go_at_call 73; (with_reducible refine (FR.out _).mono ?_); rintro x w4 ⟨rfl, hb4⟩; have BB := Lib.hid (BB.out.go hb4))
            | (go_at_call 72; (with_reducible refine (CM.out _).mono ?_); rintro x w5 ⟨rfl, hb5⟩; have BB := Lib.hid (BB.out.go hb5)))
        go_wp2
        go_ret
        exact ⟨rfl, BB.out.below⟩
  · have hi : isE P Q ((dl (P / Q) : Int) - 1) := isE_whole hQ (Nat.pos_of_ne_zero h0)
    rw [isE_uniq (sE_isE hP hQ) hi]
    have hsz := size_dlD (P / Q)
    have hd0 := dec_is0' (P / Q)
    rw [decide_eq_false h0] at hd0
    have hdp := dl_pos (P / Q)
    have hdl : dl (P / Q) ≤ 60 := by
      refine dl_le _ _ (by omega) (Nat.lt_of_le_of_lt (Nat.div_le_self _ _) (Nat.lt_of_lt_of_le (dl_lt P) (Nat.pow_le_pow_right (by omega) h1)))
    clear hi h0 hP hQ h1 h2
    generalize str (dec (P / Q)) = s at *
    generalize dl (P / Q) = d at *
    go_enter Tryz.func35, Tryz.ntmps35
    go_wp2_with fail
    go_at_call 71
    refine (FL.out _).mono ?_
    rintro x w2 ⟨rfl, hb2⟩
    have BB := Lib.hid ((BB.out.go hb2).box2 (.bool false) (.string s) 56)
    clear hb2 q0 q1 q2
    have r0 := BB.out.now.1.cell
    have r1 := BB.out.now.1.cell1
    go_wp2
    go_ret
    exact ⟨rfl, BB.out.below⟩

end Go.Proofs.YtgpcfncolhmgfaaGreatDoor
