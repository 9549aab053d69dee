/-
  Powers of numbers, by plain arithmetic: what Pow answers, in the document's words.
-/
import Derived.Test.YtipfhbfjbbiglaaGreatDoorRa13
import Derived.Test.YtipfhbfjbbiglaaGreatDoorRr2
import Derived.Test.YtipfhbfjbbiglaaGreatDoorRr3
import Derived.Test.YtipfhbfjbbiglaaGreatDoorRat0
namespace Go.Proofs.YtipfhbfjbbiglaaGreatDoor
open Go.RowKit

/-- Is the power's number odd? As the document reckons it. -/
def odd2 (N : Int) : Bool := !(N.tmod 2 == 0)
theorem odd2_pos {N : Int} (h : 0 ≤ N) : odd2 N = decide (N % 2 = 1) := by
  unfold odd2
  rw [Int.tmod_eq_emod_of_nonneg h, Bool.eq_iff_iff, decide_eq_true_eq, Bool.not_eq_true', beq_eq_false_iff_ne]
  omega
theorem odd2_neg {N : Int} (h : N < 0) : odd2 N = decide ((-N) % 2 = 1) := by
  unfold odd2
  have e : N.tmod 2 = -((-N).tmod 2) := by rw [Int.neg_tmod, Int.neg_neg]
  rw [e, Int.tmod_eq_emod_of_nonneg (by omega), Bool.eq_iff_iff, decide_eq_true_eq, Bool.not_eq_true', beq_eq_false_iff_ne]
  omega

theorem powN_one (n most : Int) : powN 1 n most = (1, true) := by unfold powN; rw [if_pos (.inr rfl)]
theorem powN_nought {n : Int} (h : 0 < n) (most : Int) : powN 0 n most = (0, true) := by unfold powN; rw [if_neg (by omega), if_pos rfl]
theorem powN_none {X : Nat} {n : Int} (h : n ≤ 0) (most : Int) : powN X n most = (1, true) := by unfold powN; rw [if_pos (.inl h)]
theorem powN_huge {X : Nat} {n most : Int} (hX : 2 ≤ X) (hn : 400 ≤ n) (hm : most ≤ 12) : powN X n most = (0, false) := by
  obtain ⟨k, hk⟩ : ∃ k : Nat, k = 400 := ⟨_, rfl⟩
  refine powN_long (k := k) hX (by omega) (by omega) ?_
  obtain ⟨m0, hm0⟩ : ∃ m : Nat, m = 12 := ⟨_, rfl⟩
  have h1 : ¬ lb (X ^ k) ≤ m0 := by
    rw [lb_le]
    have h2 : 2 ^ k ≤ X ^ k := Nat.pow_le_pow_left hX k
    have h3 : 2 ^ (32 * m0) ≤ 2 ^ k := Nat.pow_le_pow_right (by omega) (by omega)
    omega
  omega

/-- What a power of a number answers, told by its parts. -/
theorem ra_told (P : Int) (Q : Nat) (n most : Int) : raO P Q n most = ((powN P.natAbs n most).2 && (powN Q n most).2) ∧
    (raO P Q n most = true → rB (raP P Q n most) = (rB P && decide (n % 2 = 1)) ∧ rS (raP P Q n most) = str (dec (powN P.natAbs n most).1) ∧ raQ P Q n most = (powN Q n most).1) ∧ (raO P Q n most = false → raP P Q n most = 0 ∧ raQ P Q n most = 1) := by
  refine ⟨rfl, fun h => ?_, fun h => ?_⟩
  · unfold raP raQ
    rw [if_pos h, if_pos h, rsgn_B, rsgn_S]
    refine ⟨?_, rfl, rfl⟩
    have ho := h
    unfold raO at ho
    rw [Bool.and_eq_true] at ho
    unfold raS rB
    by_cases hP : P < 0
    · have := powN_pos (X := P.natAbs) (by omega) n most ho.1
      rw [decide_eq_false (show ¬ (powN P.natAbs n most).1 = 0 by omega)]
      simp
    · rw [decide_eq_false hP]; simp
  · unfold raP raQ
    rw [h]
    exact ⟨rfl, rfl⟩

theorem abs1 {P : Int} (h : (decide (P.natAbs = 0) || decide (P.natAbs = 1)) = true) : P = 0 ∨ P = 1 ∨ P = -1 := by
  rw [Bool.or_eq_true, decide_eq_true_eq, decide_eq_true_eq] at h; omega

/-- -1, 0 or 1 to any power. -/
theorem po_lim {P N most : Int} (hN : N ≠ 0) (hP : (decide (P.natAbs = 0) || decide (P.natAbs = 1)) = true) (h : ¬ (P = 0 ∧ N < 0)) :
    poO P 1 N most = true ∧ poQ P 1 N most = 1 ∧ rB (poP P 1 N most) = (rB P && odd2 N) ∧ rS (poP P 1 N most) = rS P := by
  have hp := abs1 hP
  have hab : P.natAbs = 0 ∨ P.natAbs = 1 := by omega
  by_cases hn : 0 ≤ N
  · have hx : powN P.natAbs N most = (P.natAbs, true) := by
      rcases hab with e | e
      · rw [e]; exact powN_nought (by omega) most
      · rw [e]; exact powN_one N most
    have ho : raO P 1 N most = true := by unfold raO; rw [hx, powN_one]; rfl
    obtain ⟨_, h2, _⟩ := ra_told P 1 N most
    obtain ⟨h3, h4, h5⟩ := h2 ho
    unfold poO poP poQ
    rw [if_pos hn, if_pos hn, if_pos hn, ho, h3, h4, h5, hx, powN_one, odd2_pos hn]
    exact ⟨rfl, rfl, rfl, rfl⟩
  · have hP0 : P ≠ 0 := fun e => h ⟨e, by omega⟩
    have h1 : P = 1 ∨ P = -1 := by omega
    have hin : inP P 1 = P ∧ inQ P 1 = 1 := by rcases h1 with rfl | rfl <;> decide +kernel
    have hsq : sqP P 1 = 1 ∧ sqQ P 1 = 1 := by rcases h1 with rfl | rfl <;> decide +kernel
    unfold poO poP poQ
    rw [if_neg hn, if_neg hn, if_neg hn, if_neg hP0, if_neg hP0, if_neg hP0, hin.1, hin.2, hsq.1, hsq.2]
    have hone : ∀ (Z n : Int), Z.natAbs = 1 → raO Z 1 n most = true ∧ rB (raP Z 1 n most) = (rB Z && decide (n % 2 = 1)) ∧ rS (raP Z 1 n most) = str (dec 1) ∧ raQ Z 1 n most = 1 := by
      intro Z n hZ
      have ho : raO Z 1 n most = true := by unfold raO; rw [hZ, powN_one]; rfl
      obtain ⟨h3, h4, h5⟩ := (ra_told Z 1 n most).2.1 ho
      rw [hZ, powN_one] at h4
      rw [powN_one] at h5
      exact ⟨ho, h3, h4, h5⟩
    have hrs : rS P = str (dec 1) := by unfold rS; rw [show P.natAbs = 1 by omega]
    by_cases hm : N = -9223372036854775808
    · rw [if_pos hm, if_pos hm, if_pos hm]
      obtain ⟨i1, i2, i3, i4⟩ := hone 1 4611686018427387904 rfl
      rw [i1, i2, i3, i4, hrs, odd2_neg (by omega), hm]
      exact ⟨rfl, rfl, by simp [rB], rfl⟩
    · rw [if_neg hm, if_neg hm, if_neg hm]
      obtain ⟨i1, i2, i3, i4⟩ := hone P (-N) (by omega)
      rw [i1, i2, i3, i4, hrs, odd2_neg (by omega)]
      exact ⟨rfl, rfl, rfl, rfl⟩

/-- The number of the power of 1 by a number, as the document has it. -/
def upN (N : Int) : Int := if N < -9223372036854775807 then 9223372036854775807 else -N
theorem in_abs {P : Int} {Q : Nat} (hc : Nat.gcd P.natAbs Q = 1) : (inP P Q).natAbs = Q ∧ inQ P Q = P.natAbs := by
  have h := nw_abs (1 * (Q : Int)) (P * ((1 : Nat) : Int))
  rw [show ((1 : Nat) : Int) = 1 from rfl, Int.mul_one, Int.one_mul, Int.natAbs_natCast, Nat.gcd_comm, hc, Nat.div_one, Nat.div_one] at h
  unfold inP inQ
  rw [show ((1 : Nat) : Int) = 1 from rfl, Int.mul_one, Int.one_mul]
  exact h
theorem sq_abs {P : Int} {Q : Nat} (hc : Nat.gcd P.natAbs Q = 1) : (sqP P Q).natAbs = P.natAbs * P.natAbs ∧ sqQ P Q = Q * Q := by
  have h : Nat.gcd (P * P).natAbs (Q * Q) = 1 := by
    rw [Int.natAbs_mul]
    exact Nat.Coprime.mul_left (Nat.Coprime.mul_right hc hc) (Nat.Coprime.mul_right hc hc)
  have := lo_one h
  unfold sqP sqQ tmP tmQ
  rw [this.1, this.2, Int.natAbs_mul]
  exact ⟨rfl, rfl⟩

/-- A power to less than nothing. -/
theorem po_neg {P : Int} {Q : Nat} {N most : Int} (hQ : 0 < Q) (hc : Nat.gcd P.natAbs Q = 1) (hN : N < 0) (hN0 : -9223372036854775808 ≤ N) (hP : P ≠ 0) (hm : most ≤ 12) (hl : (decide (Q = 1) && (decide (P.natAbs = 0) || decide (P.natAbs = 1))) = false) :
    poO P Q N most = ((powN (inP P Q).natAbs (upN N) most).2 && (powN (inQ P Q) (upN N) most).2) ∧
    (poO P Q N most = true → rB (poP P Q N most) = (rB (inP P Q) && odd2 N) ∧ rS (poP P Q N most) = str (dec (powN (inP P Q).natAbs (upN N) most).1) ∧ poQ P Q N most = (powN (inQ P Q) (upN N) most).1) ∧ (poO P Q N most = false → poP P Q N most = 0 ∧ poQ P Q N most = 1) := by
  have hn : ¬ 0 ≤ N := by omega
  unfold poO poP poQ
  rw [if_neg hn, if_neg hn, if_neg hn, if_neg hP, if_neg hP, if_neg hP]
  by_cases hmn : N = -9223372036854775808
  · rw [if_pos hmn, if_pos hmn, if_pos hmn]
    obtain ⟨e1, e2⟩ := in_abs hc
    have hc2 : Nat.gcd (inP P Q).natAbs (inQ P Q) = 1 := by rw [e1, e2, Nat.gcd_comm]; exact hc
    obtain ⟨e3, e4⟩ := sq_abs hc2
    have hu : upN N = 9223372036854775807 := by unfold upN; rw [if_pos (by omega)]
    have hbig : 2 ≤ Q ∨ 2 ≤ P.natAbs := by
      rcases Nat.lt_or_ge Q 2 with h1 | h1
      · right
        have : Q = 1 := by omega
        rw [decide_eq_true this, Bool.true_and, Bool.or_eq_false_iff, decide_eq_false_iff_not, decide_eq_false_iff_not] at hl
        omega
      · exact .inl h1
    have hno : raO (sqP (inP P Q) (inQ P Q)) (sqQ (inP P Q) (inQ P Q)) 4611686018427387904 most = false := by
      unfold raO
      rw [e3, e4, e1, e2]
      rcases hbig with h | h
      · rw [powN_huge (X := Q * Q) (Nat.le_trans h (Nat.le_mul_of_pos_left Q (by omega))) (by omega) hm]; rfl
      · rw [powN_huge (X := P.natAbs * P.natAbs) (Nat.le_trans h (Nat.le_mul_of_pos_left P.natAbs (by omega))) (by omega) hm]; simp
    have hno2 : ((powN (inP P Q).natAbs (upN N) most).2 && (powN (inQ P Q) (upN N) most).2) = false := by
      rw [e1, e2, hu]
      rcases hbig with h | h
      · rw [powN_huge (X := Q) h (by omega) hm]; rfl
      · rw [powN_huge (X := P.natAbs) h (by omega) hm]; simp
    obtain ⟨_, _, h3⟩ := ra_told (sqP (inP P Q) (inQ P Q)) (sqQ (inP P Q) (inQ P Q)) 4611686018427387904 most
    rw [hno2, hno]
    exact ⟨rfl, (fun h => by cases h), fun _ => h3 hno⟩
  · rw [if_neg hmn, if_neg hmn, if_neg hmn]
    have hu : upN N = -N := by unfold upN; rw [if_neg (by omega)]
    rw [hu, odd2_neg hN]
    exact ra_told (inP P Q) (inQ P Q) (-N) most

end Go.Proofs.YtipfhbfjbbiglaaGreatDoor
