/-
  Fractions in lowest terms: the arithmetic.
-/
import Derived.Test.YtocifhahfeajiaaGreatDoorK8
namespace Go.Proofs.YtocifhahfeajiaaGreatDoor
open Go.RowKit

/-- The numerator and the denominator in lowest terms. -/
def rg (P : Int) (Q : Nat) : Nat := Nat.gcd P.natAbs Q
def loP (P : Int) (Q : Nat) : Int := sgn (decide (P < 0)) (P.natAbs / rg P Q)
def loQ (P : Int) (Q : Nat) : Nat := Q / rg P Q

theorem rg_pos (P : Int) {Q : Nat} (h : 0 < Q) : 0 < rg P Q := Nat.gcd_pos_of_pos_right _ h
theorem loP_abs (P : Int) (Q : Nat) : (loP P Q).natAbs = P.natAbs / rg P Q := sgn_abs _ _
theorem loP_absle (P : Int) (Q : Nat) : (loP P Q).natAbs ≤ P.natAbs := by rw [loP_abs]; exact Nat.div_le_self _ _
theorem loQ_le (P : Int) (Q : Nat) : loQ P Q ≤ Q := Nat.div_le_self _ _
theorem loQ_pos (P : Int) {Q : Nat} (h : 0 < Q) : 0 < loQ P Q :=
  Nat.div_pos (Nat.le_of_dvd h (Nat.gcd_dvd_right _ _)) (rg_pos P h)
theorem loQ_mul (P : Int) (Q : Nat) : rg P Q * loQ P Q = Q := Nat.mul_div_cancel' (Nat.gcd_dvd_right _ _)
theorem loP_mulA (P : Int) (Q : Nat) : rg P Q * (loP P Q).natAbs = P.natAbs := by rw [loP_abs]; exact Nat.mul_div_cancel' (Nat.gcd_dvd_left _ _)
theorem sgn_times (b : Bool) (N M : Nat) : sgn b (N * M) = N * sgn b M := by
  cases b <;> simp [sgn, Int.mul_neg]
theorem loP_mul (P : Int) (Q : Nat) : (rg P Q : Int) * loP P Q = P := by
  unfold loP
  rw [← sgn_times, show rg P Q * (P.natAbs / rg P Q) = P.natAbs from Nat.mul_div_cancel' (Nat.gcd_dvd_left _ _), sgn_self]
theorem loP_zero {P : Int} {Q : Nat} : loP P Q = 0 ↔ P = 0 := by
  constructor
  · intro h1
    have := loP_mul P Q
    rw [h1] at this; omega
  · intro h1
    have := loP_absle P Q
    rw [h1] at this ⊢
    omega
theorem loP_neg {P : Int} {Q : Nat} : decide (loP P Q < 0) = decide (P < 0) := by
  have h1 : (P.natAbs / rg P Q = 0) ↔ P = 0 := by
    rw [← loP_abs]
    have := loP_zero (P := P) (Q := Q)
    constructor
    · intro h2; exact this.1 (by omega)
    · intro h2; rw [this.2 h2]; rfl
  unfold loP
  rw [sgn_neg]
  by_cases h2 : P < 0
  · rw [decide_eq_true h2, decide_eq_false (fun h3 => by have := h1.1 h3; omega)]; rfl
  · rw [decide_eq_false h2]; rfl
theorem lo_cop (P : Int) {Q : Nat} (h : 0 < Q) : Nat.gcd (loP P Q).natAbs (loQ P Q) = 1 := by
  rw [loP_abs]
  exact Nat.Coprime.gcd_eq_one (Nat.coprime_div_gcd_div_gcd (rg_pos P h))
theorem lo_one {P : Int} {Q : Nat} (h : Nat.gcd P.natAbs Q = 1) : loP P Q = P ∧ loQ P Q = Q := by
  have h1 : rg P Q = 1 := h
  unfold loP loQ
  rw [h1, Nat.div_one, Nat.div_one, sgn_self]
  exact ⟨rfl, rfl⟩
theorem lo_cross (P : Int) (Q : Nat) : loP P Q * Q = P * loQ P Q := by
  have h1 := loP_mul P Q
  have h2 : ((rg P Q : Int) * (loQ P Q : Int)) = Q := by rw [← Int.natCast_mul, loQ_mul]
  calc loP P Q * Q = loP P Q * (rg P Q * loQ P Q) := by rw [h2]
    _ = (rg P Q * loP P Q) * loQ P Q := by rw [← Int.mul_assoc, Int.mul_comm (loP P Q)]
    _ = P * loQ P Q := by rw [h1]

/-- Two fractions in lowest terms that are the same number are the same. -/
theorem lo_uniq {P P' : Int} {Q Q' : Nat} (h : 0 < Q) (h' : 0 < Q') (c : Nat.gcd P.natAbs Q = 1) (c' : Nat.gcd P'.natAbs Q' = 1) (e : P * Q' = P' * Q) : P = P' ∧ Q = Q' := by
  have e1 : P.natAbs * Q' = P'.natAbs * Q := by
    have := congrArg Int.natAbs e
    rw [Int.natAbs_mul, Int.natAbs_mul, Int.natAbs_natCast, Int.natAbs_natCast] at this
    exact this
  have d1 : Q ∣ Q' := by
    have : Q ∣ P.natAbs * Q' := ⟨P'.natAbs, by rw [e1, Nat.mul_comm]⟩
    exact Nat.Coprime.dvd_of_dvd_mul_left (show Nat.Coprime Q P.natAbs by unfold Nat.Coprime; rw [Nat.gcd_comm]; exact c) this
  have d2 : Q' ∣ Q := by
    have : Q' ∣ P'.natAbs * Q := ⟨P.natAbs, by rw [← e1, Nat.mul_comm]⟩
    exact Nat.Coprime.dvd_of_dvd_mul_left (show Nat.Coprime Q' P'.natAbs by unfold Nat.Coprime; rw [Nat.gcd_comm]; exact c') this
  have hq : Q = Q' := Nat.dvd_antisymm d1 d2
  subst hq
  exact ⟨Int.eq_of_mul_eq_mul_right (by omega) e, rfl⟩
theorem lo_same {P P' : Int} {Q Q' : Nat} (h : 0 < Q) (h' : 0 < Q') (e : P * Q' = P' * Q) : loP P Q = loP P' Q' ∧ loQ P Q = loQ P' Q' := by
  refine lo_uniq (loQ_pos P h) (loQ_pos P' h') (lo_cop P h) (lo_cop P' h') ?_
  have a1 := loP_mul P Q
  have a2 := loP_mul P' Q'
  have b1 : ((rg P Q : Int) * (loQ P Q : Int)) = Q := by rw [← Int.natCast_mul, loQ_mul]
  have b2 : ((rg P' Q' : Int) * (loQ P' Q' : Int)) = Q' := by rw [← Int.natCast_mul, loQ_mul]
  have g1 : (0 : Int) < rg P Q := by have := rg_pos P h; omega
  have g2 : (0 : Int) < rg P' Q' := by have := rg_pos P' h'; omega
  refine Int.eq_of_mul_eq_mul_left (a := (rg P Q : Int) * (rg P' Q' : Int)) (Int.ne_of_gt (Int.mul_pos g1 g2)) ?_
  calc (rg P Q : Int) * rg P' Q' * (loP P Q * loQ P' Q') = (rg P Q * loP P Q) * (rg P' Q' * loQ P' Q') := by
        rw [Int.mul_assoc, Int.mul_assoc, ← Int.mul_assoc (rg P' Q' : Int), Int.mul_comm (rg P' Q' : Int) (loP P Q), Int.mul_assoc]
    _ = P * Q' := by rw [a1, b2]
    _ = P' * Q := e
    _ = (rg P' Q' * loP P' Q') * (rg P Q * loQ P Q) := by rw [a2, b1]
    _ = (rg P Q : Int) * rg P' Q' * (loP P' Q' * loQ P Q) := by
        rw [Int.mul_comm (rg P Q : Int) (rg P' Q' : Int), Int.mul_assoc, Int.mul_assoc, ← Int.mul_assoc (rg P Q : Int), Int.mul_comm (rg P Q : Int) (loP P' Q'), Int.mul_assoc]

/-- The sign of the denominator goes up. -/
def upZ (P Y : Int) : Int := if Y < 0 then -P else P
theorem upZ_abs (P Y : Int) : (upZ P Y).natAbs = P.natAbs := by unfold upZ; split <;> omega
theorem upZ_sgn (P Y : Int) : decide (upZ P Y < 0) = ((decide (P < 0) != decide (Y < 0)) && !decide (P = 0)) := by
  unfold upZ
  by_cases h : Y < 0
  · rw [if_pos h, decide_eq_true h]
    by_cases h1 : P < 0
    · rw [decide_eq_true h1, decide_eq_false (by omega)]; rfl
    · rw [decide_eq_false h1]
      by_cases h2 : P = 0
      · rw [decide_eq_false (by omega), decide_eq_true h2]; rfl
      · rw [decide_eq_true (by omega), decide_eq_false h2]; rfl
  · rw [if_neg h, decide_eq_false h]
    by_cases h1 : P < 0
    · rw [decide_eq_true h1, decide_eq_false (by omega)]; rfl
    · rw [decide_eq_false h1]; rfl

end Go.Proofs.YtocifhahfeajiaaGreatDoor
