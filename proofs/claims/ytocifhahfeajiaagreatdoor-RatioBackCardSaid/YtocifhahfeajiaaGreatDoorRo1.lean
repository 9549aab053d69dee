/-
  Which digits are a number: what ratio.Of answers, in the document's words.
-/
import Derived.Test.YtocifhahfeajiaaGreatDoorRat0
namespace Go.Proofs.YtocifhahfeajiaaGreatDoor
open Go.RowKit

theorem str_inj {l : List UInt8} {s : ByteArray} : str l = s ↔ l = s.data.toList := by
  constructor
  · intro h; rw [← h]; rfl
  · intro h; rw [h]; rfl
theorem lo_gcd1 {N M : Nat} (hM : 0 < M) (h : M / Nat.gcd N M = M) : Nat.gcd N M = 1 := by
  have hg : 0 < Nat.gcd N M := Nat.gcd_pos_of_pos_right _ hM
  rcases Nat.lt_or_ge 1 (Nat.gcd N M) with h1 | h1
  · have := Nat.div_lt_self hM h1; omega
  · omega

/-- A number's digits are in lowest terms and without a needless sign. -/
theorem of_right (b : Bool) (s t : ByteArray) (hM : 0 < numOf t.data.toList) :
    decide (rB (loP (sgn b (numOf s.data.toList)) (numOf t.data.toList)) = b ∧ rS (loP (sgn b (numOf s.data.toList)) (numOf t.data.toList)) = s ∧ str (dec (loQ (sgn b (numOf s.data.toList)) (numOf t.data.toList))) = t)
      = (decide (str (dec (numOf s.data.toList)) = s) && (decide (str (dec (numOf t.data.toList)) = t) && (decide (Nat.gcd (numOf s.data.toList) (numOf t.data.toList) = 1) && !(b && decide (numOf s.data.toList = 0))))) := by
  have ha : (sgn b (numOf s.data.toList)).natAbs = numOf s.data.toList := sgn_abs _ _
  have e1 : (loP (sgn b (numOf s.data.toList)) (numOf t.data.toList)).natAbs = numOf s.data.toList / Nat.gcd (numOf s.data.toList) (numOf t.data.toList) := by rw [loP_abs]; unfold rg; rw [ha]
  have e2 : loQ (sgn b (numOf s.data.toList)) (numOf t.data.toList) = numOf t.data.toList / Nat.gcd (numOf s.data.toList) (numOf t.data.toList) := by unfold loQ rg; rw [ha]
  have e3 : rB (loP (sgn b (numOf s.data.toList)) (numOf t.data.toList)) = (b && !decide (numOf s.data.toList = 0)) := by
    unfold rB; rw [loP_neg]; exact sgn_neg _ _
  rw [e2, e3]
  unfold rS
  rw [e1]
  rw [Bool.eq_iff_iff, decide_eq_true_eq, Bool.and_eq_true, Bool.and_eq_true, Bool.and_eq_true, decide_eq_true_eq, decide_eq_true_eq, decide_eq_true_eq]
  constructor
  · rintro ⟨h1, h2, h3⟩
    have n1 : numOf s.data.toList / Nat.gcd (numOf s.data.toList) (numOf t.data.toList) = numOf s.data.toList := by
      have := congrArg numOf (str_inj.1 h2); rw [numOf_dec] at this; exact this
    have n2 : numOf t.data.toList / Nat.gcd (numOf s.data.toList) (numOf t.data.toList) = numOf t.data.toList := by
      have := congrArg numOf (str_inj.1 h3); rw [numOf_dec] at this; exact this
    rw [n1] at h2
    rw [n2] at h3
    refine ⟨h2, h3, lo_gcd1 hM n2, ?_⟩
    cases b
    · rfl
    · simpa using h1
  · rintro ⟨h1, h2, h3, h4⟩
    rw [h3, Nat.div_one, Nat.div_one]
    refine ⟨?_, h1, h2⟩
    cases b
    · rfl
    · simpa using h4

end Go.Proofs.YtocifhahfeajiaaGreatDoor
