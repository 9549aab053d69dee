/-
  The arithmetic of RatioBack: what is added and taken away again, a product by a factor, sums multiplied term by term.
-/
import Derived.Test.YthklcdcikmninaaGreatDoorLa2
namespace Go.Proofs.YthklcdcikmninaaGreatDoor
open Go

theorem pl_cross (P : Int) (Q : Nat) (P' : Int) (Q' : Nat) : plP P Q P' Q' * ((Q : Int) * (Q' : Int)) = (P * (Q' : Int) + P' * (Q : Int)) * (plQ P Q P' Q' : Int) := by
  have h := lo_cross (P * (Q' : Int) + P' * (Q : Int)) (Q * Q')
  rw [Int.natCast_mul] at h
  exact h
theorem tm_cross (P : Int) (Q : Nat) (P' : Int) (Q' : Nat) : tmP P Q P' Q' * ((Q : Int) * (Q' : Int)) = (P * P') * (tmQ P Q P' Q' : Int) := by
  have h := lo_cross (P * P') (Q * Q')
  rw [Int.natCast_mul] at h
  exact h
theorem pl_pos (P : Int) {Q : Nat} (P' : Int) {Q' : Nat} (h : 0 < Q) (g : 0 < Q') : 0 < plQ P Q P' Q' := loQ_pos _ (Nat.mul_pos h g)

theorem sum_back {P : Int} {Q : Nat} {P' : Int} {Q' : Nat} (hQ : 0 < Q) (hQ' : 0 < Q') :
    plP (plP P Q P' Q') (plQ P Q P' Q') (-P') Q' * (Q : Int) = P * (plQ (plP P Q P' Q') (plQ P Q P' Q') (-P') Q' : Int) := by
  have h1 := pl_cross P Q P' Q'
  have h2 := pl_cross (plP P Q P' Q') (plQ P Q P' Q') (-P') Q'
  have hp := pl_pos P P' hQ hQ'
  generalize plP (plP P Q P' Q') (plQ P Q P' Q') (-P') Q' = S1 at *
  generalize plQ (plP P Q P' Q') (plQ P Q P' Q') (-P') Q' = S2 at *
  generalize plP P Q P' Q' = U at *
  generalize plQ P Q P' Q' = V at *
  have h3 : ((V : Int) * (Q' : Int)) ≠ 0 := Int.mul_ne_zero (by omega) (by omega)
  apply Int.eq_of_mul_eq_mul_right h3
  grind

theorem dist_same {P : Int} {Q : Nat} {P' : Int} {Q' : Nat} {F : Int} {G : Nat} (hQ : 0 < Q) (hQ' : 0 < Q') (hG : 0 < G) :
    tmP (plP P Q P' Q') (plQ P Q P' Q') F G * (plQ (tmP P Q F G) (tmQ P Q F G) (tmP P' Q' F G) (tmQ P' Q' F G) : Int) = plP (tmP P Q F G) (tmQ P Q F G) (tmP P' Q' F G) (tmQ P' Q' F G) * (tmQ (plP P Q P' Q') (plQ P Q P' Q') F G : Int) := by
  have h1 := pl_cross P Q P' Q'
  have h2 := tm_cross (plP P Q P' Q') (plQ P Q P' Q') F G
  have h3 := tm_cross P Q F G
  have h4 := tm_cross P' Q' F G
  have h5 := pl_cross (tmP P Q F G) (tmQ P Q F G) (tmP P' Q' F G) (tmQ P' Q' F G)
  have p1 := pl_pos P P' hQ hQ'
  have p2 := tmQ_pos P F hQ hG
  have p3 := tmQ_pos P' F hQ' hG
  generalize plP (tmP P Q F G) (tmQ P Q F G) (tmP P' Q' F G) (tmQ P' Q' F G) = R1 at *
  generalize plQ (tmP P Q F G) (tmQ P Q F G) (tmP P' Q' F G) (tmQ P' Q' F G) = R2 at *
  generalize tmP (plP P Q P' Q') (plQ P Q P' Q') F G = L1 at *
  generalize tmQ (plP P Q P' Q') (plQ P Q P' Q') F G = L2 at *
  generalize plP P Q P' Q' = U1 at *
  generalize plQ P Q P' Q' = U2 at *
  generalize tmP P Q F G = A1 at *
  generalize tmQ P Q F G = A2 at *
  generalize tmP P' Q' F G = B1 at *
  generalize tmQ P' Q' F G = B2 at *
  have q1 : (U2 : Int) ≠ 0 := by omega
  have q2 : ((A2 : Int) * (B2 : Int) * (G : Int)) ≠ 0 := Int.mul_ne_zero (Int.mul_ne_zero (by omega) (by omega)) (by omega)
  have q3 : ((Q : Int) * (Q' : Int) * (G : Int)) ≠ 0 := Int.mul_ne_zero (Int.mul_ne_zero (by omega) (by omega)) (by omega)
  have e1 : L1 * ((Q : Int) * (Q' : Int) * (G : Int)) = (P * (Q' : Int) + P' * (Q : Int)) * F * (L2 : Int) := by
    apply Int.eq_of_mul_eq_mul_right q1
    grind
  have e2 : R1 * ((Q : Int) * (Q' : Int) * (G : Int)) = (P * (Q' : Int) + P' * (Q : Int)) * F * (R2 : Int) := by
    apply Int.eq_of_mul_eq_mul_right q2
    grind
  apply Int.eq_of_mul_eq_mul_right q3
  grind

theorem by_back {P : Int} {Q : Nat} {P' : Int} {Q' : Nat} (hQ : 0 < Q) (hQ' : 0 < Q') (hc : Nat.gcd P.natAbs Q = 1) (hP' : P' ≠ 0) :
    dvP (tmP P Q P' Q') (tmQ P Q P' Q') P' Q' = P ∧ dvQ (tmP P Q P' Q') (tmQ P Q P' Q') P' Q' = Q := by
  unfold dvP dvQ
  rw [if_neg hP', if_neg hP']
  have h1 := tm_cross P Q P' Q'
  have p1 := tmQ_pos P P' hQ hQ'
  generalize tmP P Q P' Q' = T1 at *
  generalize tmQ P Q P' Q' = T2 at *
  have hY : P' * (T2 : Int) ≠ 0 := Int.mul_ne_zero hP' (by omega)
  unfold nwP nwQ
  have hY2 : 0 < (P' * (T2 : Int)).natAbs := by omega
  refine lo_uniq (loQ_pos _ hY2) hQ (lo_cop _ hY2) hc ?_
  have h2 := lo_cross (upZ (T1 * (Q' : Int)) (P' * (T2 : Int))) (P' * (T2 : Int)).natAbs
  have h3 : upZ (T1 * (Q' : Int)) (P' * (T2 : Int)) * (Q : Int) = P * ((P' * (T2 : Int)).natAbs : Int) := by
    unfold upZ
    split
    · rw [show ((P' * (T2 : Int)).natAbs : Int) = -(P' * (T2 : Int)) by omega]; grind
    · rw [show ((P' * (T2 : Int)).natAbs : Int) = P' * (T2 : Int) by omega]; grind
  have hn : ((P' * (T2 : Int)).natAbs : Int) ≠ 0 := by omega
  generalize ((P' * (T2 : Int)).natAbs) = M at *
  generalize upZ (T1 * (Q' : Int)) (P' * (T2 : Int)) = U at *
  apply Int.eq_of_mul_eq_mul_right hn
  grind

theorem pl_lim {P : Int} {Q : Nat} {P' : Int} {Q' : Nat} {K : Nat} (h1 : P.natAbs < 4294967296 ^ K) (h2 : Q < 4294967296 ^ K) (h3 : P'.natAbs < 4294967296 ^ K) (h4 : Q' < 4294967296 ^ K) :
    (plP P Q P' Q').natAbs < 4294967296 ^ (K + K + 1) ∧ plQ P Q P' Q' < 4294967296 ^ (K + K + 1) := by
  have m1 := mulZ_lt32 h1 h4
  have m2 := mulZ_lt32 h3 h2
  have m3 := mul_lt32 h2 h4
  have p : (4294967296 : Nat) ^ (K + K + 1) = 4294967296 ^ (K + K) * 4294967296 := Nat.pow_succ _ _
  have m4 := Int.natAbs_add_le (P * (Q' : Int)) (P' * (Q : Int))
  exact ⟨Nat.lt_of_le_of_lt (loP_absle _ _) (by omega), Nat.lt_of_le_of_lt (loQ_le _ _) (by omega)⟩
theorem tm_lim {P : Int} {Q : Nat} {P' : Int} {Q' : Nat} {K : Nat} (h1 : P.natAbs < 4294967296 ^ K) (h2 : Q < 4294967296 ^ K) (h3 : P'.natAbs < 4294967296 ^ K) (h4 : Q' < 4294967296 ^ K) :
    (tmP P Q P' Q').natAbs < 4294967296 ^ (K + K) ∧ tmQ P Q P' Q' < 4294967296 ^ (K + K) :=
  ⟨Nat.lt_of_le_of_lt (loP_absle _ _) (by rw [Int.natAbs_mul]; exact mul_lt32 h1 h3), Nat.lt_of_le_of_lt (loQ_le _ _) (mul_lt32 h2 h4)⟩

end Go.Proofs.YthklcdcikmninaaGreatDoor
