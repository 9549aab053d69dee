/-
  The document's answers (package typeballref03): Pow (Rp4), by contract.
-/
import Derived.Test.YtipfhbfjbbiglaaGreatDoorRp1
import Derived.Test.YtipfhbfjbbiglaaGreatDoorRp5
import Derived.Test.YtipfhbfjbbiglaaGreatDoorRp2
import Derived.Test.YtipfhbfjbbiglaaGreatDoorRp3
namespace Go.Proofs.YtipfhbfjbbiglaaGreatDoor
open Go.RowKit
attribute [local go_sem ↓] Go.wp_at_zero Go.wp_at_succ

theorem r3Pow_any (P : Int) (Q : Nat) (N most : Int) (w : World) (hQ : 0 < Q) (hc : Nat.gcd P.natAbs Q = 1) (hN0 : -9223372036854775808 ≤ N) (hN : N ≤ 9223372036854775807) (hm : most ≤ 12) (d1 : dl P.natAbs ≤ 30) (d2 : dl Q ≤ 30) : Calls Tryz.prog 58 #[.agg #[.bool (rB P), .string (rS P), .string (str (dec Q))], .int .i64 N, .int .i64 most] w fun e w' => NumTold3 w w' e (poP P Q N most) (poQ P Q N most) (poO P Q N most) := by
  by_cases h0 : N = 0
  · subst h0
    have e : raO P Q 0 most = true := by unfold raO; rw [powN_none (Int.le_refl _), powN_none (Int.le_refl _)]; rfl
    have e2 : poP P Q 0 most = 1 ∧ poQ P Q 0 most = 1 ∧ poO P Q 0 most = true := by
      unfold poP poQ poO raP raQ raS
      rw [if_pos (Int.le_refl _), if_pos (Int.le_refl _), if_pos (Int.le_refl _), e, if_pos rfl, if_pos rfl, powN_none (Int.le_refl _), powN_none (Int.le_refl _)]
      refine ⟨?_, rfl, rfl⟩
      rw [decide_eq_false (show ¬ (0 : Int) % 2 = 1 by decide), Bool.and_false]
      rfl
    rw [e2.1, e2.2.1, e2.2.2]
    exact r3Pow_none P Q most w
  · cases hl : (decide (Q = 1) && (decide (P.natAbs = 0) || decide (P.natAbs = 1))) with
    | true =>
      rw [Bool.and_eq_true, decide_eq_true_eq] at hl
      obtain ⟨rfl, hl⟩ := hl
      by_cases hz : P = 0 ∧ N < 0
      · obtain ⟨rfl, hz⟩ := hz
        have e2 : poP 0 1 N most = 0 ∧ poQ 0 1 N most = 1 ∧ poO 0 1 N most = false := by
          unfold poP poQ poO
          have hz2 : ¬ 0 ≤ N := by omega
          simp only [if_neg hz2, if_pos, and_self]
        rw [e2.1, e2.2.1, e2.2.2]
        exact r3Pow_nought 1 N most w hz
      · exact r3Pow_lim P N most w h0 hl hz
    | false =>
      by_cases hn : 0 ≤ N
      · have e : poP P Q N most = raP P Q N most ∧ poQ P Q N most = raQ P Q N most ∧ poO P Q N most = raO P Q N most := by
          unfold poP poQ poO
          rw [if_pos hn, if_pos hn, if_pos hn]
          exact ⟨rfl, rfl, rfl⟩
        rw [e.1, e.2.1, e.2.2]
        exact r3Pow_up P Q N most w (by omega) hN hm d1 d2 hl
      · by_cases hP : P = 0
        · subst hP
          have hq : Q = 1 := by rw [show (0 : Int).natAbs = 0 from rfl, Nat.gcd_zero_left] at hc; exact hc
          rw [hq] at hl
          cases hl
        · exact r3Pow_down P Q N most w hQ hc (by omega) hN0 hP hm d1 d2 hl


end Go.Proofs.YtipfhbfjbbiglaaGreatDoor
