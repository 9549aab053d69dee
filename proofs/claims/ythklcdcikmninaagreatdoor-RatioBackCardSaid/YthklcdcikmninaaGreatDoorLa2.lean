/-
  Package typeballlaw03: what read answers, of which only its truth is kept; By in one contract.
-/
import Derived.Test.YthklcdcikmninaaGreatDoorLa1
import Derived.Test.YthklcdcikmninaaGreatDoorRr1
namespace Go.Proofs.YthklcdcikmninaaGreatDoor
open Go.RowKit

def Read3w (w w' : World) (e : Ending) (k : Bool) : Prop := ∃ a n c m a2 n2 c2, e = .returned (.tuple #[.agg #[.slice a n c, .bool m, .slice a2 n2 c2], .bool k]) ∧ Below w.heap.size w w'
theorem read3_weak (b : Bool) (s t : ByteArray) (w : World) : Calls Tryz.prog 4 #[.agg #[.bool b, .string s, .string t]] w fun e w' => Read3w w w' e (rd3 b s t) := by
  cases h : rd3 b s t with
  | false => exact (read3_no b s t w h).mono fun e w' ⟨a, n, c, m, a2, n2, c2, he, _, hb⟩ => ⟨a, n, c, m, a2, n2, c2, he, hb⟩
  | true => exact (read3_yes b s t w h).mono fun e w' ⟨a, n, c, m, a2, n2, c2, he, _, hb⟩ => ⟨a, n, c, m, a2, n2, c2, he, hb⟩

theorem by_any (a : Option Addr) (n c : Nat) (m : Bool) (a2 : Option Addr) (n2 c2 : Nat) (P : Int) (Q : Nat) (b : Option Addr) (k l : Nat) (v : Bool) (b2 : Option Addr) (k2 l2 : Nat) (P' : Int) (Q' : Nat) (w : World)
    (h : RatAt w a n c m a2 n2 c2 P Q) (g : RatAt w b k l v b2 k2 l2 P' Q') (hQ : 0 < Q) (hQ' : 0 < Q') (K : Nat) (hK : K ≤ 400000) (h1 : P.natAbs < 4294967296 ^ K) (h2 : Q < 4294967296 ^ K) (h3 : P'.natAbs < 4294967296 ^ K) (h4 : Q' < 4294967296 ^ K) :
    Calls Tryz.prog 7 #[.agg #[.slice a n c, .bool m, .slice a2 n2 c2], .agg #[.slice b k l, .bool v, .slice b2 k2 l2]] w fun e w' => RatTold3 w w' e (dvP P Q P' Q') (dvQ P Q P' Q') (!decide (P' = 0)) := by
  unfold dvP dvQ
  by_cases hP : P' = 0
  · subst hP
    rw [if_pos rfl, if_pos rfl, decide_eq_true rfl]
    exact by_zero a n c m a2 n2 c2 P Q b k l v b2 k2 l2 Q' w h g hQ hQ' K hK h1 h2 h4
  · rw [if_neg hP, if_neg hP, decide_eq_false hP]
    exact by_some a n c m a2 n2 c2 P Q b k l v b2 k2 l2 P' Q' w h g hQ hQ' hP K hK h1 h2 h3 h4
theorem dv_lim {P : Int} {Q : Nat} {P' : Int} {Q' K : Nat} (hQ : 0 < Q) (h1 : P.natAbs < 4294967296 ^ K) (h2 : Q < 4294967296 ^ K) (h3 : P'.natAbs < 4294967296 ^ K) (h4 : Q' < 4294967296 ^ K) :
    0 < dvQ P Q P' Q' ∧ (dvP P Q P' Q').natAbs < 4294967296 ^ (K + K) ∧ dvQ P Q P' Q' < 4294967296 ^ (K + K) := by
  have hK : 1 < 4294967296 ^ (K + K) := by
    have : 1 ≤ K := by
      rcases Nat.eq_zero_or_pos K with e | e
      · subst e; rw [Nat.pow_zero] at h2; omega
      · exact e
    exact Nat.one_lt_pow (by omega) (by omega)
  unfold dvP dvQ
  by_cases hP : P' = 0
  · rw [if_pos hP, if_pos hP]; exact ⟨by omega, by rw [show (0 : Int).natAbs = 0 from rfl]; omega, hK⟩
  · rw [if_neg hP, if_neg hP]
    refine ⟨nwQ_pos _ (Int.mul_ne_zero hP (by omega)), ?_, ?_⟩
    · rw [(nw_abs _ _).1]; exact Nat.lt_of_le_of_lt (Nat.div_le_self _ _) (mulZ_lt32 h1 h4)
    · rw [(nw_abs _ _).2]; exact Nat.lt_of_le_of_lt (Nat.div_le_self _ _) (mulZ_lt32 h3 h2)

end Go.Proofs.YthklcdcikmninaaGreatDoor
