/-
  The document's answers (package typeballref01): Mul, by contract.
-/
import Derived.Test.YtkjdoknmmiaapaaDoorRef5
namespace Go.Proofs.YtkjdoknmmiaapaaDoor
open Go.RowKit

theorem d10_lt (Z k : Nat) : d10 Z k < 10 := Nat.mod_lt _ (by omega)

/-- One digit set anew. -/
theorem set_digit {Z Y p t : Nat} (ht : t < 10) (h : Y + d10 Z p * 10 ^ p = Z + t * 10 ^ p) : ∀ k, d10 Y k = if k = p then t else d10 Z k := by
  have hp : 0 < 10 ^ p := Nat.pow_pos (by omega)
  have e1 := Nat.div_add_mod Z (10 ^ p)
  have e2 := Nat.div_add_mod (Z / 10 ^ p) 10
  have e3 : Z / 10 ^ p % 10 = d10 Z p := rfl
  rw [e3] at e2
  -- Z = lo + 10^p * (10 * hi + d)
  obtain ⟨hi, hhi⟩ : ∃ hi, Z / 10 ^ p / 10 = hi := ⟨_, rfl⟩
  obtain ⟨lo, hlo⟩ : ∃ lo, Z % 10 ^ p = lo := ⟨_, rfl⟩
  have hlol : lo < 10 ^ p := by rw [← hlo]; exact Nat.mod_lt _ hp
  rw [hhi] at e2
  rw [hlo] at e1
  have hZ : Z = lo + 10 ^ p * (10 * hi + d10 Z p) := by rw [e2]; omega
  have hY : Y = lo + 10 ^ p * (10 * hi + t) := by
    have a1 : 10 ^ p * (10 * hi + d10 Z p) = 10 ^ p * (10 * hi) + d10 Z p * 10 ^ p := by rw [Nat.mul_add, Nat.mul_comm (10 ^ p) (d10 Z p)]
    have a2 : 10 ^ p * (10 * hi + t) = 10 ^ p * (10 * hi) + t * 10 ^ p := by rw [Nat.mul_add, Nat.mul_comm (10 ^ p) t]
    omega
  have gen : ∀ u, u < 10 → ∀ k, d10 (lo + 10 ^ p * (10 * hi + u)) k = if k < p then d10 lo k else if k = p then u else hi / 10 ^ (k - p - 1) % 10 := by
    intro u hu k
    unfold d10
    rcases Nat.lt_trichotomy k p with h | h | h
    · rw [if_pos h]
      obtain ⟨m, rfl⟩ : ∃ m, p = k + (m + 1) := ⟨p - k - 1, by omega⟩
      rw [Nat.pow_add, Nat.mul_assoc, Nat.add_mul_div_left _ _ (Nat.pow_pos (by omega)), Nat.pow_succ, Nat.mul_comm (10 ^ m) 10, Nat.mul_assoc]
      omega
    · subst h
      rw [if_neg (by omega), if_pos rfl, Nat.add_mul_div_left _ _ hp, Nat.div_eq_of_lt hlol]
      omega
    · rw [if_neg (by omega), if_neg (by omega)]
      obtain ⟨m, rfl⟩ : ∃ m, k = p + (m + 1) := ⟨k - p - 1, by omega⟩
      rw [Nat.pow_add, ← Nat.div_div_eq_div_mul, Nat.add_mul_div_left _ _ hp, Nat.div_eq_of_lt hlol, Nat.zero_add, Nat.pow_succ, Nat.mul_comm (10 ^ m) 10, ← Nat.div_div_eq_div_mul]
      rw [show (10 * hi + u) / 10 = hi by omega, show p + (m + 1) - p - 1 = m by omega]
  intro k
  rw [hY, gen t ht k]
  by_cases h1 : k = p
  · subst h1; rw [if_neg (by omega), if_pos rfl, if_pos rfl]
  · rw [if_neg h1, if_neg h1]
    have := gen (d10 Z p) (d10_lt Z p) k
    rw [← hZ, if_neg h1] at this
    rw [this]

theorem mod_step (y j : Nat) : y % 10 ^ (j + 1) = y % 10 ^ j + 10 ^ j * d10 y j := by unfold d10; rw [Nat.pow_succ, Nat.mod_mul]

/-- A row of digits of the call's own, that is the number Z. -/
structure ArrI (w wr : World) (b L Z : Nat) : Prop where
  below : Below w.heap.size w wr
  ge : w.heap.size ≤ b
  lt : b < wr.heap.size
  free : Free wr b
  row : Cells wr .i64 b 0 L (d10 Z)

theorem ArrI.set {w wr : World} {b L Z Y p t : Nat} (h : ArrI w wr b L Z) (hp : p < L) (ht : t < 10) (he : Y + d10 Z p * 10 ^ p = Z + t * 10 ^ p) (n : Nat) : ArrI w ((wr.drewN n).setCell ⟨b, p, none⟩ (.int .i64 t)) b L Y := by
  have hs := h.row.set (k := p) (x := t) hp
  rw [Nat.zero_add] at hs
  refine ⟨(below_drewN h.below n).setCell h.ge _, h.ge, by simpa using h.lt, (h.free).set _ _, fun j hj => ?_⟩
  have := hs j hj
  rw [set_digit ht he j]
  exact this

theorem make_ints (m : Nat) (hm : m ≤ 10000000) : ∃ z : List Value, (∀ j, j < m → z[j]? = some (.int .i64 0)) ∧
    ∀ w : World, (Instr.makeSlice 93 (.int .i64 m) (.int .i64 m)).run Tryd.prog w = .ok (.slice (some ⟨w.heap.size, 0, none⟩) m m) (w.alloc (.cells z.toArray 3)) := by
  obtain ⟨i0, hi, hz0, hz1, hz2⟩ := info_parts infoI
  refine ⟨(madeCells (Value.cells (.int .i64 0)) m).toList, fun j hj => ?_, fun w => ?_⟩
  · have h3 : (madeCells (Value.cells (.int .i64 0)) m)[j]? = some (.int .i64 0) := by simp [madeCells, hj, Value.cells, Nat.mod_one]
    rw [Array.getElem?_toList]; exact h3
  · have hmk := run_make (P := Tryd.prog) w 93 3 i0 (.int .i64 0) Tryd.underlying93 hi hz0 .i64 .i64 m m (by omega) (by omega) (by rw [hz2]; omega) (by omega)
    simp only [Int.toNat_natCast, hz1, Nat.mul_one] at hmk
    rw [Array.toArray_toList]
    exact hmk

/-- Within a row of the product. -/
def MulJ (x y i j c Z : Nat) : Prop := Z + c * 10 ^ (i + j) = x % 10 ^ i * y + d10 x i * (y % 10 ^ j) * 10 ^ i
theorem mulJ_step {x y i j c Z Y t : Nat} (h : MulJ x y i j c Z) (ht : d10 Z (i + j) + d10 x i * d10 y j + c = t) (hY : Y + d10 Z (i + j) * 10 ^ (i + j) = Z + t % 10 * 10 ^ (i + j)) : MulJ x y i (j + 1) (t / 10) Y := by
  unfold MulJ at *
  rw [mod_step, show i + (j + 1) = (i + j) + 1 by omega, Nat.pow_succ]
  have e := Nat.div_add_mod t 10
  have a1 : d10 x i * (y % 10 ^ j + 10 ^ j * d10 y j) * 10 ^ i = d10 x i * (y % 10 ^ j) * 10 ^ i + d10 x i * d10 y j * 10 ^ (i + j) := by
    rw [Nat.mul_add, Nat.add_mul, Nat.pow_add]
    congr 1
    rw [Nat.mul_comm (10 ^ j) (d10 y j), ← Nat.mul_assoc, Nat.mul_assoc, Nat.mul_comm (10 ^ j)]
  rw [a1]
  generalize 10 ^ (i + j) = P at *
  generalize d10 x i * d10 y j = u at *
  generalize d10 Z (i + j) = d at *
  have a2 : (d + u + c) * P = d * P + u * P + c * P := by rw [Nat.add_mul, Nat.add_mul]
  have a3 : t / 10 * (P * 10) + t % 10 * P = (10 * (t / 10) + t % 10) * P := by rw [Nat.add_mul, Nat.mul_comm P 10, ← Nat.mul_assoc, Nat.mul_comm (t / 10) 10]
  rw [e, ← ht, a2] at a3
  rw [ht] at a3
  omega

end Go.Proofs.YtkjdoknmmiaapaaDoor
