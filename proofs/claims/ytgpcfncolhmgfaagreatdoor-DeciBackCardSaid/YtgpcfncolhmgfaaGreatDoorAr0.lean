/-
  Package array and the document's layer 6: rows of integers, Count, by contract.
-/
import Derived.Test.YtgpcfncolhmgfaaGreatDoorK1
namespace Go.Proofs.YtgpcfncolhmgfaaGreatDoor
open Go.RowKit

/-- A row of integers of one kind. -/
def KRow (w : World) (ki : IntKind) (a : Option Addr) (n c : Nat) (f : Nat → Int) : Prop := n ≤ c ∧ c ≤ maxLen ∧ (n = 0 ∨ ∃ b off, a = some ⟨b, off, none⟩ ∧ b < w.heap.size ∧ ∀ j, j < n → w.cell? ⟨b, off + j, none⟩ = some (.int ki (f j)))
theorem KRow.below {w w' : World} {ki : IntKind} {a : Option Addr} {n c : Nat} {f : Nat → Int} (h : KRow w ki a n c f) (hb : Below w.heap.size w w') : KRow w' ki a n c f := by
  obtain ⟨h1, h2, h3⟩ := h
  refine ⟨h1, h2, h3.imp id ?_⟩
  rintro ⟨b, off, rfl, hl, hc⟩
  exact ⟨b, off, rfl, Nat.lt_of_lt_of_le hl hb.size, fun j hj => (hb.cell (p := ⟨b, off + j, none⟩) hl).trans (hc j hj)⟩
theorem KRow.get {w : World} {ki : IntKind} {a : Option Addr} {n c : Nat} {f : Nat → Int} (h : KRow w ki a n c f) {j : Nat} (hj : j < n) : ∃ b off, a = some ⟨b, off, none⟩ ∧ b < w.heap.size ∧ w.cell? ⟨b, off + j, none⟩ = some (.int ki (f j)) := by
  rcases h.2.2 with h | ⟨b, off, rfl, hl, hc⟩
  · omega
  · exact ⟨b, off, rfl, hl, hc j hj⟩
theorem KRow.len {w : World} {ki : IntKind} {a : Option Addr} {n c : Nat} {f : Nat → Int} (h : KRow w ki a n c f) : n ≤ c ∧ n ≤ 9223372036854775807 := by
  have h1 := h.1
  have h2 := h.2.1
  unfold maxLen at h2
  exact ⟨h1, by omega⟩
/-- Every number of the row is one of 64 bits. -/
def In64 (f : Nat → Int) (n : Nat) : Prop := ∀ j, j < n → -9223372036854775808 ≤ f j ∧ f j ≤ 9223372036854775807

/-- How much room the first axes take, an axis of length 0 as one of length 1. -/
def rm (f : Nat → Int) : Nat → Int
  | 0 => 1
  | k + 1 => rm f k * max (f k) 1
/-- How many elements the first axes make. -/
def itm (f : Nat → Int) : Nat → Int
  | 0 => 1
  | k + 1 => itm f k * f k
/-- The first axes are those of a shape. -/
def axB (f : Nat → Int) : Nat → Bool
  | 0 => true
  | k + 1 => axB f k && (decide (0 ≤ f k) && decide (rm f (k + 1) ≤ 4096))
/-- Is it a shape? -/
def shB (f : Nat → Int) (n : Nat) : Bool := decide (n ≤ 8) && axB f n
def cntI (f : Nat → Int) (n : Nat) : Int := if shB f n then itm f n else 0

theorem ax_bd {f : Nat → Int} : ∀ {k : Nat}, axB f k = true → 1 ≤ rm f k ∧ rm f k ≤ 4096 ∧ 0 ≤ itm f k ∧ itm f k ≤ rm f k := by
  intro k
  induction k with
  | zero => intro _; simp [rm, itm]
  | succ k ih =>
    intro h
    unfold axB at h
    rw [Bool.and_eq_true, Bool.and_eq_true, decide_eq_true_eq, decide_eq_true_eq] at h
    obtain ⟨h1, h2, h3⟩ := h
    obtain ⟨i1, i2, i3, i4⟩ := ih h1
    have hm : 1 ≤ max (f k) 1 := by omega
    have e1 : 1 * 1 ≤ rm f k * max (f k) 1 := Int.mul_le_mul i1 hm (by omega) (by omega)
    have e2 : itm f k * f k ≤ rm f k * max (f k) 1 := Int.mul_le_mul i4 (by omega) h2 (by omega)
    have e3 : 0 ≤ itm f k * f k := Int.mul_nonneg i3 h2
    unfold rm itm
    unfold rm at h3
    omega
theorem ax_le {f : Nat → Int} : ∀ {k m : Nat}, k ≤ m → axB f m = true → axB f k = true := by
  intro k m
  induction m with
  | zero => intro h h2; obtain rfl : k = 0 := by omega
            exact h2
  | succ m ih =>
    intro h h2
    rcases Nat.lt_or_ge k (m + 1) with h3 | h3
    · refine ih (by omega) ?_
      unfold axB at h2
      rw [Bool.and_eq_true] at h2
      exact h2.1
    · obtain rfl : k = m + 1 := by omega
      exact h2
/-- The next axis, as the program tests it. -/
theorem ax_quo {f : Nat → Int} {k : Nat} (h : axB f k = true) : axB f (k + 1) = (!decide (f k < 0) && !decide (4096 / rm f k < f k)) := by
  obtain ⟨i1, i2, _, _⟩ := ax_bd h
  unfold axB
  rw [h, Bool.true_and]
  by_cases h0 : f k < 0
  · rw [decide_eq_true h0, decide_eq_false (by omega)]; rfl
  · rw [decide_eq_false h0, decide_eq_true (show 0 ≤ f k by omega), Bool.true_and, Bool.not_false, Bool.true_and]
    have e : rm f (k + 1) ≤ 4096 ↔ ¬ 4096 / rm f k < f k := by
      rw [show rm f (k + 1) = rm f k * max (f k) 1 from rfl, Int.not_lt]
      have e2 : f k ≤ 4096 / rm f k ↔ f k * rm f k ≤ 4096 := Int.le_ediv_iff_mul_le (by omega)
      rw [e2, Int.mul_comm]
      rcases Int.lt_or_le (f k) 1 with h1 | h1
      · rw [show f k = 0 by omega]
        simp only [Int.zero_mul]
        rw [show max (0 : Int) 1 = 1 from rfl]
        omega
      · rw [show max (f k) 1 = f k by omega]
    rw [Bool.eq_iff_iff, decide_eq_true_eq, Bool.not_eq_true', decide_eq_false_iff_not]
    exact e
/-- The next axis, as the document tests it. -/
theorem ax_ref {f : Nat → Int} {k : Nat} (h : axB f k = true) : axB f (k + 1) = (!decide (f k < 0) && (!decide (4096 < f k) && !decide (4096 < rm f k * max (f k) 1))) := by
  obtain ⟨i1, i2, _, _⟩ := ax_bd h
  unfold axB
  rw [h, Bool.true_and]
  by_cases h0 : f k < 0
  · rw [decide_eq_true h0, decide_eq_false (by omega)]; rfl
  · rw [decide_eq_false h0, decide_eq_true (show 0 ≤ f k by omega), Bool.true_and, Bool.not_false, Bool.true_and]
    have e : rm f (k + 1) ≤ 4096 ↔ ¬ 4096 < f k ∧ ¬ 4096 < rm f k * max (f k) 1 := by
      rw [show rm f (k + 1) = rm f k * max (f k) 1 from rfl]
      constructor
      · intro h2
        have e1 : 1 * max (f k) 1 ≤ rm f k * max (f k) 1 := Int.mul_le_mul i1 (Int.le_refl _) (by omega) (by omega)
        omega
      · rintro ⟨_, h2⟩; omega
    rw [Bool.eq_iff_iff, decide_eq_true_eq, Bool.and_eq_true, Bool.not_eq_true', Bool.not_eq_true', decide_eq_false_iff_not, decide_eq_false_iff_not]
    exact e
theorem sh_false {f : Nat → Int} {n k : Nat} (hk : k ≤ n) (h : axB f k = false) : shB f n = false := by
  unfold shB
  have : axB f n = false := by
    cases hx : axB f n with
    | false => rfl
    | true => rw [ax_le hk hx] at h; cases h
  rw [this, Bool.and_false]
theorem sh_long {f : Nat → Int} {n : Nat} (h : 8 < n) : shB f n = false := by
  unfold shB
  rw [decide_eq_false (by omega), Bool.false_and]

/-- What Count answers. -/
def CntTold (f : Nat → Int) (n : Nat) (w w' : World) (e : Ending) : Prop := e = .returned (.tuple #[.int .i64 (cntI f n), .bool (shB f n)]) ∧ w = w'
theorem CntTold.no {f : Nat → Int} {n : Nat} (w : World) (h : shB f n = false) : CntTold f n w w (.returned (.tuple #[.int .i64 0, .bool false])) := by
  refine ⟨?_, rfl⟩
  unfold cntI
  rw [h]
  rfl
theorem CntTold.yes {f : Nat → Int} {n : Nat} (w : World) (h8 : n ≤ 8) (h : axB f n = true) : CntTold f n w w (.returned (.tuple #[.int .i64 (itm f n), .bool true])) := by
  have : shB f n = true := by unfold shB; rw [decide_eq_true h8, h]; rfl
  refine ⟨?_, rfl⟩
  unfold cntI
  rw [this]
  rfl

end Go.Proofs.YtgpcfncolhmgfaaGreatDoor
