/-
  Package nat: Pow, by contract: the loop.
-/
import Derived.Test.YtimihhnnhpejcaaDoorPow1
namespace Go.Proofs.YtimihhnnhpejcaaDoor
open Go.RowKit

theorem lb_lt {N q : Nat} (h : lb N ≤ q) : N < 4294967296 ^ q := by
  have := lb_le.1 h
  rw [Nat.pow_mul] at this
  exact this
theorem lb_of {N n : Nat} (h : N < 4294967296 ^ n ∧ (0 < n → 4294967296 ^ (n - 1) ≤ N)) : lb N = n := by
  have e : ∀ m, (4294967296 : Nat) ^ m = 2 ^ (32 * m) := fun m => by rw [Nat.pow_mul]
  refine Nat.le_antisymm (lb_le.2 (by rw [← e]; exact h.1)) ?_
  rcases Nat.eq_zero_or_pos n with h0 | h0
  · omega
  · have h1 := h.2 h0
    rcases Nat.lt_or_ge (lb N) n with h2 | h2
    · have := lb_lt (show lb N ≤ n - 1 by omega)
      omega
    · exact h2

/-- Within the loop: the power in its cell. -/
structure PS (w wr : World) (x : Value) (X z8 E : Nat) (p : Value) : Prop where
  pi : PI w wr x X
  lt8 : w.heap.size + 1 < z8
  s8 : Slot wr z8 p
  np : NatIs wr (.agg #[p]) (X ^ E)
theorem PS.go {w wr w2 : World} {x p : Value} {X z8 E : Nat} (h : PS w wr x X z8 E p) (hb : Below wr.heap.size wr w2) : PS w w2 x X z8 E p :=
  ⟨h.pi.go hb, h.lt8, h.s8.below hb, h.np.below hb⟩
theorem PS.put {w wr : World} {x : Value} {X z8 E E2 : Nat} {a a2 : Option Addr} {n c n2 c2 : Nat} (h : PS w wr x X z8 E (.slice a n c)) (hv : NatIs wr (.agg #[.slice a2 n2 c2]) (X ^ E2)) :
    PS w (wr.setCell ⟨z8, 0, none⟩ (.slice a2 n2 c2)) x X z8 E2 (.slice a2 n2 c2) := by
  have hlt := h.lt8
  have hw : Wrote z8 0 1 wr (wr.setCell ⟨z8, 0, none⟩ (.slice a2 n2 c2)) := (Wrote.refl z8 0 1 wr).setCell (Nat.le_refl _) (by omega) _
  refine ⟨⟨h.pi.below.setCell (show w.heap.size ≤ z8 by omega) _, h.pi.s1.wrote hw (by omega), h.pi.s2.wrote hw (by omega), h.pi.xs.store h.s8.cell (fun _ _ h => by cases h) _⟩, hlt, ⟨World.cell?_setCell_same _ _ _ h.s8.cell, by simp [h.s8.free], by simpa using h.s8.lt⟩, hv.store h.s8.cell (fun _ _ h => by cases h) _⟩

theorem PS.mul {w wr : World} {x : Value} {X z8 E F : Nat} {a : Option Addr} {n c : Nat} {u : Value} (h : PS w wr x X z8 E (.slice a n c)) (hu : NatIs wr u (X ^ F)) (hE : X ^ E < 4294967296 ^ 100) (hF : X ^ F < 4294967296 ^ 100) :
    Calls Tryd.prog 34 #[.agg #[.slice a n c], u] wr fun e w2 => ∃ a2 n2 c2, e = .returned (.agg #[.slice a2 n2 c2]) ∧ PS w w2 x X z8 E (.slice a n c) ∧ PS w (w2.setCell ⟨z8, 0, none⟩ (.slice a2 n2 c2)) x X z8 (E + F) (.slice a2 n2 c2) := by
  refine (mul_any _ _ _ _ wr h.np hu 100 (by omega) hE hF).mono ?_
  rintro e w2 ho
  obtain ⟨a2, n2, c2, rfl, hv, hb⟩ := ho.told
  rw [← Nat.pow_add] at hv
  exact ⟨a2, n2, c2, rfl, h.go hb, (h.go hb).put hv⟩

theorem exp_step {n D j : Nat} (h : j < D) : n / 2 ^ (D - (j + 1)) = 2 * (n / 2 ^ (D - j)) + n / 2 ^ (D - (j + 1)) % 2 := by
  have e : 2 ^ (D - j) = 2 ^ (D - (j + 1)) * 2 := by rw [← Nat.pow_succ]; congr 1; omega
  rw [e, ← Nat.div_div_eq_div_mul]; omega

end Go.Proofs.YtimihhnnhpejcaaDoor
