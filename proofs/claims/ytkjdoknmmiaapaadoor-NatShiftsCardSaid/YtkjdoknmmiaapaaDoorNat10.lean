/-
  Package nat: divideLong, by contract: the quotient and the rest of two rows.
-/
import Derived.Test.YtkjdoknmmiaapaaDoorNat9
import Derived.Test.YtkjdoknmmiaapaaDoorVal
namespace Go.Proofs.YtkjdoknmmiaapaaDoor
open Go.RowKit

/-- At the head of round i of the long division: what is left in the row rb is below D * B^(m-i); what was taken stands in qb. -/
structure LongInv (w wr : World) (rb qb bb an1 bn m : Nat) (d : Nat → Nat) (X D i : Nat) : Prop where
  below : Below w.heap.size w wr
  rb_ge : w.heap.size ≤ rb
  qb_ge : w.heap.size ≤ qb
  rb_lt : rb < wr.heap.size
  qb_lt : qb < wr.heap.size
  rq : rb ≠ qb
  rbb : bb ≠ rb
  qbb : bb ≠ qb
  freeR : Free wr rb
  freeQ : Free wr qb
  div : SlAt wr .u32 4294967296 (some ⟨bb, 0, none⟩) bn bn d
  rows : ∃ r q, Cells wr .u32 rb 0 an1 r ∧ (∀ j, j < an1 → r j < 4294967296) ∧ Cells wr .u32 qb 0 m q ∧ (∀ j, j < m → q j < 4294967296) ∧ val r an1 < D * 4294967296 ^ (m - i) ∧ X = val r an1 + D * seg q (m - i) m

theorem LongInv.part {w wr : World} {rb qb bb an1 bn m : Nat} {d : Nat → Nat} {X D i : Nat} (h : LongInv w wr rb qb bb an1 bn m d X D i) (hi : i < m) (hm : m + bn = an1) (hD : D < 4294967296 ^ bn) (hn : an1 ≤ 1000000) :
    ∃ f, SlAt wr .u32 4294967296 (some ⟨rb, m - 1 - i, none⟩) (bn + 1) (an1 - (m - 1 - i)) f ∧ val f (bn + 1) < D * 4294967296 ∧
      ∀ w2 q, q = val f (bn + 1) / D → q < 4294967296 → RowIs rb (m - 1 - i) (bn + 1) wr w2 (val f (bn + 1) % D) → LongInv w (w2.setCell ⟨qb, m - 1 - i, none⟩ (.int .u32 q)) rb qb bb an1 bn m d X D (i + 1) := by
  obtain ⟨r, q0, hr1, hr2, hq1, hq2, hv, hX⟩ := h.rows
  obtain ⟨t, ht⟩ : ∃ t, m - 1 - i = t := ⟨_, rfl⟩
  have e1 : m - i = t + 1 := by omega
  have e2 : m - (i + 1) = t := by omega
  rw [e1] at hv hX
  rw [ht]
  have hlow : val r an1 = val r (t + (bn + 1)) := val_low r (by omega) (by
    have : D * 4294967296 ^ (t + 1) ≤ 4294967296 ^ bn * 4294967296 ^ (t + 1) := Nat.mul_le_mul_right _ (by omega)
    rw [← pow_add32, show bn + (t + 1) = t + (bn + 1) by omega] at this
    omega)
  have hsplit := val_shift r t (bn + 1)
  obtain ⟨V, hV⟩ : ∃ V, val (fun j => r (t + j)) (bn + 1) = V := ⟨_, rfl⟩
  rw [hV] at hsplit
  have hVl : V < D * 4294967296 := by
    rw [pow_succ32, hlow, hsplit] at hv
    have : 4294967296 ^ t * V < 4294967296 ^ t * (D * 4294967296) := by
      have e : D * (4294967296 * 4294967296 ^ t) = 4294967296 ^ t * (D * 4294967296) := by rw [Nat.mul_comm (4294967296 ^ t), Nat.mul_assoc]
      omega
    exact Nat.lt_of_mul_lt_mul_left this
  have hrt := val_lt r t (fun j hj => hr2 j (by omega))
  refine ⟨fun j => r (t + j), ⟨by omega, by omega, fun j hj => hr2 _ (by omega), .inr ⟨rb, t, rfl, h.rb_lt, fun j hj => by have := hr1 (t + j) (by omega); rw [Nat.zero_add] at this; exact this⟩⟩, by rw [hV]; exact hVl, ?_⟩
  intro w2 q hq hql hrow
  rw [hV] at hq hrow
  obtain ⟨hw, hf, d2, hd1, hd2, hd3⟩ := hrow
  have hw2 : Below w.heap.size w w2 := hw.below h.below h.rb_ge h.below.size
  have hqb2 : qb < w2.heap.size := Nat.lt_of_lt_of_le h.qb_lt hw.size
  have hfq : Free w2 qb := h.freeQ.wrote hw h.qb_lt
  have hcq : Cells w2 .u32 qb 0 m q0 := hq1.wrote hw h.qb_lt (fun e => absurd e.symm h.rq)
  have hsc : Wrote qb t (t + 1) w2 (w2.setCell ⟨qb, t, none⟩ (.int .u32 q)) := (Wrote.refl _ _ _ _).setCell (Nat.le_refl _) (by omega) _
  have hD0 : 0 < D := by
    rcases Nat.eq_zero_or_pos D with h0 | h0
    · rw [h0] at hVl; omega
    · exact h0
  obtain ⟨r2, ra, rn⟩ : ∃ r2 : Nat → Nat, (∀ j, t ≤ j ∧ j < t + (bn + 1) → r2 j = d2 (j - t)) ∧ (∀ j, ¬ (t ≤ j ∧ j < t + (bn + 1)) → r2 j = r j) :=
    ⟨fun j => if t ≤ j ∧ j < t + (bn + 1) then d2 (j - t) else r j, fun j hj => if_pos hj, fun j hj => if_neg hj⟩
  obtain ⟨q2, hqs, qa, qn⟩ : ∃ q2 : Nat → Nat, q2 = (fun j => if j = t then q else q0 j) ∧ q2 t = q ∧ (∀ j, j ≠ t → q2 j = q0 j) := ⟨_, rfl, if_pos rfl, fun j hj => if_neg hj⟩
  have hrc : Cells w2 .u32 rb 0 an1 r2 := by
    intro j hj
    by_cases e : t ≤ j ∧ j < t + (bn + 1)
    · rw [ra j e]
      have := hd1 (j - t) (by omega)
      rw [show t + (j - t) = j by omega] at this
      rw [Nat.zero_add]; exact this
    · rw [rn j e, Nat.zero_add, hw.cell j (by omega)]
      have := hr1 j hj
      rw [Nat.zero_add] at this
      exact this
  have hv1 : val r2 t = val r t := val_congr t (fun j hj => rn j (by omega))
  have hv2 : val (fun j => r2 (t + j)) (bn + 1) = V % D := by
    rw [← hd3]; exact val_congr _ (fun j hj => by rw [ra _ (by omega), Nat.add_sub_cancel_left])
  have hv3 := val_shift r2 t (bn + 1)
  rw [hv1, hv2] at hv3
  have hmd := Nat.mod_lt V hD0
  have hlt2 : val r t + 4294967296 ^ t * (V % D) < D * 4294967296 ^ t := by
    have : 4294967296 ^ t * (V % D + 1) ≤ 4294967296 ^ t * D := Nat.mul_le_mul_left _ hmd
    rw [Nat.mul_add, Nat.mul_comm _ D] at this
    omega
  have hv4 : val r2 an1 = val r2 (t + (bn + 1)) := by
    obtain ⟨k, hk⟩ : ∃ k, an1 = t + (bn + 1) + k := ⟨an1 - (t + (bn + 1)), by omega⟩
    have z0 := val_shift r (t + (bn + 1)) k
    rw [← hk, hlow] at z0
    have z1 : val (fun j => r (t + (bn + 1) + j)) k = 0 := by
      rcases Nat.eq_zero_or_pos (val (fun j => r (t + (bn + 1) + j)) k) with z | z
      · exact z
      · have := Nat.mul_le_mul (pow_pos32 (t + (bn + 1))) z
        omega
    have z2 := val_shift r2 (t + (bn + 1)) k
    have z3 : val (fun j => r2 (t + (bn + 1) + j)) k = 0 := by
      rw [← z1]; exact val_congr k (fun j _ => rn _ (by omega))
    rw [z3, ← hk] at z2
    rw [z2]; omega
  refine ⟨?_, h.rb_ge, h.qb_ge, ?_, ?_, h.rq, h.rbb, h.qbb, ?_, ?_, ?_, r2, q2, hrc.wrote hsc (Nat.lt_of_lt_of_le h.rb_lt hw.size) (fun e => absurd e h.rq), ?_, ?_, ?_, ?_, ?_⟩
  · exact hsc.below hw2 h.qb_ge hw2.size
  · simpa using Nat.lt_of_lt_of_le h.rb_lt hw.size
  · simpa using hqb2
  · exact hf.set _ _
  · exact hfq.set _ _
  · exact (h.div.wrote hw (fun x hx => by cases hx; exact h.rbb)).wrote hsc (fun x hx => by cases hx; exact h.qbb)
  · intro j hj
    by_cases e : t ≤ j ∧ j < t + (bn + 1)
    · rw [ra j e]; exact hd2 _ (by omega)
    · rw [rn j e]; exact hr2 j hj
  · rw [hqs]
    have := hcq.set (k := t) (x := q) (by omega)
    rw [Nat.zero_add] at this
    exact this
  · intro j hj
    by_cases e : j = t
    · subst e; rw [qa]; exact hql
    · rw [qn j e]; exact hq2 j hj
  · rw [e2, hv4, hv3]; exact hlt2
  · have s1 := seg_head q2 t m (by omega)
    have s2 : seg q2 (t + 1) m = seg q0 (t + 1) m := seg_congr _ _ (fun j hj _ => qn j (by omega))
    rw [s2, qa] at s1
    rw [e2, hv4, hv3, s1, hX, hlow, hsplit, Nat.mul_add]
    have e := Nat.div_add_mod V D
    rw [← hq] at e
    have : 4294967296 ^ t * (D * q + V % D) = 4294967296 ^ t * V := by rw [e]
    rw [Nat.mul_add] at this
    have e3 : D * (q * 4294967296 ^ t) = 4294967296 ^ t * (D * q) := by rw [← Nat.mul_assoc, Nat.mul_comm]
    omega

end Go.Proofs.YtkjdoknmmiaapaaDoor
