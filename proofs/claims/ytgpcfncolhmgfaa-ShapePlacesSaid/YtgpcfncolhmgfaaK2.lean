/-
  Plain mathematics of rows of limbs: parts of a row, shifts down, the long division's invariant.
  Package nat: divideLong, by contract: the quotient and the rest of two rows.
  Package nat: divideLong, the walk.
  Package nat: divideLong, by contract: quotient and rest of two numbers in rows of their own.
  Package nat: Zero, One, Even, Limbs, Bits, Cmp, by contract, over the numbers that they are.
  Package nat: Cmp, Add, Sub, Mul, by contract, over the numbers that they are.
  Package nat: Add, Sub, Mul, by contract, over the numbers that they are.
  Package nat: Mul, by contract, over the numbers that they are.
  Package nat: Of and DivMod, by contract, over the numbers that they are.
-/
import Derived.Test.YtgpcfncolhmgfaaK1
import Derived.Test.YtgpcfncolhmgfaaShelf
import Derived.Lib.ItoaNum
import Derived.IntWalk
namespace Go.Proofs.Ytgpcfncolhmgfaa
open Go.RowKit

theorem pow_add32 (a b : Nat) : (4294967296 : Nat) ^ (a + b) = 4294967296 ^ a * 4294967296 ^ b := Nat.pow_add ..
theorem pow_pos32 (a : Nat) : 0 < (4294967296 : Nat) ^ a := Nat.pow_pos (by omega)
theorem pow_mono32 {a b : Nat} (h : a ≤ b) : (4294967296 : Nat) ^ a ≤ 4294967296 ^ b := Nat.pow_le_pow_right (by omega) h

theorem val_shift (f : Nat → Nat) (a : Nat) : ∀ k, val f (a + k) = val f a + 4294967296 ^ a * val (fun j => f (a + j)) k
  | 0 => by simp [val]
  | k + 1 => by
    rw [← Nat.add_assoc, val, val_shift f a k, val, pow_add32, Nat.mul_add]
    have : f (a + k) * (4294967296 ^ a * 4294967296 ^ k) = 4294967296 ^ a * (f (a + k) * 4294967296 ^ k) := by
      rw [← Nat.mul_assoc, Nat.mul_comm (f (a + k)), Nat.mul_assoc]
    omega

theorem val_mono (f : Nat → Nat) {k n : Nat} (h : k ≤ n) : val f k ≤ val f n := by
  obtain ⟨m, rfl⟩ : ∃ m, n = k + m := ⟨n - k, by omega⟩
  rw [val_shift]; omega

/-- A number below 2^(32 k) lies in its first k limbs. -/
theorem val_low (f : Nat → Nat) {k n : Nat} (h : k ≤ n) (hv : val f n < 4294967296 ^ k) : val f n = val f k := by
  obtain ⟨m, rfl⟩ : ∃ m, n = k + m := ⟨n - k, by omega⟩
  rw [val_shift] at hv ⊢
  rcases Nat.eq_zero_or_pos (val (fun j => f (k + j)) m) with h0 | h0
  · rw [h0]; rfl
  · have : 4294967296 ^ k * 1 ≤ 4294967296 ^ k * val (fun j => f (k + j)) m := Nat.mul_le_mul_left _ h0
    omega

theorem val_top (f : Nat → Nat) (n : Nat) (hn : 0 < n) (h : f (n - 1) ≠ 0) : 4294967296 ^ (n - 1) ≤ val f n := by
  obtain ⟨m, rfl⟩ : ∃ m, n = m + 1 := ⟨n - 1, by omega⟩
  rw [val, Nat.add_sub_cancel]
  rw [Nat.add_sub_cancel] at h
  have : 1 * 4294967296 ^ m ≤ f m * 4294967296 ^ m := Nat.mul_le_mul_right _ (by omega)
  omega

theorem down_term (x y u : Nat) (hu : u < 32) : (x / 2 ^ u + y * 2 ^ (32 - u) % 4294967296) * 2 ^ u + x % 2 ^ u = x + y % 2 ^ u * 4294967296 := by
  have h2 := two32 hu
  have e : y * 2 ^ (32 - u) % 4294967296 = y % 2 ^ u * 2 ^ (32 - u) := by
    have := Nat.mul_mod_mul_right (2 ^ (32 - u)) y (2 ^ u)
    rw [Nat.mul_comm (2 ^ u), h2] at this
    exact this
  rw [e, Nat.add_mul, Nat.mul_assoc (y % 2 ^ u), h2]
  have := Nat.div_add_mod x (2 ^ u)
  rw [Nat.mul_comm] at this
  omega

/-- A row shifted down is the number divided. -/
theorem down_val (s d : Nat → Nat) (n u : Nat) (hu : u < 32) (h : DownR s n u n d) : ∀ k, k ≤ n → 0 < k → 2 ^ u * val d k + s 0 % 2 ^ u = val s k + (if k < n then s k % 2 ^ u * 4294967296 ^ k else 0) := by
  intro k
  induction k with
  | zero => intro _ h; omega
  | succ k ih =>
    intro hk _
    have hd := h k (by omega)
    have ht := down_term (s k) (nxt s n k) u hu
    rw [val, val, hd]
    have hn : nxt s n k % 2 ^ u * 4294967296 * 4294967296 ^ k = if k + 1 < n then s (k + 1) % 2 ^ u * 4294967296 ^ (k + 1) else 0 := by
      unfold nxt
      split
      · rw [pow_succ32, Nat.mul_assoc]
      · simp
    rw [← hn]
    generalize s k / 2 ^ u + nxt s n k * 2 ^ (32 - u) % 4294967296 = D at *
    have hm : (D * 2 ^ u + s k % 2 ^ u) * 4294967296 ^ k = (s k + nxt s n k % 2 ^ u * 4294967296) * 4294967296 ^ k := by rw [ht]
    rw [Nat.add_mul, Nat.add_mul] at hm
    have hc : D * 2 ^ u * 4294967296 ^ k = 2 ^ u * (D * 4294967296 ^ k) := by rw [Nat.mul_comm D, Nat.mul_assoc]
    rw [Nat.mul_add]
    rcases Nat.eq_zero_or_pos k with h0 | h0
    · subst h0; simp only [val, Nat.pow_zero, Nat.mul_one, Nat.mul_zero, Nat.zero_add] at *; omega
    · have := ih (by omega) h0
      rw [if_pos (by omega)] at this
      omega

theorem down_div (s d : Nat → Nat) (n u : Nat) (hu : u < 32) (h : DownR s n u n d) : val d n = val s n / 2 ^ u := by
  rcases Nat.eq_zero_or_pos n with h0 | h0
  · subst h0; simp [val]
  · have := down_val s d n u hu h n (Nat.le_refl _) h0
    rw [if_neg (by omega)] at this
    have hp := Nat.mod_lt (s 0) (Nat.two_pow_pos u)
    refine (Nat.div_eq_of_lt_le ?_ ?_).symm
    · rw [Nat.mul_comm]; omega
    · rw [Nat.mul_comm, Nat.mul_add]; omega

/-- Nothing is lost where the top limb has room. -/
theorem up_fits {s d : Nat → Nat} {n u c : Nat} (hd : UpR s u n c d) (hl : val s n * 2 ^ u < 4294967296 ^ n) : c = 0 ∧ val d n = val s n * 2 ^ u := by
  unfold UpR at hd
  rcases Nat.eq_zero_or_pos c with h | h
  · subst h; omega
  · have : 1 * 4294967296 ^ n ≤ c * 4294967296 ^ n := Nat.mul_le_mul_right _ h
    omega

theorem lz_spec {x : Nat} (h0 : 0 < x) (h1 : x < 4294967296) : ∃ u, (32 - (Lib.bitLen x : Int)) = ((u : Nat) : Int) ∧ u < 32 ∧ (x + 1) * 2 ^ u ≤ 4294967296 := by
  obtain ⟨a, b, c⟩ := Lib.bitLenAux_bounds 64 x (by omega) (by omega)
  have hle : Lib.bitLen x ≤ 32 := Lib.bitLen_le x 32 (by omega) (by omega)
  refine ⟨32 - Lib.bitLen x, by omega, ?_, ?_⟩
  · unfold Lib.bitLen at *; omega
  · have : x + 1 ≤ 2 ^ Lib.bitLen x := c
    have h2 : 2 ^ Lib.bitLen x * 2 ^ (32 - Lib.bitLen x) = 4294967296 := by rw [← Nat.pow_add, show Lib.bitLen x + (32 - Lib.bitLen x) = 32 by omega]
    rw [← h2]
    exact Nat.mul_le_mul_right _ this

theorem up_room {s : Nat → Nat} {n u : Nat} (hn : 0 < n) (hs : ∀ j, j < n → s j < 4294967296) (hu : (s (n - 1) + 1) * 2 ^ u ≤ 4294967296) : val s n * 2 ^ u < 4294967296 ^ n := by
  obtain ⟨m, rfl⟩ : ∃ m, n = m + 1 := ⟨n - 1, by omega⟩
  rw [Nat.add_sub_cancel] at hu
  have h1 := val_lt s m (fun j hj => hs j (by omega))
  rw [val, pow_succ32]
  have h2 : val s m + s m * 4294967296 ^ m < (s m + 1) * 4294967296 ^ m := by rw [Nat.add_mul]; omega
  have h3 : (val s m + s m * 4294967296 ^ m) * 2 ^ u < (s m + 1) * 4294967296 ^ m * 2 ^ u := Nat.mul_lt_mul_of_pos_right h2 (Nat.two_pow_pos u)
  have h4 : (s m + 1) * 4294967296 ^ m * 2 ^ u = (s m + 1) * 2 ^ u * 4294967296 ^ m := by rw [Nat.mul_assoc, Nat.mul_comm (4294967296 ^ m), ← Nat.mul_assoc]
  have h5 : (s m + 1) * 2 ^ u * 4294967296 ^ m ≤ 4294967296 * 4294967296 ^ m := Nat.mul_le_mul_right _ hu
  omega

end Go.Proofs.Ytgpcfncolhmgfaa

namespace Go.Proofs.Ytgpcfncolhmgfaa
open Go.RowKit

/-- At the head of round i of the long division: what is left in the row rb is below D * B^(m-i); what was taken stands in qb. -/
structure LongInv (w wr : World) (rb qb bb an1 bn m : Nat) (d : Nat → Nat) (X D i : Nat) : Prop where
  below : Below w.heap.size w wr
  rb_ge : w.heap.size ≤ rb
  qb_ge : w.heap.size ≤ qb
  rb_lt : rb < wr.heap.size
  qb_lt : qb < wr.heap.size
  rq : rb ≠ qb
  rbb : bb ≠ rb
  qbb : bb ≠ qb
  freeR : Free wr rb
  freeQ : Free wr qb
  div : SlAt wr .u32 4294967296 (some ⟨bb, 0, none⟩) bn bn d
  rows : ∃ r q, Cells wr .u32 rb 0 an1 r ∧ (∀ j, j < an1 → r j < 4294967296) ∧ Cells wr .u32 qb 0 m q ∧ (∀ j, j < m → q j < 4294967296) ∧ val r an1 < D * 4294967296 ^ (m - i) ∧ X = val r an1 + D * seg q (m - i) m

theorem LongInv.part {w wr : World} {rb qb bb an1 bn m : Nat} {d : Nat → Nat} {X D i : Nat} (h : LongInv w wr rb qb bb an1 bn m d X D i) (hi : i < m) (hm : m + bn = an1) (hD : D < 4294967296 ^ bn) (hn : an1 ≤ 1000000) :
    ∃ f, SlAt wr .u32 4294967296 (some ⟨rb, m - 1 - i, none⟩) (bn + 1) (an1 - (m - 1 - i)) f ∧ val f (bn + 1) < D * 4294967296 ∧
      ∀ w2 q, q = val f (bn + 1) / D → q < 4294967296 → RowIs rb (m - 1 - i) (bn + 1) wr w2 (val f (bn + 1) % D) → LongInv w (w2.setCell ⟨qb, m - 1 - i, none⟩ (.int .u32 q)) rb qb bb an1 bn m d X D (i + 1) := by
  obtain ⟨r, q0, hr1, hr2, hq1, hq2, hv, hX⟩ := h.rows
  obtain ⟨t, ht⟩ : ∃ t, m - 1 - i = t := ⟨_, rfl⟩
  have e1 : m - i = t + 1 := by omega
  have e2 : m - (i + 1) = t := by omega
  rw [e1] at hv hX
  rw [ht]
  have hlow : val r an1 = val r (t + (bn + 1)) := val_low r (by omega) (by
    have : D * 4294967296 ^ (t + 1) ≤ 4294967296 ^ bn * 4294967296 ^ (t + 1) := Nat.mul_le_mul_right _ (by omega)
    rw [← pow_add32, show bn + (t + 1) = t + (bn + 1) by omega] at this
    omega)
  have hsplit := val_shift r t (bn + 1)
  obtain ⟨V, hV⟩ : ∃ V, val (fun j => r (t + j)) (bn + 1) = V := ⟨_, rfl⟩
  rw [hV] at hsplit
  have hVl : V < D * 4294967296 := by
    rw [pow_succ32, hlow, hsplit] at hv
    have : 4294967296 ^ t * V < 4294967296 ^ t * (D * 4294967296) := by
      have e : D * (4294967296 * 4294967296 ^ t) = 4294967296 ^ t * (D * 4294967296) := by rw [Nat.mul_comm (4294967296 ^ t), Nat.mul_assoc]
      omega
    exact Nat.lt_of_mul_lt_mul_left this
  have hrt := val_lt r t (fun j hj => hr2 j (by omega))
  refine ⟨fun j => r (t + j), ⟨by omega, by omega, fun j hj => hr2 _ (by omega), .inr ⟨rb, t, rfl, h.rb_lt, fun j hj => by have := hr1 (t + j) (by omega); rw [Nat.zero_add] at this; exact this⟩⟩, by rw [hV]; exact hVl, ?_⟩
  intro w2 q hq hql hrow
  rw [hV] at hq hrow
  obtain ⟨hw, hf, d2, hd1, hd2, hd3⟩ := hrow
  have hw2 : Below w.heap.size w w2 := hw.below h.below h.rb_ge h.below.size
  have hqb2 : qb < w2.heap.size := Nat.lt_of_lt_of_le h.qb_lt hw.size
  have hfq : Free w2 qb := h.freeQ.wrote hw h.qb_lt
  have hcq : Cells w2 .u32 qb 0 m q0 := hq1.wrote hw h.qb_lt (fun e => absurd e.symm h.rq)
  have hsc : Wrote qb t (t + 1) w2 (w2.setCell ⟨qb, t, none⟩ (.int .u32 q)) := (Wrote.refl _ _ _ _).setCell (Nat.le_refl _) (by omega) _
  have hD0 : 0 < D := by
    rcases Nat.eq_zero_or_pos D with h0 | h0
    · rw [h0] at hVl; omega
    · exact h0
  obtain ⟨r2, ra, rn⟩ : ∃ r2 : Nat → Nat, (∀ j, t ≤ j ∧ j < t + (bn + 1) → r2 j = d2 (j - t)) ∧ (∀ j, ¬ (t ≤ j ∧ j < t + (bn + 1)) → r2 j = r j) :=
    ⟨fun j => if t ≤ j ∧ j < t + (bn + 1) then d2 (j - t) else r j, fun j hj => if_pos hj, fun j hj => if_neg hj⟩
  obtain ⟨q2, hqs, qa, qn⟩ : ∃ q2 : Nat → Nat, q2 = (fun j => if j = t then q else q0 j) ∧ q2 t = q ∧ (∀ j, j ≠ t → q2 j = q0 j) := ⟨_, rfl, if_pos rfl, fun j hj => if_neg hj⟩
  have hrc : Cells w2 .u32 rb 0 an1 r2 := by
    intro j hj
    by_cases e : t ≤ j ∧ j < t + (bn + 1)
    · rw [ra j e]
      have := hd1 (j - t) (by omega)
      rw [show t + (j - t) = j by omega] at this
      rw [Nat.zero_add]; exact this
    · rw [rn j e, Nat.zero_add, hw.cell j (by omega)]
      have := hr1 j hj
      rw [Nat.zero_add] at this
      exact this
  have hv1 : val r2 t = val r t := val_congr t (fun j hj => rn j (by omega))
  have hv2 : val (fun j => r2 (t + j)) (bn + 1) = V % D := by
    rw [← hd3]; exact val_congr _ (fun j hj => by rw [ra _ (by omega), Nat.add_sub_cancel_left])
  have hv3 := val_shift r2 t (bn + 1)
  rw [hv1, hv2] at hv3
  have hmd := Nat.mod_lt V hD0
  have hlt2 : val r t + 4294967296 ^ t * (V % D) < D * 4294967296 ^ t := by
    have : 4294967296 ^ t * (V % D + 1) ≤ 4294967296 ^ t * D := Nat.mul_le_mul_left _ hmd
    rw [Nat.mul_add, Nat.mul_comm _ D] at this
    omega
  have hv4 : val r2 an1 = val r2 (t + (bn + 1)) := by
    obtain ⟨k, hk⟩ : ∃ k, an1 = t + (bn + 1) + k := ⟨an1 - (t + (bn + 1)), by omega⟩
    have z0 := val_shift r (t + (bn + 1)) k
    rw [← hk, hlow] at z0
    have z1 : val (fun j => r (t + (bn + 1) + j)) k = 0 := by
      rcases Nat.eq_zero_or_pos (val (fun j => r (t + (bn + 1) + j)) k) with z | z
      · exact z
      · have := Nat.mul_le_mul (pow_pos32 (t + (bn + 1))) z
        omega
    have z2 := val_shift r2 (t + (bn + 1)) k
    have z3 : val (fun j => r2 (t + (bn + 1) + j)) k = 0 := by
      rw [← z1]; exact val_congr k (fun j _ => rn _ (by omega))
    rw [z3, ← hk] at z2
    rw [z2]; omega
  refine ⟨?_, h.rb_ge, h.qb_ge, ?_, ?_, h.rq, h.rbb, h.qbb, ?_, ?_, ?_, r2, q2, hrc.wrote hsc (Nat.lt_of_lt_of_le h.rb_lt hw.size) (fun e => absurd e h.rq), ?_, ?_, ?_, ?_, ?_⟩
  · exact hsc.below hw2 h.qb_ge hw2.size
  · simpa using Nat.lt_of_lt_of_le h.rb_lt hw.size
  · simpa using hqb2
  · exact hf.set _ _
  · exact hfq.set _ _
  · exact (h.div.wrote hw (fun x hx => by cases hx; exact h.rbb)).wrote hsc (fun x hx => by cases hx; exact h.qbb)
  · intro j hj
    by_cases e : t ≤ j ∧ j < t + (bn + 1)
    · rw [ra j e]; exact hd2 _ (by omega)
    · rw [rn j e]; exact hr2 j hj
  · rw [hqs]
    have := hcq.set (k := t) (x := q) (by omega)
    rw [Nat.zero_add] at this
    exact this
  · intro j hj
    by_cases e : j = t
    · subst e; rw [qa]; exact hql
    · rw [qn j e]; exact hq2 j hj
  · rw [e2, hv4, hv3]; exact hlt2
  · have s1 := seg_head q2 t m (by omega)
    have s2 : seg q2 (t + 1) m = seg q0 (t + 1) m := seg_congr _ _ (fun j hj _ => qn j (by omega))
    rw [s2, qa] at s1
    rw [e2, hv4, hv3, s1, hX, hlow, hsplit, Nat.mul_add]
    have e := Nat.div_add_mod V D
    rw [← hq] at e
    have : 4294967296 ^ t * (D * q + V % D) = 4294967296 ^ t * V := by rw [e]
    rw [Nat.mul_add] at this
    have e3 : D * (q * 4294967296 ^ t) = 4294967296 ^ t * (D * q) := by rw [← Nat.mul_assoc, Nat.mul_comm]
    omega

end Go.Proofs.Ytgpcfncolhmgfaa

namespace Go.Proofs.Ytgpcfncolhmgfaa
open Go.RowKit

/-- A row of the call's own. -/
structure Own (w w' : World) (b n : Nat) (N : Nat) : Prop where
  ge : w.heap.size ≤ b
  lt : b < w'.heap.size
  free : Free w' b
  row : ∃ f, Cells w' .u32 b 0 n f ∧ (∀ j, j < n → f j < 4294967296) ∧ val f n = N

theorem Own.below {w w1 w2 : World} {b n N : Nat} (h : Own w w1 b n N) (hb : Below w1.heap.size w1 w2) : Own w w2 b n N := by
  obtain ⟨f, h1, h2, h3⟩ := h.row
  exact ⟨h.ge, Nat.lt_of_lt_of_le h.lt hb.size, h.free.below hb h.lt, f, h1.below hb h.lt, h2, h3⟩
theorem Own.wrote {w w1 w2 : World} {b n N k lo hi : Nat} (h : Own w w1 b n N) (hb : Wrote k lo hi w1 w2) (hk : b ≠ k) : Own w w2 b n N := by
  obtain ⟨f, h1, h2, h3⟩ := h.row
  exact ⟨h.ge, Nat.lt_of_lt_of_le h.lt hb.size, h.free.wrote hb h.lt, f, h1.wrote hb h.lt (fun e => absurd e hk), h2, h3⟩
theorem Own.slAt {w w1 : World} {b n N : Nat} (h : Own w w1 b n N) (hn : n ≤ 1000000) : ∃ f, SlAt w1 .u32 4294967296 (some ⟨b, 0, none⟩) n n f ∧ val f n = N := by
  obtain ⟨f, h1, h2, h3⟩ := h.row
  exact ⟨f, ⟨Nat.le_refl _, hn, h2, .inr ⟨b, 0, rfl, h.lt, h1⟩⟩, h3⟩

end Go.Proofs.Ytgpcfncolhmgfaa

namespace Go.Proofs.Ytgpcfncolhmgfaa
open Go.RowKit

theorem LongInv.start {w w4 : World} {rb bb an1 bn m X D : Nat} {z : List Value} (hr : Own w w4 rb an1 X) (hd : Own w w4 bb bn D) (hb : Below w.heap.size w w4) (hne : bb ≠ rb) (hz0 : ∀ j, j < m → z[j]? = some (.int .u32 0))
    (hX : X < D * 4294967296 ^ m) (hbn : bn ≤ 1000000) : ∃ d, val d bn = D ∧ LongInv w (w4.alloc (.cells z.toArray 53)) rb w4.heap.size bb an1 bn m d X D 0 := by
  have hal : Below w4.heap.size w4 (w4.alloc (.cells z.toArray 53)) := (Below.refl _ _).alloc (Nat.le_refl _) _
  have hnew := heap_new w4 (.cells z.toArray 53)
  obtain ⟨d, hd1, hd2⟩ := hd.slAt hbn
  obtain ⟨r, hr1, hr2, hr3⟩ := hr.row
  refine ⟨d, hd2, hb.alloc hb.size _, hr.ge, hb.size, ?_, ?_, ?_, hne, ?_, hr.free.below hal hr.lt, Free.of_block hnew, hd1.below hal, r, fun _ => 0, hr1.below hal hr.lt, hr2, Cells.of_block hnew hz0, fun _ _ => by show 0 < _; omega, ?_, ?_⟩
  · have := hr.lt; simp; omega
  · simp
  · have := hr.lt; omega
  · have := hd.lt; omega
  · rw [hr3]; exact hX
  · rw [hr3, Nat.sub_zero, seg_self _ _ _ (Nat.le_refl _)]; omega

theorem LongInv.last {w wr : World} {rb qb bb an1 bn m : Nat} {d : Nat → Nat} {X D : Nat} (h : LongInv w wr rb qb bb an1 bn m d X D m) (hD : D < 4294967296 ^ bn) (hbn : bn ≤ an1) :
    Own w wr rb bn (X % D) ∧ Own w wr qb m (X / D) := by
  obtain ⟨r, q, h1, h2, h3, h4, h5, h6⟩ := h.rows
  rw [Nat.sub_self] at h5 h6
  rw [seg_zero] at h6
  rw [Nat.pow_zero, Nat.mul_one] at h5
  have hv := val_low r hbn (by omega)
  rw [hv] at h5 h6
  have e1 : X / D = val q m := by
    rw [h6, Nat.add_comm, Nat.mul_add_div (by omega), Nat.div_eq_of_lt h5, Nat.add_zero]
  have e2 : X % D = val r bn := by
    rw [h6, Nat.add_comm, Nat.mul_add_mod, Nat.mod_eq_of_lt h5]
  exact ⟨⟨h.rb_ge, h.rb_lt, h.freeR, r, fun j hj => h1 j (by omega), fun j hj => h2 j (by omega), e2.symm⟩, ⟨h.qb_ge, h.qb_lt, h.freeQ, q, h3, h4, e1.symm⟩⟩

/-- The two rows of a long division. -/
def LongEnd (w w' : World) (e : Ending) (m bn an1 A B : Nat) : Prop := ∃ qb rb, e = .returned (.tuple #[.slice (some ⟨qb, 0, none⟩) m m, .slice (some ⟨rb, 0, none⟩) bn an1]) ∧ Own w w' qb m (A / B) ∧ Own w w' rb bn (A % B) ∧ Below w.heap.size w w'

end Go.Proofs.Ytgpcfncolhmgfaa

namespace Go.Proofs.Ytgpcfncolhmgfaa
open Go.RowKit

theorem below_alloc {w w' : World} {o : Obj} (h : Below (w.alloc o).heap.size (w.alloc o) w') : Below w.heap.size w w' :=
  ((Below.refl _ _).alloc (Nat.le_refl _) o).trans (h.mono (by rw [World.size_alloc]; omega))

theorem nat_zero {n : Nat} {f : Nat → Nat} {N : Nat} (hv : val f n = N) (ht : n = 0 ∨ f (n - 1) ≠ 0) : N = 0 ↔ n = 0 := by
  constructor
  · intro h
    rcases Nat.eq_zero_or_pos n with h0 | h0
    · exact h0
    · have := val_top f n h0 (ht.resolve_left (by omega))
      have := pow_pos32 (n - 1)
      omega
  · intro h; subst h; exact hv.symm

theorem nat_len_lt {na nb : Nat} {f g : Nat → Nat} (hf : ∀ j, j < na → f j < 4294967296) (hb : nb = 0 ∨ g (nb - 1) ≠ 0) (h : na < nb) : val f na < val g nb := by
  have h1 := val_lt f na hf
  have h2 := val_top g nb (by omega) (hb.resolve_left (by omega))
  have h3 := pow_mono32 (show na ≤ nb - 1 by omega)
  omega

theorem val_lt_of {f g : Nat → Nat} {t n : Nat} (ht : t < n) (hf : ∀ j, j < n → f j < 4294967296) (he : ∀ j, t < j → j < n → f j = g j) (h : f t < g t) : val f n < val g n := by
  rw [val_seg f (t + 1) n (by omega), val_seg g (t + 1) n (by omega), seg_congr (t + 1) n (f := f) (g := g) (fun j h1 h2 => he j (by omega) h2), val, val]
  have h1 := val_lt f t (fun j hj => hf j (by omega))
  have h2 : (f t + 1) * 4294967296 ^ t ≤ g t * 4294967296 ^ t := Nat.mul_le_mul_right _ h
  rw [Nat.add_mul] at h2
  omega

theorem val_even {f : Nat → Nat} {n : Nat} (h : 0 < n) : val f n % 2 = f 0 % 2 := by
  obtain ⟨m, rfl⟩ : ∃ m, n = 1 + m := ⟨n - 1, by omega⟩
  rw [val_shift]
  simp only [val, Nat.pow_zero, Nat.pow_one]
  omega

end Go.Proofs.Ytgpcfncolhmgfaa

namespace Go.Proofs.Ytgpcfncolhmgfaa
open Go.RowKit

def cmpI (a b : Nat) : Int := if a < b then -1 else if a = b then 0 else 1

def ordI (t : Bool) : Int := if t then -1 else 1
theorem below_drewN {B : Nat} {w w' : World} (h : Below B w w') (q : Nat) : Below B w (w'.drewN q) := h.trans ⟨rfl, rfl, rfl, Nat.le_refl _, fun _ _ => rfl⟩

end Go.Proofs.Ytgpcfncolhmgfaa

namespace Go.Proofs.Ytgpcfncolhmgfaa
open Go.RowKit

theorem val_pad' {p : Nat → Nat} {pn n : Nat} (h : pn ≤ n) : val (fun j => if j < pn then p j else 0) n = val p pn := by rw [val_pad, Nat.min_eq_right h]

theorem NatIs.len {w : World} {a : Option Addr} {n c : Nat} {f : Nat → Nat} (hs : SlAt w .u32 4294967296 a n c f) : n ≤ 1000000 := by have := hs.1; have := hs.2.1; omega

theorem SlAt.old {w : World} {ki : IntKind} {m : Nat} {a : Option Addr} {n c : Nat} {f : Nat → Nat} (h : SlAt w ki m a n c f) : ∀ x, a = some x → x.block < w.heap.size := by
  intro x hx
  rcases h.2.2.2 with ⟨h4, _⟩ | ⟨b, off, h4, h5, _⟩
  · rw [h4] at hx; cases hx
  · rw [h4] at hx; cases hx; exact h5

/-- A number of the call's own, as one is told. -/
def NatOut (w w' : World) (e : Ending) (N : Nat) : Prop := ∃ v, e = .returned v ∧ NatIs w' v N ∧ Below w.heap.size w w'

/-- A cell of the call's own: what it holds, and that it may be written. -/
structure Slot (w : World) (k : Nat) (v : Value) : Prop where
  cell : w.cell? ⟨k, 0, none⟩ = some v
  free : w.frozen? ⟨k, 0, none⟩ = false
  lt : k < w.heap.size
theorem Slot.below {w w' : World} {k : Nat} {v : Value} (h : Slot w k v) (hb : Below w.heap.size w w') : Slot w' k v :=
  ⟨(hb.cell (p := ⟨k, 0, none⟩) h.lt).trans h.cell, (hb.frozen (p := ⟨k, 0, none⟩) h.lt).trans h.free, Nat.lt_of_lt_of_le h.lt hb.size⟩
theorem Slot.wrote {w w' : World} {k b lo hi : Nat} {v : Value} (h : Slot w k v) (hb : Wrote b lo hi w w') (hne : k ≠ b) : Slot w' k v := by
  have e := hb.block k h.lt hne
  exact ⟨(World.cell?_of_block (w := w) (w' := w') (a := ⟨k, 0, none⟩) e).trans h.cell, (World.frozen?_of_block (w := w) (w' := w') (a := ⟨k, 0, none⟩) e).trans h.free, Nat.lt_of_lt_of_le h.lt hb.size⟩

theorem natOut_store {w w3 : World} {k : Nat} {a : Option Addr} {n c : Nat} {f : Nat → Nat} {N : Nat} (hb : Below w.heap.size w w3) (hk : w.heap.size ≤ k) (hs : SlAt w3 .u32 4294967296 a n c f) (hv : val f n = N) (ht : n = 0 ∨ f (n - 1) ≠ 0)
    (hd : ∀ x, a = some x → x.block ≠ k) (u : Value) : NatOut w (w3.setCell ⟨k, 0, none⟩ u) (.returned (.agg #[.slice a n c])) N :=
  ⟨_, rfl, ⟨a, n, c, f, rfl, hs.wrote ((Wrote.refl k 0 1 w3).setCell (Nat.le_refl _) (by omega) u) hd, hv, ht⟩, hb.setCell hk u⟩

theorem Slot.new (w : World) (x : Value) (t : TypeId) : Slot (w.alloc (.cells #[x] t)) w.heap.size x :=
  ⟨by rw [World.cell?_alloc_new]; rfl, World.frozen?_alloc_new _ _ _ _, by rw [World.size_alloc]; omega⟩
theorem Slot.alloc {w : World} {k : Nat} {v : Value} (h : Slot w k v) (o : Obj) : Slot (w.alloc o) k v := h.below ((Below.refl _ _).alloc (Nat.le_refl _) _)
theorem Slot.new1 (w : World) (o : Obj) (x : Value) (t : TypeId) : Slot ((w.alloc o).alloc (.cells #[x] t)) (w.heap.size + 1) x := by
  have := Slot.new (w.alloc o) x t; rw [World.size_alloc] at this; exact this
theorem Slot.new2 (w : World) (o o' : Obj) (x : Value) (t : TypeId) : Slot (((w.alloc o).alloc o').alloc (.cells #[x] t)) (w.heap.size + 1 + 1) x := by
  have := Slot.new ((w.alloc o).alloc o') x t; rw [World.size_alloc, World.size_alloc] at this; exact this
theorem below2 (w : World) (o o' : Obj) : Below w.heap.size w ((w.alloc o).alloc o') := ((Below.refl _ _).alloc (Nat.le_refl _) _).alloc (by rw [World.size_alloc]; omega) _
theorem below3 (w : World) (o o' o2 : Obj) : Below w.heap.size w (((w.alloc o).alloc o').alloc o2) := (below2 w o o').alloc (by rw [World.size_alloc, World.size_alloc]; omega) _

theorem slot3 (w : World) (x y z : Value) (t : TypeId) : Slot (((w.alloc (.cells #[x] t)).alloc (.cells #[y] t)).alloc (.cells #[z] t)) w.heap.size x ∧ Slot (((w.alloc (.cells #[x] t)).alloc (.cells #[y] t)).alloc (.cells #[z] t)) (w.heap.size + 1) y ∧
    Slot (((w.alloc (.cells #[x] t)).alloc (.cells #[y] t)).alloc (.cells #[z] t)) (w.heap.size + 1 + 1) z ∧ Below w.heap.size w (((w.alloc (.cells #[x] t)).alloc (.cells #[y] t)).alloc (.cells #[z] t)) :=
  ⟨((Slot.new w x t).alloc _).alloc _, (Slot.new1 w _ y t).alloc _, Slot.new2 w _ _ z t, below3 w _ _ _⟩

theorem NatIs.short {n : Nat} {f : Nat → Nat} {N k : Nat} (hv : val f n = N) (ht : n = 0 ∨ f (n - 1) ≠ 0) (hN : N < 4294967296 ^ k) : n ≤ k := by
  rcases Nat.lt_or_ge k n with h | h
  · have h1 := val_top f n (by omega) (ht.resolve_left (by omega))
    have h2 := pow_mono32 (show k ≤ n - 1 by omega)
    omega
  · exact h

/-- A difference, or none. -/
def SubOut (w w' : World) (e : Ending) (N M : Nat) : Prop := ∃ v, e = .returned (.tuple #[v, .bool (decide (M ≤ N))]) ∧ NatIs w' v (N - M) ∧ Below w.heap.size w w'

theorem cmp_neg {N M : Nat} (h : N < M) : cmpI N M = -1 := by unfold cmpI; rw [if_pos h]
theorem cmp_pos {N M : Nat} (h : M ≤ N) : ∃ k : Nat, cmpI N M = (k : Int) := by
  unfold cmpI; rw [if_neg (by omega)]; split
  · exact ⟨0, rfl⟩
  · exact ⟨1, rfl⟩

end Go.Proofs.Ytgpcfncolhmgfaa

namespace Go.Proofs.Ytgpcfncolhmgfaa
open Go.RowKit

structure MulInv (w wr : World) (x y : Value) (pb m na : Nat) (A : Nat) (g : Nat → Nat) (i : Nat) : Prop where
  below : Below w.heap.size w wr
  s1 : Slot wr w.heap.size x
  s2 : Slot wr (w.heap.size + 1) y
  s3 : Slot wr (w.heap.size + 1 + 1) (.slice none 0 0)
  lt : pb < wr.heap.size
  free : Free wr pb
  row : ∃ d, Cells wr .u32 pb 0 m d ∧ (∀ j, j < m → d j < 4294967296) ∧ val d (i + na) = A * val g i ∧ ∀ j, i + na ≤ j → d j = 0

theorem MulInv.next {w wr w2 : World} {x y : Value} {pb m na A : Nat} {f g : Nat → Nat} {i : Nat} {d : Nat → Nat} (h : MulInv w wr x y pb m na A g i) (hpb : w.heap.size + 3 ≤ pb) (hA : val f na = A) (hm : i + (na + 1) ≤ m)
    (hd : Cells wr .u32 pb 0 m d) (hdv : val d (i + na) = A * val g i) (hd0 : ∀ j, i + na ≤ j → d j = 0) (hdb : ∀ j, j < m → d j < 4294967296)
    (hr : RowU pb i (m - i) (fun j => d (i + j)) wr w2 (fun j => na < j) (MulEnd (fun j => d (i + j)) f (g i) na)) : MulInv w w2 x y pb m na A g (i + 1) := by
  obtain ⟨hw, hf, e, he, heb, heu, hev⟩ := hr
  have hne : ∀ k, k < w.heap.size + 3 → k ≠ pb := fun k hk => by omega
  obtain ⟨d2, hda, hdn⟩ : ∃ d2 : Nat → Nat, (∀ j, i ≤ j ∧ j < m → d2 j = e (j - i)) ∧ (∀ j, ¬ (i ≤ j ∧ j < m) → d2 j = d j) := ⟨fun j => if i ≤ j ∧ j < m then e (j - i) else d j, fun j hj => if_pos hj, fun j hj => if_neg hj⟩
  refine ⟨hw.below h.below (by omega) h.below.size, h.s1.wrote hw (hne _ (by omega)), h.s2.wrote hw (hne _ (by omega)), h.s3.wrote hw (hne _ (by omega)), Nat.lt_of_lt_of_le h.lt hw.size, hf, d2, ?_, ?_, ?_, ?_⟩
  · intro j hj
    rw [Nat.zero_add]
    by_cases c : i ≤ j ∧ j < m
    · rw [hda j c]
      have := he (j - i) (by omega)
      rw [show i + (j - i) = j by omega] at this
      exact this
    · rw [hdn j c, hw.cell j (by omega)]
      have := hd j hj
      rw [Nat.zero_add] at this
      exact this
  · intro j hj
    by_cases c : i ≤ j ∧ j < m
    · rw [hda j c]; exact heb _ (by omega)
    · rw [hdn j c]; exact hdb j hj
  · unfold MulEnd at hev
    rw [show i + 1 + na = i + (na + 1) by omega, val_shift, val_congr i (f := d2) (g := d) (fun j hj => hdn j (by omega)),
      val_congr (na + 1) (f := fun j => d2 (i + j)) (g := e) (fun j hj => by show d2 (i + j) = _; rw [hda _ (by omega), Nat.add_sub_cancel_left]), hev, hA, val]
    rw [val_shift] at hdv
    rw [Nat.mul_add, Nat.mul_add]
    have e1 : A * (g i * 4294967296 ^ i) = 4294967296 ^ i * (g i * A) := by rw [Nat.mul_comm A, Nat.mul_comm (4294967296 ^ i), Nat.mul_right_comm]
    omega
  · intro j hj
    by_cases c : i ≤ j ∧ j < m
    · rw [hda j c]
      have := heu (j - i) (by omega)
      rw [this]
      show d (i + (j - i)) = 0
      exact hd0 _ (by omega)
    · rw [hdn j c]; exact hd0 j (by omega)

end Go.Proofs.Ytgpcfncolhmgfaa

namespace Go.Proofs.Ytgpcfncolhmgfaa
open Go.RowKit

/-- Of, with where its limbs lie: in new memory. -/
def OfOut (w w' : World) (e : Ending) (x : Nat) : Prop := ∃ a n c f, e = .returned (.agg #[.slice a n c]) ∧ SlAt w' .u32 4294967296 a n c f ∧ val f n = x ∧ (n = 0 ∨ f (n - 1) ≠ 0) ∧ (∀ y, a = some y → w.heap.size ≤ y.block) ∧ Below w.heap.size w w'

def modz (N M : Nat) : Nat := if M = 0 then 0 else N % M
/-- Quotient, rest, and whether there is one. -/
def DivOut (w w' : World) (e : Ending) (N M : Nat) : Prop := ∃ v u, e = .returned (.tuple #[v, u, .bool (decide (M ≠ 0))]) ∧ NatIs w' v (N / M) ∧ NatIs w' u (modz N M) ∧ Below w.heap.size w w'

theorem divOut_store {w w5 : World} {k1 k2 : Nat} {a1 a2 : Option Addr} {n1 c1 n2 c2 : Nat} {f1 f2 : Nat → Nat} {N M : Nat} (hM : M ≠ 0) (hb : Below w.heap.size w w5) (hk1 : w.heap.size ≤ k1) (hk2 : w.heap.size ≤ k2)
    (hs1 : SlAt w5 .u32 4294967296 a1 n1 c1 f1) (hv1 : val f1 n1 = N / M) (ht1 : n1 = 0 ∨ f1 (n1 - 1) ≠ 0) (hd1 : ∀ x, a1 = some x → x.block ≠ k1 ∧ x.block ≠ k2)
    (hs2 : SlAt w5 .u32 4294967296 a2 n2 c2 f2) (hv2 : val f2 n2 = N % M) (ht2 : n2 = 0 ∨ f2 (n2 - 1) ≠ 0) (hd2 : ∀ x, a2 = some x → x.block ≠ k1 ∧ x.block ≠ k2) (u1 u2 : Value) :
    DivOut w ((w5.setCell ⟨k1, 0, none⟩ u1).setCell ⟨k2, 0, none⟩ u2) (.returned (.tuple #[.agg #[.slice a1 n1 c1], .agg #[.slice a2 n2 c2], .bool true])) N M := by
  have q1 : Wrote k1 0 1 w5 (w5.setCell ⟨k1, 0, none⟩ u1) := (Wrote.refl k1 0 1 w5).setCell (Nat.le_refl _) (by omega) u1
  have q2 : Wrote k2 0 1 (w5.setCell ⟨k1, 0, none⟩ u1) ((w5.setCell ⟨k1, 0, none⟩ u1).setCell ⟨k2, 0, none⟩ u2) := (Wrote.refl k2 0 1 _).setCell (Nat.le_refl _) (by omega) u2
  refine ⟨_, _, by rw [show decide (M ≠ 0) = true by simp [hM]], ⟨a1, n1, c1, f1, rfl, (hs1.wrote q1 (fun x hx => (hd1 x hx).1)).wrote q2 (fun x hx => (hd1 x hx).2), hv1, ht1⟩, ⟨a2, n2, c2, f2, rfl, (hs2.wrote q1 (fun x hx => (hd2 x hx).1)).wrote q2 (fun x hx => (hd2 x hx).2), ?_, ht2⟩, (hb.setCell hk1 u1).setCell hk2 u2⟩
  unfold modz; rw [if_neg hM]; exact hv2

theorem slot4 (w : World) (x y z z' : Value) (t : TypeId) : let W := ((((w.alloc (.cells #[x] t)).alloc (.cells #[y] t)).alloc (.cells #[z] t)).alloc (.cells #[z'] t))
    Slot W w.heap.size x ∧ Slot W (w.heap.size + 1) y ∧ Slot W (w.heap.size + 1 + 1) z ∧ Slot W (w.heap.size + 1 + 1 + 1) z' ∧ Below w.heap.size w W := by
  obtain ⟨a, b, c, d⟩ := slot3 w x y z t
  refine ⟨a.alloc _, b.alloc _, c.alloc _, ?_, d.alloc d.size _⟩
  have := Slot.new (((w.alloc (.cells #[x] t)).alloc (.cells #[y] t)).alloc (.cells #[z] t)) z' t
  rw [World.size_alloc, World.size_alloc, World.size_alloc] at this
  exact this

end Go.Proofs.Ytgpcfncolhmgfaa

