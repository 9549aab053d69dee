/-
  Plain mathematics of rows of limbs: parts of a row, shifts down, the long division's invariant.
-/
import Derived.Test.YtkjdoknmmiaapaaDoorNat7
import Derived.Test.YtkjdoknmmiaapaaDoorShelf
import Derived.Lib.ItoaNum
namespace Go.Proofs.YtkjdoknmmiaapaaDoor
open Go.RowKit

theorem pow_add32 (a b : Nat) : (4294967296 : Nat) ^ (a + b) = 4294967296 ^ a * 4294967296 ^ b := Nat.pow_add ..
theorem pow_pos32 (a : Nat) : 0 < (4294967296 : Nat) ^ a := Nat.pow_pos (by omega)
theorem pow_mono32 {a b : Nat} (h : a ≤ b) : (4294967296 : Nat) ^ a ≤ 4294967296 ^ b := Nat.pow_le_pow_right (by omega) h

theorem val_shift (f : Nat → Nat) (a : Nat) : ∀ k, val f (a + k) = val f a + 4294967296 ^ a * val (fun j => f (a + j)) k
  | 0 => by simp [val]
  | k + 1 => by
    rw [← Nat.add_assoc, val, val_shift f a k, val, pow_add32, Nat.mul_add]
    have : f (a + k) * (4294967296 ^ a * 4294967296 ^ k) = 4294967296 ^ a * (f (a + k) * 4294967296 ^ k) := by
      rw [← Nat.mul_assoc, Nat.mul_comm (f (a + k)), Nat.mul_assoc]
    omega

theorem val_mono (f : Nat → Nat) {k n : Nat} (h : k ≤ n) : val f k ≤ val f n := by
  obtain ⟨m, rfl⟩ : ∃ m, n = k + m := ⟨n - k, by omega⟩
  rw [val_shift]; omega

/-- A number below 2^(32 k) lies in its first k limbs. -/
theorem val_low (f : Nat → Nat) {k n : Nat} (h : k ≤ n) (hv : val f n < 4294967296 ^ k) : val f n = val f k := by
  obtain ⟨m, rfl⟩ : ∃ m, n = k + m := ⟨n - k, by omega⟩
  rw [val_shift] at hv ⊢
  rcases Nat.eq_zero_or_pos (val (fun j => f (k + j)) m) with h0 | h0
  · rw [h0]; rfl
  · have : 4294967296 ^ k * 1 ≤ 4294967296 ^ k * val (fun j => f (k + j)) m := Nat.mul_le_mul_left _ h0
    omega

theorem val_top (f : Nat → Nat) (n : Nat) (hn : 0 < n) (h : f (n - 1) ≠ 0) : 4294967296 ^ (n - 1) ≤ val f n := by
  obtain ⟨m, rfl⟩ : ∃ m, n = m + 1 := ⟨n - 1, by omega⟩
  rw [val, Nat.add_sub_cancel]
  rw [Nat.add_sub_cancel] at h
  have : 1 * 4294967296 ^ m ≤ f m * 4294967296 ^ m := Nat.mul_le_mul_right _ (by omega)
  omega

theorem down_term (x y u : Nat) (hu : u < 32) : (x / 2 ^ u + y * 2 ^ (32 - u) % 4294967296) * 2 ^ u + x % 2 ^ u = x + y % 2 ^ u * 4294967296 := by
  have h2 := two32 hu
  have e : y * 2 ^ (32 - u) % 4294967296 = y % 2 ^ u * 2 ^ (32 - u) := by
    have := Nat.mul_mod_mul_right (2 ^ (32 - u)) y (2 ^ u)
    rw [Nat.mul_comm (2 ^ u), h2] at this
    exact this
  rw [e, Nat.add_mul, Nat.mul_assoc (y % 2 ^ u), h2]
  have := Nat.div_add_mod x (2 ^ u)
  rw [Nat.mul_comm] at this
  omega

/-- A row shifted down is the number divided. -/
theorem down_val (s d : Nat → Nat) (n u : Nat) (hu : u < 32) (h : DownR s n u n d) : ∀ k, k ≤ n → 0 < k → 2 ^ u * val d k + s 0 % 2 ^ u = val s k + (if k < n then s k % 2 ^ u * 4294967296 ^ k else 0) := by
  intro k
  induction k with
  | zero => intro _ h; omega
  | succ k ih =>
    intro hk _
    have hd := h k (by omega)
    have ht := down_term (s k) (nxt s n k) u hu
    rw [val, val, hd]
    have hn : nxt s n k % 2 ^ u * 4294967296 * 4294967296 ^ k = if k + 1 < n then s (k + 1) % 2 ^ u * 4294967296 ^ (k + 1) else 0 := by
      unfold nxt
      split
      · rw [pow_succ32, Nat.mul_assoc]
      · simp
    rw [← hn]
    generalize s k / 2 ^ u + nxt s n k * 2 ^ (32 - u) % 4294967296 = D at *
    have hm : (D * 2 ^ u + s k % 2 ^ u) * 4294967296 ^ k = (s k + nxt s n k % 2 ^ u * 4294967296) * 4294967296 ^ k := by rw [ht]
    rw [Nat.add_mul, Nat.add_mul] at hm
    have hc : D * 2 ^ u * 4294967296 ^ k = 2 ^ u * (D * 4294967296 ^ k) := by rw [Nat.mul_comm D, Nat.mul_assoc]
    rw [Nat.mul_add]
    rcases Nat.eq_zero_or_pos k with h0 | h0
    · subst h0; simp only [val, Nat.pow_zero, Nat.mul_one, Nat.mul_zero, Nat.zero_add] at *; omega
    · have := ih (by omega) h0
      rw [if_pos (by omega)] at this
      omega

theorem down_div (s d : Nat → Nat) (n u : Nat) (hu : u < 32) (h : DownR s n u n d) : val d n = val s n / 2 ^ u := by
  rcases Nat.eq_zero_or_pos n with h0 | h0
  · subst h0; simp [val]
  · have := down_val s d n u hu h n (Nat.le_refl _) h0
    rw [if_neg (by omega)] at this
    have hp := Nat.mod_lt (s 0) (Nat.two_pow_pos u)
    refine (Nat.div_eq_of_lt_le ?_ ?_).symm
    · rw [Nat.mul_comm]; omega
    · rw [Nat.mul_comm, Nat.mul_add]; omega

/-- Nothing is lost where the top limb has room. -/
theorem up_fits {s d : Nat → Nat} {n u c : Nat} (hd : UpR s u n c d) (hl : val s n * 2 ^ u < 4294967296 ^ n) : c = 0 ∧ val d n = val s n * 2 ^ u := by
  unfold UpR at hd
  rcases Nat.eq_zero_or_pos c with h | h
  · subst h; omega
  · have : 1 * 4294967296 ^ n ≤ c * 4294967296 ^ n := Nat.mul_le_mul_right _ h
    omega

theorem lz_spec {x : Nat} (h0 : 0 < x) (h1 : x < 4294967296) : ∃ u, (32 - (Lib.bitLen x : Int)) = ((u : Nat) : Int) ∧ u < 32 ∧ (x + 1) * 2 ^ u ≤ 4294967296 := by
  obtain ⟨a, b, c⟩ := Lib.bitLenAux_bounds 64 x (by omega) (by omega)
  have hle : Lib.bitLen x ≤ 32 := Lib.bitLen_le x 32 (by omega) (by omega)
  refine ⟨32 - Lib.bitLen x, by omega, ?_, ?_⟩
  · unfold Lib.bitLen at *; omega
  · have : x + 1 ≤ 2 ^ Lib.bitLen x := c
    have h2 : 2 ^ Lib.bitLen x * 2 ^ (32 - Lib.bitLen x) = 4294967296 := by rw [← Nat.pow_add, show Lib.bitLen x + (32 - Lib.bitLen x) = 32 by omega]
    rw [← h2]
    exact Nat.mul_le_mul_right _ this

theorem up_room {s : Nat → Nat} {n u : Nat} (hn : 0 < n) (hs : ∀ j, j < n → s j < 4294967296) (hu : (s (n - 1) + 1) * 2 ^ u ≤ 4294967296) : val s n * 2 ^ u < 4294967296 ^ n := by
  obtain ⟨m, rfl⟩ : ∃ m, n = m + 1 := ⟨n - 1, by omega⟩
  rw [Nat.add_sub_cancel] at hu
  have h1 := val_lt s m (fun j hj => hs j (by omega))
  rw [val, pow_succ32]
  have h2 : val s m + s m * 4294967296 ^ m < (s m + 1) * 4294967296 ^ m := by rw [Nat.add_mul]; omega
  have h3 : (val s m + s m * 4294967296 ^ m) * 2 ^ u < (s m + 1) * 4294967296 ^ m * 2 ^ u := Nat.mul_lt_mul_of_pos_right h2 (Nat.two_pow_pos u)
  have h4 : (s m + 1) * 4294967296 ^ m * 2 ^ u = (s m + 1) * 2 ^ u * 4294967296 ^ m := by rw [Nat.mul_assoc, Nat.mul_comm (4294967296 ^ m), ← Nat.mul_assoc]
  have h5 : (s m + 1) * 2 ^ u * 4294967296 ^ m ≤ 4294967296 * 4294967296 ^ m := Nat.mul_le_mul_right _ hu
  omega

end Go.Proofs.YtkjdoknmmiaapaaDoor
