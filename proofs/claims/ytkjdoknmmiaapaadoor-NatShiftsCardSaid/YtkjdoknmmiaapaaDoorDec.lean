/-
  Plain mathematics of decimal digits: a number's digits to a length, and without noughts ahead.
-/
import Derived.WalkKit
import Derived.Lib.TrimByte
namespace Go.Proofs.YtkjdoknmmiaapaaDoor

/-- The digit of place j (0: the last one), as a byte. -/
def dgt (N j : Nat) : UInt8 := UInt8.ofNat (48 + N / 10 ^ j % 10)
/-- The n last digits. -/
def sdig (N : Nat) : Nat → List UInt8
  | 0 => []
  | n + 1 => dgt N n :: sdig N n
/-- How many digits a number has. -/
def dl (N : Nat) : Nat := if h : N < 10 then 1 else dl (N / 10) + 1
termination_by N
decreasing_by omega
def dec (N : Nat) : List UInt8 := sdig N (dl N)

theorem dgt_toNat (N j : Nat) : (dgt N j).toNat = 48 + N / 10 ^ j % 10 := by
  unfold dgt
  have := Nat.mod_lt (N / 10 ^ j) (show 0 < 10 by omega)
  rw [UInt8.toNat_ofNat']
  omega

theorem dgt_zero {N j : Nat} : dgt N j = 48 ↔ N / 10 ^ j % 10 = 0 := by
  rw [← UInt8.toNat_inj, dgt_toNat]
  show 48 + _ = 48 ↔ _
  omega

theorem sdig_length (N : Nat) : ∀ n, (sdig N n).length = n
  | 0 => rfl
  | n + 1 => by rw [sdig, List.length_cons, sdig_length N n]

theorem sdig_get (N : Nat) : ∀ n i, i < n → (sdig N n)[i]? = some (dgt N (n - 1 - i))
  | 0, i, h => by omega
  | n + 1, 0, _ => by rw [sdig]; simp
  | n + 1, i + 1, h => by
    rw [sdig, List.getElem?_cons_succ, sdig_get N n i (by omega)]
    rw [show n + 1 - 1 - (i + 1) = n - 1 - i by omega]

theorem dl_pos (N : Nat) : 0 < dl N := by unfold dl; split <;> omega

theorem dl_lt : ∀ N, N < 10 ^ dl N := by
  intro N
  induction N using Nat.strongRecOn with
  | _ N ih =>
    unfold dl
    split
    · omega
    · have := ih (N / 10) (by omega)
      rw [Nat.pow_succ]; omega

theorem dl_le : ∀ N n, 0 < n → N < 10 ^ n → dl N ≤ n := by
  intro N
  induction N using Nat.strongRecOn with
  | _ N ih =>
    intro n hn h
    unfold dl
    split
    · omega
    · rename_i h10
      obtain ⟨m, rfl⟩ : ∃ m, n = m + 1 := ⟨n - 1, by omega⟩
      rw [Nat.pow_succ] at h
      have hm : 0 < m := by
        rcases Nat.eq_zero_or_pos m with h0 | h0
        · subst h0; simp at h; omega
        · exact h0
      have := ih (N / 10) (by omega) m hm (by omega)
      omega

theorem dl_ge {N n : Nat} (h : 10 ^ n ≤ N) : n < dl N := by
  have h1 := dl_lt N
  rcases Nat.lt_or_ge n (dl N) with h2 | h2
  · exact h2
  · have := Nat.pow_le_pow_right (show 0 < 10 by omega) h2
    omega

theorem dl_low {N : Nat} (h : 0 < N) : 10 ^ (dl N - 1) ≤ N := by
  rcases Nat.lt_or_ge N (10 ^ (dl N - 1)) with h1 | h1
  · rcases Nat.eq_zero_or_pos (dl N - 1) with h2 | h2
    · rw [h2] at h1; simp at h1; omega
    · have := dl_le N _ h2 h1; omega
  · exact h1

theorem dec_zero : dec 0 = [48] := by
  have : dl 0 = 1 := by unfold dl; rfl
  unfold dec; rw [this]; rfl

/-- Striking noughts ahead. -/
theorem drop_zeros (N : Nat) (h : 0 < N) : ∀ n, N < 10 ^ n → (sdig N n).dropWhile (· == 48) = dec N := by
  intro n
  induction n with
  | zero => intro h1; simp at h1; omega
  | succ n ih =>
    intro h1
    rcases Nat.lt_or_ge N (10 ^ n) with h2 | h2
    · have : dgt N n = 48 := by rw [dgt_zero, Nat.div_eq_of_lt h2]
      rw [sdig, List.dropWhile_cons, this]
      simpa using ih h2
    · have hd : dl N = n + 1 := Nat.le_antisymm (dl_le N _ (by omega) h1) (dl_ge h2)
      have h3 : N / 10 ^ n < 10 := by
        rw [Nat.div_lt_iff_lt_mul (Nat.pow_pos (by omega))]; rw [Nat.pow_succ] at h1; omega
      have h4 : 0 < N / 10 ^ n := Nat.div_pos h2 (Nat.pow_pos (by omega))
      have : ¬ dgt N n = 48 := by rw [dgt_zero]; omega
      unfold dec
      rw [hd, sdig, List.dropWhile_cons]
      simp [this]

/-- A row of digit bytes is the digits of a number. -/
def numOf : List UInt8 → Nat
  | [] => 0
  | c :: l => (c.toNat - 48) * 10 ^ l.length + numOf l

theorem numOf_lt : ∀ l : List UInt8, (∀ c ∈ l, 48 ≤ c.toNat ∧ c.toNat ≤ 57) → numOf l < 10 ^ l.length
  | [], _ => by simp [numOf]
  | c :: l, h => by
    have h1 := numOf_lt l (fun x hx => h x (List.mem_cons_of_mem _ hx))
    have h2 := h c List.mem_cons_self
    rw [numOf, List.length_cons, Nat.pow_succ]
    have h3 : (c.toNat - 48) * 10 ^ l.length ≤ 9 * 10 ^ l.length := Nat.mul_le_mul_right _ (by omega)
    omega

theorem sdig_add (N q : Nat) : ∀ n k, k ≤ n → sdig (N + q * 10 ^ n) k = sdig N k := by
  intro n k
  induction k with
  | zero => intro _; rfl
  | succ k ih =>
    intro hk
    rw [sdig, sdig, ih (by omega)]
    have : (N + q * 10 ^ n) / 10 ^ k % 10 = N / 10 ^ k % 10 := by
      obtain ⟨m, rfl⟩ : ∃ m, n = k + (m + 1) := ⟨n - k - 1, by omega⟩
      rw [Nat.pow_add, ← Nat.mul_assoc, Nat.mul_right_comm, Nat.add_mul_div_right _ _ (Nat.pow_pos (by omega)), Nat.pow_succ, ← Nat.mul_assoc]
      omega
    unfold dgt; rw [this]

theorem sdig_numOf : ∀ l : List UInt8, (∀ c ∈ l, 48 ≤ c.toNat ∧ c.toNat ≤ 57) → sdig (numOf l) l.length = l
  | [], _ => rfl
  | c :: l, h => by
    have h1 := numOf_lt l (fun x hx => h x (List.mem_cons_of_mem _ hx))
    have h2 := h c List.mem_cons_self
    rw [List.length_cons, sdig]
    have e1 : sdig (numOf (c :: l)) l.length = l := by
      rw [numOf, Nat.add_comm, sdig_add _ _ _ _ (Nat.le_refl _)]
      exact sdig_numOf l (fun x hx => h x (List.mem_cons_of_mem _ hx))
    have e2 : dgt (numOf (c :: l)) l.length = c := by
      rw [← UInt8.toNat_inj, dgt_toNat, numOf, Nat.add_comm ((c.toNat - 48) * _), Nat.add_mul_div_right _ _ (Nat.pow_pos (by omega)), Nat.div_eq_of_lt h1]
      omega
    rw [e1, e2]

/-- Strings. -/
def str (l : List UInt8) : ByteArray := ⟨l.toArray⟩
theorem str_toList (l : List UInt8) : (str l).data.toList = l := rfl
theorem str_size (l : List UInt8) : (str l).size = l.length := by simp [str, ByteArray.size]
theorem str_of {s : ByteArray} {l : List UInt8} (h : s.data.toList = l) : s = str l := by
  subst h; rfl

end Go.Proofs.YtkjdoknmmiaapaaDoor
