/-
  The document's answers (package typeballref01): DivMod, by contract.
-/
import Derived.Test.YtkjdoknmmiaapaaDoorRef6
namespace Go.Proofs.YtkjdoknmmiaapaaDoor
open Go.RowKit

theorem str_append (a b : List UInt8) : str a ++ str b = str (a ++ b) := by
  refine str_of ?_
  show (str a ++ str b).data.toList = _
  rw [ByteArray.data_append]
  simp [str]

theorem sdig_snoc (N : Nat) : ∀ n, sdig N (n + 1) = sdig (N / 10) n ++ [dgt N 0]
  | 0 => rfl
  | n + 1 => by
    rw [sdig, sdig_snoc N n, sdig]
    have e : dgt (N / 10) n = dgt N (n + 1) := by
      unfold dgt
      rw [Nat.div_div_eq_div_mul, Nat.pow_succ, Nat.mul_comm 10]
    rw [e]; rfl

theorem extract_one {s : ByteArray} {k : Nat} (hk : k < s.size) : s.extract k (k + 1) = str [s[k]] := by
  refine str_of ?_
  rw [Lib.extract_data]
  have h : k < s.data.toList.length := by simpa using hk
  rw [show k + 1 - k = 1 by omega]
  rw [List.drop_eq_getElem_cons h]
  rfl

/-- The next digit, put behind what is left. -/
theorem rest_digit (R x n k : Nat) (hk : k < n) (h : k < (str (sdig x n)).size) :
    str (dec R) ++ (str (sdig x n)).extract k (k + 1) = str (sdig (10 * R + d10 x (n - 1 - k)) (dl R + 1)) := by
  have hd := d10_lt x (n - 1 - k)
  have hc : (str (sdig x n))[k] = dgt (10 * R + d10 x (n - 1 - k)) 0 := by
    have h1 := sdig_get x n k hk
    have h3 : (sdig x n)[k]? = some ((str (sdig x n))[k]) := by
      rw [List.getElem?_eq_getElem (by rw [sdig_length]; omega)]; rfl
    rw [h3] at h1
    rw [Option.some.inj h1, ← UInt8.toNat_inj, dgt_toNat, dgt_toNat]
    show 48 + d10 x (n - 1 - k) = _
    rw [Nat.pow_zero, Nat.div_one]
    omega
  rw [extract_one h, str_append, sdig_snoc, hc]
  have e : (10 * R + d10 x (n - 1 - k)) / 10 = R := by omega
  rw [e]; rfl

/-- The division's step, digit by digit. -/
theorem div_step (x y k n : Nat) (hy : 0 < y) (hk : k < n) (R : Nat) (hR : R = x / 10 ^ (n - k) % y) :
    (10 * R + d10 x (n - 1 - k)) / y = d10 (x / y) (n - 1 - k) ∧ (10 * R + d10 x (n - 1 - k)) % y = x / 10 ^ (n - (k + 1)) % y := by
  obtain ⟨m, hm⟩ : ∃ m, n - 1 - k = m := ⟨_, rfl⟩
  have e1 : n - k = m + 1 := by omega
  have e2 : n - (k + 1) = m := by omega
  rw [hm, e2]
  rw [e1] at hR
  obtain ⟨A, hA⟩ : ∃ A, x / 10 ^ m = A := ⟨_, rfl⟩
  have hA2 : x / 10 ^ (m + 1) = A / 10 := by rw [Nat.pow_succ, ← Nat.div_div_eq_div_mul, hA]
  have hd : d10 x m = A % 10 := by unfold d10; rw [hA]
  have hq : d10 (x / y) m = A / y % 10 := by
    unfold d10
    rw [Nat.div_div_eq_div_mul, Nat.mul_comm, ← Nat.div_div_eq_div_mul, hA]
  rw [hA2] at hR
  rw [hA, hd, hq]
  obtain ⟨B, hB⟩ : ∃ B, A / 10 = B := ⟨_, rfl⟩
  rw [hB] at hR
  have hAB : A = 10 * B + A % 10 := by omega
  have hBm := Nat.div_add_mod B y
  rw [← hR] at hBm
  have hRl : R < y := by rw [hR]; exact Nat.mod_lt _ hy
  -- A = y * (10 * (B / y)) + (10 * R + A % 10)
  have hA3 : A = y * (10 * (B / y)) + (10 * R + A % 10) := by
    have : y * (10 * (B / y)) = 10 * (y * (B / y)) := by rw [← Nat.mul_assoc, Nat.mul_comm y 10, Nat.mul_assoc]
    omega
  have hT : 10 * R + A % 10 < 10 * y := by omega
  obtain ⟨T, hTT⟩ : ∃ T, 10 * R + A % 10 = T := ⟨_, rfl⟩
  rw [hTT] at hA3 hT ⊢
  have g1 : A / y = 10 * (B / y) + T / y := by rw [hA3, Nat.mul_add_div hy]
  have g2 : A % y = T % y := by rw [hA3, Nat.mul_add_mod]
  have g3 : T / y < 10 := by rw [Nat.div_lt_iff_lt_mul hy]; omega
  rw [g1, g2]
  generalize T / y = t at *
  generalize B / y = u at *
  exact ⟨by omega, rfl⟩

end Go.Proofs.YtkjdoknmmiaapaaDoor
