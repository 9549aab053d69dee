/-
  The document's answers (package typeballref01): Mul, by contract.
  The document's answers (package typeballref01): Mul, by contract.
  The document's answers (package typeballref01): DivMod, by contract.
  The document's answers (package typeballref01): DivMod, by contract: the walk.
-/
import Derived.Test.YtphabhddmdpkmaaDoorK4
import Derived.Deep.QuietTactic
import Derived.BigQuiet
import Derived.IntWalk
namespace Go.Proofs.YtphabhddmdpkmaaDoor
open Go.RowKit

theorem d10_lt (Z k : Nat) : d10 Z k < 10 := Nat.mod_lt _ (by omega)

/-- One digit set anew. -/
theorem set_digit {Z Y p t : Nat} (ht : t < 10) (h : Y + d10 Z p * 10 ^ p = Z + t * 10 ^ p) : ∀ k, d10 Y k = if k = p then t else d10 Z k := by
  have hp : 0 < 10 ^ p := Nat.pow_pos (by omega)
  have e1 := Nat.div_add_mod Z (10 ^ p)
  have e2 := Nat.div_add_mod (Z / 10 ^ p) 10
  have e3 : Z / 10 ^ p % 10 = d10 Z p := rfl
  rw [e3] at e2
  -- Z = lo + 10^p * (10 * hi + d)
  obtain ⟨hi, hhi⟩ : ∃ hi, Z / 10 ^ p / 10 = hi := ⟨_, rfl⟩
  obtain ⟨lo, hlo⟩ : ∃ lo, Z % 10 ^ p = lo := ⟨_, rfl⟩
  have hlol : lo < 10 ^ p := by rw [← hlo]; exact Nat.mod_lt _ hp
  rw [hhi] at e2
  rw [hlo] at e1
  have hZ : Z = lo + 10 ^ p * (10 * hi + d10 Z p) := by rw [e2]; omega
  have hY : Y = lo + 10 ^ p * (10 * hi + t) := by
    have a1 : 10 ^ p * (10 * hi + d10 Z p) = 10 ^ p * (10 * hi) + d10 Z p * 10 ^ p := by rw [Nat.mul_add, Nat.mul_comm (10 ^ p) (d10 Z p)]
    have a2 : 10 ^ p * (10 * hi + t) = 10 ^ p * (10 * hi) + t * 10 ^ p := by rw [Nat.mul_add, Nat.mul_comm (10 ^ p) t]
    omega
  have gen : ∀ u, u < 10 → ∀ k, d10 (lo + 10 ^ p * (10 * hi + u)) k = if k < p then d10 lo k else if k = p then u else hi / 10 ^ (k - p - 1) % 10 := by
    intro u hu k
    unfold d10
    rcases Nat.lt_trichotomy k p with h | h | h
    · rw [if_pos h]
      obtain ⟨m, rfl⟩ : ∃ m, p = k + (m + 1) := ⟨p - k - 1, by omega⟩
      rw [Nat.pow_add, Nat.mul_assoc, Nat.add_mul_div_left _ _ (Nat.pow_pos (by omega)), Nat.pow_succ, Nat.mul_comm (10 ^ m) 10, Nat.mul_assoc]
      omega
    · subst h
      rw [if_neg (by omega), if_pos rfl, Nat.add_mul_div_left _ _ hp, Nat.div_eq_of_lt hlol]
      omega
    · rw [if_neg (by omega), if_neg (by omega)]
      obtain ⟨m, rfl⟩ : ∃ m, k = p + (m + 1) := ⟨k - p - 1, by omega⟩
      rw [Nat.pow_add, ← Nat.div_div_eq_div_mul, Nat.add_mul_div_left _ _ hp, Nat.div_eq_of_lt hlol, Nat.zero_add, Nat.pow_succ, Nat.mul_comm (10 ^ m) 10, ← Nat.div_div_eq_div_mul]
      rw [show (10 * hi + u) / 10 = hi by omega, show p + (m + 1) - p - 1 = m by omega]
  intro k
  rw [hY, gen t ht k]
  by_cases h1 : k = p
  · subst h1; rw [if_neg (by omega), if_pos rfl, if_pos rfl]
  · rw [if_neg h1, if_neg h1]
    have := gen (d10 Z p) (d10_lt Z p) k
    rw [← hZ, if_neg h1] at this
    rw [this]

theorem mod_step (y j : Nat) : y % 10 ^ (j + 1) = y % 10 ^ j + 10 ^ j * d10 y j := by unfold d10; rw [Nat.pow_succ, Nat.mod_mul]

/-- A row of digits of the call's own, that is the number Z. -/
structure ArrI (w wr : World) (b L Z : Nat) : Prop where
  below : Below w.heap.size w wr
  ge : w.heap.size ≤ b
  lt : b < wr.heap.size
  free : Free wr b
  row : Cells wr .i64 b 0 L (d10 Z)

theorem ArrI.set {w wr : World} {b L Z Y p t : Nat} (h : ArrI w wr b L Z) (hp : p < L) (ht : t < 10) (he : Y + d10 Z p * 10 ^ p = Z + t * 10 ^ p) (n : Nat) : ArrI w ((wr.drewN n).setCell ⟨b, p, none⟩ (.int .i64 t)) b L Y := by
  have hs := h.row.set (k := p) (x := t) hp
  rw [Nat.zero_add] at hs
  refine ⟨(below_drewN h.below n).setCell h.ge _, h.ge, by simpa using h.lt, (h.free).set _ _, fun j hj => ?_⟩
  have := hs j hj
  rw [set_digit ht he j]
  exact this

theorem make_ints (m : Nat) (hm : m ≤ 10000000) : ∃ z : List Value, (∀ j, j < m → z[j]? = some (.int .i64 0)) ∧
    ∀ w : World, (Instr.makeSlice 22 (.int .i64 m) (.int .i64 m)).run Tryd.prog w = .ok (.slice (some ⟨w.heap.size, 0, none⟩) m m) (w.alloc (.cells z.toArray 3)) := by
  obtain ⟨i0, hi, hz0, hz1, hz2⟩ := info_parts infoI
  refine ⟨(madeCells (Value.cells (.int .i64 0)) m).toList, fun j hj => ?_, fun w => ?_⟩
  · have h3 : (madeCells (Value.cells (.int .i64 0)) m)[j]? = some (.int .i64 0) := by simp [madeCells, hj, Value.cells, Nat.mod_one]
    rw [Array.getElem?_toList]; exact h3
  · have hmk := run_make (P := Tryd.prog) w 22 3 i0 (.int .i64 0) Tryd.underlying22 hi hz0 .i64 .i64 m m (by omega) (by omega) (by rw [hz2]; omega) (by omega)
    simp only [Int.toNat_natCast, hz1, Nat.mul_one] at hmk
    rw [Array.toArray_toList]
    exact hmk

/-- Within a row of the product. -/
def MulJ (x y i j c Z : Nat) : Prop := Z + c * 10 ^ (i + j) = x % 10 ^ i * y + d10 x i * (y % 10 ^ j) * 10 ^ i
theorem mulJ_step {x y i j c Z Y t : Nat} (h : MulJ x y i j c Z) (ht : d10 Z (i + j) + d10 x i * d10 y j + c = t) (hY : Y + d10 Z (i + j) * 10 ^ (i + j) = Z + t % 10 * 10 ^ (i + j)) : MulJ x y i (j + 1) (t / 10) Y := by
  unfold MulJ at *
  rw [mod_step, show i + (j + 1) = (i + j) + 1 by omega, Nat.pow_succ]
  have e := Nat.div_add_mod t 10
  have a1 : d10 x i * (y % 10 ^ j + 10 ^ j * d10 y j) * 10 ^ i = d10 x i * (y % 10 ^ j) * 10 ^ i + d10 x i * d10 y j * 10 ^ (i + j) := by
    rw [Nat.mul_add, Nat.add_mul, Nat.pow_add]
    congr 1
    rw [Nat.mul_comm (10 ^ j) (d10 y j), ← Nat.mul_assoc, Nat.mul_assoc, Nat.mul_comm (10 ^ j)]
  rw [a1]
  generalize 10 ^ (i + j) = P at *
  generalize d10 x i * d10 y j = u at *
  generalize d10 Z (i + j) = d at *
  have a2 : (d + u + c) * P = d * P + u * P + c * P := by rw [Nat.add_mul, Nat.add_mul]
  have a3 : t / 10 * (P * 10) + t % 10 * P = (10 * (t / 10) + t % 10) * P := by rw [Nat.add_mul, Nat.mul_comm P 10, ← Nat.mul_assoc, Nat.mul_comm (t / 10) 10]
  rw [e, ← ht, a2] at a3
  rw [ht] at a3
  omega

end Go.Proofs.YtphabhddmdpkmaaDoor

namespace Go.Proofs.YtphabhddmdpkmaaDoor
open Go.RowKit

theorem quietL {P : Program} {f : FuncId} {args : Array Value} {w : World} {n : Nat} {v : Value}
    (h : Calls P f args (w.drewN n) fun e w' => e = .returned v ∧ w.drewN n = w') : Calls P f args (w.drewN n) fun e w'' => e = .returned v ∧ ∃ m, w'' = w.drewN m :=
  h.mono fun _ _ ⟨he, hm⟩ => ⟨he, n, hm.symm⟩

theorem d10_le_self (Z p : Nat) : d10 Z p * 10 ^ p ≤ Z := by
  have h1 : d10 Z p ≤ Z / 10 ^ p := Nat.mod_le _ _
  exact Nat.le_trans (Nat.mul_le_mul_right _ h1) (Nat.div_mul_le_self _ _)

theorem mulJ_start {x y i Z : Nat} (h : Z = x % 10 ^ i * y) : MulJ x y i 0 0 Z := by
  unfold MulJ; simp [Nat.mod_one, h]

theorem mulJ_full {x y i j m c Z : Nat} (h : MulJ x y i j c Z) (hj : m ≤ j) (hy : y < 10 ^ m) : Z + c * 10 ^ (i + j) = x % 10 ^ (i + 1) * y := by
  unfold MulJ at h
  have hy2 : y % 10 ^ j = y := Nat.mod_eq_of_lt (Nat.lt_of_lt_of_le hy (Nat.pow_le_pow_right (by omega) hj))
  rw [hy2] at h
  rw [h, mod_step, Nat.add_mul, Nat.mul_right_comm (d10 x i) y, Nat.mul_comm (d10 x i) (10 ^ i)]

theorem mulJ_last {x y i m c Z : Nat} (h : MulJ x y i (m + 1) c Z) (hy : y < 10 ^ m) : c = 0 := by
  have e := mulJ_full h (by omega) hy
  have h1 : x % 10 ^ (i + 1) < 10 ^ (i + 1) := Nat.mod_lt _ (Nat.pow_pos (by omega))
  have h2 : x % 10 ^ (i + 1) * y ≤ x % 10 ^ (i + 1) * 10 ^ m := Nat.mul_le_mul_left _ (Nat.le_of_lt hy)
  have h3 : x % 10 ^ (i + 1) * 10 ^ m < 10 ^ (i + 1) * 10 ^ m := Nat.mul_lt_mul_of_pos_right h1 (Nat.pow_pos (by omega))
  rw [← Nat.pow_add, show i + 1 + m = i + (m + 1) by omega] at h3
  rcases Nat.eq_zero_or_pos c with h0 | h0
  · exact h0
  · have h4 : 1 * 10 ^ (i + (m + 1)) ≤ c * 10 ^ (i + (m + 1)) := Nat.mul_le_mul_right _ h0
    omega

theorem mul_small {a b : Nat} (h : a < 10) (h2 : b < 10) : a * b ≤ 81 :=
  Nat.le_trans (Nat.mul_le_mul (Nat.le_of_lt_succ h) (Nat.le_of_lt_succ h2)) (by omega)

end Go.Proofs.YtphabhddmdpkmaaDoor

namespace Go.Proofs.YtphabhddmdpkmaaDoor
open Go.RowKit

theorem str_append (a b : List UInt8) : str a ++ str b = str (a ++ b) := by
  refine str_of ?_
  show (str a ++ str b).data.toList = _
  rw [ByteArray.data_append]
  simp [str]

theorem sdig_snoc (N : Nat) : ∀ n, sdig N (n + 1) = sdig (N / 10) n ++ [dgt N 0]
  | 0 => rfl
  | n + 1 => by
    rw [sdig, sdig_snoc N n, sdig]
    have e : dgt (N / 10) n = dgt N (n + 1) := by
      unfold dgt
      rw [Nat.div_div_eq_div_mul, Nat.pow_succ, Nat.mul_comm 10]
    rw [e]; rfl

theorem extract_one {s : ByteArray} {k : Nat} (hk : k < s.size) : s.extract k (k + 1) = str [s[k]] := by
  refine str_of ?_
  rw [Lib.extract_data]
  have h : k < s.data.toList.length := by simpa using hk
  rw [show k + 1 - k = 1 by omega]
  rw [List.drop_eq_getElem_cons h]
  rfl

/-- The next digit, put behind what is left. -/
theorem rest_digit (R x n k : Nat) (hk : k < n) (h : k < (str (sdig x n)).size) :
    str (dec R) ++ (str (sdig x n)).extract k (k + 1) = str (sdig (10 * R + d10 x (n - 1 - k)) (dl R + 1)) := by
  have hd := d10_lt x (n - 1 - k)
  have hc : (str (sdig x n))[k] = dgt (10 * R + d10 x (n - 1 - k)) 0 := by
    have h1 := sdig_get x n k hk
    have h3 : (sdig x n)[k]? = some ((str (sdig x n))[k]) := by
      rw [List.getElem?_eq_getElem (by rw [sdig_length]; omega)]; rfl
    rw [h3] at h1
    rw [Option.some.inj h1, ← UInt8.toNat_inj, dgt_toNat, dgt_toNat]
    show 48 + d10 x (n - 1 - k) = _
    rw [Nat.pow_zero, Nat.div_one]
    omega
  rw [extract_one h, str_append, sdig_snoc, hc]
  have e : (10 * R + d10 x (n - 1 - k)) / 10 = R := by omega
  rw [e]; rfl

/-- The division's step, digit by digit. -/
theorem div_step (x y k n : Nat) (hy : 0 < y) (hk : k < n) (R : Nat) (hR : R = x / 10 ^ (n - k) % y) :
    (10 * R + d10 x (n - 1 - k)) / y = d10 (x / y) (n - 1 - k) ∧ (10 * R + d10 x (n - 1 - k)) % y = x / 10 ^ (n - (k + 1)) % y := by
  obtain ⟨m, hm⟩ : ∃ m, n - 1 - k = m := ⟨_, rfl⟩
  have e1 : n - k = m + 1 := by omega
  have e2 : n - (k + 1) = m := by omega
  rw [hm, e2]
  rw [e1] at hR
  obtain ⟨A, hA⟩ : ∃ A, x / 10 ^ m = A := ⟨_, rfl⟩
  have hA2 : x / 10 ^ (m + 1) = A / 10 := by rw [Nat.pow_succ, ← Nat.div_div_eq_div_mul, hA]
  have hd : d10 x m = A % 10 := by unfold d10; rw [hA]
  have hq : d10 (x / y) m = A / y % 10 := by
    unfold d10
    rw [Nat.div_div_eq_div_mul, Nat.mul_comm, ← Nat.div_div_eq_div_mul, hA]
  rw [hA2] at hR
  rw [hA, hd, hq]
  obtain ⟨B, hB⟩ : ∃ B, A / 10 = B := ⟨_, rfl⟩
  rw [hB] at hR
  have hAB : A = 10 * B + A % 10 := by omega
  have hBm := Nat.div_add_mod B y
  rw [← hR] at hBm
  have hRl : R < y := by rw [hR]; exact Nat.mod_lt _ hy
  -- A = y * (10 * (B / y)) + (10 * R + A % 10)
  have hA3 : A = y * (10 * (B / y)) + (10 * R + A % 10) := by
    have : y * (10 * (B / y)) = 10 * (y * (B / y)) := by rw [← Nat.mul_assoc, Nat.mul_comm y 10, Nat.mul_assoc]
    omega
  have hT : 10 * R + A % 10 < 10 * y := by omega
  obtain ⟨T, hTT⟩ : ∃ T, 10 * R + A % 10 = T := ⟨_, rfl⟩
  rw [hTT] at hA3 hT ⊢
  have g1 : A / y = 10 * (B / y) + T / y := by rw [hA3, Nat.mul_add_div hy]
  have g2 : A % y = T % y := by rw [hA3, Nat.mul_add_mod]
  have g3 : T / y < 10 := by rw [Nat.div_lt_iff_lt_mul hy]; omega
  rw [g1, g2]
  generalize T / y = t at *
  generalize B / y = u at *
  exact ⟨by omega, rfl⟩

end Go.Proofs.YtphabhddmdpkmaaDoor

namespace Go.Proofs.YtphabhddmdpkmaaDoor
open Go.RowKit

end Go.Proofs.YtphabhddmdpkmaaDoor

