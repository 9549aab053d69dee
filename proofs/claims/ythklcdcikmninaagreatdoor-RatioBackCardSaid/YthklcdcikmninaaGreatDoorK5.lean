/-
  The document's answers (package typeballref01): Mul, by contract.
  The document's answers (package typeballref01): Mul, by contract.
  The document's answers (package typeballref01): DivMod, by contract.
  The document's answers (package typeballref01): DivMod, by contract: the walk.
-/
import Derived.Test.YthklcdcikmninaaGreatDoorK4
import Derived.Deep.QuietTactic
import Derived.BigQuiet
import Derived.IntWalk
namespace Go.Proofs.YthklcdcikmninaaGreatDoor
open Go.RowKit

theorem d10_lt (Z k : Nat) : d10 Z k < 10 := Nat.mod_lt _ (by omega)

/-- One digit set anew. -/
theorem set_digit {Z Y p t : Nat} (ht : t < 10) (h : Y + d10 Z p * 10 ^ p = Z + t * 10 ^ p) : ∀ k, d10 Y k = if k = p then t else d10 Z k := by
  have hp : 0 < 10 ^ p := Nat.pow_pos (by omega)
  have e1 := Nat.div_add_mod Z (10 ^ p)
  have e2 := Nat.div_add_mod (Z / 10 ^ p) 10
  have e3 : Z / 10 ^ p % 10 = d10 Z p := rfl
  rw [e3] at e2
  -- Z = lo + 10^p * (10 * hi + d)
  obtain ⟨hi, hhi⟩ : ∃ hi, Z / 10 ^ p / 10 = hi := ⟨_, rfl⟩
  obtain ⟨lo, hlo⟩ : ∃ lo, Z % 10 ^ p = lo := ⟨_, rfl⟩
  have hlol : lo < 10 ^ p := by rw [← hlo]; exact Nat.mod_lt _ hp
  rw [hhi] at e2
  rw [hlo] at e1
  have hZ : Z = lo + 10 ^ p * (10 * hi + d10 Z p) := by rw [e2]; omega
  have hY : Y = lo + 10 ^ p * (10 * hi + t) := by
    have a1 : 10 ^ p * (10 * hi + d10 Z p) = 10 ^ p * (10 * hi) + d10 Z p * 10 ^ p := by rw [Nat.mul_add, Nat.mul_comm (10 ^ p) (d10 Z p)]
    have a2 : 10 ^ p * (10 * hi + t) = 10 ^ p * (10 * hi) + t * 10 ^ p := by rw [Nat.mul_add, Nat.mul_comm (10 ^ p) t]
    omega
  have gen : ∀ u, u < 10 → ∀ k, d10 (lo + 10 ^ p * (10 * hi + u)) k = if k < p then d10 lo k else if k = p then u else hi / 10 ^ (k - p - 1) % 10 := by
    intro u hu k
    unfold d10
    rcases Nat.lt_trichotomy k p with h | h | h
    · rw [if_pos h]
      obtain ⟨m, rfl⟩ : ∃ m, p = k + (m + 1) := ⟨p - k - 1, by omega⟩
      rw [Nat.pow_add, Nat.mul_assoc, Nat.add_mul_div_left _ _ (Nat.pow_pos (by omega)), Nat.pow_succ, Nat.mul_comm (10 ^ m) 10, Nat.mul_assoc]
      omega
    · subst h
      rw [if_neg (by omega), if_pos rfl, Nat.add_mul_div_left _ _ hp, Nat.div_eq_of_lt hlol]
      omega
    · rw [if_neg (by omega), if_neg (by omega)]
      obtain ⟨m, rfl⟩ : ∃ m, k = p + (m + 1) := ⟨k - p - 1, by omega⟩
      rw [Nat.pow_add, ← Nat.div_div_eq_div_mul, Nat.add_mul_div_left _ _ hp, Nat.div_eq_of_lt hlol, Nat.zero_add, Nat.pow_succ, Nat.mul_comm (10 ^ m) 10, ← Nat.div_div_eq_div_mul]
      rw [show (10 * hi + u) / 10 = hi by omega, show p + (m + 1) - p - 1 = m by omega]
  intro k
  rw [hY, gen t ht k]
  by_cases h1 : k = p
  · subst h1; rw [if_neg (by omega), if_pos rfl, if_pos rfl]
  · rw [if_neg h1, if_neg h1]
    have := gen (d10 Z p) (d10_lt Z p) k
    rw [← hZ, if_neg h1] at this
    rw [this]

theorem mod_step (y j : Nat) : y % 10 ^ (j + 1) = y % 10 ^ j + 10 ^ j * d10 y j := by unfold d10; rw [Nat.pow_succ, Nat.mod_mul]

/-- A row of digits of the call's own, that is the number Z. -/
structure ArrI (w wr : World) (b L Z : Nat) : Prop where
  below : Below w.heap.size w wr
  ge : w.heap.size ≤ b
  lt : b < wr.heap.size
  free : Free wr b
  row : Cells wr .i64 b 0 L (d10 Z)

theorem ArrI.set {w wr : World} {b L Z Y p t : Nat} (h : ArrI w wr b L Z) (hp : p < L) (ht : t < 10) (he : Y + d10 Z p * 10 ^ p = Z + t * 10 ^ p) (n : Nat) : ArrI w ((wr.drewN n).setCell ⟨b, p, none⟩ (.int .i64 t)) b L Y := by
  have hs := h.row.set (k := p) (x := t) hp
  rw [Nat.zero_add] at hs
  refine ⟨(below_drewN h.below n).setCell h.ge _, h.ge, by simpa using h.lt, (h.free).set _ _, fun j hj => ?_⟩
  have := hs j hj
  rw [set_digit ht he j]
  exact this

theorem make_ints (m : Nat) (hm : m ≤ 10000000) : ∃ z : List Value, (∀ j, j < m → z[j]? = some (.int .i64 0)) ∧
    ∀ w : World, (Instr.makeSlice 111 (.int .i64 m) (.int .i64 m)).run Tryz.prog w = .ok (.slice (some ⟨w.heap.size, 0, none⟩) m m) (w.alloc (.cells z.toArray 3)) := by
  obtain ⟨i0, hi, hz0, hz1, hz2⟩ := info_parts infoI
  refine ⟨(madeCells (Value.cells (.int .i64 0)) m).toList, fun j hj => ?_, fun w => ?_⟩
  · have h3 : (madeCells (Value.cells (.int .i64 0)) m)[j]? = some (.int .i64 0) := by simp [madeCells, hj, Value.cells, Nat.mod_one]
    rw [Array.getElem?_toList]; exact h3
  · have hmk := run_make (P := Tryz.prog) w 111 3 i0 (.int .i64 0) Tryz.underlying111 hi hz0 .i64 .i64 m m (by omega) (by omega) (by rw [hz2]; omega) (by omega)
    simp only [Int.toNat_natCast, hz1, Nat.mul_one] at hmk
    rw [Array.toArray_toList]
    exact hmk

/-- Within a row of the product. -/
def MulJ (x y i j c Z : Nat) : Prop := Z + c * 10 ^ (i + j) = x % 10 ^ i * y + d10 x i * (y % 10 ^ j) * 10 ^ i
theorem mulJ_step {x y i j c Z Y t : Nat} (h : MulJ x y i j c Z) (ht : d10 Z (i + j) + d10 x i * d10 y j + c = t) (hY : Y + d10 Z (i + j) * 10 ^ (i + j) = Z + t % 10 * 10 ^ (i + j)) : MulJ x y i (j + 1) (t / 10) Y := by
  unfold MulJ at *
  rw [mod_step, show i + (j + 1) = (i + j) + 1 by omega, Nat.pow_succ]
  have e := Nat.div_add_mod t 10
  have a1 : d10 x i * (y % 10 ^ j + 10 ^ j * d10 y j) * 10 ^ i = d10 x i * (y % 10 ^ j) * 10 ^ i + d10 x i * d10 y j * 10 ^ (i + j) := by
    rw [Nat.mul_add, Nat.add_mul, Nat.pow_add]
    congr 1
    rw [Nat.mul_comm (10 ^ j) (d10 y j), ← Nat.mul_assoc, Nat.mul_assoc, Nat.mul_comm (10 ^ j)]
  rw [a1]
  generalize 10 ^ (i + j) = P at *
  generalize d10 x i * d10 y j = u at *
  generalize d10 Z (i + j) = d at *
  have a2 : (d + u + c) * P = d * P + u * P + c * P := by rw [Nat.add_mul, Nat.add_mul]
  have a3 : t / 10 * (P * 10) + t % 10 * P = (10 * (t / 10) + t % 10) * P := by rw [Nat.add_mul, Nat.mul_comm P 10, ← Nat.mul_assoc, Nat.mul_comm (t / 10) 10]
  rw [e, ← ht, a2] at a3
  rw [ht] at a3
  omega

end Go.Proofs.YthklcdcikmninaaGreatDoor

namespace Go.Proofs.YthklcdcikmninaaGreatDoor
open Go.RowKit

theorem quietL {P : Program} {f : FuncId} {args : Array Value} {w : World} {n : Nat} {v : Value}
    (h : Calls P f args (w.drewN n) fun e w' => e = .returned v ∧ w.drewN n = w') : Calls P f args (w.drewN n) fun e w'' => e = .returned v ∧ ∃ m, w'' = w.drewN m :=
  h.mono fun _ _ ⟨he, hm⟩ => ⟨he, n, hm.symm⟩

theorem d10_le_self (Z p : Nat) : d10 Z p * 10 ^ p ≤ Z := by
  have h1 : d10 Z p ≤ Z / 10 ^ p := Nat.mod_le _ _
  exact Nat.le_trans (Nat.mul_le_mul_right _ h1) (Nat.div_mul_le_self _ _)

theorem mulJ_start {x y i Z : Nat} (h : Z = x % 10 ^ i * y) : MulJ x y i 0 0 Z := by
  unfold MulJ; simp [Nat.mod_one, h]

theorem mulJ_full {x y i j m c Z : Nat} (h : MulJ x y i j c Z) (hj : m ≤ j) (hy : y < 10 ^ m) : Z + c * 10 ^ (i + j) = x % 10 ^ (i + 1) * y := by
  unfold MulJ at h
  have hy2 : y % 10 ^ j = y := Nat.mod_eq_of_lt (Nat.lt_of_lt_of_le hy (Nat.pow_le_pow_right (by omega) hj))
  rw [hy2] at h
  rw [h, mod_step, Nat.add_mul, Nat.mul_right_comm (d10 x i) y, Nat.mul_comm (d10 x i) (10 ^ i)]

theorem mulJ_last {x y i m c Z : Nat} (h : MulJ x y i (m + 1) c Z) (hy : y < 10 ^ m) : c = 0 := by
  have e := mulJ_full h (by omega) hy
  have h1 : x % 10 ^ (i + 1) < 10 ^ (i + 1) := Nat.mod_lt _ (Nat.pow_pos (by omega))
  have h2 : x % 10 ^ (i + 1) * y ≤ x % 10 ^ (i + 1) * 10 ^ m := Nat.mul_le_mul_left _ (Nat.le_of_lt hy)
  have h3 : x % 10 ^ (i + 1) * 10 ^ m < 10 ^ (i + 1) * 10 ^ m := Nat.mul_lt_mul_of_pos_right h1 (Nat.pow_pos (by omega))
  rw [← Nat.pow_add, show i + 1 + m = i + (m + 1) by omega] at h3
  rcases Nat.eq_zero_or_pos c with h0 | h0
  · exact h0
  · have h4 : 1 * 10 ^ (i + (m + 1)) ≤ c * 10 ^ (i + (m + 1)) := Nat.mul_le_mul_right _ h0
    omega

theorem mul_small {a b : Nat} (h : a < 10) (h2 : b < 10) : a * b ≤ 81 :=
  Nat.le_trans (Nat.mul_le_mul (Nat.le_of_lt_succ h) (Nat.le_of_lt_succ h2)) (by omega)

end Go.Proofs.YthklcdcikmninaaGreatDoor

namespace Go.Proofs.YthklcdcikmninaaGreatDoor
open Go.RowKit

theorem str_append (a b : List UInt8) : str a ++ str b = str (a ++ b) := by
  refine str_of ?_
  show (str a ++ str b).data.toList = _
  rw [ByteArray.data_append]
  simp [str]

theorem sdig_snoc (N : Nat) : ∀ n, sdig N (n + 1) = sdig (N / 10) n ++ [dgt N 0]
  | 0 => rfl
  | n + 1 => by
    rw [sdig, sdig_snoc N n, sdig]
    have e : dgt (N / 10) n = dgt N (n + 1) := by
      unfold dgt
      rw [Nat.div_div_eq_div_mul, Nat.pow_succ, Nat.mul_comm 10]
    rw [e]; rfl

theorem extract_one {s : ByteArray} {k : Nat} (hk : k < s.size) : s.extract k (k + 1) = str [s[k]] := by
  refine str_of ?_
  rw [Lib.extract_data]
  have h : k < s.data.toList.length := by simpa using hk
  rw [show k + 1 - k = 1 by omega]
  rw [List.drop_eq_getElem_cons h]
  rfl

/-- The next digit, put behind what is left. -/
theorem rest_digit (R x n k : Nat) (hk : k < n) (h : k < (str (sdig x n)).size) :
    str (dec R) ++ (str (sdig x n)).extract k (k + 1) = str (sdig (10 * R + d10 x (n - 1 - k)) (dl R + 1)) := by
  have hd := d10_lt x (n - 1 - k)
  have hc : (str (sdig x n))[k] = dgt (10 * R + d10 x (n - 1 - k)) 0 := by
    have h1 := sdig_get x n k hk
    have h3 : (sdig x n)[k]? = some ((str (sdig x n))[k]) := by
      rw [List.getElem?_eq_getElem (by rw [sdig_length]; omega)]; rfl
    rw [h3] at h1
    rw [Option.some.inj h1, ← UInt8.toNat_inj, dgt_toNat, dgt_toNat]
    show 48 + d10 x (n - 1 - k) = _
    rw [Nat.pow_zero, Nat.div_one]
    omega
  rw [extract_one h, str_append, sdig_snoc, hc]
  have e : (10 * R + d10 x (n - 1 - k)) / 10 = R := by omega
  rw [e]; rfl

/-- The division's step, digit by digit. -/
theorem div_step (x y k n : Nat) (hy : 0 < y) (hk : k < n) (R : Nat) (hR : R = x / 10 ^ (n - k) % y) :
    (10 * R + d10 x (n - 1 - k)) / y = d10 (x / y) (n - 1 - k) ∧ (10 * R + d10 x (n - 1 - k)) % y = x / 10 ^ (n - (k + 1)) % y := by
  obtain ⟨m, hm⟩ : ∃ m, n - 1 - k = m := ⟨_, rfl⟩
  have e1 : n - k = m + 1 := by omega
  have e2 : n - (k + 1) = m := by omega
  rw [hm, e2]
  rw [e1] at hR
  obtain ⟨A, hA⟩ : ∃ A, x / 10 ^ m = A := ⟨_, rfl⟩
  have hA2 : x / 10 ^ (m + 1) = A / 10 := by rw [Nat.pow_succ, ← Nat.div_div_eq_div_mul, hA]
  have hd : d10 x m = A % 10 := by unfold d10; rw [hA]
  have hq : d10 (x / y) m = A / y % 10 := by
    unfold d10
    rw [Nat.div_div_eq_div_mul, Nat.mul_comm, ← Nat.div_div_eq_div_mul, hA]
  rw [hA2] at hR
  rw [hA, hd, hq]
  obtain ⟨B, hB⟩ : ∃ B, A / 10 = B := ⟨_, rfl⟩
  rw [hB] at hR
  have hAB : A = 10 * B + A % 10 := by omega
  have hBm := Nat.div_add_mod B y
  rw [← hR] at hBm
  have hRl : R < y := by rw [hR]; exact Nat.mod_lt _ hy
  -- A = y * (10 * (B / y)) + (10 * R + A % 10)
  have hA3 : A = y * (10 * (B / y)) + (10 * R + A % 10) := by
    have : y * (10 * (B / y)) = 10 * (y * (B / y)) := by rw [← Nat.mul_assoc, Nat.mul_comm y 10, Nat.mul_assoc]
    omega
  have hT : 10 * R + A % 10 < 10 * y := by omega
  obtain ⟨T, hTT⟩ : ∃ T, 10 * R + A % 10 = T := ⟨_, rfl⟩
  rw [hTT] at hA3 hT ⊢
  have g1 : A / y = 10 * (B / y) + T / y := by rw [hA3, Nat.mul_add_div hy]
  have g2 : A % y = T % y := by rw [hA3, Nat.mul_add_mod]
  have g3 : T / y < 10 := by rw [Nat.div_lt_iff_lt_mul hy]; omega
  rw [g1, g2]
  generalize T / y = t at *
  generalize B / y = u at *
  exact ⟨by omega, rfl⟩

end Go.Proofs.YthklcdcikmninaaGreatDoor

namespace Go.Proofs.YthklcdcikmninaaGreatDoor
open Go.RowKit

set_option maxHeartbeats 1600000 in
set_option maxRecDepth 100000 in
theorem rdivMod_any (x y : Nat) (w : World) (hx : dl x ≤ 900) (hy : dl y ≤ 900) (hy0 : 0 < y) :
    Calls Tryz.prog 55 #[.string (str (dec x)), .string (str (dec y))] w fun e w' => e = .returned (.tuple #[.string (str (dec (x / y))), .string (str (dec (x % y)))]) ∧ Below w.heap.size w w' := by
  obtain ⟨i0, hi, hz0, hz1, hz2⟩ := info_parts infoB
  obtain ⟨n, hn⟩ : ∃ n, dl x = n := ⟨_, rfl⟩
  have hn0 : 0 < n := by rw [← hn]; exact dl_pos x
  have hxn : x < 10 ^ n := by rw [← hn]; exact dl_lt x
  have ha : str (dec x) = str (sdig x n) := by unfold dec; rw [hn]
  have hsz : (str (sdig x n)).size = n := by rw [str_size, sdig_length]
  rw [ha]
  have HRD : Hid (∀ R k (h : k < (str (sdig x n)).size), str (dec R) ++ (str (sdig x n)).extract k (k + 1) = str (sdig (10 * R + d10 x (n - 1 - k)) (dl R + 1))) := fun R k h => rest_digit R x n k (by omega) h
  obtain ⟨a, hae⟩ : ∃ a, str (sdig x n) = a := ⟨_, rfl⟩
  rw [hae] at hsz HRD ⊢
  have hb : ∀ R, dl R ≤ 1000 → ∀ wz, Calls Tryz.prog 69 #[.string (str (dec R)), .string (str (dec y))] wz fun e w' => e = .returned (.int .i64 (cmpI R y)) ∧ wz = w' := fun R hR wz => rcmp_any R y wz (by omega) (by omega)
  have hs : ∀ R, y ≤ R → dl R ≤ 1000 → ∀ wz, Calls Tryz.prog 70 #[.string (str (dec R)), .string (str (dec y))] wz fun e w' => e = .returned (.string (str (dec (R - y)))) ∧ Below wz.heap.size wz w' := fun R hR hl wz => rsub_any R (dl R) y (dl y) wz (dl_lt _) (dl_lt _) hl (by omega) hR
  obtain ⟨b, hbe⟩ : ∃ b, str (dec y) = b := ⟨_, rfl⟩
  rw [hbe] at hb hs ⊢
  have CM := Lib.hid hb
  have SB := Lib.hid hs
  have HX := Lib.hid hxn
  have HI := Lib.hid hi
  have HY := Lib.hid hy0
  have hnl : n ≤ 900 := by omega
  have HYL := Lib.hid hy
  obtain ⟨z, hz, hmk⟩ := make_bytes a.size (by omega)
  have H0 : Hid (WrI w (w.alloc (.cells z 5)) w.heap.size (x / y) n (.slice (some ⟨w.heap.size, 0, none⟩) 0 a.size) 0) :=
    ⟨(Below.refl _ _).alloc (Nat.le_refl _) _, World.ownsRow_made w z a.size (Nat.le_refl _) (by unfold maxLen; omega) (by omega)⟩
  have HSZ := Lib.hid hsz
  have hal : a.size ≤ 900 := by omega
  have HR0 : Hid (0 = x / 10 ^ (n - 0) % y) := by show _ = _; rw [Nat.sub_zero, Nat.div_eq_of_lt hxn, Nat.zero_mod]
  have hd0 : (⟨#[48]⟩ : ByteArray) = str (dec 0) := by rw [dec_zero]; rfl
  have HD0 := Lib.hid hd0
  clear hb hs hxn hi hy0 hz hsz ha hae hbe hn hx hy hd0
  go_enter Tryz.func55, Tryz.ntmps55
  go_wp2
  go_loopw [6, 7, 8] (fun D rs i wr => ∃ (k R : Nat) (V : Value) (r : ByteArray), k ≤ a.size ∧ i = .int .i64 k ∧ rs = .string r ∧ Hid (r = str (dec R)) ∧ Hid (R = x / 10 ^ (n - k) % y) ∧ V = D ∧ WrI w wr w.heap.size (x / y) n V k)
    (fun _ _ i _ => a.size - (intOf i).toNat)
  case atStart => exact ⟨0, 0, _, _, by omega, rfl, rfl, HD0.out, HR0.out, rfl, H0.out⟩
  case round =>
    obtain ⟨k, R, V, r, hk, rfl, rfl, hr, hR, rfl, hw⟩ := hrel
    by_cases hlt : k < a.size
    · have hkn : k < n := by have := HSZ.out; omega
      have hRD := HRD.out R k hlt
      rw [← hr.out] at hRD
      obtain ⟨T, hT⟩ : ∃ T, 10 * R + d10 x (n - 1 - k) = T := ⟨_, rfl⟩
      obtain ⟨g1, g2⟩ := div_step x y k n HY.out hkn R hR.out
      rw [hT] at g1 g2 hRD
      have hRl : R < y := by rw [hR.out]; exact Nat.mod_lt _ HY.out
      have hdR : dl R ≤ 900 := by
        have h1 := HYL.out
        refine Nat.le_trans (dl_le R (dl y) (dl_pos y) (Nat.lt_trans hRl (dl_lt y))) h1
      have hTl : T < 10 ^ (dl R + 1) := by
        have h1 := dl_lt R
        have h2 := d10_lt x (n - 1 - k)
        rw [Nat.pow_succ]; omega
      have hT10 : T < 10 * y := by have h2 := d10_lt x (n - 1 - k); omega
      have hdT : dl T ≤ 1000 := by have := dl_le T (dl R + 1) (by omega) hTl; omega
      have TR : Hid (∀ wz, Calls Tryz.prog 32 #[.string (r ++ a.extract k (k + 1))] wz fun e w' => e = .returned (.string (str (dec T))) ∧ wz = w') := by
        intro wz
        rw [hRD]
        exact trim_any T (dl R + 1) wz (by omega) hTl (by omega)
      have HT0 : Hid (str (dec T) = str (dec (T - 0 * y)) ∧ 0 * y ≤ T) := ⟨by simp, by simp⟩
      obtain ⟨t, ht⟩ : ∃ t, str (dec T) = t := ⟨_, rfl⟩
      rw [ht] at TR HT0
      have G1 := Lib.hid g1
      have G2 := Lib.hid g2
      have HW := Lib.hid hw
      have HDT := Lib.hid hdT
      have HT10 := Lib.hid hT10
      have hrsz : r.size ≤ 900 := by rw [hr.out, str_size]; unfold dec; rw [sdig_length]; exact hdR
      clear hRD g1 g2 hRl hdR hTl hT10 hdT ht hw hr hR hT
      go_wp2_with (go_at_call 32; (with_reducible refine (TR.out _).mono ?_); rintro e w1 ⟨rfl, rfl⟩)
      go_loopw [7, 9] (fun rs c wi => ∃ (cc : Nat) (r2 : ByteArray), cc ≤ 9 ∧ c = .int .i64 cc ∧ rs = .string r2 ∧ Hid (r2 = str (dec (T - cc * y)) ∧ cc * y ≤ T) ∧ WrI w wi w.heap.size (x / y) n V k)
        (fun _ c _ => 10 - (intOf c).toNat)
      case atStart => exact ⟨0, _, by omega, rfl, rfl, HT0.out, HW.out⟩
      case round =>
        obtain ⟨cc, r2, hcc, rfl, rfl, hr2, hwi⟩ := hrel
        have hdS : dl (T - cc * y) ≤ 1000 := Nat.le_trans (dl_le _ (dl T) (dl_pos T) (Nat.lt_of_le_of_lt (Nat.sub_le _ _) (dl_lt T))) HDT.out
        have CMS := CM.out (T - cc * y) hdS
        rw [← hr2.out.1] at CMS
        by_cases hge : y ≤ T - cc * y
        · obtain ⟨q, hq⟩ := cmp_pos hge
          rw [hq] at CMS
          have SBS := SB.out (T - cc * y) hge hdS
          rw [← hr2.out.1] at SBS
          have hmul : (cc + 1) * y = cc * y + y := by rw [Nat.add_mul, Nat.one_mul]
          have hnx : (T - cc * y - y = T - (cc + 1) * y) ∧ (cc + 1) * y ≤ T := ⟨by rw [hmul]; omega, by rw [hmul]; have := HY.out; omega⟩
          have hc9 : cc + 1 ≤ 9 := by
            rcases Nat.lt_or_ge cc 9 with h | h
            · omega
            · have h1 := Nat.mul_le_mul_right y (show 10 ≤ cc + 1 by omega)
              rw [hmul] at h1
              have := HT10.out; omega
          have HNX : Hid (str (dec (T - cc * y - y)) = str (dec (T - (cc + 1) * y)) ∧ (cc + 1) * y ≤ T) := ⟨by rw [hnx.1], hnx.2⟩
          obtain ⟨t2, ht2⟩ : ∃ t2, str (dec (T - cc * y - y)) = t2 := ⟨_, rfl⟩
          rw [ht2] at HNX SBS
          have C1 := Lib.hid CMS
          have S1 := Lib.hid SBS
          have HWI := Lib.hid hwi
          have d1 : decide ((cc : Int) < 10) = true := decide_eq_true (by omega)
          clear CMS SBS hmul hnx hge hq hdS hr2 hwi ht2
          go_wp2_with fail
          go_at_call 69
          (with_reducible refine (C1.out _).mono ?_)
          rintro e w2 ⟨rfl, rfl⟩
          go_wp2_with fail
          go_at_call 70
          (with_reducible refine (S1.out _).mono ?_)
          rintro e w3 ⟨rfl, hb3⟩
          have HW3 : Hid (WrI w w3 w.heap.size (x / y) n V k) := ⟨HWI.out.below.trans (hb3.mono HWI.out.below.size), HWI.out.own.below hb3⟩
          clear hb3
          go_wp2
          go_roundw
          case rel => exact ⟨cc + 1, t2, hc9, by go_num, rfl, HNX.out, HW3.out⟩
          case measure => simp [intOf]; omega
        · rw [cmp_neg (show T - cc * y < y by omega)] at CMS
          have C1 := Lib.hid CMS
          have hy0 := HY.out
          have hqT : T / y = cc := by
            have h1 : T = cc * y + (T - cc * y) := by have := hr2.out.2; omega
            rw [h1, Nat.add_comm, Nat.add_mul_div_right _ _ hy0, Nat.div_eq_of_lt (by omega)]; omega
          have hrT : T % y = T - cc * y := by
            have h1 : T = cc * y + (T - cc * y) := by have := hr2.out.2; omega
            have h2 : (cc * y + (T - cc * y)) % y = T - cc * y := by rw [Nat.add_comm, Nat.add_mul_mod_self_right, Nat.mod_eq_of_lt (by omega)]
            rw [← h1] at h2; exact h2
          obtain ⟨yy, hyy⟩ : ∃ yy, 48 + cc = yy := ⟨_, rfl⟩
          have e2 : (48 : Int) + (cc : Int) = (yy : Int) := by omega
          have e3 : (yy : Int) % 256 = (yy : Int) := by omega
          have HYD : Hid (yy = dg (x / y) (n - 1 - k)) := by show _ = _; rw [dg_d10, ← G1.out, hqT, hyy]
          have HRN : Hid (r2 = str (dec (T - cc * y)) ∧ T - cc * y = x / 10 ^ (n - (k + 1)) % y) := ⟨hr2.out.1, by rw [← hrT]; exact G2.out⟩
          have HWI := Lib.hid hwi
          have hzr : w.heap.size ≤ wr.heap.size := hwi.below.size
          have hkn1 : k + 1 ≤ a.size := hlt
          have hccl : cc ≤ 9 := hcc
          clear CMS hge hdS hr2 hwi hqT hrT hyy hy0
          go_wp2_with fail
          go_at_call 69
          (with_reducible refine (C1.out _).mono ?_)
          rintro e w2 ⟨rfl, rfl⟩
          go_wp2_with (at_builtin; refine wpList_append_own _ rfl _ _ 72 rfl w.heap.size 5 i0 (.int .u8 0) 1 1 Tryz.underlying72 HI.out hz0 hz1 hz2 rfl (by decide) _ _ _ rfl (World.ownsRow.alloc HWI.out.own _) ⟨wr.heap.size, 0, none⟩ 1 1 [.int .u8 yy] rfl rfl (cell_one_at _ _ _) (one_cell_list _ _) (by unfold maxLen; omega) (by omega) (by rw [World.size_alloc]; omega) ?_; intro v' w5 hown' hgrow _)
          have hb5 : Below w.heap.size w w5 := (HWI.out.below.alloc hzr _).grown hgrow (by rw [World.size_alloc]; omega) (fun q hq => (World.ownsRow.lt HWI.out.own q hq).1)
          have hown2 : OwnL w5 w.heap.size 5 .u8 v' (k + 1) (fun j => dg (x / y) (n - 1 - j)) := by
            rw [cl_snoc, cl_congr (g := fun j => dg (x / y) (n - 1 - j)) (fun j hj => by
              by_cases e : j = k
              · rw [if_pos e, HYD.out, e]
              · rw [if_neg e])] at hown'
            exact hown'
          have HG5 := Lib.hid (show WrI w w5 w.heap.size (x / y) n v' (k + 1) from ⟨hb5, hown2⟩)
          clear hown' hgrow hb5 hown2
          go_wp2
          go_roundw
          case rel => exact ⟨k + 1, T - cc * y, v', r2, hkn1, by go_num, rfl, HRN.out.1, HRN.out.2, rfl, HG5.out⟩
          case measure => simp [intOf]; omega
    · obtain rfl : k = a.size := by omega
      have hsz' := HSZ.out
      have hRx : R = x % y := by rw [hR.out, hsz', Nat.sub_self, Nat.pow_zero, Nat.div_one]
      have hdx := Nat.div_le_self x y
      rcases hw.own.cases with ⟨hV, hk0⟩ | ⟨g, c2, rfl, hc2, hgb, hgl, hgc, hgf⟩
      · exfalso; omega
      · have hcv := run_convert_bytes_arg (P := Tryz.prog) (w := wr) 72 5 Tryz.underlying72 Tryz.underlying5 g 0 a.size c2 ((List.range a.size).map fun j => ((dg (x / y) (n - 1 - j) : Nat) : Int)) (by simp) (fun j hj => by rw [hgc j hj]; simp [hj]) 9 Tryz.underlying9
        have hst : strOfNums ((List.range a.size).map fun j => ((dg (x / y) (n - 1 - j) : Nat) : Int)) = str (sdig (x / y) n) := by
          rw [hsz']
          refine str_of ?_
          rw [strOfNums_data]
          apply List.ext_getElem?
          intro j
          by_cases hj : j < n
          · rw [sdig_get (x / y) n j hj, List.getElem?_map, List.getElem?_map, List.getElem?_range hj]
            simp only [Option.map_some]
            rw [Int.toNat_natCast]; rfl
          · rw [List.getElem?_eq_none (by simp; omega), List.getElem?_eq_none (by rw [sdig_length]; omega)]
        rw [hst] at hcv
        have HT := Lib.hid (trim_any (x / y) n wr (by omega) (Nat.lt_of_le_of_lt hdx HX.out) (by omega))
        have HB := Lib.hid hw.below
        have HRR : Hid (r = str (dec (x % y))) := by show _ = _; rw [hr.out, hRx]
        clear hw hgc hgf hst hr hR hRx hsz'
        go_wp2_with fail
        go_at_call 32
        refine HT.out.mono ?_
        rintro e w7 ⟨rfl, rfl⟩
        clear hcv
        go_wp2
        go_ret2
        exact ⟨by rw [HRR.out]; rfl, HB.out⟩

end Go.Proofs.YthklcdcikmninaaGreatDoor

