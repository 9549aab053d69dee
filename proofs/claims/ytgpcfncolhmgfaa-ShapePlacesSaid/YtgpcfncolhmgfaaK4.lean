/-
  The document's answers (package typeballref01): Trim, written, Of, by contract.
  The document's answers (package typeballref01): Right, digit, Cmp, Add, Sub, by contract.
  The document's answers (package typeballref01): Cmp, Sub, by contract.
  The document's answers (package typeballref01): Uint, groups, Bits, Limbs, by contract.
  The document's answers (package typeballref01): Bits and Limbs, by contract.
-/
import Derived.Test.YtgpcfncolhmgfaaK3
namespace Go.Proofs.Ytgpcfncolhmgfaa
open Go.RowKit

theorem ret_str {s t : ByteArray} (h : s = t) : Ending.returned (.string s) = .returned (.string t) := by rw [h]

theorem extract_cons (x : UInt8) (l : List UInt8) : (str (x :: l)).extract 1 (str (x :: l)).size = str l := by
  refine str_of ?_
  rw [Lib.extract_data]
  simp [str, ByteArray.size]

theorem dec_of_top {N k : Nat} (h : N < 10 ^ k) (h2 : k = 1 ∨ (1 ≤ k ∧ ¬ dgt N (k - 1) = 48)) : sdig N k = dec N := by
  have : dl N = k := by
    rcases h2 with rfl | ⟨h1, h2⟩
    · have := dl_le N 1 (by omega) h; have := dl_pos N; omega
    · refine Nat.le_antisymm (dl_le N k h1 h) ?_
      have : 10 ^ (k - 1) ≤ N := by
        rcases Nat.lt_or_ge N (10 ^ (k - 1)) with h3 | h3
        · exact absurd (by rw [dgt_zero, Nat.div_eq_of_lt h3]) h2
        · exact h3
      have := dl_ge this; omega
  unfold dec; rw [this]

theorem infoI : (Try.prog.info? 3).map (fun i => (i.zero, i.size, i.bytes)) = some (some (.int .i64 0), 1, 8) := by kernel_rfl

def d10 (N j : Nat) : Nat := N / 10 ^ j % 10
theorem dg_d10 (N j : Nat) : dg N j = 48 + d10 N j := rfl

/-- written: the digits, least first, as a row. -/
structure WrI (w wr : World) (base N n : Nat) (V : Value) (k : Nat) : Prop where
  below : Below base w wr
  own : OwnL wr base 5 .u8 V k (fun j => dg N (n - 1 - j))

/-- Of: the digits of a number of 64 bits. -/
structure OfI (w wr : World) (X : Nat) (V : Value) (k : Nat) : Prop where
  below : Below w.heap.size w wr
  own : OwnL wr w.heap.size 3 .i64 V k (d10 X)

end Go.Proofs.Ytgpcfncolhmgfaa

namespace Go.Proofs.Ytgpcfncolhmgfaa
open Go.RowKit

/-- What is carried into place i of an addition. -/
def carry (x y i : Nat) : Nat := (x % 10 ^ i + y % 10 ^ i) / 10 ^ i
theorem carry_zero (x y : Nat) : carry x y 0 = 0 := by simp [carry, Nat.mod_one]
theorem carry_le (x y i : Nat) : carry x y i ≤ 1 := by
  unfold carry
  have hp : 0 < 10 ^ i := Nat.pow_pos (by omega)
  have h1 := Nat.mod_lt x hp
  have h2 := Nat.mod_lt y hp
  have : (x % 10 ^ i + y % 10 ^ i) / 10 ^ i < 2 := by rw [Nat.div_lt_iff_lt_mul hp]; omega
  omega
theorem carry_step (x y i : Nat) : (d10 x i + d10 y i + carry x y i) % 10 = d10 (x + y) i ∧ (d10 x i + d10 y i + carry x y i) / 10 = carry x y (i + 1) := by
  have hp : 0 < 10 ^ i := Nat.pow_pos (by omega)
  have hx : x % 10 ^ (i + 1) = x % 10 ^ i + 10 ^ i * d10 x i := by unfold d10; rw [Nat.pow_succ, Nat.mod_mul]
  have hy : y % 10 ^ (i + 1) = y % 10 ^ i + 10 ^ i * d10 y i := by unfold d10; rw [Nat.pow_succ, Nat.mod_mul]
  have hs : (x % 10 ^ (i + 1) + y % 10 ^ (i + 1)) / 10 ^ i = d10 x i + d10 y i + carry x y i := by
    rw [hx, hy]
    unfold carry
    rw [show x % 10 ^ i + 10 ^ i * d10 x i + (y % 10 ^ i + 10 ^ i * d10 y i) = (x % 10 ^ i + y % 10 ^ i) + 10 ^ i * (d10 x i + d10 y i) by rw [Nat.mul_add]; omega, Nat.add_mul_div_left _ _ hp]
    omega
  constructor
  · rw [← hs]
    unfold d10
    have e1 := Nat.div_add_mod x (10 ^ (i + 1))
    have e2 := Nat.div_add_mod y (10 ^ (i + 1))
    have : x + y = x % 10 ^ (i + 1) + y % 10 ^ (i + 1) + 10 ^ i * (10 * (x / 10 ^ (i + 1) + y / 10 ^ (i + 1))) := by
      have e3 : 10 ^ i * (10 * (x / 10 ^ (i + 1) + y / 10 ^ (i + 1))) = 10 ^ (i + 1) * (x / 10 ^ (i + 1)) + 10 ^ (i + 1) * (y / 10 ^ (i + 1)) := by rw [← Nat.mul_assoc, ← Nat.pow_succ, Nat.mul_add]
      omega
    rw [this, Nat.add_mul_div_left _ _ hp]
    omega
  · rw [← hs, Nat.div_div_eq_div_mul, ← Nat.pow_succ]; rfl

theorem carry_done {x y i : Nat} (h : carry x y i = 0) (hx : x < 10 ^ i) (hy : y < 10 ^ i) : x + y < 10 ^ i := by
  unfold carry at h
  rw [Nat.mod_eq_of_lt hx, Nat.mod_eq_of_lt hy] at h
  have hp : 0 < 10 ^ i := Nat.pow_pos (by omega)
  rcases Nat.lt_or_ge (x + y) (10 ^ i) with h1 | h1
  · exact h1
  · have := Nat.div_pos h1 hp; omega

structure SumI (w wr : World) (Z : Nat) (V : Value) (k : Nat) : Prop where
  below : Below w.heap.size w wr
  own : OwnL wr w.heap.size 3 .i64 V k (d10 Z)

theorem cell_one_at (w : World) (x : Value) (t : TypeId) : ∀ j u, [x][j]? = some u → (w.alloc (.cells #[x] t)).cell? ((⟨w.heap.size, 0, none⟩ : Addr).add j) = some u := by
  intro j u hj
  match j, hj with
  | 0, hj => simp at hj; subst hj; simp [Addr.add]
theorem one_cell_list (k : IntKind) (x : Int) : ∀ u ∈ [Value.int k x], u.oneCell' = true := by
  intro u hu; simp at hu; subst hu; rfl
theorem sum_next {w wr w5 : World} {Z : Nat} {V v' : Value} {k r : Nat} {o : Obj} (h : SumI w wr Z V k) (hown : w5.ownsRow w.heap.size 3 1 v' (k + 1) (cl .i64 (d10 Z) k ++ [.int .i64 r])) (hg : (wr.alloc o).grownBy w5 V.ownBlock)
    (hz : w.heap.size ≤ wr.heap.size) (hr : r = d10 Z k) : SumI w w5 Z v' (k + 1) := by
  refine ⟨(h.below.alloc hz _).grown hg (by rw [World.size_alloc]; omega) (fun q hq => (World.ownsRow.lt h.own q hq).1), ?_⟩
  rw [cl_snoc, cl_congr (g := d10 Z) (fun j hj => by
    by_cases e : j = k
    · rw [if_pos e, hr, e]
    · rw [if_neg e])] at hown
  exact hown

end Go.Proofs.Ytgpcfncolhmgfaa

namespace Go.Proofs.Ytgpcfncolhmgfaa
open Go.RowKit

theorem numOf_sdig (N : Nat) : ∀ n, numOf (sdig N n) = N % 10 ^ n
  | 0 => by simp [sdig, numOf, Nat.mod_one]
  | n + 1 => by
    rw [sdig, numOf, numOf_sdig N n, sdig_length, dgt_toNat, Nat.pow_succ, Nat.mod_mul]
    rw [Nat.add_sub_cancel_left, Nat.mul_comm (N / 10 ^ n % 10)]
    omega

theorem sdig_inj {x y n : Nat} (hx : x < 10 ^ n) (hy : y < 10 ^ n) (h : sdig x n = sdig y n) : x = y := by
  have := congrArg numOf h
  rw [numOf_sdig, numOf_sdig, Nat.mod_eq_of_lt hx, Nat.mod_eq_of_lt hy] at this
  exact this

theorem less_sdig (x y : Nat) : ∀ n, Op.bytesLess (sdig x n) (sdig y n) = decide (x % 10 ^ n < y % 10 ^ n)
  | 0 => by simp [sdig, Op.bytesLess, Nat.mod_one]
  | n + 1 => by
    rw [sdig, sdig, Op.bytesLess, less_sdig x y n, Nat.pow_succ, Nat.mod_mul, Nat.mod_mul]
    have hp : 0 < 10 ^ n := Nat.pow_pos (by omega)
    have hx := Nat.mod_lt x hp
    have hy := Nat.mod_lt y hp
    have e1 : (dgt x n < dgt y n) ↔ x / 10 ^ n % 10 < y / 10 ^ n % 10 := by
      rw [UInt8.lt_iff_toNat_lt, dgt_toNat, dgt_toNat]; omega
    have e2 : (dgt x n = dgt y n) ↔ x / 10 ^ n % 10 = y / 10 ^ n % 10 := by
      rw [← UInt8.toNat_inj, dgt_toNat, dgt_toNat]; omega
    generalize x / 10 ^ n % 10 = a at *
    generalize y / 10 ^ n % 10 = b at *
    generalize x % 10 ^ n = u at *
    generalize y % 10 ^ n = v at *
    generalize 10 ^ n = P at *
    rw [Bool.eq_iff_iff]
    simp only [Bool.or_eq_true, decide_eq_true_eq, Bool.and_eq_true, beq_iff_eq, e1, e2]
    rcases Nat.lt_trichotomy a b with h | h | h
    · have h3 := Nat.mul_le_mul_left P (show a + 1 ≤ b from h)
      rw [Nat.mul_add] at h3
      constructor
      · intro _; omega
      · intro _; exact .inl h
    · subst h
      constructor
      · rintro (h | ⟨_, h⟩) <;> omega
      · intro h; exact .inr ⟨rfl, by omega⟩
    · have h3 := Nat.mul_le_mul_left P (show b + 1 ≤ a from h)
      rw [Nat.mul_add] at h3
      constructor
      · rintro (h1 | ⟨h1, _⟩) <;> omega
      · intro h1; omega

theorem dl_mono_lt {x y : Nat} (h : dl x < dl y) : x < y := by
  have h1 := dl_lt x
  have hy : 0 < y := by
    rcases Nat.eq_zero_or_pos y with h0 | h0
    · subst h0
      have e : dl 0 = 1 := by unfold dl; rfl
      have := dl_pos x; omega
    · exact h0
  have h2 := dl_low hy
  have := Nat.pow_le_pow_right (show 0 < 10 by omega) (show dl x ≤ dl y - 1 by omega)
  omega

end Go.Proofs.Ytgpcfncolhmgfaa

namespace Go.Proofs.Ytgpcfncolhmgfaa
open Go.RowKit

theorem numOf_append (b : List UInt8) : ∀ a : List UInt8, numOf (a ++ b) = numOf a * 10 ^ b.length + numOf b
  | [] => by simp [numOf]
  | c :: a => by
    rw [List.cons_append, numOf, numOf_append b a, numOf, List.length_append, Nat.pow_add, Nat.add_mul, Nat.mul_assoc]
    omega
theorem numOf_take_le (l : List UInt8) (k : Nat) : numOf (l.take k) ≤ numOf l := by
  have h := numOf_append (l.drop k) (l.take k)
  rw [List.take_append_drop] at h
  have := Nat.le_mul_of_pos_right (numOf (l.take k)) (Nat.pow_pos (n := (l.drop k).length) (show 0 < 10 by omega))
  omega
theorem numOf_dec (N : Nat) : numOf (dec N) = N := by unfold dec; rw [numOf_sdig, Nat.mod_eq_of_lt (dl_lt N)]
theorem dec_dig (N : Nat) : ∀ c ∈ dec N, 48 ≤ c.toNat ∧ c.toNat ≤ 57 := by
  intro c hc
  obtain ⟨j, hj⟩ := List.getElem?_of_mem hc
  unfold dec at hj
  have hjl : j < dl N := by
    rcases Nat.lt_or_ge j (dl N) with h | h
    · exact h
    · rw [List.getElem?_eq_none (by rw [sdig_length]; exact h)] at hj; cases hj
  rw [sdig_get N _ _ hjl] at hj
  cases hj
  rw [dgt_toNat]
  have := Nat.mod_lt (N / 10 ^ (dl N - 1 - j)) (show 0 < 10 by omega)
  omega

theorem dec_max : dec 18446744073709551615 = [49, 56, 52, 52, 54, 55, 52, 52, 48, 55, 51, 55, 48, 57, 53, 53, 49, 54, 49, 53] := by
  rw [← dec_of_top (k := 20) (by decide) (.inr ⟨by decide, by decide⟩)]
  decide

/-- A text of digits at place k: its digit, and what stands before. -/
theorem dec_at {N : Nat} {s : ByteArray} (hs : s.data.toList = dec N) {k : Nat} (hk : k < s.size) :
    ∃ c x : Nat, s[k].toNat = c ∧ c = 48 + x ∧ x < 10 ∧ numOf (s.data.toList.take (k + 1)) = 10 * numOf (s.data.toList.take k) + x := by
  have hm : s[k] ∈ dec N := by
    rw [← hs]
    exact List.getElem_mem (l := s.data.toList) (by simpa using hk)
  obtain ⟨h1, h2⟩ := dec_dig N _ hm
  refine ⟨_, s[k].toNat - 48, rfl, by omega, by omega, ?_⟩
  rw [take_snoc s k hk, numOf_snoc]

def uI (N : Nat) : Nat := if N < 18446744073709551616 then N else 0
/-- A number out of groups, the greatest first. -/
def hor (g : Nat → Nat) : Nat → Nat
  | 0 => 0
  | k + 1 => hor g k * 1000000000 + g k
theorem hor_congr {f g : Nat → Nat} : ∀ n, (∀ j, j < n → f j = g j) → hor f n = hor g n
  | 0, _ => rfl
  | n + 1, h => by rw [hor, hor, hor_congr n (fun j hj => h j (by omega)), h n (by omega)]

/-- A list of the call's own that is a number in groups. -/
def GrpIs (wr : World) (base : Nat) (V : Value) (cnt X : Nat) : Prop := ∃ g, OwnL wr base 3 .i64 V cnt g ∧ (∀ j, j < cnt → g j < 1000000000) ∧ hor g cnt = X

theorem GrpIs.snoc {wr w5 : World} {base : Nat} {V v' : Value} {cnt X x : Nat} (h : GrpIs wr base V cnt X) (hx : x < 1000000000) (hown : ∀ g, OwnL wr base 3 .i64 V cnt g → w5.ownsRow base 3 1 v' (cnt + 1) (cl .i64 g cnt ++ [.int .i64 x])) : GrpIs w5 base v' (cnt + 1) (X * 1000000000 + x) := by
  obtain ⟨g, h1, h2, h3⟩ := h
  have := hown g h1
  rw [cl_snoc] at this
  refine ⟨_, this, fun j hj => ?_, ?_⟩
  · show (if j = cnt then x else g j) < _
    split
    · exact hx
    · exact h2 j (by omega)
  · rw [hor, if_pos rfl, hor_congr cnt (g := g) (fun j hj => if_neg (by omega)), h3]

/-- At the head of a round of groups. -/
def GrI (w wr : World) (s : ByteArray) (V : Value) (n i : Nat) : Prop := Below w.heap.size w wr ∧ ∃ p cnt X, GrpIs wr w.heap.size V cnt X ∧ X * 10 ^ p + n = numOf (s.data.toList.take i) ∧ n < 10 ^ p ∧ (s.size - i) % 9 + p ≤ 9 ∧ ((s.size - i) % 9 = 0 → p = 0) ∧ cnt ≤ i ∧ (X = 0 ∨ (s.size - i + p) % 9 = 0)

end Go.Proofs.Ytgpcfncolhmgfaa

namespace Go.Proofs.Ytgpcfncolhmgfaa
open Go.RowKit

theorem nbits_zero : nbits 0 = 0 := by simp [nbits]
theorem nbits_half {N : Nat} (h : 0 < N) : nbits N = nbits (N / 2) + 1 := by
  rcases Nat.lt_or_ge N 2 with h1 | h1
  · obtain rfl : N = 1 := by omega
    rw [nbits_eq (N := 1) (b := 0) (by decide) (by decide)]
    simp [nbits]
  · obtain ⟨b, hb⟩ : ∃ b, nbits (N / 2) = b + 1 := by
      refine ⟨(N / 2).log2, ?_⟩
      unfold nbits; rw [if_neg (by omega)]
    rw [hb]
    have h2 : N / 2 < 2 ^ (b + 1) := nbits_le.1 (by omega)
    have h3 : ¬ N / 2 < 2 ^ b := fun h => by have := nbits_le.2 h; omega
    refine nbits_eq ?_ ?_
    · rw [Nat.pow_succ]; omega
    · rw [Nat.pow_succ]; omega
theorem nbits_shift {N : Nat} (k : Nat) (h : 0 < N / 2 ^ k) : nbits N = nbits (N / 2 ^ k) + k := by
  induction k generalizing N with
  | zero => simp
  | succ k ih =>
    have e : N / 2 ^ (k + 1) = N / 2 / 2 ^ k := by rw [Nat.pow_succ, Nat.mul_comm, Nat.div_div_eq_div_mul]
    rw [e] at h ⊢
    have h0 : 0 < N := by
      rcases Nat.eq_zero_or_pos N with h1 | h1
      · subst h1; simp at h
      · exact h1
    rw [nbits_half h0, ih h]; omega

theorem OwnL.mono {w : World} {base base' : Nat} {e : TypeId} {ki : IntKind} {v : Value} {n : Nat} {f : Nat → Nat} (h : OwnL w base e ki v n f) (hb : base' ≤ base) : OwnL w base' e ki v n f := by
  refine ⟨h.1, ?_⟩
  rcases h.2 with h0 | ⟨g, cap, cur, h1, h2, h3⟩
  · exact .inl h0
  · exact .inr ⟨g, cap, cur, h1, by omega, h3⟩

theorem hor_succ (g : Nat → Nat) (k : Nat) : hor g (k + 1) = hor g k * 1000000000 + g k := by rw [hor]
/-- One group more, divided by 65536. -/
theorem hor_div (X x : Nat) : (X % 65536 * 1000000000 + x) % 65536 = (X * 1000000000 + x) % 65536 ∧ X / 65536 * 1000000000 + (X % 65536 * 1000000000 + x) / 65536 = (X * 1000000000 + x) / 65536 := by
  constructor <;> omega

structure BitI (W0 wr : World) (g : Nat → Nat) (Q : Value) (c2 k : Nat) : Prop where
  below : Below W0.heap.size W0 wr
  grp : GrpIs wr W0.heap.size Q c2 (hor g k / 65536)
  zero : c2 = 0 ↔ hor g k / 65536 = 0
  len : c2 ≤ k

theorem GrpIs.zero {wr : World} {base : Nat} {V : Value} {cnt X : Nat} (h : GrpIs wr base V cnt X) (h0 : cnt = 0) : X = 0 := by
  obtain ⟨g, _, _, h3⟩ := h
  subst h0; exact h3.symm

/-- At the head of a round of Bits. -/
structure BitO (w wr : World) (N E j X : Nat) (V : Value) (cnt : Nat) : Prop where
  below : Below w.heap.size w wr
  grp : GrpIs wr w.heap.size V cnt X
  len : cnt ≤ 1000
  bits : nbits N = 16 * j + nbits X
  lim : X < 65536 ^ (E - j)

theorem BitI.next {W0 wr w5 : World} {g : Nat → Nat} {Q v' : Value} {c2 k tt : Nat} (h : BitI W0 wr g Q c2 k) (htt : hor g k % 65536 * 1000000000 + g k = tt) (hq : tt / 65536 < 1000000000) (hb : Below W0.heap.size W0 w5)
    (hpos : 0 < c2 ∨ 0 < tt / 65536)
    (hown : ∀ g', OwnL wr W0.heap.size 3 .i64 Q c2 g' → w5.ownsRow W0.heap.size 3 1 v' (c2 + 1) (cl .i64 g' c2 ++ [.int .i64 (tt / 65536 : Nat)])) : BitI W0 w5 g v' (c2 + 1) (k + 1) := by
  have e := (hor_div (hor g k) (g k)).2
  rw [htt] at e
  have hs := h.grp.snoc (w5 := w5) (v' := v') hq hown
  rw [e, ← hor_succ] at hs
  rw [← hor_succ] at e
  refine ⟨hb, hs, ⟨fun h0 => by omega, fun h0 => ?_⟩, by have := h.len; omega⟩
  exfalso
  have hz : hor g k / 65536 * 1000000000 + tt / 65536 = 0 := by rw [e]; exact h0
  rcases hpos with hp | hp
  · have := h.zero.2 (by omega); omega
  · omega

theorem BitI.skip {W0 wr : World} {g : Nat → Nat} {Q : Value} {c2 k tt : Nat} (h : BitI W0 wr g Q c2 k) (htt : hor g k % 65536 * 1000000000 + g k = tt) (h0 : c2 = 0) (h1 : tt / 65536 = 0) : BitI W0 wr g Q c2 (k + 1) := by
  have e := (hor_div (hor g k) (g k)).2
  rw [htt, h1, h.zero.1 h0] at e
  have e2 : hor g (k + 1) / 65536 = 0 := by
    rw [hor_succ, ← e, Nat.zero_mul]
  refine ⟨h.below, ?_, ⟨fun _ => e2, fun _ => h0⟩, by have := h.len; omega⟩
  have := h.grp
  rw [h.zero.1 h0] at this
  rw [e2]; exact this

theorem GrpIs.fn {wr w5 : World} {base : Nat} {V : Value} {cnt : Nat} {v' : Value} {x : Nat} {g g' : Nat → Nat} (h1 : OwnL wr base 3 .i64 V cnt g') (h2 : OwnL wr base 3 .i64 V cnt g)
    (hown' : w5.ownsRow base 3 1 v' (cnt + 1) (cl .i64 g cnt ++ [.int .i64 x])) : w5.ownsRow base 3 1 v' (cnt + 1) (cl .i64 g' cnt ++ [.int .i64 x]) := by
  have e : cl .i64 g' cnt = cl .i64 g cnt := by
    rcases h1.2 with ⟨a1, a2⟩ | ⟨q1, c1, cu1, a1, _, a3, _, _, _, a4⟩
    · rw [a2]; rfl
    · rcases h2.2 with ⟨b1, b2⟩ | ⟨q2, c2, cu2, b1, _, b3, _, _, _, b4⟩
      · rw [b2]; rfl
      · rw [a1] at b1
        simp only [Value.slice.injEq, Option.some.injEq, Addr.mk.injEq, and_true, true_and] at b1
        obtain ⟨rfl, _⟩ := b1
        rw [a3] at b3
        simp only [Option.some.injEq, Obj.cells.injEq, and_true] at b3
        rw [← a4, ← b4, b3]
  rw [e]; exact hown'

end Go.Proofs.Ytgpcfncolhmgfaa

