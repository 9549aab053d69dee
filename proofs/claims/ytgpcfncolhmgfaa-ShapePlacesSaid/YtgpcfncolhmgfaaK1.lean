/-
  Plain words for rows of limbs and of bytes in memory: a slice that reads as a function on places, what a call that writes into one block leaves alone, and the number that limbs are.
  Plain mathematics of decimal digits: a number's digits to a length, and without noughts ahead.
  What the small functions of package nat do, each call by its contract: trimmed, copied, Of, limbAt, Zero, One, Limbs.
  Package nat, the loops that write into a row of their own: addTo, takeTimes, addTimes, divideBy, by contract.
  Go's bits.Sub32 and bits.Div32, by contract.
  Package nat: takeTimes (a row less part times a limb) and divideBy (a row by a limb), by contract.
  Package nat: divideBy (a row by a limb, in place), by contract.
  Package nat: addTimes, shiftUp, shiftDown, by contract.
  Package nat: shiftUp, shiftDown, by contract.
  Package nat: guessDigit, by contract: the digit, or one more.
  Package nat: takeDigit, by contract: the digit of the quotient; the rest is what is left.
-/
import Derived.WalkKit
import Derived.WalkSpells
import Derived.Deep.Draws
import Derived.Lib.Hide
import Derived.Lib.TrimByte
import Derived.Test.YtgpcfncolhmgfaaRows
import Derived.WalkLawsBesides
import Derived.Laws.CopyOwn
import Derived.Deep.QuietTactic
import Derived.BigQuiet
import Derived.BigRegion
import Derived.RegionTactic
import Derived.Deep.RegionWith
import Derived.StillTailTactics
import Derived.IntWalk
namespace Go.Proofs.Ytgpcfncolhmgfaa
open Go.RowKit

/-- The number that the first n limbs of f are. -/
def val (f : Nat → Nat) : Nat → Nat
  | 0 => 0
  | n + 1 => val f n + f n * 4294967296 ^ n

/-- How many limbs are left when noughts at the end are struck. -/
def tl (f : Nat → Nat) : Nat → Nat
  | 0 => 0
  | n + 1 => if f n = 0 then tl f n else n + 1

theorem tl_le (f : Nat → Nat) : ∀ n, tl f n ≤ n
  | 0 => Nat.le_refl _
  | n + 1 => by unfold tl; split; · exact Nat.le_succ_of_le (tl_le f n)
                · exact Nat.le_refl _

theorem tl_last (f : Nat → Nat) : ∀ n, tl f n = 0 ∨ f (tl f n - 1) ≠ 0
  | 0 => .inl rfl
  | n + 1 => by
    unfold tl; split
    · exact tl_last f n
    · exact .inr (by simpa)

theorem tl_val (f : Nat → Nat) : ∀ n, val f (tl f n) = val f n
  | 0 => rfl
  | n + 1 => by
    unfold tl; split
    · rename_i h; rw [tl_val f n, val, h]; simp
    · rfl

theorem val_lt (f : Nat → Nat) : ∀ n, (∀ j, j < n → f j < 4294967296) → val f n < 4294967296 ^ n
  | 0, _ => by simp [val]
  | n + 1, h => by
    have h1 := val_lt f n (fun j hj => h j (by omega))
    have h2 := h n (by omega)
    rw [val, Nat.pow_succ]
    have h3 : f n * 4294967296 ^ n ≤ 4294967295 * 4294967296 ^ n := Nat.mul_le_mul_right _ (by omega)
    omega

theorem val_congr {f g : Nat → Nat} : ∀ n, (∀ j, j < n → f j = g j) → val f n = val g n
  | 0, _ => rfl
  | n + 1, h => by rw [val, val, val_congr n (fun j hj => h j (by omega)), h n (by omega)]

/-- Cells off .. off+n of block b hold the numbers of f, of one kind. -/
def Cells (w : World) (ki : IntKind) (b off n : Nat) (f : Nat → Nat) : Prop := ∀ j, j < n → w.cell? ⟨b, off + j, none⟩ = some (.int ki (f j))

/-- The slice (a, n, c) reads as the first n numbers of f, each below m. -/
def SlAt (w : World) (ki : IntKind) (m : Nat) (a : Option Addr) (n c : Nat) (f : Nat → Nat) : Prop :=
  n ≤ c ∧ n ≤ 1000000 ∧ (∀ j, j < n → f j < m) ∧ ((a = none ∧ c = 0) ∨ ∃ b off, a = some ⟨b, off, none⟩ ∧ b < w.heap.size ∧ Cells w ki b off n f)

theorem SlAt.nil (w : World) (ki : IntKind) (m : Nat) (f : Nat → Nat) : SlAt w ki m none 0 0 f := ⟨Nat.le_refl _, by omega, fun j h => by omega, .inl ⟨rfl, rfl⟩⟩

theorem SlAt.below {w w' : World} {ki : IntKind} {m : Nat} {a : Option Addr} {n c : Nat} {f : Nat → Nat} (h : SlAt w ki m a n c f) (hb : Below w.heap.size w w') : SlAt w' ki m a n c f := by
  obtain ⟨h1, h2, h3, h4⟩ := h
  refine ⟨h1, h2, h3, ?_⟩
  rcases h4 with h4 | ⟨b, off, h4, h5, h6⟩
  · exact .inl h4
  · exact .inr ⟨b, off, h4, Nat.lt_of_lt_of_le h5 hb.size, fun j hj => (hb.cell (p := ⟨b, off + j, none⟩) h5).trans (h6 j hj)⟩

theorem SlAt.take {w : World} {ki : IntKind} {m : Nat} {a : Option Addr} {n c : Nat} {f : Nat → Nat} (h : SlAt w ki m a n c f) {k : Nat} (hk : k ≤ n) : SlAt w ki m a k c f := by
  obtain ⟨h1, h2, h3, h4⟩ := h
  refine ⟨by omega, by omega, fun j hj => h3 j (by omega), ?_⟩
  rcases h4 with h4 | ⟨b, off, h4, h5, h6⟩
  · exact .inl h4
  · exact .inr ⟨b, off, h4, h5, fun j hj => h6 j (by omega)⟩

/-- The place of a slice that is not empty. -/
theorem SlAt.at {w : World} {ki : IntKind} {m : Nat} {a : Option Addr} {n c : Nat} {f : Nat → Nat} (h : SlAt w ki m a n c f) (hn : 0 < n) : ∃ b off, a = some ⟨b, off, none⟩ ∧ b < w.heap.size ∧ Cells w ki b off n f := by
  obtain ⟨h1, h2, h3, h4⟩ := h
  rcases h4 with ⟨_, h4⟩ | h4
  · omega
  · exact h4

/-- The value is the natural number N in memory: its limbs, the last one not 0. -/
def NatIs (w : World) (v : Value) (N : Nat) : Prop := ∃ a n c f, v = .agg #[.slice a n c] ∧ SlAt w .u32 4294967296 a n c f ∧ val f n = N ∧ (n = 0 ∨ f (n - 1) ≠ 0)

theorem NatIs.below {w w' : World} {v : Value} {N : Nat} (h : NatIs w v N) (hb : Below w.heap.size w w') : NatIs w' v N := by
  obtain ⟨a, n, c, f, h1, h2, h3, h4⟩ := h
  exact ⟨a, n, c, f, h1, h2.below hb, h3, h4⟩

theorem NatIs.zero (w : World) : NatIs w (.agg #[.slice none 0 0]) 0 := ⟨none, 0, 0, fun _ => 0, rfl, SlAt.nil _ _ _ _, rfl, .inl rfl⟩

/-- A call wrote into block k alone, and there only from lo to hi; new blocks apart. -/
structure Wrote (k lo hi : Nat) (w w' : World) : Prop where
  os : w'.os = w.os
  tape : w'.tape = w.tape
  output : w'.output = w.output
  size : w.heap.size ≤ w'.heap.size
  block : ∀ j, j < w.heap.size → j ≠ k → w'.heap[j]? = w.heap[j]?
  cell : ∀ o, (o < lo ∨ hi ≤ o) → w'.cell? ⟨k, o, none⟩ = w.cell? ⟨k, o, none⟩
  frozen : ∀ o, w'.frozen? ⟨k, o, none⟩ = w.frozen? ⟨k, o, none⟩

theorem Wrote.refl (k lo hi : Nat) (w : World) : Wrote k lo hi w w := ⟨rfl, rfl, rfl, Nat.le_refl _, fun _ _ _ => rfl, fun _ _ => rfl, fun _ => rfl⟩
theorem Wrote.trans {k lo hi : Nat} {a b c : World} (h : Wrote k lo hi a b) (g : Wrote k lo hi b c) : Wrote k lo hi a c :=
  ⟨g.os.trans h.os, g.tape.trans h.tape, g.output.trans h.output, Nat.le_trans h.size g.size, fun j hj hk => (g.block j (Nat.lt_of_lt_of_le hj h.size) hk).trans (h.block j hj hk),
    fun o ho => (g.cell o ho).trans (h.cell o ho), fun o => (g.frozen o).trans (h.frozen o)⟩
theorem Wrote.mono {k lo hi lo' hi' : Nat} {a b : World} (h : Wrote k lo hi a b) (h1 : lo' ≤ lo) (h2 : hi ≤ hi') : Wrote k lo' hi' a b :=
  ⟨h.os, h.tape, h.output, h.size, h.block, fun o ho => h.cell o (by omega), h.frozen⟩
theorem Wrote.drew {k lo hi : Nat} {a b : World} (h : Wrote k lo hi a b) : Wrote k lo hi a b.drew := ⟨h.os, h.tape, h.output, h.size, h.block, h.cell, h.frozen⟩
theorem Wrote.drewN {k lo hi : Nat} {a b : World} (h : Wrote k lo hi a b) (n : Nat) : Wrote k lo hi a (b.drewN n) := ⟨h.os, h.tape, h.output, h.size, h.block, h.cell, h.frozen⟩
theorem Wrote.of_below {k lo hi : Nat} {a b : World} (h : Below a.heap.size a b) (hk : k < a.heap.size) : Wrote k lo hi a b :=
  ⟨h.os, h.tape, h.output, h.size, fun j hj _ => h.block j hj, fun o _ => h.cell (p := ⟨k, o, none⟩) hk, fun o => h.frozen (p := ⟨k, o, none⟩) hk⟩
theorem Wrote.below {k lo hi B : Nat} {w a b : World} (h : Wrote k lo hi a b) (hw : Below B w a) (hk : B ≤ k) (hB : B ≤ a.heap.size) : Below B w b :=
  hw.trans ⟨h.os, h.tape, h.output, h.size, fun j hj => h.block j (by omega) (by omega)⟩
theorem Wrote.setCell {k lo hi : Nat} {a b : World} (h : Wrote k lo hi a b) {o : Nat} (h1 : lo ≤ o) (h2 : o < hi) (u : Value) : Wrote k lo hi a (b.setCell ⟨k, o, none⟩ u) := by
  refine h.trans ⟨rfl, rfl, rfl, by simp [World.setCell], fun j hj hk => Below.heap_setCell _ _ _ _ hk, fun o' ho => ?_, fun o' => by simp⟩
  exact World.cell?_setCell_other _ _ _ _ (fun e => by cases e; omega)

/-- No cell of block b is read-only. -/
def Free (w : World) (b : Nat) : Prop := ∀ o, w.frozen? ⟨b, o, none⟩ = false
theorem Free.wrote {w w' : World} {b k lo hi : Nat} (h : Free w b) (hw : Wrote k lo hi w w') (hb : b < w.heap.size) : Free w' b := by
  intro o
  by_cases hk : b = k
  · subst hk; rw [hw.frozen]; exact h o
  · rw [World.frozen?_of_block (w := w) (w' := w') (hw.block b hb hk)]; exact h o
theorem Free.below {w w' : World} {b : Nat} (h : Free w b) (hw : Below w.heap.size w w') (hb : b < w.heap.size) : Free w' b := fun o => (hw.frozen (p := ⟨b, o, none⟩) hb).trans (h o)
theorem Free.of_block {w : World} {b : Nat} {cs : Array Value} {t : TypeId} (h : w.heap[b]? = some (.cells cs t (0, 0))) : Free w b := by
  intro o; simp [World.frozen?, h]
theorem Cells.of_block {w : World} {ki : IntKind} {b n : Nat} {f : Nat → Nat} {cs : List Value} {t : TypeId} (h : w.heap[b]? = some (.cells cs.toArray t (0, 0))) (hc : ∀ j, j < n → cs[j]? = some (.int ki (f j))) : Cells w ki b 0 n f := by
  intro j hj; simp [World.cell?, h]; exact hc j hj
theorem Cells.wrote {w w' : World} {ki : IntKind} {b off n k lo hi : Nat} {f : Nat → Nat} (h : Cells w ki b off n f) (hw : Wrote k lo hi w w') (hb : b < w.heap.size) (hd : b = k → ∀ j, j < n → off + j < lo ∨ hi ≤ off + j) : Cells w' ki b off n f := by
  intro j hj
  by_cases hk : b = k
  · subst hk; rw [hw.cell _ (hd rfl j hj)]; exact h j hj
  · rw [World.cell?_of_block (w := w) (w' := w') (hw.block b hb hk)]; exact h j hj
theorem Cells.below {w w' : World} {ki : IntKind} {b off n : Nat} {f : Nat → Nat} (h : Cells w ki b off n f) (hw : Below w.heap.size w w') (hb : b < w.heap.size) : Cells w' ki b off n f :=
  fun j hj => (hw.cell (p := ⟨b, off + j, none⟩) hb).trans (h j hj)
theorem SlAt.wrote {w w' : World} {ki : IntKind} {m : Nat} {a : Option Addr} {n c k lo hi : Nat} {f : Nat → Nat} (h : SlAt w ki m a n c f) (hw : Wrote k lo hi w w') (hd : ∀ x, a = some x → x.block ≠ k) : SlAt w' ki m a n c f := by
  obtain ⟨h1, h2, h3, h4⟩ := h
  refine ⟨h1, h2, h3, ?_⟩
  rcases h4 with h4 | ⟨b, off, h4, h5, h6⟩
  · exact .inl h4
  · exact .inr ⟨b, off, h4, Nat.lt_of_lt_of_le h5 hw.size, h6.wrote hw h5 (fun e => absurd e (hd _ h4))⟩
/-- One store: the row is told by the function changed at one place. -/
theorem Cells.set {w : World} {ki : IntKind} {b off n : Nat} {f : Nat → Nat} (h : Cells w ki b off n f) {k x : Nat} (hk : k < n) : Cells (w.setCell ⟨b, off + k, none⟩ (.int ki x)) ki b off n (fun j => if j = k then x else f j) := by
  intro j hj
  by_cases e : j = k
  · subst e; simp only [if_true]; exact World.cell?_setCell_same _ _ _ (h j hj)
  · simp only [e, if_false]; rw [World.cell?_setCell_other _ _ _ _ (fun e' => e (by simp only [Addr.mk.injEq] at e'; omega))]; exact h j hj
theorem Free.set {w : World} {b : Nat} (h : Free w b) (a : Addr) (u : Value) : Free (w.setCell a u) b := fun o => by simp [h o]
/-- Bounds of a wrapped number. -/
theorem ret_int {k : IntKind} {a b : Int} (h : a = b) : Ending.returned (.int k a) = .returned (.int k b) := by rw [h]

theorem ret_two {k k' : IntKind} {a b a' b' : Int} (h : a = b) (h' : a' = b') : Ending.returned (.tuple #[.int k a, .int k' a']) = .returned (.tuple #[.int k b, .int k' b']) := by rw [h, h']

theorem pow_succ32 (k : Nat) : (4294967296 : Nat) ^ (k + 1) = 4294967296 * 4294967296 ^ k := by rw [Nat.pow_succ, Nat.mul_comm]

end Go.Proofs.Ytgpcfncolhmgfaa

namespace Go.Proofs.Ytgpcfncolhmgfaa

/-- The digit of place j (0: the last one), as a byte. -/
def dgt (N j : Nat) : UInt8 := UInt8.ofNat (48 + N / 10 ^ j % 10)
/-- The n last digits. -/
def sdig (N : Nat) : Nat → List UInt8
  | 0 => []
  | n + 1 => dgt N n :: sdig N n
/-- How many digits a number has. -/
def dl (N : Nat) : Nat := if h : N < 10 then 1 else dl (N / 10) + 1
termination_by N
decreasing_by omega
def dec (N : Nat) : List UInt8 := sdig N (dl N)

theorem dgt_toNat (N j : Nat) : (dgt N j).toNat = 48 + N / 10 ^ j % 10 := by
  unfold dgt
  have := Nat.mod_lt (N / 10 ^ j) (show 0 < 10 by omega)
  rw [UInt8.toNat_ofNat']
  omega

theorem dgt_zero {N j : Nat} : dgt N j = 48 ↔ N / 10 ^ j % 10 = 0 := by
  rw [← UInt8.toNat_inj, dgt_toNat]
  show 48 + _ = 48 ↔ _
  omega

theorem sdig_length (N : Nat) : ∀ n, (sdig N n).length = n
  | 0 => rfl
  | n + 1 => by rw [sdig, List.length_cons, sdig_length N n]

theorem sdig_get (N : Nat) : ∀ n i, i < n → (sdig N n)[i]? = some (dgt N (n - 1 - i))
  | 0, i, h => by omega
  | n + 1, 0, _ => by rw [sdig]; simp
  | n + 1, i + 1, h => by
    rw [sdig, List.getElem?_cons_succ, sdig_get N n i (by omega)]
    rw [show n + 1 - 1 - (i + 1) = n - 1 - i by omega]

theorem dl_pos (N : Nat) : 0 < dl N := by unfold dl; split <;> omega

theorem dl_lt : ∀ N, N < 10 ^ dl N := by
  intro N
  induction N using Nat.strongRecOn with
  | _ N ih =>
    unfold dl
    split
    · omega
    · have := ih (N / 10) (by omega)
      rw [Nat.pow_succ]; omega

theorem dl_le : ∀ N n, 0 < n → N < 10 ^ n → dl N ≤ n := by
  intro N
  induction N using Nat.strongRecOn with
  | _ N ih =>
    intro n hn h
    unfold dl
    split
    · omega
    · rename_i h10
      obtain ⟨m, rfl⟩ : ∃ m, n = m + 1 := ⟨n - 1, by omega⟩
      rw [Nat.pow_succ] at h
      have hm : 0 < m := by
        rcases Nat.eq_zero_or_pos m with h0 | h0
        · subst h0; simp at h; omega
        · exact h0
      have := ih (N / 10) (by omega) m hm (by omega)
      omega

theorem dl_ge {N n : Nat} (h : 10 ^ n ≤ N) : n < dl N := by
  have h1 := dl_lt N
  rcases Nat.lt_or_ge n (dl N) with h2 | h2
  · exact h2
  · have := Nat.pow_le_pow_right (show 0 < 10 by omega) h2
    omega

theorem dl_low {N : Nat} (h : 0 < N) : 10 ^ (dl N - 1) ≤ N := by
  rcases Nat.lt_or_ge N (10 ^ (dl N - 1)) with h1 | h1
  · rcases Nat.eq_zero_or_pos (dl N - 1) with h2 | h2
    · rw [h2] at h1; simp at h1; omega
    · have := dl_le N _ h2 h1; omega
  · exact h1

theorem dec_zero : dec 0 = [48] := by
  have : dl 0 = 1 := by unfold dl; rfl
  unfold dec; rw [this]; rfl

/-- Striking noughts ahead. -/
theorem drop_zeros (N : Nat) (h : 0 < N) : ∀ n, N < 10 ^ n → (sdig N n).dropWhile (· == 48) = dec N := by
  intro n
  induction n with
  | zero => intro h1; simp at h1; omega
  | succ n ih =>
    intro h1
    rcases Nat.lt_or_ge N (10 ^ n) with h2 | h2
    · have : dgt N n = 48 := by rw [dgt_zero, Nat.div_eq_of_lt h2]
      rw [sdig, List.dropWhile_cons, this]
      simpa using ih h2
    · have hd : dl N = n + 1 := Nat.le_antisymm (dl_le N _ (by omega) h1) (dl_ge h2)
      have h3 : N / 10 ^ n < 10 := by
        rw [Nat.div_lt_iff_lt_mul (Nat.pow_pos (by omega))]; rw [Nat.pow_succ] at h1; omega
      have h4 : 0 < N / 10 ^ n := Nat.div_pos h2 (Nat.pow_pos (by omega))
      have : ¬ dgt N n = 48 := by rw [dgt_zero]; omega
      unfold dec
      rw [hd, sdig, List.dropWhile_cons]
      simp [this]

/-- A row of digit bytes is the digits of a number. -/
def numOf : List UInt8 → Nat
  | [] => 0
  | c :: l => (c.toNat - 48) * 10 ^ l.length + numOf l

theorem numOf_lt : ∀ l : List UInt8, (∀ c ∈ l, 48 ≤ c.toNat ∧ c.toNat ≤ 57) → numOf l < 10 ^ l.length
  | [], _ => by simp [numOf]
  | c :: l, h => by
    have h1 := numOf_lt l (fun x hx => h x (List.mem_cons_of_mem _ hx))
    have h2 := h c List.mem_cons_self
    rw [numOf, List.length_cons, Nat.pow_succ]
    have h3 : (c.toNat - 48) * 10 ^ l.length ≤ 9 * 10 ^ l.length := Nat.mul_le_mul_right _ (by omega)
    omega

theorem sdig_add (N q : Nat) : ∀ n k, k ≤ n → sdig (N + q * 10 ^ n) k = sdig N k := by
  intro n k
  induction k with
  | zero => intro _; rfl
  | succ k ih =>
    intro hk
    rw [sdig, sdig, ih (by omega)]
    have : (N + q * 10 ^ n) / 10 ^ k % 10 = N / 10 ^ k % 10 := by
      obtain ⟨m, rfl⟩ : ∃ m, n = k + (m + 1) := ⟨n - k - 1, by omega⟩
      rw [Nat.pow_add, ← Nat.mul_assoc, Nat.mul_right_comm, Nat.add_mul_div_right _ _ (Nat.pow_pos (by omega)), Nat.pow_succ, ← Nat.mul_assoc]
      omega
    unfold dgt; rw [this]

theorem sdig_numOf : ∀ l : List UInt8, (∀ c ∈ l, 48 ≤ c.toNat ∧ c.toNat ≤ 57) → sdig (numOf l) l.length = l
  | [], _ => rfl
  | c :: l, h => by
    have h1 := numOf_lt l (fun x hx => h x (List.mem_cons_of_mem _ hx))
    have h2 := h c List.mem_cons_self
    rw [List.length_cons, sdig]
    have e1 : sdig (numOf (c :: l)) l.length = l := by
      rw [numOf, Nat.add_comm, sdig_add _ _ _ _ (Nat.le_refl _)]
      exact sdig_numOf l (fun x hx => h x (List.mem_cons_of_mem _ hx))
    have e2 : dgt (numOf (c :: l)) l.length = c := by
      rw [← UInt8.toNat_inj, dgt_toNat, numOf, Nat.add_comm ((c.toNat - 48) * _), Nat.add_mul_div_right _ _ (Nat.pow_pos (by omega)), Nat.div_eq_of_lt h1]
      omega
    rw [e1, e2]

/-- Strings. -/
def str (l : List UInt8) : ByteArray := ⟨l.toArray⟩
theorem str_toList (l : List UInt8) : (str l).data.toList = l := rfl
theorem str_size (l : List UInt8) : (str l).size = l.length := by simp [str, ByteArray.size]
theorem str_of {s : ByteArray} {l : List UInt8} (h : s.data.toList = l) : s = str l := by
  subst h; rfl

end Go.Proofs.Ytgpcfncolhmgfaa

namespace Go.Proofs.Ytgpcfncolhmgfaa
open Go.RowKit

/-- A slice cut to k, nil where nothing is left. -/
def trimV (a : Option Addr) (c k : Nat) : Value := .agg #[if k = 0 then .slice none 0 0 else .slice a k c]

theorem trimV_is {w : World} {a : Option Addr} {n c : Nat} {f : Nat → Nat} (h : SlAt w .u32 4294967296 a n c f) : NatIs w (trimV a c (tl f n)) (val f n) := by
  unfold trimV
  split
  · rename_i h0
    rw [← tl_val f n, h0]
    exact NatIs.zero w
  · rename_i h0
    exact ⟨a, tl f n, c, f, rfl, h.take (tl_le f n), tl_val f n, (tl_last f n)⟩

theorem heap_new (w : World) (o : Obj) : (w.alloc o).heap[w.heap.size]? = some o := by
  show (w.heap.push o)[w.heap.size]? = _
  simp

theorem infoU : (Try.prog.info? 53).map (fun i => (i.zero, i.size, i.bytes)) = some (some (.int .u32 0), 1, 4) := by kernel_rfl

theorem SlAt.limb {w : World} {a : Option Addr} {n c : Nat} {f : Nat → Nat} (h : SlAt w .u32 4294967296 a n c f) {k : Nat} (hk : k < n) : ∃ b off, a = some ⟨b, off, none⟩ ∧ b < w.heap.size ∧ w.cell? ⟨b, off + k, none⟩ = some (.int .u32 (f k)) ∧ f k < 4294967296 := by
  obtain ⟨b, off, h1, h2, h3⟩ := h.at (by omega)
  exact ⟨b, off, h1, h2, h3 k hk, h.2.2.1 k hk⟩

end Go.Proofs.Ytgpcfncolhmgfaa

namespace Go.Proofs.Ytgpcfncolhmgfaa
open Go.RowKit

/-- One step of an addition. -/
theorem add_step (s p d : Nat → Nat) (k c : Nat) (h : val d k + c * 4294967296 ^ k = val s k + val p k) (hd : d k = (s k + p k + c) % 4294967296) :
    val d (k + 1) + ((s k + p k + c) / 4294967296) * 4294967296 ^ (k + 1) = val s (k + 1) + val p (k + 1) := by
  rw [val, val, val, hd, pow_succ32]
  have e := Nat.div_add_mod (s k + p k + c) 4294967296
  generalize (s k + p k + c) / 4294967296 = q at e ⊢
  generalize (s k + p k + c) % 4294967296 = r at e ⊢
  generalize 4294967296 ^ k = P at h ⊢
  have e2 : (4294967296 * q + r) * P = (s k + p k + c) * P := by rw [e]
  have e3 : (4294967296 * q + r) * P = q * (4294967296 * P) + r * P := by rw [Nat.add_mul, Nat.mul_comm 4294967296 q, Nat.mul_assoc]
  have e4 : (s k + p k + c) * P = s k * P + p k * P + c * P := by rw [Nat.add_mul, Nat.add_mul]
  omega

/-- What holds at the head of round k of a loop that fills a row. -/
def RowRel (b off n : Nat) (s : Nat → Nat) (w wr : World) (k : Nat) (R : (Nat → Nat) → Prop) : Prop :=
  Wrote b off (off + n) w wr ∧ Free wr b ∧ ∃ d, Cells wr .u32 b off n d ∧ (∀ j, j < n → d j < 4294967296) ∧ (∀ j, k ≤ j → d j = s j) ∧ R d

theorem RowRel.start {b off n : Nat} {s : Nat → Nat} {w : World} {R : (Nat → Nat) → Prop} (hf : Free w b) (hc : Cells w .u32 b off n s) (hs : ∀ j, j < n → s j < 4294967296) (hr : R s) : RowRel b off n s w w 0 R :=
  ⟨Wrote.refl _ _ _ _, hf, s, hc, hs, fun _ _ => rfl, hr⟩

/-- The row with r at k: the next round's head. -/
theorem RowRel.step {b off n : Nat} {s : Nat → Nat} {w wr : World} {k r : Nat} {R R' : (Nat → Nat) → Prop} (h : RowRel b off n s w wr k R) (hk : k < n) (hr : r < 4294967296)
    (hR : ∀ d d', R d → (∀ j, k ≤ j → d j = s j) → (∀ j, j < k → d' j = d j) → d' k = r → R' d') : RowRel b off n s w (wr.setCell ⟨b, off + k, none⟩ (.int .u32 r)) (k + 1) R' := by
  obtain ⟨h1, h2, d, h3, h4, h5, h6⟩ := h
  refine ⟨h1.setCell (by omega) (by omega) _, h2.set _ _, _, h3.set hk, fun j hj => ?_, fun j hj => ?_, hR d _ h6 h5 (fun j hj => ?_) (by simp)⟩
  · split; · exact hr
    · exact h4 j hj
  · rw [if_neg (by omega)]; exact h5 j (by omega)
  · rw [if_neg (by omega)]

theorem RowRel.drew {b off n : Nat} {s : Nat → Nat} {w wr : World} {k : Nat} {R : (Nat → Nat) → Prop} (h : RowRel b off n s w wr k R) : RowRel b off n s w wr.drew k R :=
  ⟨h.1.drew, h.2.1, h.2.2⟩

/-- What round k reads. -/
theorem RowRel.read {b off n : Nat} {s : Nat → Nat} {w wr : World} {k : Nat} {R : (Nat → Nat) → Prop} (h : RowRel b off n s w wr k R) (hk : k < n) :
    wr.cell? ⟨b, off + k, none⟩ = some (.int .u32 (s k)) ∧ wr.frozen? ⟨b, off + k, none⟩ = false ∧ s k < 4294967296 := by
  obtain ⟨h1, h2, d, h3, h4, h5, h6⟩ := h
  have e := h5 k (Nat.le_refl _)
  exact ⟨by rw [← e]; exact h3 k hk, h2 _, by rw [← e]; exact h4 k hk⟩

def AddR (s p : Nat → Nat) (k c : Nat) (d : Nat → Nat) : Prop := c ≤ 1 ∧ val d k + c * 4294967296 ^ k = val s k + val p k
theorem addR_step {s p : Nat → Nat} {k c : Nat} (hs : s k < 4294967296) (hp : p k < 4294967296) : ∀ d d', AddR s p k c d → (∀ j, k ≤ j → d j = s j) → (∀ j, j < k → d' j = d j) → d' k = (s k + p k + c) % 4294967296 → AddR s p (k + 1) ((s k + p k + c) / 4294967296) d' := by
  intro d d' h _ h2 h3
  refine ⟨by have := h.1; omega, add_step s p d' k c ?_ h3⟩
  rw [val_congr k h2]; exact h.2

end Go.Proofs.Ytgpcfncolhmgfaa

namespace Go.Proofs.Ytgpcfncolhmgfaa
open Go.RowKit

theorem borrow_bit (x y c d : Nat) (hx : x < 4294967296) (hy : y < 4294967296) (hc : c ≤ 1) (hd : d = (x + 8589934592 - y - c) % 4294967296) :
    (((4294967295 ^^^ x) &&& y) ||| ((4294967295 ^^^ (x ^^^ y)) &&& d)) / 2147483648 = if x < y + c then 1 else 0 := by
  have h1 : ((4294967295 ^^^ x) &&& y) < 2 ^ 32 := Nat.and_lt_two_pow _ (by omega)
  have h2 : ((4294967295 ^^^ (x ^^^ y)) &&& d) < 2 ^ 32 := Nat.and_lt_two_pow _ (by omega)
  have h3 := Nat.or_lt_two_pow h1 h2
  have hb : (((4294967295 ^^^ x) &&& y) ||| ((4294967295 ^^^ (x ^^^ y)) &&& d)).testBit 31 = decide (x < y + c) := by
    have t0 : Nat.testBit 4294967295 31 = true := by decide
    simp only [Nat.testBit_or, Nat.testBit_and, Nat.testBit_xor, t0]
    have tx : x.testBit 31 = decide (2147483648 ≤ x) := by rw [Nat.testBit_eq_decide_div_mod_eq]; congr 1; simp; omega
    have ty : y.testBit 31 = decide (2147483648 ≤ y) := by rw [Nat.testBit_eq_decide_div_mod_eq]; congr 1; simp; omega
    have td : d.testBit 31 = decide (2147483648 ≤ d) := by rw [Nat.testBit_eq_decide_div_mod_eq]; congr 1; simp; omega
    rw [tx, ty, td]
    by_cases a : 2147483648 ≤ x <;> by_cases b : 2147483648 ≤ y <;> by_cases e : 2147483648 ≤ d <;> simp [a, b, e] <;> omega
  rw [Nat.testBit_eq_decide_div_mod_eq] at hb
  generalize (((4294967295 ^^^ x) &&& y) ||| ((4294967295 ^^^ (x ^^^ y)) &&& d)) = n at *
  have hb' : (n / 2 ^ 31 % 2 = 1) ↔ x < y + c := by simpa using hb
  split
  · have := hb'.2 (by assumption); omega
  · have : ¬ (n / 2 ^ 31 % 2 = 1) := fun h => by have := hb'.1 h; omega
    omega

def subB (x y c : Nat) : Nat := if x < y + c then 1 else 0
def subD (x y c : Nat) : Nat := (x + 8589934592 - y - c) % 4294967296
theorem sub_spec {x y c : Nat} (hx : x < 4294967296) (hy : y < 4294967296) (hc : c ≤ 1) : subD x y c < 4294967296 ∧ subB x y c ≤ 1 ∧ x + subB x y c * 4294967296 = subD x y c + y + c := by
  unfold subB subD; split <;> omega

theorem div_lt_32 {h l d : Nat} (hh : h < d) (hl : l < 4294967296) : (h * 4294967296 + l) / d < 4294967296 := by
  rw [Nat.div_lt_iff_lt_mul (by omega)]
  have : (h + 1) * 4294967296 ≤ d * 4294967296 := Nat.mul_le_mul_right _ hh
  rw [Nat.mul_comm 4294967296 d]; omega

end Go.Proofs.Ytgpcfncolhmgfaa

namespace Go.Proofs.Ytgpcfncolhmgfaa
open Go.RowKit

/-- The row so far, what is borrowed and what is carried. -/
def TakeR (s p : Nat → Nat) (m : Nat) (k hi c : Nat) (d : Nat → Nat) : Prop := c ≤ 1 ∧ hi * 4294967296 ^ k ≤ m * val p k ∧ val d k + m * val p k = val s k + (hi + c) * 4294967296 ^ k

theorem takeR_step {s p : Nat → Nat} {m k hi c lo hi' : Nat} (hs : s k < 4294967296) (hlo : lo < 4294967296) (hp : hi + p k * m = hi' * 4294967296 + lo) :
    ∀ d d', TakeR s p m k hi c d → (∀ j, k ≤ j → d j = s j) → (∀ j, j < k → d' j = d j) → d' k = subD (s k) lo c → TakeR s p m (k + 1) hi' (subB (s k) lo c) d' := by
  intro d d' h _ h2 h3
  obtain ⟨h0, hle, h1⟩ := h
  obtain ⟨e1, e2, e3⟩ := sub_spec hs hlo h0
  refine ⟨e2, ?_⟩
  rw [val, val, val, pow_succ32, val_congr k h2, h3]
  generalize subD (s k) lo c = D at *
  generalize subB (s k) lo c = B at *
  generalize 4294967296 ^ k = P at *
  generalize val d k = vd at *
  generalize val p k = vp at *
  generalize val s k = vs at *
  generalize s k = x at *
  generalize p k = y at *
  -- m * (vp + y*P) + vd + D*P = vs + x*P + (hi' + B) * (2^32 * P)
  have a1 : (x + B * 4294967296) * P = (D + lo + c) * P := by rw [e3]
  have a2 : (hi + y * m) * P = (hi' * 4294967296 + lo) * P := by rw [hp]
  have b1 : m * (vp + y * P) = m * vp + y * m * P := by rw [Nat.mul_add, ← Nat.mul_assoc, Nat.mul_comm m y]
  have b2 : (hi' + B) * (4294967296 * P) = hi' * 4294967296 * P + B * 4294967296 * P := by rw [Nat.add_mul, ← Nat.mul_assoc, ← Nat.mul_assoc]
  rw [Nat.add_mul] at a1 a2
  rw [Nat.add_mul, Nat.add_mul] at a1
  rw [Nat.add_mul (hi' * 4294967296)] at a2
  rw [Nat.add_mul] at h1
  rw [b1, b2]
  have b3 : hi' * (4294967296 * P) = hi' * 4294967296 * P := by rw [Nat.mul_assoc]
  rw [b3]
  constructor <;> omega

theorem mul_bound {y m : Nat} (hy : y < 4294967296) (hm : m < 4294967296) : y * m ≤ 18446744065119617025 := Nat.mul_le_mul (show y ≤ 4294967295 by omega) (show m ≤ 4294967295 by omega)

end Go.Proofs.Ytgpcfncolhmgfaa

namespace Go.Proofs.Ytgpcfncolhmgfaa
open Go.RowKit

/-- The part of the number that the limbs from m on are. -/
def seg (f : Nat → Nat) (m : Nat) : Nat → Nat
  | 0 => 0
  | n + 1 => if m ≤ n then seg f m n + f n * 4294967296 ^ n else 0

theorem seg_self (f : Nat → Nat) (m : Nat) : ∀ n, n ≤ m → seg f m n = 0
  | 0, _ => rfl
  | n + 1, h => by rw [seg, if_neg (by omega)]

theorem seg_zero (f : Nat → Nat) : ∀ n, seg f 0 n = val f n
  | 0 => rfl
  | n + 1 => by rw [seg, if_pos (by omega), seg_zero f n, val]

theorem seg_head (f : Nat → Nat) (m : Nat) : ∀ n, m < n → seg f m n = f m * 4294967296 ^ m + seg f (m + 1) n
  | 0, h => by omega
  | n + 1, h => by
    by_cases e : m = n
    · subst e; rw [seg, if_pos (by omega), seg_self f m m (by omega), seg_self f (m + 1) (m + 1) (by omega)]; omega
    · rw [seg, if_pos (by omega), seg_head f m n (by omega), seg, if_pos (by omega)]; omega

theorem seg_congr {f g : Nat → Nat} (m : Nat) : ∀ n, (∀ j, m ≤ j → j < n → f j = g j) → seg f m n = seg g m n
  | 0, _ => rfl
  | n + 1, h => by
    rw [seg, seg]
    split
    · rw [seg_congr m n (fun j h1 h2 => h j h1 (by omega)), h n (by assumption) (by omega)]
    · rfl

theorem val_seg (f : Nat → Nat) (m : Nat) : ∀ n, m ≤ n → val f n = val f m + seg f m n
  | 0, h => by obtain rfl : m = 0 := by omega
               rfl
  | n + 1, h => by
    by_cases e : m = n + 1
    · subst e; rw [seg_self f _ _ (Nat.le_refl _)]; rfl
    · rw [val, val_seg f m n (by omega), seg, if_pos (by omega)]; omega

/-- A row in the making: where U holds it is still as it was. -/
def RowU (b off n : Nat) (s : Nat → Nat) (w wr : World) (U : Nat → Prop) (R : (Nat → Nat) → Prop) : Prop :=
  Wrote b off (off + n) w wr ∧ Free wr b ∧ ∃ d, Cells wr .u32 b off n d ∧ (∀ j, j < n → d j < 4294967296) ∧ (∀ j, U j → d j = s j) ∧ R d

theorem RowU.start {b off n : Nat} {s : Nat → Nat} {w : World} {U : Nat → Prop} {R : (Nat → Nat) → Prop} (hf : Free w b) (hc : Cells w .u32 b off n s) (hs : ∀ j, j < n → s j < 4294967296) (hr : R s) : RowU b off n s w w U R :=
  ⟨Wrote.refl _ _ _ _, hf, s, hc, hs, fun _ _ => rfl, hr⟩

theorem RowU.step {b off n : Nat} {s : Nat → Nat} {w wr : World} {t r : Nat} {U U' : Nat → Prop} {R R' : (Nat → Nat) → Prop} (h : RowU b off n s w wr U R) (ht : t < n) (hr : r < 4294967296) (hU : ∀ j, U' j → U j ∧ j ≠ t)
    (hR : ∀ d d', R d → (∀ j, j ≠ t → d' j = d j) → d' t = r → R' d') : RowU b off n s w (wr.setCell ⟨b, off + t, none⟩ (.int .u32 r)) U' R' := by
  obtain ⟨h1, h2, d, h3, h4, h5, h6⟩ := h
  refine ⟨h1.setCell (by omega) (by omega) _, h2.set _ _, _, h3.set ht, fun j hj => ?_, fun j hj => ?_, hR d _ h6 (fun j hj => ?_) (by simp)⟩
  · split; · exact hr
    · exact h4 j hj
  · rw [if_neg (hU j hj).2]; exact h5 j (hU j hj).1
  · rw [if_neg hj]

theorem RowU.drew {b off n : Nat} {s : Nat → Nat} {w wr : World} {U : Nat → Prop} {R : (Nat → Nat) → Prop} (h : RowU b off n s w wr U R) : RowU b off n s w wr.drew U R :=
  ⟨h.1.drew, h.2.1, h.2.2⟩
theorem RowU.drewN {b off n : Nat} {s : Nat → Nat} {w wr : World} {U : Nat → Prop} {R : (Nat → Nat) → Prop} (h : RowU b off n s w wr U R) (q : Nat) : RowU b off n s w (wr.drewN q) U R :=
  ⟨h.1.drewN q, h.2.1, h.2.2⟩

theorem RowU.read {b off n : Nat} {s : Nat → Nat} {w wr : World} {t : Nat} {U : Nat → Prop} {R : (Nat → Nat) → Prop} (h : RowU b off n s w wr U R) (ht : t < n) (hU : U t) :
    wr.cell? ⟨b, off + t, none⟩ = some (.int .u32 (s t)) ∧ wr.frozen? ⟨b, off + t, none⟩ = false ∧ s t < 4294967296 := by
  obtain ⟨h1, h2, d, h3, h4, h5, h6⟩ := h
  have e := h5 t hU
  exact ⟨by rw [← e]; exact h3 t ht, h2 _, by rw [← e]; exact h4 t ht⟩

def DivR (s : Nat → Nat) (n m k rest : Nat) (d : Nat → Nat) : Prop := m * seg d (n - k) n + rest * 4294967296 ^ (n - k) = seg s (n - k) n

theorem divR_step {s : Nat → Nat} {n m k rest : Nat} (hk : k < n) : ∀ d d', DivR s n m k rest d → (∀ j, j ≠ n - 1 - k → d' j = d j) → d' (n - 1 - k) = (rest * 4294967296 + s (n - 1 - k)) / m →
    DivR s n m (k + 1) ((rest * 4294967296 + s (n - 1 - k)) % m) d' := by
  intro d d' h h1 h2
  unfold DivR at *
  obtain ⟨t, rfl⟩ : ∃ t, n = t + 1 + k := ⟨n - 1 - k, by omega⟩
  have e1 : t + 1 + k - k = t + 1 := by omega
  have e2 : t + 1 + k - (k + 1) = t := by omega
  have e3 : t + 1 + k - 1 - k = t := by omega
  rw [e3] at h1 h2 ⊢
  rw [e1] at h
  rw [e2, seg_head s t _ (by omega), seg_head d' t _ (by omega), h2, seg_congr (t + 1) (t + 1 + k) (f := d') (g := d) (fun j hj _ => h1 j (by omega)), ← h, pow_succ32]
  have e := Nat.div_add_mod (rest * 4294967296 + s t) m
  generalize (rest * 4294967296 + s t) / m = q at *
  generalize (rest * 4294967296 + s t) % m = r at *
  generalize 4294967296 ^ t = P at *
  generalize seg d (t + 1) (t + 1 + k) = S at *
  have a1 : (m * q + r) * P = (rest * 4294967296 + s t) * P := by rw [e]
  have a2 : m * (q * P + S) = m * q * P + m * S := by rw [Nat.mul_add, Nat.mul_assoc]
  have a3 : rest * (4294967296 * P) = rest * 4294967296 * P := by rw [Nat.mul_assoc]
  rw [Nat.add_mul, Nat.add_mul] at a1
  rw [a2, a3]; omega

def DivEnd (s : Nat → Nat) (n m r : Nat) (d : Nat → Nat) : Prop := m * val d n + r = val s n

end Go.Proofs.Ytgpcfncolhmgfaa

namespace Go.Proofs.Ytgpcfncolhmgfaa
open Go.RowKit

def MulR (s p : Nat → Nat) (m k c : Nat) (d : Nat → Nat) : Prop := val d k + c * 4294967296 ^ k = val s k + m * val p k

theorem mulR_step {s p : Nat → Nat} {m k c c' lo : Nat} (hp : c + (p k * m + s k) = c' * 4294967296 + lo) :
    ∀ d d', MulR s p m k c d → (∀ j, j ≠ k → d' j = d j) → d' k = lo → MulR s p m (k + 1) c' d' := by
  intro d d' h h2 h3
  unfold MulR at *
  rw [val, val, val, pow_succ32, val_congr k (f := d') (g := d) (fun j hj => h2 j (by omega)), h3]
  generalize 4294967296 ^ k = P at *
  generalize val d k = vd at *
  generalize val p k = vp at *
  generalize val s k = vs at *
  generalize s k = x at *
  generalize p k = y at *
  have a2 : (c + (y * m + x)) * P = (c' * 4294967296 + lo) * P := by rw [hp]
  have b1 : m * (vp + y * P) = m * vp + y * m * P := by rw [Nat.mul_add, ← Nat.mul_assoc, Nat.mul_comm m y]
  rw [Nat.add_mul, Nat.add_mul, Nat.add_mul, Nat.mul_assoc c'] at a2
  rw [b1]
  omega

def MulEnd (s p : Nat → Nat) (m k : Nat) (d : Nat → Nat) : Prop := val d (k + 1) = val s k + m * val p k

theorem mul_bound' {y m : Nat} (hy : y < 4294967296) (hm : m < 4294967296) : y * m ≤ 18446744065119617025 := Nat.mul_le_mul (show y ≤ 4294967295 by omega) (show m ≤ 4294967295 by omega)

end Go.Proofs.Ytgpcfncolhmgfaa

namespace Go.Proofs.Ytgpcfncolhmgfaa
open Go.RowKit

def UpR (s : Nat → Nat) (by_ k c : Nat) (d : Nat → Nat) : Prop := val d k + c * 4294967296 ^ k = val s k * 2 ^ by_

theorem two32 {u : Nat} (hu : u < 32) : 2 ^ (32 - u) * 2 ^ u = 4294967296 := by
  rw [← Nat.pow_add, show 32 - u + u = 32 by omega]

theorem up_limb {x c u : Nat} (hx : x < 4294967296) (hu : u < 32) (hc : c < 2 ^ u) :
    ((x : Int) / 2 ^ (32 - u) = ((x / 2 ^ (32 - u) : Nat) : Int)) ∧ x / 2 ^ (32 - u) < 2 ^ u ∧ bits .or .u32 ((x : Int) * 2 ^ u % 4294967296) c = ((x * 2 ^ u % 4294967296 + c : Nat) : Int) ∧
      x * 2 ^ u % 4294967296 + c < 4294967296 ∧ x * 2 ^ u + c = x / 2 ^ (32 - u) * 4294967296 + (x * 2 ^ u % 4294967296 + c) := by
  have h2 := two32 hu
  have hp : 0 < 2 ^ u := Nat.two_pow_pos u
  have hd : x * 2 ^ u / 4294967296 = x / 2 ^ (32 - u) := by
    rw [← h2]; exact Nat.mul_div_mul_right _ _ hp
  have hm : x * 2 ^ u % 4294967296 % 2 ^ u = 0 := by
    rw [Nat.mod_mod_of_dvd _ ⟨2 ^ (32 - u), by rw [Nat.mul_comm]; exact h2.symm⟩]; exact Nat.mul_mod_left _ _
  have hl : x * 2 ^ u % 4294967296 < 4294967296 := Nat.mod_lt _ (by omega)
  have hcl : c < 4294967296 := Nat.lt_of_lt_of_le hc (by rw [← h2]; exact Nat.le_mul_of_pos_left _ (Nat.two_pow_pos _))
  have hs : x * 2 ^ u % 4294967296 + c < 4294967296 := by
    obtain ⟨q, hq⟩ : ∃ q, x * 2 ^ u % 4294967296 = q * 2 ^ u := ⟨_, (Nat.div_mul_cancel (Nat.dvd_of_mod_eq_zero hm)).symm⟩
    rw [hq] at hl ⊢
    rw [← h2] at hl ⊢
    have : q < 2 ^ (32 - u) := Nat.lt_of_mul_lt_mul_right hl
    have : (q + 1) * 2 ^ u ≤ 2 ^ (32 - u) * 2 ^ u := Nat.mul_le_mul_right _ this
    rw [Nat.add_mul] at this
    omega
  refine ⟨?_, ?_, ?_, hs, ?_⟩
  · simp
  · rw [Nat.div_lt_iff_lt_mul (Nat.two_pow_pos _), Nat.mul_comm, h2]; exact hx
  · have e : (x : Int) * 2 ^ u % 4294967296 = ((x * 2 ^ u % 4294967296 : Nat) : Int) := by simp
    rw [e, u32_or_nat _ _ hl hcl, nat_join u _ _ hm hc]
  · rw [← hd]; omega

theorem upR_step {s : Nat → Nat} {u k c c' lo : Nat} (hp : s k * 2 ^ u + c = c' * 4294967296 + lo) :
    ∀ d d', UpR s u k c d → (∀ j, j ≠ k → d' j = d j) → d' k = lo → UpR s u (k + 1) c' d' := by
  intro d d' h h2 h3
  unfold UpR at *
  rw [val, val, pow_succ32, val_congr k (f := d') (g := d) (fun j hj => h2 j (by omega)), h3]
  generalize 4294967296 ^ k = P at *
  generalize 2 ^ u = U at *
  generalize s k = x at *
  have a : (x * U + c) * P = (c' * 4294967296 + lo) * P := by rw [hp]
  rw [Nat.add_mul, Nat.add_mul, Nat.mul_assoc c'] at a
  have b : (val s k + x * P) * U = val s k * U + x * U * P := by rw [Nat.add_mul, Nat.mul_assoc, Nat.mul_comm P U, ← Nat.mul_assoc]
  rw [b]; omega

/-- The limb that is shifted down into from the next one. -/
def nxt (s : Nat → Nat) (n k : Nat) : Nat := if k + 1 < n then s (k + 1) else 0

def DownR (s : Nat → Nat) (n u k : Nat) (d : Nat → Nat) : Prop := ∀ j, j < k → d j = s j / 2 ^ u + nxt s n j * 2 ^ (32 - u) % 4294967296

theorem down_limb {x y u : Nat} (hx : x < 4294967296) (hu : u < 32) :
    ((x : Int) / 2 ^ u = ((x / 2 ^ u : Nat) : Int)) ∧ bits .or .u32 ((x : Int) / 2 ^ u) ((y : Int) * 2 ^ (32 - u) % 4294967296) = ((x / 2 ^ u + y * 2 ^ (32 - u) % 4294967296 : Nat) : Int) ∧
      x / 2 ^ u + y * 2 ^ (32 - u) % 4294967296 < 4294967296 := by
  have h2 := two32 hu
  have hp : 0 < 2 ^ (32 - u) := Nat.two_pow_pos _
  have hm : y * 2 ^ (32 - u) % 4294967296 % 2 ^ (32 - u) = 0 := by
    rw [Nat.mod_mod_of_dvd _ ⟨2 ^ u, h2.symm⟩]; exact Nat.mul_mod_left _ _
  have hl : y * 2 ^ (32 - u) % 4294967296 < 4294967296 := Nat.mod_lt _ (by omega)
  have hx2 : x / 2 ^ u < 2 ^ (32 - u) := by rw [Nat.div_lt_iff_lt_mul (Nat.two_pow_pos _), h2]; exact hx
  have hxl : x / 2 ^ u < 4294967296 := Nat.lt_of_le_of_lt (Nat.div_le_self _ _) hx
  have hs : y * 2 ^ (32 - u) % 4294967296 + x / 2 ^ u < 4294967296 := by
    obtain ⟨q, hq⟩ : ∃ q, y * 2 ^ (32 - u) % 4294967296 = q * 2 ^ (32 - u) := ⟨_, (Nat.div_mul_cancel (Nat.dvd_of_mod_eq_zero hm)).symm⟩
    rw [hq] at hl ⊢
    rw [← h2, Nat.mul_comm (2 ^ (32 - u))] at hl ⊢
    have : q < 2 ^ u := Nat.lt_of_mul_lt_mul_right hl
    have : (q + 1) * 2 ^ (32 - u) ≤ 2 ^ u * 2 ^ (32 - u) := Nat.mul_le_mul_right _ this
    rw [Nat.add_mul] at this
    omega
  have e1 : (x : Int) / 2 ^ u = ((x / 2 ^ u : Nat) : Int) := by simp
  refine ⟨e1, ?_, by omega⟩
  have e : (y : Int) * 2 ^ (32 - u) % 4294967296 = ((y * 2 ^ (32 - u) % 4294967296 : Nat) : Int) := by simp
  rw [e1, e, u32_or_nat _ _ hxl hl, Nat.or_comm, nat_join (32 - u) _ _ hm hx2, Nat.add_comm]

end Go.Proofs.Ytgpcfncolhmgfaa

namespace Go.Proofs.Ytgpcfncolhmgfaa
open Go.RowKit

theorem guess_start {P rl dl A r2 b1 b2 q R D : Nat} (hrl : rl < P) (hr2 : r2 < 4294967296) (hR : R = rl + (A * 4294967296 + r2) * P) (hD : D = dl + (b1 * 4294967296 + b2) * P)
    (hq : q * D ≤ R) : q * b1 ≤ A := by
  have h0 : b1 * (4294967296 * P) ≤ D := by
    rw [hD, Nat.add_mul, Nat.mul_assoc]; omega
  have h1 : (q * b1) * (4294967296 * P) ≤ q * D := by
    rw [Nat.mul_assoc]; exact Nat.mul_le_mul_left _ h0
  have h2 : R < (A + 1) * (4294967296 * P) := by
    have : (A * 4294967296 + r2 + 1) * P ≤ ((A + 1) * 4294967296) * P := Nat.mul_le_mul_right _ (by omega)
    rw [Nat.add_mul _ 1 P, Nat.mul_assoc (A + 1)] at this
    omega
  have h3 : (q * b1) * (4294967296 * P) < (A + 1) * (4294967296 * P) := by omega
  have := Nat.lt_of_mul_lt_mul_right h3
  omega

theorem guess_step {P rl dl A r2 b1 b2 q R D g left : Nat} (hrl : rl < P) (hR : R = rl + (A * 4294967296 + r2) * P) (hD : D = dl + (b1 * 4294967296 + b2) * P)
    (hq : q * D ≤ R) (hg : g * b1 + left = A) (hc : left * 4294967296 + r2 < g * b2) : q + 1 ≤ g := by
  rcases Nat.lt_or_ge q g with h | h
  · exact h
  · exfalso
    have h0 : g * D ≤ R := Nat.le_trans (Nat.mul_le_mul_right _ h) hq
    have h1 : (g * (b1 * 4294967296 + b2)) * P ≤ g * D := by
      rw [Nat.mul_assoc]; exact Nat.mul_le_mul_left _ (by omega)
    have h2 : R < (A * 4294967296 + r2 + 1) * P := by rw [Nat.add_mul _ 1 P]; omega
    have h3 := Nat.lt_of_mul_lt_mul_right (Nat.lt_of_le_of_lt (Nat.le_trans h1 h0) h2)
    rw [Nat.mul_add, ← Nat.mul_assoc] at h3
    generalize g * b1 = u at *
    generalize g * b2 = v at *
    omega

theorem guess_end {P rl dl A r2 b1 b2 R D g left : Nat} (hdl : dl < P) (hR : R = rl + (A * 4294967296 + r2) * P) (hD : D = dl + (b1 * 4294967296 + b2) * P) (hb : 0 < b1) (hgB : g < 4294967296)
    (hg : g * b1 + left = A) (hc : g * b2 ≤ left * 4294967296 + r2) : (g - 1) * D ≤ R := by
  cases g with
  | zero => simp
  | succ h =>
    have e : h + 1 - 1 = h := rfl
    rw [e]
    have h1 : (h + 1) * D ≤ ((h + 1) * (b1 * 4294967296 + b2) + (h + 1)) * P := by
      rw [hD, Nat.add_mul ((h + 1) * _), Nat.mul_add (h + 1) dl, Nat.mul_assoc (h + 1) _ P]
      have : (h + 1) * dl ≤ (h + 1) * P := Nat.mul_le_mul_left _ (by omega)
      omega
    have h2 : (h + 1) * (b1 * 4294967296 + b2) ≤ A * 4294967296 + r2 := by
      rw [Nat.mul_add, ← Nat.mul_assoc]
      generalize (h + 1) * b1 = u at *
      generalize (h + 1) * b2 = v at *
      omega
    have h3 : (h + 1) * D = h * D + D := by rw [Nat.add_mul]; omega
    have h4 : ((h + 1) * (b1 * 4294967296 + b2) + (h + 1)) * P ≤ (A * 4294967296 + r2 + b1 * 4294967296) * P := Nat.mul_le_mul_right _ (by omega)
    have h5 : (A * 4294967296 + r2 + b1 * 4294967296) * P = (A * 4294967296 + r2) * P + b1 * 4294967296 * P := by rw [Nat.add_mul _ (b1 * _)]
    have h6 : b1 * 4294967296 * P ≤ D := by rw [hD, Nat.add_mul _ b2]; omega
    omega

theorem top_le {P rl dl rn r1 r2 b1 b2 R D : Nat} (hdl : dl < P) (hb2 : b2 < 4294967296) (hR : R = rl + ((rn * 4294967296 + r1) * 4294967296 + r2) * P) (hD : D = dl + (b1 * 4294967296 + b2) * P)
    (h : R < D * 4294967296) : rn ≤ b1 := by
  have h1 : (rn * 4294967296 * 4294967296) * P ≤ R := by
    rw [hR, Nat.add_mul (rn * _), Nat.add_mul _ r2, Nat.add_mul (rn * _ * _)]; omega
  have h2 : D < (b1 + 1) * 4294967296 * P := by
    have : (b1 * 4294967296 + b2 + 1) * P ≤ (b1 + 1) * 4294967296 * P := Nat.mul_le_mul_right _ (by omega)
    rw [Nat.add_mul _ 1 P] at this; omega
  have h3 : (rn * 4294967296 * 4294967296) * P < ((b1 + 1) * 4294967296 * 4294967296) * P := by
    rw [Nat.mul_assoc ((b1 + 1) * 4294967296), Nat.mul_comm 4294967296 P, ← Nat.mul_assoc]; omega
  have := Nat.lt_of_mul_lt_mul_right h3
  omega

theorem val_top3 (f : Nat → Nat) (m : Nat) : val f (m + 3) = val f m + ((f (m + 2) * 4294967296 + f (m + 1)) * 4294967296 + f m) * 4294967296 ^ m := by
  rw [val, val, val, pow_succ32 (m + 1), pow_succ32 m, Nat.add_mul _ (f m), Nat.add_mul (f (m + 2) * 4294967296), Nat.add_mul (f (m + 2) * 4294967296 * 4294967296)]
  rw [Nat.mul_assoc (f (m + 2) * 4294967296), Nat.mul_assoc (f (m + 2)), Nat.mul_assoc (f (m + 1))]
  omega
theorem val_top2 (f : Nat → Nat) (m : Nat) : val f (m + 2) = val f m + (f (m + 1) * 4294967296 + f m) * 4294967296 ^ m := by
  rw [val, val, pow_succ32, Nat.add_mul _ (f m), Nat.mul_assoc (f (m + 1))]
  omega

theorem vint {k : IntKind} {a b : Int} (h : a = b) : Value.int k a = Value.int k b := by rw [h]

/-- What a guess is good for. -/
def GuessOk (R D g : Nat) : Prop := g < 4294967296 ∧ R / D ≤ g ∧ (g - 1) * D ≤ R

def GInv (R D A b1 g left : Nat) : Prop := g * b1 + left = A ∧ R / D ≤ g ∧ left < 8589934592

theorem gEnd {R D P rl dl A r2 b1 b2 g left : Nat} (hdl : dl < P) (hR : R = rl + (A * 4294967296 + r2) * P) (hD : D = dl + (b1 * 4294967296 + b2) * P) (hb : 0 < b1) (hb2 : b2 < 4294967296) (hA : A < (b1 + 1) * 4294967296)
    (h : GInv R D A b1 g left) (hc : 4294967296 ≤ left ∨ (g < 4294967296 ∧ g * b2 ≤ left * 4294967296 + r2)) : GuessOk R D g := by
  obtain ⟨h1, h2, h3⟩ := h
  have hg : g < 4294967296 := by
    rcases hc with hc | hc
    · have : g * b1 < 4294967296 * b1 := by rw [Nat.add_mul] at hA; omega
      exact Nat.lt_of_mul_lt_mul_right this
    · exact hc.1
  refine ⟨hg, h2, guess_end hdl hR hD hb hg h1 ?_⟩
  rcases hc with hc | hc
  · have : g * b2 ≤ 4294967296 * 4294967296 := Nat.mul_le_mul (by omega) (by omega)
    omega
  · exact hc.2

theorem SlAt.cell {w : World} {b off n c : Nat} {f : Nat → Nat} (h : SlAt w .u32 4294967296 (some ⟨b, off, none⟩) n c f) {k : Nat} (hk : k < n) : w.cell? ⟨b, off + k, none⟩ = some (.int .u32 (f k)) ∧ f k < 4294967296 := by
  obtain ⟨b', off', e, _, h3, h4⟩ := h.limb hk
  simp only [Option.some.injEq, Addr.mk.injEq, and_true] at e
  obtain ⟨rfl, rfl⟩ := e
  exact ⟨h3, h4⟩

/-- The world as it was but for draws. -/
def Drawn (w w' : World) : Prop := ∃ q, w' = w.drewN q
theorem Drawn.refl (w : World) : Drawn w w := ⟨0, rfl⟩
theorem Drawn.more {w w' : World} (h : Drawn w w') (q : Nat) : Drawn w (w'.drewN q) := by
  obtain ⟨a, rfl⟩ := h
  exact ⟨a + q, by rw [World.drewN_drewN]⟩
theorem Drawn.cell {w w' : World} (h : Drawn w w') (a : Addr) : w'.cell? a = w.cell? a := by
  obtain ⟨q, rfl⟩ := h; rfl

end Go.Proofs.Ytgpcfncolhmgfaa

namespace Go.Proofs.Ytgpcfncolhmgfaa
open Go.RowKit

theorem val_pad (p : Nat → Nat) (n : Nat) : ∀ k, val (fun j => if j < n then p j else 0) k = val p (min k n)
  | 0 => by simp [val]
  | k + 1 => by
    rw [val, val_pad p n k]
    by_cases h : k < n
    · rw [if_pos h, Nat.min_eq_left (by omega), Nat.min_eq_left (by omega), val]
    · rw [if_neg h, Nat.min_eq_right (by omega), Nat.min_eq_right (by omega)]; omega

/-- What is left in the row once it is done: the number N. -/
def RowIs (b off n : Nat) (w w' : World) (N : Nat) : Prop := Wrote b off (off + n) w w' ∧ Free w' b ∧ ∃ d, Cells w' .u32 b off n d ∧ (∀ j, j < n → d j < 4294967296) ∧ val d n = N

theorem take_fits {R D g d hi c M : Nat} (h : d + g * D = R + (hi + c) * M) (hd : d < M) (hg : g * D ≤ R) : c = 0 ∧ d = R - g * D := by
  have : (hi + c) * M < 1 * M := by omega
  have := Nat.lt_of_mul_lt_mul_right this
  obtain ⟨rfl, rfl⟩ : hi = 0 ∧ c = 0 := by omega
  omega

theorem take_over {R D g d hi c M : Nat} (h : d + g * D = R + (hi + c) * M) (hc : c ≤ 1) (hh : hi * M ≤ g * D) (hM : g * D < M) (hg : ¬ g * D ≤ R) : c = 1 ∧ d = R + M - g * D := by
  have : hi * M < 1 * M := by omega
  have := Nat.lt_of_mul_lt_mul_right this
  obtain rfl : hi = 0 := by omega
  rcases Nat.eq_zero_or_pos c with h0 | h0
  · subst h0; omega
  · obtain rfl : c = 1 := by omega
    omega

theorem digit_is {R D g : Nat} (hD : 0 < D) (h : GuessOk R D g) : (g * D ≤ R → g = R / D ∧ R - g * D = R % D) ∧ (¬ g * D ≤ R → 1 ≤ g ∧ g - 1 = R / D ∧ R - (g - 1) * D = R % D) := by
  obtain ⟨h1, h2, h3⟩ := h
  have e := Nat.div_add_mod R D
  have hm := Nat.mod_lt R hD
  constructor
  · intro h
    have : g = R / D := Nat.le_antisymm ((Nat.le_div_iff_mul_le hD).2 h) h2
    subst this
    rw [Nat.mul_comm] at e
    exact ⟨rfl, by omega⟩
  · intro h
    have hlt : R / D < g := by
      rcases Nat.lt_or_ge (R / D) g with h' | h'
      · exact h'
      · exact absurd (Nat.le_trans (Nat.mul_le_mul_right D h') (Nat.div_mul_le_self R D)) h
    have : g - 1 = R / D := Nat.le_antisymm ((Nat.le_div_iff_mul_le hD).2 h3) (by omega)
    rw [this]
    rw [Nat.mul_comm] at e
    exact ⟨by omega, rfl, by omega⟩

theorem RowRel.toIs {b off n : Nat} {s : Nat → Nat} {w wr : World} {k : Nat} {R : (Nat → Nat) → Prop} {N : Nat} (h : RowRel b off n s w wr k R) (hN : ∀ d, (∀ j, j < n → d j < 4294967296) → R d → val d n = N) : RowIs b off n w wr N := by
  obtain ⟨h1, h2, d, h3, h4, _, h6⟩ := h
  exact ⟨h1, h2, d, h3, h4, hN d h4 h6⟩

theorem SlAt.drawn {w w' : World} {ki : IntKind} {m : Nat} {a : Option Addr} {n c : Nat} {f : Nat → Nat} (h : SlAt w ki m a n c f) (hd : Drawn w w') : SlAt w' ki m a n c f := by
  obtain ⟨q, rfl⟩ := hd; exact h
theorem Wrote.of_drawn {k lo hi : Nat} {a b : World} (hd : Drawn a b) : Wrote k lo hi a b := by
  obtain ⟨q, rfl⟩ := hd; exact (Wrote.refl _ _ _ _).drewN q

end Go.Proofs.Ytgpcfncolhmgfaa

