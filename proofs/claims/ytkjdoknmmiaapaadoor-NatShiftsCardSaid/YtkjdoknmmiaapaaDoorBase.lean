/-
  Plain words for rows of limbs and of bytes in memory: a slice that reads as a function on places, what a call that writes into one block leaves alone, and the number that limbs are.
-/
import Derived.WalkKit
import Derived.WalkSpells
import Derived.Deep.Draws
import Derived.Lib.Hide
namespace Go.Proofs.YtkjdoknmmiaapaaDoor
open Go.RowKit

/-- The number that the first n limbs of f are. -/
def val (f : Nat → Nat) : Nat → Nat
  | 0 => 0
  | n + 1 => val f n + f n * 4294967296 ^ n

/-- How many limbs are left when noughts at the end are struck. -/
def tl (f : Nat → Nat) : Nat → Nat
  | 0 => 0
  | n + 1 => if f n = 0 then tl f n else n + 1

theorem tl_le (f : Nat → Nat) : ∀ n, tl f n ≤ n
  | 0 => Nat.le_refl _
  | n + 1 => by unfold tl; split; · exact Nat.le_succ_of_le (tl_le f n)
                · exact Nat.le_refl _

theorem tl_last (f : Nat → Nat) : ∀ n, tl f n = 0 ∨ f (tl f n - 1) ≠ 0
  | 0 => .inl rfl
  | n + 1 => by
    unfold tl; split
    · exact tl_last f n
    · exact .inr (by simpa)

theorem tl_val (f : Nat → Nat) : ∀ n, val f (tl f n) = val f n
  | 0 => rfl
  | n + 1 => by
    unfold tl; split
    · rename_i h; rw [tl_val f n, val, h]; simp
    · rfl

theorem val_lt (f : Nat → Nat) : ∀ n, (∀ j, j < n → f j < 4294967296) → val f n < 4294967296 ^ n
  | 0, _ => by simp [val]
  | n + 1, h => by
    have h1 := val_lt f n (fun j hj => h j (by omega))
    have h2 := h n (by omega)
    rw [val, Nat.pow_succ]
    have h3 : f n * 4294967296 ^ n ≤ 4294967295 * 4294967296 ^ n := Nat.mul_le_mul_right _ (by omega)
    omega

theorem val_congr {f g : Nat → Nat} : ∀ n, (∀ j, j < n → f j = g j) → val f n = val g n
  | 0, _ => rfl
  | n + 1, h => by rw [val, val, val_congr n (fun j hj => h j (by omega)), h n (by omega)]

/-- Cells off .. off+n of block b hold the numbers of f, of one kind. -/
def Cells (w : World) (ki : IntKind) (b off n : Nat) (f : Nat → Nat) : Prop := ∀ j, j < n → w.cell? ⟨b, off + j, none⟩ = some (.int ki (f j))

/-- The slice (a, n, c) reads as the first n numbers of f, each below m. -/
def SlAt (w : World) (ki : IntKind) (m : Nat) (a : Option Addr) (n c : Nat) (f : Nat → Nat) : Prop :=
  n ≤ c ∧ n ≤ 1000000 ∧ (∀ j, j < n → f j < m) ∧ ((a = none ∧ c = 0) ∨ ∃ b off, a = some ⟨b, off, none⟩ ∧ b < w.heap.size ∧ Cells w ki b off n f)

theorem SlAt.nil (w : World) (ki : IntKind) (m : Nat) (f : Nat → Nat) : SlAt w ki m none 0 0 f := ⟨Nat.le_refl _, by omega, fun j h => by omega, .inl ⟨rfl, rfl⟩⟩

theorem SlAt.below {w w' : World} {ki : IntKind} {m : Nat} {a : Option Addr} {n c : Nat} {f : Nat → Nat} (h : SlAt w ki m a n c f) (hb : Below w.heap.size w w') : SlAt w' ki m a n c f := by
  obtain ⟨h1, h2, h3, h4⟩ := h
  refine ⟨h1, h2, h3, ?_⟩
  rcases h4 with h4 | ⟨b, off, h4, h5, h6⟩
  · exact .inl h4
  · exact .inr ⟨b, off, h4, Nat.lt_of_lt_of_le h5 hb.size, fun j hj => (hb.cell (p := ⟨b, off + j, none⟩) h5).trans (h6 j hj)⟩

theorem SlAt.take {w : World} {ki : IntKind} {m : Nat} {a : Option Addr} {n c : Nat} {f : Nat → Nat} (h : SlAt w ki m a n c f) {k : Nat} (hk : k ≤ n) : SlAt w ki m a k c f := by
  obtain ⟨h1, h2, h3, h4⟩ := h
  refine ⟨by omega, by omega, fun j hj => h3 j (by omega), ?_⟩
  rcases h4 with h4 | ⟨b, off, h4, h5, h6⟩
  · exact .inl h4
  · exact .inr ⟨b, off, h4, h5, fun j hj => h6 j (by omega)⟩

/-- The place of a slice that is not empty. -/
theorem SlAt.at {w : World} {ki : IntKind} {m : Nat} {a : Option Addr} {n c : Nat} {f : Nat → Nat} (h : SlAt w ki m a n c f) (hn : 0 < n) : ∃ b off, a = some ⟨b, off, none⟩ ∧ b < w.heap.size ∧ Cells w ki b off n f := by
  obtain ⟨h1, h2, h3, h4⟩ := h
  rcases h4 with ⟨_, h4⟩ | h4
  · omega
  · exact h4

/-- The value is the natural number N in memory: its limbs, the last one not 0. -/
def NatIs (w : World) (v : Value) (N : Nat) : Prop := ∃ a n c f, v = .agg #[.slice a n c] ∧ SlAt w .u32 4294967296 a n c f ∧ val f n = N ∧ (n = 0 ∨ f (n - 1) ≠ 0)

theorem NatIs.below {w w' : World} {v : Value} {N : Nat} (h : NatIs w v N) (hb : Below w.heap.size w w') : NatIs w' v N := by
  obtain ⟨a, n, c, f, h1, h2, h3, h4⟩ := h
  exact ⟨a, n, c, f, h1, h2.below hb, h3, h4⟩

theorem NatIs.zero (w : World) : NatIs w (.agg #[.slice none 0 0]) 0 := ⟨none, 0, 0, fun _ => 0, rfl, SlAt.nil _ _ _ _, rfl, .inl rfl⟩

/-- A call wrote into block k alone, and there only from lo to hi; new blocks apart. -/
structure Wrote (k lo hi : Nat) (w w' : World) : Prop where
  os : w'.os = w.os
  tape : w'.tape = w.tape
  output : w'.output = w.output
  size : w.heap.size ≤ w'.heap.size
  block : ∀ j, j < w.heap.size → j ≠ k → w'.heap[j]? = w.heap[j]?
  cell : ∀ o, (o < lo ∨ hi ≤ o) → w'.cell? ⟨k, o, none⟩ = w.cell? ⟨k, o, none⟩
  frozen : ∀ o, w'.frozen? ⟨k, o, none⟩ = w.frozen? ⟨k, o, none⟩

theorem Wrote.refl (k lo hi : Nat) (w : World) : Wrote k lo hi w w := ⟨rfl, rfl, rfl, Nat.le_refl _, fun _ _ _ => rfl, fun _ _ => rfl, fun _ => rfl⟩
theorem Wrote.trans {k lo hi : Nat} {a b c : World} (h : Wrote k lo hi a b) (g : Wrote k lo hi b c) : Wrote k lo hi a c :=
  ⟨g.os.trans h.os, g.tape.trans h.tape, g.output.trans h.output, Nat.le_trans h.size g.size, fun j hj hk => (g.block j (Nat.lt_of_lt_of_le hj h.size) hk).trans (h.block j hj hk),
    fun o ho => (g.cell o ho).trans (h.cell o ho), fun o => (g.frozen o).trans (h.frozen o)⟩
theorem Wrote.mono {k lo hi lo' hi' : Nat} {a b : World} (h : Wrote k lo hi a b) (h1 : lo' ≤ lo) (h2 : hi ≤ hi') : Wrote k lo' hi' a b :=
  ⟨h.os, h.tape, h.output, h.size, h.block, fun o ho => h.cell o (by omega), h.frozen⟩
theorem Wrote.drew {k lo hi : Nat} {a b : World} (h : Wrote k lo hi a b) : Wrote k lo hi a b.drew := ⟨h.os, h.tape, h.output, h.size, h.block, h.cell, h.frozen⟩
theorem Wrote.drewN {k lo hi : Nat} {a b : World} (h : Wrote k lo hi a b) (n : Nat) : Wrote k lo hi a (b.drewN n) := ⟨h.os, h.tape, h.output, h.size, h.block, h.cell, h.frozen⟩
theorem Wrote.of_below {k lo hi : Nat} {a b : World} (h : Below a.heap.size a b) (hk : k < a.heap.size) : Wrote k lo hi a b :=
  ⟨h.os, h.tape, h.output, h.size, fun j hj _ => h.block j hj, fun o _ => h.cell (p := ⟨k, o, none⟩) hk, fun o => h.frozen (p := ⟨k, o, none⟩) hk⟩
theorem Wrote.below {k lo hi B : Nat} {w a b : World} (h : Wrote k lo hi a b) (hw : Below B w a) (hk : B ≤ k) (hB : B ≤ a.heap.size) : Below B w b :=
  hw.trans ⟨h.os, h.tape, h.output, h.size, fun j hj => h.block j (by omega) (by omega)⟩
theorem Wrote.setCell {k lo hi : Nat} {a b : World} (h : Wrote k lo hi a b) {o : Nat} (h1 : lo ≤ o) (h2 : o < hi) (u : Value) : Wrote k lo hi a (b.setCell ⟨k, o, none⟩ u) := by
  refine h.trans ⟨rfl, rfl, rfl, by simp [World.setCell], fun j hj hk => Below.heap_setCell _ _ _ _ hk, fun o' ho => ?_, fun o' => by simp⟩
  exact World.cell?_setCell_other _ _ _ _ (fun e => by cases e; omega)

/-- No cell of block b is read-only. -/
def Free (w : World) (b : Nat) : Prop := ∀ o, w.frozen? ⟨b, o, none⟩ = false
theorem Free.wrote {w w' : World} {b k lo hi : Nat} (h : Free w b) (hw : Wrote k lo hi w w') (hb : b < w.heap.size) : Free w' b := by
  intro o
  by_cases hk : b = k
  · subst hk; rw [hw.frozen]; exact h o
  · rw [World.frozen?_of_block (w := w) (w' := w') (hw.block b hb hk)]; exact h o
theorem Free.below {w w' : World} {b : Nat} (h : Free w b) (hw : Below w.heap.size w w') (hb : b < w.heap.size) : Free w' b := fun o => (hw.frozen (p := ⟨b, o, none⟩) hb).trans (h o)
theorem Free.of_block {w : World} {b : Nat} {cs : Array Value} {t : TypeId} (h : w.heap[b]? = some (.cells cs t (0, 0))) : Free w b := by
  intro o; simp [World.frozen?, h]
theorem Cells.of_block {w : World} {ki : IntKind} {b n : Nat} {f : Nat → Nat} {cs : List Value} {t : TypeId} (h : w.heap[b]? = some (.cells cs.toArray t (0, 0))) (hc : ∀ j, j < n → cs[j]? = some (.int ki (f j))) : Cells w ki b 0 n f := by
  intro j hj; simp [World.cell?, h]; exact hc j hj
theorem Cells.wrote {w w' : World} {ki : IntKind} {b off n k lo hi : Nat} {f : Nat → Nat} (h : Cells w ki b off n f) (hw : Wrote k lo hi w w') (hb : b < w.heap.size) (hd : b = k → ∀ j, j < n → off + j < lo ∨ hi ≤ off + j) : Cells w' ki b off n f := by
  intro j hj
  by_cases hk : b = k
  · subst hk; rw [hw.cell _ (hd rfl j hj)]; exact h j hj
  · rw [World.cell?_of_block (w := w) (w' := w') (hw.block b hb hk)]; exact h j hj
theorem Cells.below {w w' : World} {ki : IntKind} {b off n : Nat} {f : Nat → Nat} (h : Cells w ki b off n f) (hw : Below w.heap.size w w') (hb : b < w.heap.size) : Cells w' ki b off n f :=
  fun j hj => (hw.cell (p := ⟨b, off + j, none⟩) hb).trans (h j hj)
theorem SlAt.wrote {w w' : World} {ki : IntKind} {m : Nat} {a : Option Addr} {n c k lo hi : Nat} {f : Nat → Nat} (h : SlAt w ki m a n c f) (hw : Wrote k lo hi w w') (hd : ∀ x, a = some x → x.block ≠ k) : SlAt w' ki m a n c f := by
  obtain ⟨h1, h2, h3, h4⟩ := h
  refine ⟨h1, h2, h3, ?_⟩
  rcases h4 with h4 | ⟨b, off, h4, h5, h6⟩
  · exact .inl h4
  · exact .inr ⟨b, off, h4, Nat.lt_of_lt_of_le h5 hw.size, h6.wrote hw h5 (fun e => absurd e (hd _ h4))⟩
/-- One store: the row is told by the function changed at one place. -/
theorem Cells.set {w : World} {ki : IntKind} {b off n : Nat} {f : Nat → Nat} (h : Cells w ki b off n f) {k x : Nat} (hk : k < n) : Cells (w.setCell ⟨b, off + k, none⟩ (.int ki x)) ki b off n (fun j => if j = k then x else f j) := by
  intro j hj
  by_cases e : j = k
  · subst e; simp only [if_true]; exact World.cell?_setCell_same _ _ _ (h j hj)
  · simp only [e, if_false]; rw [World.cell?_setCell_other _ _ _ _ (fun e' => e (by simp only [Addr.mk.injEq] at e'; omega))]; exact h j hj
theorem Free.set {w : World} {b : Nat} (h : Free w b) (a : Addr) (u : Value) : Free (w.setCell a u) b := fun o => by simp [h o]
/-- Bounds of a wrapped number. -/
theorem ret_int {k : IntKind} {a b : Int} (h : a = b) : Ending.returned (.int k a) = .returned (.int k b) := by rw [h]

theorem ret_two {k k' : IntKind} {a b a' b' : Int} (h : a = b) (h' : a' = b') : Ending.returned (.tuple #[.int k a, .int k' a']) = .returned (.tuple #[.int k b, .int k' b']) := by rw [h, h']

theorem pow_succ32 (k : Nat) : (4294967296 : Nat) ^ (k + 1) = 4294967296 * 4294967296 ^ k := by rw [Nat.pow_succ, Nat.mul_comm]

end Go.Proofs.YtkjdoknmmiaapaaDoor
