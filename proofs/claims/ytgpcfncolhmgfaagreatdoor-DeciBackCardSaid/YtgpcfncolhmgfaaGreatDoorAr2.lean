/-
  Package array: rows of numbers; slices.Clone of numbers and of characters, by contract.
-/
import Derived.Test.YtgpcfncolhmgfaaGreatDoorIs0
import Derived.Test.YtgpcfncolhmgfaaGreatDoorRa4
import Derived.Lib.SliceRun
import Derived.Lib.Walk
namespace Go.Proofs.YtgpcfncolhmgfaaGreatDoor
open Go.RowKit

/-- A row of numbers, of any length. -/
def RRow (w : World) (sa : Option Addr) (n c : Nat) (fP : Nat → Int) (fQ : Nat → Nat) : Prop := n ≤ c ∧ c ≤ maxLen ∧ (n = 0 ∨ ∃ b off, sa = some ⟨b, off, none⟩ ∧ b < w.heap.size ∧
  ∀ j, j < n → ∃ a' n' c' m' a2' n2' c2', w.cell? ⟨b, off + j * 3, none⟩ = some (.slice a' n' c') ∧ w.cell? ⟨b, off + j * 3 + 1, none⟩ = some (.bool m') ∧ w.cell? ⟨b, off + j * 3 + 2, none⟩ = some (.slice a2' n2' c2') ∧ RatAt w a' n' c' m' a2' n2' c2' (fP j) (fQ j))
theorem RRow.below {w w' : World} {sa : Option Addr} {n c : Nat} {fP : Nat → Int} {fQ : Nat → Nat} (h : RRow w sa n c fP fQ) (hb : Below w.heap.size w w') : RRow w' sa n c fP fQ := by
  obtain ⟨h0, h1, h2⟩ := h
  refine ⟨h0, h1, h2.imp id ?_⟩
  rintro ⟨b, off, rfl, hl, hc⟩
  refine ⟨b, off, rfl, Nat.lt_of_lt_of_le hl hb.size, fun j hj => ?_⟩
  obtain ⟨a', n', c', m', a2', n2', c2', e1, e2, e3, hr⟩ := hc j hj
  exact ⟨a', n', c', m', a2', n2', c2', (hb.cell (p := ⟨b, _, none⟩) hl).trans e1, (hb.cell (p := ⟨b, _, none⟩) hl).trans e2, (hb.cell (p := ⟨b, _, none⟩) hl).trans e3, hr.below hb⟩
theorem RRow.get {w : World} {sa : Option Addr} {n c : Nat} {fP : Nat → Int} {fQ : Nat → Nat} (h : RRow w sa n c fP fQ) {j : Nat} (hj : j < n) :
    ∃ b off a' n' c' m' a2' n2' c2', sa = some ⟨b, off, none⟩ ∧ b < w.heap.size ∧ w.cell? ⟨b, off + j * 3, none⟩ = some (.slice a' n' c') ∧ w.cell? ⟨b, off + j * 3 + 1, none⟩ = some (.bool m') ∧ w.cell? ⟨b, off + j * 3 + 2, none⟩ = some (.slice a2' n2' c2') ∧ RatAt w a' n' c' m' a2' n2' c2' (fP j) (fQ j) := by
  obtain ⟨h0, h1, h2⟩ := h
  rcases h2 with h2 | ⟨b, off, rfl, hl, hc⟩
  · omega
  · obtain ⟨a', n', c', m', a2', n2', c2', e⟩ := hc j hj
    exact ⟨b, off, a', n', c', m', a2', n2', c2', rfl, hl, e⟩
theorem RRow.nought (w : World) (a : Option Addr) (c : Nat) (hc : c ≤ maxLen) (fP : Nat → Int) (fQ : Nat → Nat) : RRow w a 0 c fP fQ := ⟨Nat.zero_le _, hc, .inl rfl⟩
/-- What lies in a row's cells, read off the memory. -/
def lies (w : World) (b off n : Nat) : List Value := (List.range n).map fun j => (w.cell? ⟨b, off + j, none⟩).getD undef
theorem lies_length (w : World) (b off n : Nat) : (lies w b off n).length = n := by simp [lies]
theorem lies_get {w : World} {b off n j : Nat} {u : Value} (h : (lies w b off n)[j]? = some u) (hs : ∀ i, i < n → (w.cell? ⟨b, off + i, none⟩).isSome = true) : w.cell? ⟨b, off + j, none⟩ = some u := by
  unfold lies at h
  rw [List.getElem?_map] at h
  obtain ⟨i, hi, rfl⟩ := Option.map_eq_some_iff.1 h
  have hj : j < n := by
    have := (List.getElem?_eq_some_iff.1 hi).1
    simpa using this
  rw [List.getElem?_range hj] at hi
  obtain rfl := Option.some.inj hi
  obtain ⟨v, hv⟩ := Option.isSome_iff_exists.1 (hs j hj)
  rw [hv]; rfl
theorem lies_at {w : World} {b off n j : Nat} {u : Value} (hj : j < n) (h : w.cell? ⟨b, off + j, none⟩ = some u) : (lies w b off n)[j]? = some u := by
  unfold lies
  rw [List.getElem?_map, List.getElem?_range hj, Option.map_some, h]
  rfl

/-- Cells of numbers are there, one each. -/
theorem three {n : Nat} {p : Nat → Prop} (h : ∀ j, j < n → p (j * 3) ∧ p (j * 3 + 1) ∧ p (j * 3 + 2)) : ∀ i, i < n * 3 → p i := by
  intro i hi
  obtain ⟨h1, h2, h3⟩ := h (i / 3) (by omega)
  have : i = i / 3 * 3 ∨ i = i / 3 * 3 + 1 ∨ i = i / 3 * 3 + 2 := by omega
  rcases this with e | e | e <;> rw [e] <;> assumption

theorem infoR : (Tryz.prog.info? 30).map (fun i => (i.zero, i.size, i.bytes)) = some (some (.agg #[.slice none 0 0, .bool false, .slice none 0 0]), 3, 56) := by kernel_rfl
theorem infoC : (Tryz.prog.info? 21).map (fun i => (i.zero, i.size, i.bytes)) = some (some (.int .i32 0), 1, 4) := by kernel_rfl

end Go.Proofs.YtgpcfncolhmgfaaGreatDoor
