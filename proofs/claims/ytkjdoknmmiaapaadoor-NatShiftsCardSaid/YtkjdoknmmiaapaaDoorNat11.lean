/-
  Package nat: divideLong, the walk.
-/
import Derived.Test.YtkjdoknmmiaapaaDoorNat10
namespace Go.Proofs.YtkjdoknmmiaapaaDoor
open Go.RowKit

theorem make_u32 (m : Nat) (hm : m ≤ 1000000) : ∃ z : List Value, z.length = m ∧ (∀ j, j < m → z[j]? = some (.int .u32 0)) ∧
    ∀ w : World, (Instr.makeSlice 23 (.int .i64 m) (.int .i64 m)).run Tryd.prog w = .ok (.slice (some ⟨w.heap.size, 0, none⟩) m m) (w.alloc (.cells z.toArray 86)) := by
  obtain ⟨i0, hi, hz0, hz1, hz2⟩ := info_parts infoU
  refine ⟨(madeCells (Value.cells (.int .u32 0)) m).toList, by simp [size_madeCells], fun j hj => ?_, fun w => ?_⟩
  · have h3 : (madeCells (Value.cells (.int .u32 0)) m)[j]? = some (.int .u32 0) := by simp [madeCells, hj, Value.cells, Nat.mod_one]
    rw [Array.getElem?_toList]; exact h3
  · have hmk := run_make (P := Tryd.prog) w 23 86 i0 (.int .u32 0) Tryd.underlying23 hi hz0 .i64 .i64 m m (by omega) (by omega) (by rw [hz2]; omega) (by omega)
    simp only [Int.toNat_natCast, hz1, Nat.mul_one] at hmk
    rw [Array.toArray_toList]
    exact hmk

theorem lz_any (x : Nat) (h0 : 0 < x) (h1 : x < 4294967296) : ∃ u : Nat, u < 32 ∧ (x + 1) * 2 ^ u ≤ 4294967296 ∧ ∀ w : World, Calls Tryd.prog 103 #[.int .u32 x] w fun e w' => e = .returned (.int .i64 u) ∧ w = w' := by
  obtain ⟨u, e, h2, h3⟩ := lz_spec h0 h1
  refine ⟨u, h2, h3, fun w => (Tryd.bits_LeadingZeros32 x w (by omega) (by omega)).mono fun _ _ ⟨h4, h5⟩ => ⟨?_, h5.symm⟩⟩
  rw [h4, Int.toNat_natCast, e]

/-- A row of the call's own. -/
structure Own (w w' : World) (b n : Nat) (N : Nat) : Prop where
  ge : w.heap.size ≤ b
  lt : b < w'.heap.size
  free : Free w' b
  row : ∃ f, Cells w' .u32 b 0 n f ∧ (∀ j, j < n → f j < 4294967296) ∧ val f n = N

theorem Own.below {w w1 w2 : World} {b n N : Nat} (h : Own w w1 b n N) (hb : Below w1.heap.size w1 w2) : Own w w2 b n N := by
  obtain ⟨f, h1, h2, h3⟩ := h.row
  exact ⟨h.ge, Nat.lt_of_lt_of_le h.lt hb.size, h.free.below hb h.lt, f, h1.below hb h.lt, h2, h3⟩
theorem Own.wrote {w w1 w2 : World} {b n N k lo hi : Nat} (h : Own w w1 b n N) (hb : Wrote k lo hi w1 w2) (hk : b ≠ k) : Own w w2 b n N := by
  obtain ⟨f, h1, h2, h3⟩ := h.row
  exact ⟨h.ge, Nat.lt_of_lt_of_le h.lt hb.size, h.free.wrote hb h.lt, f, h1.wrote hb h.lt (fun e => absurd e hk), h2, h3⟩
theorem Own.slAt {w w1 : World} {b n N : Nat} (h : Own w w1 b n N) (hn : n ≤ 1000000) : ∃ f, SlAt w1 .u32 4294967296 (some ⟨b, 0, none⟩) n n f ∧ val f n = N := by
  obtain ⟨f, h1, h2, h3⟩ := h.row
  exact ⟨f, ⟨Nat.le_refl _, hn, h2, .inr ⟨b, 0, rfl, h.lt, h1⟩⟩, h3⟩

/-- copied, as a row of the call's own. -/
theorem copied_own (a : Option Addr) (n c : Nat) (f : Nat → Nat) (m : Nat) (w : World) (h : SlAt w .u32 4294967296 a n c f) (hnm : n ≤ m) (hm : m ≤ 1000000) :
    Calls Tryd.prog 73 #[.slice a n c, .int .i64 m] w fun e w' => ∃ b, e = .returned (.slice (some ⟨b, 0, none⟩) m m) ∧ Own w w' b m (val f n) ∧ Below w.heap.size w w' := by
  refine (copied_any a n c f m w h hnm hm).mono ?_
  rintro e w' ⟨b, rfl, h1, h2, h3, h4, h5⟩
  refine ⟨b, rfl, ⟨h1, h2, h4, _, h3, fun j hj => ?_, ?_⟩, h5⟩
  · split
    · exact h.2.2.1 j (by assumption)
    · omega
  · rw [val_pad, Nat.min_eq_right hnm]

theorem shiftUp_own (w0 : World) (b n cs : Nat) (N : Nat) (u : Nat) (w : World) (h : Own w0 w b n N) (hn : n ≤ 1000000) (hu : u < 32) (hfit : N * 2 ^ u < 4294967296 ^ n) :
    Calls Tryd.prog 87 #[.slice (some ⟨b, 0, none⟩) n cs, .int .i64 u] w fun e w' => e = .returned (.tuple #[]) ∧ Own w0 w' b n (N * 2 ^ u) ∧ Wrote b 0 n w w' := by
  obtain ⟨f, h1, h2, h3⟩ := h.row
  refine (shiftUp_any b 0 n cs f u w h.free h1 h2 hn hu).mono ?_
  rintro e w' ⟨rfl, c, _, hw, hf, d, hd, hb, _, hR⟩
  rw [Nat.zero_add] at hw
  refine ⟨rfl, ⟨h.ge, Nat.lt_of_lt_of_le h.lt hw.size, hf, d, hd, hb, ?_⟩, hw⟩
  rw [(up_fits hR (by rw [h3]; exact hfit)).2, h3]

theorem shiftDown_own (w0 : World) (b n cs : Nat) (N : Nat) (u : Nat) (w : World) (h : Own w0 w b n N) (hnc : n ≤ cs) (hn : cs ≤ 1000000) (hu : u < 32) :
    Calls Tryd.prog 88 #[.slice (some ⟨b, 0, none⟩) n cs, .int .i64 u] w fun e w' => e = .returned (.tuple #[]) ∧ Own w0 w' b n (N / 2 ^ u) ∧ Wrote b 0 n w w' := by
  obtain ⟨f, h1, h2, h3⟩ := h.row
  refine (shiftDown_any b 0 n cs f u w h.lt hnc hn h.free h1 h2 hu).mono ?_
  rintro e w' ⟨rfl, hw, hf, d, hd, hb, _, hR⟩
  rw [Nat.zero_add] at hw
  refine ⟨rfl, ⟨h.ge, Nat.lt_of_lt_of_le h.lt hw.size, hf, d, hd, hb, ?_⟩, hw⟩
  rw [down_div f d n u hu hR, h3]

end Go.Proofs.YtkjdoknmmiaapaaDoor
