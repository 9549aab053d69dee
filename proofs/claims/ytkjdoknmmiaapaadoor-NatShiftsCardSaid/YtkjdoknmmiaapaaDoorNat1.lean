/-
  What the small functions of package nat do, each call by its contract: trimmed, copied, Of, limbAt, Zero, One, Limbs.
-/
import Derived.Test.YtkjdoknmmiaapaaDoorRows
import Derived.Test.YtkjdoknmmiaapaaDoorBase
import Derived.WalkLawsBesides
import Derived.Laws.CopyOwn
import Derived.Deep.QuietTactic
import Derived.BigQuiet
namespace Go.Proofs.YtkjdoknmmiaapaaDoor
open Go.RowKit

/-- A slice cut to k, nil where nothing is left. -/
def trimV (a : Option Addr) (c k : Nat) : Value := .agg #[if k = 0 then .slice none 0 0 else .slice a k c]

set_option maxHeartbeats 400000 in
theorem trimmed_any (a : Option Addr) (n c : Nat) (f : Nat → Nat) (w : World) (h : SlAt w .u32 4294967296 a n c f) :
    Calls Tryd.prog 72 #[.slice a n c] w fun e w' => e = .returned (trimV a c (tl f n)) ∧ Below w.heap.size w w' := by
  obtain ⟨h1, h2, h3, h4⟩ := h
  have ht := tl_le f n
  go_enter Tryd.func72, Tryd.ntmps72
  go_wp2
  go_loop [3] (fun i => ∃ k : Nat, k ≤ n ∧ i = .int .i64 k ∧ Hid (tl f k = tl f n)) (fun i => (intOf i).toNat)
  case atStart => exact ⟨n, Nat.le_refl _, rfl, rfl⟩
  case round =>
    obtain ⟨k, hk, rfl, hr⟩ := hrel
    rcases Nat.eq_zero_or_pos k with h0 | h0
    · subst h0
      have hr0 : tl f n = 0 := hr.out.symm
      have hd : decide ((0 : Int) < ((0 : Nat) : Int)) = false := by decide
      go_wp2
      exact bodyPost_ret (v := .agg #[.slice none 0 0]) (by simp [results, Tryd.results72, go_sem]) rfl ⟨by simp [trimV], (Below.refl _ _).alloc (Nat.le_refl _) _⟩
    · obtain ⟨m, rfl⟩ : ∃ m, k = m + 1 := ⟨k - 1, by omega⟩
      rcases h4 with ⟨_, rfl⟩ | ⟨b, off, rfl, hb, hc⟩
      · omega
      have hcm := hc m (by omega)
      have hm : m < n := by omega
      clear hc h3
      by_cases hz : f m = 0
      · rw [hz] at hcm
        go_wp2
        go_round
        case rel => exact ⟨m, by omega, by go_num, by have := hr.out; simpa [tl, hz, Hid] using this⟩
        case measure => simp [intOf]
      · have hr0 : tl f n = m + 1 := by have := hr.out; simpa [tl, hz] using this.symm
        have hz' : ((f m : Int) == 0) = false := by simp [hz]
        go_wp2
        exact bodyPost_ret (v := .agg #[.slice (some ⟨b, off, none⟩) (m + 1) c]) (by simp [results, Tryd.results72, go_sem]) rfl ⟨by simp [trimV], (Below.refl _ _).alloc (Nat.le_refl _) _⟩

theorem trimV_is {w : World} {a : Option Addr} {n c : Nat} {f : Nat → Nat} (h : SlAt w .u32 4294967296 a n c f) : NatIs w (trimV a c (tl f n)) (val f n) := by
  unfold trimV
  split
  · rename_i h0
    rw [← tl_val f n, h0]
    exact NatIs.zero w
  · rename_i h0
    exact ⟨a, tl f n, c, f, rfl, h.take (tl_le f n), tl_val f n, (tl_last f n)⟩

theorem trimmed_nat (a : Option Addr) (n c : Nat) (f : Nat → Nat) (w : World) (h : SlAt w .u32 4294967296 a n c f) :
    Calls Tryd.prog 72 #[.slice a n c] w fun e w' => ∃ v, e = .returned v ∧ NatIs w' v (val f n) ∧ Below w.heap.size w w' :=
  (trimmed_any a n c f w h).mono fun _ _ ⟨he, hb⟩ => ⟨_, he, (trimV_is h).below hb, hb⟩

theorem heap_new (w : World) (o : Obj) : (w.alloc o).heap[w.heap.size]? = some o := by
  show (w.heap.push o)[w.heap.size]? = _
  simp

theorem infoU : (Tryd.prog.info? 86).map (fun i => (i.zero, i.size, i.bytes)) = some (some (.int .u32 0), 1, 4) := by kernel_rfl

set_option maxHeartbeats 400000 in
set_option maxRecDepth 100000 in
theorem copied_any (a : Option Addr) (n c : Nat) (f : Nat → Nat) (m : Nat) (w : World) (h : SlAt w .u32 4294967296 a n c f) (hnm : n ≤ m) (hm : m ≤ 1000000) :
    Calls Tryd.prog 73 #[.slice a n c, .int .i64 m] w fun e w' => ∃ b, e = .returned (.slice (some ⟨b, 0, none⟩) m m) ∧ w.heap.size ≤ b ∧ b < w'.heap.size ∧
      Cells w' .u32 b 0 m (fun j => if j < n then f j else 0) ∧ Free w' b ∧ Below w.heap.size w w' := by
  obtain ⟨i0, hi, hz0, hz1, hz2⟩ := info_parts infoU
  have hmk := run_make (P := Tryd.prog) w 23 86 i0 (.int .u32 0) Tryd.underlying23 hi hz0 .i64 .i64 m m (by omega) (by omega) (by rw [hz2]; omega) (by omega)
  simp only [Int.toNat_natCast, hz1, Nat.mul_one] at hmk
  obtain ⟨mc, hmc⟩ : ∃ mc : List Value, madeCells (Value.cells (.int .u32 0)) m = mc.toArray := ⟨_, (Array.toArray_toList).symm⟩
  rw [hmc] at hmk
  have hlen : mc.length = m := by have := congrArg Array.size hmc; simpa [size_madeCells] using this.symm
  have hmcj : ∀ j, j < m → mc[j]? = some (.int .u32 0) := by
    intro j hj
    have h3 : (madeCells (Value.cells (.int .u32 0)) m)[j]? = some (.int .u32 0) := by simp [madeCells, hj, Value.cells, Nat.mod_one]
    rw [hmc, List.getElem?_toArray] at h3
    exact h3
  have HL := Lib.hid hlen
  have HC := Lib.hid hmcj
  have HM := Lib.hid hm
  have HS := Lib.hid h
  have HN := Lib.hid hnm
  clear hmc hm h hz0 hz1 hz2 hi hlen hmcj hnm
  go_enter Tryd.func73, Tryd.ntmps73
  go_wp2_with (refine wpList_copy_splice rfl (.tmp 8) (.tmp 9) 23 23 rfl 86 Tryd.underlying23 (by kernel_rfl) _ _ _ _ _ _ rfl rfl w.heap.size 0 mc 86 ?hg ((List.range n).map fun j => .int .u32 (f j)) ?hn ?hpos ?hfit ?h1 w.heap.size w ?hb (Nat.le_refl _) ?_)
  case hg => exact heap_new _ _
  case hn => rw [List.length_map, List.length_range]; exact (Nat.min_eq_left HN.out).symm
  case hpos =>
    intro h0
    have h0 : 0 < n := by simpa using h0
    obtain ⟨b, off, rfl, hb, hc⟩ := HS.out.at (by omega)
    refine ⟨_, rfl, fun j x hj => ?_⟩
    simp only [List.getElem?_eq_some_iff, List.length_range, List.getElem_range] at hj
    obtain ⟨hj1, rfl⟩ := hj
    have := hc j hj1
    rw [← this]
    rw [show (⟨b, off, none⟩ : Addr).add j = ⟨b, off + j, none⟩ by simp [Addr.add]]
    exact World.cell?_alloc_lt w _ ⟨b, off + j, none⟩ hb
  case hfit => have := HN.out; have := HL.out; simp; omega
  case h1 =>
    intro v hv
    simp at hv
    obtain ⟨_, _, rfl⟩ := hv
    rfl
  case hb => exact (Below.refl _ _).alloc (Nat.le_refl _) _
  · intro w1 hg1 hb1
    have HB := Lib.hid hb1
    clear hb1
    go_wp2
    go_ret
    have hlen := HL.out
    have hn := HN.out
    have hsz : w.heap.size < w1.heap.size := by
      have := hg1.out
      rcases Nat.lt_or_ge w.heap.size w1.heap.size with h | h
      · exact h
      · rw [Array.getElem?_eq_none h] at this; cases this
    refine ⟨w.heap.size, rfl, Nat.le_refl _, hsz, Cells.of_block hg1.out fun j hj => ?_, Free.of_block hg1.out, HB.out⟩
    have hj0 := HC.out j hj
    by_cases hjn : j < n
    · simp [splice, hjn]
      rw [List.getElem?_append_left (by simpa using hjn)]
      simp [hjn]
    · simp [splice, hjn]
      rw [List.getElem?_append_right (by simp; omega)]
      simp
      rw [show n + (j - n) = j by omega]
      exact hj0

theorem SlAt.limb {w : World} {a : Option Addr} {n c : Nat} {f : Nat → Nat} (h : SlAt w .u32 4294967296 a n c f) {k : Nat} (hk : k < n) : ∃ b off, a = some ⟨b, off, none⟩ ∧ b < w.heap.size ∧ w.cell? ⟨b, off + k, none⟩ = some (.int .u32 (f k)) ∧ f k < 4294967296 := by
  obtain ⟨b, off, h1, h2, h3⟩ := h.at (by omega)
  exact ⟨b, off, h1, h2, h3 k hk, h.2.2.1 k hk⟩

/-- limbAt: the limb, or 0 behind the last one. -/
theorem limbAt_any (a : Option Addr) (n c : Nat) (f : Nat → Nat) (k : Nat) (w : World) (h : SlAt w .u32 4294967296 a n c f) :
    Calls Tryd.prog 100 #[.slice a n c, .int .i64 k] w fun e w' => e = .returned (.int .u32 ((if k < n then f k else 0 : Nat) : Int)) ∧ w = w' := by
  by_cases hk : k < n
  · obtain ⟨b, off, rfl, hb, hc, hlt⟩ := h.limb hk
    rw [if_pos hk]
    clear h hlt
    go_enter Tryd.func100, Tryd.ntmps100
    go_wp2
    go_ret
    exact ⟨rfl, rfl⟩
  · rw [if_neg hk]
    clear h
    go_enter Tryd.func100, Tryd.ntmps100
    go_wp2
    go_ret
    exact ⟨rfl, rfl⟩

theorem add32_any (x y c : Nat) (hx : x < 4294967296) (hy : y < 4294967296) (hc : c ≤ 1) (w : World) :
    Calls Tryd.prog 102 #[.int .u32 x, .int .u32 y, .int .u32 c] w fun e w' => e = .returned (.tuple #[.int .u32 (((x + y + c) % 4294967296 : Nat) : Int), .int .u32 (((x + y + c) / 4294967296 : Nat) : Int)]) ∧ w = w' := by
  go_enter Tryd.func102, Tryd.ntmps102
  go_wp2
  go_ret2
  exact ⟨ret_two (by omega) (by omega), rfl⟩

end Go.Proofs.YtkjdoknmmiaapaaDoor
