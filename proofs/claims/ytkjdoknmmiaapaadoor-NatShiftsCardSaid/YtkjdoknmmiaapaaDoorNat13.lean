/-
  Package nat: Zero, One, Even, Limbs, Bits, Cmp, by contract, over the numbers that they are.
-/
import Derived.Test.YtkjdoknmmiaapaaDoorNat12
namespace Go.Proofs.YtkjdoknmmiaapaaDoor
open Go.RowKit

theorem below_alloc {w w' : World} {o : Obj} (h : Below (w.alloc o).heap.size (w.alloc o) w') : Below w.heap.size w w' :=
  ((Below.refl _ _).alloc (Nat.le_refl _) o).trans (h.mono (by rw [World.size_alloc]; omega))

theorem nat_zero {n : Nat} {f : Nat → Nat} {N : Nat} (hv : val f n = N) (ht : n = 0 ∨ f (n - 1) ≠ 0) : N = 0 ↔ n = 0 := by
  constructor
  · intro h
    rcases Nat.eq_zero_or_pos n with h0 | h0
    · exact h0
    · have := val_top f n h0 (ht.resolve_left (by omega))
      have := pow_pos32 (n - 1)
      omega
  · intro h; subst h; exact hv.symm

theorem nat_len_lt {na nb : Nat} {f g : Nat → Nat} (hf : ∀ j, j < na → f j < 4294967296) (hb : nb = 0 ∨ g (nb - 1) ≠ 0) (h : na < nb) : val f na < val g nb := by
  have h1 := val_lt f na hf
  have h2 := val_top g nb (by omega) (hb.resolve_left (by omega))
  have h3 := pow_mono32 (show na ≤ nb - 1 by omega)
  omega

theorem val_lt_of {f g : Nat → Nat} {t n : Nat} (ht : t < n) (hf : ∀ j, j < n → f j < 4294967296) (he : ∀ j, t < j → j < n → f j = g j) (h : f t < g t) : val f n < val g n := by
  rw [val_seg f (t + 1) n (by omega), val_seg g (t + 1) n (by omega), seg_congr (t + 1) n (f := f) (g := g) (fun j h1 h2 => he j (by omega) h2), val, val]
  have h1 := val_lt f t (fun j hj => hf j (by omega))
  have h2 : (f t + 1) * 4294967296 ^ t ≤ g t * 4294967296 ^ t := Nat.mul_le_mul_right _ h
  rw [Nat.add_mul] at h2
  omega

theorem zero_any (v : Value) (N : Nat) (w : World) (h : NatIs w v N) : Calls Tryd.prog 22 #[v] w fun e w' => e = .returned (.bool (decide (N = 0))) ∧ Below w.heap.size w w' := by
  obtain ⟨a, n, c, f, rfl, hs, hv, ht⟩ := h
  have hz := nat_zero hv ht
  have e : decide (N = 0) = decide (n = 0) := by simp [hz]
  rw [e]
  have hb := hs.1
  have hb2 := hs.2.1
  clear hs hv ht hz e
  go_enter Tryd.func22, Tryd.ntmps22
  by_cases h0 : n = 0
  · subst h0
    go_wp2
    go_ret
    exact ⟨rfl, (Below.refl _ _).alloc (Nat.le_refl _) _⟩
  · have h1 : ((n : Int) == 0) = false := by simp; omega
    go_wp2
    go_ret
    exact ⟨by simp [h0], (Below.refl _ _).alloc (Nat.le_refl _) _⟩

theorem limbs_any (v : Value) (N : Nat) (w : World) (h : NatIs w v N) : Calls Tryd.prog 27 #[v] w fun e w' => ∃ n : Nat, e = .returned (.int .i64 n) ∧ n ≤ 1000000 ∧ (n = 0 ↔ N = 0) ∧ Hid (N < 4294967296 ^ n ∧ (0 < n → 4294967296 ^ (n - 1) ≤ N)) ∧ Below w.heap.size w w' := by
  obtain ⟨a, n, c, f, rfl, hs, hv, ht⟩ := h
  have hz := Lib.hid (nat_zero hv ht)
  have hp : Hid (N < 4294967296 ^ n ∧ (0 < n → 4294967296 ^ (n - 1) ≤ N)) := ⟨by rw [← hv]; exact val_lt f n hs.2.2.1, fun h0 => by rw [← hv]; exact val_top f n h0 (ht.resolve_left (by omega))⟩
  have hb : n ≤ 1000000 := by have := hs.1; have := hs.2.1; omega
  clear hs hv ht
  go_enter Tryd.func27, Tryd.ntmps27
  go_wp2
  go_ret
  exact ⟨n, rfl, hb, hz.out.symm, hp, (Below.refl _ _).alloc (Nat.le_refl _) _⟩

theorem one_any (v : Value) (N : Nat) (w : World) (h : NatIs w v N) : Calls Tryd.prog 23 #[v] w fun e w' => e = .returned (.bool (decide (N = 1))) ∧ Below w.heap.size w w' := by
  obtain ⟨a, n, c, f, rfl, hs, hv, ht⟩ := h
  by_cases h1 : n = 1
  · subst h1
    obtain ⟨b, off, rfl, hb, hc, hl⟩ := hs.limb (show 0 < 1 by omega)
    have e : N = f 0 := by rw [← hv]; simp [val]
    subst e
    rw [Nat.add_zero] at hc
    clear hs hv ht
    generalize f 0 = x at *
    by_cases h2 : x = 1
    · subst h2
      go_enter Tryd.func23, Tryd.ntmps23
      go_wp2
      go_ret
      exact ⟨rfl, (Below.refl _ _).alloc (Nat.le_refl _) _⟩
    · have h3 : ((x : Int) == 1) = false := by simp; omega
      go_enter Tryd.func23, Tryd.ntmps23
      go_wp2
      go_ret
      exact ⟨by simp [h2], (Below.refl _ _).alloc (Nat.le_refl _) _⟩
  · have h2 : ¬ N = 1 := by
      intro h3
      rcases Nat.eq_zero_or_pos n with h0 | h0
      · have := (nat_zero hv ht).2 h0; omega
      · have h4 := val_top f n h0 (ht.resolve_left (by omega))
        have h5 := pow_mono32 (show 1 ≤ n - 1 by omega)
        rw [Nat.pow_one] at h5
        omega
    have h3 : ((n : Int) == 1) = false := by simp; omega
    have h4 : decide ((n : Int) = 1) = false := by simp; omega
    rw [show decide (N = 1) = false by simp [h2]]
    have hb : n ≤ 1000000 := by have := hs.1; have := hs.2.1; omega
    clear hs hv ht h1 h2
    go_enter Tryd.func23, Tryd.ntmps23
    go_wp2
    go_ret
    exact ⟨by simp, (Below.refl _ _).alloc (Nat.le_refl _) _⟩

theorem val_even {f : Nat → Nat} {n : Nat} (h : 0 < n) : val f n % 2 = f 0 % 2 := by
  obtain ⟨m, rfl⟩ : ∃ m, n = 1 + m := ⟨n - 1, by omega⟩
  rw [val_shift]
  simp only [val, Nat.pow_zero, Nat.pow_one]
  omega

theorem even_any (v : Value) (N : Nat) (w : World) (h : NatIs w v N) : Calls Tryd.prog 24 #[v] w fun e w' => e = .returned (.bool (decide (N % 2 = 0))) ∧ Below w.heap.size w w' := by
  have HZ := fun w1 (hb : Below w.heap.size w w1) => zero_any v N w1 (h.below hb)
  obtain ⟨a, n, c, f, rfl, hs, hv, ht⟩ := h
  have hz := nat_zero hv ht
  by_cases h0 : n = 0
  · have hN : N = 0 := hz.2 h0
    subst hN
    have HZ' := Lib.hid (HZ (w.alloc (.cells #[.slice a n c] 25)) ((Below.refl _ _).alloc (Nat.le_refl _) _))
    clear hs hv ht hz HZ h0
    go_enter Tryd.func24, Tryd.ntmps24
    go_wp2_with (go_at_call 22; refine HZ'.out.mono ?_; rintro e w1 ⟨rfl, hb1⟩)
    go_ret
    exact ⟨by simp, below_alloc hb1⟩
  · obtain ⟨b, off, rfl, hb, hc, hl⟩ := hs.limb (show 0 < n by omega)
    have hev := val_even (f := f) (show 0 < n by omega)
    rw [hv] at hev
    have hN : decide (N = 0) = false := by simp; omega
    rw [hN] at HZ
    rw [hev]
    have HZ' := Lib.hid (HZ (w.alloc (.cells #[.slice (some ⟨b, off, none⟩) n c] 25)) ((Below.refl _ _).alloc (Nat.le_refl _) _))
    rw [Nat.add_zero] at hc
    clear hs hv ht hz HZ hev
    generalize f 0 = x at *
    obtain ⟨y, hy⟩ : ∃ y, x % 2 = y := ⟨_, rfl⟩
    have hyy : (x : Int) % 2 = (y : Int) := by omega
    have hy2 : ((y : Int) == 0) = decide (y = 0) := by rw [Bool.eq_iff_iff]; simp
    rw [hy]
    clear hy
    go_enter Tryd.func24, Tryd.ntmps24
    go_wp2_with fail
    go_at_call 22
    refine HZ'.out.mono ?_
    rintro e w1 ⟨rfl, hb1⟩
    have hc1 : w1.cell? ⟨w.heap.size, 0, none⟩ = some (.slice (some ⟨b, off, none⟩) n c) := by rw [hb1.cell (by simp)]; simp
    have hc2 : w1.cell? ⟨b, off, none⟩ = some (.int .u32 x) := by rw [hb1.cell (by simp; omega), World.cell?_alloc_lt _ _ _ hb]; exact hc
    have HB := Lib.hid hb1
    clear hb1
    go_wp2
    go_ret
    exact ⟨by simp, below_alloc HB.out⟩

end Go.Proofs.YtkjdoknmmiaapaaDoor
