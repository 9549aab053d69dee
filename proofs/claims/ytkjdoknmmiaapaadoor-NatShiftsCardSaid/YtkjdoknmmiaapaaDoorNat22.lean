/-
  Package nat: Bits and Uint, by contract.
-/
import Derived.Test.YtkjdoknmmiaapaaDoorNat21
namespace Go.Proofs.YtkjdoknmmiaapaaDoor
open Go.RowKit

/-- How many bits a number has. -/
def nbits (N : Nat) : Nat := if N = 0 then 0 else N.log2 + 1
theorem nbits_eq {N b : Nat} (h1 : 2 ^ b ≤ N) (h2 : N < 2 ^ (b + 1)) : nbits N = b + 1 := by
  have h0 : N ≠ 0 := by have := Nat.two_pow_pos b; omega
  unfold nbits
  rw [if_neg h0]
  have := (Nat.le_log2 h0).2 h1
  have := (Nat.log2_lt h0).2 h2
  omega
theorem nbits_le {N b : Nat} : nbits N ≤ b ↔ N < 2 ^ b := by
  unfold nbits
  split
  · rename_i h; subst h; simp [Nat.two_pow_pos]
  · rename_i h
    rw [← Nat.log2_lt h]; omega

theorem bits_val {n : Nat} {f : Nat → Nat} (hn : 0 < n) (hf : ∀ j, j < n → f j < 4294967296) (ht : f (n - 1) ≠ 0) : nbits (val f n) = (n - 1) * 32 + Lib.bitLen (f (n - 1)) := by
  obtain ⟨m, rfl⟩ : ∃ m, n = m + 1 := ⟨n - 1, by omega⟩
  rw [Nat.add_sub_cancel] at *
  have hx := hf m (by omega)
  obtain ⟨a, b, c⟩ := Lib.bitLenAux_bounds 64 (f m) (by omega) ht
  have hl : Lib.bitLen (f m) = Lib.bitLenAux 64 (f m) := rfl
  rw [hl]
  generalize Lib.bitLenAux 64 (f m) = l at *
  obtain ⟨k, rfl⟩ : ∃ k, l = k + 1 := ⟨l - 1, by omega⟩
  rw [Nat.add_sub_cancel] at b
  have hB : (4294967296 : Nat) ^ m = 2 ^ (m * 32) := by rw [Nat.mul_comm, Nat.pow_mul]
  have h1 := val_lt f m (fun j hj => hf j (by omega))
  rw [show m * 32 + (k + 1) = (m * 32 + k) + 1 by omega]
  refine nbits_eq ?_ ?_
  · rw [Nat.pow_add, val, hB, Nat.mul_comm]
    have := Nat.mul_le_mul_right (2 ^ (m * 32)) b
    omega
  · rw [show m * 32 + k + 1 = (k + 1) + m * 32 by omega, Nat.pow_add, val]
    have := Nat.mul_le_mul_right (2 ^ (m * 32)) (show f m + 1 ≤ 2 ^ (k + 1) from c)
    rw [Nat.add_mul] at this
    rw [hB] at h1 ⊢
    omega

theorem len32_any (x : Nat) (w : World) (h : x < 4294967296) : Calls Tryd.prog 77 #[.int .u32 x] w fun e w' => e = .returned (.int .i64 (Lib.bitLen x : Nat)) ∧ w = w' :=
  (Tryd.bits_Len32 x w (by omega) (by omega)).mono fun _ _ ⟨h1, h2⟩ => ⟨by rw [h1, Int.toNat_natCast], h2.symm⟩

set_option maxRecDepth 100000 in
theorem bits_any (v : Value) (N : Nat) (w : World) (h : NatIs w v N) : Calls Tryd.prog 25 #[v] w fun e w' => e = .returned (.int .i64 (nbits N)) ∧ Below w.heap.size w w' := by
  have HZ := Lib.hid (zero_any v N)
  obtain ⟨a, n, c, f, rfl, hs, hv, ht⟩ := h
  have hz := nat_zero hv ht
  have hzz := HZ.out (w.alloc (.cells #[.slice a n c] 25)) ⟨a, n, c, f, rfl, hs.below ((Below.refl _ _).alloc (Nat.le_refl _) _), hv, ht⟩
  have s0 := Slot.new w (.slice a n c) 25
  by_cases h0 : n = 0
  · have hN : N = 0 := hz.2 h0
    subst hN
    have HZ2 := Lib.hid hzz
    clear hs hv ht hz hzz s0 h0
    go_enter Tryd.func25, Tryd.ntmps25
    go_wp2_with (go_at_call 22; refine HZ2.out.mono ?_; rintro e w1 ⟨rfl, hb1⟩)
    go_ret
    exact ⟨by simp [nbits], below_alloc hb1⟩
  · rw [show decide (N = 0) = false from decide_eq_false (by omega)] at hzz
    obtain ⟨n1, hn1⟩ : ∃ n1, n - 1 = n1 := ⟨_, rfl⟩
    have hb := bits_val (by omega) hs.2.2.1 (ht.resolve_left h0)
    rw [hv, hn1] at hb
    obtain ⟨b, off, rfl, hbl, hc, hl⟩ := hs.limb (show n1 < n by omega)
    have hnl := NatIs.len hs
    have hL := Lib.bitLen_le (f n1) 32 (by omega) (by omega)
    have HLN := Lib.hid (len32_any (f n1))
    generalize f n1 = x at *
    obtain ⟨l, hl2⟩ : ∃ l, Lib.bitLen x = l := ⟨_, rfl⟩
    rw [hl2] at hb hL HLN
    have e1 : (n : Int) - 1 = (n1 : Int) := by omega
    have HB := Lib.hid hb
    have HZ2 := Lib.hid hzz
    have S0 := Lib.hid s0
    have i1 : (n1 : Int) < (n : Int) := by omega
    clear hs hv ht hz hzz s0 hb hl2 hn1
    go_enter Tryd.func25, Tryd.ntmps25
    go_wp2_with fail
    go_at_call 22
    refine HZ2.out.mono ?_
    rintro e w1 ⟨rfl, hb1⟩
    have S1 := S0.out.below hb1
    have hc1 := S1.cell
    have HB1 := Lib.hid (below_alloc hb1)
    have hc2 : w1.cell? ⟨b, off + n1, none⟩ = some (.int .u32 x) := (HB1.out.cell (p := ⟨b, off + n1, none⟩) hbl).trans hc
    clear hb1 S1
    go_wp2_with (go_at_call 77; refine (HLN.out _ hl).mono ?_; rintro e w2 ⟨rfl, rfl⟩)
    go_ret
    refine ⟨ret_int ?_, HB1.out⟩
    rw [HB.out]
    show (n1 : Int) * 32 + (l : Int) = _
    omega

theorem or0 (x : Nat) (h : x < 18446744073709551616) : bits .or .u64 (0 : Int) (x : Int) = (x : Int) := by
  have := u64_or_nat 0 x (by omega) h
  rw [Nat.zero_or] at this
  exact this

def UintOut (w w' : World) (e : Ending) (N : Nat) : Prop := e = .returned (.tuple #[.int .u64 ((if N < 18446744073709551616 then N else 0 : Nat) : Int), .bool (decide (N < 18446744073709551616))]) ∧ Below w.heap.size w w'

set_option maxHeartbeats 800000 in
set_option maxRecDepth 100000 in
theorem uint_any (v : Value) (N : Nat) (w : World) (h : NatIs w v N) : Calls Tryd.prog 19 #[v] w fun e w' => UintOut w w' e N := by
  have HZ := Lib.hid (bits_any v N)
  have hnb : nbits N ≤ 64 ↔ N < 18446744073709551616 := nbits_le
  obtain ⟨a, n, c, f, rfl, hs, hv, ht⟩ := h
  have hzz := HZ.out (w.alloc (.cells #[.slice a n c] 25)) ⟨a, n, c, f, rfl, hs.below ((Below.refl _ _).alloc (Nat.le_refl _) _), hv, ht⟩
  have s0 := Slot.new w (.slice a n c) 25
  have HZ2 := Lib.hid hzz
  obtain ⟨B, hB⟩ : ∃ B, nbits N = B := ⟨_, rfl⟩
  rw [hB] at HZ2 hnb
  by_cases hbig : 64 < B
  · have hE : ∀ w', Below w.heap.size w w' → UintOut w w' (.returned (.tuple #[.int .u64 0, .bool false])) N := by
      intro w' hb
      refine ⟨?_, hb⟩
      have : ¬ N < 18446744073709551616 := by omega
      rw [if_neg this, decide_eq_false this]; rfl
    have HE := Lib.hid hE
    clear hE hs hv ht hzz s0 hnb hB
    go_enter Tryd.func19, Tryd.ntmps19
    go_wp2_with (go_at_call 25; refine HZ2.out.mono ?_; rintro e w1 ⟨rfl, hb1⟩)
    go_ret2
    exact HE.out _ (below_alloc hb1)
  · have hNl : N < 18446744073709551616 := by omega
    have hn2 : n ≤ 2 := NatIs.short (k := 2) hv ht (by omega)
    have hE : ∀ w', Below w.heap.size w w' → UintOut w w' (.returned (.tuple #[.int .u64 N, .bool true])) N := by
      intro w' hb
      refine ⟨?_, hb⟩
      rw [if_pos hNl, decide_eq_true hNl]
    have HE := Lib.hid hE
    have HS := Lib.hid hs
    have HV := Lib.hid hv
    have S0 := Lib.hid s0
    have HNL := Lib.hid hNl
    clear hE hs hv ht hzz s0 hnb hB hNl
    go_enter Tryd.func19, Tryd.ntmps19
    go_wp2_with fail
    go_at_call 25
    refine HZ2.out.mono ?_
    rintro e w1 ⟨rfl, hb1⟩
    have S1 := Lib.hid (S0.out.below hb1)
    have HB1 := Lib.hid (below_alloc hb1)
    have hc1 := S1.out.cell
    clear hb1
    go_wp2_with fail
    go_loop [4, 12] (fun x i => ∃ k acc : Nat, k ≤ n ∧ i = .int .i64 k ∧ x = .int .u64 acc ∧ Hid (acc = val f k))
      (fun _ i => n - (intOf i).toNat)
    case atStart => exact ⟨0, 0, by omega, rfl, rfl, rfl⟩
    case round =>
      obtain ⟨k, acc, hk, rfl, rfl, hacc⟩ := hrel
      by_cases hlt : k < n
      · obtain ⟨b, off, rfl, hbl, hcc, hll⟩ := (HS.out.below HB1.out).limb hlt
        have hkk : k = 0 ∨ k = 1 := by omega
        rcases hkk with rfl | rfl
        · have h0 : acc = 0 := hacc.out
          subst h0
          have HV1 : Hid (f 0 = val f 1) := by show _ = _; simp [val]
          generalize f 0 = x at *
          rw [Nat.add_zero] at hcc
          go_wp2
          go_round
          case rel => exact ⟨1, x, by omega, rfl, vint (or0 x (by omega)), HV1.out⟩
          case measure => simp [intOf]; omega
        · have hac0 := hacc.out
          have hal : acc < 4294967296 := by rw [hac0]; have := val_lt f 1 (fun j hj => HS.out.2.2.1 j (by omega)); omega
          have hor : bits .or .u64 (acc : Int) ((f 1 : Int) * 4294967296) = ((acc + f 1 * 4294967296 : Nat) : Int) := by
            have := u64_or_nat acc (f 1 * 4294967296) (by omega) (by omega)
            rw [Nat.or_comm, nat_join 32 _ _ (by simp) (by omega), Nat.add_comm] at this
            rw [← this]; simp
          have HV1 : Hid (acc + f 1 * 4294967296 = val f 2) := by show _ = _; rw [hac0]; simp [val]
          generalize f 1 = x at *
          clear hac0
          go_wp2
          go_round
          case rel => exact ⟨2, acc + x * 4294967296, by omega, rfl, by simp, HV1.out⟩
          case measure => simp [intOf]; omega
      · obtain rfl : k = n := by omega
        have h0 : acc = N := by rw [hacc.out, HV.out]
        subst h0
        go_wp2
        go_ret2
        exact HE.out _ HB1.out

end Go.Proofs.YtkjdoknmmiaapaaDoor
