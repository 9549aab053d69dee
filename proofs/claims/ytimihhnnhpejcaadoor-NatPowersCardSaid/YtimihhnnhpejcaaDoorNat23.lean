/-
  Package nat: surelyLonger, by contract.
-/
import Derived.Test.YtimihhnnhpejcaaDoorNat22
import Derived.Test.YtimihhnnhpejcaaDoorShelf
namespace Go.Proofs.YtimihhnnhpejcaaDoor
open Go.RowKit

set_option maxRecDepth 100000 in
theorem slong_any (v : Value) (X n B : Nat) (most : Int) (w : World) (h : NatIs w v X) (hB : nbits X = B + 1) (hBl : B ≤ 1000) (hn : n ≤ 9223372036854775807) (hm : most ≤ 12) (hm0 : -9223372036854775808 ≤ most) :
    Calls Tryd.prog 62 #[v, .int .i64 n, .int .i64 most] w fun e w' => e = .returned (.bool (decide (most < 1 ∨ 32 * most ≤ ((n * B : Nat) : Int)))) ∧ Below w.heap.size w w' := by
  obtain ⟨P, hP⟩ : ∃ P, n * B = P := ⟨_, rfl⟩
  have hM := Lib.hid (fun wz => Tryd.bits_Mul64 n B (by omega) (by omega) wz)
  rw [hP] at hM ⊢
  obtain ⟨H, hH⟩ : ∃ H, P / 18446744073709551616 = H := ⟨_, rfl⟩
  obtain ⟨L, hL⟩ : ∃ L, P % 18446744073709551616 = L := ⟨_, rfl⟩
  obtain ⟨q, hq⟩ : ∃ q, L / 32 = q := ⟨_, rfl⟩
  rw [hH, hL] at hM
  have hLl : L < 18446744073709551616 := by omega
  have hHl : H < 18446744073709551616 := by
    have : n * B ≤ 9223372036854775807 * 1000 := Nat.mul_le_mul hn hBl
    omega
  have hbb0 := fun w1 (hb : Below w.heap.size w w1) => bits_any v X w1 (h.below hb)
  obtain ⟨a, k, c, f, rfl, hs, hv, ht⟩ := h
  have hbb := hbb0 (w.alloc (.cells #[.slice a k c] 25)) ((Below.refl _ _).alloc (Nat.le_refl _) _)
  clear hbb0
  obtain ⟨B1, hB1⟩ : ∃ B1, nbits X = B1 := ⟨_, rfl⟩
  rw [hB1] at hbb
  have e0 : (B1 : Int) - 1 = (B : Int) := by omega
  have e1 : (n : Int) % 18446744073709551616 = (n : Int) := by omega
  have e2 : (B : Int) % 18446744073709551616 = (B : Int) := by omega
  have e3 : (L : Int) / 32 = (q : Int) := by omega
  have hB1l : B1 ≤ 1001 := by omega
  have hsum : P = H * 18446744073709551616 + L := by omega
  have HBB := Lib.hid hbb
  have hql : q < 18446744073709551616 := by omega
  have hfin : H = 0 → (32 * most ≤ (P : Int) ↔ most ≤ (q : Int)) := by omega
  have hover : 0 < H → 32 * most ≤ (P : Int) := by omega
  have HFIN := Lib.hid hfin
  have HOV := Lib.hid hover
  clear hs hv ht hP hH hL hq hbb hsum hB1 hB hfin hover
  by_cases c0 : most < 1
  · have d0 : decide (most < 1) = true := decide_eq_true c0
    have hE : decide (most < 1 ∨ 32 * most ≤ (P : Int)) = true := decide_eq_true (.inl c0)
    rw [hE]
    clear hE
    go_enter Tryd.func62, Tryd.ntmps62
    go_wp2_with fail
    go_at_call 20
    refine HBB.out.mono ?_
    rintro e w1 ⟨rfl, hb1⟩
    go_wp2_with fail
    go_at_call 74
    refine (hM.out w1).mono ?_
    rintro e w2 ⟨rfl, hw⟩
    subst hw
    go_wp2
    go_ret
    exact ⟨rfl, below_alloc hb1⟩
  · have d0 : decide (most < 1) = false := decide_eq_false c0
    obtain ⟨m, hm1⟩ : ∃ m : Nat, most = (m : Int) := ⟨most.toNat, by omega⟩
    subst hm1
    have e4 : (m : Int) % 18446744073709551616 = (m : Int) := by omega
    by_cases c1 : 0 < H
    · have d1 : decide ((0 : Int) < (H : Int)) = true := decide_eq_true (by omega)
      have hE : decide ((m : Int) < 1 ∨ 32 * (m : Int) ≤ (P : Int)) = true := decide_eq_true (.inr (HOV.out c1))
      rw [hE]
      clear hE
      go_enter Tryd.func62, Tryd.ntmps62
      go_wp2_with fail
      go_at_call 20
      refine HBB.out.mono ?_
      rintro e w1 ⟨rfl, hb1⟩
      go_wp2_with fail
      go_at_call 74
      refine (hM.out w1).mono ?_
      rintro e w2 ⟨rfl, hw⟩
      subst hw
      go_wp2
      go_ret
      exact ⟨rfl, below_alloc hb1⟩
    · obtain rfl : H = 0 := by omega
      have d1 : decide ((0 : Int) < ((0 : Nat) : Int)) = false := rfl
      have hE : decide ((m : Int) < 1 ∨ 32 * (m : Int) ≤ (P : Int)) = decide ((m : Int) ≤ (q : Int)) := by
        have := HFIN.out rfl
        rw [Bool.eq_iff_iff, decide_eq_true_eq, decide_eq_true_eq]; omega
      rw [hE]
      clear hE
      go_enter Tryd.func62, Tryd.ntmps62
      go_wp2_with fail
      go_at_call 20
      refine HBB.out.mono ?_
      rintro e w1 ⟨rfl, hb1⟩
      go_wp2_with fail
      go_at_call 74
      refine (hM.out w1).mono ?_
      rintro e w2 ⟨rfl, hw⟩
      subst hw
      go_wp2
      go_ret
      exact ⟨by simp, below_alloc hb1⟩

end Go.Proofs.YtimihhnnhpejcaaDoor
