/-
  Package nat: Cmp, Add, Sub, Mul, by contract, over the numbers that they are.
-/
import Derived.Test.YtkjdoknmmiaapaaDoorNat13
import Derived.Test.YtkjdoknmmiaapaaDoorNat6
namespace Go.Proofs.YtkjdoknmmiaapaaDoor
open Go.RowKit

def cmpI (a b : Nat) : Int := if a < b then -1 else if a = b then 0 else 1

def ordI (t : Bool) : Int := if t then -1 else 1
theorem below_drewN {B : Nat} {w w' : World} (h : Below B w w') (q : Nat) : Below B w (w'.drewN q) := h.trans ⟨rfl, rfl, rfl, Nat.le_refl _, fun _ _ => rfl⟩

theorem order_any (t : Bool) (w : World) : Calls Tryd.prog 83 #[.bool t] w fun e w' => e = .returned (.int .i64 (ordI t)) ∧ w = w' := by
  cases t
  · go_enter Tryd.func83, Tryd.ntmps83
    go_wp2
    go_ret
    exact ⟨rfl, rfl⟩
  · go_enter Tryd.func83, Tryd.ntmps83
    go_wp2
    go_ret
    exact ⟨rfl, rfl⟩

set_option maxHeartbeats 800000 in
set_option maxRecDepth 100000 in
theorem cmp_any (v u : Value) (N M : Nat) (w : World) (h : NatIs w v N) (g : NatIs w u M) : Calls Tryd.prog 37 #[v, u] w fun e w' => e = .returned (.int .i64 (cmpI N M)) ∧ Below w.heap.size w w' := by
  obtain ⟨a, n, c, f, rfl, hs, hv, ht⟩ := h
  obtain ⟨a2, n2, c2, f2, rfl, hs2, hv2, ht2⟩ := g
  have hb : n ≤ 1000000 := by have := hs.1; have := hs.2.1; omega
  have hb2 : n2 ≤ 1000000 := by have := hs2.1; have := hs2.2.1; omega
  by_cases hn : n = n2
  · subst hn
    have HS := Lib.hid hs
    have HS2 := Lib.hid hs2
    have HV := Lib.hid hv
    have HV2 := Lib.hid hv2
    have hne : ((n : Int) != (n : Int)) = false := by simp
    clear hs hs2 hv hv2 ht ht2
    go_enter Tryd.func37, Tryd.ntmps37
    go_wp2
    go_loopw [24] (fun i wr => ∃ k : Nat, k ≤ n ∧ i = .int .i64 k ∧ Hid (Below w.heap.size w wr ∧ wr.cell? ⟨w.heap.size, 0, none⟩ = some (.slice a n c) ∧ wr.cell? ⟨w.heap.size + 1, 0, none⟩ = some (.slice a2 n c2) ∧ ∀ j, n - k ≤ j → j < n → f j = f2 j))
      (fun i _ => n - (intOf i).toNat)
    case atStart => exact ⟨0, by omega, rfl, ((Below.refl _ _).alloc (Nat.le_refl _) _).alloc (by simp) _, by simp, by simp, fun j h1 h2 => by omega⟩
    case round =>
      obtain ⟨k, hk, rfl, hr⟩ := hrel
      obtain ⟨hbl, hc1, hc2, heq⟩ := hr.out
      by_cases hlt : k < n
      · obtain ⟨t, ht⟩ : ∃ t, n - 1 - k = t := ⟨_, rfl⟩
        obtain ⟨b, off, rfl, _, hd1, hl1⟩ := (HS.out.below hbl).limb (show t < n by omega)
        obtain ⟨b2, off2, rfl, _, hd2, hl2⟩ := (HS2.out.below hbl).limb (show t < n by omega)
        have e1 : (n : Int) - 1 - (k : Int) = (t : Int) := by omega
        have w1 : IntKind.i64.wrap ((n : Int) - 1) = (n : Int) - 1 := IntWalk.i64_in _ (by omega)
        have w2 : IntKind.i64.wrap ((t : Int)) = (t : Int) := IntWalk.i64_in _ (by omega)
        have t2 : (t : Int) < (n : Int) := by omega
        have t0 : (0 : Int) ≤ (t : Int) := by omega
        by_cases hft : f t = f2 t
        · have HB := Lib.hid hbl
          have HEQ : Hid (∀ j, n - (k + 1) ≤ j → j < n → f j = f2 j) := fun j h1 h2 => by
            by_cases e : j = t
            · subst e; exact hft
            · exact heq j (by omega) h2
          rw [← hft] at hd2
          have HR := hr
          clear hbl heq hft hl2 hr
          generalize f t = x at *
          have hxx : ((x : Int) != (x : Int)) = false := by simp
          have HC1 := Lib.hid hc1
          have HC2 := Lib.hid hc2
          go_wp2
          go_quiet (fail)
          go_wp2
          go_roundw
          case rel => exact ⟨k + 1, by omega, by go_num, below_drewN HR.out.1 _, HC1.out, HC2.out, HEQ.out⟩
          case measure => simp [intOf]; omega
        · have HRES : Hid (cmpI N M = ordI (decide (f t < f2 t))) := by
            rw [← HV.out, ← HV2.out]
            show cmpI _ _ = _
            unfold cmpI ordI
            rcases Nat.lt_or_ge (f t) (f2 t) with h1 | h1
            · have := val_lt_of (f := f) (g := f2) (t := t) (n := n) (by omega) HS.out.2.2.1 (fun j h3 h4 => heq j (by omega) h4) h1
              rw [if_pos this]; simp [h1]
            · have h1' : f2 t < f t := by omega
              have := val_lt_of (f := f2) (g := f) (t := t) (n := n) (by omega) HS2.out.2.2.1 (fun j h3 h4 => (heq j (by omega) h4).symm) h1'
              rw [if_neg (by omega), if_neg (by omega)]; simp [Nat.not_lt.2 h1]
          have HB := Lib.hid hbl
          clear hbl heq hr
          generalize f t = x at *
          generalize f2 t = y at *
          have hxx : ((x : Int) != (y : Int)) = true := by simp; omega
          go_wp2
          go_quiet (fail)
          go_wp2_with (go_at_call 83; refine (order_any _ _).mono ?_; rintro e w1 ⟨rfl, rfl⟩)
          go_ret
          exact ⟨ret_int HRES.out.symm, below_drewN HB.out _⟩
      · obtain rfl : k = n := by omega
        have HB := Lib.hid hbl
        have HRES : Hid (cmpI N M = 0) := by
          rw [← HV.out, ← HV2.out]
          show cmpI _ _ = _
          unfold cmpI
          rw [val_congr k (f := f) (g := f2) (fun j hj => heq j (by omega) hj), if_neg (by omega), if_pos rfl]
        clear hbl heq hc1 hc2 hr
        go_wp2
        go_ret
        exact ⟨ret_int HRES.out.symm, HB.out⟩
  · have HRES : Hid (cmpI N M = ordI (decide (n < n2))) := by
      rw [← hv, ← hv2]
      show cmpI _ _ = _
      unfold cmpI ordI
      rcases Nat.lt_or_ge n n2 with h1 | h1
      · rw [if_pos (nat_len_lt hs.2.2.1 ht2 h1)]; simp [h1]
      · have := nat_len_lt hs2.2.2.1 ht (show n2 < n by omega)
        rw [if_neg (by omega), if_neg (by omega)]; simp [Nat.not_lt.2 h1]
    have hne : ((n : Int) != (n2 : Int)) = true := by simp; omega
    clear hs hs2 hv hv2 ht ht2
    go_enter Tryd.func37, Tryd.ntmps37
    go_wp2_with (go_at_call 83; refine (order_any _ _).mono ?_; rintro e w1 ⟨rfl, rfl⟩)
    go_ret
    exact ⟨ret_int HRES.out.symm, ((Below.refl _ _).alloc (Nat.le_refl _) _).alloc (by simp) _⟩

end Go.Proofs.YtkjdoknmmiaapaaDoor
