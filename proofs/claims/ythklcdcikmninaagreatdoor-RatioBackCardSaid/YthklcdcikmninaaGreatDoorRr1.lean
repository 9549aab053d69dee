/-
  The document's answers (package typeballref01): Gcd, by contract.
  The document's answers (package typeballref03): Zero, Whole, From, Top, Bot, New, by contract.
  The document's answers (package typeballref03): Bot, From, Minus, New, by contract.
  The document's answers (package typeballref03): From, Minus, Limited, Limbs, Int, by contract.
  The document's answers (package typeballref03): Div, Cmp, by contract.
-/
import Derived.Test.YthklcdcikmninaaGreatDoorK5
import Derived.Test.YthklcdcikmninaaGreatDoorRa4
import Derived.Test.YthklcdcikmninaaGreatDoorRa9
import Derived.Test.YthklcdcikmninaaGreatDoorK9
import Derived.Test.YthklcdcikmninaaGreatDoorK10
namespace Go.Proofs.YthklcdcikmninaaGreatDoor
open Go.RowKit

/-- How many divisions Euclid's rounds take. -/
def eus (A B : Nat) : Nat := if h : B = 0 then 0 else eus B (A % B) + 1
termination_by B
decreasing_by exact Nat.mod_lt _ (Nat.pos_of_ne_zero h)

theorem eus_zero (A : Nat) : eus A 0 = 0 := by unfold eus; rw [dif_pos rfl]
theorem eus_step (A : Nat) {B : Nat} (h : B ≠ 0) : eus A B = eus B (A % B) + 1 := by rw [eus, dif_neg h]

theorem eus_le : ∀ k A B, B < 2 ^ k → eus A B ≤ 2 * k + 1 := by
  intro k
  induction k with
  | zero =>
    intro A B h
    obtain rfl : B = 0 := by simpa using h
    rw [eus_zero]; omega
  | succ k ih =>
    intro A B h
    by_cases h0 : B = 0
    · subst h0; rw [eus_zero]; omega
    · rw [eus_step A h0]
      have h1 := Nat.mod_lt A (Nat.pos_of_ne_zero h0)
      obtain ⟨C, hC⟩ : ∃ C, A % B = C := ⟨_, rfl⟩
      rw [hC] at h1 ⊢
      by_cases hc0 : C = 0
      · subst hc0; rw [eus_zero]; omega
      · rw [eus_step B hc0]
        have h2 := Nat.mod_lt B (Nat.pos_of_ne_zero hc0)
        have h3 := Nat.div_add_mod B C
        have h4 : 1 ≤ B / C := Nat.div_pos (by omega) (Nat.pos_of_ne_zero hc0)
        have h5 : C * 1 ≤ C * (B / C) := Nat.mul_le_mul_left _ h4
        have h6 : B % C < 2 ^ k := by rw [Nat.pow_succ] at h; omega
        have := ih C (B % C) h6
        omega

theorem gcd_step (A B : Nat) : Nat.gcd B (A % B) = Nat.gcd A B := by
  rw [Nat.gcd_comm A B, Nat.gcd_rec B A, Nat.gcd_comm]

theorem dec_isnt0 (N : Nat) : ((str (dec N)).toList == [48]) = decide (N = 0) := by
  have e : (str (dec N)).toList = dec N := by rw [ByteArray.toList_eq]; rfl
  rw [e, Bool.eq_iff_iff, beq_iff_eq, decide_eq_true_eq]
  constructor
  · intro h
    have := congrArg numOf h
    unfold dec at this
    rw [numOf_sdig, Nat.mod_eq_of_lt (dl_lt N)] at this
    simpa [numOf] using this
  · intro h; rw [h, dec_zero]

theorem dl_mod {A B : Nat} (h : 0 < B) : dl (A % B) ≤ dl B := dl_le _ _ (dl_pos B) (Nat.lt_trans (Nat.mod_lt _ h) (dl_lt B))

set_option maxHeartbeats 1600000 in
set_option maxRecDepth 100000 in
theorem rgcd_any (x y : Nat) (w : World) (hx : dl x ≤ 900) (hy : dl y ≤ 900) (k0 : Nat) (hk0 : k0 ≤ 4000) (hy2 : y < 2 ^ k0) :
    Calls Tryz.prog 33 #[.string (str (dec x)), .string (str (dec y))] w fun e w' => e = .returned (.string (str (dec (Nat.gcd x y)))) ∧ Below w.heap.size w w' := by
  have hst : 0 + eus x y ≤ 10000 := by have := eus_le k0 x y hy2; omega
  obtain ⟨a0, ha0⟩ : ∃ a0, str (dec x) = a0 := ⟨_, rfl⟩
  obtain ⟨b0, hb0⟩ : ∃ b0, str (dec y) = b0 := ⟨_, rfl⟩
  rw [ha0, hb0]
  have H0 : Hid (a0 = str (dec x) ∧ b0 = str (dec y) ∧ dl x ≤ 900 ∧ dl y ≤ 900 ∧ 0 + eus x y ≤ 10000) := ⟨ha0.symm, hb0.symm, hx, hy, hst⟩
  clear hst ha0 hb0 hx hy hy2 hk0
  go_enter Tryz.func33, Tryz.ntmps33
  go_wp2
  go_loopw [0, 1, 5] (fun a b i wr => ∃ (k A B : Nat) (s t : ByteArray), a = .string s ∧ b = .string t ∧ i = .int .i64 k ∧ k ≤ 10000 ∧ Hid (s = str (dec A) ∧ t = str (dec B) ∧ dl A ≤ 900 ∧ dl B ≤ 900 ∧ k + eus A B ≤ 10000 ∧ Nat.gcd A B = Nat.gcd x y) ∧ Below w.heap.size w wr)
    (fun _ _ i _ => 20000 - (intOf i).toNat)
  case atStart => exact ⟨0, x, y, _, _, rfl, rfl, rfl, by omega, ⟨H0.out.1, H0.out.2.1, H0.out.2.2.1, H0.out.2.2.2.1, H0.out.2.2.2.2, rfl⟩, Below.refl _ _⟩
  case round =>
    obtain ⟨k, A, B, s, t, rfl, rfl, rfl, hk, hr, hbl⟩ := hrel
    have hz := dec_isnt0 B
    rw [← hr.out.2.1] at hz
    have d1 : decide ((k : Int) < 20000) = true := decide_eq_true (by omega)
    by_cases h0 : B = 0
    · rw [decide_eq_true h0] at hz
      have HE : Hid (s = str (dec (Nat.gcd x y))) := by
        show _ = _
        rw [hr.out.1, ← hr.out.2.2.2.2.2, h0, Nat.gcd_zero_right]
      have HBL := Lib.hid hbl
      clear hr hbl h0
      go_wp2
      go_ret
      exact ⟨ret_str HE.out, HBL.out⟩
    · rw [decide_eq_false h0] at hz
      have hB0 : 0 < B := Nat.pos_of_ne_zero h0
      have DM := fun wz => rdivMod_any A B wz hr.out.2.2.1 hr.out.2.2.2.1 hB0
      rw [← hr.out.1, ← hr.out.2.1] at DM
      obtain ⟨u, hu⟩ : ∃ u, str (dec (A / B)) = u := ⟨_, rfl⟩
      obtain ⟨v, hv⟩ : ∃ v, str (dec (A % B)) = v := ⟨_, rfl⟩
      rw [hu, hv] at DM
      have hes := eus_step A h0
      have hkk : k + 1 ≤ 10000 := by have := hr.out.2.2.2.2.1; omega
      have HN : Hid (t = str (dec B) ∧ v = str (dec (A % B)) ∧ dl B ≤ 900 ∧ dl (A % B) ≤ 900 ∧ (k + 1) + eus B (A % B) ≤ 10000 ∧ Nat.gcd B (A % B) = Nat.gcd x y) :=
        ⟨hr.out.2.1, hv.symm, hr.out.2.2.2.1, Nat.le_trans (dl_mod hB0) hr.out.2.2.2.1, by have := hr.out.2.2.2.2.1; omega, by rw [gcd_step]; exact hr.out.2.2.2.2.2⟩
      have HD := Lib.hid DM
      have HBL := Lib.hid hbl
      clear DM hu hv hes hr hbl h0 hB0
      go_wp2_with fail
      go_at_call 55
      (with_reducible refine (HD.out _).mono ?_)
      rintro e w2 ⟨rfl, hb2⟩
      have HB2 := Lib.hid (HBL.out.trans (hb2.mono HBL.out.size))
      clear hb2
      go_wp2
      go_roundw
      case rel => exact ⟨k + 1, B, A % B, _, _, rfl, rfl, by go_num, hkk, HN.out, HB2.out⟩
      case measure => simp [intOf]; omega

end Go.Proofs.YthklcdcikmninaaGreatDoor

namespace Go.Proofs.YthklcdcikmninaaGreatDoor
open Go.RowKit
attribute [local go_sem ↓] Go.wp_at_zero Go.wp_at_succ

def NumTold3 (w w' : World) (e : Ending) (P : Int) (Q : Nat) (ok : Bool) : Prop := e = .returned (.tuple #[.agg #[.bool (rB P), .string (rS P), .string (str (dec Q))], .bool ok]) ∧ Below w.heap.size w w'

theorem dec0 : str (dec 0) = ⟨#[48]⟩ := by rw [dec_small (by omega)]; rfl
theorem dec1 : str (dec 1) = ⟨#[49]⟩ := by rw [dec_small (by omega)]; rfl

end Go.Proofs.YthklcdcikmninaaGreatDoor

namespace Go.Proofs.YthklcdcikmninaaGreatDoor
open Go.RowKit
attribute [local go_sem ↓] Go.wp_at_zero Go.wp_at_succ

theorem rB_nat (Q : Nat) : rB (Q : Int) = false := by unfold rB; exact decide_eq_false (by omega)
theorem rS_nat (Q : Nat) : rS (Q : Int) = str (dec Q) := by unfold rS; rw [Int.natAbs_natCast]

theorem nw_abs (Z Y : Int) : (nwP Z Y).natAbs = Z.natAbs / Nat.gcd Z.natAbs Y.natAbs ∧ nwQ Z Y = Y.natAbs / Nat.gcd Z.natAbs Y.natAbs := by
  unfold nwP nwQ loQ rg
  rw [loP_abs]
  unfold rg
  rw [upZ_abs]
  exact ⟨rfl, rfl⟩
theorem nw_sgn (Z : Int) {Y : Int} : rB (nwP Z Y) = ((rB Z != rB Y) && !decide (Z = 0)) := by
  unfold nwP rB
  rw [loP_neg, upZ_sgn]

end Go.Proofs.YthklcdcikmninaaGreatDoor

namespace Go.Proofs.YthklcdcikmninaaGreatDoor
open Go.RowKit
attribute [local go_sem ↓] Go.wp_at_zero Go.wp_at_succ

theorem dec_is1 (N : Nat) : ((str (dec N)).toList == [49]) = decide (N = 1) := dec_eq_digit N 1 (by omega)
theorem dec_is0' (N : Nat) : ((str (dec N)).toList == [48]) = decide (N = 0) := dec_eq_digit N 0 (by omega)

end Go.Proofs.YthklcdcikmninaaGreatDoor

namespace Go.Proofs.YthklcdcikmninaaGreatDoor
open Go.RowKit
attribute [local go_sem ↓] Go.wp_at_zero Go.wp_at_succ

theorem dl_mul4 {x y : Nat} (h : dl x ≤ 400) (g : dl y ≤ 400) : dl (x * y) ≤ 800 := by
  obtain ⟨K, hK⟩ : ∃ K, K = 400 := ⟨_, rfl⟩
  refine Nat.le_trans (dl_le _ (K + K) (by omega) ?_) (by omega)
  rw [Nat.pow_add]
  exact Nat.mul_lt_mul'' (Nat.lt_of_lt_of_le (dl_lt x) (Nat.pow_le_pow_right (by omega) (by omega))) (Nat.lt_of_lt_of_le (dl_lt y) (Nat.pow_le_pow_right (by omega) (by omega)))
theorem dl_mulZ {Z : Int} {y : Nat} (h : dl Z.natAbs ≤ 400) (g : dl y ≤ 400) : dl (Z * (y : Int)).natAbs ≤ 800 := by rw [Int.natAbs_mul, Int.natAbs_natCast]; exact dl_mul4 h g
theorem dl_mulY {Z : Int} {y : Nat} (h : dl Z.natAbs ≤ 400) (g : dl y ≤ 400) : dl ((y : Int) * Z).natAbs ≤ 800 := by rw [Int.mul_comm]; exact dl_mulZ h g

/-- The quotient. -/
def dvP (P : Int) (Q : Nat) (P' : Int) (Q' : Nat) : Int := if P' = 0 then 0 else nwP (P * Q') (P' * Q)
def dvQ (P : Int) (Q : Nat) (P' : Int) (Q' : Nat) : Nat := if P' = 0 then 1 else nwQ (P * Q') (P' * Q)
end Go.Proofs.YthklcdcikmninaaGreatDoor

