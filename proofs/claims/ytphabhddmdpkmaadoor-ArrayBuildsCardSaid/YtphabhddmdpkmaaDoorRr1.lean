/-
  The document's answers (package typeballref01): Gcd, by contract.
  The document's answers (package typeballref03): Zero, Whole, From, Top, Bot, New, by contract.
  The document's answers (package typeballref03): Bot, From, Minus, New, by contract.
  The document's answers (package typeballref03): From, Minus, Limited, Limbs, Int, by contract.
  The document's answers (package typeballref03): Div, Cmp, by contract.
-/
import Derived.Test.YtphabhddmdpkmaaDoorK5
import Derived.Test.YtphabhddmdpkmaaDoorRa4
import Derived.Test.YtphabhddmdpkmaaDoorRa9
import Derived.Test.YtphabhddmdpkmaaDoorK9
import Derived.Test.YtphabhddmdpkmaaDoorK10
namespace Go.Proofs.YtphabhddmdpkmaaDoor
open Go.RowKit

/-- How many divisions Euclid's rounds take. -/
def eus (A B : Nat) : Nat := if h : B = 0 then 0 else eus B (A % B) + 1
termination_by B
decreasing_by exact Nat.mod_lt _ (Nat.pos_of_ne_zero h)

theorem eus_zero (A : Nat) : eus A 0 = 0 := by unfold eus; rw [dif_pos rfl]
theorem eus_step (A : Nat) {B : Nat} (h : B ≠ 0) : eus A B = eus B (A % B) + 1 := by rw [eus, dif_neg h]

theorem eus_le : ∀ k A B, B < 2 ^ k → eus A B ≤ 2 * k + 1 := by
  intro k
  induction k with
  | zero =>
    intro A B h
    obtain rfl : B = 0 := by simpa using h
    rw [eus_zero]; omega
  | succ k ih =>
    intro A B h
    by_cases h0 : B = 0
    · subst h0; rw [eus_zero]; omega
    · rw [eus_step A h0]
      have h1 := Nat.mod_lt A (Nat.pos_of_ne_zero h0)
      obtain ⟨C, hC⟩ : ∃ C, A % B = C := ⟨_, rfl⟩
      rw [hC] at h1 ⊢
      by_cases hc0 : C = 0
      · subst hc0; rw [eus_zero]; omega
      · rw [eus_step B hc0]
        have h2 := Nat.mod_lt B (Nat.pos_of_ne_zero hc0)
        have h3 := Nat.div_add_mod B C
        have h4 : 1 ≤ B / C := Nat.div_pos (by omega) (Nat.pos_of_ne_zero hc0)
        have h5 : C * 1 ≤ C * (B / C) := Nat.mul_le_mul_left _ h4
        have h6 : B % C < 2 ^ k := by rw [Nat.pow_succ] at h; omega
        have := ih C (B % C) h6
        omega

theorem gcd_step (A B : Nat) : Nat.gcd B (A % B) = Nat.gcd A B := by
  rw [Nat.gcd_comm A B, Nat.gcd_rec B A, Nat.gcd_comm]

theorem dec_isnt0 (N : Nat) : ((str (dec N)).toList == [48]) = decide (N = 0) := by
  have e : (str (dec N)).toList = dec N := by rw [ByteArray.toList_eq]; rfl
  rw [e, Bool.eq_iff_iff, beq_iff_eq, decide_eq_true_eq]
  constructor
  · intro h
    have := congrArg numOf h
    unfold dec at this
    rw [numOf_sdig, Nat.mod_eq_of_lt (dl_lt N)] at this
    simpa [numOf] using this
  · intro h; rw [h, dec_zero]

theorem dl_mod {A B : Nat} (h : 0 < B) : dl (A % B) ≤ dl B := dl_le _ _ (dl_pos B) (Nat.lt_trans (Nat.mod_lt _ h) (dl_lt B))

end Go.Proofs.YtphabhddmdpkmaaDoor

namespace Go.Proofs.YtphabhddmdpkmaaDoor
open Go.RowKit
attribute [local go_sem ↓] Go.wp_at_zero Go.wp_at_succ

def NumTold3 (w w' : World) (e : Ending) (P : Int) (Q : Nat) (ok : Bool) : Prop := e = .returned (.tuple #[.agg #[.bool (rB P), .string (rS P), .string (str (dec Q))], .bool ok]) ∧ Below w.heap.size w w'

theorem dec0 : str (dec 0) = ⟨#[48]⟩ := by rw [dec_small (by omega)]; rfl
theorem dec1 : str (dec 1) = ⟨#[49]⟩ := by rw [dec_small (by omega)]; rfl

end Go.Proofs.YtphabhddmdpkmaaDoor

namespace Go.Proofs.YtphabhddmdpkmaaDoor
open Go.RowKit
attribute [local go_sem ↓] Go.wp_at_zero Go.wp_at_succ

theorem rB_nat (Q : Nat) : rB (Q : Int) = false := by unfold rB; exact decide_eq_false (by omega)
theorem rS_nat (Q : Nat) : rS (Q : Int) = str (dec Q) := by unfold rS; rw [Int.natAbs_natCast]

theorem nw_abs (Z Y : Int) : (nwP Z Y).natAbs = Z.natAbs / Nat.gcd Z.natAbs Y.natAbs ∧ nwQ Z Y = Y.natAbs / Nat.gcd Z.natAbs Y.natAbs := by
  unfold nwP nwQ loQ rg
  rw [loP_abs]
  unfold rg
  rw [upZ_abs]
  exact ⟨rfl, rfl⟩
theorem nw_sgn (Z : Int) {Y : Int} : rB (nwP Z Y) = ((rB Z != rB Y) && !decide (Z = 0)) := by
  unfold nwP rB
  rw [loP_neg, upZ_sgn]

end Go.Proofs.YtphabhddmdpkmaaDoor

namespace Go.Proofs.YtphabhddmdpkmaaDoor
open Go.RowKit
attribute [local go_sem ↓] Go.wp_at_zero Go.wp_at_succ

theorem dec_is1 (N : Nat) : ((str (dec N)).toList == [49]) = decide (N = 1) := dec_eq_digit N 1 (by omega)
theorem dec_is0' (N : Nat) : ((str (dec N)).toList == [48]) = decide (N = 0) := dec_eq_digit N 0 (by omega)

set_option maxHeartbeats 1600000 in
set_option maxRecDepth 100000 in
theorem r3From_any (X : Int) (w : World) (h : -9223372036854775808 ≤ X ∧ X ≤ 9223372036854775807) : Calls Tryd.prog 30 #[.int .i64 X] w fun e w' => NumTold w w' e X 1 := by
  have FR := Lib.hid (fun wz => rFrom_any X wz h)
  unfold RTold at FR
  have BB := Lib.hid ((Bag.start w).box3 (.bool false) (.string ⟨#[]⟩) (.string ⟨#[]⟩) 68)
  have HF := Lib.hid (fun w2 b x y (hb : Below w.heap.size w w2) (h1 : rB X = b) (h2 : rS X = x) (h3 : str (dec 1) = y) => NumTold.done (k := w.heap.size) X 1 hb (Nat.le_refl _) h1 h2 h3)
  obtain ⟨b, hb⟩ : ∃ b, rB X = b := ⟨_, rfl⟩
  obtain ⟨s, hs⟩ : ∃ s, rS X = s := ⟨_, rfl⟩
  have HB := Lib.hid hb
  have HS2 := Lib.hid hs
  rw [hb, hs] at FR
  clear hb hs h
  go_enter Tryd.func30, Tryd.ntmps30
  go_wp2_with fail
  go_at_call 46
  (with_reducible refine (FR.out _).mono ?_)
  rintro e w2 ⟨rfl, hb2⟩
  have BB := Lib.hid ((BB.out.go hb2).box2 (.bool b) (.string s) 84)
  have q0 := BB.out.now.1.cell
  have q1 := BB.out.now.1.cell1
  have hs := BB.out.now.2.1
  have u0 := hs.cell
  have u1 := hs.cell1
  have u2 := hs.cell2
  have g0 := hs.free
  have g1 := hs.free1
  have g2 := hs.free2
  have HS := hs.set (.bool b) (.string s) (.string ⟨#[49]⟩)
  have HE := Lib.hid (HF.out _ b s ⟨#[49]⟩ BB.out.below HB.out HS2.out dec1)
  clear hs hb2
  go_wp2
  exact bodyPost_ret (v := .agg #[.bool b, .string s, .string ⟨#[49]⟩]) (by simp [results, Tryd.results30, go_sem, HS]) rfl HE.out

end Go.Proofs.YtphabhddmdpkmaaDoor

namespace Go.Proofs.YtphabhddmdpkmaaDoor
open Go.RowKit
attribute [local go_sem ↓] Go.wp_at_zero Go.wp_at_succ

theorem dl_mul4 {x y : Nat} (h : dl x ≤ 400) (g : dl y ≤ 400) : dl (x * y) ≤ 800 := by
  obtain ⟨K, hK⟩ : ∃ K, K = 400 := ⟨_, rfl⟩
  refine Nat.le_trans (dl_le _ (K + K) (by omega) ?_) (by omega)
  rw [Nat.pow_add]
  exact Nat.mul_lt_mul'' (Nat.lt_of_lt_of_le (dl_lt x) (Nat.pow_le_pow_right (by omega) (by omega))) (Nat.lt_of_lt_of_le (dl_lt y) (Nat.pow_le_pow_right (by omega) (by omega)))
theorem dl_mulZ {Z : Int} {y : Nat} (h : dl Z.natAbs ≤ 400) (g : dl y ≤ 400) : dl (Z * (y : Int)).natAbs ≤ 800 := by rw [Int.natAbs_mul, Int.natAbs_natCast]; exact dl_mul4 h g
theorem dl_mulY {Z : Int} {y : Nat} (h : dl Z.natAbs ≤ 400) (g : dl y ≤ 400) : dl ((y : Int) * Z).natAbs ≤ 800 := by rw [Int.mul_comm]; exact dl_mulZ h g

/-- The quotient. -/
def dvP (P : Int) (Q : Nat) (P' : Int) (Q' : Nat) : Int := if P' = 0 then 0 else nwP (P * Q') (P' * Q)
def dvQ (P : Int) (Q : Nat) (P' : Int) (Q' : Nat) : Nat := if P' = 0 then 1 else nwQ (P * Q') (P' * Q)
end Go.Proofs.YtphabhddmdpkmaaDoor

