/-
  Package ratio: Limited, Limbs, Int, Cmp, by contract.
  Package ratio: By, plusOne, by contract.
  Package ratio: Num, by contract.
  Package ratio: shifted (of 0), read (of no more than 2000 digits), by contract.
-/
import Derived.Test.YtphabhddmdpkmaaRa1
import Derived.Test.YtphabhddmdpkmaaK10
namespace Go.Proofs.Ytphabhddmdpkmaa
open Go.RowKit
attribute [local go_sem ↓] Go.wp_at_zero Go.wp_at_succ

set_option maxHeartbeats 1600000 in
set_option maxRecDepth 100000 in
theorem ratInt_any (a : Option Addr) (n c : Nat) (m : Bool) (a2 : Option Addr) (n2 c2 : Nat) (P : Int) (Q : Nat) (w : World) (h : RatAt w a n c m a2 n2 c2 P Q) (hQ : 0 < Q) :
    Calls Try.prog 17 #[.agg #[.slice a n c, .bool m, .slice a2 n2 c2]] w fun e w' => e = .returned (.tuple #[.int .i64 (if Q = 1 then fitI P else 0), .bool (decide (Q = 1) && fitB P)]) ∧ Below w.heap.size w w' := by
  have B0 := ((Bag.start w).rat h).box3 (.slice a n c) (.bool m) (.slice a2 n2 c2) 45
  have IW := Lib.hid (fun wz hz => isWhole_any a n c m a2 n2 c2 P Q wz hz hQ)
  have IN := Lib.hid (fun wz (h : IntAt wz a n c m P) => int_any a n c m P wz h)
  have BB := Lib.hid B0
  by_cases h1 : Q = 1
  · rw [decide_eq_true h1] at IW ⊢
    rw [if_pos h1, Bool.true_and]
    generalize fitI P = x at *
    generalize fitB P = y at *
    clear h hQ B0 h1
    go_enter Try.func17, Try.ntmps17
    go_wp2_with (first
      | (go_at_call 28; (with_reducible refine (IW.out _ BB.out.now.2.1).mono ?_); rintro e w2 ⟨rfl, hb2⟩; have BB := Lib.hid (BB.out.go hb2); clear hb2; have q0 := BB.out.now.1.cell; have q1 := BB.out.now.1.cell1)
      | (go_at_call 29; (with_reducible refine (IN.out _ BB.out.now.2.1.int).mono ?_); rintro e w3 ⟨rfl, hb3⟩; have BB := Lib.hid (BB.out.go hb3); clear hb3))
    go_ret2
    exact ⟨rfl, BB.out.below⟩
  · rw [decide_eq_false h1] at IW ⊢
    rw [if_neg h1, Bool.false_and]
    clear h hQ B0 h1 IN
    go_enter Try.func17, Try.ntmps17
    go_wp2_with (first
      | (go_at_call 28; (with_reducible refine (IW.out _ BB.out.now.2.1).mono ?_); rintro e w2 ⟨rfl, hb2⟩; have BB := Lib.hid (BB.out.go hb2); clear hb2))
    go_ret2
    exact ⟨rfl, BB.out.below⟩

def lbs (N : Nat) : Nat := (nbits N + 31) / 32
end Go.Proofs.Ytphabhddmdpkmaa

namespace Go.Proofs.Ytphabhddmdpkmaa
open Go.RowKit
attribute [local go_sem ↓] Go.wp_at_zero Go.wp_at_succ

theorem mul_lt32 {X Y K : Nat} (h : X < 4294967296 ^ K) (g : Y < 4294967296 ^ K) : X * Y < 4294967296 ^ (K + K) := by rw [Nat.pow_add]; exact Nat.mul_lt_mul'' h g
theorem mulZ_lt32 {X : Int} {Y K : Nat} (h : X.natAbs < 4294967296 ^ K) (g : Y < 4294967296 ^ K) : (X * Y).natAbs < 4294967296 ^ (K + K) := by
  rw [Int.natAbs_mul, Int.natAbs_natCast]; exact mul_lt32 h g

end Go.Proofs.Ytphabhddmdpkmaa

namespace Go.Proofs.Ytphabhddmdpkmaa
open Go.RowKit
attribute [local go_sem ↓] Go.wp_at_zero Go.wp_at_succ

/-- A number as digits. -/
def NumTold (w w' : World) (e : Ending) (P : Int) (Q : Nat) : Prop := e = .returned (.agg #[.bool (rB P), .string (rS P), .string (str (dec Q))]) ∧ Below w.heap.size w w'
theorem NumTold.done {w w2 : World} {k : Nat} (P : Int) (Q : Nat) (hb : Below w.heap.size w w2) (hk : w.heap.size ≤ k) {b : Bool} {s t : ByteArray} (h1 : rB P = b) (h2 : rS P = s) (h3 : str (dec Q) = t) :
    NumTold w (((w2.setCell ⟨k, 0, none⟩ (.bool b)).setCell ⟨k, 1, none⟩ (.string s)).setCell ⟨k, 2, none⟩ (.string t)) (.returned (.agg #[.bool b, .string s, .string t])) P Q :=
  ⟨by rw [h1, h2, h3], ((hb.setCell hk _).setCell hk _).setCell hk _⟩

end Go.Proofs.Ytphabhddmdpkmaa

namespace Go.Proofs.Ytphabhddmdpkmaa
open Go.RowKit
attribute [local go_sem ↓] Go.wp_at_zero Go.wp_at_succ

end Go.Proofs.Ytphabhddmdpkmaa

