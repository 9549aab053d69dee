/-
  Go's bits.Sub32 and bits.Div32, by contract.
-/
import Derived.Test.YtkjdoknmmiaapaaDoorNat1
import Derived.BigRegion
import Derived.RegionTactic
namespace Go.Proofs.YtkjdoknmmiaapaaDoor
open Go.RowKit

theorem borrow_bit (x y c d : Nat) (hx : x < 4294967296) (hy : y < 4294967296) (hc : c ≤ 1) (hd : d = (x + 8589934592 - y - c) % 4294967296) :
    (((4294967295 ^^^ x) &&& y) ||| ((4294967295 ^^^ (x ^^^ y)) &&& d)) / 2147483648 = if x < y + c then 1 else 0 := by
  have h1 : ((4294967295 ^^^ x) &&& y) < 2 ^ 32 := Nat.and_lt_two_pow _ (by omega)
  have h2 : ((4294967295 ^^^ (x ^^^ y)) &&& d) < 2 ^ 32 := Nat.and_lt_two_pow _ (by omega)
  have h3 := Nat.or_lt_two_pow h1 h2
  have hb : (((4294967295 ^^^ x) &&& y) ||| ((4294967295 ^^^ (x ^^^ y)) &&& d)).testBit 31 = decide (x < y + c) := by
    have t0 : Nat.testBit 4294967295 31 = true := by decide
    simp only [Nat.testBit_or, Nat.testBit_and, Nat.testBit_xor, t0]
    have tx : x.testBit 31 = decide (2147483648 ≤ x) := by rw [Nat.testBit_eq_decide_div_mod_eq]; congr 1; simp; omega
    have ty : y.testBit 31 = decide (2147483648 ≤ y) := by rw [Nat.testBit_eq_decide_div_mod_eq]; congr 1; simp; omega
    have td : d.testBit 31 = decide (2147483648 ≤ d) := by rw [Nat.testBit_eq_decide_div_mod_eq]; congr 1; simp; omega
    rw [tx, ty, td]
    by_cases a : 2147483648 ≤ x <;> by_cases b : 2147483648 ≤ y <;> by_cases e : 2147483648 ≤ d <;> simp [a, b, e] <;> omega
  rw [Nat.testBit_eq_decide_div_mod_eq] at hb
  generalize (((4294967295 ^^^ x) &&& y) ||| ((4294967295 ^^^ (x ^^^ y)) &&& d)) = n at *
  have hb' : (n / 2 ^ 31 % 2 = 1) ↔ x < y + c := by simpa using hb
  split
  · have := hb'.2 (by assumption); omega
  · have : ¬ (n / 2 ^ 31 % 2 = 1) := fun h => by have := hb'.1 h; omega
    omega

def subB (x y c : Nat) : Nat := if x < y + c then 1 else 0
def subD (x y c : Nat) : Nat := (x + 8589934592 - y - c) % 4294967296
theorem sub_spec {x y c : Nat} (hx : x < 4294967296) (hy : y < 4294967296) (hc : c ≤ 1) : subD x y c < 4294967296 ∧ subB x y c ≤ 1 ∧ x + subB x y c * 4294967296 = subD x y c + y + c := by
  unfold subB subD; split <;> omega

set_option maxHeartbeats 400000 in
set_option maxRecDepth 100000 in
theorem sub32_any (x y c : Nat) (hx : x < 4294967296) (hy : y < 4294967296) (hc : c ≤ 1) (w : World) :
    Calls Tryd.prog 101 #[.int .u32 x, .int .u32 y, .int .u32 c] w fun e w' => e = .returned (.tuple #[.int .u32 (subD x y c), .int .u32 (subB x y c)]) ∧ w = w' := by
  go_enter Tryd.func101, Tryd.ntmps101
  go_wp2
  go_ret2
  have e : ((x : Int) - y - c) % 4294967296 = ((subD x y c : Nat) : Int) := by unfold subD; omega
  have hM : IntKind.u32.max = ((4294967295 : Nat) : Int) := by decide
  have b1 := (sub_spec hx hy hc).1
  refine ⟨ret_two e ?_, rfl⟩
  show bits BinOp.or IntKind.u32 (bits BinOp.and IntKind.u32 (bits BinOp.xor IntKind.u32 IntKind.u32.max ↑x) ↑y)
        (bits BinOp.and IntKind.u32 (bits BinOp.xor IntKind.u32 IntKind.u32.max (bits BinOp.xor IntKind.u32 ↑x ↑y))
          (((x : Int) - y - c) % 4294967296)) / 2147483648 = _
  have p : (4294967296 : Nat) = 2 ^ 32 := by decide
  have c1 : 4294967295 ^^^ x < 4294967296 := by rw [p]; exact Nat.xor_lt_two_pow (by decide) (by omega)
  have c2 : x ^^^ y < 4294967296 := by rw [p]; exact Nat.xor_lt_two_pow (by omega) (by omega)
  have c3 : 4294967295 ^^^ (x ^^^ y) < 4294967296 := by rw [p]; exact Nat.xor_lt_two_pow (by decide) (by omega)
  have c4 : ((4294967295 ^^^ x) &&& y) < 4294967296 := by rw [p]; exact Nat.and_lt_two_pow _ (by omega)
  have c5 : ((4294967295 ^^^ (x ^^^ y)) &&& subD x y c) < 4294967296 := by rw [p]; exact Nat.and_lt_two_pow _ (by omega)
  rw [e, hM, u32_xor_nat _ _ (by omega) hx, u32_and_nat _ _ c1 hy, u32_xor_nat _ _ hx hy, u32_xor_nat _ _ (by omega) c2, u32_and_nat _ _ c3 b1, u32_or_nat _ _ c4 c5]
  have h := borrow_bit x y c (subD x y c) hx hy hc rfl
  have h2 : ((((4294967295 ^^^ x) &&& y ||| (4294967295 ^^^ (x ^^^ y)) &&& subD x y c : Nat) : Int) / 2147483648) = (((4294967295 ^^^ x) &&& y ||| (4294967295 ^^^ (x ^^^ y)) &&& subD x y c) / 2147483648 : Nat) := by omega
  rw [h2, h]; rfl

theorem div_lt_32 {h l d : Nat} (hh : h < d) (hl : l < 4294967296) : (h * 4294967296 + l) / d < 4294967296 := by
  rw [Nat.div_lt_iff_lt_mul (by omega)]
  have : (h + 1) * 4294967296 ≤ d * 4294967296 := Nat.mul_le_mul_right _ hh
  rw [Nat.mul_comm 4294967296 d]; omega

set_option maxHeartbeats 400000 in
set_option maxRecDepth 100000 in
theorem div32_any (h l d : Nat) (hh : h < d) (hl : l < 4294967296) (hd : d < 4294967296) (w : World) :
    Calls Tryd.prog 95 #[.int .u32 h, .int .u32 l, .int .u32 d] w fun e w' => e = .returned (.tuple #[.int .u32 (((h * 4294967296 + l) / d : Nat) : Int), .int .u32 (((h * 4294967296 + l) % d : Nat) : Int)]) ∧ ∃ n, w' = w.drewN n := by
  have h0' : ((d : Int) != 0) = true := by simp; omega
  have h1 : decide (d ≤ h) = false := by simp; omega
  have h2 : bits BinOp.or IntKind.u64 ((h : Int) * 4294967296) l = ((h * 4294967296 + l : Nat) : Int) := by
    have := u64_or_nat (h * 4294967296) l (by omega) (by omega)
    rw [nat_join 32 _ _ (by simp) (by omega)] at this
    rw [← this]; simp
  obtain ⟨z, hz⟩ : ∃ z, h * 4294967296 + l = z := ⟨_, rfl⟩
  have hq := div_lt_32 hh hl
  have hr := Nat.mod_lt (h * 4294967296 + l) (show 0 < d by omega)
  rw [hz] at h2 hq hr ⊢
  have HZ := Lib.hid hz
  clear hz hq hr
  have hd0 : 0 < d := by omega
  go_enter Tryd.func95, Tryd.ntmps95
  go_wp2
  go_quiet (fail)
  go_wp2
  go_ret2
  have hz := HZ.out
  have hq := div_lt_32 hh hl
  have hr := Nat.mod_lt (h * 4294967296 + l) (show 0 < d by omega)
  rw [hz] at hq hr
  have t1 : ((z : Int)).tdiv d = ((z / d : Nat) : Int) := by simp [Int.tdiv]
  have t2 : ((z : Int)).tmod d = ((z % d : Nat) : Int) := by simp [Int.tmod]
  refine ⟨ret_two ?_ ?_, _, rfl⟩
  · show IntKind.u64.wrap ((z : Int).tdiv d) % 4294967296 = _
    rw [t1, IntKind.wrap_u64]
    generalize z / d = q at hq ⊢
    omega
  · show (z : Int).tmod d % 4294967296 = _
    rw [t2]
    generalize z % d = q at hr ⊢
    omega

end Go.Proofs.YtkjdoknmmiaapaaDoor
