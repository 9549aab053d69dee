/-
  Package ratio: plusOne, by contract.
  Package ratio: Plus, by contract.
  Package ratio: Times, by contract.
-/
import Derived.Test.YtgpcfncolhmgfaaGreatDoorRa4
import Derived.Test.YtgpcfncolhmgfaaGreatDoorCap
namespace Go.Proofs.YtgpcfncolhmgfaaGreatDoor
open Go.RowKit
attribute [local go_sem ↓] Go.wp_at_zero Go.wp_at_succ

/-- The sum. -/
def plP (P : Int) (Q : Nat) (P' : Int) (Q' : Nat) : Int := loP (P * Q' + P' * Q) (Q * Q')
def plQ (P : Int) (Q : Nat) (P' : Int) (Q' : Nat) : Nat := loQ (P * Q' + P' * Q) (Q * Q')
theorem plP_one (P P' : Int) : plP P 1 P' 1 = P + P' ∧ plQ P 1 P' 1 = 1 := by
  unfold plP plQ
  have := lo_one (P := P * ((1 : Nat) : Int) + P' * ((1 : Nat) : Int)) (Q := 1 * 1) (Nat.gcd_one_right _)
  rw [this.1, this.2, show ((1 : Nat) : Int) = 1 from rfl, Int.mul_one, Int.mul_one]
  exact ⟨rfl, rfl⟩

theorem IntAt.set2b {w : World} {k : Nat} {a0 : Option Addr} {n0 c0 : Nat} {m0 : Bool} {a : Option Addr} {n c : Nat} {m : Bool} {Z : Int} (q : IntAt w a n c m Z) (h : Slot2 w k (.slice a0 n0 c0) (.bool m0)) (u v : Value) :
    IntAt ((w.setCell ⟨k, 0, none⟩ u).setCell ⟨k, 1, none⟩ v) a n c m Z :=
  ⟨q.1, q.2.set2b h (fun _ _ h => by cases h) (fun _ _ h => by cases h) _ _⟩

end Go.Proofs.YtgpcfncolhmgfaaGreatDoor

namespace Go.Proofs.YtgpcfncolhmgfaaGreatDoor
open Go.RowKit
attribute [local go_sem ↓] Go.wp_at_zero Go.wp_at_succ

/-- A row of numbers. -/
def RatsAt (w : World) (sa : Option Addr) (n c : Nat) (fP : Nat → Int) (fQ : Nat → Nat) : Prop := n ≤ c ∧ n ≤ 1000 ∧ (n = 0 ∨ ∃ b off, sa = some ⟨b, off, none⟩ ∧ b < w.heap.size ∧
  ∀ j, j < n → ∃ a' n' c' m' a2' n2' c2', w.cell? ⟨b, off + j * 3, none⟩ = some (.slice a' n' c') ∧ w.cell? ⟨b, off + j * 3 + 1, none⟩ = some (.bool m') ∧ w.cell? ⟨b, off + j * 3 + 2, none⟩ = some (.slice a2' n2' c2') ∧ RatAt w a' n' c' m' a2' n2' c2' (fP j) (fQ j))
theorem RatsAt.below {w w' : World} {sa : Option Addr} {n c : Nat} {fP : Nat → Int} {fQ : Nat → Nat} (h : RatsAt w sa n c fP fQ) (hb : Below w.heap.size w w') : RatsAt w' sa n c fP fQ := by
  obtain ⟨h0, h1, h2⟩ := h
  refine ⟨h0, h1, ?_⟩
  rcases h2 with h2 | ⟨b, off, rfl, hl, hc⟩
  · exact .inl h2
  · refine .inr ⟨b, off, rfl, Nat.lt_of_lt_of_le hl hb.size, fun j hj => ?_⟩
    obtain ⟨a', n', c', m', a2', n2', c2', e1, e2, e3, hr⟩ := hc j hj
    exact ⟨a', n', c', m', a2', n2', c2', (hb.cell (p := ⟨b, _, none⟩) hl).trans e1, (hb.cell (p := ⟨b, _, none⟩) hl).trans e2, (hb.cell (p := ⟨b, _, none⟩) hl).trans e3, hr.below hb⟩
theorem RatsAt.get {w : World} {sa : Option Addr} {n c : Nat} {fP : Nat → Int} {fQ : Nat → Nat} (h : RatsAt w sa n c fP fQ) {j : Nat} (hj : j < n) :
    ∃ b off a' n' c' m' a2' n2' c2', sa = some ⟨b, off, none⟩ ∧ b < w.heap.size ∧ w.cell? ⟨b, off + j * 3, none⟩ = some (.slice a' n' c') ∧ w.cell? ⟨b, off + j * 3 + 1, none⟩ = some (.bool m') ∧ w.cell? ⟨b, off + j * 3 + 2, none⟩ = some (.slice a2' n2' c2') ∧ RatAt w a' n' c' m' a2' n2' c2' (fP j) (fQ j) := by
  obtain ⟨h0, h1, h2⟩ := h
  rcases h2 with h2 | ⟨b, off, rfl, hl, hc⟩
  · omega
  · obtain ⟨a', n', c', m', a2', n2', c2', e⟩ := hc j hj
    exact ⟨b, off, a', n', c', m', a2', n2', c2', rfl, hl, e⟩
theorem RatsAt.nought (w : World) (fP : Nat → Int) (fQ : Nat → Nat) : RatsAt w none 0 0 fP fQ := ⟨Nat.le_refl _, by omega, .inl rfl⟩
/-- A row of one number, made some steps ago. -/
theorem RatsAt.old1 {wk w : World} {k : Nat} {a : Option Addr} {n c : Nat} {m : Bool} {a2 : Option Addr} {n2 c2 : Nat} {P : Int} {Q : Nat} {t : TypeId}
    (hb : Below (wk.alloc (.cells #[.slice a n c, .bool m, .slice a2 n2 c2] t)).heap.size (wk.alloc (.cells #[.slice a n c, .bool m, .slice a2 n2 c2] t)) w)
    (hk : wk.heap.size = k) (h : RatAt w a n c m a2 n2 c2 P Q) : RatsAt w (some ⟨k, 0, none⟩) 1 1 (fun _ => P) (fun _ => Q) := by
  subst hk
  have hs := (Slot3.new wk (.slice a n c) (.bool m) (.slice a2 n2 c2) t).below hb
  refine ⟨Nat.le_refl _, by omega, .inr ⟨_, 0, rfl, hs.lt, fun j hj => ?_⟩⟩
  obtain rfl : j = 0 := by omega
  exact ⟨a, n, c, m, a2, n2, c2, hs.cell, hs.cell1, hs.cell2, h⟩

/-- The sum of the first ones. -/
def sumS (P : Int) (Q : Nat) (fP : Nat → Int) (fQ : Nat → Nat) : Nat → Int × Nat
  | 0 => (P, Q)
  | k + 1 => (plP (sumS P Q fP fQ k).1 (sumS P Q fP fQ k).2 (fP k) (fQ k), plQ (sumS P Q fP fQ k).1 (sumS P Q fP fQ k).2 (fP k) (fQ k))
theorem sumS_pos {P : Int} {Q : Nat} {fP : Nat → Int} {fQ : Nat → Nat} (hQ : 0 < Q) : ∀ k, (∀ j, j < k → 0 < fQ j) → 0 < (sumS P Q fP fQ k).2
  | 0, _ => hQ
  | k + 1, h => loQ_pos _ (Nat.mul_pos (sumS_pos hQ k fun j hj => h j (by omega)) (h k (by omega)))

def RPL (w wr : World) (V : Int × Nat) : Prop := Below w.heap.size w wr ∧ Slot3 wr (w.heap.size + 1) (.slice none 0 0) (.bool false) (.slice none 0 0) ∧ ∃ a n c m a2 n2 c2, Slot3 wr (w.heap.size + 1 + 1) (.slice a n c) (.bool m) (.slice a2 n2 c2) ∧ RatAt wr a n c m a2 n2 c2 V.1 V.2

end Go.Proofs.YtgpcfncolhmgfaaGreatDoor

namespace Go.Proofs.YtgpcfncolhmgfaaGreatDoor
open Go.RowKit
attribute [local go_sem ↓] Go.wp_at_zero Go.wp_at_succ

/-- The product. -/
def tmP (P : Int) (Q : Nat) (P' : Int) (Q' : Nat) : Int := loP (P * P') (Q * Q')
def tmQ (P : Int) (Q : Nat) (P' : Int) (Q' : Nat) : Nat := loQ (P * P') (Q * Q')
/-- The product of the first ones. -/
def mulS (P : Int) (Q : Nat) (fP : Nat → Int) (fQ : Nat → Nat) : Nat → Int × Nat
  | 0 => (P, Q)
  | k + 1 => (tmP (mulS P Q fP fQ k).1 (mulS P Q fP fQ k).2 (fP k) (fQ k), tmQ (mulS P Q fP fQ k).1 (mulS P Q fP fQ k).2 (fP k) (fQ k))
theorem mulS_pos {P : Int} {Q : Nat} {fP : Nat → Int} {fQ : Nat → Nat} (hQ : 0 < Q) : ∀ k, (∀ j, j < k → 0 < fQ j) → 0 < (mulS P Q fP fQ k).2
  | 0, _ => hQ
  | k + 1, h => loQ_pos _ (Nat.mul_pos (mulS_pos hQ k fun j hj => h j (by omega)) (h k (by omega)))
theorem mulI_lt32 {X Y : Int} {K : Nat} (h : X.natAbs < 4294967296 ^ K) (g : Y.natAbs < 4294967296 ^ K) : (X * Y).natAbs < 4294967296 ^ (K + K) := by
  rw [Int.natAbs_mul]; exact mul_lt32 h g

theorem lt32_up {X K L : Nat} (h : X < 4294967296 ^ K) (hl : K ≤ L) : X < 4294967296 ^ L := Nat.lt_of_lt_of_le h (Nat.pow_le_pow_right (by omega) hl)
theorem tmQ_pos (P : Int) {Q : Nat} (F : Int) {G : Nat} (h : 0 < Q) (g : 0 < G) : 0 < tmQ P Q F G := loQ_pos _ (Nat.mul_pos h g)
theorem nwQ_pos (P : Int) {Y : Int} (h : Y ≠ 0) : 0 < nwQ P Y := loQ_pos _ (by omega)

end Go.Proofs.YtgpcfncolhmgfaaGreatDoor

