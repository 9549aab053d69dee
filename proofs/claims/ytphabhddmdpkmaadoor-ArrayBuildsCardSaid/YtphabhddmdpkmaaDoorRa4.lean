/-
  Package ratio: Limited, Limbs, Int, Cmp, by contract.
  Package ratio: By, plusOne, by contract.
  Package ratio: Num, by contract.
  Package ratio: shifted (of 0), read (of no more than 2000 digits), by contract.
-/
import Derived.Test.YtphabhddmdpkmaaDoorRa1
import Derived.Test.YtphabhddmdpkmaaDoorK10
namespace Go.Proofs.YtphabhddmdpkmaaDoor
open Go.RowKit
attribute [local go_sem ↓] Go.wp_at_zero Go.wp_at_succ

set_option maxHeartbeats 1600000 in
set_option maxRecDepth 100000 in
theorem ratInt_any (a : Option Addr) (n c : Nat) (m : Bool) (a2 : Option Addr) (n2 c2 : Nat) (P : Int) (Q : Nat) (w : World) (h : RatAt w a n c m a2 n2 c2 P Q) (hQ : 0 < Q) :
    Calls Tryd.prog 38 #[.agg #[.slice a n c, .bool m, .slice a2 n2 c2]] w fun e w' => e = .returned (.tuple #[.int .i64 (if Q = 1 then fitI P else 0), .bool (decide (Q = 1) && fitB P)]) ∧ Below w.heap.size w w' := by
  have B0 := ((Bag.start w).rat h).box3 (.slice a n c) (.bool m) (.slice a2 n2 c2) 32
  have IW := Lib.hid (fun wz hz => isWhole_any a n c m a2 n2 c2 P Q wz hz hQ)
  have IN := Lib.hid (fun wz (h : IntAt wz a n c m P) => int_any a n c m P wz h)
  have BB := Lib.hid B0
  by_cases h1 : Q = 1
  · rw [decide_eq_true h1] at IW ⊢
    rw [if_pos h1, Bool.true_and]
    generalize fitI P = x at *
    generalize fitB P = y at *
    clear h hQ B0 h1
    go_enter Tryd.func38, Tryd.ntmps38
    go_wp2_with (first
      | (go_at_call 51; (with_reducible refine (IW.out _ BB.out.now.2.1).mono ?_); rintro e w2 ⟨rfl, hb2⟩; have BB := Lib.hid (BB.out.go hb2); clear hb2; have q0 := BB.out.now.1.cell; have q1 := BB.out.now.1.cell1)
      | (go_at_call 52; (with_reducible refine (IN.out _ BB.out.now.2.1.int).mono ?_); rintro e w3 ⟨rfl, hb3⟩; have BB := Lib.hid (BB.out.go hb3); clear hb3))
    go_ret2
    exact ⟨rfl, BB.out.below⟩
  · rw [decide_eq_false h1] at IW ⊢
    rw [if_neg h1, Bool.false_and]
    clear h hQ B0 h1 IN
    go_enter Tryd.func38, Tryd.ntmps38
    go_wp2_with (first
      | (go_at_call 51; (with_reducible refine (IW.out _ BB.out.now.2.1).mono ?_); rintro e w2 ⟨rfl, hb2⟩; have BB := Lib.hid (BB.out.go hb2); clear hb2))
    go_ret2
    exact ⟨rfl, BB.out.below⟩

def lbs (N : Nat) : Nat := (nbits N + 31) / 32
end Go.Proofs.YtphabhddmdpkmaaDoor

namespace Go.Proofs.YtphabhddmdpkmaaDoor
open Go.RowKit
attribute [local go_sem ↓] Go.wp_at_zero Go.wp_at_succ

theorem mul_lt32 {X Y K : Nat} (h : X < 4294967296 ^ K) (g : Y < 4294967296 ^ K) : X * Y < 4294967296 ^ (K + K) := by rw [Nat.pow_add]; exact Nat.mul_lt_mul'' h g
theorem mulZ_lt32 {X : Int} {Y K : Nat} (h : X.natAbs < 4294967296 ^ K) (g : Y < 4294967296 ^ K) : (X * Y).natAbs < 4294967296 ^ (K + K) := by
  rw [Int.natAbs_mul, Int.natAbs_natCast]; exact mul_lt32 h g

end Go.Proofs.YtphabhddmdpkmaaDoor

namespace Go.Proofs.YtphabhddmdpkmaaDoor
open Go.RowKit
attribute [local go_sem ↓] Go.wp_at_zero Go.wp_at_succ

/-- A number as digits. -/
def NumTold (w w' : World) (e : Ending) (P : Int) (Q : Nat) : Prop := e = .returned (.agg #[.bool (rB P), .string (rS P), .string (str (dec Q))]) ∧ Below w.heap.size w w'
theorem NumTold.done {w w2 : World} {k : Nat} (P : Int) (Q : Nat) (hb : Below w.heap.size w w2) (hk : w.heap.size ≤ k) {b : Bool} {s t : ByteArray} (h1 : rB P = b) (h2 : rS P = s) (h3 : str (dec Q) = t) :
    NumTold w (((w2.setCell ⟨k, 0, none⟩ (.bool b)).setCell ⟨k, 1, none⟩ (.string s)).setCell ⟨k, 2, none⟩ (.string t)) (.returned (.agg #[.bool b, .string s, .string t])) P Q :=
  ⟨by rw [h1, h2, h3], ((hb.setCell hk _).setCell hk _).setCell hk _⟩

set_option maxHeartbeats 3200000 in
set_option maxRecDepth 100000 in
theorem num_any (a : Option Addr) (n c : Nat) (m : Bool) (a2 : Option Addr) (n2 c2 : Nat) (P : Int) (Q : Nat) (w : World) (h : RatAt w a n c m a2 n2 c2 P Q) (hQ : 0 < Q)
    (K : Nat) (hK : K ≤ 100000) (h1 : P.natAbs < 4294967296 ^ K) (h2 : Q < 4294967296 ^ K) :
    Calls Tryd.prog 34 #[.agg #[.slice a n c, .bool m, .slice a2 n2 c2]] w fun e w' => NumTold w w' e P Q := by
  have B0 := (((Bag.start w).rat h).box3 (.slice a n c) (.bool m) (.slice a2 n2 c2) 32).box3 (.bool false) (.string ⟨#[]⟩) (.string ⟨#[]⟩) 68
  simp only [World.size_alloc] at B0
  have SG := Lib.hid (fun wz hz => ratSign_any a n c m a2 n2 c2 P Q wz hz)
  have BT := Lib.hid (fun wz hz => bot_any a n c m a2 n2 c2 P Q wz hz hQ)
  have X1 : Hid (∀ wz, NatIs wz (.agg #[.slice a n c]) P.natAbs → Calls Tryd.prog 49 #[.agg #[.slice a n c]] wz fun e w' => e = .returned (.string (rS P)) ∧ Below wz.heap.size wz w') := fun wz h => text_any _ P.natAbs wz h K hK h1
  have X2 := Lib.hid (fun a n c wz (h : NatIs wz (.agg #[.slice a n c]) Q) => text_any (.agg #[.slice a n c]) Q wz h K hK h2)
  have BB := Lib.hid B0.drew
  have he : w.heap.size ≠ w.heap.size + 1 := by omega
  have ND := Lib.hid (fun w2 b s t (hb : Below w.heap.size w w2) (h1 : rB P = b) (h2 : rS P = s) (h3 : str (dec Q) = t) => NumTold.done (k := w.heap.size + 1) P Q hb (by omega) h1 h2 h3)
  obtain ⟨s, hs⟩ : ∃ s, rS P = s := ⟨_, rfl⟩
  obtain ⟨t, ht⟩ : ∃ t, str (dec Q) = t := ⟨_, rfl⟩
  rw [hs] at X1
  rw [ht] at X2
  have HS0 := Lib.hid hs
  have HT0 := Lib.hid ht
  have hv : ∃ x b, sgnI P = x ∧ rB P = b ∧ ((x = -1 ∧ b = true) ∨ (x = 0 ∧ b = false) ∨ (x = 1 ∧ b = false)) := by
    refine ⟨_, _, rfl, rfl, ?_⟩
    unfold sgnI rB
    by_cases e1 : P < 0
    · rw [if_pos e1, decide_eq_true e1]; exact .inl ⟨rfl, rfl⟩
    · rw [if_neg e1, decide_eq_false e1]
      by_cases e2 : P = 0
      · rw [if_pos e2]; exact .inr (.inl ⟨rfl, rfl⟩)
      · rw [if_neg e2]; exact .inr (.inr ⟨rfl, rfl⟩)
  obtain ⟨x, b, hx, hb0, hxb⟩ := hv
  rw [hx] at SG
  have HB0 := Lib.hid hb0
  clear h hQ B0 h1 h2 hs ht hx hb0
  rcases hxb with ⟨rfl, rfl⟩ | ⟨rfl, rfl⟩ | ⟨rfl, rfl⟩
  · go_enter Tryd.func34, Tryd.ntmps34
    go_wp2_with fail
    go_region_held3 (fun y => y.cell? ⟨w.heap.size, 0, none⟩ = some (.slice a n c) ∧ y.cell? ⟨w.heap.size, 1, none⟩ = some (.bool m) ∧ y.cell? ⟨w.heap.size, 2, none⟩ = some (.slice a2 n2 c2))
      (first
        | (exact ⟨z0.cell, z0.cell1, z0.cell2⟩)
        | (exact ⟨BB.out.now.2.1.cell, BB.out.now.2.1.cell1, BB.out.now.2.1.cell2⟩))
      (first
        | (go_at_call 48; (with_reducible refine (SG.out _ BB.out.now.2.2.1).mono ?_); rintro e w2 ⟨rfl, hb2⟩; have BB := Lib.hid (BB.out.go hb2))
        | (go_at_call 49; (with_reducible refine (X1.out _ BB.out.now.2.2.1.int.nt).mono ?_); rintro e w3 ⟨rfl, hb3⟩; have BB := Lib.hid (BB.out.go hb3))
        | (go_at_call 42; (with_reducible refine (BT.out _ BB.out.now.2.2.1).mono ?_); rintro e w4 ⟨a3, n3, c3, rfl, hn3, hb4⟩; have BB := Lib.hid (BB.out.go hb4))
        | (go_at_call 49; (with_reducible refine (X2.out _ _ _ _ hn3).mono ?_); rintro e w5 ⟨rfl, hb5⟩; have BB := Lib.hid (BB.out.go hb5); have hs := BB.out.now.1; have r0 := hs.cell; have r1 := hs.cell1; have r2 := hs.cell2; have g0 := hs.free; have g1 := hs.free1; have g2 := hs.free2; have z0 := BB.out.now.2.1.set3o he (.bool true) (.string s) (.string t); have HS := hs.set (.bool true) (.string s) (.string t); have HE := Lib.hid (ND.out _ _ _ _ BB.out.below HB0.out HS0.out HT0.out)))
    go_wp2
    exact bodyPost_ret (v := .agg #[.bool true, .string s, .string t]) (by simp [results, Tryd.results34, go_sem, HS]) rfl HE.out
  · go_enter Tryd.func34, Tryd.ntmps34
    go_wp2_with fail
    go_region_held3 (fun y => y.cell? ⟨w.heap.size, 0, none⟩ = some (.slice a n c) ∧ y.cell? ⟨w.heap.size, 1, none⟩ = some (.bool m) ∧ y.cell? ⟨w.heap.size, 2, none⟩ = some (.slice a2 n2 c2))
      (first
        | (exact ⟨z0.cell, z0.cell1, z0.cell2⟩)
        | (exact ⟨BB.out.now.2.1.cell, BB.out.now.2.1.cell1, BB.out.now.2.1.cell2⟩))
      (first
        | (go_at_call 48; (with_reducible refine (SG.out _ BB.out.now.2.2.1).mono ?_); rintro e w2 ⟨rfl, hb2⟩; have BB := Lib.hid (BB.out.go hb2))
        | (go_at_call 49; (with_reducible refine (X1.out _ BB.out.now.2.2.1.int.nt).mono ?_); rintro e w3 ⟨rfl, hb3⟩; have BB := Lib.hid (BB.out.go hb3))
        | (go_at_call 42; (with_reducible refine (BT.out _ BB.out.now.2.2.1).mono ?_); rintro e w4 ⟨a3, n3, c3, rfl, hn3, hb4⟩; have BB := Lib.hid (BB.out.go hb4))
        | (go_at_call 49; (with_reducible refine (X2.out _ _ _ _ hn3).mono ?_); rintro e w5 ⟨rfl, hb5⟩; have BB := Lib.hid (BB.out.go hb5); have hs := BB.out.now.1; have r0 := hs.cell; have r1 := hs.cell1; have r2 := hs.cell2; have g0 := hs.free; have g1 := hs.free1; have g2 := hs.free2; have z0 := BB.out.now.2.1.set3o he (.bool false) (.string s) (.string t); have HS := hs.set (.bool false) (.string s) (.string t); have HE := Lib.hid (ND.out _ _ _ _ BB.out.below HB0.out HS0.out HT0.out)))
    go_wp2
    exact bodyPost_ret (v := .agg #[.bool false, .string s, .string t]) (by simp [results, Tryd.results34, go_sem, HS]) rfl HE.out
  · go_enter Tryd.func34, Tryd.ntmps34
    go_wp2_with fail
    go_region_held3 (fun y => y.cell? ⟨w.heap.size, 0, none⟩ = some (.slice a n c) ∧ y.cell? ⟨w.heap.size, 1, none⟩ = some (.bool m) ∧ y.cell? ⟨w.heap.size, 2, none⟩ = some (.slice a2 n2 c2))
      (first
        | (exact ⟨z0.cell, z0.cell1, z0.cell2⟩)
        | (exact ⟨BB.out.now.2.1.cell, BB.out.now.2.1.cell1, BB.out.now.2.1.cell2⟩))
      (first
        | (go_at_call 48; (with_reducible refine (SG.out _ BB.out.now.2.2.1).mono ?_); rintro e w2 ⟨rfl, hb2⟩; have BB := Lib.hid (BB.out.go hb2))
        | (go_at_call 49; (with_reducible refine (X1.out _ BB.out.now.2.2.1.int.nt).mono ?_); rintro e w3 ⟨rfl, hb3⟩; have BB := Lib.hid (BB.out.go hb3))
        | (go_at_call 42; (with_reducible refine (BT.out _ BB.out.now.2.2.1).mono ?_); rintro e w4 ⟨a3, n3, c3, rfl, hn3, hb4⟩; have BB := Lib.hid (BB.out.go hb4))
        | (go_at_call 49; (with_reducible refine (X2.out _ _ _ _ hn3).mono ?_); rintro e w5 ⟨rfl, hb5⟩; have BB := Lib.hid (BB.out.go hb5); have hs := BB.out.now.1; have r0 := hs.cell; have r1 := hs.cell1; have r2 := hs.cell2; have g0 := hs.free; have g1 := hs.free1; have g2 := hs.free2; have z0 := BB.out.now.2.1.set3o he (.bool false) (.string s) (.string t); have HS := hs.set (.bool false) (.string s) (.string t); have HE := Lib.hid (ND.out _ _ _ _ BB.out.below HB0.out HS0.out HT0.out)))
    go_wp2
    exact bodyPost_ret (v := .agg #[.bool false, .string s, .string t]) (by simp [results, Tryd.results34, go_sem, HS]) rfl HE.out

end Go.Proofs.YtphabhddmdpkmaaDoor

namespace Go.Proofs.YtphabhddmdpkmaaDoor
open Go.RowKit
attribute [local go_sem ↓] Go.wp_at_zero Go.wp_at_succ

end Go.Proofs.YtphabhddmdpkmaaDoor

